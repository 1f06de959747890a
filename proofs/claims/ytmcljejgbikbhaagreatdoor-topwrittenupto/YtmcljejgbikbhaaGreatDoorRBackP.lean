/-
 Files of rules: two files one behind the other.
-/
import Derived.Test.YtmcljejgbikbhaaGreatDoorTIn
import Derived.Test.YtmcljejgbikbhaaGreatDoorRPos
namespace Go.Proofs.YtmcljejgbikbhaaGreatDoor.R
open S (Sp)
open T (Out see skipW cut In zue)
section
variable {l L M:List Int} {k:Nat}
def Ok (l M:List Int) (q:Nat):Prop:=q<l.length∨M= []
def Ok2 (l M:List Int) (q:Nat):Prop:=Ok l M q/\(see l q=36->Ok l M (q+1))
end
end Go.Proofs.YtmcljejgbikbhaaGreatDoor.R
namespace Go.Proofs.YtmcljejgbikbhaaGreatDoor.R
open S (Sp)
open T (Out see skipW cut In zue)
section
variable {l L M:List Int} {k:Nat}
def Ok3 (l M:List Int) (q:Nat):Prop:=(q<l.length/\see l q≠36)∨M= []
end
/-! files -/
/-! what is read is right -/
def Bare (p:Part):Prop:=bareP p=p
theorem zkm {l:List Int}:∀(f:Nat) (xs ys:List Part) (p q:Nat),partsN f l xs p= .ok ys q->(∀x∈xs,partE x=0)->∀x∈ys,partE x=0:=by
 intro f
 induction f with
 | zero=>intro xs ys p q h;rw[partsN] at h;cases h
 | succ f ih =>
  intro xs ys p q h hx;rw[partsN] at h;split at h
  ·cases h;exact hx
  ·split at h
   ·cases h
   ·cases h2:ended l p with
    | bad e r=>rw[h2] at h;cases h
    | ok x r =>
     rw[h2] at h;simp only at h;refine ih _ _ _ _ h fun y hy=> ?_
     rcases List.mem_append.1 hy with hy | hy
     ·exact hx y hy
     ·rw[List.mem_singleton] at hy;subst hy;unfold ended at h2;cases h3:part l p with
      | bad e s=>rw[h3] at h2;cases h2
      | ok z s =>
       rw[h3] at h2;simp only at h2;split at h2
       ·cases h2
       ·split at h2
        ·cases h2
        ·rename_i h4;cases h2;exact Classical.byContradiction fun hh=>h4 hh
end Go.Proofs.YtmcljejgbikbhaaGreatDoor.R
namespace Go.Proofs.YtmcljejgbikbhaaGreatDoor.R
open S (Sp)
open T (Out see skipW cut)
def AllBare (xs:List Item):Prop:=∀x∈xs,bareI x=x
theorem zju (r:Int):bareI (runeI r)=runeI r:=by simp[bareI,runeI]
theorem zt6 (s:List Sp):bareI (setI s)=setI s:=by simp[bareI,setI]
theorem zt5 (n:ByteArray):bareI (varI n)=varI n:=by simp[bareI,varI]
theorem AllBare.map {xs:List Item}(h:AllBare xs):xs.map bareI=xs:=(List.map_congr_left h).trans (List.map_id' _)
theorem AllBare.nil:AllBare []:=fun x hx=>by cases hx
theorem zqz {l:List Int}{p q:Nat}{ys:List Item}(h:item l p= .ok (some ys) q):AllBare ys:=by
 unfold item at h;split at h
 ·cases h1:T.setN 20 l p with
  | bad e r=>rw[h1] at h;cases h
  | ok s r=>rw[h1] at h;cases h;intro x hx;rw[List.mem_singleton] at hx;subst hx;exact zt6 _
 ·split at h
  ·cases h1:varAt l p with
   | bad e r=>rw[h1] at h;cases h
   | ok s r=>rw[h1] at h;cases h;intro x hx;rw[List.mem_singleton] at hx;subst hx;exact zt5 _
  ·split at h
   ·split at h
    ·cases h;intro x hx;obtain⟨r,_,rfl⟩:=List.mem_map.1 hx;exact zju _
    ·cases h
   ·split at h
    ·cases h1:T.chr l p with
     | bad e r=>rw[h1] at h;cases h
     | ok s r =>
      rw[h1] at h;simp only at h;split at h
      ·cases h;intro x hx;rw[List.mem_singleton] at hx;subst hx;exact zju _
      ·cases h
    ·cases h
theorem zku {l:List Int}:∀(f:Nat) (xs:List Item) (c:Int) (p q:Nat) (r:List Item×Int),itemsN f l xs c p= .ok r q->AllBare xs->AllBare r.1:=by
 intro f
 induction f with
 | zero=>intro xs c p q r h;rw[itemsN] at h;cases h
 | succ f ih =>
  intro xs c p q r h hx;rw[itemsN] at h;split at h
  ·split at h
   ·cases h
   ·exact ih _ _ _ _ _ h hx
  ·cases h1:item l (gap l p) with
   | bad e s=>rw[h1] at h;cases h
   | ok o s =>
    rw[h1] at h;cases o with
    | none=>simp only at h;cases h;exact hx
    | some ys =>
     simp only at h;split at h
     ·cases h
     ·refine ih _ _ _ _ _ h fun x hm=> ?_
      rcases List.mem_append.1 hm with hm | hm
      ·exact hx x hm
      ·exact zqz h1 x hm
theorem zeu {l:List Int}{p q:Nat}{r:List Item×Int}(h:items l p= .ok r q):AllBare r.1:=zku _ _ _ _ _ _ h AllBare.nil
def SBare (s:Side):Prop:=AllBare s.before/\AllBare s.source/\AllBare s.after
theorem SBare.eq {s:Side}(h:SBare s):bareS s=s:=by
 unfold bareS;rw[h.1.map,h.2.1.map,h.2.2.map]
theorem zim {l:List Int}{s t:Side}{p q:Nat}(h:sideTail l s p= .ok t q)(hs:SBare s):SBare t:=by
 unfold sideTail at h;split at h
 ·cases h1:items l (p+1) with
  | bad e r=>rw[h1] at h;cases h
  | ok yc r =>
   rw[h1] at h;have hb:=zeu h1;obtain⟨ys,c⟩:=yc;simp only at h;split at h
   ·cases h
   ·split at h
    ·cases h;exact⟨hs.1,hs.2.1,hb⟩
    ·cases h;exact⟨hs.1,hs.2.1,hb⟩
 ·cases h;exact hs
theorem zis {l:List Int}{t:Side}{p q:Nat}(h:side l p= .ok t q):SBare t:=by
 unfold side at h;simp only at h;cases h1:items l (if decide (see l (gap l p)=94)=true then gap l p+1 else gap l p) with
 | bad e r=>rw[h1] at h;cases h
 | ok xc r =>
  rw[h1] at h;have hb:=zeu h1;obtain⟨xs,c⟩:=xc;simp only at h;split at h
  ·split at h
   ·cases h
   ·split at h
    ·cases h
    ·cases h2:items l (r+1) with
     | bad e s=>rw[h2] at h;cases h
     | ok yd s =>
      rw[h2] at h;have hb2:=zeu h2;obtain⟨ys,d⟩:=yd;exact zim h ⟨hb,hb2,AllBare.nil⟩
  ·exact zim h ⟨AllBare.nil,hb,AllBare.nil⟩
theorem ziv {l:List Int}{x:Part}{p q:Nat}(h:rule l p= .ok x q):bareP x=x:=by
 unfold rule at h;cases h1:side l p with
 | bad e r=>rw[h1] at h;cases h
 | ok a r =>
  rw[h1] at h;simp only at h;cases h2:dirAt l r with
  | bad e s=>rw[h2] at h;cases h
  | ok d s =>
   rw[h2] at h;simp only at h;cases h3:side l s with
   | bad e t=>rw[h3] at h;cases h
   | ok b t =>
    rw[h3] at h;cases h;have ha:=(zis h1).eq;have hb:=(zis h3).eq;unfold bareP;simp[ha,hb]
theorem zqf {l:List Int}{x:Part}{p q:Nat}(h:part l p= .ok x q):bareP x=x:=by
 unfold part at h;split at h
 ·split at h
  ·cases h
  ·unfold wholeAt at h;split at h
   ·cases h1:T.setN 20 l (gap l (p+2)) with
    | bad e r=>rw[h1] at h;cases h
    | ok s r=>rw[h1] at h;cases h;simp[bareP]
   ·split at h
    ·cases h;simp[bareP]
    ·cases h
 ·split at h
  ·cases h1:varAt l p with
   | bad e r=>rw[h1] at h;cases h
   | ok n r =>
    rw[h1] at h;simp only at h;split at h
    ·cases h2:T.setN 20 l (gap l (gap l r+1)) with
     | bad e s=>rw[h2] at h;cases h
     | ok s t=>rw[h2] at h;cases h;simp[bareP]
    ·exact ziv h
  ·exact ziv h
theorem zni {l:List Int}:∀(f:Nat) (xs ys:List Part) (p q:Nat),partsN f l xs p= .ok ys q->(∀x∈xs,bareP x=x)->∀x∈ys,bareP x=x:=by
 intro f
 induction f with
 | zero=>intro xs ys p q h;rw[partsN] at h;cases h
 | succ f ih =>
  intro xs ys p q h hx;rw[partsN] at h;split at h
  ·cases h;exact hx
  ·split at h
   ·cases h
   ·cases h2:ended l p with
    | bad e r=>rw[h2] at h;cases h
    | ok x r =>
     rw[h2] at h;simp only at h;refine ih _ _ _ _ h fun y hy=> ?_
     rcases List.mem_append.1 hy with hy | hy
     ·exact hx y hy
     ·rw[List.mem_singleton] at hy;subst hy;unfold ended at h2;cases h3:part l p with
      | bad e s=>rw[h3] at h2;cases h2
      | ok z s =>
       rw[h3] at h2;simp only at h2;split at h2
       ·cases h2
       ·split at h2
        ·cases h2
        ·cases h2;exact zqf h3
theorem zgx {l:List Int}{ys:List Part}{q:Nat}(h:read l= .ok ys q):∀x∈ys,partE x=0/\bareP x=x:=by
 unfold read at h;split at h
 ·cases h
 ·intro x hx;exact⟨zkm _ _ _ _ _ h (fun y hy=>by cases hy) x hx,zni _ _ _ _ _ h (fun y hy=>by cases hy) x hx⟩
end Go.Proofs.YtmcljejgbikbhaaGreatDoor.R
namespace Go.Proofs.YtmcljejgbikbhaaGreatDoor
open Go.RowKit
set_option maxRecDepth 20000
set_option linter.unusedSimpArgs false
set_option linter.unusedVariables false
theorem R.zbc {l:List R.Part}(hl:l.length<=200)(h:∀p∈l,R.partE p=0):R.wrong l=(0,0):=by
 unfold R.wrong;rw[if_neg (by omega)]
 have key:∀(l:List R.Part) (i:Nat),(∀p∈l,R.partE p=0)->R.firstW i l=(0,0):=by
  intro l
  induction l with
  | nil=>intro i _;rfl
  | cons p l ih=>intro i h;rw[R.firstW,if_pos (h p List.mem_cons_self)];exact ih _ fun q hq=>h q (List.mem_cons_of_mem _ hq)
 exact key l 0 h
theorem R.zp6 {l:List R.Part}(h:R.wrong l=(0,0)):R.printV l= .tuple #[.string ⟨(R.printB l).toArray⟩,.agg #[.int .i64 0,.int .i64 0]]:=by
 unfold R.printV;rw[h];simp
theorem R.zpf {l:List R.Part}(hl:l.length<=200)(h:∀p∈l,R.partE p=0):(⟨(R.printB l).toArray⟩:ByteArray).size<=1099511627776:=by
 have h1:=zgz h;have h2:(⟨(R.printB l).toArray⟩:ByteArray).size=(R.printB l).length:=by simp[ByteArray.size]
 have h3:504902*l.length<=504902*200:=Nat.mul_le_mul_left _ hl;omega
theorem R.zpy {l:List R.Part}(hl:l.length<=200)(h:∀p∈l,R.partE p=0)(hs:(⟨(R.printB l).toArray⟩:ByteArray).size<=16000):∃q,R.read (M.rn ⟨(R.printB l).toArray⟩)= .ok (l.map R.bareP) q:=by
 rw[R.zlu h];refine R.zm7 h hl ?_;have h1:=M.ziw ⟨(R.printB l).toArray⟩;rw[R.zlu h] at h1;omega
end Go.Proofs.YtmcljejgbikbhaaGreatDoor
