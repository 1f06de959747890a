/-
 One rule at one place: what is wrong with it, whether it matches, and what comes in its place: plain functions.
-/
import Derived.Test.YtddiojckgjobmaaGreatSMath
import Derived.Test.YtddiojckgjobmaaGreatMath
import Derived.WalkKit
import Derived.WalkSpells
import Derived.WalkSmall
import Derived.Lib.OthersKept
import Derived.Laws.AppendOwnNone
import Derived.Test.YtddiojckgjobmaaGreatRows
import Derived.Laws.OwnMore
import Derived.Laws.Cover4
namespace Go.Proofs.YtddiojckgjobmaaGreat.K
open S (Sp)
structure Rule where
 start:Bool
 fin:Bool
 before:List (List Sp)
 source:List (List Sp)
 after:List (List Sp)
 target:List Int
 cursor:Int
def firstE:List (List Sp)->Int
 | []=>0
 | s::l=>if S.wrongE s=0 then firstE l else S.wrongE s
def setsE (l:List (List Sp)):Int:=if 20<l.length then 5 else firstE l
def allR (l:List Int):Bool:=l.all M.right
def tailE (r:Rule):Int :=
 if r.source.length=0 then 6 else if 20<r.target.length then 5
 else if allR r.target=false then 3 else if r.cursor<0 then 3 else if (r.target.length:Int)<r.cursor then 3 else 0
def ruleE (r:Rule):Int :=
 if setsE r.before≠0 then setsE r.before else if setsE r.source≠0 then setsE r.source else if setsE r.after≠0 then setsE r.after else tailE r
def textE (l:List Int):Int:=if 4000<l.length then 4 else if allR l=true then 0 else 3
theorem zc5 {l:List (List Sp)}{k:Nat}{s:List Sp}(h:l[k]?=some s):firstE (l.drop k)=if S.wrongE s=0 then firstE (l.drop (k+1)) else S.wrongE s:=by
 have hlt:=(List.getElem?_eq_some_iff.1 h).1;rw[List.drop_eq_getElem_cons hlt];have:l[k]=s:=by rw[List.getElem?_eq_getElem hlt] at h;exact Option.some.inj h
 rw[this];rfl
theorem zc4 {l:List (List Sp)}:firstE l=0↔∀s∈l,S.wrongE s=0:=by
 induction l with
 | nil=>simp[firstE]
 | cons s l ih =>
  rw[firstE]
  by_cases h:S.wrongE s=0
  ·simp[h,ih]
  ·simp[h]
def Good (l:List (List Sp)):Prop:=l.length<=20/\∀s∈l,S.Nf 0 s/\s.length<=200
theorem zce {l:List (List Sp)}:setsE l=0↔Good l:=by
 unfold setsE Good
 by_cases h:20<l.length
 ·rw[if_pos h];exact⟨fun h=>absurd h (by decide),fun h=>by omega⟩
 ·rw[if_neg h,zc4];exact⟨fun h'=>⟨by omega,fun s hs=>⟨(S.zaw.1 (h' s hs)).2,(S.zaw.1 (h' s hs)).1⟩⟩,fun h' s hs=>S.zaw.2 ⟨(h'.2 s hs).2,(h'.2 s hs).1⟩⟩
theorem zai {r:Rule}(h:ruleE r=0):Good r.before/\Good r.source/\Good r.after/\0<r.source.length/\r.target.length<=20/\allR r.target=true/\0<=r.cursor/\r.cursor<=r.target.length:=by
 unfold ruleE at h
 by_cases h1:setsE r.before=0
 ·rw[if_neg (by simp[h1])] at h
  by_cases h2:setsE r.source=0
  ·rw[if_neg (by simp[h2])] at h
   by_cases h3:setsE r.after=0
   ·rw[if_neg (by simp[h3])] at h;refine⟨zce.1 h1,zce.1 h2,zce.1 h3,?_⟩;unfold tailE at h
    by_cases h4:r.source.length=0
    ·rw[if_pos h4] at h;exact absurd h (by decide)
    ·rw[if_neg h4] at h
     by_cases h5:20<r.target.length
     ·rw[if_pos h5] at h;exact absurd h (by decide)
     ·rw[if_neg h5] at h
      by_cases h6:allR r.target=false
      ·rw[if_pos h6] at h;exact absurd h (by decide)
      ·rw[if_neg h6] at h
       by_cases h7:r.cursor<0
       ·rw[if_pos h7] at h;exact absurd h (by decide)
       ·rw[if_neg h7] at h
        by_cases h8:(r.target.length:Int)<r.cursor
        ·rw[if_pos h8] at h;exact absurd h (by decide)
        ·exact⟨by omega,by omega,by simpa using h6,by omega,by omega⟩
   ·rw[if_pos h3] at h;exact absurd h h3
  ·rw[if_pos h2] at h;exact absurd h h2
 ·rw[if_pos h1] at h;exact absurd h h1
theorem zbp {l:List Int}(h:textE l=0):l.length<=4000:=by
 unfold textE at h
 by_cases h1:4000<l.length
 ·rw[if_pos h1] at h;exact absurd h (by decide)
 ·omega
def runAt (t:List Int):Int->List (List Sp)->Bool
 | _,[]=>true
 | k,s::l=>(decide (0<=k)&&decide (k<t.length)&&S.memb s (t.getD k.toNat 0))&&runAt t (k+1) l
def matchB (r:Rule) (t:List Int) (at_:Int):Bool :=
 runAt t (at_ - r.before.length) (r.before++r.source++r.after)&& !(r.start&&decide (0<at_ - r.before.length))&& !(r.fin&&decide (at_+r.source.length+r.after.length<t.length))
def putL (r:Rule) (t:List Int) (at_:Int):List Int:=t.take at_.toNat++r.target++t.drop (at_.toNat+r.source.length)
theorem za5 (t:List Int)(a b:List (List Sp)):∀k,runAt t k (a++b)=(runAt t k a&&runAt t (k+a.length) b):=by
 induction a with
 | nil=>intro k;simp[runAt]
 | cons s a ih =>
  intro k;rw[List.cons_append,runAt,runAt,ih,List.length_cons];rw[show k+1+(a.length:Int)=k+((a.length+1:Nat):Int) by omega];simp only[Bool.and_assoc]
theorem zde {t:List Int}{l:List (List Sp)}:∀ {k},runAt t k l=true->l≠ []->0<=k/\k+l.length<=t.length:=by
 induction l with
 | nil=>intro k _ h;exact absurd rfl h
 | cons s l ih =>
  intro k h _;rw[runAt] at h;simp only[Bool.and_eq_true,decide_eq_true_eq] at h
  by_cases hl:l= []
  ·subst hl;simp only[List.length_cons,List.length_nil];omega
  ·have:=ih h.2 hl;simp only[List.length_cons];omega
theorem zdf {t:List Int}{l:List (List Sp)}{i:Nat}{s:List Sp}{k:Int}(h:l[i]?=some s):runAt t (k+i) (l.drop i)=((decide (0<=k+i)&&decide (k+i<t.length)&&S.memb s (t.getD (k+i).toNat 0))&&runAt t (k+(i+1:Nat)) (l.drop (i+1))):=by
 have hlt:=(List.getElem?_eq_some_iff.1 h).1;rw[List.drop_eq_getElem_cons hlt];have:l[i]=s:=by rw[List.getElem?_eq_getElem hlt] at h;exact Option.some.inj h
 rw[this,runAt];rw[show k+(i:Int)+1=k+((i+1:Nat):Int) by omega]
theorem zf8 {r:Rule}{t:List Int}{at_:Int}(hs:0<r.source.length)
  (h:at_ - r.before.length<0∨(t.length:Int) - at_ - r.source.length - r.after.length<0∨(r.start=true/\0<at_ - r.before.length)∨(r.fin=true/\0<(t.length:Int) - at_ - r.source.length - r.after.length)):matchB r t at_=false:=by
 unfold matchB;cases hr:runAt t (at_ - r.before.length) (r.before++r.source++r.after) with
 | false=>simp
 | true =>
  have hne:r.before++r.source++r.after≠ []:=by
   intro he;have:=congrArg List.length he;simp only[List.length_append,List.length_nil] at this;omega
  have hm:=zde hr hne;simp only[List.length_append] at hm;rcases h with h | h | ⟨h1,h2⟩|⟨h1,h2⟩
  ·omega
  ·omega
  ·simp[h1];omega
  ·simp[h1];intro _;omega
theorem zg4 {r:Rule}{t:List Int}{at_:Int}
  (h3:¬(r.start=true/\0<at_ - r.before.length)) (h4:¬(r.fin=true/\0<(t.length:Int) - at_ - r.source.length - r.after.length)) :
  matchB r t at_=(runAt t (at_ - r.before.length) r.before&&runAt t at_ r.source&&runAt t (at_+r.source.length) r.after):=by
 unfold matchB;rw[za5,za5];have e1:at_ - (r.before.length:Int)+r.before.length=at_:=by omega
 have e2:at_ - (r.before.length:Int)+((r.before++r.source).length:Nat)=at_+r.source.length:=by rw[List.length_append];omega
 rw[e1,e2]
 have e3:(!(r.start&&decide (0<at_ - (r.before.length:Int))))=true:=by
  cases hs:r.start with
  | false=>rfl
  | true=>have:¬(0<at_ - (r.before.length:Int)):=fun h=>h3 ⟨hs,h⟩;simp;omega
 have e4:(!(r.fin&&decide (at_+r.source.length+r.after.length<(t.length:Int))))=true:=by
  cases hs:r.fin with
  | false=>rfl
  | true=>have:¬(0<(t.length:Int) - at_ - r.source.length - r.after.length):=fun h=>h4 ⟨hs,h⟩;simp;omega
 rw[e3,e4];simp
theorem zjx {r:Rule}{t:List Int}{at_:Int}(hs:0<r.source.length)(h:matchB r t at_=true):0<=at_ - r.before.length/\at_+r.source.length+r.after.length<=t.length:=by
 unfold matchB at h;simp only[Bool.and_eq_true] at h
 have hne:r.before++r.source++r.after≠ []:=by
  intro he;have:=congrArg List.length he;simp only[List.length_append,List.length_nil] at this;omega
 have hm:=zde h.1.1 hne;simp only[List.length_append] at hm;omega
end Go.Proofs.YtddiojckgjobmaaGreat.K
namespace Go.Proofs.YtddiojckgjobmaaGreat
open Go.RowKit
theorem qN {n:Nat}:n≤n:=Nat.le_refl n
theorem qR {B:Nat}(w:World):Below B w w:=Below.refl B w
abbrev qA:=@Array.getElem?_eq_some_iff
abbrev qL:=@List.getElem?_eq_some_iff
end Go.Proofs.YtddiojckgjobmaaGreat
namespace Go.Proofs.YtddiojckgjobmaaGreat.L
open Go.RowKit
theorem zk5 {w W1 w3:World}{B:Nat}{s:ByteArray}{p:Nat}{e:TypeId}{v v':Value}{n:Nat}{xs ys:List Value}{o:Obj}
  (hit:W1.heap[B]?=some (.stringIter s p)) (hbw:Below B w W1) (hown:W1.ownsRow (B+1) e 1 v n xs)
  (hown':w3.ownsRow (B+1) e 1 v' (n+1) (xs++ys)) (hgrow:(W1.alloc o).grownBy w3 v.ownBlock) :
  Hid (w3.ownsRow (B+1) e 1 v' (n+1) (xs++ys)/\w3.heap[B]?=some (.stringIter s p)/\Below B w w3):=by
 have hlt:=lt_of_block hit;refine⟨hown',?_,?_⟩
 ·rw[hgrow.block B (by simp;omega) (fun h=>by have:=(hown.lt _ h.symm).1;omega),Below.heap_alloc _ _ _ hlt];exact hit
 ·exact Below.grown (hbw.alloc (by omega) _) hgrow (by simp;omega) (fun j hj=>by have:=(hown.lt _ hj).1;omega)
theorem zae {a b:Bool}(h:a=b):Ending.returned (.bool a)= .returned (.bool b):=by rw[h]
theorem zby {k:IntKind}{a b:Int}(h:a=b):Ending.returned (.int k a)= .returned (.int k b):=by rw[h]
theorem bcell {B:Nat}{W w1:World}(hb:Below B W w1):(∀b o,b<B->w1.cell? ⟨b,o,none⟩=W.cell? ⟨b,o,none⟩)/\(∀b o,b<B->w1.frozen? ⟨b,o,none⟩=W.frozen? ⟨b,o,none⟩) :=
 ⟨fun b o h=>hb.cell (p:=⟨b,o,none⟩) h,fun b o h=>hb.frozen (p:=⟨b,o,none⟩) h⟩
def Rd (w:World) (v:Value) (k:IntKind) (zs:List Int):Prop :=
 ∃ao cap,v= .slice ao zs.length cap/\(ao=none->cap=0)/\(zs≠ []->∃b off,ao=some ⟨b,off,none⟩/\∀j z,zs[j]?=some z->w.cell? ⟨b,off+j,none⟩=some (.int k z))
theorem addr_add (b off j:Nat):(⟨b,off,none⟩:Addr).add j=⟨b,off+j,none⟩:=by
 by_cases h:j=0
 ·subst h;simp[Addr.add]
 ·simp[Addr.add,h]
theorem Rd.zaq {w:World}{B:Nat}{e:TypeId}{v:Value}{k:IntKind}{zs:List Int}(h:w.ownsRow B e 1 v zs.length (zs.map (Value.int k))):Rd w v k zs:=by
 have hc:=fun g hg=>World.ownsRow.cells h (g:=g) hg
 rcases h.2 with ⟨rfl,h0⟩|⟨g,cap,cur,rfl,h0⟩
 ·have:zs= []:=by simpa using h0
  subst this;exact⟨none,0,rfl,fun _=>rfl,fun h=>absurd rfl h⟩
 ·refine⟨_,cap,rfl,fun h=>by simp at h,fun _=>⟨g,0,rfl,fun j z hj=> ?_⟩⟩;have:=hc g rfl j (.int k z) (by simp[hj]);rw[addr_add] at this;exact this
theorem Rd.below {w w':World}{v:Value}{k:IntKind}{zs:List Int}{B:Nat}(h:Rd w v k zs)(hb:Below B w w')(hB:w.heap.size<=B):Rd w' v k zs:=by
 obtain⟨ao,cap,rfl,hn,h⟩:=h;refine⟨ao,cap,rfl,hn,fun hz=> ?_⟩;obtain⟨b,off,rfl,hc⟩:=h hz;refine⟨b,off,rfl,fun j z hj=> ?_⟩;have h1:=hc j z hj
 have hlt:b<w.heap.size:=by
  simp only[World.cell?] at h1
  by_cases hlt:b<w.heap.size
  ·exact hlt
  ·simp[Array.getElem?_eq_none (Nat.le_of_not_lt hlt)] at h1
 rw[hb.cell (p:=⟨b,off+j,none⟩) (by show b<B;omega)];exact h1
theorem zas {P:Program}{w:World}{ops:Array Oper}{rest:List Oper}{o:Oper}{a:Act}{Q:Exit->Act->World->Prop}(hgd:o.guard=none)(s x:Operand)(t:TypeId)
  (ho:o.op= .call { callee:= .builtin .append,args:=#[s,x],argTypes:=#[t,t] })
  (base:Nat) (e:TypeId) (i:TypeInfo) (k:IntKind) (bytes:Nat) (ht:P.underlying t=some (.slice e)) (hi:P.info? e=some i) (hz:i.zero=some (.int k 0))
  (hsize:i.size=1) (hby:i.bytes=bytes)
  (v:Value) (n:Nat) (xs:List Value) (hs:a.eval s=v) (hown:w.ownsRow base e 1 v n xs)
  (vx:Value) (zs:List Int) (hx:a.eval x=vx) (hrd:Rd w vx k zs)
  (h63:n+zs.length<=maxLen) (hbytes:(n+zs.length)*bytes<=140737488355328) (hbase:base<=w.heap.size)
  (h:∀v' w',w'.ownsRow base e 1 v' (n+zs.length) (xs++zs.map (Value.int k))->w.grownBy w' v.ownBlock->wpList P ops Q rest (a.put o.dst v') w'):wpList P ops Q (o::rest) a w:=by
 obtain⟨ao,cap,rfl,hn,hc⟩:=hrd;cases ao with
 | none =>
  have h0:zs= []:=by
   cases zs with
   | nil=>rfl
   | cons z zs=>obtain⟨b,off,h,_⟩:=hc (by simp);simp at h
  subst h0;have:=hn rfl;subst this;refine wpList_append_own_none hgd s x t ho base e i 1 ht hi v n xs hs hown hx ?_;refine h v w ?_ ?_
  ·simpa using hown
  ·exact⟨rfl,rfl,rfl,Nat.le_refl _,fun _ _ _=>rfl⟩
 | some ad =>
  refine wpList_append_own w hgd s x t ho base e i (.int k 0) 1 bytes ht hi hz hsize hby rfl (by decide) v n xs hs hown ad zs.length cap (zs.map (Value.int k)) hx (by simp) ?_ (fun u hu=>by obtain⟨z,_,rfl⟩:=List.mem_map.1 hu;rfl) h63 hbytes hbase (fun v' w' h1 h2 _=>h v' w' h1 h2);intro j u hj;rw[List.getElem?_map] at hj;cases hzj:zs[j]? with
  | none=>rw[hzj] at hj;simp at hj
  | some z =>
   rw[hzj] at hj;simp at hj;subst hj;obtain⟨b,off,hao,hcell⟩:=hc (by intro h;subst h;simp at hzj);simp at hao;subst hao;rw[addr_add];exact hcell j z hzj
theorem zat {w w':World}{base B:Nat}{e:TypeId}{size:Nat}{v:Value}{n:Nat}{xs:List Value}(h:w.ownsRow base e size v n xs)(hb:Below B w w')(hB:w.heap.size<=B):w'.ownsRow base e size v n xs:=by
 obtain⟨h1,h2⟩:=h;refine⟨h1,?_⟩;rcases h2 with h2 | ⟨g,cap,cur,hv,hg,hh,r⟩
 ·exact .inl h2
 ·refine .inr ⟨g,cap,cur,hv,hg,?_,r⟩;have hlt:=lt_of_block hh;rw[hb.block g (by omega)];exact hh
theorem za1 {w:World}{base base':Nat}{e:TypeId}{size:Nat}{v:Value}{n:Nat}{xs:List Value}(h:w.ownsRow base e size v n xs)(hb:base'<=base):w.ownsRow base' e size v n xs:=by
 obtain⟨h1,h2⟩:=h;refine⟨h1,?_⟩;rcases h2 with h2 | ⟨g,cap,cur,hv,hg,r⟩
 ·exact .inl h2
 ·exact .inr ⟨g,cap,cur,hv,by omega,r⟩
theorem zbr {w:World}{base base':Nat}{e1 e2:TypeId}{s1 s2:Nat}{v1 v2:Value}{n1 n2:Nat}{xs1 xs2:List Value}(h1:w.ownsRow base e1 s1 v1 n1 xs1)(h2:w.ownsRow base' e2 s2 v2 n2 xs2)(hne:e1≠e2):v2.ownBlock=none∨v2.ownBlock≠v1.ownBlock:=by
 rcases h2.2 with ⟨rfl,_⟩|⟨g2,cap2,cur2,rfl,_,hg2,_⟩
 ·exact .inl rfl
 ·right
  rcases h1.2 with ⟨rfl,_⟩|⟨g1,cap1,cur1,rfl,_,hg1,_⟩
  ·simp[Value.ownBlock]
  ·intro e;simp[Value.ownBlock] at e;subst e;rw[hg1] at hg2;simp at hg2;exact hne hg2.2
theorem zci {w1 w2:World}{base base':Nat}{e1 e2:TypeId}{s1 s2:Nat}{v1 v2:Value}{n1 n2:Nat}{xs1 xs2:List Value}{o:Obj}(h1:w1.ownsRow base e1 s1 v1 n1 xs1)(h2:w1.ownsRow base' e2 s2 v2 n2 xs2)(hne:e1≠e2)
  (hg:(w1.alloc o).grownBy w2 v1.ownBlock):w2.ownsRow base' e2 s2 v2 n2 xs2:=(h2.alloc o).kept hg (zbr h1 h2 hne)
theorem zgz {w w1 w2:World}{B base:Nat}{e:TypeId}{s:Nat}{v:Value}{n:Nat}{xs:List Value}{o:Obj}(hbw:Below B w w1)(h1:w1.ownsRow base e s v n xs)(hB:B<=base)(hw:B<=w1.heap.size)
  (hg:(w1.alloc o).grownBy w2 v.ownBlock):Below B w w2:=Below.grown (hbw.alloc hw _) hg (by simp;omega) (fun j hj=>by have:=(h1.lt _ hj).1;omega)
theorem block_lt {w:World}{b o:Nat}{v:Value}(h:w.cell? ⟨b,o,none⟩=some v):b<w.heap.size:=by
 simp only[World.cell?] at h
 by_cases hlt:b<w.heap.size
 ·exact hlt
 ·simp[Array.getElem?_eq_none (Nat.le_of_not_lt hlt)] at h
end Go.Proofs.YtddiojckgjobmaaGreat.L
namespace Go.Proofs.YtddiojckgjobmaaGreat
theorem Tryz.infoI32:(Tryz.prog.info? 21).map (fun i=>(i.zero,i.size,i.bytes))=some (some (.int .i32 0),1,4):=by kernel_rfl
end Go.Proofs.YtddiojckgjobmaaGreat
namespace Go.Proofs.YtddiojckgjobmaaGreat.S
open Go.RowKit
def enc2 (x:Sp):List Value:= [.int .i32 x.1,.int .i32 x.2]
def cellsOf (l:List Sp):List Value:=l.flatMap enc2
def Fit (l:List Sp):Prop:=∀x∈l,-2147483648<=x.1/\x.1<=2147483647/\ -2147483648<=x.2/\x.2<=2147483647
theorem Fit.at {l:List Sp}(h:Fit l){j:Nat}{x:Sp}(hj:l[j]?=some x): -2147483648<=x.1/\x.1<=2147483647/\ -2147483648<=x.2/\x.2<=2147483647:=h x (List.mem_of_getElem? hj)
theorem zcm (x:Sp)(l:List Sp):cellsOf (x::l)= .int .i32 x.1:: .int .i32 x.2::cellsOf l:=rfl
theorem zfy {l:List Sp}{j:Nat}{x:Sp}(h:l[j]?=some x):(cellsOf l)[j*2]?=some (.int .i32 x.1)/\(cellsOf l)[j*2+1]?=some (.int .i32 x.2):=by
 induction l generalizing j with
 | nil=>simp at h
 | cons y l ih =>
  cases j with
  | zero=>simp at h;subst h;rw[zcm];simp
  | succ j =>
   have:=ih (j:=j) (by simpa using h);rw[zcm,show (j+1)*2=j*2+1+1 by omega,show j*2+1+1+1=(j*2+1)+1+1 by omega];simpa using this
def Rd (w:World) (v:Value) (l:List Sp):Prop :=
 ∃ao cap,v= .slice ao l.length cap/\(ao=none->cap=0)/\(l≠ []->∃b off,ao=some ⟨b,off,none⟩/\∀j x,l[j]?=some x->w.cell? ⟨b,off+j*2,none⟩=some (.int .i32 x.1)/\w.cell? ⟨b,off+j*2+1,none⟩=some (.int .i32 x.2))
theorem Rd.nil (w:World):Rd w (.slice none 0 0) []:=⟨none,0,rfl,fun _=>rfl,fun h=>absurd rfl h⟩
theorem Rd.zaq {w:World}{B:Nat}{e:TypeId}{v:Value}{l:List Sp}(h:w.ownsRow B e 2 v l.length (cellsOf l)):Rd w v l:=by
 have hc:=fun g hg=>World.ownsRow.cells h (g:=g) hg
 rcases h.2 with ⟨rfl,h0⟩|⟨g,cap,cur,rfl,h0⟩
 ·have:l= []:=by simpa using h0
  subst this;exact Rd.nil w
 ·refine⟨_,cap,rfl,fun h=>by simp at h,fun _=>⟨g,0,rfl,fun j x hj=> ?_⟩⟩;have hg:=zfy hj;have h1:=hc g rfl _ _ hg.1;have h2:=hc g rfl _ _ hg.2;rw[L.addr_add] at h1 h2;exact⟨h1,h2⟩
theorem Rd.cells {w w':World}{v:Value}{l:List Sp}(h:Rd w v l)(hc:∀b o u,w.cell? ⟨b,o,none⟩=some u->(∃ao n c,v= .slice ao n c/\∃a,ao=some a/\a.block=b)->w'.cell? ⟨b,o,none⟩=some u):Rd w' v l:=by
 obtain⟨ao,cap,rfl,hn,h⟩:=h;refine⟨ao,cap,rfl,hn,fun hz=> ?_⟩;obtain⟨b,off,rfl,hcl⟩:=h hz;refine⟨b,off,rfl,fun j x hj=> ?_⟩;have h1:=hcl j x hj;exact⟨hc _ _ _ h1.1 ⟨_,_,_,rfl,_,rfl,rfl⟩,hc _ _ _ h1.2 ⟨_,_,_,rfl,_,rfl,rfl⟩⟩
theorem Rd.below {w w':World}{v:Value}{l:List Sp}{B:Nat}(h:Rd w v l)(hb:Below B w w')(hB:w.heap.size<=B):Rd w' v l :=
 h.cells fun b o u hu _=>by
  have:=L.block_lt hu;rw[hb.cell (p:=⟨b,o,none⟩) (by show b<B;omega)];exact hu
theorem Rd.grown {w w':World}{v:Value}{l:List Sp}{row:Option Nat}(h:Rd w v l)(hg:w.grownBy w' row)(hne:∀g,row=some g->v.ownBlock≠some g):Rd w' v l :=
 h.cells fun b o u hu hv=>by
  have:=L.block_lt hu;obtain⟨ao,n,c,rfl,a,rfl,rfl⟩:=hv;rw[World.cell?_of_block (a:=⟨a.block,o,none⟩) (hg.block a.block this fun e=>hne _ e.symm rfl)];exact hu
theorem Rd.block {w:World}{v:Value}{l:List Sp}(h:Rd w v l)(hl:l≠ []):∃g,v.ownBlock=some g/\g<w.heap.size:=by
 obtain⟨ao,cap,rfl,hn,h⟩:=h;obtain⟨b,off,rfl,hc⟩:=h hl;obtain⟨x,hx⟩:∃x,l[0]?=some x:=⟨l[0]'(List.length_pos_iff.2 hl),by simp[List.length_pos_iff.2 hl]⟩;exact⟨b,rfl,L.block_lt (hc 0 x hx).1⟩
theorem Rd.kept {w0 w w':World}{v:Value}{l:List Sp}{row:Option Nat}(h0:Rd w0 v l)(h:Rd w v l)(hg:w.grownBy w' row)(hr:∀g,row=some g->w0.heap.size<=g):Rd w' v l:=by
 by_cases hl:l= []
 ·subst hl;obtain⟨ao,cap,rfl,hn,_⟩:=h;exact⟨ao,cap,rfl,hn,fun h=>absurd rfl h⟩
 ·obtain⟨b,hb,hlt⟩:=h0.block hl;exact h.grown hg fun g hg' e=>by rw[hb] at e;cases e;have:=hr _ hg';omega
theorem Rd.len {w:World}{v:Value}{l:List Sp}(h:Rd w v l):∃ao cap,v= .slice ao l.length cap:=by
 obtain⟨ao,cap,rfl,_⟩:=h;exact⟨ao,cap,rfl⟩
theorem boxed {wr w1:World}{a b:Value}{t:TypeId}(h:Below (wr.alloc (.cells #[a,b] t)).heap.size (wr.alloc (.cells #[a,b] t)) w1) :
  (w1.cell? ⟨wr.heap.size,0,none⟩=some a/\w1.cell? ⟨wr.heap.size,1,none⟩=some b)/\(∀bb o u,wr.cell? ⟨bb,o,none⟩=some u->w1.cell? ⟨bb,o,none⟩=some u)/\wr.heap.size<w1.heap.size/\Below wr.heap.size wr w1:=by
 have hs:=h.size;have e:(wr.alloc (.cells #[a,b] t)).heap.size=wr.heap.size+1:=by simp
 have hb:Below wr.heap.size wr w1:=((Below.refl _ wr).alloc (Nat.le_refl _) _).trans (h.mono (by omega));refine⟨⟨?_,?_⟩,?_,by omega,hb⟩
 ·rw[h.cell (p:=⟨wr.heap.size,0,none⟩) (by show wr.heap.size<_;omega),World.cell?_alloc_at _ _ _ _ (by simp)];rfl
 ·rw[h.cell (p:=⟨wr.heap.size,1,none⟩) (by show wr.heap.size<_;omega),World.cell?_alloc_at _ _ _ _ (by simp)];rfl
 ·intro bb o u hu;rw[hb.cell (p:=⟨bb,o,none⟩) (L.block_lt hu)];exact hu
theorem zam {w w1 w2:World}{r:Option Nat}(h:w.grownBy w1 r)(h':w1.grownBy w2 r):w.grownBy w2 r :=
 ⟨h'.os.trans h.os,h'.tape.trans h.tape,h'.output.trans h.output,Nat.le_trans h.size h'.size,fun k hk hne=>(h'.block k (Nat.lt_of_lt_of_le hk h.size) hne).trans (h.block k hk hne)⟩
theorem zbc (w:World)(r:Option Nat):w.grownBy w r:=⟨rfl,rfl,rfl,Nat.le_refl _,fun _ _ _=>rfl⟩
theorem zbi {w w1:World}{r:Option Nat}(h:Below w.heap.size w w1):w.grownBy w1 r:=⟨h.os,h.tape,h.output,h.size,fun k hk _=>h.block k hk⟩
def num (w:World) (b:Nat):Nat:=(intOf ((w.cell? ⟨b,0,none⟩).getD undef)).toNat
def Bx (w:World) (b:Nat) (t:TypeId) (v:Value):Prop:=w.heap[b]?=some (.cells #[v] t)
theorem Bx.cell {w:World}{b:Nat}{t:TypeId}{v:Value}(h:Bx w b t v):w.cell? ⟨b,0,none⟩=some v:=by simp[World.cell?,Bx] at h ⊢;rw[h];rfl
theorem Bx.num {w:World}{b:Nat}{t:TypeId}{k:Nat}(h:Bx w b t (.int .i64 k)):num w b=k:=by unfold S.num;rw[h.cell];rfl
theorem Bx.free {w:World}{b:Nat}{t:TypeId}{v:Value}(h:Bx w b t v):w.frozen? ⟨b,0,none⟩=false:=by simp[World.frozen?,Bx] at h ⊢;rw[h];rfl
theorem Bx.lt {w:World}{b:Nat}{t:TypeId}{v:Value}(h:Bx w b t v):b<w.heap.size:=lt_of_block h
theorem Bx.set {w:World}{b:Nat}{t:TypeId}{v:Value}(h:Bx w b t v)(u:Value):Bx (w.setCell ⟨b,0,none⟩ u) b t u:=by
 have:=heap_setCell_same w b 0 #[v] t u h;exact this
theorem Bx.new (w:World)(t:TypeId)(v:Value):Bx (w.alloc (.cells #[v] t)) w.heap.size t v:=by
 unfold Bx;exact Array.getElem?_push_size
theorem Bx.below {w w':World}{B b:Nat}{t:TypeId}{v:Value}(h:Bx w b t v)(hb:Below B w w')(hB:b<B):Bx w' b t v:=by
 unfold Bx;rw[hb.block b hB];exact h
theorem Bx.grown {w w':World}{b:Nat}{t:TypeId}{v:Value}{r:Option Nat}(h:Bx w b t v)(hg:w.grownBy w' r)(hr:r≠some b):Bx w' b t v:=by
 unfold Bx;rw[hg.block b h.lt (fun e=>hr e.symm)];exact h
end Go.Proofs.YtddiojckgjobmaaGreat.S
namespace Go.Proofs.YtddiojckgjobmaaGreat.K
open Go.RowKit
def I64 (n:Int):Prop:= -9223372036854775808<=n/\n<=9223372036854775807
def SetIs (w:World) (u:Value) (s:List S.Sp):Prop:=(∃so sc,u= .slice so s.length sc)/\S.Rd w u s/\S.Fit s
def Sets (w:World) (vs:List Value) (l:List (List S.Sp)):Prop:=vs.length=l.length/\∀(j:Nat) u s,vs[j]?=some u->l[j]?=some s->SetIs w u s
def Ss (w:World) (v:Value) (l:List (List S.Sp)):Prop :=
 ∃ao cap vs,v= .slice ao l.length cap/\(ao=none->cap=0)/\l.length<=140737488355328/\Sets w vs l/\(l≠ []->∃b off,ao=some ⟨b,off,none⟩/\∀(j:Nat) u,vs[j]?=some u->w.cell? ⟨b,off+j,none⟩=some u)
theorem SetIs.below {w w':World}{u:Value}{s:List S.Sp}(h:SetIs w u s)(hb:Below w.heap.size w w'):SetIs w' u s:=⟨h.1,h.2.1.below hb (Nat.le_refl _),h.2.2⟩
theorem Sets.below {w w':World}{vs:List Value}{l:List (List S.Sp)}(h:Sets w vs l)(hb:Below w.heap.size w w'):Sets w' vs l:=⟨h.1,fun j u s hu hs=>(h.2 j u s hu hs).below hb⟩
theorem Ss.below {w w':World}{v:Value}{l:List (List S.Sp)}(h:Ss w v l)(hb:Below w.heap.size w w'):Ss w' v l:=by
 obtain⟨ao,cap,vs,rfl,hn,hl,hs,hc⟩:=h;refine⟨ao,cap,vs,rfl,hn,hl,hs.below hb,fun hz=> ?_⟩;obtain⟨b,off,rfl,hc2⟩:=hc hz;refine⟨b,off,rfl,fun j u hj=> ?_⟩;have h1:=hc2 j u hj;have:=L.block_lt h1;rw[hb.cell (p:=⟨b,off+j,none⟩) this];exact h1
theorem Ss.len {w:World}{v:Value}{l:List (List S.Sp)}(h:Ss w v l):∃ao cap,v= .slice ao l.length cap:=by
 obtain⟨ao,cap,vs,rfl,_⟩:=h;exact⟨ao,cap,rfl⟩
theorem Ss.few {w:World}{v:Value}{l:List (List S.Sp)}(h:Ss w v l):l.length<=140737488355328:=by
 obtain⟨ao,cap,vs,rfl,_,h,_⟩:=h;exact h
theorem Ss.at {w:World}{ao:Option Addr}{n cap:Nat}{l:List (List S.Sp)}(h:Ss w (.slice ao n cap) l){j:Nat}{s:List S.Sp}(hj:l[j]?=some s) :
  ∃b off so sc,ao=some ⟨b,off,none⟩/\w.cell? ⟨b,off+j,none⟩=some (.slice so s.length sc)/\S.Rd w (.slice so s.length sc) s/\S.Fit s:=by
 obtain⟨ao',cap',vs,he,hn,hl,hs,hc⟩:=h;cases he;obtain⟨b,off,rfl,hc2⟩:=hc (by intro h;subst h;simp at hj);have hlt:j<vs.length:=by rw[hs.1];exact(List.getElem?_eq_some_iff.1 hj).1
 obtain⟨u,hu⟩:∃u,vs[j]?=some u:=⟨vs[j],by simp⟩;obtain⟨⟨so,sc,rfl⟩,h2,h3⟩:=hs.2 j u s hu hj;exact⟨b,off,so,sc,rfl,hc2 j _ hu,h2,h3⟩
theorem Sets.append {w:World}{us vs:List Value}{l m:List (List S.Sp)}(h:Sets w us l)(h':Sets w vs m):Sets w (us++vs) (l++m):=by
 refine⟨by simp[h.1,h'.1],fun j u s hu hs=> ?_⟩
 by_cases hj:j<us.length
 ·rw[List.getElem?_append_left hj] at hu;rw[List.getElem?_append_left (by rw[<- h.1];exact hj)] at hs;exact h.2 j u s hu hs
 ·rw[List.getElem?_append_right (by omega)] at hu;rw[List.getElem?_append_right (by rw[<- h.1];omega),<- h.1] at hs;exact h'.2 _ u s hu hs
theorem Sets.one {w:World}{vs:List Value}{l:List (List S.Sp)}(h:Sets w vs l){u:Value}(hu:u∈vs):u.oneCell'=true:=by
 obtain⟨j,hj⟩:=List.getElem?_of_mem hu;have hlt:j<l.length:=by rw[<- h.1];exact(List.getElem?_eq_some_iff.1 hj).1
 obtain⟨s,hs⟩:∃s,l[j]?=some s:=⟨l[j],by simp⟩;obtain⟨⟨so,sc,rfl⟩,_⟩:=h.2 j u s hj hs;rfl
/-! boxes -/
theorem zaa {w:World}{b i:Nat}{c:Array Value}{t:TypeId}{v:Value}(h:w.heap[b]?=some (.cells c t))(hv:c[i]?=some v):w.cell? ⟨b,i,none⟩=some v:=by
 rw[World.cell?];simp[h,hv]
theorem zab {w w':World}{b:Nat}{o:Obj}(h:w.heap[b]?=some o)(hb:Below w.heap.size w w'):w'.heap[b]?=some o:=by
 rw[hb.block b (Array.getElem?_eq_some_iff.1 h).1];exact h
theorem zao {w w1:World}{o1:Obj}(h:Below (w.alloc o1).heap.size (w.alloc o1) w1):w1.heap[w.heap.size]?=some o1/\Below w.heap.size w w1/\w.heap.size+1<=w1.heap.size:=by
 have hs:=h.size;simp at hs;refine⟨zab (heap_alloc_new w o1) h,((Below.refl _ w).alloc (Nat.le_refl _) o1).trans (h.mono (by simp)),hs⟩
theorem za9 {w w1:World}{o1 o2:Obj}(h:Below ((w.alloc o1).alloc o2).heap.size ((w.alloc o1).alloc o2) w1) :
  w1.heap[w.heap.size]?=some o1/\w1.heap[w.heap.size+1]?=some o2/\Below w.heap.size w w1/\w.heap.size+2<=w1.heap.size:=by
 have hs:=h.size;simp at hs;have e1:=heap_alloc_new (w.alloc o1) o2;simp at e1;have e2:((w.alloc o1).alloc o2).heap[w.heap.size]?=some o1:=(Below.heap_alloc (w.alloc o1) o2 w.heap.size (by simp)).trans (heap_alloc_new w o1);exact⟨zab e2 h,zab (by simpa using e1) h,(((Below.refl _ w).alloc (Nat.le_refl _) o1).alloc (by simp) o2).trans (h.mono (by simp;omega)),by omega⟩
def RuIs (w:World) (v:Value) (r:Rule):Prop :=
 ∃bo bc so sc ao ac tgo tc,v= .agg #[.bool r.start,.bool r.fin,.slice bo r.before.length bc,.slice so r.source.length sc,.slice ao r.after.length ac,.slice tgo r.target.length tc,.int .i64 r.cursor] /\
  Ss w (.slice bo r.before.length bc) r.before/\Ss w (.slice so r.source.length sc) r.source/\Ss w (.slice ao r.after.length ac) r.after/\L.Rd w (.slice tgo r.target.length tc) .i32 r.target/\r.target.length<=140737488355328/\I64 r.cursor
theorem RuIs.below {w w':World}{v:Value}{r:Rule}(h:RuIs w v r)(hb:Below w.heap.size w w'):RuIs w' v r:=by
 obtain⟨bo,bc,so,sc,ao,ac,tgo,tc,rfl,h1,h2,h3,h4,h5⟩:=h;exact⟨bo,bc,so,sc,ao,ac,tgo,tc,rfl,h1.below hb,h2.below hb,h3.below hb,h4.below hb (Nat.le_refl _),h5⟩
end Go.Proofs.YtddiojckgjobmaaGreat.K
namespace Go.Proofs.YtddiojckgjobmaaGreat.S
noncomputable def U (a b:List Sp):List Sp:=nf (orP a b)
noncomputable def I (a b:List Sp):List Sp:=nf (andP a b)
noncomputable def D (a b:List Sp):List Sp:=nf (minP a b)
noncomputable def C (a:List Sp):List Sp:=nf (notP a)
def cnt (P:Int->Bool):Nat->Nat
 | 0=>0
 | n+1=>cnt P n+if P n=true then 1 else 0
def total:List Sp->Int
 | []=>0
 | x::l=>(x.2 - x.1+1)+total l
def nthF:List Sp->Int->Option Int
 | [],_=>none
 | x::l,k=>if k<x.2 - x.1+1 then some (x.1+k) else nthF l (k - (x.2 - x.1+1))
end Go.Proofs.YtddiojckgjobmaaGreat.S
namespace Go.Proofs.YtddiojckgjobmaaGreat.M
def bt (L:List UInt8) (k:Nat):Nat:=(L[k]?.getD 0).toNat
def d0 (L:List UInt8):Nat×Nat:=Lib.decodeN L.length (bt L 0) (bt L 1) (bt L 2) (bt L 3)
def rl:Nat->List UInt8->List (Nat×Nat)
 | 0,_=> []
 | n+1,L=>if L= [] then [] else d0 L::rl n (L.drop (d0 L).2)
def ru (L:List UInt8):List (Nat×Nat):=rl L.length L
def bad (x:Nat×Nat):Bool:=x.1==65533&&x.2==1
def sp (L:List UInt8):Nat:=((ru L).filter bad).length
end Go.Proofs.YtddiojckgjobmaaGreat.M
namespace Go.Proofs.YtddiojckgjobmaaGreat.M
def enc (r:Int):List UInt8:=(Utf8.encode r).data.toList
end Go.Proofs.YtddiojckgjobmaaGreat.M
