/-
 What scriptref1.Same answers of two slices of runes: whether they read as the same list.
-/
import Derived.Test.YtmcljejgbikbhaaGreatDoorRows
import Derived.Test.YtmcljejgbikbhaaGreatDoorSLib
import Derived.Deep.QuietTactic
import Derived.BigQuiet
import Derived.Test.YtmcljejgbikbhaaGreatDoorGMath
import Derived.Test.YtmcljejgbikbhaaGreatDoorCnPl
import Derived.Test.YtmcljejgbikbhaaGreatDoorYRus
import Derived.Test.YtmcljejgbikbhaaGreatDoorVSmall
namespace Go.Proofs.YtmcljejgbikbhaaGreatDoor
open Go.RowKit
theorem take_eq_snoc {a b:List Int}{k:Nat}{x y:Int}(h:a.take k=b.take k)(hx:a[k]?=some x)(hy:b[k]?=some y)(e:x=y):a.take (k+1)=b.take (k+1):=by
 rw[List.take_add_one,List.take_add_one,h,hx,hy,e]
set_option maxHeartbeats 400000 in
theorem rsame_any (w:World)(va vb:Value)(za zb:List Int)(ha:L.Rd w va .i32 za)(hb:L.Rd w vb .i32 zb)(hla:za.length<=4611686018427387903)(hlb:zb.length<=4611686018427387903) :
  Calls Tryz.prog 17 #[va,vb] w fun e w'=>e= .returned (.bool (decide (za=zb)))/\Below w.heap.size w w':=by
 obtain⟨ao,ca,rfl,_,ha⟩:=ha
 obtain⟨bo,cb,rfl,_,hb⟩:=hb
 by_cases hl:za.length=zb.length
 ·go_enter Tryz.func17,Tryz.ntmps17
  go_wp2
  go_loopw [13] (fun i wr=>∃k n:Nat,k<=za.length/\i= .int .i64 k/\za.take k=zb.take k/\wr=w.drewN n) (fun i _=>za.length - (intOf i).toNat)
  case atStart=>exact⟨0,0,Nat.zero_le _,rfl,by simp,rfl⟩
  case round =>
   obtain⟨k,n,hk,rfl,ht,rfl⟩:=hrel
   by_cases hlt:k<za.length
   ·obtain⟨b1,o1,rfl,hc1⟩:=ha (by intro h;subst h;simp at hlt)
    obtain⟨b2,o2,rfl,hc2⟩:=hb (by intro h;subst h;simp at hl;rw[hl] at hlt;simp at hlt)
    obtain⟨x,hx⟩:∃x,za[k]?=some x:=⟨za[k],by simp[hlt]⟩
    obtain⟨y,hy⟩:∃y,zb[k]?=some y:=⟨zb[k]'(by omega),by simp[show k<zb.length by omega]⟩
    have c1:=hc1 k x hx
    have c2:=hc2 k y hy
    clear hc1 hc2 ha hb
    have HX:Hid (za[k]?=some x/\zb[k]?=some y/\za.take k=zb.take k):=⟨hx,hy,ht⟩
    clear hx hy ht
    by_cases hxy:x=y
    ·go_wp2
     go_quiet (fail)
     go_wp2
     go_roundw
     case rel=>exact⟨k+1,_,by omega,by go_num,take_eq_snoc HX.out.2.2 HX.out.1 HX.out.2.1 hxy,rfl⟩
     case measure=>simp[intOf];omega
    ·go_wp2
     go_quiet (fail)
     go_wp2
     go_ret
     refine⟨L.ret_bool ?_,below_drewN (below_drewN (Below.refl _ _) _) _⟩
     have:za≠zb:=by
      intro e
      rw[e] at HX
      have h1:=HX.out.1
      rw[HX.out.2.1] at h1
      exact hxy (Option.some.inj h1).symm
     simp[this]
   ·go_wp2
    go_ret
    refine⟨L.ret_bool ?_,below_drewN (Below.refl _ _) _⟩
    rw[List.take_of_length_le (by omega),List.take_of_length_le (by omega)] at ht
    simp[ht]
 ·go_enter Tryz.func17,Tryz.ntmps17
  go_wp2
  go_ret
  refine⟨L.ret_bool ?_,Below.refl _ _⟩
  have:za≠zb:=by intro e;exact hl (by rw[e])
  simp[this]
end Go.Proofs.YtmcljejgbikbhaaGreatDoor
namespace Go.Proofs.YtmcljejgbikbhaaGreatDoor
open Go.RowKit Go.Lib Go.Sort
def subF (a b:List S.Sp):Bool:=a.all fun x=>b.any fun y=>decide (y.1<=x.1)&&decide (x.2<=y.2)
end Go.Proofs.YtmcljejgbikbhaaGreatDoor
namespace Go.Proofs.YtmcljejgbikbhaaGreatDoor.K
open S (Sp)
theorem runAt_iff {t:List Int}{l:List (List Sp)}:∀ {k:Int},runAt t k l=true↔∀(i:Nat) s,l[i]?=some s->0<=k+i/\k+i<t.length/\S.memb s (t.getD (k+i).toNat 0)=true:=by
 induction l with
 | nil=>intro k;simp[runAt]
 | cons x l ih =>
  intro k
  rw[runAt,Bool.and_eq_true,ih]
  simp only[Bool.and_eq_true,decide_eq_true_eq]
  constructor
  ·rintro ⟨⟨⟨h1,h2⟩,h3⟩,h4⟩ i s hs
   cases i with
   | zero =>
    simp only[List.getElem?_cons_zero,Option.some.injEq] at hs
    subst hs
    have e:k+((0:Nat):Int)=k:=by omega
    rw[e];exact⟨h1,h2,h3⟩
   | succ i =>
    have:=h4 i s (by simpa using hs)
    rw[show k+((i+1:Nat):Int)=k+1+i by omega];exact this
  ·intro h
   refine⟨?_,fun i s hs=> ?_⟩
   ·have:=h 0 x rfl
    have e:k+((0:Nat):Int)=k:=by omega
    rw[e] at this;exact⟨⟨this.1,this.2.1⟩,this.2.2⟩
   ·have:=h (i+1) s (by simpa using hs)
    rw[show k+((i+1:Nat):Int)=k+1+i by omega] at this;exact this
theorem matchB_iff {r:Rule}{t:List Int}{k:Int}:matchB r t k=true↔runAt t (k - r.before.length) r.before=true/\runAt t k (r.source++r.after)=true/\(r.start=true->k - r.before.length<=0)/\(r.fin=true->(t.length:Int)<=k+(r.source++r.after).length):=by
 unfold matchB
 rw[List.append_assoc,runAt_append,show k - (r.before.length:Int)+r.before.length=k by omega]
 simp only[Bool.and_eq_true,Bool.not_eq_true',Bool.and_eq_false_iff,decide_eq_false_iff_not,List.length_append]
 constructor
 ·rintro ⟨⟨⟨h1,h2⟩,h3⟩,h4⟩
  refine⟨h1,h2,fun h=> ?_,fun h=> ?_⟩
  ·rcases h3 with h3 | h3
   ·rw[h] at h3;cases h3
   ·omega
  ·rcases h4 with h4 | h4
   ·rw[h] at h4;cases h4
   ·omega
 ·rintro ⟨h1,h2,h3,h4⟩
  refine⟨⟨⟨h1,h2⟩,?_⟩,?_⟩
  ·cases hs:r.start with
   | false=>exact .inl rfl
   | true=>have:=h3 hs;exact .inr (by omega)
  ·cases hs:r.fin with
   | false=>exact .inl rfl
   | true=>have:=h4 hs;exact .inr (by omega)
def withinB:List (List Sp)->List (List Sp)->Bool
 | [],_=>true
 | _::_,[]=>false
 | s::l,u::m=>subF u s&&withinB l m
def coversB (e1:Bool) (l1:List (List Sp)) (e2:Bool) (l2:List (List Sp)):Bool:=withinB l1 l2&& !(e1&& !(e2&&decide (l1.length=l2.length)))
def masksB (a b:Rule):Bool:=coversB a.start a.before.reverse b.start b.before.reverse&&coversB a.fin (a.source++a.after) b.fin (b.source++b.after)
def maskAt (l:List Rule) (k:Nat):Bool:=(l.take k).any fun a=>masksB a ((l[k]?).getD noRule)
def maskedN (l:List Rule) (n:Nat):List Int:=((List.range n).filter (maskAt l)).map fun k:Nat=>(k:Int)
def maskedL (l:List Rule):List Int:=maskedN l l.length
def behind (l:List Rule):Nat:=l.foldl (fun m r=>max m r.before.length) 0
def ahead (l:List Rule):Nat:=l.foldl (fun m r=>max m (r.source.length+r.after.length)) 0
def goesB (r:Rule):Bool:=decide (r.cursor=r.target.length)
def sureB (l:List Rule):Bool:=l.all goesB
theorem allR_sub {t u:List Int}(h:allR t=true)(hs:∀x∈u,x∈t):allR u=true:=by
 unfold allR at h ⊢
 rw[List.all_eq_true] at h ⊢
 exact fun x hx=>h x (hs x hx)
theorem match_first {r:Rule}{t:List Int}{k:Int}(hE:ruleE r=0)(h:matchB r t k=true):0<=k/\k<t.length/\S.memb (headS r) (t.getD k.toNat 0)=true:=by
 have hs:=(ruleE_zero hE).2.2.2.1
 rw[matchB_iff,runAt_iff,runAt_iff] at h
 obtain⟨x,hx⟩:∃x,r.source[0]?=some x:=⟨r.source[0],by simp⟩
 have:=h.2.1 0 x (by rw[List.getElem?_append_left hs];exact hx)
 have e:headS r=x:=by
  unfold headS
  cases hq:r.source with
  | nil=>rw[hq] at hx;simp at hx
  | cons y l=>rw[hq] at hx;simpa using hx
 rw[e,show k+((0:Nat):Int)=k by omega] at *
 exact this
theorem play_still {l:List Rule}:∀(left:Nat) (done rest:List Int) (s p:Int),(∀k:Nat,done.length<=k->k<(done++rest).length->which l (done++rest) k= -1)->rest.length<=left->play l left done rest s p=(0,done++rest,s+rest.length,p):=by
 intro left
 induction left with
 | zero =>
  intro done rest s p _ h
  have:rest= []:=List.length_eq_zero_iff.1 (by omega)
  subst this
  rw[play_end rfl];simp
 | succ left ih =>
  intro done rest s p hw h
  by_cases h0:rest.length=0
  ·have:rest= []:=List.length_eq_zero_iff.1 h0
   subst this
   rw[play_end rfl];simp
  ·rw[play_on h0 (hw done.length (Nat.le_refl _) (by rw[List.length_append];omega))]
   have e:done++rest.take 1++rest.drop 1=done++rest:=by rw[List.append_assoc,List.take_append_drop]
   rw[ih _ _ _ _ (by
    rw[e];intro k h1 h2
    exact hw k (by rw[List.length_append] at h1;omega) h2) (by rw[List.length_drop];omega)]
   rw[e,List.length_drop]
   congr 3
   omega
def stirsB (P:Int->Bool) (r:Rule):Bool:= !(decide (r.source.length=1))||decide (0<r.after.length)||r.fin||r.target.any P
def steadyB (l:List Rule):Bool:=sureB l&& !(l.any (stirsB (S.memb (firstsL l))))
def pick (l:List Rule) (t:List Int) (k:Int):Option Rule:=l.find? fun r=>matchB r t k
def without (l:List Rule) (k:Nat):List Rule:=l.take k++l.drop (k+1)
end Go.Proofs.YtmcljejgbikbhaaGreatDoor.K
namespace Go.Proofs.YtmcljejgbikbhaaGreatDoor
open Go.RowKit
set_option maxRecDepth 20000
set_option linter.unusedSimpArgs false
set_option linter.unusedVariables false
end Go.Proofs.YtmcljejgbikbhaaGreatDoor
