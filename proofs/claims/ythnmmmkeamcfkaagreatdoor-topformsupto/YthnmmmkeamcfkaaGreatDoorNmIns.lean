import Derived.Sort.Lot0
import Derived.Test.YthnmmmkeamcfkaaGreatDoorZPivot
set_option maxHeartbeats 0
set_option maxRecDepth 20000
set_option linter.unusedSimpArgs false
set_option linter.unusedVariables false
namespace Go.Proofs.YthnmmmkeamcfkaaGreatDoor
open Go.Proofs.Tryz
namespace Nm
open Go.Sort
def cls (r:Int):Int:=if r=807∨r=808 then 202 else if r=803 then 220 else if r=768∨r=769∨r=770∨r=771∨r=776∨r=778∨r=780 then 230 else 0
def cmp (x y:Int):Int:=if cls x<cls y then -1 else if cls y<cls x then 1 else 0
theorem zd7 {x y:Int}:cmp x y<0↔cls x<cls y:=by
 unfold cmp
 by_cases h:cls x<cls y
 ·simp[h]
 ·rw[if_neg h];split <;> simp[h]
def Srt (l:List Int):Prop:=l.Pairwise fun a b=>cls a<=cls b
def Eqv (a b:List Int):Prop:=∀c,a.filter (fun x=>cls x==c)=b.filter (fun x=>cls x==c)
theorem Eqv.refl (a:List Int):Eqv a a:=fun _=>rfl
theorem Eqv.symm {a b:List Int}(h:Eqv a b):Eqv b a:=fun c=>(h c).symm
theorem Eqv.trans {a b c:List Int}(h:Eqv a b)(h':Eqv b c):Eqv a c:=fun z=>(h z).trans (h' z)
theorem Eqv.app {a b c d:List Int}(h:Eqv a b)(h':Eqv c d):Eqv (a++c) (b++d):=fun z=>by rw[List.filter_append,List.filter_append,h z,h' z]
theorem Eqv.rot {U V:List Int}(h:∀x∈U,∀y∈V,cls y<cls x):Eqv (U++V) (V++U):=fun c=>by
 rw[List.filter_append,List.filter_append]
 by_cases hu:∃x∈U,cls x=c
 ·obtain⟨x,hx,rfl⟩:=hu;have:V.filter (fun y=>cls y==cls x)= []:=List.filter_eq_nil_iff.2 fun y hy=>by have:=h x hx y hy;simp;omega
  rw[this];simp
 ·have:U.filter (fun y=>cls y==c)= []:=List.filter_eq_nil_iff.2 fun y hy=>by simp;intro e;exact hu ⟨y,hy,e⟩
  rw[this];simp
theorem Eqv.mem {a b:List Int}(h:Eqv a b){x:Int}(hx:x∈a):x∈b:=by
 have h1:x∈a.filter (fun y=>cls y==cls x):=List.mem_filter.2 ⟨hx,by simp⟩;rw[h] at h1;exact(List.mem_filter.1 h1).1
theorem uniq:∀ {a b:List Int},Srt a->Srt b->Eqv a b->a=b
 | [],b,_,_,h=>by
  cases b with
  | nil=>rfl
  | cons y b=>exact absurd (h.symm.mem (List.mem_cons_self ..)) (by simp)
 | x::a,[],_,_,h=>absurd (h.mem (List.mem_cons_self ..)) (by simp)
 | x::a,y::b,ha,hb,h=>by
  have ha':=List.pairwise_cons.1 ha;have hb':=List.pairwise_cons.1 hb
  have h1:cls y<=cls x:=by
   rcases List.mem_cons.1 (h.mem (List.mem_cons_self ..)) with e | e
   ·rw[e];exact Int.le_refl _
   ·exact hb'.1 x e
  have h2:cls x<=cls y:=by
   rcases List.mem_cons.1 (h.symm.mem (List.mem_cons_self ..)) with e | e
   ·rw[e];exact Int.le_refl _
   ·exact ha'.1 y e
  have e:cls x=cls y:=by omega
  have h3:=h (cls x);rw[List.filter_cons_of_pos (by simp),List.filter_cons_of_pos (by simp[e])] at h3;obtain⟨rfl,_⟩:=List.cons.inj h3;congr 1;refine uniq ha'.2 hb'.2 fun c=> ?_
  have h4:=h c
  by_cases hc:cls x=c
  ·rw[List.filter_cons_of_pos (by simp[hc]),List.filter_cons_of_pos (by simp[hc])] at h4;exact(List.cons.inj h4).2
  ·rw[List.filter_cons_of_neg (by simp[hc]),List.filter_cons_of_neg (by simp[hc])] at h4;exact h4
theorem Srt.app {a b:List Int}(ha:Srt a)(hb:Srt b)(h:∀x∈a,∀y∈b,cls x<=cls y):Srt (a++b):=List.pairwise_append.2 ⟨ha,hb,h⟩
theorem Srt.parts {a b:List Int}(h:Srt (a++b)):Srt a/\Srt b/\∀x∈a,∀y∈b,cls x<=cls y:=List.pairwise_append.1 h
theorem Srt.one (x:Int):Srt [x]:=List.pairwise_singleton _ _
theorem Srt.nil:Srt []:=List.Pairwise.nil
theorem Srt.ahead {a b:List Int}{y:Int}(h:Srt (a++y::b)){x:Int}(hx:x∈a):cls x<=cls y:=h.parts.2.2 x hx y (List.mem_cons_self ..)
theorem Srt.behind {a b:List Int}{y:Int}(h:Srt (a++y::b)){x:Int}(hx:x∈b):cls y<=cls x:=(List.pairwise_cons.1 h.parts.2.1).1 x hx
/-! rows as lists -/
theorem zc4 (A B:List Int)(x:Int){i:Nat}(hi:i=A.length):(A++x::B).toArray[i]! = x:=by
 subst hi;simp
theorem zvt {L:List Int}{i:Nat}(hi:i<L.length):L.toArray[i]! = L[i]:=by simp[hi]
theorem zj0 (A B C:List Int)(x y:Int){i j:Nat}(hi:i=A.length)(hj:j=A.length+1+B.length):swp (A++x::(B++y::C)).toArray i j=(A++y::(B++x::C)).toArray:=by
 have h1:=zc4 A (B++y::C) x hi
 have h2:(A++x::(B++y::C)).toArray[j]! = y:=by
  have:=zc4 (A++x::B) C y (i:=j) (by simp;omega);simpa using this
 unfold swp;rw[h1,h2];subst hi;rw[List.setIfInBounds_toArray,List.setIfInBounds_toArray];congr 1;have e1:(A++x::(B++y::C)).set A.length y=(A++y::B)++y::C:=by simp
 rw[e1,show j=(A++y::B).length by simp;omega];simp
theorem zha (A B C:List Int)(x y:Int){i j:Nat}(hi:i=A.length)(hj:j=A.length+1+B.length):swp (A++x::(B++y::C)).toArray j i=(A++y::(B++x::C)).toArray:=by
 rw[<- zj0 A B C x y hi hj];have hij:i≠j:=by omega
 have h1:=zc4 A (B++y::C) x hi
 have h2:(A++x::(B++y::C)).toArray[j]! = y:=by
  have:=zc4 (A++x::B) C y (i:=j) (by simp;omega);simpa using this
 unfold swp;rw[h1,h2];apply Array.ext_getElem?;intro k;simp only[Array.getElem?_setIfInBounds,Array.size_setIfInBounds]
 by_cases e1:i=k
 ·subst e1;simp[Ne.symm hij]
 ·by_cases e2:j=k
  ·subst e2;simp[e1]
  ·simp[e1,e2]
def ex (P U M V Q:List Int) (k:Nat):List Int:=P++(V.take k++(U.drop k++(M++(U.take k++(V.drop k++Q)))))
theorem zr7 (P U M V Q:List Int):ex P U M V Q 0=P++U++M++V++Q:=by simp[ex]
theorem zvo (P U M V Q:List Int){k:Nat}(h1:U.length=k)(h2:V.length=k):ex P U M V Q k=P++V++M++U++Q:=by
 unfold ex;rw[List.take_of_length_le (by omega),List.take_of_length_le (by omega),List.drop_eq_nil_of_le (by omega),List.drop_eq_nil_of_le (by omega)];simp
theorem zr8 (P U M V Q:List Int){k a b:Nat}(hu:k<U.length)(hv:V.length=U.length)(ha:a=P.length)(hb:b=P.length+U.length+M.length):swp (ex P U M V Q k).toArray (a+k) (b+k)=(ex P U M V Q (k+1)).toArray:=by
 unfold ex;rw[List.drop_eq_getElem_cons hu,List.drop_eq_getElem_cons (l:=V) (by omega),List.take_add_one,List.take_add_one,List.getElem?_eq_getElem hu,List.getElem?_eq_getElem (show k<V.length by omega)];have h:=zj0 (P++V.take k) (U.drop (k+1)++(M++U.take k)) (V.drop (k+1)++Q) U[k] (V[k]'(by omega)) (i:=a+k) (j:=b+k) (by simp;omega) (by simp;omega);simp only[List.append_assoc,List.cons_append,Option.toList_some,List.nil_append] at h ⊢;exact h
end Nm
namespace Nm
abbrev Pr:=Int×Int×Int
def tab:List Pr:= [(65,768,192),(69,768,200),(73,768,204),(79,768,210),(85,768,217),(97,768,224),(101,768,232),(105,768,236),(111,768,242),(117,768,249),(65,769,193),(69,769,201),(73,769,205),(79,769,211),(85,769,218),(89,769,221),(97,769,225),(101,769,233),(105,769,237),(111,769,243),(117,769,250),(121,769,253),(65,770,194),(69,770,202),(73,770,206),(79,770,212),(85,770,219),(97,770,226),(101,770,234),(105,770,238),(111,770,244),(117,770,251),(65,771,195),(78,771,209),(79,771,213),(97,771,227),(110,771,241),(111,771,245),(65,776,196),(69,776,203),(73,776,207),(79,776,214),(85,776,220),(97,776,228),(101,776,235),(105,776,239),(111,776,246),(117,776,252),(121,776,255),(65,778,197),(97,778,229),(67,780,268),(83,780,352),(90,780,381),(99,780,269),(115,780,353),(122,780,382),(67,807,199),(83,807,350),(99,807,231),(115,807,351),(65,808,260),(69,808,280),(97,808,261),(101,808,281),(65,803,7840),(69,803,7864),(79,803,7884),(97,803,7841),(101,803,7865),(111,803,7885),(7841,770,7853),(7865,770,7879),(7885,770,7897)]
def rowL:List (Int×List Int×List Int):= [(768,[65,69,73,79,85,97,101,105,111,117],[192,200,204,210,217,224,232,236,242,249]),(769,[65,69,73,79,85,89,97,101,105,111,117,121],[193,201,205,211,218,221,225,233,237,243,250,253]),(770,[65,69,73,79,85,97,101,105,111,117],[194,202,206,212,219,226,234,238,244,251]),(771,[65,78,79,97,110,111],[195,209,213,227,241,245]),(776,[65,69,73,79,85,97,101,105,111,117,121],[196,203,207,214,220,228,235,239,246,252,255]),(778,[65,97],[197,229]),(780,[67,83,90,99,115,122],[268,352,381,269,353,382]),(807,[67,83,99,115],[199,350,231,351]),(808,[65,69,97,101],[260,280,261,281]),(803,[65,69,79,97,101,111],[7840,7864,7884,7841,7865,7885]),(770,[7841,7865,7885],[7853,7879,7897])]
def rowB:List (Int×ByteArray×ByteArray):= [(768,⟨#[65,69,73,79,85,97,101,105,111,117]⟩,⟨#[195,128,195,136,195,140,195,146,195,153,195,160,195,168,195,172,195,178,195,185]⟩),(769,⟨#[65,69,73,79,85,89,97,101,105,111,117,121]⟩,⟨#[195,129,195,137,195,141,195,147,195,154,195,157,195,161,195,169,195,173,195,179,195,186,195,189]⟩),(770,⟨#[65,69,73,79,85,97,101,105,111,117]⟩,⟨#[195,130,195,138,195,142,195,148,195,155,195,162,195,170,195,174,195,180,195,187]⟩),(771,⟨#[65,78,79,97,110,111]⟩,⟨#[195,131,195,145,195,149,195,163,195,177,195,181]⟩),(776,⟨#[65,69,73,79,85,97,101,105,111,117,121]⟩,⟨#[195,132,195,139,195,143,195,150,195,156,195,164,195,171,195,175,195,182,195,188,195,191]⟩),(778,⟨#[65,97]⟩,⟨#[195,133,195,165]⟩),(780,⟨#[67,83,90,99,115,122]⟩,⟨#[196,140,197,160,197,189,196,141,197,161,197,190]⟩),(807,⟨#[67,83,99,115]⟩,⟨#[195,135,197,158,195,167,197,159]⟩),(808,⟨#[65,69,97,101]⟩,⟨#[196,132,196,152,196,133,196,153]⟩),(803,⟨#[65,69,79,97,101,111]⟩,⟨#[225,186,160,225,186,184,225,187,140,225,186,161,225,186,185,225,187,141]⟩),(770,⟨#[225,186,161,225,186,185,225,187,141]⟩,⟨#[225,186,173,225,187,135,225,187,153]⟩)]
def mk (x:Int×List Int×List Int):List Pr:=(x.2.1.zip x.2.2).map fun y=>(y.1,x.1,y.2)
theorem ztb:rowL.flatMap mk=tab:=by decide +kernel
def look (l:List Pr) (r:Int):Option Pr:=l.find? fun p=>p.2.2==r
def join (l:List Pr) (a b:Int):Option Pr:=l.find? fun p=>p.1==a&&p.2.1==b
theorem zl9 {α:Type}{l:List α}{P:α->Bool}(h:∀x∈l,∀y∈l,P x=true->P y=true->x=y):l.reverse.find? P=l.find? P:=by
 cases h1:l.find? P with
 | none =>
  rw[List.find?_eq_none] at h1 ⊢;exact fun x hx=>h1 x (List.mem_reverse.1 hx)
 | some x =>
  cases h2:l.reverse.find? P with
  | none =>
   rw[List.find?_eq_none] at h2;exact absurd (List.find?_some h1) (h2 x (List.mem_reverse.2 (List.mem_of_find?_eq_some h1)))
  | some y=>exact congrArg some (h y (List.mem_reverse.1 (List.mem_of_find?_eq_some h2)) x (List.mem_of_find?_eq_some h1) (List.find?_some h2) (List.find?_some h1))
theorem zpu:∀x∈tab,∀y∈tab,x.2.2=y.2.2->x=y:=by decide +kernel
theorem ztc:∀x∈tab,∀y∈tab,x.1=y.1->x.2.1=y.2.1->x=y:=by decide +kernel
theorem zt7 (r:Int):look tab.reverse r=look tab r:=zl9 fun x hx y hy h1 h2=>zpu x hx y hy (by simp at h1 h2;omega)
theorem zug (a b:Int):join tab.reverse a b=join tab a b:=zl9 fun x hx y hy h1 h2=>by
 simp at h1 h2;exact ztc x hx y hy (by omega) (by omega)
def full:Nat->Int->List Int
 | 0,r=> [r]
 | n+1,r=>match look tab r with
  | none=> [r]
  | some p=>full n p.1++ [p.2.1]
theorem zv0:∀x∈tab,∀y∈tab,y.2.2=x.1->∀z∈tab,¬z.2.2=y.1:=by decide +kernel
theorem zcm {r:Int}{p:Pr}(h:look tab r=some p):p∈tab/\p.2.2=r:=⟨List.mem_of_find?_eq_some h,by have:=List.find?_some h;simpa using this⟩
theorem zrf {r:Int}(h:∀z∈tab,¬z.2.2=r):look tab r=none:=List.find?_eq_none.2 fun z hz=>by simp;exact h z hz
def deep:Nat->Int->Prop
 | 0,r=>look tab r=none
 | n+1,r=>∀p,look tab r=some p->deep n p.1
theorem zmd (r:Int):deep 2 r:=fun p hp q hq=>zrf fun z hz=>zv0 p (zcm hp).1 q (zcm hq).1 (zcm hq).2 z hz
def fl (r:Int):List Int:=full 2 r
theorem zxs (r:Int):1<=(fl r).length/\(fl r).length<=3:=by
 unfold fl;rw[full];cases h1:look tab r with
 | none=>simp
 | some p =>
  simp only[full];cases h2:look tab p.1 with
  | none=>simp
  | some q=>simp
theorem zid:∀x∈tab,0<=x.1/\x.1<=1114111/\0<=x.2.1/\x.2.1<=1114111/\0<=x.2.2/\x.2.2<=1114111:=by decide +kernel
end Nm
section
open Go.RowKit Go.Sort
namespace Nm
def In (w0:World) (blk off n:Nat) (L:List Int) (w:World):Prop:=L.length=n/\(∃d0:Array Int,Holds Z.en w0 blk off d0/\d0.size=n)/\Z.At w0 blk off n L.toArray w
theorem In.start {w:World}{blk off:Nat}{L:List Int}(h:Holds Z.en w blk off L.toArray):In w blk off L.length L w:=⟨rfl,⟨_,h,by simp⟩,by have:=Z.At.start h;simpa using this⟩
theorem In.cell {w0 w:World}{blk off n:Nat}{L:List Int}(h:In w0 blk off n L w):∀t,t<n->w.cell? ⟨blk,off+t,none⟩=some (.int .i32 L.toArray[t]!):=by
 obtain⟨hl,⟨d0,h0,hs⟩,ha⟩:=h;exact fun t ht=>ha.cell h0 hs ht
theorem In.free {w0 w:World}{blk off n:Nat}{L:List Int}(h:In w0 blk off n L w):∀t,t<n->w.frozen? ⟨blk,off+t,none⟩=false:=by
 obtain⟨hl,⟨d0,h0,hs⟩,ha⟩:=h;exact fun t ht=>ha.free h0 hs ht
theorem In.drew {w0 w:World}{blk off n:Nat}{L:List Int}(h:In w0 blk off n L w)(q:Nat):In w0 blk off n L (w.drewN q):=by
 obtain⟨hl,h0,ha⟩:=h;exact⟨hl,h0,ha.drew q⟩
theorem In.swap {w0 w:World}{blk off n:Nat}{L L':List Int}(h:In w0 blk off n L w){i j:Nat}(hi:i<n)(hj:j<n)(e:swp L.toArray i j=L'.toArray)(q:Nat) :
  In w0 blk off n L' (((w.drewN q).setCell ⟨blk,off+i,none⟩ (.int .i32 L.toArray[j]!)).setCell ⟨blk,off+j,none⟩ (.int .i32 L.toArray[i]!)):=by
 obtain⟨hl,h0,ha⟩:=h;have h1:=ha.swap hi hj q;rw[e] at h1;exact⟨by have:=h1.1;simpa using this,h0,h1⟩
theorem In.of {w0 w:World}{blk off n:Nat}{L L':List Int}(h:In w0 blk off n L w)(e:L=L'):In w0 blk off n L' w:=e▸h
end Nm
theorem zcj (r:Int)(w:World):Calls prog 96 #[.int .i32 r] w fun e w'=>e= .returned (.int .i64 (Nm.cls r))/\w'=w:=by
 have HC:Hid (Nm.cls r=if r=807∨r=808 then 202 else if r=803 then 220 else if r=768∨r=769∨r=770∨r=771∨r=776∨r=778∨r=780 then 230 else 0):=(rfl:Nm.cls r=_)
 go_enter func96,ntmps96
 go_wp2
 all_goals go_ret
 all_goals refine⟨?_,rfl⟩
 all_goals rw[HC.out]
 all_goals simp_all
theorem zq5 (w:World)(x:Int):Calls prog 146 #[.int .i64 x] w fun e w'=>e= .returned (.bool false)/\w'=w:=by
 go_enter func146,ntmps146
 go_wp2;go_ret
 exact⟨by simp,rfl⟩
theorem zdz (w:World)(x y:Int):Calls prog 95 #[.int .i64 x,.int .i64 y] w fun e w'=>e= .returned (.int .i64 (if x<y then -1 else if y<x then 1 else 0))/\w'=w:=by
 go_enter func95,ntmps95
 go_wp2_with (go_at_call 146;refine(zq5 _ _).mono ?_;rintro e w' ⟨rfl,rfl⟩)
 all_goals go_ret
 all_goals refine⟨?_,rfl⟩
 all_goals simp_all
 all_goals (repeat' split) <;> first | rfl | omega
theorem zbi (w:World)(x y:Int):Calls prog 94 #[.int .i32 x,.int .i32 y] w fun e w'=>e= .returned (.int .i64 (Nm.cmp x y))/\w'=w:=by
 have HC:Hid (Nm.cmp x y=if Nm.cls x<Nm.cls y then -1 else if Nm.cls y<Nm.cls x then 1 else 0):=(rfl:Nm.cmp x y=_);have H1:=qH <| fun r X=>zcj r X
 have H2:=qH <| fun a b X=>zdz X a b
 generalize Nm.cls=f at HC H1
 go_enter func94,ntmps94
 go_wp2_with fail
 refine(H1.out x _).mono ?_;rintro e w1 ⟨rfl,rfl⟩
 go_wp2_with fail
 refine(H1.out y _).mono ?_;rintro e w1 ⟨rfl,rfl⟩
 go_wp2_with fail
 refine(H2.out (f x) (f y) _).mono ?_;rintro e w1 ⟨rfl,rfl⟩;rw[<- HC.out];clear HC H1 H2;go_wp2;go_ret;exact⟨rfl,rfl⟩
end
section
open Go.RowKit Go.Sort
theorem zq1 (w0 w:World)(blk off n cap a b k:Nat)(cv:Value)(P U M V Q:List Int)(h0:Nm.In w0 blk off n (P++U++M++V++Q) w)(ha:a=P.length)(hb:b=P.length+U.length+M.length)(hk:U.length=k)(hv:V.length=k)(hsz:n<1152921504606846976) :
  Calls prog 228 #[.slice (some ⟨blk,off,none⟩) n cap,.int .i64 a,.int .i64 b,.int .i64 k,cv] w fun e w'=>e= .returned (.tuple #[])/\Nm.In w0 blk off n (P++V++M++U++Q) w':=by
 have hlen:=h0.1;simp only[List.length_append] at hlen;have hbn:b+k<=n:=by omega
 have hab:a+k<=b:=by omega
 have HL:Hid (a=P.length/\b=P.length+U.length+M.length/\U.length=k/\V.length=k/\b+k<=n/\a+k<=b):=⟨ha,hb,hk,hv,hbn,hab⟩
 have HS:Hid (Nm.In w0 blk off n (Nm.ex P U M V Q 0) w):=by
  show Nm.In _ _ _ _ _ _;rw[Nm.zr7];exact h0
 clear h0 ha hb hk hv hlen
 go_enter func228,ntmps228
 go_wp2
 go_loopw [10] (fun vi wr=>∃i:Nat,vi= .int .i64 i/\i<=k/\Hid (Nm.In w0 blk off n (Nm.ex P U M V Q i) wr)) (fun vi _=>k - (RowKit.intOf vi).toNat)
 case atStart=>exact⟨0,rfl,Nat.zero_le _,HS.out⟩
 case round =>
  obtain⟨i,rfl,hi,HE⟩:=hrel;clear HS
  by_cases hlt:i<k
  ·obtain⟨G,hG⟩:∃G:Nat->Int,∀t,G t=(Nm.ex P U M V Q i).toArray[t]! := ⟨fun t=>(Nm.ex P U M V Q i).toArray[t]!,fun _=>rfl⟩;have hcw:∀t,t<n->wr.cell? ⟨blk,off+t,none⟩=some (.int .i32 (G t)):=fun t ht=>by rw[hG];exact HE.out.cell t ht
   have hfw:=fun t ht=>HE.out.free t ht
   have HSw:Hid (∀q,Nm.In w0 blk off n (Nm.ex P U M V Q (i+1)) (((wr.drewN q).setCell ⟨blk,off+(a+i),none⟩ (.int .i32 (G (b+i)))).setCell ⟨blk,off+(b+i),none⟩ (.int .i32 (G (a+i))))):=fun q=>by
    rw[hG,hG];exact HE.out.swap (by omega) (by omega) (Nm.zr8 P U M V Q (by have:=HL.out;omega) (by have:=HL.out;omega) HL.out.1 HL.out.2.1) q
   have hne:¬(a+i=b+i):=by omega
   clear hG HE;go_wp2
   go_region
   all_goals go_wp2
   go_roundw
   case rel=>exact⟨i+1,by go_num,by omega,HSw.out 1⟩
   case measure=>simp[RowKit.intOf];omega
  ·have e:i=k:=by omega
   subst e;go_wp2
   go_end0
   refine⟨rfl,?_⟩;have h:=HE.out;rw[Nm.zvo P U M V Q HL.out.2.2.1 HL.out.2.2.2.1] at h;exact h
theorem zq4 (w0 w:World)(blk off n cap a m b:Nat)(cv:Value)(P U V Q:List Int)(h0:Nm.In w0 blk off n (P++U++V++Q) w)(ha:a=P.length)(hm:m=P.length+U.length)(hb:b=P.length+U.length+V.length)(hu:0<U.length)(hv:0<V.length)(hsz:n<1152921504606846976) :
  Calls prog 206 #[.slice (some ⟨blk,off,none⟩) n cap,.int .i64 a,.int .i64 m,.int .i64 b,cv] w fun e w'=>e= .returned (.tuple #[])/\Nm.In w0 blk off n (P++V++U++Q) w':=by
 have hlen:=h0.1;simp only[List.length_append] at hlen;have HSw:=qH <| fun X a b k P U M V Q h1 h2 h3 h4 h5=>zq1 w0 X blk off n cap a b k cv P U M V Q h1 h2 h3 h4 h5 hsz
 obtain⟨i0,hi0⟩:∃i,U.length=i:=⟨_,rfl⟩;obtain⟨j0,hj0⟩:∃j,V.length=j:=⟨_,rfl⟩;have e1:(m:Int) - (a:Int)=(i0:Int):=by omega
 have e2:(b:Int) - (m:Int)=(j0:Int):=by omega
 have hmn:m+j0<=n:=by omega
 have him:i0<=m:=by omega
 have hi0p:0<i0:=by omega
 have hj0p:0<j0:=by omega
 have HS:Hid (∃P' U' V' Q':List Int,Nm.In w0 blk off n (P'++U'++V'++Q') w/\U'.length=i0/\V'.length=j0/\m=P'.length+U'.length/\P'++V'++U'++Q'=P++V++U++Q):=⟨P,U,V,Q,h0,hi0,hj0,hm,rfl⟩;obtain⟨T,hT⟩:∃T,T=P++V++U++Q:=⟨_,rfl⟩;rw[<- hT] at HS ⊢;clear h0 ha hm hb hu hv hlen hi0 hj0 hT
 go_enter func206,ntmps206
 go_wp2
 go_loopw [10,11] (fun vi vj wr=>∃i j:Nat,vi= .int .i64 i/\vj= .int .i64 j/\0<i/\0<j/\i<=m/\m+j<=n/\Hid (∃P U V Q:List Int,Nm.In w0 blk off n (P++U++V++Q) wr/\U.length=i/\V.length=j/\m=P.length+U.length/\P++V++U++Q=T)) (fun vi vj _=>(RowKit.intOf vi).toNat+(RowKit.intOf vj).toNat)
 case atStart=>exact⟨i0,j0,rfl,rfl,hi0p,hj0p,him,hmn,HS.out⟩
 case round =>
  obtain⟨i,j,rfl,rfl,hi,hj,him',hmn',HE⟩:=hrel;clear HS e1 e2 hi0p hj0p him hmn
  by_cases hij:i=j
  ·obtain⟨P',U',V',Q',h1,h2,h3,h4,h5⟩:=HE.out
   have hC:Calls prog 228 #[.slice (some ⟨blk,off,none⟩) n cap,.int .i64 ((m:Int) - (i:Int)),.int .i64 m,.int .i64 i,cv] wr fun e w'=>e= .returned (.tuple #[])/\Nm.In w0 blk off n T w':=by
    have h:=HSw.out wr (m - i) m i P' U' [] V' Q' (by simpa using h1) (by omega) (by simp;omega) h2 (by omega);rw[List.append_nil,h5] at h;rw[show (m:Int) - (i:Int)=((m - i:Nat):Int) by omega];exact h
   have HC:=qH hC;clear hC HE HSw h1 h2 h3 h4 h5;subst hij
   go_wp2_with fail
   refine HC.out.mono ?_;rintro e w1 ⟨rfl,h6⟩;have H6:=qH h6;clear h6 HC;go_wp2
   go_end0
   exact⟨rfl,H6.out⟩
  ·by_cases hgt:j<i
   ·obtain⟨P',U',V',Q',h1,h2,h3,h4,h5⟩:=HE.out
    have hC:Calls prog 228 #[.slice (some ⟨blk,off,none⟩) n cap,.int .i64 ((m:Int) - (i:Int)),.int .i64 m,.int .i64 j,cv] wr fun e w'=>e= .returned (.tuple #[])/\Nm.In w0 blk off n (P'++V'++U'.drop j++U'.take j++Q') w':=by
     have h:=HSw.out wr (m - i) m j P' (U'.take j) (U'.drop j) V' Q' (by rw[List.append_assoc P',List.take_append_drop];exact h1) (by omega) (by simp;omega) (by simp;omega) h3;rw[show (m:Int) - (i:Int)=((m - i:Nat):Int) by omega];exact h
    have HC:=qH hC;have HX:Hid (∀w',Nm.In w0 blk off n (P'++V'++U'.drop j++U'.take j++Q') w'->∃P U V Q:List Int,Nm.In w0 blk off n (P++U++V++Q) w'/\U.length=i - j/\V.length=j/\m=P.length+U.length/\P++V++U++Q=T):=fun w' hw=>⟨P'++V',U'.drop j,U'.take j,Q',hw,by simp;omega,by simp;omega,by simp;omega,by rw[<- h5,List.append_assoc (P'++V'),List.take_append_drop]⟩
    clear hC HE h1 h2 h3 h4 h5
    go_wp2_with fail
    refine HC.out.mono ?_;rintro e w1 ⟨rfl,h6⟩;have H6:=HX.out w1 h6;have H7:=qH H6;clear H6 h6 HC HX;go_wp2
    go_roundw
    case rel=>exact⟨i - j,j,by congr 1;omega,rfl,by omega,hj,by omega,hmn',H7.out⟩
    case measure=>simp[RowKit.intOf];omega
   ·obtain⟨P',U',V',Q',h1,h2,h3,h4,h5⟩:=HE.out
    have hC:Calls prog 228 #[.slice (some ⟨blk,off,none⟩) n cap,.int .i64 ((m:Int) - (i:Int)),.int .i64 ((m:Int)+(j:Int) - (i:Int)),.int .i64 i,cv] wr fun e w'=>e= .returned (.tuple #[])/\Nm.In w0 blk off n (P'++V'.drop (j - i)++V'.take (j - i)++U'++Q') w':=by
     have h:=HSw.out wr (m - i) (m+j - i) i P' U' (V'.take (j - i)) (V'.drop (j - i)) Q' (by rw[List.append_assoc (P'++U'),List.take_append_drop];exact h1) (by omega) (by simp;omega) h2 (by simp;omega);rw[show (m:Int) - (i:Int)=((m - i:Nat):Int) by omega,show (m:Int)+(j:Int) - (i:Int)=((m+j - i:Nat):Int) by omega];exact h
    have HC:=qH hC;have HX:Hid (∀w',Nm.In w0 blk off n (P'++V'.drop (j - i)++V'.take (j - i)++U'++Q') w'->∃P U V Q:List Int,Nm.In w0 blk off n (P++U++V++Q) w'/\U.length=i/\V.length=j - i/\m=P.length+U.length/\P++V++U++Q=T):=fun w' hw=>⟨P',V'.drop (j - i),V'.take (j - i),U'++Q',by rw[<- List.append_assoc];exact hw,by simp;omega,by simp;omega,by simp;omega,by rw[<- h5,List.append_assoc P' (V'.take (j - i)),List.take_append_drop];simp⟩
    have h7:i<j:=by omega
    clear hC HE h1 h2 h3 h4 h5
    go_wp2_with fail
    refine HC.out.mono ?_;rintro e w1 ⟨rfl,h6⟩;have H6:=HX.out w1 h6;have H7:=qH H6;clear H6 h6 HC HX;go_wp2
    go_roundw
    case rel=>exact⟨i,j - i,rfl,by congr 1;omega,hi,by omega,him',by omega,H7.out⟩
    case measure=>simp[RowKit.intOf];omega
end
section
open Go.RowKit Go.Sort Go.Shelf
namespace Nm
theorem zc9 {D1 D2:List Int}{x:Int}(h:Srt (D1++D2))(h1:∀u∈D1,cls u<=cls x)(h2:∀u∈D2,cls x<cls u):Srt (D1++x::D2):=by
 obtain⟨a,b,c⟩:=h.parts;refine Srt.app a (List.pairwise_cons.2 ⟨fun u hu=>by have:=h2 u hu;omega,b⟩) fun u hu v hv=> ?_
 rcases List.mem_cons.1 hv with rfl | hv
 ·exact h1 u hu
 ·exact c u hu v hv
theorem zda {D1 D2:List Int}{x:Int}(h2:∀u∈D2,cls x<cls u):Eqv (D1++D2++ [x]) (D1++x::D2):=by
 rw[List.append_assoc];exact(Eqv.refl D1).app (Eqv.rot (U:=D2) (V:= [x]) fun u hu y hy=>by simp at hy;subst hy;exact h2 u hu)
def Ins (w0:World) (blk off n a b:Nat) (P S Q:List Int) (i:Nat) (wr:World):Prop :=
 ∃D R:List Int,In w0 blk off n (P++(D++(R++Q))) wr/\D.length+R.length=S.length/\(i<=b->a+D.length=i)/\(b<i->R= [])/\Srt D/\Eqv S (D++R)
def InsJ (w0:World) (blk off n a:Nat) (P D R Q:List Int) (x:Int) (j:Nat) (wr:World):Prop :=
 ∃D1 D2:List Int,D=D1++D2/\a+D1.length=j/\(∀u∈D2,cls x<cls u)/\In w0 blk off n (P++(D1++x::(D2++(R++Q)))) wr
end Nm
theorem ziu (w0 w:World)(blk off n cap a b:Nat)(P S Q:List Int)(h0:Nm.In w0 blk off n (P++S++Q) w)(ha:a=P.length)(hb:b=P.length+S.length)(hsz:n<1152921504606846976) :
  Calls prog 185 #[.slice (some ⟨blk,off,none⟩) n cap,.int .i64 a,.int .i64 b,.func (.func 94) #[] #[]] w fun e w'=>e= .returned (.tuple #[])/\∃S',S'.length=S.length/\Nm.Srt S'/\Nm.Eqv S S'/\Nm.In w0 blk off n (P++S'++Q) w':=by
 have eg:∀args w,(callFunc 94 args).run prog w= .ok (.enter 94 args) w:=enters_of func94 (by kernel_rfl) rfl;have hlen:=h0.1;simp only[List.length_append] at hlen;have hbn:b<=n:=by omega
 have hab:a<=b:=by omega
 have HL:Hid (a=P.length/\b=P.length+S.length/\P.length+S.length+Q.length=n):=⟨ha,hb,hlen⟩
 have HS:Hid (Nm.Ins w0 blk off n a b P S Q (a+1) w):=by
  show Nm.Ins _ _ _ _ _ _ _ _ _ _ _;cases S with
  | nil=>exact⟨[],[],by simpa using h0,rfl,fun h=>by simp at hb;omega,fun _=>rfl,Nm.Srt.nil,Nm.Eqv.refl _⟩
  | cons x S=>exact⟨[x],S,by simpa using h0,by simp;omega,fun _=>rfl,fun h=>by simp at hb;omega,Nm.Srt.one x,Nm.Eqv.refl _⟩
 clear h0 ha hb hlen
 go_enter func185,ntmps185
 go_wp2
 go_loopw [8] (fun vi wr=>∃i:Nat,vi= .int .i64 i/\a<i/\i<=b+1/\Hid (Nm.Ins w0 blk off n a b P S Q i wr)) (fun vi _=>b+1 - (RowKit.intOf vi).toNat)
 case atStart=>exact⟨a+1,by go_num,by omega,by omega,HS.out⟩
 case round =>
  obtain⟨i,rfl,hai,hib,HE⟩:=hrel;clear HS
  by_cases hlt:i<b
  ·obtain⟨D,R,h1,h2,h3,h4,h5,h6⟩:=HE.out
   obtain⟨x,R',rfl⟩:∃x R',R=x::R':=by
    cases R with
    | nil=>exfalso;have:=h3 (by omega);have:=HL.out;simp at h2;omega
    | cons x R'=>exact⟨x,R',rfl⟩
   have HD:Hid (D.length+R'.length+1=S.length/\a+D.length=i/\Nm.Srt D/\Nm.Eqv S (D++x::R')):=⟨by simp at h2;omega,h3 (by omega),h5,h6⟩;have HJ:Hid (Nm.InsJ w0 blk off n a P D R' Q x i wr):=⟨D,[],by simp,HD.out.2.1,fun u hu=>by (cases hu),by simpa using h1⟩
   have HNx:Hid (∀(D1 D2:List Int) (X:World),D=D1++D2->(∀u∈D1,Nm.cls u<=Nm.cls x)->(∀u∈D2,Nm.cls x<Nm.cls u)->Nm.In w0 blk off n (P++(D1++x::(D2++(R'++Q)))) X->Nm.Ins w0 blk off n a b P S Q (i+1) X):=fun D1 D2 X e k1 k2 k3=>by
    obtain⟨d1,d2,d3,d4⟩:=HD.out;have hl:=congrArg List.length e;rw[List.length_append] at hl;refine⟨D1++x::D2,R',by simpa using k3,by simp;omega,fun _=>by simp;omega,fun h=>by omega,Nm.zc9 (e▸d3) k1 k2,d4.trans ?_⟩;have h7:=(Nm.zda (D1:=D1) k2).app (Nm.Eqv.refl R');rw[<- e] at h7;simpa using h7
   have HDs:=qH h5;clear h1 h2 h3 h4 h5 h6 HE HD;go_wp2
   go_loopw [9] (fun vj w2=>∃j:Nat,vj= .int .i64 j/\a<=j/\j<=i/\Hid (Nm.InsJ w0 blk off n a P D R' Q x j w2)) (fun vj _=>(RowKit.intOf vj).toNat)
   case atStart=>exact⟨i,rfl,by omega,qN,HJ.out⟩
   case round =>
    obtain⟨j,rfl,haj,hji,HF⟩:=hrel;clear HJ;obtain⟨D1,D2,hD,hj,hD2,hin⟩:=HF.out;obtain⟨G,hG⟩:∃G:Nat->Int,∀t,G t=(P++(D1++x::(D2++(R'++Q)))).toArray[t]! := ⟨fun t=>(P++(D1++x::(D2++(R'++Q)))).toArray[t]!,fun _=>rfl⟩;have hcw:∀t,t<n->wr.cell? ⟨blk,off+t,none⟩=some (.int .i32 (G t)):=fun t ht=>by rw[hG];exact hin.cell t ht
    have hfw:=fun t ht=>hin.free t ht
    have hGx:G j=x:=by
     rw[hG];have:=Nm.zc4 (P++D1) (D2++(R'++Q)) x (i:=j) (by have:=HL.out.1;simp;omega);simpa using this
    have HIn:=qH hin
    by_cases hja:a<j
    ·obtain⟨D0,y,rfl⟩:∃D0 y,D1=D0++ [y]:=by
      rcases List.eq_nil_or_concat D1 with e | ⟨D0,y,e⟩
      ·subst e;simp at hj;omega
      ·exact⟨D0,y,by simpa using e⟩
     have hl0:a+D0.length+1=j:=by simp at hj;omega
     have hGy:G (j - 1)=y:=by
      rw[hG];have:=Nm.zc4 (P++D0) (x::(D2++(R'++Q))) y (i:=j - 1) (by have:=HL.out.1;simp;omega);simpa using this
     have HW:Hid (Nm.cls x<Nm.cls y->∀q,Nm.InsJ w0 blk off n a P D R' Q x (j - 1) (((wr.drewN q).setCell ⟨blk,off+j,none⟩ (.int .i32 y)).setCell ⟨blk,off+(j - 1),none⟩ (.int .i32 x))):=fun hxy q=>by
      refine⟨D0,y::D2,by rw[hD];simp,by omega,fun u hu=> ?_,?_⟩
      ·rcases List.mem_cons.1 hu with rfl | hu
       ·exact hxy
       ·exact hD2 u hu
      ·have e:=Nm.zha (P++D0) [] (D2++(R'++Q)) y x (i:=j - 1) (j:=j) (by have:=HL.out.1;simp;omega) (by have:=HL.out.1;simp;omega);have e2:P++(D0++ [y]++x::(D2++(R'++Q)))=P++D0++y::([]++x::(D2++(R'++Q))):=by simp
       have h:=(HIn.out.of e2).swap (i:=j) (j:=j - 1) (by omega) (by omega) e q;rw[<- e2,<- hG,<- hG,hGx,hGy] at h;simpa using h
     have HX:Hid (¬Nm.cls x<Nm.cls y->∀q,Nm.Ins w0 blk off n a b P S Q (i+1) (wr.drewN q)):=fun hxy q=>HNx.out _ _ _ hD (fun u hu=>by
      have hs:=hD▸HDs.out;rcases List.mem_append.1 hu with h | h
      ·have:=(hs.parts.1).ahead h;omega
      ·simp at h;subst h;omega) hD2 (HIn.out.drew q)
     have HC:Hid (Nm.cmp x y<0↔Nm.cls x<Nm.cls y):=Nm.zd7;clear hG HF hin HIn hD hD2 hj HNx;go_wp2
     by_cases hxy:Nm.cmp x y<0
     ·go_quiet (first | (go_at_call 94;refine Calls.quiet_of_same (zbi _ _ _)))
      go_wp2
      go_region
      all_goals go_wp2
      go_roundw
      case rel=>exact⟨j - 1,by congr 1;omega,by omega,by omega,HW.out (HC.out.1 hxy) _⟩
      case measure=>simp[RowKit.intOf];omega
     ·go_quiet (first | (go_at_call 94;refine Calls.quiet_of_same (zbi _ _ _)))
      go_wp2
      go_roundw
      case rel=>exact⟨i+1,by go_num,by omega,by omega,HX.out (Int.not_lt.1 fun h=>hxy (HC.out.2 h)) _⟩
      case measure=>simp[RowKit.intOf];omega
    ·have e0:D1= []:=List.eq_nil_of_length_eq_zero (by omega);have HX:=qH <| fun q=>HNx.out _ _ _ hD (fun u hu=>by rw[e0] at hu;cases hu) hD2 (HIn.out.drew q)
     clear hG HF hin HIn hD hD2 hj HNx e0;go_wp2
     go_quiet (first | (go_at_call 94;refine Calls.quiet_of_same (zbi _ _ _)))
     go_wp2
     go_roundw
     case rel=>exact⟨i+1,by go_num,by omega,by omega,HX.out _⟩
     case measure=>simp[RowKit.intOf];omega
  ·go_wp2
   go_end0
   obtain⟨D,R,h1,h2,h3,h4,h5,h6⟩:=HE.out
   have hR:R= []:=by
    by_cases h:b<i
    ·exact h4 h
    ·have:=h3 (by omega);have:=HL.out;exact List.eq_nil_of_length_eq_zero (by omega)
   subst hR;simp only[List.append_nil,List.nil_append] at h1 h6;exact⟨rfl,D,by simpa using h2,h5,h6,by simpa using h1⟩
