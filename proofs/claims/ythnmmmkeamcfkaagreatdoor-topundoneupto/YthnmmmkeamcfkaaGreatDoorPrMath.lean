import Derived.Test.YthnmmmkeamcfkaaGreatDoorCnPass
namespace Go.Proofs.YthnmmmkeamcfkaaGreatDoor
section
open Go.RowKit Go.Lib Go.Sort
def subF (a b:List S.Sp):Bool:=a.all fun x=>b.any fun y=>decide (y.1<=x.1)&&decide (x.2<=y.2)
end
namespace K
open S (Sp)
theorem zfl {t:List Int}{l:List (List Sp)}:∀ {k:Int},runAt t k l=true↔∀(i:Nat) s,l[i]?=some s->0<=k+i/\k+i<t.length/\S.memb s (t.getD (k+i).toNat 0)=true:=by
 induction l with
 | nil=>intro k;simp[runAt]
 | cons x l ih =>
  intro k;rw[runAt,Bool.and_eq_true,ih];simp only[Bool.and_eq_true,decide_eq_true_eq];constructor
  ·rintro ⟨⟨⟨h1,h2⟩,h3⟩,h4⟩ i s hs;cases i with
   | zero =>
    simp only[List.getElem?_cons_zero,Option.some.injEq] at hs;subst hs;have e:k+((0:Nat):Int)=k:=by omega
    rw[e];exact⟨h1,h2,h3⟩
   | succ i =>
    have:=h4 i s (by simpa using hs);rw[show k+((i+1:Nat):Int)=k+1+i by omega];exact this
  ·intro h;refine⟨?_,fun i s hs=> ?_⟩
   ·have:=h 0 x rfl;have e:k+((0:Nat):Int)=k:=by omega
    rw[e] at this;exact⟨⟨this.1,this.2.1⟩,this.2.2⟩
   ·have:=h (i+1) s (by simpa using hs);rw[show k+((i+1:Nat):Int)=k+1+i by omega] at this;exact this
theorem znw {r:Rule}{t:List Int}{k:Int}:matchB r t k=true↔runAt t (k - r.before.length) r.before=true/\runAt t k (r.source++r.after)=true/\(r.start=true->k - r.before.length<=0)/\(r.fin=true->(t.length:Int)<=k+(r.source++r.after).length):=by
 unfold matchB;rw[List.append_assoc,zbn,show k - (r.before.length:Int)+r.before.length=k by omega];simp only[Bool.and_eq_true,Bool.not_eq_true',Bool.and_eq_false_iff,decide_eq_false_iff_not,List.length_append];constructor
 ·rintro ⟨⟨⟨h1,h2⟩,h3⟩,h4⟩;refine⟨h1,h2,fun h=> ?_,fun h=> ?_⟩
  ·rcases h3 with h3 | h3
   ·rw[h] at h3;cases h3
   ·omega
  ·rcases h4 with h4 | h4
   ·rw[h] at h4;cases h4
   ·omega
 ·rintro ⟨h1,h2,h3,h4⟩;refine⟨⟨⟨h1,h2⟩,?_⟩,?_⟩
  ·cases hs:r.start with
   | false=>exact .inl rfl
   | true=>have:=h3 hs;exact .inr (by omega)
  ·cases hs:r.fin with
   | false=>exact .inl rfl
   | true=>have:=h4 hs;exact .inr (by omega)
def withinB:List (List Sp)->List (List Sp)->Bool
 | [],_=>true
 | _::_,[]=>false
 | s::l,u::m=>subF u s&&withinB l m
def coversB (e1:Bool) (l1:List (List Sp)) (e2:Bool) (l2:List (List Sp)):Bool:=withinB l1 l2&& !(e1&& !(e2&&decide (l1.length=l2.length)))
def masksB (a b:Rule):Bool:=coversB a.start a.before.reverse b.start b.before.reverse&&coversB a.fin (a.source++a.after) b.fin (b.source++b.after)
def maskAt (l:List Rule) (k:Nat):Bool:=(l.take k).any fun a=>masksB a ((l[k]?).getD noRule)
def maskedN (l:List Rule) (n:Nat):List Int:=((List.range n).filter (maskAt l)).map fun k:Nat=>(k:Int)
def maskedL (l:List Rule):List Int:=maskedN l l.length
def behind (l:List Rule):Nat:=l.foldl (fun m r=>max m r.before.length) 0
def ahead (l:List Rule):Nat:=l.foldl (fun m r=>max m (r.source.length+r.after.length)) 0
theorem foldmax {f:Rule->Nat}{l:List Rule}:∀m,m<=l.foldl (fun m r=>max m (f r)) m/\∀r∈l,f r<=l.foldl (fun m r=>max m (f r)) m:=by
 induction l with
 | nil=>intro m;simp
 | cons x l ih =>
  intro m;rw[List.foldl_cons];have:=ih (max m (f x));refine⟨by omega,fun r hr=> ?_⟩;rcases List.mem_cons.1 hr with rfl | hr
  ·omega
  ·exact this.2 r hr
theorem zuq {l:List Rule}{r:Rule}(h:r∈l):r.source.length+r.after.length<=ahead l:=(foldmax (f:=fun r=>r.source.length+r.after.length) 0).2 r h
theorem zlg {l:List Rule}{k:Nat}{r:Rule}(h:l[k]?=some r):behind (l.take (k+1))=max (behind (l.take k)) r.before.length:=by
 unfold behind;rw[List.take_add_one,h,List.foldl_append];rfl
theorem zop {l:List Rule}{k:Nat}{r:Rule}(h:l[k]?=some r):ahead (l.take (k+1))=max (ahead (l.take k)) (r.source.length+r.after.length):=by
 unfold ahead;rw[List.take_add_one,h,List.foldl_append];rfl
def goesB (r:Rule):Bool:=decide (r.cursor=r.target.length)
def sureB (l:List Rule):Bool:=l.all goesB
theorem zcp {t u:List Int}(h:allR t=true)(hs:∀x∈u,x∈t):allR u=true:=by
 unfold allR at h ⊢;rw[List.all_eq_true] at h ⊢;exact fun x hx=>h x (hs x hx)
theorem zls {t:List Int}:textE t=0↔t.length<=4000/\allR t=true:=by
 unfold textE
 by_cases h:4000<t.length
 ·rw[if_pos h];exact⟨fun h=>absurd h (by decide),fun h=>by omega⟩
 ·rw[if_neg h];cases allR t <;> simp <;> omega
theorem zfz {r:Rule}{t:List Int}{k:Int}(hE:ruleE r=0)(h:matchB r t k=true):0<=k/\k<t.length/\S.memb (headS r) (t.getD k.toNat 0)=true:=by
 have hs:=(zal hE).2.2.2.1;rw[znw,zfl,zfl] at h;obtain⟨x,hx⟩:∃x,r.source[0]?=some x:=⟨r.source[0],by simp⟩;have:=h.2.1 0 x (by rw[List.getElem?_append_left hs];exact hx)
 have e:headS r=x:=by
  unfold headS;cases hq:r.source with
  | nil=>rw[hq] at hx;simp at hx
  | cons y l=>rw[hq] at hx;simpa using hx
 rw[e,show k+((0:Nat):Int)=k by omega] at *;exact this
def stirsB (P:Int->Bool) (r:Rule):Bool:= !(decide (r.source.length=1))||decide (0<r.after.length)||r.fin||r.target.any P
def steadyB (l:List Rule):Bool:=sureB l&& !(l.any (stirsB (S.memb (firstsL l))))
def pick (l:List Rule) (t:List Int) (k:Int):Option Rule:=l.find? fun r=>matchB r t k
def without (l:List Rule) (k:Nat):List Rule:=l.take k++l.drop (k+1)
end K
namespace K
open S (Sp)
theorem zr1 {l:List Rule}{t:List Int}(h:(rulesF l).1=0)(ht:textE t=0):checkF l t=(0,0):=by
 unfold checkF;rw[if_pos h,ht]
theorem zoc {f:Rule->Nat}{n:Nat}{l:List Rule}(h:∀r∈l,f r<=n):∀m,m<=n->l.foldl (fun m r=>max m (f r)) m<=n:=by
 induction l with
 | nil=>intro m hm;exact hm
 | cons x l ih =>
  intro m hm;rw[List.foldl_cons];have:=h x (List.mem_cons_self ..);exact ih (fun r hr=>h r (List.mem_cons_of_mem _ hr)) _ (by omega)
theorem zup {l:List Rule}(hE:∀r∈l,ruleE r=0):ahead l<=40:=zoc (fun r hr=>by have h1:=(zal (hE r hr)).2.1.1;have h2:=(zal (hE r hr)).2.2.1.1;omega) 0 (by omega)
end K
namespace Pr
open S (Sp)
set_option linter.unusedVariables false
set_option linter.unusedSimpArgs false
def firstN {α:Type} (P:α->Bool):Nat->List α->Int
 | _,[]=> -1
 | i,r::l=>if P r=true then (i:Int) else firstN P (i+1) l
def firstI {α:Type} (P:α->Bool) (l:List α):Int:=firstN P 0 l
theorem zk1 {α:Type}{P:α->Bool}{l:List α}{i:Nat}{r:α}(h:l[i]?=some r):firstN P i (l.drop i)=if P r=true then (i:Int) else firstN P (i+1) (l.drop (i+1)):=by
 have hlt:=(qL.1 h).1;rw[List.drop_eq_getElem_cons hlt];have:l[i]=r:=by rw[List.getElem?_eq_getElem hlt] at h;exact Option.some.inj h
 rw[this];rfl
theorem zez {α:Type}{P Q:α->Bool}{l:List α}(h:∀r∈l,P r=Q r):∀i,firstN P i l=firstN Q i l:=by
 induction l with
 | nil=>intro i;rfl
 | cons x l ih =>
  intro i;rw[firstN,firstN,h x (List.mem_cons_self ..),ih fun r hr=>h r (List.mem_cons_of_mem _ hr)]
theorem zrm {α:Type}{P:α->Bool}{l:List α}:∀ {i:Nat},firstN P i l= -1∨∃(j:Nat) (r:α),l[j]?=some r/\P r=true/\firstN P i l=((i+j:Nat):Int):=by
 induction l with
 | nil=>intro i;exact .inl rfl
 | cons x l ih =>
  intro i;rw[firstN]
  by_cases hx:P x=true
  ·rw[if_pos hx];exact .inr ⟨0,x,rfl,hx,by simp⟩
  ·rw[if_neg hx];rcases ih (i:=i+1) with h | ⟨j,r,h1,h2,h3⟩
   ·exact .inl h
   ·exact .inr ⟨j+1,r,by simpa using h1,h2,by rw[h3];omega⟩
theorem zd3 {α:Type}{P:α->Bool}{l:List α}:firstI P l= -1∨∃(j:Nat) (r:α),l[j]?=some r/\P r=true/\firstI P l=(j:Int):=by
 rcases zrm (P:=P) (l:=l) (i:=0) with h | ⟨j,r,h1,h2,h3⟩
 ·exact .inl h
 ·exact .inr ⟨j,r,h1,h2,by unfold firstI;rw[h3];omega⟩
theorem zic {t:List Int}{k:Int}{l:List K.Rule}:∀i,K.whichN t k i l=firstN (fun r=>K.matchB r t k) i l:=by
 induction l with
 | nil=>intro i;rfl
 | cons x l ih=>intro i;rw[K.whichN,firstN,ih]
theorem zbh {t:List Int}{k:Int}{l:List K.Rule}:K.which l t k=firstI (fun r=>K.matchB r t k) l:=zic 0
theorem zch {t t':List Int}{k k':Int}{l:List K.Rule}(h:∀r∈l,K.matchB r t k=K.matchB r t' k'):K.which l t k=K.which l t' k':=by
 rw[zbh,zbh];exact zez h 0
def aroundB (r:K.Rule):Bool:=r.start||r.fin||decide (0<r.before.length)||decide (0<r.after.length)
def plainB (l:List K.Rule):Bool:=K.sureB l&& !(l.any aroundB)
def upFrom (a:Int) (n:Nat):List Int:=(List.range n).map fun k:Nat=>a+k
def numbers (s:List Sp):List Int:=s.flatMap fun x=>upFrom x.1 (x.2 - x.1+1).toNat
def neverB (dom:List Int) (s:List Sp):Bool:= !(dom.any fun r=>S.memb s r)
def broadB (dom:List Int) (r:K.Rule):Bool:=decide (1<r.source.length)&& !(r.source.any (neverB dom))
def oneByOneB (forth:List K.Rule) (dom:List Int):Bool:= !(forth.any (broadB dom))
def hitB (u:Int) (x:K.Rule):Bool:=decide (x.source.length=1)&&S.memb (K.headS x) u
def made (forth:List K.Rule) (u:Int):List Int:=if firstI (hitB u) forth<0 then [u] else ((forth[(firstI (hitB u) forth).toNat]?).getD K.noRule).target
def images (forth:List K.Rule) (dom:List Int):List (Int×List Int):=dom.map fun u=>(u,made forth u)
def shortB (most:Nat) (m:Int×List Int):Bool:=decide (m.2.length=0)||decide (2*m.2.length<most)
def longB (l:List (Int×List Int)) (back:List K.Rule):Bool:= !(l.any (shortB (K.ahead back)))
def comesB (back:List K.Rule) (m:Int×List Int) (behind:List Int):Bool :=
 if K.which back (m.2++behind) 0<0 then decide (m.2= [m.1])
 else decide (((back[(K.which back (m.2++behind) 0).toNat]?).getD K.noRule).source.length=m.2.length)&&decide (((back[(K.which back (m.2++behind) 0).toNat]?).getD K.noRule).target= [m.1])
def lostB (back:List K.Rule) (l:List (Int×List Int)) (m:Int×List Int):Bool:= !(comesB back m [])||l.any (fun n=> !(comesB back m n.2))
def allB (l:List (Int×List Int)) (back:List K.Rule):Bool:= !(l.any (lostB back l))
def undoesB (forth back:List K.Rule) (dom:List Int):Bool:=plainB forth&&plainB back&&oneByOneB forth dom&&longB (images forth dom) back&&allB (images forth dom) back
def sureF (forth back:List K.Rule) (s:List Sp):Bool×Int :=
 if (K.rulesF forth).1≠0 then (false,(K.rulesF forth).1)
 else if (K.rulesF back).1≠0 then (false,(K.rulesF back).1)
 else if S.wrongE s≠0 then (false,S.wrongE s)
 else if 40<S.total s then (false,4)
 else (undoesB forth back (numbers s),0)
theorem zg2 {a:Int}{n:Nat}{x:Int}:x∈upFrom a n↔a<=x/\x<a+n:=by
 unfold upFrom;rw[List.mem_map];constructor
 ·rintro ⟨k,hk,rfl⟩;have:=List.mem_range.1 hk;omega
 ·rintro ⟨h1,h2⟩;exact⟨(x - a).toNat,List.mem_range.2 (by omega),by omega⟩
theorem zfy {s:List Sp}{x:Int}:x∈numbers s↔S.memb s x=true:=by
 rw[S.za8];unfold numbers;rw[List.mem_flatMap];constructor
 ·rintro ⟨y,hy,h⟩;rw[zg2] at h;exact⟨y,hy,by omega,by omega⟩
 ·rintro ⟨y,hy,h1,h2⟩;exact⟨y,hy,zg2.2 ⟨h1,by omega⟩⟩
theorem zca {l:List K.Rule}(h:plainB l=true){r:K.Rule}(hr:r∈l):r.cursor=r.target.length/\r.start=false/\r.fin=false/\r.before= []/\r.after= []:=by
 unfold plainB at h;rw[Bool.and_eq_true] at h;have h1:=List.all_eq_true.1 h.1 r hr;have h2:l.any aroundB=false:=by simpa using h.2
 rw[List.any_eq_false] at h2;have h3:=h2 r hr;unfold aroundB at h3;simp only[Bool.or_eq_true,decide_eq_true_eq,not_or] at h3;obtain⟨⟨⟨q1,q2⟩,q3⟩,q4⟩:=h3;exact⟨by simpa [K.goesB] using h1,by simpa using q1,by simpa using q2,List.length_eq_zero_iff.1 (by omega),List.length_eq_zero_iff.1 (by omega)⟩
theorem zbj {r:K.Rule}(h1:r.start=false)(h2:r.fin=false)(h3:r.before= [])(h4:r.after= [])(t:List Int)(k:Int):K.matchB r t k=K.runAt t k r.source:=by
 unfold K.matchB;rw[h1,h2,h3,h4];simp
theorem zj5 {d x:List Int}{l:List (List Sp)}:∀ {k:Nat},K.runAt (d++x) ((d.length:Int)+k) l=K.runAt x k l:=by
 induction l with
 | nil=>intro k;rfl
 | cons s l ih =>
  intro k;rw[K.runAt,K.runAt];have e:(d.length:Int)+k+1=(d.length:Int)+((k+1:Nat):Int):=by omega
  rw[e,ih];have e1:decide (0<=(d.length:Int)+k)=decide (0<=(k:Int)):=decide_eq_decide.2 (by omega);have e2:decide ((d.length:Int)+k<((d++x).length:Nat))=decide ((k:Int)<(x.length:Nat)):=by rw[List.length_append];exact decide_eq_decide.2 (by omega)
  have e3:(d++x).getD ((d.length:Int)+k).toNat 0=x.getD ((k:Int)).toNat 0:=by
   rw[show ((d.length:Int)+k).toNat=d.length+k by omega,show ((k:Int)).toNat=k by omega];simp only[List.getD];rw[List.getElem?_append_right (by omega)];congr 2;omega
  rw[e1,e2,e3];rfl
theorem zik {x y:List Int}{l:List (List Sp)}:∀ {k:Nat},k+l.length<=x.length->K.runAt (x++y) k l=K.runAt x k l:=by
 induction l with
 | nil=>intro k _;rfl
 | cons s l ih =>
  intro k h;rw[List.length_cons] at h;rw[K.runAt,K.runAt];rw[show (k:Int)+1=((k+1:Nat):Int) by omega,ih (by omega)]
  have e2:decide ((k:Int)<((x++y).length:Nat))=decide ((k:Int)<(x.length:Nat)):=by
   rw[List.length_append];exact decide_eq_decide.2 (by omega)
  have e3:(x++y).getD ((k:Int)).toNat 0=x.getD ((k:Int)).toNat 0:=by
   rw[show ((k:Int)).toNat=k by omega];simp only[List.getD];rw[List.getElem?_append_left (by omega)]
  rw[e2,e3]
theorem zdb {r:K.Rule}(h1:r.start=false)(h2:r.fin=false)(h3:r.before= [])(h4:r.after= [])(d x:List Int):K.matchB r (d++x) d.length=K.matchB r x 0:=by
 rw[zbj h1 h2 h3 h4,zbj h1 h2 h3 h4];have:=zj5 (d:=d) (x:=x) (l:=r.source) (k:=0);simpa using this
theorem zey {r:K.Rule}(h1:r.start=false)(h2:r.fin=false)(h3:r.before= [])(h4:r.after= []){x:List Int}(y:List Int)(hl:r.source.length<=x.length):K.matchB r (x++y) 0=K.matchB r x 0:=by
 rw[zbj h1 h2 h3 h4,zbj h1 h2 h3 h4];exact zik (k:=0) (by omega)
theorem zq0 {r:K.Rule}(h1:r.start=false)(h2:r.fin=false)(h3:r.before= [])(h4:r.after= [])(hs:0<r.source.length)(u:Int):K.matchB r [u] 0=hitB u r:=by
 rw[zbj h1 h2 h3 h4];unfold hitB K.headS
 match hq:r.source with
 | []=>rw[hq] at hs;simp at hs
 | [s]=>simp[K.runAt]
 | s::s2::l=>simp[K.runAt]
theorem zq1 {forth:List K.Rule}{dom:List Int}(hO:oneByOneB forth dom=true){r:K.Rule}(hr:r∈forth)(h1:r.start=false)(h2:r.fin=false)(h3:r.before= [])(h4:r.after= [])(hs:0<r.source.length)(u:Int)(rest:List Int)(hd:∀x∈u::rest,x∈dom):K.matchB r (u::rest) 0=hitB u r:=by
 by_cases h:r.source.length=1
 ·have:=zey h1 h2 h3 h4 (x:= [u]) rest (by simp;omega);rw[show u::rest= [u]++rest from rfl,this];exact zq0 h1 h2 h3 h4 hs u
 ·have hf:hitB u r=false:=by unfold hitB;simp[h]
  rw[hf];cases hm:K.matchB r (u::rest) 0 with
  | false=>rfl
  | true =>
   exfalso;unfold oneByOneB at hO;have hO2:forth.any (broadB dom)=false:=by simpa using hO
   rw[List.any_eq_false] at hO2;have h5:=hO2 r hr;unfold broadB at h5;have hgt:1<r.source.length:=by omega
   simp only[hgt,decide_true,Bool.true_and,Bool.not_eq_true',Bool.not_eq_false] at h5;rw[List.any_eq_true] at h5;obtain⟨s,hs1,hs2⟩:=h5;obtain⟨i,hi⟩:=List.getElem?_of_mem hs1;rw[zbj h1 h2 h3 h4,K.zfl] at hm;obtain⟨g1,g2,g3⟩:=hm i s hi;unfold neverB at hs2;have hs3:(dom.any fun x=>S.memb s x)=false:=by simpa using hs2
   rw[List.any_eq_false] at hs3;have hlt:i<(u::rest).length:=by omega
   rw[show ((0:Int)+i).toNat=i by omega,List.getD_eq_getElem?_getD,List.getElem?_eq_getElem hlt] at g3;exact absurd g3 (hs3 _ (hd _ (List.getElem_mem hlt)))
def flat (forth:List K.Rule) (t:List Int):List Int:=t.flatMap (made forth)
theorem zgt {forth:List K.Rule}{dom:List Int}(hP:plainB forth=true)(hE:∀r∈forth,K.ruleE r=0)(hO:oneByOneB forth dom=true):∀(left:Nat) (done rest:List Int) (s p:Int),rest.length<=left->(∀x∈rest,x∈dom) ->
  ((K.play forth left done rest s p).1=0/\(K.play forth left done rest s p).2.1=done++flat forth rest)∨(K.play forth left done rest s p).1=4:=by
 intro left
 induction left with
 | zero =>
  intro done rest s p h _;have:rest= []:=List.length_eq_zero_iff.1 (by omega);subst this;rw[K.zck rfl];exact .inl ⟨rfl,by simp[flat]⟩
 | succ left ih =>
  intro done rest s p h hd
  match rest,h,hd with
  | [],h,hd=>rw[K.zck rfl];exact .inl ⟨rfl,by simp[flat]⟩
  | u::rest,h,hd =>
   have hw:K.which forth (done++u::rest) done.length=firstI (hitB u) forth:=by
    rw[zbh];refine zez (fun r hr=> ?_) 0;obtain⟨_,q1,q2,q3,q4⟩:=zca hP hr;show K.matchB r (done++u::rest) done.length=_;rw[zdb q1 q2 q3 q4];exact zq1 hO hr q1 q2 q3 q4 (K.zal (hE r hr)).2.2.2.1 u rest hd
   have hn:¬(u::rest).length=0:=by simp
   rcases zd3 (P:=hitB u) (l:=forth) with hk | ⟨j,r,hj,hh,hk⟩
   ·rw[K.zht hn (by rw[hw,hk])];have:=ih (done++(u::rest).take 1) ((u::rest).drop 1) (s+1) p (by simp at h ⊢;omega) (fun x hx=>hd x (List.mem_of_mem_drop hx))
    have e:done++(u::rest).take 1++flat forth ((u::rest).drop 1)=done++flat forth (u::rest):=by
     have:made forth u= [u]:=by unfold made;rw[hk,if_pos (by decide)]
     simp[flat,this]
    rw[e] at this;exact this
   ·have hmem:=List.mem_of_getElem? hj;obtain⟨q0,q1,q2,q3,q4⟩:=zca hP hmem;have hs1:r.source.length=1:=by unfold hitB at hh;simp at hh;exact hh.1
    have hm:made forth u=r.target:=by unfold made;rw[hk,if_neg (by omega),Int.toNat_natCast,hj];rfl
    have hro:K.restOf r (u::rest)=r.target++rest:=by unfold K.restOf;rw[hs1];rfl
    by_cases hmu:4000<done.length+(K.restOf r (u::rest)).length
    ·rw[K.zfu hn (by rw[hw,hk]) hj hmu];exact .inr rfl
    ·rw[K.ze4 hn (by rw[hw,hk]) hj hmu,hro,q0,Int.toNat_natCast,List.take_left,List.drop_left];have:=ih (done++r.target) rest (s+1) (p+1) (by simp at h;omega) (fun x hx=>hd x (List.mem_cons_of_mem _ hx));have e:done++r.target++flat forth rest=done++flat forth (u::rest):=by simp[flat,hm]
     rw[e] at this;exact this
theorem zq8 {forth back:List K.Rule}{dom:List Int}(h:longB (images forth dom) back=true){u:Int}(hu:u∈dom):0<(made forth u).length/\K.ahead back<=2*(made forth u).length:=by
 unfold longB at h;have h1:(images forth dom).any (shortB (K.ahead back))=false:=by simpa using h
 rw[List.any_eq_false] at h1;have h2:=h1 (u,made forth u) (List.mem_map.2 ⟨u,hu,rfl⟩);unfold shortB at h2;simp only[Bool.or_eq_true,decide_eq_true_eq,not_or] at h2;omega
theorem zw3 {forth back:List K.Rule}{dom:List Int}(h:allB (images forth dom) back=true){u:Int}(hu:u∈dom):comesB back (u,made forth u) []=true/\∀v∈dom,comesB back (u,made forth u) (made forth v)=true:=by
 unfold allB at h;have h1:(images forth dom).any (lostB back (images forth dom))=false:=by simpa using h
 rw[List.any_eq_false] at h1;have h2:=h1 (u,made forth u) (List.mem_map.2 ⟨u,hu,rfl⟩);unfold lostB at h2;simp only[Bool.or_eq_true,not_or] at h2;refine⟨by simpa using h2.1,fun v hv=> ?_⟩;have h3:((images forth dom).any fun n=> !(comesB back (u,made forth u) n.2))=false:=by simpa using h2.2
 rw[List.any_eq_false] at h3;simpa using h3 (v,made forth v) (List.mem_map.2 ⟨v,hv,rfl⟩)
theorem zqj {forth back:List K.Rule}{dom:List Int}(hP:plainB back=true)(hE:∀r∈back,K.ruleE r=0)(hL:longB (images forth dom) back=true)(hA:allB (images forth dom) back=true):∀(t:List Int) (left:Nat) (done:List Int) (s p:Int),(flat forth t).length<=left->done.length+(flat forth t).length<=4000->(∀x∈t,x∈dom) ->
  (K.play back left done (flat forth t) s p).1=0/\(K.play back left done (flat forth t) s p).2.1=done++t:=by
 intro t
 induction t with
 | nil =>
  intro left done s p _ _ _;rw[K.zck (by simp[flat])];exact⟨rfl,by simp⟩
 | cons u t ih =>
  intro left done s p hleft hlen hd;have hu:=hd u (List.mem_cons_self ..);have ht:=fun x hx=>hd x (List.mem_cons_of_mem _ hx)
  obtain⟨l1,l2⟩:=zq8 hL hu;obtain⟨a1,a2⟩:=zw3 hA hu;have ef:flat forth (u::t)=made forth u++flat forth t:=by simp[flat]
  rw[ef] at hleft hlen ⊢;rw[List.length_append] at hleft hlen
  obtain⟨behind,hcb,hwb⟩:∃behind,comesB back (u,made forth u) behind=true/\K.which back (done++(made forth u++flat forth t)) done.length=K.which back (made forth u++behind) 0:=by
   match t,ht with
   | [],_ =>
    refine⟨[],a1,?_⟩;refine zch fun r hr=> ?_
    obtain⟨_,q1,q2,q3,q4⟩:=zca hP hr;rw[zdb q1 q2 q3 q4];rfl
   | v::t,ht =>
    have hv:=ht v (List.mem_cons_self ..);obtain⟨m1,m2⟩:=zq8 hL hv;refine⟨made forth v,a2 v hv,?_⟩;refine zch fun r hr=> ?_
    obtain⟨_,q1,q2,q3,q4⟩:=zca hP hr;rw[zdb q1 q2 q3 q4];have e:made forth u++flat forth (v::t)=(made forth u++made forth v)++flat forth t:=by simp[flat]
    rw[e];refine zey q1 q2 q3 q4 _ ?_;have:=K.zuq hr;rw[List.length_append];omega
  have hn:¬(made forth u++flat forth t).length=0:=by rw[List.length_append];omega
  cases left with
  | zero=>omega
  | succ left =>
   unfold comesB at hcb;rcases K.zcw (l:=back) (t:=made forth u++behind) (k:=0) with hk | ⟨j,r,hj,hm,hk⟩
   ·rw[hk,if_pos (by decide)] at hcb;have hmu:made forth u= [u]:=by simpa using hcb
    rw[K.zht hn (by rw[hwb,hk]),hmu];have:=ih left (done++ [u]) (s+1) p (by omega) (by rw[List.length_append,List.length_singleton];omega) ht;simpa using this
   ·rw[hk,if_neg (by omega)] at hcb;simp only[Int.toNat_natCast,hj,Option.getD_some,Bool.and_eq_true,decide_eq_true_eq] at hcb;obtain⟨c1,c2⟩:=hcb;have hmem:=List.mem_of_getElem? hj;obtain⟨q0,q1,q2,q3,q4⟩:=zca hP hmem;have hro:K.restOf r (made forth u++flat forth t)= [u]++flat forth t:=by unfold K.restOf;rw[c1,c2,List.drop_left]
    rw[K.ze4 hn (by rw[hwb,hk]) hj (by rw[hro,List.length_append,List.length_singleton];omega),hro,q0,c2];have:=ih left (done++ [u]) (s+1) (p+1) (by omega) (by rw[List.length_append,List.length_singleton];omega) ht;simpa using this
theorem zer {forth back:List K.Rule}{dom:List Int}(h:undoesB forth back dom=true):plainB forth=true/\plainB back=true/\oneByOneB forth dom=true/\longB (images forth dom) back=true/\allB (images forth dom) back=true:=by
 unfold undoesB at h;simp only[Bool.and_eq_true] at h;exact⟨h.1.1.1.1,h.1.1.1.2,h.1.1.2,h.1.2,h.2⟩
theorem zea {forth back:List K.Rule}{s:List Sp}(h:sureF forth back s=(true,0)):(K.rulesF forth).1=0/\(K.rulesF back).1=0/\S.wrongE s=0/\undoesB forth back (numbers s)=true:=by
 unfold sureF at h
 by_cases h1:(K.rulesF forth).1=0
 ·rw[if_neg (by simp[h1])] at h
  by_cases h2:(K.rulesF back).1=0
  ·rw[if_neg (by simp[h2])] at h
   by_cases h3:S.wrongE s=0
   ·rw[if_neg (by simp[h3])] at h
    by_cases h4:40<S.total s
    ·rw[if_pos h4] at h;simp at h
    ·rw[if_neg h4] at h;simp at h;exact⟨h1,h2,h3,h⟩
   ·rw[if_pos h3] at h;simp at h
  ·rw[if_pos h2] at h;simp at h
 ·rw[if_pos h1] at h;simp at h
theorem zod {forth:List K.Rule}(hE:∀r∈forth,K.ruleE r=0){t:List Int}(h:K.allR t=true):K.allR (flat forth t)=true:=by
 unfold K.allR at h ⊢;rw[List.all_eq_true] at h ⊢;intro x hx;unfold flat at hx;obtain⟨u,hu,hx⟩:=List.mem_flatMap.1 hx;unfold made at hx;rcases zd3 (P:=hitB u) (l:=forth) with hk | ⟨j,r,hj,_,hk⟩
 ·rw[hk,if_pos (by decide)] at hx;rw[List.mem_singleton.1 hx];exact h u hu
 ·rw[hk,if_neg (by omega),Int.toNat_natCast,hj] at hx;have:=(K.zal (hE r (List.mem_of_getElem? hj))).2.2.2.2.2.1;unfold K.allR at this;exact List.all_eq_true.1 this x hx
theorem undone {forth back:List K.Rule}{s:List Sp}{t:List Int}(h:sureF forth back s=(true,0))(hd:∀x∈t,S.memb s x=true) :
  ((K.runF forth t).2.1=0->(K.runF back (K.runF forth t).1.1).2.1=0/\(K.runF back (K.runF forth t).1.1).1.1=t)/\((K.runF forth t).2.1=0∨(K.runF forth t).2.1=3∨(K.runF forth t).2.1=4):=by
 obtain⟨f1,f2,f3,f4⟩:=zea h;obtain⟨u1,u2,u3,u4,u5⟩:=zer f4;have hEf:=(K.zax f1).2.1;have hEb:=(K.zax f2).2.1;have hdom:=fun x hx=>zfy.2 (hd x hx)
 by_cases hc:(K.checkF forth t).1=0
 ·obtain⟨c1,c2,_⟩:=K.zcn hc;obtain⟨t1,t2⟩:=K.zls.1 c2;have hlen:=K.zlw (l:=forth) (t:=t);have hp:=zgt u1 hEf u3 (8*t.length+40) [] t 0 0 (by omega) hdom;have e1:(K.runF forth t).2.1=(K.play forth (8*t.length+40) [] t 0 0).1:=by unfold K.runF;rw[if_pos hc]
  have e2:(K.runF forth t).1.1=(K.play forth (8*t.length+40) [] t 0 0).2.1:=by unfold K.runF;rw[if_pos hc]
  rw[e2] at hlen;rw[e1,e2];refine⟨fun h0=> ?_,?_⟩
  ·rcases hp with ⟨_,hp⟩ | hp
   ·rw[hp,List.nil_append] at hlen ⊢;have hcb:(K.checkF back (flat forth t)).1=0:=by rw[K.zr1 f2 (K.zls.2 ⟨hlen,zod hEf t2⟩)]
    have hb:=zqj u2 hEb u4 u5 t (8*(flat forth t).length+40) [] 0 0 (by omega) (by simpa using hlen) hdom;unfold K.runF;rw[if_pos hcb];exact⟨hb.1,by simpa using hb.2⟩
   ·rw[hp] at h0;exact absurd h0 (by decide)
  ·rcases hp with ⟨hp,_⟩ | hp
   ·exact .inl hp
   ·exact .inr (.inr hp)
 ·have e1:(K.runF forth t).2.1=(K.checkF forth t).1:=by unfold K.runF;rw[if_neg hc]
  rw[e1];refine⟨fun h0=>absurd h0 hc,.inr ?_⟩;unfold K.checkF at hc ⊢;rw[if_pos f1] at hc ⊢;show K.textE t=3∨K.textE t=4;have hc2:K.textE t≠0:=hc;unfold K.textE at hc2 ⊢
  by_cases h1:4000<t.length
  ·rw[if_pos h1];exact .inr rfl
  ·rw[if_neg h1] at hc2 ⊢
   by_cases h2:K.allR t=true
   ·rw[if_pos h2] at hc2;exact absurd rfl hc2
   ·rw[if_neg h2];exact .inl rfl
theorem apart {forth back:List K.Rule}{s:List Sp}{t u:List Int}(h:sureF forth back s=(true,0))(ht:∀x∈t,S.memb s x=true)(hu:∀x∈u,S.memb s x=true)(h1:(K.runF forth t).2.1=0)(h2:(K.runF forth u).2.1=0)(he:(K.runF forth t).1.1=(K.runF forth u).1.1):t=u:=by
 have a:=((undone h ht).1 h1).2;have b:=((undone h hu).1 h2).2;rw[he] at a;exact a.symm.trans b
end Pr
