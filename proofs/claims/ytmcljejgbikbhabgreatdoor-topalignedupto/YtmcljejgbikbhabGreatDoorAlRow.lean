/-
 What rules can do: who masks whom, how far they look, whether they always go on; and what follows of it: plain lists.
-/
import Derived.Test.YtmcljejgbikbhabGreatDoorCnPl
import Derived.Test.YtmcljejgbikbhabGreatDoorYRus
import Derived.Test.YtmcljejgbikbhabGreatDoorSSubP
import Derived.Test.YtmcljejgbikbhabGreatDoorCnLet
import Derived.Test.YtmcljejgbikbhabGreatDoorXCheck
import Derived.Test.YtmcljejgbikbhabGreatDoorXRun
import Derived.Lib.AppendZeros
set_option maxHeartbeats 0
namespace Go.Proofs.YtmcljejgbikbhabGreatDoor.K
open S (Sp)
theorem zhe {t:List Int}{l:List (List Sp)}:∀ {k:Int},runAt t k l=true↔∀(i:Nat) s,l[i]?=some s->0<=k+i/\k+i<t.length/\S.memb s (t.getD (k+i).toNat 0)=true:=by
 induction l with
 | nil=>intro k;simp[runAt]
 | cons x l ih =>
  intro k;rw[runAt,Bool.and_eq_true,ih];simp only[Bool.and_eq_true,decide_eq_true_eq];constructor
  ·rintro ⟨⟨⟨h1,h2⟩,h3⟩,h4⟩ i s hs;cases i with
   | zero =>
    simp only[List.getElem?_cons_zero,Option.some.injEq] at hs;subst hs;have e:k+((0:Nat):Int)=k:=by omega
    rw[e];exact⟨h1,h2,h3⟩
   | succ i =>
    have:=h4 i s (by simpa using hs);rw[show k+((i+1:Nat):Int)=k+1+i by omega];exact this
  ·intro h;refine⟨?_,fun i s hs=> ?_⟩
   ·have:=h 0 x rfl;have e:k+((0:Nat):Int)=k:=by omega
    rw[e] at this;exact⟨⟨this.1,this.2.1⟩,this.2.2⟩
   ·have:=h (i+1) s (by simpa using hs);rw[show k+((i+1:Nat):Int)=k+1+i by omega] at this;exact this
theorem zl6 {r:Rule}{t:List Int}{k:Int}:matchB r t k=true↔runAt t (k - r.before.length) r.before=true/\runAt t k (r.source++r.after)=true/\(r.start=true->k - r.before.length<=0)/\(r.fin=true->(t.length:Int)<=k+(r.source++r.after).length):=by
 unfold matchB;rw[List.append_assoc,zbi,show k - (r.before.length:Int)+r.before.length=k by omega];simp only[Bool.and_eq_true,Bool.not_eq_true',Bool.and_eq_false_iff,decide_eq_false_iff_not,List.length_append];constructor
 ·rintro ⟨⟨⟨h1,h2⟩,h3⟩,h4⟩;refine⟨h1,h2,fun h=> ?_,fun h=> ?_⟩
  ·rcases h3 with h3 | h3
   ·rw[h] at h3;cases h3
   ·omega
  ·rcases h4 with h4 | h4
   ·rw[h] at h4;cases h4
   ·omega
 ·rintro ⟨h1,h2,h3,h4⟩;refine⟨⟨⟨h1,h2⟩,?_⟩,?_⟩
  ·cases hs:r.start with
   | false=>exact .inl rfl
   | true=>have:=h3 hs;exact .inr (by omega)
  ·cases hs:r.fin with
   | false=>exact .inl rfl
   | true=>have:=h4 hs;exact .inr (by omega)
def withinB:List (List Sp)->List (List Sp)->Bool
 | [],_=>true
 | _::_,[]=>false
 | s::l,u::m=>subF u s&&withinB l m
def coversB (e1:Bool) (l1:List (List Sp)) (e2:Bool) (l2:List (List Sp)):Bool:=withinB l1 l2&& !(e1&& !(e2&&decide (l1.length=l2.length)))
def masksB (a b:Rule):Bool:=coversB a.start a.before.reverse b.start b.before.reverse&&coversB a.fin (a.source++a.after) b.fin (b.source++b.after)
def maskAt (l:List Rule) (k:Nat):Bool:=(l.take k).any fun a=>masksB a ((l[k]?).getD noRule)
def maskedN (l:List Rule) (n:Nat):List Int:=((List.range n).filter (maskAt l)).map fun k:Nat=>(k:Int)
def maskedL (l:List Rule):List Int:=maskedN l l.length
def behind (l:List Rule):Nat:=l.foldl (fun m r=>max m r.before.length) 0
def ahead (l:List Rule):Nat:=l.foldl (fun m r=>max m (r.source.length+r.after.length)) 0
def goesB (r:Rule):Bool:=decide (r.cursor=r.target.length)
def sureB (l:List Rule):Bool:=l.all goesB
theorem zbz {t u:List Int}(h:allR t=true)(hs:∀x∈u,x∈t):allR u=true:=by
 unfold allR at h ⊢;rw[List.all_eq_true] at h ⊢;exact fun x hx=>h x (hs x hx)
theorem zez {r:Rule}{t:List Int}{k:Int}(hE:ruleE r=0)(h:matchB r t k=true):0<=k/\k<t.length/\S.memb (headS r) (t.getD k.toNat 0)=true:=by
 have hs:=(zaq hE).2.2.2.1;rw[zl6,zhe,zhe] at h;obtain⟨x,hx⟩:∃x,r.source[0]?=some x:=⟨r.source[0],by simp⟩;have:=h.2.1 0 x (by rw[List.getElem?_append_left hs];exact hx)
 have e:headS r=x:=by
  unfold headS;cases hq:r.source with
  | nil=>rw[hq] at hx;simp at hx
  | cons y l=>rw[hq] at hx;simpa using hx
 rw[e,show k+((0:Nat):Int)=k by omega] at *;exact this
def stirsB (P:Int->Bool) (r:Rule):Bool:= !(decide (r.source.length=1))||decide (0<r.after.length)||r.fin||r.target.any P
def steadyB (l:List Rule):Bool:=sureB l&& !(l.any (stirsB (S.memb (firstsL l))))
def pick (l:List Rule) (t:List Int) (k:Int):Option Rule:=l.find? fun r=>matchB r t k
def without (l:List Rule) (k:Nat):List Rule:=l.take k++l.drop (k+1)
end Go.Proofs.YtmcljejgbikbhabGreatDoor.K
namespace Go.Proofs.YtmcljejgbikbhabGreatDoor.Al
def shots (l:List K.Rule):Nat->List Int->List Int->List (Int×Int)
 | 0,_,_=> []
 | left+1,A,Z =>
  if Z.length=0 then []
  else if K.which l (A++Z) A.length<0 then ((A.length:Int),-1)::shots l left (A++Z.take 1) (Z.drop 1)
  else
   let r:=(l[(K.which l (A++Z) A.length).toNat]?).getD K.noRule
   ((A.length:Int),K.which l (A++Z) A.length)::shots l left (A++(K.restOf r Z).take r.cursor.toNat) ((K.restOf r Z).drop r.cursor.toNat)
theorem zda {l:List K.Rule}{left:Nat}{A Z:List Int}(h:Z.length=0):shots l left A Z= []:=by
 cases left
 ·rfl
 ·rw[shots,if_pos h]
theorem zge {l:List K.Rule}{left:Nat}{A Z:List Int}(h:¬Z.length=0)(hk:K.which l (A++Z) A.length= -1):shots l (left+1) A Z=((A.length:Int),-1)::shots l left (A++Z.take 1) (Z.drop 1):=by
 rw[shots,if_neg h,if_pos (by rw[hk];decide)]
theorem zel {l:List K.Rule}{left:Nat}{A Z:List Int}{j:Nat}{r:K.Rule}(h:¬Z.length=0)(hk:K.which l (A++Z) A.length=(j:Int))(hr:l[j]?=some r):shots l (left+1) A Z=((A.length:Int),(j:Int))::shots l left (A++(K.restOf r Z).take r.cursor.toNat) ((K.restOf r Z).drop r.cursor.toNat):=by
 rw[shots,if_neg h,if_neg (by rw[hk];omega),hk,Int.toNat_natCast,hr];rfl
theorem zhd {l:List K.Rule}:∀ {left:Nat} {A Z:List Int},(shots l left A Z).length<=left:=by
 intro left
 induction left with
 | zero=>intro A Z;exact qN
 | succ n ih =>
  intro A Z;rw[shots];split
  ·simp
  ·split
   ·rw[List.length_cons];have:=ih (A:=A++Z.take 1) (Z:=Z.drop 1);omega
   ·simp only[List.length_cons];exact Nat.succ_le_succ ih
theorem zqc {l:List K.Rule}:∀ {left:Nat} {A Z:List Int} {s p:Int},A.length+Z.length<=4000->(K.play l left A Z s p).1=0->∀x∈shots l left A Z,0<=x.1/\x.1<=4000/\(x.2= -1∨∃(j:Nat) (r:K.Rule),x.2=j/\l[j]?=some r):=by
 intro left
 induction left with
 | zero=>intro A Z s p _ _ x hx;cases hx
 | succ n ih =>
  intro A Z s p hl h0 x hx
  by_cases hz:Z.length=0
  ·rw[zda hz] at hx;cases hx
  ·rcases K.zcl (l:=l) (t:=A++Z) (k:=A.length) with hk | ⟨j,r,hr,hm,hk⟩
   ·rw[zge hz hk] at hx;rw[K.zev hz hk] at h0;rcases List.mem_cons.1 hx with rfl | hx
    ·exact⟨by show (0:Int)<=A.length;omega,by show (A.length:Int)<=4000;omega,.inl rfl⟩
    ·exact ih (by simp;omega) h0 x hx
   ·rw[zel hz hk hr] at hx
    by_cases hmu:4000<A.length+(K.restOf r Z).length
    ·rw[K.zci hz hk hr hmu] at h0;exact absurd h0 (by decide)
    ·rw[K.zdf hz hk hr hmu] at h0;rcases List.mem_cons.1 hx with rfl | hx
     ·exact⟨by show (0:Int)<=A.length;omega,by show (A.length:Int)<=4000;omega,.inr ⟨j,r,rfl,hr⟩⟩
     ·refine ih ?_ h0 x hx;rw[List.length_append,List.length_take,List.length_drop];omega
structure Lk where
 fr:Int
 up:Int
 beg:Int
 fin:Int
 rule:Int
def ruleAt (l:List K.Rule) (k:Int):K.Rule:=(l[k.toNat]?).getD K.noRule
def about (l:List K.Rule) (k:Int):Int:=if k<0 then 1 else ((ruleAt l k).source.length:Int)
def came (l:List K.Rule) (k:Int):Int:=if k<0 then 1 else ((ruleAt l k).target.length:Int)
def link (l:List K.Rule) (s:Int×Int) (fr:Int):Lk:=⟨fr,fr+about l s.2,s.1,s.1+came l s.2,s.2⟩
def links (l:List K.Rule):Int->List (Int×Int)->List Lk
 | _,[]=> []
 | fr,s::ss=>link l s fr::links l (fr+about l s.2) ss
theorem zov {l:List K.Rule}:∀ {ss:List (Int×Int)} {fr:Int},(links l fr ss).length=ss.length:=by
 intro ss
 induction ss with
 | nil=>intro fr;rfl
 | cons x ss ih=>intro fr;rw[links,List.length_cons,List.length_cons,ih]
theorem ztv {l:List K.Rule}{left:Nat}{A Z:List Int}{s p fr:Int}(hz:¬Z.length=0)(hk:K.which l (A++Z) A.length= -1)(h0:(K.play l (left+1) A Z s p).1=0) :
  (K.play l left (A++Z.take 1) (Z.drop 1) (s+1) p).1=0/\links l fr (shots l (left+1) A Z)=⟨fr,fr+1,A.length,(A.length:Int)+1,-1⟩::links l (fr+1) (shots l left (A++Z.take 1) (Z.drop 1)):=by
 refine⟨by rw[K.zev hz hk] at h0;exact h0,?_⟩;rw[zge hz hk];rfl
theorem zti {l:List K.Rule}{left:Nat}{A Z:List Int}{s p fr:Int}{j:Nat}{r:K.Rule}(hz:¬Z.length=0)(hk:K.which l (A++Z) A.length=(j:Int))(hr:l[j]?=some r)(hS:K.sureB l=true)(h0:(K.play l (left+1) A Z s p).1=0) :
  (K.play l left (A++r.target) (Z.drop r.source.length) (s+1) (p+1)).1=0/\A.length+r.target.length+(Z.length - r.source.length)<=4000/\links l fr (shots l (left+1) A Z)=⟨fr,fr+(r.source.length:Int),A.length,(A.length:Int)+(r.target.length:Int),j⟩::links l (fr+(r.source.length:Int)) (shots l left (A++r.target) (Z.drop r.source.length)):=by
 have hg:K.goesB r=true:=List.all_eq_true.1 hS r (List.mem_of_getElem? hr);have hc:r.cursor.toNat=r.target.length:=by unfold K.goesB at hg;have:=of_decide_eq_true hg;omega
 have e1:(K.restOf r Z).take r.cursor.toNat=r.target:=by rw[hc];unfold K.restOf;exact List.take_left
 have e2:(K.restOf r Z).drop r.cursor.toNat=Z.drop r.source.length:=by rw[hc];unfold K.restOf;exact List.drop_left
 by_cases hmu:4000<A.length+(K.restOf r Z).length
 ·rw[K.zci hz hk hr hmu] at h0;exact absurd h0 (by decide)
 ·rw[K.zdf hz hk hr hmu,e1,e2] at h0;refine⟨h0,by rw[K.zgn] at hmu;omega,?_⟩;rw[zel hz hk hr,e1,e2];have ha:ruleAt l (j:Int)=r:=by unfold ruleAt;rw[Int.toNat_natCast,hr];rfl
  have hb:about l (j:Int)=(r.source.length:Int):=by unfold about;rw[if_neg (by omega),ha]
  have hd:came l (j:Int)=(r.target.length:Int):=by unfold came;rw[if_neg (by omega),ha]
  rw[links,link];simp only[hb,hd]
end Go.Proofs.YtmcljejgbikbhabGreatDoor.Al
namespace Go.Proofs.YtmcljejgbikbhabGreatDoor
open Go.RowKit Go.Shelf
set_option maxRecDepth 20000
set_option linter.unusedSimpArgs false
set_option linter.unusedVariables false
theorem zk1 (b:Nat)(ms:List Nat)(mb:Nat)(wb w:World)(g:Nat)(vr vh:Value)(l:List K.Rule)(c:List Int)(A Z:List Int)(M:Gm.Mx b ms mb wb w g vr vh l c A Z)(O:Gm.Ok l c)(hz:0<Z.length)(hR:K.allR (A++Z)=true) :
    Calls Tryz.prog 83 #[.pointer (some ⟨mb,0,none⟩),.int .i64 (K.which l (A++Z) A.length)] w fun e w'=>∃x:Int,e= .returned (.int .i64 x) /\
      ((x=4/\Below b w w'/\∀left s p,K.play l (left+1) A Z s p=(4,[],0,0)) ∨
       (x=0/\∃A' Z',Gm.Mx b ms mb wb w' g vr vh l c A' Z'/\Gm.Fr ⟨b,ms⟩ w w'/\K.allR (A'++Z')=true/\(∀left s p,K.play l (left+1) A Z s p=K.play l left A' Z' (s+1) (p+if K.which l (A++Z) A.length= -1 then 0 else 1))/\∀left,Al.shots l (left+1) A Z=((A.length:Int),K.which l (A++Z) A.length)::Al.shots l left A' Z')):=by
  have hzn:¬Z.length=0:=by omega
  rcases K.zcl (l:=l) (t:=A++Z) (k:=(A.length:Int)) with hw | ⟨j,r,hj,hm,hw⟩
  · have h:=zj5 b ms mb wb w g vr vh l c A Z M hz
    rw[hw];refine h.mono ?_;rintro e w' ⟨rfl,h1,h2⟩;refine⟨0,rfl,.inr ⟨rfl,_,_,h1,h2,?_,fun left s p=> ?_,fun left=> ?_⟩⟩
    · rw[List.append_assoc,List.take_append_drop];exact hR
    · rw[K.zev hzn hw,if_pos rfl,Int.add_zero]
    · exact Al.zge hzn hw
  · have h:=zg3 b ms mb wb w g vr vh l c A Z M j r hj (O.right r (List.mem_of_getElem? hj)) hm
    rw[hw];refine h.mono ?_;rintro e w' ⟨x,rfl,⟨h1,rfl,h2⟩|⟨h1,rfl,h2,h3⟩⟩
    · exact⟨4,rfl,.inl ⟨rfl,h2,fun left s p=>K.zci hzn hw hj h1⟩⟩
    · refine⟨0,rfl,.inr ⟨rfl,_,_,h2,h3,?_,fun left s p=> ?_,fun left=> ?_⟩⟩
      · rw[List.append_assoc,List.take_append_drop]
        obtain⟨g1,g2⟩:=Gm.zbp.1 hR;refine Gm.zbp.2 ⟨g1,Gm.zbp.2 ⟨(K.zaq (O.right r (List.mem_of_getElem? hj))).2.2.2.2.2.1,Gm.zbz g2 fun x hx=>List.mem_of_mem_drop hx⟩⟩
      · rw[K.zdf hzn hw hj h1,if_neg (by omega)]
      · exact Al.zel hzn hw hj
theorem zk3 (b mb:Nat)(wb w:World)(g:Nat)(vr vh:Value)(l:List K.Rule)(c t:List Int)(M:Gm.Mx b [mb] mb wb w g vr vh l c [] t)(O:Gm.Ok l c)(hR:K.allR t=true)
    (U:World->Prop) (hU0:U w) (hUb:∀W W',U W->Below b W W'->U W')
    (T:World->List Nat->List (Int×Int)->Prop) (hT0:T w [] []) (hTb:∀W W' ms sh,T W ms sh->Gm.Fr ⟨b,mb::ms⟩ W W'->T W' ms sh)
    (ft:Nat) (ct:Array Value) (eg:∀args w,(callFunc ft args).run Tryz.prog w= .ok (.enter ft args) w)
    (hf:∀W ms A Z (sh:List (Int×Int)) (at_ k:Int),Gm.Mx b (mb::ms) mb wb W g vr vh l c A Z->T W ms sh->U W->sh.length<8*t.length+40->Calls Tryz.prog ft (#[.agg #[.int .i64 at_,.int .i64 k]]++ct) W fun e w'=>e= .returned (.tuple #[])/\U w'/\∃ns,Gm.Mx b (mb::ns) mb wb w' g vr vh l c A Z/\T w' ns (sh++ [(at_,k)]))
    (o1:Int) (o2:List Int) (o3 o4:Int) (hO:K.play l (8*t.length+40) [] t 0 0=(o1,o2,o3,o4)) :
    Calls Tryz.prog 53 #[.pointer (some ⟨mb,0,none⟩),.func (.func ft) #[] ct] w fun e w'=>e= .returned (.int .i64 o1)/\Below wb.heap.size wb w'/\U w'/\(o1=0->∃ms,T w' ms (Al.shots l (8*t.length+40) [] t)):=by
  have ht:t.length<=4000:=by
    obtain⟨_,_,h⟩:=M.tx;simpa using h.few
  have HM:Hid (Gm.Mx b [mb] mb wb w g vr vh l c [] t):=M;have hbw:=M.top;have HOk:Hid (Gm.Ok l c):=O;have HR:Hid (K.allR ([]++t)=true):=hR;have HT:Hid (T w [] []/\U w):=⟨hT0,hU0⟩;have HUb:Hid (∀W W',U W->Below b W W'->U W'):=hUb;have HTb:Hid (∀W W' ms sh,T W ms sh->Gm.Fr ⟨b,mb::ms⟩ W W'->T W' ms sh):=hTb;have HTq0:Hid (∀W ms sh q,b<=W.heap.size->T W ms sh/\U W->T (W.drewN q) ms sh/\U (W.drewN q)):=fun W ms sh q hb h=>⟨hTb _ _ _ _ h.1 (Gm.Fr.of_below (below_drewN (qR W) q) hb),hUb _ _ h.2 (below_drewN (qR W) q)⟩
  obtain⟨SH,hSH⟩:∃SH,SH=Al.shots l (8*t.length+40) [] t:=⟨_,rfl⟩;rw[<- hSH];have HSH:Hid ([]++Al.shots l (8*t.length+40) [] t=SH):=hSH.symm;have HF:Hid (∀W ms A Z (sh:List (Int×Int)) (at_ k:Int),Gm.Mx b (mb::ms) mb wb W g vr vh l c A Z->T W ms sh->U W->sh.length<8*t.length+40->Calls Tryz.prog ft (#[.agg #[.int .i64 at_,.int .i64 k]]++ct) W fun e w'=>e= .returned (.tuple #[])/\U w'/\∃ns,Gm.Mx b (mb::ns) mb wb w' g vr vh l c A Z/\T w' ns (sh++ [(at_,k)])):=hf;have HO:Hid (K.play l (8*t.length+40) [] t 0 0=(o1,o2,o3,o4)):=hO;have k0:w.cell? ⟨mb,0,none⟩=some (.pointer (some ⟨g,0,none⟩)):=K.zaf (i:=0) M.box rfl;have HL:=M.len 0
  have HL0:Hid (Calls Tryz.prog 80 #[.pointer (some ⟨g,0,none⟩)] w fun e w'=>e= .returned (.int .i64 t.length)/\∃q',w'=w.drewN q'):=by
    simp only[List.length_nil,Nat.zero_add] at HL;exact HL
  clear M O hR hT0 hTb hU0 hUb hf hO HL hSH
  go_enter Tryz.func53,Tryz.ntmps53
  go_wp2_with fail
  go_at_call 80
  refine HL0.out.mono ?_;rintro e w1 ⟨rfl,q,rfl⟩;have HM1:Hid (Gm.Mx b [mb] mb wb (w.drewN q) g vr vh l c [] t):=HM.out.drewN q;have HT1:Hid (T (w.drewN q) [] []/\U (w.drewN q)):=HTq0.out _ _ _ _ hbw HT.out;have hbw1:b<=(w.drewN q).heap.size:=hbw;generalize w.drewN q=w0 at *;clear HM HT HL0 k0 hbw
  go_wp2_with (go_at_call 79;refine(zg5 _ t.length ht).mono ?_;rintro e wq ⟨rfl,rfl⟩)
  go_loopw [5] (fun i5 wr=>∃(left:Nat) (A Z:List Int) (ms:List Nat) (sh:List (Int×Int)) (s p:Int),i5= .int .i64 left/\sh.length+left=8*t.length+40/\Hid (Gm.Mx b (mb::ms) mb wb wr g vr vh l c A Z)/\Hid (T wr ms sh/\U wr)/\Hid (K.allR (A++Z)=true)/\Hid (K.play l left A Z s p=(o1,o2,o3,o4))/\Hid (sh++Al.shots l left A Z=SH)/\b<=wr.heap.size) (fun i5 _=>(RowKit.intOf i5).toNat)
  case atStart=>exact⟨8*t.length+40,[],t,[],[],0,0,by go_num,by simp,HM1,HT1,HR,HO,HSH,hbw1⟩
  case round =>
    obtain⟨left,A,Z,ms,sh,s,p,rfl,hsl,HMr,HTr,HRr,HPr,HSr,hbr⟩:=hrel;have k0:wr.cell? ⟨mb,0,none⟩=some (.pointer (some ⟨g,0,none⟩)):=K.zaf (i:=0) HMr.out.box rfl
    have hlen:A.length+Z.length<=4000:=by
      obtain⟨_,_,h⟩:=HMr.out.tx;exact h.few
    by_cases hz:Z.length=0
    · have hp:=HPr.out
      rw[K.zcn hz] at hp;simp only[Prod.mk.injEq] at hp;obtain⟨rfl,rfl,rfl,rfl⟩:=hp;have hzn:Z= []:=List.eq_nil_of_length_eq_zero hz;subst hzn
      have HSe:Hid (sh=SH):=by
        have:=HSr.out;rw[Al.zda rfl,List.append_nil] at this;exact this
      have HQ:Hid (∀q,Calls Tryz.prog 80 #[.pointer (some ⟨g,0,none⟩)] (wr.drewN q) fun e w'=>e= .returned (.int .i64 A.length)/\∃q',w'=(wr.drewN q).drewN q'):=fun q=>HMr.out.len q
      have HC:Hid (∀q,Calls Tryz.prog 81 #[.pointer (some ⟨g,0,none⟩)] (wr.drewN q) fun e w'=>e= .returned (.int .i64 A.length)/\w'=wr.drewN q):=fun q=>HMr.out.cur q
      clear HPr HRr HF HO HR HM1 HT1 HSr HSH
      go_wp2_with fail
      go_quiet (first | (go_at_call 80;exact Calls.quiet_of (HQ.out _)) | (go_at_call 81;exact Calls.quiet_of_same (HC.out _)))
      go_wp2;go_ret
      exact⟨rfl,(HMr.out.drewN nq).bel,(HTq0.out _ _ _ nq hbr HTr.out).2,ms,by rw[<- HSe.out];exact(HTq0.out _ _ _ nq hbr HTr.out).1⟩
    · obtain⟨N,hN⟩:∃N,N=A.length+Z.length:=⟨_,rfl⟩
      have HQ:Hid (∀q,Calls Tryz.prog 80 #[.pointer (some ⟨g,0,none⟩)] (wr.drewN q) fun e w'=>e= .returned (.int .i64 N)/\∃q',w'=(wr.drewN q).drewN q'):=fun q=>by rw[hN];exact HMr.out.len q
      have HC:Hid (∀q,Calls Tryz.prog 81 #[.pointer (some ⟨g,0,none⟩)] (wr.drewN q) fun e w'=>e= .returned (.int .i64 A.length)/\w'=wr.drewN q):=fun q=>HMr.out.cur q
      have hlt:(A.length:Int)<N:=by omega
      clear HO HR HM1 HT1 HSH
      go_wp2_with fail
      go_quiet (first | (go_at_call 80;exact Calls.quiet_of (HQ.out _)) | (go_at_call 81;exact Calls.quiet_of_same (HC.out _)))
      have HMq:Hid (Gm.Mx b (mb::ms) mb wb (wr.drewN nq) g vr vh l c A Z):=HMr.out.drewN nq;have HTq:Hid (T (wr.drewN nq) ms sh/\U (wr.drewN nq)):=HTq0.out _ _ _ nq hbr HTr.out;have hbq:b<=(wr.drewN nq).heap.size:=hbr;clear HQ HC k0 HMr HTr hbr;generalize wr.drewN nq=W at *;have k0:W.cell? ⟨mb,0,none⟩=some (.pointer (some ⟨g,0,none⟩)):=K.zaf (i:=0) HMq.out.box rfl;cases left with
      | zero =>
        have hp:=HPr.out;rw[K.zgp hz] at hp;simp only[Prod.mk.injEq] at hp;obtain⟨rfl,rfl,rfl,rfl⟩:=hp;go_wp2;go_ret;exact⟨rfl,HMq.out.bel,HTq.out.2,fun h=>absurd h (by decide)⟩
      | succ left =>
        have hne:¬((left+1:Nat):Int)=0:=by omega
        have HCu:Hid (Calls Tryz.prog 81 #[.pointer (some ⟨g,0,none⟩)] W fun e w'=>e= .returned (.int .i64 A.length)/\w'=W):=HMq.out.cur 0;have HFi:Hid (Calls Tryz.prog 82 #[.pointer (some ⟨mb,0,none⟩)] W fun e w'=>e= .returned (.int .i64 (K.which l (A++Z) A.length))/\Below W.heap.size W w'):=zfj b (mb::ms) mb wb W g vr vh l c A Z HMq.out HOk.out (by omega) (Gm.zeq HRr.out)
        have HSt:Hid (∀W2 o,Below W.heap.size W W2->Calls Tryz.prog 83 #[.pointer (some ⟨mb,0,none⟩),.int .i64 (K.which l (A++Z) A.length)] (W2.alloc o) fun e w'=>∃x:Int,e= .returned (.int .i64 x) /\
      ((x=4/\Below wb.heap.size wb w'/\U w'/\o1=4) ∨
       (x=0/\w'.heap[W2.heap.size]?=some o/\b<=w'.heap.size/\∃A' Z',Gm.Mx b (mb::ms) mb wb w' g vr vh l c A' Z'/\(T w' ms sh/\U w')/\K.allR (A'++Z')=true/\K.play l left A' Z' (s+1) (p+if K.which l (A++Z) A.length= -1 then 0 else 1)=(o1,o2,o3,o4)/\(sh++ [((A.length:Int),K.which l (A++Z) A.length)])++Al.shots l left A' Z'=SH))):=fun W2 o hW2=>by
          have hM2:=(HMq.out.below hW2).box1 o;have hb2:Below W.heap.size W (W2.alloc o):=hW2.alloc (hW2.size) o;have hs2:=hb2.size;refine(zk1 b _ mb wb _ g vr vh l c A Z hM2 HOk.out (by omega) HRr.out).mono ?_;rintro e w' ⟨x,rfl,⟨rfl,h1,h2⟩|⟨rfl,A',Z',h1,h2,h3,h4,h5⟩⟩
          · have hp:=HPr.out
            rw[h2] at hp;simp only[Prod.mk.injEq] at hp;exact⟨4,rfl,.inl ⟨rfl,hM2.bel.trans (h1.mono hM2.base),HUb.out _ _ HTq.out.2 ((hb2.mono hbq).trans h1),hp.1.symm⟩⟩
          · have hfr:Gm.Fr ⟨b,mb::ms⟩ W w':=((Gm.Fr.of_below hb2 hbq).trans (B:=⟨b,mb::ms⟩) ⟨h2.1,fun j hj hm=>h2.2 j (List.mem_cons_of_mem _ hj) hm⟩)
            refine⟨0,rfl,.inr ⟨rfl,?_,by have:=h2.size;omega,A',Z',h1.less (by simp) (fun j hj=>List.mem_cons_of_mem _ hj),⟨HTb.out _ _ _ _ HTq.out.1 hfr,HUb.out _ _ HTq.out.2 hfr.1⟩,h3,?_,?_⟩⟩
            · rw[h2.2 _ (by simp) (by simp)];exact heap_alloc_new W2 o
            · rw[<- h4];exact HPr.out
            · have hq:=HSr.out
              rw[h5] at hq;rw[List.append_assoc];exact hq
        generalize K.which l (A++Z) A.length=kk at *;clear HMq HRr HTq HPr HSr
        go_wp2_with fail
        go_at_call 81
        refine HCu.out.mono ?_;rintro e w1 ⟨rfl,rfl⟩
        go_wp2_with fail
        go_at_call 82
        refine HFi.out.mono ?_;rintro e w2 ⟨rfl,hw2⟩;have HB2:Hid (Below w1.heap.size w1 w2):=hw2;clear hw2 k0 HCu HFi
        go_wp2_with fail
        refine(HSt.out w2 _ HB2.out).mono ?_;rintro e w3 ⟨x,rfl,⟨rfl,h1,h1t,rfl⟩|⟨rfl,h1,h2,A',Z',h3,h4,h5,h6,h7⟩⟩
        · have H1:Hid (Below wb.heap.size wb w3/\U w3):=⟨h1,h1t⟩
          clear h1 h1t HSt HB2 HF;go_wp2;go_ret;exact⟨rfl,H1.out.1,H1.out.2,fun h=>absurd h (by decide)⟩
        · have d0:w3.cell? ⟨w2.heap.size,0,none⟩=some (.int .i64 A.length):=K.zaf (i:=0) h1 rfl
          have d1:w3.cell? ⟨w2.heap.size,1,none⟩=some (.int .i64 kk):=K.zaf (i:=1) h1 rfl;have HFo2:Hid (Calls Tryz.prog ft (#[.agg #[.int .i64 A.length,.int .i64 kk]]++ct) w3 fun e w'=>e= .returned (.tuple #[])/\U w'/\∃ns,Gm.Mx b (mb::ns) mb wb w' g vr vh l c A' Z'/\T w' ns (sh++ [((A.length:Int),kk)])):=HF.out w3 ms A' Z' sh A.length kk h3 h4.1 h4.2 (by omega);have H7:Hid ((sh++ [((A.length:Int),kk)])++Al.shots l left A' Z'=SH):=h7;have hsl2:(sh++ [((A.length:Int),kk)]).length+left=8*t.length+40:=by simp;omega
          have H5:Hid (K.allR (A'++Z')=true):=h5;have H6:Hid (K.play l left A' Z' (s+1) (p+if kk= -1 then 0 else 1)=(o1,o2,o3,o4)):=h6;clear h1 h2 h3 h4 h5 h6 h7 HSt HB2 HF
          go_wp2_with fail
          refine HFo2.out.mono ?_;rintro e w4 ⟨rfl,g0,ns,g1,g2⟩;have G1:Hid (Gm.Mx b (mb::ns) mb wb w4 g vr vh l c A' Z'):=g1;have G2:Hid (T w4 ns (sh++ [((A.length:Int),kk)])/\U w4):=⟨g2,g0⟩;clear g0 g1 g2 HFo2 d0 d1;go_wp2
          go_roundw
          case rel=>exact⟨left,A',Z',ns,_,s+1,_,by go_num,hsl2,G1,G2,H5,H6,H7,G1.out.top⟩
          case measure=>simp[RowKit.intOf]
theorem Tryz.infoShot:(Tryz.prog.info? 59).map (fun i=>(i.zero,i.size,i.bytes))=some (some (.agg #[.int .i64 0,.int .i64 0]),2,16):=by kernel_rfl
theorem Tryz.infoLink:(Tryz.prog.info? 35).map (fun i=>(i.zero,i.size,i.bytes))=some (some (.agg #[.int .i64 0,.int .i64 0,.int .i64 0,.int .i64 0,.int .i64 0]),5,40):=by kernel_rfl
namespace Al
theorem app {sl e:TypeId}{z:Value}{k y:Nat}(hs:Tryz.prog.underlying sl=some (.slice e))(hinfo:(Tryz.prog.info? e).map (fun i=>(i.zero,i.size,i.bytes))=some (some z,k,y))(hzk:z.cells.size=k)(hk:0<k)(hy:y<=100)
  {w:World} {B n:Nat} {vo:Value} {xs:List Value} (own:w.ownsRow B e k vo n xs) (hB:B<=w.heap.size) (hl:n<=1000000) (news:List Value) (hn:news.length=k) (h1:∀u∈news,u.oneCell'=true) :
  ∃ao' vc' w',(∀ty,(Builtin.append_ #[sl,sl] ty #[vo,.slice (some ⟨w.heap.size,0,none⟩) 1 1]).run Tryz.prog (w.alloc (.cells news.toArray e))= .ok (.slice ao' (n+1) vc') w')/\w'.ownsRow B e k (.slice ao' (n+1) vc') (n+1) (xs++news)/\(∀b,b<w.heap.size->vo.ownBlock≠some b->w'.heap[b]?=w.heap[b]?)/\w.heap.size<=w'.heap.size/\Below B w w':=by
 have hal:Below w.heap.size w (w.alloc (.cells news.toArray e)):=(qR w).alloc qN _;have hnew:=heap_alloc_new w (.cells news.toArray e);obtain⟨i0,hi,hz0,hz1,hz2⟩:=info_parts hinfo
 have hcells:∀j u,news[j]?=some u->(w.alloc (.cells news.toArray e)).cell? ((⟨w.heap.size,0,none⟩:Addr).add j)=some u:=fun j u hj=>by
  rw[L.addr_add,Nat.zero_add];exact K.zaf hnew (by simpa using hj)
 have hyb:(n+1)*y<=140737488355328:=Nat.le_trans (Nat.mul_le_mul (Nat.succ_le_succ hl) hy) (by decide);obtain⟨v',w',run,own',gr,_⟩:=run_append_own (P:=Tryz.prog) (w.alloc (.cells news.toArray e)) B sl sl e i0 _ k y hs hi hz0 hz1 hz2 hzk hk vo n xs (own.alloc _) ⟨w.heap.size,0,none⟩ 1 1 news (by rw[hn];omega) hcells h1 (by unfold maxLen;omega) hyb (by simp;omega)
 obtain⟨ao',vc',rfl⟩:∃ao cap,v'= .slice ao (n+1) cap:=by
  rcases own'.2 with ⟨hv,h0⟩|⟨g,cap,cur,hv,_⟩
  ·omega
  ·exact⟨_,cap,hv⟩
 refine⟨ao',vc',w',fun ty=>run,own',fun b hb hne=> ?_,?_,(hal.mono hB).grown gr (by simp;omega) fun k hk=>(own.lt k hk).1⟩
 ·rw[gr.block b (by simp;omega) (fun e=>hne e.symm)];exact hal.block b hb
 ·have:=gr.size;simp at this;omega
def scells (sh:List (Int×Int)):List Value:=sh.flatMap fun x=> [.int .i64 x.1,.int .i64 x.2]
theorem zgi (a b:List (Int×Int)):scells (a++b)=scells a++scells b:=by simp[scells]
def lcells (sh:List Lk):List Value:=sh.flatMap fun x=> [.int .i64 x.fr,.int .i64 x.up,.int .i64 x.beg,.int .i64 x.fin,.int .i64 x.rule]
theorem zgv (a b:List Lk):lcells (a++b)=lcells a++lcells b:=by simp[lcells]
theorem held {F:Nat}{e:TypeId}{k:Nat}{w w':World}{v:Value}{n:Nat}{xs:List Value}(h:w.ownsRow F e k v n xs)(hb:∀q,v.ownBlock=some q->q<w.heap.size->w'.heap[q]?=w.heap[q]?):w'.ownsRow F e k v n xs:=by
 obtain⟨h1,h2⟩:=h;refine⟨h1,?_⟩;rcases h2 with h2 | ⟨g,cap,cur,hv,hg,hx,r⟩
 ·exact .inl h2
 ·exact .inr ⟨g,cap,cur,hv,hg,by rw[hb g (by rw[hv];rfl) (lt_of_block hx)];exact hx,r⟩
theorem block {F:Nat}{e:TypeId}{k:Nat}{w:World}{v:Value}{n:Nat}{xs:List Value}(h:w.ownsRow F e k v n xs){q:Nat}(hq:v.ownBlock=some q):F<=q/\∃cs p,w.heap[q]?=some (.cells cs e p):=by
 obtain⟨h1,h2⟩:=h;rcases h2 with ⟨h2,_⟩|⟨g,cap,cur,hv,hg,hx,r⟩
 ·rw[h2] at hq;cases hq
 ·rw[hv] at hq;have hq':some g=some q:=hq;cases hq';exact⟨hg,_,_,hx⟩
end Al
end Go.Proofs.YtmcljejgbikbhabGreatDoor
