import Derived.Test.YthnmmmkeamcfkaaGreatDoorPrCat
import Derived.Test.YthnmmmkeamcfkaaGreatDoorSSize
set_option maxHeartbeats 0
set_option maxRecDepth 20000
set_option linter.unusedSimpArgs false
set_option linter.unusedVariables false
namespace Go.Proofs.YthnmmmkeamcfkaaGreatDoor
open Go.Proofs.Tryz
section
open Go.RowKit Go.Shelf
theorem ztm (w:World)(v:Value)(l:List Int)(R:L.Rd w v .i32 l)(hl:l.length<=4000) :
  Calls prog 351 #[v] w fun e w'=>e= .returned (.int .i64 l.length)/\w'=w:=by
 obtain⟨ao,cap,rfl,hn,hc⟩:=R;clear hc
 go_enter func351,ntmps351
 go_wp2;go_ret
 exact⟨rfl,rfl⟩
theorem zvy (w:World)(v:Value)(l:List Int)(R:L.Rd w v .i32 l)(hl:l.length<=4000)(k:Int)(h0:0<=k)(hk:k<l.length) :
  Calls prog 350 #[v,.int .i64 k] w fun e w'=>e= .returned (.int .i32 (l.getD k.toNat 0))/\w'=w:=by
 obtain⟨ao,cap,rfl,hn,hc⟩:=R;obtain⟨n,rfl⟩:∃n:Nat,k=n:=⟨k.toNat,by omega⟩;have hlt:n<l.length:=by omega
 obtain⟨b,off,rfl,hcell⟩:=hc (by intro h;subst h;simp at hlt);obtain⟨x,hx⟩:∃x,l[n]?=some x:=⟨l[n],by simp[hlt]⟩;have c1:=hcell n x hx;have e1:l.getD (n:Int).toNat 0=x:=by simp[List.getD,hx]
 rw[e1];clear hcell hc e1 hx
 go_enter func350,ntmps350
 go_wp2;go_ret
 exact⟨rfl,rfl⟩
def K.MBs (w:World) (bv ba:Nat) (vt:Value) (k:Int):Prop:=w.heap[bv]?=some (.cells #[.iface 163 vt] 223)/\w.heap[ba]?=some (.cells #[.int .i64 k] 3)
theorem zcu (w0 w:World)(hB:Below w0.heap.size w0 w)(bv ba:Nat)(hbv:w0.heap.size<=bv)(hba:w0.heap.size<=ba)(hne:bv≠ba)(vl:Value)(l:List (List S.Sp))(R:K.Ss w0 vl l)(hG:K.Good l)
  (vt:Value) (t:List Int) (Rt:L.Rd w0 vt .i32 t) (ht:t.length<=4000) (k:Int) (h0:0<=k) (hk:k+l.length<=t.length) (hX:K.MBs w bv ba vt k) :
  Calls prog 204 (#[vl]++#[.pointer (some ⟨bv,0,none⟩),.pointer (some ⟨ba,0,none⟩)]) w fun e w'=>e= .returned (.bool (K.runAt t k l))/\(K.runAt t k l=true->K.MBs w' bv ba vt (k+l.length))/\Below w0.heap.size w0 w'/\w.grownBy w' (some ba):=by
 have HR:=qH R;have HG:=qH hG;have HT:=qH Rt;have HX0:=qH hX;obtain⟨ao,cap,rfl⟩:=R.len;obtain⟨tgo,tc,rfl,_⟩:=Rt;have hsb:=hB.size;have hl20:=hG.1
 have hm:∀w:World,(method 496 163 (.slice tgo t.length tc) "At").run prog w= .ok (350,.slice tgo t.length tc) w:=fun _=>by kernel_rfl
 clear R hX hG
 go_enter func204,ntmps204
 go_wp2
 go_loopw [9] (fun i wr=>∃j:Nat,j<=l.length/\i= .int .i64 j/\Hid (K.runAt t k l=K.runAt t (k+j) (l.drop j))/\Hid (Below w0.heap.size w0 wr/\w.grownBy wr (some ba)/\K.MBs wr bv ba (.slice tgo t.length tc) (k+j))) (fun i _=>l.length - (intOf i).toNat)
 case atStart=>exact⟨0,Nat.zero_le _,rfl,by show _=_;simp,hB,S.zay _ _,by simpa using HX0.out⟩
 case round =>
  obtain⟨j,hj,rfl,HW,HB⟩:=hrel;have hs:=HB.out.1.size
  by_cases hlt:j<l.length
  ·obtain⟨s,hsj⟩:∃s,l[j]?=some s:=⟨l[j],by simp[hlt]⟩;obtain⟨b,off,so,sc,rfl,c1,R1,F1⟩:=(HR.out.below HB.out.1).at hsj;obtain⟨hN,hlen⟩:=HG.out.2 s (List.mem_of_getElem? hsj);have HD:=K.zgq (t:=t) (k:=k) hsj;rw[<- HW.out] at HD;have d1:=K.zad (i:=0) HB.out.2.2.1 rfl;have d2:=K.zad (i:=0) HB.out.2.2.2 rfl;have hlta:=(qA.1 HB.out.2.2.2).1;have hat:=zvy wr _ t (HT.out.below HB.out.1 qN) ht (k+j) (by omega) (by omega);rw[decide_eq_true (show 0<=k+(j:Int) by omega),decide_eq_true (show k+(j:Int)<t.length by omega),Bool.true_and,Bool.true_and] at HD;obtain⟨x,hx⟩:∃x,x=t.getD (k+(j:Int)).toNat 0:=⟨_,rfl⟩;rw[<- hx] at HD hat;have hhas:=zde wr _ s x R1 hN hlen;generalize S.memb s x=mm at HD hhas;have HD2:=qH HD;clear HD R1 F1 hN hsj hx;have HBa:Hid (Below w0.heap.size w0 wr/\w.grownBy wr (some ba)):=⟨HB.out.1,HB.out.2.1⟩
   go_wp2_with fail
   refine hat.mono ?_;rintro e w1 ⟨rfl,rfl⟩;clear hat
   go_wp2_with fail
   refine hhas.mono ?_;rintro e w1 ⟨rfl,hb⟩;have HB1:=qH <| HBa.out.1.trans (hb.mono hs);have HG1:=qH <| S.zaa HBa.out.2 (S.zaf hb);have HX1:Hid (K.MBs w1 bv ba (.slice tgo t.length tc) (k+j)):=⟨K.zae HB.out.2.2.1 hb,K.zae HB.out.2.2.2 hb⟩;clear hhas d1 d2;cases mm with
   | false =>
    have hf:K.runAt t k l=false:=by rw[HD2.out];rfl
    go_wp2;go_ret
    exact⟨L.zaj hf.symm,fun h=>(by rw[hf] at h;cases h),HB1.out,HG1.out⟩
   | true =>
    have d2:=K.zad (i:=0) HX1.out.2 rfl;have f2:=S.Bx.free (t:=3) (v:= .int .i64 (k+j)) HX1.out.2;go_wp2
    go_roundw
    case rel =>
     have e1:k+(j:Int)+1=k+((j+1:Nat):Int):=by omega
     refine⟨j+1,by omega,by go_num,by show _=_;rw[HD2.out];rfl,HB1.out.setCell hba _,S.zaa HG1.out ⟨rfl,rfl,rfl,by simp,fun b _ hb=>heap_setCell_other _ ⟨ba,0,none⟩ b _ (fun e=>hb (by simp[e]))⟩,?_,?_⟩
     ·rw[heap_setCell_other _ ⟨ba,0,none⟩ bv _ (by simpa using hne)];exact HX1.out.1
     ·rw[<- e1];exact heap_setCell_same _ ba 0 _ _ _ HX1.out.2
    case measure=>simp[intOf];omega
  ·go_wp2;go_ret
   have hf:K.runAt t k l=true:=by rw[HW.out,List.drop_eq_nil_of_le (by omega)];rfl
   obtain rfl:j=l.length:=by omega
   exact⟨L.zaj hf.symm,fun _=>HB.out.2.2,HB.out.1,HB.out.2.1⟩
theorem zkn (w:World)(vt:Value)(k:Int) :
  Calls prog 180 #[.iface 163 vt,.int .i64 k] w fun e w'=>∃bv ba,e= .returned (.func (.func 204) #[] #[.pointer (some ⟨bv,0,none⟩),.pointer (some ⟨ba,0,none⟩)])/\w.heap.size<=bv/\w.heap.size<=ba/\bv≠ba/\K.MBs w' bv ba vt k/\Below w.heap.size w w':=by
 have hmf:∀(fn:Fn) (first cap:Array Value) (w:World),(Instr.makeFunc fn first cap).run prog w= .ok (.func fn first cap) w:=fun _ _ _ _=>rfl
 go_enter func180,ntmps180
 go_wp2;go_ret
 have h:=K.zar (w:=w) (qR ((w.alloc (.cells #[.iface 163 vt] 223)).alloc (.cells #[.int .i64 k] 3)));exact⟨w.heap.size,w.heap.size+1,by simp,qN,by omega,by omega,⟨h.1,h.2.1⟩,h.2.2.1⟩
theorem zg1 (w:World)(v:Value)(r:K.Rule)(R:K.RuIs w v r)(hE:K.ruleE r=0)(vt:Value)(t:List Int)(Rt:L.Rd w vt .i32 t)(ht:t.length<=4000)(k:Int)(hk0:0<=k)(hk1:k<=t.length) :
  Calls prog 142 #[v,.iface 163 vt,.int .i64 k] w fun e w'=>e= .returned (.bool (K.matchB r t k))/\Below w.heap.size w w':=by
 obtain⟨g1,g2,g3,hsrc,_⟩:=K.zal hE;have HG:Hid (K.Good r.before/\K.Good r.source/\K.Good r.after):=⟨g1,g2,g3⟩;have l1:=g1.1;have l2:=g2.1;have l3:=g3.1;obtain⟨bo,bc,so,sc,ao,ac,tgo,tc,rfl,R1,R2,R3,R4,hl4,hcur⟩:=R;have HRs:Hid (K.Ss w (.slice bo r.before.length bc) r.before/\K.Ss w (.slice so r.source.length sc) r.source/\K.Ss w (.slice ao r.after.length ac) r.after):=⟨R1,R2,R3⟩;have HT:=qH Rt;obtain⟨xo,xc,rfl,_⟩:=Rt
 have hm:∀w:World,(method 496 163 (.slice xo t.length xc) "Len").run prog w= .ok (351,.slice xo t.length xc) w:=fun _=>by kernel_rfl
 have eg:∀args w,(callFunc 204 args).run prog w= .ok (.enter 204 args) w:=enters_of func204 (by kernel_rfl) rfl;have HNo:=@K.zhy r t k hsrc;have HRoom:=@K.zg3 r t k;have HN:Hid (_->_):=HNo;have HM:=qH HRoom;generalize K.matchB r t k=mb at *;clear HNo HRoom g1 g2 g3 R1 R2 R3 R4 hcur hE;obtain⟨st,fi,be,sou,af,ta,cu⟩:=r;simp only at *;have hlenq:=fun X hX=>ztm X _ t (HT.out.below hX qN) ht
 have HLQ:=qH hlenq;clear hlenq;obtain⟨W0,hW0⟩:∃W0,W0=w.alloc (.cells #[.bool st,.bool fi,.slice bo be.length bc,.slice so sou.length sc,.slice ao af.length ac,.slice tgo ta.length tc,.int .i64 cu] 50):=⟨_,rfl⟩;have hH0:W0.heap[w.heap.size]?=some (.cells #[.bool st,.bool fi,.slice bo be.length bc,.slice so sou.length sc,.slice ao af.length ac,.slice tgo ta.length tc,.int .i64 cu] 50):=by rw[hW0];exact heap_alloc_new w _
 have HB0:Hid (Below w.heap.size w W0/\W0.heap.size=w.heap.size+1):=by
  rw[hW0];exact⟨(qR w).alloc qN _,by simp⟩
 have HH0:=qH hH0;have c0:=K.zad (i:=0) hH0 rfl;have c1:=K.zad (i:=1) hH0 rfl;have c2:=K.zad (i:=2) hH0 rfl;have c3:=K.zad (i:=3) hH0 rfl;have c4:=K.zad (i:=4) hH0 rfl;clear hH0
 go_enter func142,ntmps142
 go_wp2;rw[<- hW0]
 clear hW0
 go_quiet ((go_at_call 351;exact Calls.quiet_of_same (HLQ.out _ (below_drewN HB0.out.1 _))))
 have HBW:Hid (Below w.heap.size w (W0.drewN nq)/\(W0.drewN nq).heap.size=w.heap.size+1/\(W0.drewN nq).heap[w.heap.size]?=some (.cells #[.bool st,.bool fi,.slice bo be.length bc,.slice so sou.length sc,.slice ao af.length ac,.slice tgo ta.length tc,.int .i64 cu] 50)):=⟨below_drewN HB0.out.1 _,HB0.out.2,HH0.out⟩;have d0:=K.zad (i:=0) HBW.out.2.2 rfl;have d1:=K.zad (i:=1) HBW.out.2.2 rfl;have d2:=K.zad (i:=2) HBW.out.2.2 rfl;have d3:=K.zad (i:=3) HBW.out.2.2 rfl;have d4:=K.zad (i:=4) HBW.out.2.2 rfl;clear c0 c1 c2 c3 c4 HB0 HH0 HLQ;generalize W0.drewN nq=W at *
 by_cases h1:k - (be.length:Int)<0
 ·have hf:=HN.out (.inl h1);go_wp2;go_ret
  first | exact⟨L.zaj hf.symm,HBW.out.1⟩ | exact⟨rfl,HBW.out.1⟩
 ·by_cases h2:(t.length:Int) - k - sou.length - af.length<0
  ·have hf:=HN.out (.inr (.inl h2));go_wp2;go_ret
   first | exact⟨L.zaj hf.symm,HBW.out.1⟩ | exact⟨rfl,HBW.out.1⟩
  ·by_cases h3:st=true/\0<k - (be.length:Int)
   ·have hf:=HN.out (.inr (.inr (.inl h3)));obtain⟨rfl,h3⟩:=h3;go_wp2;go_ret
    first | exact⟨L.zaj hf.symm,HBW.out.1⟩ | exact⟨rfl,HBW.out.1⟩
   ·by_cases h4:fi=true/\0<(t.length:Int) - k - sou.length - af.length
    ·have hf:=HN.out (.inr (.inr (.inr h4)));obtain⟨rfl,h4⟩:=h4;cases st with
     | false =>
      go_wp2;go_ret
      first | exact⟨L.zaj hf.symm,HBW.out.1⟩ | exact⟨rfl,HBW.out.1⟩
     | true =>
      have h5:¬ 0<k - (be.length:Int):=fun h=>h3 ⟨rfl,h⟩
      go_wp2;go_ret
      first | exact⟨L.zaj hf.symm,HBW.out.1⟩ | exact⟨rfl,HBW.out.1⟩
    ·have hM:=HM.out h3 h4;have HM2:=qH hM;have h5:=fun h=>Int.not_lt.1 fun h'=>h3 ⟨h,h'⟩
     have h6:=fun h=>Int.not_lt.1 fun h'=>h4 ⟨h,h'⟩
     have HAl:=zkn W (.slice xo t.length xc) (k - be.length);have hW1:=HBW.out.2.1
     have HC:Hid (∀X bv ba,Below w.heap.size w X->w.heap.size<=bv->w.heap.size<=ba->bv≠ba->K.MBs X bv ba (.slice xo t.length xc) (k - be.length)->Calls prog 204 (#[.slice bo be.length bc]++#[.pointer (some ⟨bv,0,none⟩),.pointer (some ⟨ba,0,none⟩)]) X fun e w'=>e= .returned (.bool (K.runAt t (k - be.length) be))/\(K.runAt t (k - be.length) be=true->K.MBs w' bv ba (.slice xo t.length xc) (k - be.length+be.length))/\Below w.heap.size w w'/\X.grownBy w' (some ba)) :=
      fun X bv ba q1 q2 q3 q4 q5=>zcu w X q1 bv ba q2 q3 q4 _ be HRs.out.1 HG.out.1 _ t HT.out ht (k - be.length) (by omega) (by omega) q5
     have HC2:Hid (∀X bv ba,Below w.heap.size w X->w.heap.size<=bv->w.heap.size<=ba->bv≠ba->K.MBs X bv ba (.slice xo t.length xc) k->Calls prog 204 (#[.slice so sou.length sc]++#[.pointer (some ⟨bv,0,none⟩),.pointer (some ⟨ba,0,none⟩)]) X fun e w'=>e= .returned (.bool (K.runAt t k sou))/\(K.runAt t k sou=true->K.MBs w' bv ba (.slice xo t.length xc) (k+sou.length))/\Below w.heap.size w w'/\X.grownBy w' (some ba)) :=
      fun X bv ba q1 q2 q3 q4 q5=>zcu w X q1 bv ba q2 q3 q4 _ sou HRs.out.2.1 HG.out.2.1 _ t HT.out ht k (by omega) (by omega) q5
     have HC3:Hid (∀X bv ba,Below w.heap.size w X->w.heap.size<=bv->w.heap.size<=ba->bv≠ba->K.MBs X bv ba (.slice xo t.length xc) (k+sou.length)->Calls prog 204 (#[.slice ao af.length ac]++#[.pointer (some ⟨bv,0,none⟩),.pointer (some ⟨ba,0,none⟩)]) X fun e w'=>e= .returned (.bool (K.runAt t (k+sou.length) af))/\(K.runAt t (k+sou.length) af=true->K.MBs w' bv ba (.slice xo t.length xc) (k+sou.length+af.length))/\Below w.heap.size w w'/\X.grownBy w' (some ba)) :=
      fun X bv ba q1 q2 q3 q4 q5=>zcu w X q1 bv ba q2 q3 q4 _ af HRs.out.2.2 HG.out.2.2 _ t HT.out ht (k+sou.length) (by omega) (by omega) q5
     generalize K.runAt t (k - be.length) be=m1 at *;generalize K.runAt t k sou=m2 at *;generalize K.runAt t (k+sou.length) af=m3 at *
     have HRB:Hid (∀X ba,W.heap.size<=ba->(W.grownBy X (some ba)->X.cell? ⟨w.heap.size,2,none⟩=some (.slice bo be.length bc)/\X.cell? ⟨w.heap.size,3,none⟩=some (.slice so sou.length sc)/\X.cell? ⟨w.heap.size,4,none⟩=some (.slice ao af.length ac))):=fun X ba hba hg=>by
      have hb:=hg.block w.heap.size (by omega) (by simp;omega);rw[HBW.out.2.2] at hb;exact⟨K.zad (i:=2) hb rfl,K.zad (i:=3) hb rfl,K.zad (i:=4) hb rfl⟩
     have HBw:=qH HBW.out.1;clear h3 h4 hM HM HN HG HRs HT hm HBW;have hnn:=h1;rcases Bool.eq_false_or_eq_true st with hst | hst <;> rcases Bool.eq_false_or_eq_true fi with hfi | hfi
     all_goals
      subst hst hfi;simp only[forall_const,Bool.false_eq_true,false_imp_iff] at h5 h6
      go_wp2_with fail
      refine HAl.mono ?_;rintro e w1 ⟨bv,ba,rfl,q1,q2,q3,q4,hb⟩;have HB1:=qH <| HBw.out.trans (hb.mono (by omega));have HG1:Hid (W.grownBy w1 (some ba)):=S.zaf hb;obtain⟨f2,f3,f4⟩:=HRB.out w1 ba q2 HG1.out;have hC1:=HC.out w1 bv ba HB1.out (by omega) (by omega) q3 q4;clear HAl HC d0 d1 d2 d3 d4 hb q4
      go_wp2_with fail
      refine hC1.mono ?_;rintro e w2 ⟨rfl,hX2,hb2,hg2⟩;have HB2:=qH hb2;have HG2:=qH <| S.zaa HG1.out hg2;obtain⟨e2,e3,e4⟩:=HRB.out w2 ba q2 HG2.out;clear hC1 f2 f3 f4 hb2 hg2;cases m1 with
      | false =>
       go_wp2;go_ret
       exact⟨L.zaj (by rw[HM2.out];simp),HB2.out⟩
      | true =>
       have hX2':=hX2 rfl;rw[show k - (be.length:Int)+be.length=k by omega] at hX2';have hC2:=HC2.out w2 bv ba HB2.out (by omega) (by omega) q3 hX2';clear hX2 hX2' HC2
       go_wp2_with fail
       refine hC2.mono ?_;rintro e w3 ⟨rfl,hX3,hb3,hg3⟩;have HB3:=qH hb3;have HG3:=qH <| S.zaa HG2.out hg3;obtain⟨e2',e3',e4'⟩:=HRB.out w3 ba q2 HG3.out;clear hC2 e2 e3 e4 hb3 hg3;cases m2 with
       | false =>
        go_wp2;go_ret
        exact⟨L.zaj (by rw[HM2.out];simp),HB3.out⟩
       | true =>
        have hC3:=HC3.out w3 bv ba HB3.out (by omega) (by omega) q3 (hX3 rfl);clear hX3 HC3
        go_wp2_with fail
        refine hC3.mono ?_;rintro e w4 ⟨rfl,_,hb4,_⟩;have HB4:=qH hb4;clear hC3 hb4;go_wp2;go_ret;exact⟨L.zaj (by rw[HM2.out];simp),HB4.out⟩
end
section
open Go.RowKit Go.Shelf
theorem zq9 (w:World)(bm:Nat)(most:Nat)(hmo:most<=8000)(hc:w.cell? ⟨bm,0,none⟩=some (.int .i64 most))(v:Value)(m:Int×List Int)(R:Pr.ImIs w v m)(hm:m.2.length<=1000) :
  Calls prog 137 (#[v]++#[.pointer (some ⟨bm,0,none⟩)]) w fun e w'=>e= .returned (.bool (Pr.shortB most m))/\Below w.heap.size w w':=by
 obtain⟨mo,mc,rfl,_⟩:=R;have HA:=qH <| fun o=>(qR w).alloc qN o
 have hca:=fun o=>K.zai hc o
 unfold Pr.shortB;obtain⟨mu,ml⟩:=m;simp only at hm ⊢;clear hc;show Calls prog 137 #[_,.pointer (some ⟨bm,0,none⟩)] w _
 by_cases q1:ml.length=0
 ·rw[q1]
  go_enter func137,ntmps137
  go_wp2;go_ret
  exact⟨by simp,HA.out _⟩
 ·have q1':((ml.length:Int)==0)=false:=beq_eq_false_iff_ne.2 (by omega)
  have e:(decide (ml.length=0)||decide (2*ml.length<most))=decide ((2:Int)*ml.length<most):=by
   rw[decide_eq_false q1,Bool.false_or];exact decide_eq_decide.2 (by omega)
  rw[e]
  go_enter func137,ntmps137
  go_wp2;go_ret
  exact⟨rfl,HA.out _⟩
theorem ztr (w:World)(vi:Value)(l:List (Int×List Int))(Ri:Pr.Ims w vi l)(hm:∀m∈l,m.2.length<=1000)(v:Value)(back:List K.Rule)(R0:V.Rus w v back)(hE:∀r∈back,K.ruleE r=0) :
  Calls prog 85 #[vi,v] w fun e w'=>e= .returned (.bool (Pr.longB l back))/\Below w.heap.size w w':=by
 have hmf:∀(fn:Fn) (first cap:Array Value) (w:World),(Instr.makeFunc fn first cap).run prog w= .ok (.func fn first cap) w:=fun _ _ _ _=>rfl
 have HR:=qH <| zmp w v back R0;have hah:=K.zup hE;unfold Pr.longB;generalize K.behind back=bh at *;generalize K.ahead back=ah at *
 have HC:Hid (∀X,Below w.heap.size w X->Calls prog 136 #[vi,.func (.func 137) #[] #[.pointer (some ⟨X.heap.size,0,none⟩)]] (X.alloc (.cells #[.int .i64 ah] 3)) fun e w'=>e= .returned (.bool (l.any (Pr.shortB ah)))/\Below (X.alloc (.cells #[.int .i64 ah] 3)).heap.size (X.alloc (.cells #[.int .i64 ah] 3)) w'):=fun X hX=>by
  have hb:=K.zau (w:=X) (qR (X.alloc (.cells #[.int .i64 ah] 3)))
  exact zf3 _ vi l ((Ri.below hX).below hb.2.1) 137 _ (Pr.shortB ah) (enters_of func137 (by kernel_rfl) rfl)
   (fun W m u hW hm' hu=>zq9 W X.heap.size ah (by omega) (K.zad (i:=0) (K.zae hb.1 hW) rfl) u m hu (hm m hm'))
 generalize l.any (Pr.shortB ah)=z at *;obtain⟨ao,cap,rfl⟩:=R0.len;obtain⟨io,ic,rfl⟩:=Ri.len;clear R0 Ri hE
 go_enter func85,ntmps85
 go_wp2_with fail
 refine HR.out.mono ?_;rintro e w1 ⟨rfl,b1⟩;have HB1:=qH b1;have HC1:=HC.out w1 b1;clear b1 HR HC
 go_wp2_with fail
 refine HC1.mono ?_;rintro e w2 ⟨rfl,b2⟩;have HB2:=qH <| HB1.out.trans ((K.zau b2).2.1.mono HB1.out.size);clear b2 HC1;cases z with
 | false=>go_wp2;go_ret;exact⟨rfl,HB2.out⟩
 | true=>go_wp2;go_ret;exact⟨rfl,HB2.out⟩
theorem zgd (w:World)(v:Value)(r:K.Rule)(R:K.RuIs w v r)(hE:K.ruleE r=0)(vt:Value)(t:List Int)(Rt:L.Rd w vt .i32 t)(ht:t.length<=4000)(bt:Nat)(c1:w.cell? ⟨bt,0,none⟩=some vt) :
  Calls prog 179 (#[v]++#[.pointer (some ⟨bt,0,none⟩)]) w fun e w'=>e= .returned (.bool (K.matchB r t 0))/\Below w.heap.size w w':=by
 have HA:=qH <| fun o=>(qR w).alloc qN o
 have HH:=qH <| fun o=>zg1 _ v r (R.below (HA.out o)) hE vt t (Rt.below (HA.out o) qN) ht 0 (by omega) (by omega)
 have d1:=fun o=>K.zai c1 o
 obtain⟨bo,bc,so,sc,ao,ac,tgo,tc,rfl,_⟩:=R;obtain⟨xo,xc,rfl,_⟩:=Rt;generalize K.matchB r t 0=mb at *;clear hE;show Calls prog 179 #[_,.pointer (some ⟨bt,0,none⟩)] w _
 go_enter func179,ntmps179
 go_wp2_with fail
 refine(HH.out _).mono ?_;rintro e w1 ⟨rfl,b1⟩;have HB1:=qH <| (K.zau b1).2.1;clear b1 d1 c1;go_wp2;go_ret;exact⟨by simp,HB1.out⟩
end
section
open Go.RowKit Go.Shelf
theorem zoi (w:World)(m:Int×List Int)(mo:Option Addr)(mc:Nat)(Rm:L.Rd w (.slice mo m.2.length mc) .i32 m.2)(hm:m.2.length<=1000)(v:Value)(back:List K.Rule)(R0:V.Rus w v back)(hl:back.length<=200)(hE:∀r∈back,K.ruleE r=0)(vh:Value)(bh:List Int)(Rh:L.Rd w vh .i32 bh)(hh:bh.length<=1000)(hk:K.which back (m.2++bh) 0= -1) :
  Calls prog 140 #[.agg #[.int .i32 m.1,.slice mo m.2.length mc],v,vh] w fun e w'=>e= .returned (.bool (decide (m.2= [m.1])))/\Below w.heap.size w w':=by
 have hmf:∀(fn:Fn) (first cap:Array Value) (w:World),(Instr.makeFunc fn first cap).run prog w= .ok (.func fn first cap) w:=fun _ _ _ _=>rfl
 obtain⟨X,hX⟩:∃X,X=(w.alloc (.cells #[.int .i32 m.1,.slice mo m.2.length mc] 218)).alloc (.cells #[.slice mo m.2.length mc,vh] 33):=⟨_,rfl⟩;have hb:=K.zar (w:=w) (qR ((w.alloc (.cells #[.int .i32 m.1,.slice mo m.2.length mc] 218)).alloc (.cells #[.slice mo m.2.length mc,vh] 33)));rw[<- hX] at hb;have HX:Hid (X.heap[w.heap.size]?=some (.cells #[.int .i32 m.1,.slice mo m.2.length mc] 218)/\Below w.heap.size w X/\w.heap.size+2<=X.heap.size):=⟨hb.1,hb.2.2.1,hb.2.2.2⟩
 have HCt:Hid (Calls prog 178 #[.slice (some ⟨w.heap.size+1,0,none⟩) 2 2] X fun e w'=>∃v,e= .returned v/\w'.ownsRow X.heap.size 21 1 v (m.2++bh).length ((m.2++bh).map (Value.int .i32))/\Below X.heap.size X w') :=
  zdg X (w.heap.size+1) _ _ m.2 bh (K.zad (i:=0) hb.2.1 rfl) (K.zad (i:=1) hb.2.1 rfl) (Rm.below hb.2.2.1 qN) (Rh.below hb.2.2.1 qN) (by omega)
 have HR:Hid (V.Rus w v back/\(∀r∈back,K.ruleE r=0)/\L.Rd w (.slice mo m.2.length mc) .i32 m.2/\(m.2++bh).length<=4000):=⟨R0,hE,Rm,by rw[List.length_append];omega⟩;have hwh:K.which back (m.2++bh) 0=Pr.firstI (fun r=>K.matchB r (m.2++bh) 0) back:=Pr.zbh
 have HI:Hid (∀(w1 W:World) (ta:Option Addr) (tc:Nat) (bt:Nat),Below w.heap.size w w1->L.Rd w1 (.slice ta (m.2++bh).length tc) .i32 (m.2++bh)->Below w1.heap.size w1 W->W.heap[bt]?=some (.cells #[.slice ta (m.2++bh).length tc] 163)->Calls prog 75 #[v,.func (.func 179) #[] #[.pointer (some ⟨bt,0,none⟩)]] W fun e w'=>e= .returned (.int .i64 (K.which back (m.2++bh) 0))/\Below W.heap.size W w'):=fun w1 W ta tc bt h1 hr h2 hbt=>by
  rw[hwh]
  exact zcj W v back ((R0.below h1).below h2) _ _ (fun r=>K.matchB r (m.2++bh) 0) (enters_of func179 (by kernel_rfl) rfl)
   (fun W' r u hW hr' hu=>zgd W' u r hu (hE r hr') _ (m.2++bh) ((hr.below h2 qN).below hW qN) (by rw[List.length_append];omega) bt (K.zad (i:=0) (K.zae hbt hW) rfl))
 obtain⟨ho,hc,rfl⟩:∃ho hc,vh= .slice ho bh.length hc:=by obtain⟨a,c,h,_⟩:=Rh;exact⟨a,c,h⟩
 obtain⟨aa,ca,rfl⟩:=R0.len;clear hb hwh R0 Rm Rh hE;obtain⟨mu,ml⟩:=m;simp only at *;obtain⟨tl,htl⟩:∃tl,tl=ml++bh:=⟨_,rfl⟩;rw[<- htl] at HCt HR HI hk;clear htl;rw[hk] at HI;clear hk;obtain⟨z,HZ⟩:∃z,Hid (decide (ml= [mu])=z):=⟨_,rfl⟩;rw[HZ.out]
 go_enter func140,ntmps140
 go_wp2_with fail
 rw[<- hX];refine HCt.out.mono ?_;rintro e w1 ⟨v1,rfl,own1,b1⟩;have hrd:=L.Rd.za4 own1;obtain⟨ta,tc,rfl⟩:∃ta tc,v1= .slice ta tl.length tc:=by obtain⟨a,c,h,_⟩:=hrd;exact⟨a,c,h⟩
 have HRd:=qH hrd;have HB1:=qH <| HX.out.2.1.trans (b1.mono (by have:=HX.out.2.2;omega));have HX1:=qH <| K.zae HX.out.1 b1;have x0:∀o,(w1.alloc o).cell? ⟨w.heap.size,0,none⟩=some (.int .i32 mu):=fun o=>K.zai (K.zad (i:=0) HX1.out rfl) o
 obtain⟨Y,hY⟩:∃Y,Y=(w1.alloc (.cells #[.slice ta tl.length tc] 163)).alloc (.cells #[.int .i32 mu] 21):=⟨_,rfl⟩;have hb2:=K.zar (w:=w1) (qR ((w1.alloc (.cells #[.slice ta tl.length tc] 163)).alloc (.cells #[.int .i32 mu] 21)));rw[<- hY] at hb2;have HY:Hid (Y.heap[w1.heap.size+1]?=some (.cells #[.int .i32 mu] 21)/\Below w1.heap.size w1 Y/\w1.heap.size+2<=Y.heap.size):=⟨hb2.2.1,hb2.2.2.1,hb2.2.2.2⟩;have HI2:=HI.out w1 Y ta tc w1.heap.size HB1.out hrd hb2.2.2.1 hb2.1;clear hrd own1 b1 HCt HI hb2 hX
 go_wp2_with fail
 rw[<- hY];refine HI2.mono ?_;rintro e w2 ⟨rfl,b2⟩;have HB12:=qH <| HY.out.2.1.trans (b2.mono (by have:=HY.out.2.2;omega));have HB2:=qH <| HB1.out.trans (HB12.out.mono HB1.out.size);have HX2:=K.zae HX1.out HB12.out;have y0:=K.zad (i:=0) HX2 rfl;have y1:=K.zad (i:=1) HX2 rfl;have hnb:=K.zae HY.out.1 b2
 have HNu:Hid (L.Rd w2 (.slice (some ⟨w1.heap.size+1,0,none⟩) 1 1) .i32 [mu]):=⟨_,_,rfl,fun e=>(by cases e),fun _=>⟨_,0,rfl,fun j y hj=>by
  match j,hj with
  | 0,hj=>cases hj;exact K.zad hnb rfl
  | n+1,hj=>simp at hj⟩⟩
 clear b2 HI2 HX2 hnb x0 hY
 have HEq:Hid (Calls prog 154 #[.slice mo ml.length mc,.slice (some ⟨w1.heap.size+1,0,none⟩) 1 1] w2 fun e w'=>e= .returned (.bool z)/\Below w2.heap.size w2 w'):=by
  have h:=zkh w2 _ _ ml [mu] (HR.out.2.2.1.below HB2.out qN) HNu.out (by omega) (by simp);rw[HZ.out] at h;exact h
 clear HZ HR HX HX1 HY HRd HNu
 go_wp2_with fail
 refine HEq.out.mono ?_;rintro e w3 ⟨rfl,b3⟩;have HB3:=qH <| HB2.out.trans (b3.mono HB2.out.size);clear b3 HEq;go_wp2;go_ret;exact⟨rfl,HB3.out⟩
theorem zoh (w:World)(m:Int×List Int)(mo:Option Addr)(mc:Nat)(Rm:L.Rd w (.slice mo m.2.length mc) .i32 m.2)(hm:m.2.length<=1000)(v:Value)(back:List K.Rule)(R0:V.Rus w v back)(hl:back.length<=200)(hE:∀r∈back,K.ruleE r=0)(vh:Value)(bh:List Int)(Rh:L.Rd w vh .i32 bh)(hh:bh.length<=1000)(j:Nat)(r:K.Rule)(hj:back[j]?=some r)(hk:K.which back (m.2++bh) 0=(j:Int))(q:r.source.length=m.2.length) :
  Calls prog 140 #[.agg #[.int .i32 m.1,.slice mo m.2.length mc],v,vh] w fun e w'=>e= .returned (.bool (decide (r.target= [m.1])))/\Below w.heap.size w w':=by
 have hmf:∀(fn:Fn) (first cap:Array Value) (w:World),(Instr.makeFunc fn first cap).run prog w= .ok (.func fn first cap) w:=fun _ _ _ _=>rfl
 obtain⟨X,hX⟩:∃X,X=(w.alloc (.cells #[.int .i32 m.1,.slice mo m.2.length mc] 218)).alloc (.cells #[.slice mo m.2.length mc,vh] 33):=⟨_,rfl⟩;have hb:=K.zar (w:=w) (qR ((w.alloc (.cells #[.int .i32 m.1,.slice mo m.2.length mc] 218)).alloc (.cells #[.slice mo m.2.length mc,vh] 33)));rw[<- hX] at hb;have HX:Hid (X.heap[w.heap.size]?=some (.cells #[.int .i32 m.1,.slice mo m.2.length mc] 218)/\Below w.heap.size w X/\w.heap.size+2<=X.heap.size):=⟨hb.1,hb.2.2.1,hb.2.2.2⟩
 have HCt:Hid (Calls prog 178 #[.slice (some ⟨w.heap.size+1,0,none⟩) 2 2] X fun e w'=>∃v,e= .returned v/\w'.ownsRow X.heap.size 21 1 v (m.2++bh).length ((m.2++bh).map (Value.int .i32))/\Below X.heap.size X w') :=
  zdg X (w.heap.size+1) _ _ m.2 bh (K.zad (i:=0) hb.2.1 rfl) (K.zad (i:=1) hb.2.1 rfl) (Rm.below hb.2.2.1 qN) (Rh.below hb.2.2.1 qN) (by omega)
 have HR:Hid (V.Rus w v back/\(∀r∈back,K.ruleE r=0)/\L.Rd w (.slice mo m.2.length mc) .i32 m.2/\(m.2++bh).length<=4000):=⟨R0,hE,Rm,by rw[List.length_append];omega⟩;have hwh:K.which back (m.2++bh) 0=Pr.firstI (fun r=>K.matchB r (m.2++bh) 0) back:=Pr.zbh
 have HI:Hid (∀(w1 W:World) (ta:Option Addr) (tc:Nat) (bt:Nat),Below w.heap.size w w1->L.Rd w1 (.slice ta (m.2++bh).length tc) .i32 (m.2++bh)->Below w1.heap.size w1 W->W.heap[bt]?=some (.cells #[.slice ta (m.2++bh).length tc] 163)->Calls prog 75 #[v,.func (.func 179) #[] #[.pointer (some ⟨bt,0,none⟩)]] W fun e w'=>e= .returned (.int .i64 (K.which back (m.2++bh) 0))/\Below W.heap.size W w'):=fun w1 W ta tc bt h1 hr h2 hbt=>by
  rw[hwh]
  exact zcj W v back ((R0.below h1).below h2) _ _ (fun r=>K.matchB r (m.2++bh) 0) (enters_of func179 (by kernel_rfl) rfl)
   (fun W' r u hW hr' hu=>zgd W' u r hu (hE r hr') _ (m.2++bh) ((hr.below h2 qN).below hW qN) (by rw[List.length_append];omega) bt (K.zad (i:=0) (K.zae hbt hW) rfl))
 obtain⟨ho,hc,rfl⟩:∃ho hc,vh= .slice ho bh.length hc:=by obtain⟨a,c,h,_⟩:=Rh;exact⟨a,c,h⟩
 obtain⟨aa,ca,rfl⟩:=R0.len;clear hb hwh R0 Rm Rh hE;obtain⟨mu,ml⟩:=m;simp only at *;obtain⟨tl,htl⟩:∃tl,tl=ml++bh:=⟨_,rfl⟩;rw[<- htl] at HCt HR HI hk;clear htl;rw[hk] at HI;clear hk;have hjl:=(qL.1 hj).1;have hjz:(j:Int)<(back.length:Int):=by omega
 have hrE:=HR.out.2.1 r (List.mem_of_getElem? hj);have hsl:=(K.zal hrE).2.1.1;have htg:=(K.zal hrE).2.2.2.2.1;obtain⟨ao',cap',e',_,hcs⟩:=HR.out.1;cases e';obtain⟨b,off,rfl,hcell⟩:=hcs (by intro h;subst h;simp at hj);obtain⟨bo,bc,so,sc,ao,ac,tgo,tg,_,_,_,a3,_,a5,_,hP⟩:=hcell j r hj;obtain⟨bo',bc',so',sc',ao',ac',tgo',tc',e',_,_,_,hT,_⟩:=hP;have e2:=Value.agg.inj e';simp only[Array.mk.injEq,List.cons.injEq,Value.slice.injEq,true_and,and_true] at e2;obtain⟨⟨rfl,rfl⟩,⟨rfl,rfl⟩,⟨rfl,rfl⟩,rfl,rfl⟩:=e2;have HA:Hid (w.cell? ⟨b,off+j*7+3,none⟩=some (.slice so r.source.length sc)/\w.cell? ⟨b,off+j*7+5,none⟩=some (.slice tgo r.target.length tg)/\L.Rd w (.slice tgo r.target.length tg) .i32 r.target):=⟨a3,a5,hT⟩;clear hT hcs hcell hj e' a3 a5 hrE;obtain⟨st,fi,be,sou,af,tar,cu⟩:=r;simp only at hsl htg HA q;obtain⟨z,HZ⟩:∃z,Hid (decide (tar= [mu])=z):=⟨_,rfl⟩;rw[HZ.out];have HQ:=qH q;clear q
 go_enter func140,ntmps140
 go_wp2_with fail
 rw[<- hX];refine HCt.out.mono ?_;rintro e w1 ⟨v1,rfl,own1,b1⟩;have hrd:=L.Rd.za4 own1;obtain⟨ta,tc,rfl⟩:∃ta tc,v1= .slice ta tl.length tc:=by obtain⟨a,c,h,_⟩:=hrd;exact⟨a,c,h⟩
 have HRd:=qH hrd;have HB1:=qH <| HX.out.2.1.trans (b1.mono (by have:=HX.out.2.2;omega));have HX1:=qH <| K.zae HX.out.1 b1;have x0:∀o,(w1.alloc o).cell? ⟨w.heap.size,0,none⟩=some (.int .i32 mu):=fun o=>K.zai (K.zad (i:=0) HX1.out rfl) o
 obtain⟨Y,hY⟩:∃Y,Y=(w1.alloc (.cells #[.slice ta tl.length tc] 163)).alloc (.cells #[.int .i32 mu] 21):=⟨_,rfl⟩;have hb2:=K.zar (w:=w1) (qR ((w1.alloc (.cells #[.slice ta tl.length tc] 163)).alloc (.cells #[.int .i32 mu] 21)));rw[<- hY] at hb2;have HY:Hid (Y.heap[w1.heap.size+1]?=some (.cells #[.int .i32 mu] 21)/\Below w1.heap.size w1 Y/\w1.heap.size+2<=Y.heap.size):=⟨hb2.2.1,hb2.2.2.1,hb2.2.2.2⟩;have HI2:=HI.out w1 Y ta tc w1.heap.size HB1.out hrd hb2.2.2.1 hb2.1;clear hrd own1 b1 HCt HI hb2 hX
 go_wp2_with fail
 rw[<- hY];refine HI2.mono ?_;rintro e w2 ⟨rfl,b2⟩;have HB12:=qH <| HY.out.2.1.trans (b2.mono (by have:=HY.out.2.2;omega));have HB2:=qH <| HB1.out.trans (HB12.out.mono HB1.out.size);have HX2:=K.zae HX1.out HB12.out;have y0:=K.zad (i:=0) HX2 rfl;have y1:=K.zad (i:=1) HX2 rfl;have hnb:=K.zae HY.out.1 b2
 have HNu:Hid (L.Rd w2 (.slice (some ⟨w1.heap.size+1,0,none⟩) 1 1) .i32 [mu]):=⟨_,_,rfl,fun e=>(by cases e),fun _=>⟨_,0,rfl,fun j y hj=>by
  match j,hj with
  | 0,hj=>cases hj;exact K.zad hnb rfl
  | n+1,hj=>simp at hj⟩⟩
 clear b2 HI2 HX2 hnb x0 hY;have c3:w2.cell? ⟨b,off+j*7+3,none⟩=some (.slice so sou.length sc):=by rw[HB2.out.cell (p:=⟨b,off+j*7+3,none⟩) (L.block_lt HA.out.1)];exact HA.out.1
 have c5:w2.cell? ⟨b,off+j*7+5,none⟩=some (.slice tgo tar.length tg):=by rw[HB2.out.cell (p:=⟨b,off+j*7+5,none⟩) (L.block_lt HA.out.2.1)];exact HA.out.2.1
 rw[HQ.out] at c3
 have HEq:=qH <| fun n=>by
  have h:=zew (w2.drewN n) _ _ tar [mu] ((HA.out.2.2.below HB2.out qN).below (below_drewN (qR _) _) qN) (HNu.out.below (below_drewN (qR _) _) qN) (by omega) (by simp);rw[HZ.out] at h;exact h
 clear HZ HR HA HNu HX HX1 HY HRd HQ HB12 HB1
 go_wp2_with fail
 go_big_quiet (first | (go_at_call 154;exact Calls.quiet_of (HEq.out _)))
 go_wp2;go_ret
 exact⟨rfl,below_drewN HB2.out _⟩
theorem zk9 (w:World)(m:Int×List Int)(mo:Option Addr)(mc:Nat)(Rm:L.Rd w (.slice mo m.2.length mc) .i32 m.2)(hm:m.2.length<=1000)(v:Value)(back:List K.Rule)(R0:V.Rus w v back)(hl:back.length<=200)(hE:∀r∈back,K.ruleE r=0)(vh:Value)(bh:List Int)(Rh:L.Rd w vh .i32 bh)(hh:bh.length<=1000)(j:Nat)(r:K.Rule)(hj:back[j]?=some r)(hk:K.which back (m.2++bh) 0=(j:Int))(q:¬r.source.length=m.2.length) :
  Calls prog 140 #[.agg #[.int .i32 m.1,.slice mo m.2.length mc],v,vh] w fun e w'=>e= .returned (.bool (false))/\Below w.heap.size w w':=by
 have hmf:∀(fn:Fn) (first cap:Array Value) (w:World),(Instr.makeFunc fn first cap).run prog w= .ok (.func fn first cap) w:=fun _ _ _ _=>rfl
 obtain⟨X,hX⟩:∃X,X=(w.alloc (.cells #[.int .i32 m.1,.slice mo m.2.length mc] 218)).alloc (.cells #[.slice mo m.2.length mc,vh] 33):=⟨_,rfl⟩;have hb:=K.zar (w:=w) (qR ((w.alloc (.cells #[.int .i32 m.1,.slice mo m.2.length mc] 218)).alloc (.cells #[.slice mo m.2.length mc,vh] 33)));rw[<- hX] at hb;have HX:Hid (X.heap[w.heap.size]?=some (.cells #[.int .i32 m.1,.slice mo m.2.length mc] 218)/\Below w.heap.size w X/\w.heap.size+2<=X.heap.size):=⟨hb.1,hb.2.2.1,hb.2.2.2⟩
 have HCt:Hid (Calls prog 178 #[.slice (some ⟨w.heap.size+1,0,none⟩) 2 2] X fun e w'=>∃v,e= .returned v/\w'.ownsRow X.heap.size 21 1 v (m.2++bh).length ((m.2++bh).map (Value.int .i32))/\Below X.heap.size X w') :=
  zdg X (w.heap.size+1) _ _ m.2 bh (K.zad (i:=0) hb.2.1 rfl) (K.zad (i:=1) hb.2.1 rfl) (Rm.below hb.2.2.1 qN) (Rh.below hb.2.2.1 qN) (by omega)
 have HR:Hid (V.Rus w v back/\(∀r∈back,K.ruleE r=0)/\L.Rd w (.slice mo m.2.length mc) .i32 m.2/\(m.2++bh).length<=4000):=⟨R0,hE,Rm,by rw[List.length_append];omega⟩;have hwh:K.which back (m.2++bh) 0=Pr.firstI (fun r=>K.matchB r (m.2++bh) 0) back:=Pr.zbh
 have HI:Hid (∀(w1 W:World) (ta:Option Addr) (tc:Nat) (bt:Nat),Below w.heap.size w w1->L.Rd w1 (.slice ta (m.2++bh).length tc) .i32 (m.2++bh)->Below w1.heap.size w1 W->W.heap[bt]?=some (.cells #[.slice ta (m.2++bh).length tc] 163)->Calls prog 75 #[v,.func (.func 179) #[] #[.pointer (some ⟨bt,0,none⟩)]] W fun e w'=>e= .returned (.int .i64 (K.which back (m.2++bh) 0))/\Below W.heap.size W w'):=fun w1 W ta tc bt h1 hr h2 hbt=>by
  rw[hwh]
  exact zcj W v back ((R0.below h1).below h2) _ _ (fun r=>K.matchB r (m.2++bh) 0) (enters_of func179 (by kernel_rfl) rfl)
   (fun W' r u hW hr' hu=>zgd W' u r hu (hE r hr') _ (m.2++bh) ((hr.below h2 qN).below hW qN) (by rw[List.length_append];omega) bt (K.zad (i:=0) (K.zae hbt hW) rfl))
 obtain⟨ho,hc,rfl⟩:∃ho hc,vh= .slice ho bh.length hc:=by obtain⟨a,c,h,_⟩:=Rh;exact⟨a,c,h⟩
 obtain⟨aa,ca,rfl⟩:=R0.len;clear hb hwh R0 Rm Rh hE;obtain⟨mu,ml⟩:=m;simp only at *;obtain⟨tl,htl⟩:∃tl,tl=ml++bh:=⟨_,rfl⟩;rw[<- htl] at HCt HR HI hk;clear htl;rw[hk] at HI;clear hk;have hjl:=(qL.1 hj).1;have hjz:(j:Int)<(back.length:Int):=by omega
 have hrE:=HR.out.2.1 r (List.mem_of_getElem? hj);have hsl:=(K.zal hrE).2.1.1;have htg:=(K.zal hrE).2.2.2.2.1;obtain⟨ao',cap',e',_,hcs⟩:=HR.out.1;cases e';obtain⟨b,off,rfl,hcell⟩:=hcs (by intro h;subst h;simp at hj);obtain⟨bo,bc,so,sc,ao,ac,tgo,tg,_,_,_,a3,_,a5,_,hP⟩:=hcell j r hj;obtain⟨bo',bc',so',sc',ao',ac',tgo',tc',e',_,_,_,hT,_⟩:=hP;have e2:=Value.agg.inj e';simp only[Array.mk.injEq,List.cons.injEq,Value.slice.injEq,true_and,and_true] at e2;obtain⟨⟨rfl,rfl⟩,⟨rfl,rfl⟩,⟨rfl,rfl⟩,rfl,rfl⟩:=e2;have HA:Hid (w.cell? ⟨b,off+j*7+3,none⟩=some (.slice so r.source.length sc)/\w.cell? ⟨b,off+j*7+5,none⟩=some (.slice tgo r.target.length tg)/\L.Rd w (.slice tgo r.target.length tg) .i32 r.target):=⟨a3,a5,hT⟩;clear hT hcs hcell hj e' a3 a5 hrE;obtain⟨st,fi,be,sou,af,tar,cu⟩:=r;simp only at hsl htg HA q
 go_enter func140,ntmps140
 go_wp2_with fail
 rw[<- hX];refine HCt.out.mono ?_;rintro e w1 ⟨v1,rfl,own1,b1⟩;have hrd:=L.Rd.za4 own1;obtain⟨ta,tc,rfl⟩:∃ta tc,v1= .slice ta tl.length tc:=by obtain⟨a,c,h,_⟩:=hrd;exact⟨a,c,h⟩
 have HRd:=qH hrd;have HB1:=qH <| HX.out.2.1.trans (b1.mono (by have:=HX.out.2.2;omega));have HX1:=qH <| K.zae HX.out.1 b1;have x0:∀o,(w1.alloc o).cell? ⟨w.heap.size,0,none⟩=some (.int .i32 mu):=fun o=>K.zai (K.zad (i:=0) HX1.out rfl) o
 obtain⟨Y,hY⟩:∃Y,Y=(w1.alloc (.cells #[.slice ta tl.length tc] 163)).alloc (.cells #[.int .i32 mu] 21):=⟨_,rfl⟩;have hb2:=K.zar (w:=w1) (qR ((w1.alloc (.cells #[.slice ta tl.length tc] 163)).alloc (.cells #[.int .i32 mu] 21)));rw[<- hY] at hb2;have HY:Hid (Y.heap[w1.heap.size+1]?=some (.cells #[.int .i32 mu] 21)/\Below w1.heap.size w1 Y/\w1.heap.size+2<=Y.heap.size):=⟨hb2.2.1,hb2.2.2.1,hb2.2.2.2⟩;have HI2:=HI.out w1 Y ta tc w1.heap.size HB1.out hrd hb2.2.2.1 hb2.1;clear hrd own1 b1 HCt HI hb2 hX
 go_wp2_with fail
 rw[<- hY];refine HI2.mono ?_;rintro e w2 ⟨rfl,b2⟩;have HB12:=qH <| HY.out.2.1.trans (b2.mono (by have:=HY.out.2.2;omega));have HB2:=qH <| HB1.out.trans (HB12.out.mono HB1.out.size);have HX2:=K.zae HX1.out HB12.out;have y0:=K.zad (i:=0) HX2 rfl;have y1:=K.zad (i:=1) HX2 rfl;have hnb:=K.zae HY.out.1 b2
 have HNu:Hid (L.Rd w2 (.slice (some ⟨w1.heap.size+1,0,none⟩) 1 1) .i32 [mu]):=⟨_,_,rfl,fun e=>(by cases e),fun _=>⟨_,0,rfl,fun j y hj=>by
  match j,hj with
  | 0,hj=>cases hj;exact K.zad hnb rfl
  | n+1,hj=>simp at hj⟩⟩
 clear b2 HI2 HX2 hnb x0 hY;have c3:w2.cell? ⟨b,off+j*7+3,none⟩=some (.slice so sou.length sc):=by rw[HB2.out.cell (p:=⟨b,off+j*7+3,none⟩) (L.block_lt HA.out.1)];exact HA.out.1
 have c5:w2.cell? ⟨b,off+j*7+5,none⟩=some (.slice tgo tar.length tg):=by rw[HB2.out.cell (p:=⟨b,off+j*7+5,none⟩) (L.block_lt HA.out.2.1)];exact HA.out.2.1
 have q2:((sou.length:Int)==(ml.length:Int))=false:=by simp;omega
 have q3:decide ((sou.length:Int)=(ml.length:Int))=false:=by simp;omega
 clear HR HA HNu HX HX1 HY HRd HB12 HB1
 go_wp2_with fail
 go_big_quiet (fail)
 go_wp2;go_ret
 exact⟨rfl,below_drewN HB2.out _⟩
theorem zrv (w:World)(m:Int×List Int)(mo:Option Addr)(mc:Nat)(Rm:L.Rd w (.slice mo m.2.length mc) .i32 m.2)(hm:m.2.length<=1000)(v:Value)(back:List K.Rule)(R0:V.Rus w v back)(hl:back.length<=200)(hE:∀r∈back,K.ruleE r=0)(vh:Value)(bh:List Int)(Rh:L.Rd w vh .i32 bh)(hh:bh.length<=1000) :
  Calls prog 140 #[.agg #[.int .i32 m.1,.slice mo m.2.length mc],v,vh] w fun e w'=>e= .returned (.bool (Pr.comesB back m bh))/\Below w.heap.size w w':=by
 unfold Pr.comesB;rcases K.zcw (l:=back) (t:=m.2++bh) (k:=0) with hk | ⟨j,r,hj,hmt,hk⟩
 ·rw[hk,if_pos (by decide)];exact zoi w m mo mc Rm hm v back R0 hl hE vh bh Rh hh hk
 ·rw[hk,if_neg (by omega),Int.toNat_natCast,hj];simp only[Option.getD_some]
  by_cases q:r.source.length=m.2.length
  ·rw[decide_eq_true q,Bool.true_and];exact zoh w m mo mc Rm hm v back R0 hl hE vh bh Rh hh j r hj hk q
  ·rw[decide_eq_false q,Bool.false_and];exact zk9 w m mo mc Rm hm v back R0 hl hE vh bh Rh hh j r hj hk q
end
section
open Go.RowKit Go.Shelf
theorem zr6 (w:World)(bm bb:Nat)(m:Int×List Int)(mo:Option Addr)(mc:Nat)(hbm:w.heap[bm]?=some (.cells #[.int .i32 m.1,.slice mo m.2.length mc] 218))(Rm:L.Rd w (.slice mo m.2.length mc) .i32 m.2)(hm:m.2.length<=1000)(vb:Value)(back:List K.Rule)(R0:V.Rus w vb back)(hl:back.length<=200)(hE:∀r∈back,K.ruleE r=0)(hbb:w.cell? ⟨bb,0,none⟩=some vb)(v:Value)(nx:Int×List Int)(R:Pr.ImIs w v nx)(hn:nx.2.length<=1000) :
  Calls prog 139 (#[v]++#[.pointer (some ⟨bm,0,none⟩),.pointer (some ⟨bb,0,none⟩)]) w fun e w'=>e= .returned (.bool (!(Pr.comesB back m nx.2)))/\Below w.heap.size w w':=by
 obtain⟨no,nc,rfl,Rn⟩:=R;have HA:=qH <| fun o=>(qR w).alloc qN o
 have c0:∀o,(w.alloc o).cell? ⟨bm,0,none⟩=some (.int .i32 m.1):=fun o=>K.zai (K.zad (i:=0) hbm rfl) o
 have c1:∀o,(w.alloc o).cell? ⟨bm,1,none⟩=some (.slice mo m.2.length mc):=fun o=>K.zai (K.zad (i:=1) hbm rfl) o
 have c2:=fun o=>K.zai hbb o
 have HC:=qH <| fun o=>zrv _ m mo mc (Rm.below (HA.out o) qN) hm vb back (R0.below (HA.out o)) hl hE _ nx.2 (Rn.below (HA.out o) qN) hn
 generalize Pr.comesB back m nx.2=z at *;obtain⟨aa,ca,rfl⟩:=R0.len;obtain⟨mu,ml⟩:=m;obtain⟨nu,nl⟩:=nx;simp only at *;clear R0 hE Rm Rn hbm hbb;show Calls prog 139 #[_,.pointer (some ⟨bm,0,none⟩),.pointer (some ⟨bb,0,none⟩)] w _
 go_enter func139,ntmps139
 go_wp2_with fail
 refine(HC.out _).mono ?_;rintro e w1 ⟨rfl,b1⟩;have HB1:=qH <| (K.zau b1).2.1;clear b1 HC c0 c1 c2;cases z with
 | false=>go_wp2;go_ret;exact⟨rfl,HB1.out⟩
 | true=>go_wp2;go_ret;exact⟨rfl,HB1.out⟩
theorem zuo (w:World)(bb bl:Nat)(vb:Value)(back:List K.Rule)(R0:V.Rus w vb back)(hl:back.length<=200)(hE:∀r∈back,K.ruleE r=0)(hbb:w.cell? ⟨bb,0,none⟩=some vb)(vi:Value)(l:List (Int×List Int))(Ri:Pr.Ims w vi l)(hls:∀m∈l,m.2.length<=1000)(hbl:w.cell? ⟨bl,0,none⟩=some vi)(v:Value)(m:Int×List Int)(R:Pr.ImIs w v m)(hm:m.2.length<=1000) :
  Calls prog 138 (#[v]++#[.pointer (some ⟨bb,0,none⟩),.pointer (some ⟨bl,0,none⟩)]) w fun e w'=>e= .returned (.bool (Pr.lostB back l m))/\Below w.heap.size w w':=by
 have hmf:∀(fn:Fn) (first cap:Array Value) (w:World),(Instr.makeFunc fn first cap).run prog w= .ok (.func fn first cap) w:=fun _ _ _ _=>rfl
 have eg:∀args w,(callFunc 139 args).run prog w= .ok (.enter 139 args) w:=enters_of func139 (by kernel_rfl) rfl;obtain⟨mo,mc,rfl,Rm⟩:=R;obtain⟨X,hX⟩:∃X,X=w.alloc (.cells #[.int .i32 m.1,.slice mo m.2.length mc] 218):=⟨_,rfl⟩;have hb:=K.zau (w:=w) (qR (w.alloc (.cells #[.int .i32 m.1,.slice mo m.2.length mc] 218)));rw[<- hX] at hb;have HX:=qH hb.2
 have HL:=qH <| fun W hW u nx hu hn =>
  zr6 W w.heap.size bb m mo mc (K.zae hb.1 hW) ((Rm.below hb.2.1 qN).below hW qN) hm vb back ((R0.below hb.2.1).below hW) hl hE (by
   have h1:=hb.2.1.cell (p:=⟨bb,0,none⟩) (L.block_lt hbb);rw[hbb] at h1
   rw[hW.cell (p:=⟨bb,0,none⟩) (L.block_lt h1)];exact h1) u nx hu hn
 have H0:Hid (Calls prog 139 #[.agg #[.int .i32 0,.slice none 0 0],.pointer (some ⟨w.heap.size,0,none⟩),.pointer (some ⟨bb,0,none⟩)] X fun e w'=>e= .returned (.bool (!(Pr.comesB back m [])))/\Below X.heap.size X w'):=by
  have h:=HL.out X (qR _) (.agg #[.int .i32 0,.slice none 0 0]) (0,[]) ⟨none,0,rfl,none,0,rfl,fun _=>rfl,fun h=>absurd rfl h⟩ (by simp);exact h
 have HC:=qH <| fun W hW =>
  zf3 W vi l ((Ri.below hb.2.1).below hW) _ _ (fun n=> !(Pr.comesB back m n.2)) eg (fun W' n u hW' hn hu=>HL.out W' (hW.trans (hW'.mono hW.size)) u n hu (hls n hn))
 have HBl:Hid (∀W,Below X.heap.size X W->W.cell? ⟨bl,0,none⟩=some vi):=fun W hW=>by
  have h1:=hb.2.1.cell (p:=⟨bl,0,none⟩) (L.block_lt hbl);rw[hbl] at h1;rw[hW.cell (p:=⟨bl,0,none⟩) (L.block_lt h1)];exact h1
 unfold Pr.lostB;generalize (!(Pr.comesB back m []))=y at *;generalize (l.any fun n=> !(Pr.comesB back m n.2))=z at *;obtain⟨io,ic,rfl⟩:=Ri.len;obtain⟨mu,ml⟩:=m;simp only at *;clear R0 hE Rm hbb hbl hb Ri HL;show Calls prog 138 #[_,.pointer (some ⟨bb,0,none⟩),.pointer (some ⟨bl,0,none⟩)] w _
 go_enter func138,ntmps138
 go_wp2_with fail
 rw[<- hX];refine H0.out.mono ?_;rintro e w1 ⟨rfl,b1⟩;have HB1:=qH <| HX.out.1.trans (b1.mono (by have:=HX.out.2;omega));have k0:=HBl.out w1 b1;have HC1:=HC.out w1 b1;clear b1 H0 HC HBl hX;cases y with
 | true=>go_wp2;go_ret;exact⟨rfl,HB1.out⟩
 | false =>
  go_wp2_with fail
  refine HC1.mono ?_;rintro e w2 ⟨rfl,b2⟩;have HB2:=qH <| HB1.out.trans (b2.mono HB1.out.size);clear b2 HC1 k0;cases z with
  | false=>go_wp2;go_ret;exact⟨rfl,HB2.out⟩
  | true=>go_wp2;go_ret;exact⟨rfl,HB2.out⟩
theorem zlj (w:World)(vi:Value)(l:List (Int×List Int))(Ri:Pr.Ims w vi l)(hls:∀m∈l,m.2.length<=1000)(vb:Value)(back:List K.Rule)(R0:V.Rus w vb back)(hl:back.length<=200)(hE:∀r∈back,K.ruleE r=0) :
  Calls prog 86 #[vi,vb] w fun e w'=>e= .returned (.bool (Pr.allB l back))/\Below w.heap.size w w':=by
 have hmf:∀(fn:Fn) (first cap:Array Value) (w:World),(Instr.makeFunc fn first cap).run prog w= .ok (.func fn first cap) w:=fun _ _ _ _=>rfl
 obtain⟨X,hX⟩:∃X,X=(w.alloc (.cells #[vi] 156)).alloc (.cells #[vb] 30):=⟨_,rfl⟩;have hb:=K.zar (w:=w) (qR ((w.alloc (.cells #[vi] 156)).alloc (.cells #[vb] 30)));rw[<- hX] at hb
 have HC:Hid (Calls prog 136 #[vi,.func (.func 138) #[] #[.pointer (some ⟨w.heap.size+1,0,none⟩),.pointer (some ⟨w.heap.size,0,none⟩)]] X fun e w'=>e= .returned (.bool (l.any (Pr.lostB back l)))/\Below X.heap.size X w') :=
  zf3 X vi l (Ri.below hb.2.2.1) _ _ (Pr.lostB back l) (enters_of func138 (by kernel_rfl) rfl)
   (fun W m u hW hm hu=>zuo W (w.heap.size+1) w.heap.size vb back ((R0.below hb.2.2.1).below hW) hl hE (K.zad (i:=0) (K.zae hb.2.1 hW) rfl) vi l ((Ri.below hb.2.2.1).below hW) hls (K.zad (i:=0) (K.zae hb.1 hW) rfl) u m hu (hls m hm))
 have HB:=qH hb.2.2.1;unfold Pr.allB;generalize l.any (Pr.lostB back l)=z at *;obtain⟨aa,ca,rfl⟩:=R0.len;obtain⟨io,ic,rfl⟩:=Ri.len;clear R0 Ri hE hb
 go_enter func86,ntmps86
 go_wp2_with fail
 rw[<- hX];refine HC.out.mono ?_;rintro e w1 ⟨rfl,b1⟩;have HB1:=qH <| HB.out.trans (b1.mono HB.out.size);clear b1 HC hX;cases z with
 | false=>go_wp2;go_ret;exact⟨rfl,HB1.out⟩
 | true=>go_wp2;go_ret;exact⟨rfl,HB1.out⟩
