import Derived.Test.YthnmmmkeamcfkaaGreatDoorQPut
set_option maxHeartbeats 0
set_option maxRecDepth 20000
set_option linter.unusedSimpArgs false
set_option linter.unusedVariables false
namespace Go.Proofs.YthnmmmkeamcfkaaGreatDoor
open Go.Proofs.Tryz
section
open Go.RowKit Go.Shelf
theorem zr8 (w:World)(v:Value)(l:List Int)(R:L.Rd w v .i32 l)(hl:l.length<=4000) :
  Calls prog 351 #[v] w fun e w'=>e= .returned (.int .i64 l.length)/\w'=w:=by
 obtain⟨ao,cap,rfl,hn,hc⟩:=R;clear hc
 go_enter func351,ntmps351
 go_wp2;go_ret
 exact⟨rfl,rfl⟩
theorem zuh (w:World)(v:Value)(l:List Int)(R:L.Rd w v .i32 l)(hl:l.length<=4000)(k:Int)(h0:0<=k)(hk:k<l.length) :
  Calls prog 350 #[v,.int .i64 k] w fun e w'=>e= .returned (.int .i32 (l.getD k.toNat 0))/\w'=w:=by
 obtain⟨ao,cap,rfl,hn,hc⟩:=R;obtain⟨n,rfl⟩:∃n:Nat,k=n:=⟨k.toNat,by omega⟩;have hlt:n<l.length:=by omega
 obtain⟨b,off,rfl,hcell⟩:=hc (by intro h;subst h;simp at hlt);obtain⟨x,hx⟩:∃x,l[n]?=some x:=⟨l[n],by simp[hlt]⟩;have c1:=hcell n x hx;have e1:l.getD (n:Int).toNat 0=x:=by simp[List.getD,hx]
 rw[e1];clear hcell hc e1 hx
 go_enter func350,ntmps350
 go_wp2;go_ret
 exact⟨rfl,rfl⟩
def K.MBs (w:World) (bv ba:Nat) (vt:Value) (k:Int):Prop:=w.heap[bv]?=some (.cells #[.iface 163 vt] 223)/\w.heap[ba]?=some (.cells #[.int .i64 k] 3)
theorem zcu (w0 w:World)(hB:Below w0.heap.size w0 w)(bv ba:Nat)(hbv:w0.heap.size<=bv)(hba:w0.heap.size<=ba)(hne:bv≠ba)(vl:Value)(l:List (List S.Sp))(R:K.Ss w0 vl l)(hG:K.Good l)
  (vt:Value) (t:List Int) (Rt:L.Rd w0 vt .i32 t) (ht:t.length<=4000) (k:Int) (h0:0<=k) (hk:k+l.length<=t.length) (hX:K.MBs w bv ba vt k) :
  Calls prog 204 (#[vl]++#[.pointer (some ⟨bv,0,none⟩),.pointer (some ⟨ba,0,none⟩)]) w fun e w'=>e= .returned (.bool (K.runAt t k l))/\(K.runAt t k l=true->K.MBs w' bv ba vt (k+l.length))/\Below w0.heap.size w0 w'/\w.grownBy w' (some ba):=by
 have HR:=qH R;have HG:=qH hG;have HT:=qH Rt;have HX0:=qH hX;obtain⟨ao,cap,rfl⟩:=R.len;obtain⟨tgo,tc,rfl,_⟩:=Rt;have hsb:=hB.size;have hl20:=hG.1
 have hm:∀w:World,(method 496 163 (.slice tgo t.length tc) "At").run prog w= .ok (350,.slice tgo t.length tc) w:=fun _=>by kernel_rfl
 clear R hX hG
 go_enter func204,ntmps204
 go_wp2
 go_loopw [9] (fun i wr=>∃j:Nat,j<=l.length/\i= .int .i64 j/\Hid (K.runAt t k l=K.runAt t (k+j) (l.drop j))/\Hid (Below w0.heap.size w0 wr/\w.grownBy wr (some ba)/\K.MBs wr bv ba (.slice tgo t.length tc) (k+j))) (fun i _=>l.length - (intOf i).toNat)
 case atStart=>exact⟨0,Nat.zero_le _,rfl,by show _=_;simp,hB,S.zav _ _,by simpa using HX0.out⟩
 case round =>
  obtain⟨j,hj,rfl,HW,HB⟩:=hrel;have hs:=HB.out.1.size
  by_cases hlt:j<l.length
  ·obtain⟨s,hsj⟩:∃s,l[j]?=some s:=⟨l[j],by simp[hlt]⟩;obtain⟨b,off,so,sc,rfl,c1,R1,F1⟩:=(HR.out.below HB.out.1).at hsj;obtain⟨hN,hlen⟩:=HG.out.2 s (List.mem_of_getElem? hsj);have HD:=K.zgd (t:=t) (k:=k) hsj;rw[<- HW.out] at HD;have d1:=K.zad (i:=0) HB.out.2.2.1 rfl;have d2:=K.zad (i:=0) HB.out.2.2.2 rfl;have hlta:=(qA.1 HB.out.2.2.2).1;have hat:=zuh wr _ t (HT.out.below HB.out.1 qN) ht (k+j) (by omega) (by omega);rw[decide_eq_true (show 0<=k+(j:Int) by omega),decide_eq_true (show k+(j:Int)<t.length by omega),Bool.true_and,Bool.true_and] at HD;obtain⟨x,hx⟩:∃x,x=t.getD (k+(j:Int)).toNat 0:=⟨_,rfl⟩;rw[<- hx] at HD hat;have hhas:=zho wr _ s x R1 hN hlen;generalize S.memb s x=mm at HD hhas;have HD2:=qH HD;clear HD R1 F1 hN hsj hx;have HBa:Hid (Below w0.heap.size w0 wr/\w.grownBy wr (some ba)):=⟨HB.out.1,HB.out.2.1⟩
   go_wp2_with fail
   refine hat.mono ?_;rintro e w1 ⟨rfl,rfl⟩;clear hat
   go_wp2_with fail
   refine hhas.mono ?_;rintro e w1 ⟨rfl,hb⟩;have HB1:=qH <| HBa.out.1.trans (hb.mono hs);have HG1:=qH <| S.zaa HBa.out.2 (S.zae hb);have HX1:Hid (K.MBs w1 bv ba (.slice tgo t.length tc) (k+j)):=⟨K.zaf HB.out.2.2.1 hb,K.zaf HB.out.2.2.2 hb⟩;clear hhas d1 d2;cases mm with
   | false =>
    have hf:K.runAt t k l=false:=by rw[HD2.out];rfl
    go_wp2;go_ret
    exact⟨L.zaj hf.symm,fun h=>(by rw[hf] at h;cases h),HB1.out,HG1.out⟩
   | true =>
    have d2:=K.zad (i:=0) HX1.out.2 rfl;have f2:=S.Bx.free (t:=3) (v:= .int .i64 (k+j)) HX1.out.2;go_wp2
    go_roundw
    case rel =>
     have e1:k+(j:Int)+1=k+((j+1:Nat):Int):=by omega
     refine⟨j+1,by omega,by go_num,by show _=_;rw[HD2.out];rfl,HB1.out.setCell hba _,S.zaa HG1.out ⟨rfl,rfl,rfl,by simp,fun b _ hb=>heap_setCell_other _ ⟨ba,0,none⟩ b _ (fun e=>hb (by simp[e]))⟩,?_,?_⟩
     ·rw[heap_setCell_other _ ⟨ba,0,none⟩ bv _ (by simpa using hne)];exact HX1.out.1
     ·rw[<- e1];exact heap_setCell_same _ ba 0 _ _ _ HX1.out.2
    case measure=>simp[intOf];omega
  ·go_wp2;go_ret
   have hf:K.runAt t k l=true:=by rw[HW.out,List.drop_eq_nil_of_le (by omega)];rfl
   obtain rfl:j=l.length:=by omega
   exact⟨L.zaj hf.symm,fun _=>HB.out.2.2,HB.out.1,HB.out.2.1⟩
theorem zj3 (w:World)(vt:Value)(k:Int) :
  Calls prog 180 #[.iface 163 vt,.int .i64 k] w fun e w'=>∃bv ba,e= .returned (.func (.func 204) #[] #[.pointer (some ⟨bv,0,none⟩),.pointer (some ⟨ba,0,none⟩)])/\w.heap.size<=bv/\w.heap.size<=ba/\bv≠ba/\K.MBs w' bv ba vt k/\Below w.heap.size w w':=by
 have hmf:∀(fn:Fn) (first cap:Array Value) (w:World),(Instr.makeFunc fn first cap).run prog w= .ok (.func fn first cap) w:=fun _ _ _ _=>rfl
 go_enter func180,ntmps180
 go_wp2;go_ret
 have h:=K.zax (w:=w) (qR ((w.alloc (.cells #[.iface 163 vt] 223)).alloc (.cells #[.int .i64 k] 3)));exact⟨w.heap.size,w.heap.size+1,by simp,qN,by omega,by omega,⟨h.1,h.2.1⟩,h.2.2.1⟩
theorem zmv (w:World)(v:Value)(r:K.Rule)(R:K.RuIs w v r)(hE:K.ruleE r=0)(vt:Value)(t:List Int)(Rt:L.Rd w vt .i32 t)(ht:t.length<=4000)(k:Int)(hk0:0<=k)(hk1:k<=t.length) :
  Calls prog 142 #[v,.iface 163 vt,.int .i64 k] w fun e w'=>e= .returned (.bool (K.matchB r t k))/\Below w.heap.size w w':=by
 obtain⟨g1,g2,g3,hsrc,_⟩:=K.zao hE;have HG:Hid (K.Good r.before/\K.Good r.source/\K.Good r.after):=⟨g1,g2,g3⟩;have l1:=g1.1;have l2:=g2.1;have l3:=g3.1;obtain⟨bo,bc,so,sc,ao,ac,tgo,tc,rfl,R1,R2,R3,R4,hl4,hcur⟩:=R;have HRs:Hid (K.Ss w (.slice bo r.before.length bc) r.before/\K.Ss w (.slice so r.source.length sc) r.source/\K.Ss w (.slice ao r.after.length ac) r.after):=⟨R1,R2,R3⟩;have HT:=qH Rt;obtain⟨xo,xc,rfl,_⟩:=Rt
 have hm:∀w:World,(method 496 163 (.slice xo t.length xc) "Len").run prog w= .ok (351,.slice xo t.length xc) w:=fun _=>by kernel_rfl
 have eg:∀args w,(callFunc 204 args).run prog w= .ok (.enter 204 args) w:=enters_of func204 (by kernel_rfl) rfl;have HNo:=@K.zhi r t k hsrc;have HRoom:=@K.zgo r t k;have HN:Hid (_->_):=HNo;have HM:=qH HRoom;generalize K.matchB r t k=mb at *;clear HNo HRoom g1 g2 g3 R1 R2 R3 R4 hcur hE;obtain⟨st,fi,be,sou,af,ta,cu⟩:=r;simp only at *;have hlenq:=fun X hX=>zr8 X _ t (HT.out.below hX qN) ht
 have HLQ:=qH hlenq;clear hlenq;obtain⟨W0,hW0⟩:∃W0,W0=w.alloc (.cells #[.bool st,.bool fi,.slice bo be.length bc,.slice so sou.length sc,.slice ao af.length ac,.slice tgo ta.length tc,.int .i64 cu] 50):=⟨_,rfl⟩;have hH0:W0.heap[w.heap.size]?=some (.cells #[.bool st,.bool fi,.slice bo be.length bc,.slice so sou.length sc,.slice ao af.length ac,.slice tgo ta.length tc,.int .i64 cu] 50):=by rw[hW0];exact heap_alloc_new w _
 have HB0:Hid (Below w.heap.size w W0/\W0.heap.size=w.heap.size+1):=by
  rw[hW0];exact⟨(qR w).alloc qN _,by simp⟩
 have HH0:=qH hH0;have c0:=K.zad (i:=0) hH0 rfl;have c1:=K.zad (i:=1) hH0 rfl;have c2:=K.zad (i:=2) hH0 rfl;have c3:=K.zad (i:=3) hH0 rfl;have c4:=K.zad (i:=4) hH0 rfl;clear hH0
 go_enter func142,ntmps142
 go_wp2;rw[<- hW0]
 clear hW0
 go_quiet ((go_at_call 351;exact Calls.quiet_of_same (HLQ.out _ (below_drewN HB0.out.1 _))))
 have HBW:Hid (Below w.heap.size w (W0.drewN nq)/\(W0.drewN nq).heap.size=w.heap.size+1/\(W0.drewN nq).heap[w.heap.size]?=some (.cells #[.bool st,.bool fi,.slice bo be.length bc,.slice so sou.length sc,.slice ao af.length ac,.slice tgo ta.length tc,.int .i64 cu] 50)):=⟨below_drewN HB0.out.1 _,HB0.out.2,HH0.out⟩;have d0:=K.zad (i:=0) HBW.out.2.2 rfl;have d1:=K.zad (i:=1) HBW.out.2.2 rfl;have d2:=K.zad (i:=2) HBW.out.2.2 rfl;have d3:=K.zad (i:=3) HBW.out.2.2 rfl;have d4:=K.zad (i:=4) HBW.out.2.2 rfl;clear c0 c1 c2 c3 c4 HB0 HH0 HLQ;generalize W0.drewN nq=W at *
 by_cases h1:k - (be.length:Int)<0
 ·have hf:=HN.out (.inl h1);go_wp2;go_ret
  first | exact⟨L.zaj hf.symm,HBW.out.1⟩ | exact⟨rfl,HBW.out.1⟩
 ·by_cases h2:(t.length:Int) - k - sou.length - af.length<0
  ·have hf:=HN.out (.inr (.inl h2));go_wp2;go_ret
   first | exact⟨L.zaj hf.symm,HBW.out.1⟩ | exact⟨rfl,HBW.out.1⟩
  ·by_cases h3:st=true/\0<k - (be.length:Int)
   ·have hf:=HN.out (.inr (.inr (.inl h3)));obtain⟨rfl,h3⟩:=h3;go_wp2;go_ret
    first | exact⟨L.zaj hf.symm,HBW.out.1⟩ | exact⟨rfl,HBW.out.1⟩
   ·by_cases h4:fi=true/\0<(t.length:Int) - k - sou.length - af.length
    ·have hf:=HN.out (.inr (.inr (.inr h4)));obtain⟨rfl,h4⟩:=h4;cases st with
     | false =>
      go_wp2;go_ret
      first | exact⟨L.zaj hf.symm,HBW.out.1⟩ | exact⟨rfl,HBW.out.1⟩
     | true =>
      have h5:¬ 0<k - (be.length:Int):=fun h=>h3 ⟨rfl,h⟩
      go_wp2;go_ret
      first | exact⟨L.zaj hf.symm,HBW.out.1⟩ | exact⟨rfl,HBW.out.1⟩
    ·have hM:=HM.out h3 h4;have HM2:=qH hM;have h5:=fun h=>Int.not_lt.1 fun h'=>h3 ⟨h,h'⟩
     have h6:=fun h=>Int.not_lt.1 fun h'=>h4 ⟨h,h'⟩
     have HAl:=zj3 W (.slice xo t.length xc) (k - be.length);have hW1:=HBW.out.2.1
     have HC:Hid (∀X bv ba,Below w.heap.size w X->w.heap.size<=bv->w.heap.size<=ba->bv≠ba->K.MBs X bv ba (.slice xo t.length xc) (k - be.length)->Calls prog 204 (#[.slice bo be.length bc]++#[.pointer (some ⟨bv,0,none⟩),.pointer (some ⟨ba,0,none⟩)]) X fun e w'=>e= .returned (.bool (K.runAt t (k - be.length) be))/\(K.runAt t (k - be.length) be=true->K.MBs w' bv ba (.slice xo t.length xc) (k - be.length+be.length))/\Below w.heap.size w w'/\X.grownBy w' (some ba)) :=
      fun X bv ba q1 q2 q3 q4 q5=>zcu w X q1 bv ba q2 q3 q4 _ be HRs.out.1 HG.out.1 _ t HT.out ht (k - be.length) (by omega) (by omega) q5
     have HC2:Hid (∀X bv ba,Below w.heap.size w X->w.heap.size<=bv->w.heap.size<=ba->bv≠ba->K.MBs X bv ba (.slice xo t.length xc) k->Calls prog 204 (#[.slice so sou.length sc]++#[.pointer (some ⟨bv,0,none⟩),.pointer (some ⟨ba,0,none⟩)]) X fun e w'=>e= .returned (.bool (K.runAt t k sou))/\(K.runAt t k sou=true->K.MBs w' bv ba (.slice xo t.length xc) (k+sou.length))/\Below w.heap.size w w'/\X.grownBy w' (some ba)) :=
      fun X bv ba q1 q2 q3 q4 q5=>zcu w X q1 bv ba q2 q3 q4 _ sou HRs.out.2.1 HG.out.2.1 _ t HT.out ht k (by omega) (by omega) q5
     have HC3:Hid (∀X bv ba,Below w.heap.size w X->w.heap.size<=bv->w.heap.size<=ba->bv≠ba->K.MBs X bv ba (.slice xo t.length xc) (k+sou.length)->Calls prog 204 (#[.slice ao af.length ac]++#[.pointer (some ⟨bv,0,none⟩),.pointer (some ⟨ba,0,none⟩)]) X fun e w'=>e= .returned (.bool (K.runAt t (k+sou.length) af))/\(K.runAt t (k+sou.length) af=true->K.MBs w' bv ba (.slice xo t.length xc) (k+sou.length+af.length))/\Below w.heap.size w w'/\X.grownBy w' (some ba)) :=
      fun X bv ba q1 q2 q3 q4 q5=>zcu w X q1 bv ba q2 q3 q4 _ af HRs.out.2.2 HG.out.2.2 _ t HT.out ht (k+sou.length) (by omega) (by omega) q5
     generalize K.runAt t (k - be.length) be=m1 at *;generalize K.runAt t k sou=m2 at *;generalize K.runAt t (k+sou.length) af=m3 at *
     have HRB:Hid (∀X ba,W.heap.size<=ba->(W.grownBy X (some ba)->X.cell? ⟨w.heap.size,2,none⟩=some (.slice bo be.length bc)/\X.cell? ⟨w.heap.size,3,none⟩=some (.slice so sou.length sc)/\X.cell? ⟨w.heap.size,4,none⟩=some (.slice ao af.length ac))):=fun X ba hba hg=>by
      have hb:=hg.block w.heap.size (by omega) (by simp;omega);rw[HBW.out.2.2] at hb;exact⟨K.zad (i:=2) hb rfl,K.zad (i:=3) hb rfl,K.zad (i:=4) hb rfl⟩
     have HBw:=qH HBW.out.1;clear h3 h4 hM HM HN HG HRs HT hm HBW;have hnn:=h1;rcases Bool.eq_false_or_eq_true st with hst | hst <;> rcases Bool.eq_false_or_eq_true fi with hfi | hfi
     all_goals
      subst hst hfi;simp only[forall_const,Bool.false_eq_true,false_imp_iff] at h5 h6
      go_wp2_with fail
      refine HAl.mono ?_;rintro e w1 ⟨bv,ba,rfl,q1,q2,q3,q4,hb⟩;have HB1:=qH <| HBw.out.trans (hb.mono (by omega));have HG1:Hid (W.grownBy w1 (some ba)):=S.zae hb;obtain⟨f2,f3,f4⟩:=HRB.out w1 ba q2 HG1.out;have hC1:=HC.out w1 bv ba HB1.out (by omega) (by omega) q3 q4;clear HAl HC d0 d1 d2 d3 d4 hb q4
      go_wp2_with fail
      refine hC1.mono ?_;rintro e w2 ⟨rfl,hX2,hb2,hg2⟩;have HB2:=qH hb2;have HG2:=qH <| S.zaa HG1.out hg2;obtain⟨e2,e3,e4⟩:=HRB.out w2 ba q2 HG2.out;clear hC1 f2 f3 f4 hb2 hg2;cases m1 with
      | false =>
       go_wp2;go_ret
       exact⟨L.zaj (by rw[HM2.out];simp),HB2.out⟩
      | true =>
       have hX2':=hX2 rfl;rw[show k - (be.length:Int)+be.length=k by omega] at hX2';have hC2:=HC2.out w2 bv ba HB2.out (by omega) (by omega) q3 hX2';clear hX2 hX2' HC2
       go_wp2_with fail
       refine hC2.mono ?_;rintro e w3 ⟨rfl,hX3,hb3,hg3⟩;have HB3:=qH hb3;have HG3:=qH <| S.zaa HG2.out hg3;obtain⟨e2',e3',e4'⟩:=HRB.out w3 ba q2 HG3.out;clear hC2 e2 e3 e4 hb3 hg3;cases m2 with
       | false =>
        go_wp2;go_ret
        exact⟨L.zaj (by rw[HM2.out];simp),HB3.out⟩
       | true =>
        have hC3:=HC3.out w3 bv ba HB3.out (by omega) (by omega) q3 (hX3 rfl);clear hX3 HC3
        go_wp2_with fail
        refine hC3.mono ?_;rintro e w4 ⟨rfl,_,hb4,_⟩;have HB4:=qH hb4;clear hC3 hb4;go_wp2;go_ret;exact⟨L.zaj (by rw[HM2.out];simp),HB4.out⟩
end
section
open Go.RowKit Go.Shelf
theorem znd (w:World)(v:Value)(r:K.Rule)(R:K.RuIs w v r)(hE:K.ruleE r=0)(vt:Value)(t:List Int)(Rt:L.Rd w vt .i32 t)(ht:t.length<=4000)(k:Int)(hk0:0<=k)(hk1:k<=t.length)(bv ba:Nat)(c1:w.cell? ⟨bv,0,none⟩=some (.iface 163 vt))(c2:w.cell? ⟨ba,0,none⟩=some (.int .i64 k)) :
  Calls prog 141 (#[v]++#[.pointer (some ⟨bv,0,none⟩),.pointer (some ⟨ba,0,none⟩)]) w fun e w'=>e= .returned (.bool (K.matchB r t k))/\Below w.heap.size w w':=by
 have HA:=qH <| fun o=>(qR w).alloc qN o
 have HH:=qH <| fun o=>zmv _ v r (R.below (HA.out o)) hE vt t (Rt.below (HA.out o) qN) ht k hk0 hk1
 have d1:=fun o=>K.zai c1 o
 have d2:=fun o=>K.zai c2 o
 obtain⟨bo,bc,so,sc,ao,ac,tgo,tc,rfl,_⟩:=R;obtain⟨xo,xc,rfl,_⟩:=Rt;generalize K.matchB r t k=mb at *;clear hE hk0 hk1
 go_enter func141,ntmps141
 go_wp2_with fail
 refine(HH.out _).mono ?_;rintro e w1 ⟨rfl,b1⟩;have HB1:=qH <| (K.zay b1).2.1;clear b1 d1 d2 c1 c2;go_wp2;go_ret;exact⟨by simp,HB1.out⟩
theorem zmg (w:World)(v:Value)(l:List K.Rule)(R0:V.Rus w v l)(hl:l.length<=200)(hE:∀r∈l,K.ruleE r=0)(vt:Value)(t:List Int)(Rt:L.Rd w vt .i32 t)(ht:t.length<=4000)(k:Int)(hk0:0<=k)(hk1:k<=t.length)(bv ba:Nat)(c1:w.cell? ⟨bv,0,none⟩=some (.iface 163 vt))(c2:w.cell? ⟨ba,0,none⟩=some (.int .i64 k)) :
  Calls prog 75 #[v,.func (.func 141) #[] #[.pointer (some ⟨bv,0,none⟩),.pointer (some ⟨ba,0,none⟩)]] w fun e w'=>e= .returned (.int .i64 (K.which l t k))/\Below w.heap.size w w':=by
 have HR:=qH R0;have HT:=qH Rt;have HE0:=qH hE;have HC:Hid (w.cell? ⟨bv,0,none⟩=some (.iface 163 vt)/\w.cell? ⟨ba,0,none⟩=some (.int .i64 k)):=⟨c1,c2⟩;obtain⟨lao,lcap,rfl⟩:=R0.len;clear R0 Rt hE c1 c2;have eg:∀args w,(callFunc 141 args).run prog w= .ok (.enter 141 args) w:=enters_of func141 (by kernel_rfl) rfl;obtain⟨o,HO⟩:∃o,Hid (K.whichN t k 0 l=o):=⟨_,rfl⟩;unfold K.which;rw[HO.out]
 go_enter func75,ntmps75
 go_wp2
 go_loopw [8] (fun i wr=>∃j:Nat,j<=l.length/\i= .int .i64 j/\Hid (K.whichN t k j (l.drop j)=o)/\Hid (Below w.heap.size w wr)) (fun i _=>l.length - (intOf i).toNat)
 case atStart=>exact⟨0,Nat.zero_le _,rfl,HO,qR w⟩
 case round =>
  obtain⟨j,hj,rfl,HW,HB⟩:=hrel
  by_cases hlt:j<l.length
  ·obtain⟨p,hp⟩:∃x,l[j]?=some x:=⟨l[j],by simp[hlt]⟩;obtain⟨ao',cap',e',_,hcs⟩:=HR.out.below HB.out;cases e';obtain⟨b,off,rfl,hcell⟩:=hcs (by intro h;subst h;simp at hlt);obtain⟨bo,bc,so,sc,ao,ac,tgo,tc,a0,a1,a2,a3,a4,a5,a6,hP⟩:=hcell j p hp;have HE2:Hid (K.whichN t k j (l.drop j)=if K.matchB p t k=true then (j:Int) else K.whichN t k (j+1) (l.drop (j+1))):=K.zjg hp;have hsz:=HB.out.size;have g1:wr.cell? ⟨bv,0,none⟩=some (.iface 163 vt):=by rw[HB.out.cell (p:=⟨bv,0,none⟩) (L.block_lt HC.out.1)];exact HC.out.1
   have g2:wr.cell? ⟨ba,0,none⟩=some (.int .i64 k):=by rw[HB.out.cell (p:=⟨ba,0,none⟩) (L.block_lt HC.out.2)];exact HC.out.2
   have HW2:=qH <| znd _ _ p hP (HE0.out p (List.mem_of_getElem? hp)) vt t (HT.out.below HB.out qN) ht k hk0 hk1 bv ba g1 g2;obtain⟨z,HZ⟩:∃z,Hid (K.matchB p t k=z):=⟨_,rfl⟩;rw[HZ.out] at HW2 HE2;clear hp hcell hcs hP g1 g2;obtain⟨st,fi,be,sou,af,ta,cu⟩:=p;simp only at a0 a1 a2 a3 a4 a5 a6 HW2
   go_wp2_with fail
   refine HW2.out.mono ?_;rintro e w1 ⟨rfl,B1⟩;have HB1:=qH <| HB.out.trans (B1.mono hsz);clear B1;cases z with
   | false =>
    go_wp2
    go_roundw
    case rel=>exact⟨j+1,by omega,by go_num,by show _=_;rw[<- HW.out,HE2.out];simp,HB1⟩
    case measure=>simp[intOf];omega
   | true =>
    go_wp2;go_ret
    have h:=HE2.out;rw[HW.out,if_pos trivial] at h;exact⟨by rw[h];rfl,HB1.out⟩
  ·have h:=HW.out;rw[List.drop_eq_nil_of_le (by omega)] at h;go_wp2;go_ret;exact⟨by rw[<- h];rfl,HB.out⟩
theorem zee (w:World)(v:Value)(l:List K.Rule)(R0:V.Rus w v l)(hl:l.length<=200)(hE:∀r∈l,K.ruleE r=0)(vt:Value)(t:List Int)(Rt:L.Rd w vt .i32 t)(ht:t.length<=4000)(k:Int)(hk0:0<=k)(hk1:k<=t.length) :
  Calls prog 89 #[v,.iface 163 vt,.int .i64 k] w fun e w'=>e= .returned (.int .i64 (K.which l t k))/\Below w.heap.size w w':=by
 have HA:=qH <| fun o1 o2=>((qR w).alloc qN o1).alloc (by simp) o2
 have h2:=K.zax (w:=w) (qR ((w.alloc (.cells #[.iface 163 vt] 223)).alloc (.cells #[.int .i64 k] 3)))
 have HI:Hid (Calls prog 75 #[v,.func (.func 141) #[] #[.pointer (some ⟨w.heap.size,0,none⟩),.pointer (some ⟨w.heap.size+1,0,none⟩)]] ((w.alloc (.cells #[.iface 163 vt] 223)).alloc (.cells #[.int .i64 k] 3)) fun e w'=>e= .returned (.int .i64 (K.which l t k))/\Below ((w.alloc (.cells #[.iface 163 vt] 223)).alloc (.cells #[.int .i64 k] 3)).heap.size ((w.alloc (.cells #[.iface 163 vt] 223)).alloc (.cells #[.int .i64 k] 3)) w') :=
  zmg _ v l (R0.below (HA.out _ _)) hl hE vt t (Rt.below (HA.out _ _) qN) ht k hk0 hk1 _ _ (K.zad (i:=0) h2.1 rfl) (K.zad (i:=0) h2.2.1 rfl)
 have hmf:∀(fn:Fn) (first cap:Array Value) (w:World),(Instr.makeFunc fn first cap).run prog w= .ok (.func fn first cap) w:=fun _ _ _ _=>rfl
 obtain⟨lao,lcap,rfl⟩:=R0.len;generalize K.which l t k=o at *;clear h2 hE hk0 hk1 R0 Rt
 go_enter func89,ntmps89
 go_wp2_with fail
 refine HI.out.mono ?_;rintro e w1 ⟨rfl,b1⟩;have HB1:=qH <| (HA.out _ _).trans (b1.mono (HA.out _ _).size);clear b1;go_wp2;go_ret;exact⟨by simp,HB1.out⟩
end
section
open Go.RowKit Go.Lib
namespace K
theorem OwnT.rd {w:World}{g cap:Nat}{T:List Int}(h:OwnT w g cap T):L.Rd w (.slice (some ⟨g,0,none⟩) T.length cap) .i32 T:=by
 obtain⟨cur,row,hl,hf,_,hc⟩:=h;refine⟨_,cap,rfl,fun e=>(by cases e),fun _=>⟨g,0,rfl,fun j z hj=> ?_⟩⟩;have hlt:=(qL.1 hj).1;have e:cur[j]?=(cur.take T.length)[j]?:=by rw[List.getElem?_take,if_pos hlt]
 rw[Nat.zero_add,row.cell,e,hc];unfold ints;rw[List.getElem?_map,hj];rfl
theorem OwnT.below {w w':World}{g cap:Nat}{T:List Int}(h:OwnT w g cap T)(hb:Below w.heap.size w w'):OwnT w' g cap T:=by
 obtain⟨cur,row,h⟩:=h;exact⟨cur,row.block (hb.block g row.lt),h⟩
theorem St.below {B bs g cap:Nat}{w w':World}{T:List Int}{k:Int}(h:St B bs w g cap T k)(hb:Below w.heap.size w w'):St B bs w' g cap T k :=
 ⟨h.1,zaf h.2.1 hb,h.2.2.1,h.2.2.2.below hb⟩
theorem zin {w w':World}(h:∀b,b<w.heap.size->w'.heap[b]?=w.heap[b]?):R.Keeps w w':=fun b o v hv=>by
 have e:=h b (L.block_lt hv);rw[World.cell?_of_block (a:=⟨b,o,none⟩) e];exact hv
end K
theorem zon (w0:World)(vl:Value)(l:List K.Rule)(R0:V.Rus w0 vl l)(hl:l.length<=200)(hE:∀r∈l,K.ruleE r=0)(w:World)(hX:Below w0.heap.size w0 w)(bs g cap:Nat)(T:List Int)(k:Nat)(hS:K.St w0.heap.size bs w g cap T k)(h4:T.length<=4000)(hk:k<T.length)(hw:K.which l T k= -1) :
  Calls prog 45 #[.pointer (some ⟨bs,0,none⟩),vl] w fun e w'=>e= .returned (.tuple #[.int .i64 (-1),.int .i64 0])/\K.St w0.heap.size bs w' g cap T (k+1)/\Below w0.heap.size w w':=by
 have HS:=qH hS;have HX:=qH hX;have HF:=qH <| zee w.drew vl l (R0.below hX.drew) hl hE _ T hS.2.2.2.rd h4 k (by omega) (by omega)
 have HK:Hid (∀w1,Below w.drew.heap.size w.drew w1->w1.cell? ⟨bs,0,none⟩=some (.slice (some ⟨g,0,none⟩) T.length cap)/\w1.cell? ⟨bs,1,none⟩=some (.int .i64 k)):=fun w1 hb=>by
  have h:=K.zaf (w:=w.drew) hS.2.1 hb;exact⟨K.zad h rfl,K.zad h rfl⟩
 have x0:=K.zad (i:=0) hS.2.1 rfl;have x1:=K.zad (i:=1) hS.2.1 rfl;have HR0:=qH R0;have HE:=qH hE;obtain⟨lao,lcap,rfl⟩:=R0.len;rw[hw] at HF;clear R0 hE hX hS
 go_enter func45,ntmps45
 go_wp2
 go_region_held3 (fun w'=>w'.cell? ⟨bs,0,none⟩=some (.slice (some ⟨g,0,none⟩) T.length cap)/\w'.cell? ⟨bs,1,none⟩=some (.int .i64 k)) (first | exact HK.out _ b1 | go_keep) (first | (go_at_call 89;refine HF.out.mono ?_;rintro e w1 ⟨rfl,b1⟩) | fail)
 have HB1:=qH <| (HX.out.drew).trans (b1.mono (by show w0.heap.size<=w.heap.size;exact HX.out.size));have HW1:=qH <| ((qR w).drew).trans (b1.mono (by show w0.heap.size<=w.heap.size;exact HX.out.size));have HS1:=qH <| K.St.below (w:=w.drew) HS.out b1;have HWW:Hid (Below w.heap.size w w1):=((qR w).drew).trans b1;clear b1 HK HF x0 x1;have x1:=K.zad (i:=1) HS1.out.2.1 rfl;have f1:=frozen_of_row w1 bs 1 _ _ HS1.out.2.1;go_wp2
 go_ret2
 obtain⟨cur,row,hcu⟩:=HS1.out.2.2.2
 have hgs:g≠bs:=fun e=>by
  have h1:=row;rw[e] at h1;have:=h1.symm.trans HS1.out.2.1;simp at this
 have hwr:IntKind.i64.wrap ((k:Int)+1)=(k:Int)+1:=by rw[IntKind.wrap_i64];omega
 refine⟨by simp,⟨HS1.out.1,?_,HS1.out.2.2.1,cur,row.block (heap_setCell_other w1 ⟨bs,1,none⟩ g _ (by simpa using hgs)),hcu⟩,HW1.out.setCell (p:=⟨bs,1,none⟩) HS1.out.1 _⟩;exact heap_setCell_same w1 bs 1 _ _ _ HS1.out.2.1
theorem zoo (w0:World)(vl:Value)(l:List K.Rule)(R0:V.Rus w0 vl l)(hl:l.length<=200)(hE:∀r∈l,K.ruleE r=0)(w:World)(hX:Below w0.heap.size w0 w)(bs g cap:Nat)(T:List Int)(k:Nat)(hS:K.St w0.heap.size bs w g cap T k)(h4:T.length<=4000)(hk:k<T.length)(j:Nat)(r:K.Rule)(hw:K.which l T k=(j:Int))(hr:l[j]?=some r)(hm:K.matchB r T k=true)(hlen:4000<T.length - r.source.length+r.target.length) :
  Calls prog 45 #[.pointer (some ⟨bs,0,none⟩),vl] w fun e w'=>e= .returned (.tuple #[.int .i64 0,.int .i64 4])/\Below w.heap.size w w':=by
 have HS:=qH hS;have HX:=qH hX;have HF:=qH <| zee w.drew vl l (R0.below hX.drew) hl hE _ T hS.2.2.2.rd h4 k (by omega) (by omega)
 have HK:Hid (∀w1,Below w.drew.heap.size w.drew w1->w1.cell? ⟨bs,0,none⟩=some (.slice (some ⟨g,0,none⟩) T.length cap)/\w1.cell? ⟨bs,1,none⟩=some (.int .i64 k)):=fun w1 hb=>by
  have h:=K.zaf (w:=w.drew) hS.2.1 hb;exact⟨K.zad h rfl,K.zad h rfl⟩
 have x0:=K.zad (i:=0) hS.2.1 rfl;have x1:=K.zad (i:=1) hS.2.1 rfl;have HR0:=qH R0;have HE:=qH hE;obtain⟨lao,lcap,rfl⟩:=R0.len;rw[hw] at HF;clear R0 hE hX hS
 go_enter func45,ntmps45
 go_wp2
 go_region_held3 (fun w'=>w'.cell? ⟨bs,0,none⟩=some (.slice (some ⟨g,0,none⟩) T.length cap)/\w'.cell? ⟨bs,1,none⟩=some (.int .i64 k)) (first | exact HK.out _ b1 | go_keep) (first | (go_at_call 89;refine HF.out.mono ?_;rintro e w1 ⟨rfl,b1⟩) | fail)
 have HB1:=qH <| (HX.out.drew).trans (b1.mono (by show w0.heap.size<=w.heap.size;exact HX.out.size));have HW1:=qH <| ((qR w).drew).trans (b1.mono (by show w0.heap.size<=w.heap.size;exact HX.out.size));have HS1:=qH <| K.St.below (w:=w.drew) HS.out b1;have HWW:Hid (Below w.heap.size w w1):=((qR w).drew).trans b1;clear b1 HK HF x0 x1;obtain⟨ao',cap',e',_,hcs⟩:=HR0.out;cases e';obtain⟨b,off,rfl,hcell⟩:=hcs (by intro h;subst h;simp at hr);obtain⟨bo,bc,so,sc,ao,ac,tgo,tc,c0,c1,c2,c3,c4,c5,c6,hP⟩:=hcell j r hr;have HP:=qH hP;have lb:=L.block_lt c0;rw[<- HB1.out.cell (p:=⟨b,off+j*7,none⟩) lb] at c0;rw[<- HB1.out.cell (p:=⟨b,off+j*7+1,none⟩) lb] at c1;rw[<- HB1.out.cell (p:=⟨b,off+j*7+2,none⟩) lb] at c2;rw[<- HB1.out.cell (p:=⟨b,off+j*7+3,none⟩) lb] at c3;rw[<- HB1.out.cell (p:=⟨b,off+j*7+4,none⟩) lb] at c4;rw[<- HB1.out.cell (p:=⟨b,off+j*7+5,none⟩) lb] at c5;rw[<- HB1.out.cell (p:=⟨b,off+j*7+6,none⟩) lb] at c6;have hjl:=(qL.1 hr).1;have hr0:=HE.out r (List.mem_of_getElem? hr);have hin:=K.zhj (K.zao hr0).2.2.2.1 hm;have HP2:=qH <| zrz w1 w0.heap.size bs g cap T k HS1.out h4 _ r (HP.out.below HB1.out) hr0 (by omega) hlen;have hj0:(0:Int)<=j:=by omega
 clear hcs hcell hP HP hr hm hin hr0;obtain⟨st,fi,be,sou,af,ta,cu⟩:=r;simp only at c0 c1 c2 c3 c4 c5 c6 HP2
 go_wp2_with fail
 refine HP2.out.mono ?_;rintro e w2 ⟨rfl,b2⟩;have HB2:=qH <| HWW.out.trans (b2.mono HWW.out.size);clear b2 HP2;go_wp2
 go_ret2
 exact⟨by simp,HB2.out⟩
theorem zrf (w0:World)(vl:Value)(l:List K.Rule)(R0:V.Rus w0 vl l)(hl:l.length<=200)(hE:∀r∈l,K.ruleE r=0)(w:World)(hX:Below w0.heap.size w0 w)(bs g cap:Nat)(T:List Int)(k:Nat)(hS:K.St w0.heap.size bs w g cap T k)(h4:T.length<=4000)(hk:k<T.length)(j:Nat)(r:K.Rule)(hw:K.which l T k=(j:Int))(hr:l[j]?=some r)(hm:K.matchB r T k=true)(hlen:T.length - r.source.length+r.target.length<=4000)(T2:List Int)(hT2:T2=T.take k++r.target++T.drop (k+r.source.length)) :
  Calls prog 45 #[.pointer (some ⟨bs,0,none⟩),vl] w fun e w'=>e= .returned (.tuple #[.int .i64 (j:Int),.int .i64 0])/\∃g' cap',K.St w0.heap.size bs w' g' cap' T2 (k+r.cursor)/\Below w0.heap.size w w':=by
 have HS:=qH hS;have HX:=qH hX;have HF:=qH <| zee w.drew vl l (R0.below hX.drew) hl hE _ T hS.2.2.2.rd h4 k (by omega) (by omega)
 have HK:Hid (∀w1,Below w.drew.heap.size w.drew w1->w1.cell? ⟨bs,0,none⟩=some (.slice (some ⟨g,0,none⟩) T.length cap)/\w1.cell? ⟨bs,1,none⟩=some (.int .i64 k)):=fun w1 hb=>by
  have h:=K.zaf (w:=w.drew) hS.2.1 hb;exact⟨K.zad h rfl,K.zad h rfl⟩
 have x0:=K.zad (i:=0) hS.2.1 rfl;have x1:=K.zad (i:=1) hS.2.1 rfl;have HR0:=qH R0;have HE:=qH hE;obtain⟨lao,lcap,rfl⟩:=R0.len;rw[hw] at HF;clear R0 hE hX hS
 go_enter func45,ntmps45
 go_wp2
 go_region_held3 (fun w'=>w'.cell? ⟨bs,0,none⟩=some (.slice (some ⟨g,0,none⟩) T.length cap)/\w'.cell? ⟨bs,1,none⟩=some (.int .i64 k)) (first | exact HK.out _ b1 | go_keep) (first | (go_at_call 89;refine HF.out.mono ?_;rintro e w1 ⟨rfl,b1⟩) | fail)
 have HB1:=qH <| (HX.out.drew).trans (b1.mono (by show w0.heap.size<=w.heap.size;exact HX.out.size));have HW1:=qH <| ((qR w).drew).trans (b1.mono (by show w0.heap.size<=w.heap.size;exact HX.out.size));have HS1:=qH <| K.St.below (w:=w.drew) HS.out b1;have HWW:Hid (Below w.heap.size w w1):=((qR w).drew).trans b1;clear b1 HK HF x0 x1;obtain⟨ao',cap',e',_,hcs⟩:=HR0.out;cases e';obtain⟨b,off,rfl,hcell⟩:=hcs (by intro h;subst h;simp at hr);obtain⟨bo,bc,so,sc,ao,ac,tgo,tc,c0,c1,c2,c3,c4,c5,c6,hP⟩:=hcell j r hr;have HP:=qH hP;have lb:=L.block_lt c0;rw[<- HB1.out.cell (p:=⟨b,off+j*7,none⟩) lb] at c0;rw[<- HB1.out.cell (p:=⟨b,off+j*7+1,none⟩) lb] at c1;rw[<- HB1.out.cell (p:=⟨b,off+j*7+2,none⟩) lb] at c2;rw[<- HB1.out.cell (p:=⟨b,off+j*7+3,none⟩) lb] at c3;rw[<- HB1.out.cell (p:=⟨b,off+j*7+4,none⟩) lb] at c4;rw[<- HB1.out.cell (p:=⟨b,off+j*7+5,none⟩) lb] at c5;rw[<- HB1.out.cell (p:=⟨b,off+j*7+6,none⟩) lb] at c6;have hjl:=(qL.1 hr).1;have hr0:=HE.out r (List.mem_of_getElem? hr);have hin:=K.zhj (K.zao hr0).2.2.2.1 hm
 have HP2:Hid (Calls prog 90 #[.pointer (some ⟨bs,0,none⟩),.agg #[.bool r.start,.bool r.fin,.slice bo r.before.length bc,.slice so r.source.length sc,.slice ao r.after.length ac,.slice tgo r.target.length tc,.int .i64 r.cursor]] w1 fun e w'=>e= .returned (.int .i64 0)/\∃g' cap',K.St w0.heap.size bs w' g' cap' (T.take k++r.target++T.drop (k+r.source.length)) (k+r.cursor)/\Below w0.heap.size w1 w'):=by
  refine zrx w1 w0.heap.size bs g cap T k HS1.out h4 _ r (fun w' hw'=>V.zed HP.out (K.zin fun b hb=>(hw' b hb).trans (HB1.out.block b hb))) hr0 (fun g' hg' bo' bc' so' sc' ao' ac' tgo' tc' he hne=> ?_) (by omega) hlen;obtain⟨_,_,_,_,_,_,_,_,he2,_,_,_,h5,_⟩:=HP.out;rw[he2] at he;simp at he;obtain⟨_,_,_,⟨e1,e2⟩⟩:=he;subst e1 e2;obtain⟨_,_,e3,_,hc5⟩:=h5;cases e3;obtain⟨b5,off5,e4,hcell5⟩:=hc5 hne;obtain⟨z,hz⟩:∃z,r.target[0]?=some z:=⟨r.target[0]'(List.length_pos_iff.2 hne),by simp⟩;have:=L.block_lt (hcell5 0 z hz);rw[e4];intro h6;have h7:b5=g':=by simpa [Value.ownBlock] using h6
  omega
 rw[<- hT2] at HP2;have hj0:(0:Int)<=j:=by omega
 clear hT2 hcs hcell hP HP hr hm hin hr0 hlen;obtain⟨st,fi,be,sou,af,ta,cu⟩:=r;simp only at c0 c1 c2 c3 c4 c5 c6 HP2
 go_wp2_with fail
 refine HP2.out.mono ?_;rintro e w2 ⟨rfl,g',cap',s2,b2⟩;have HB2:Hid (K.St w0.heap.size bs w2 g' cap' T2 (k+cu)/\Below w0.heap.size w w2):=⟨s2,HW1.out.trans b2⟩;clear b2 s2 HP2;go_wp2
 go_ret2
 exact⟨by simp,⟨g',cap',HB2.out.1⟩,HB2.out.2⟩
end
section
open Go.RowKit
theorem zef (w:World)(v:Value)(l:List K.Rule)(R0:V.Rus w v l)(vt:Value)(t:List Int)(Rt:L.Rd w vt .i32 t)(ht:t.length<=140737488355328) :
  Calls prog 42 #[v,vt] w fun e w'=>e= .returned (.agg #[.int .i64 (K.checkF l t).1,.int .i64 (K.checkF l t).2])/\Below w.heap.size w w':=by
 have HA:=qH <| fun o=>(qR w).alloc qN o
 have HW:=qH <| fun o=>zcy _ _ l (R0.below (HA.out o))
 have HT:=qH <| fun X hX=>zd0 X vt t (Rt.below hX qN) ht
 obtain⟨ao,cap,rfl⟩:=R0.len;obtain⟨xo,xc,rfl,_⟩:=Rt;unfold K.checkF;obtain⟨⟨e1,e2⟩,he⟩:∃o,K.rulesF l=o:=⟨_,rfl⟩;rw[he] at HW ⊢;generalize K.textE t=e3 at *;simp only at HW ⊢;obtain⟨⟨o1,o2⟩,HO⟩:∃o:Int×Int,Hid ((if e1=0 then (e3,0) else (e1,e2))=o):=⟨_,rfl⟩;rw[HO.out];clear he R0
 go_enter func42,ntmps42
 go_wp2_with fail
 refine(HW.out _).mono ?_;rintro e w1 ⟨rfl,b1⟩;obtain⟨h1,B1,s1⟩:=K.zay b1;have HB1:=qH B1;have HX1:Hid (w1.heap[w.heap.size]?=some (.cells #[.int .i64 0,.int .i64 0] 38)):=h1;clear b1 B1 HW
 by_cases q:e1=0
 ·subst q;have ho:=HO.out;rw[if_pos rfl] at ho;cases ho;clear h1;have HB2:=qH <| fun o=>HB1.out.alloc (by omega) o
  go_wp2_with fail
  refine(HT.out _ (HB2.out _)).mono ?_;rintro e w2 ⟨rfl,b2⟩;have HB3:=qH <| (HB2.out _).trans (b2.mono (HB2.out _).size)
  have h2:w2.heap[w.heap.size]?=some (.cells #[.int .i64 0,.int .i64 0] 38):=by
   rw[(K.zay b2).2.1.block _ (by omega)];exact HX1.out
  obtain⟨x0,x1,f0,f1⟩:=K.box2 h2;clear b2 h2;go_wp2;refine bodyPost_ret (v:= .agg #[.int .i64 e3,.int .i64 0]) (by simp[results,results42,go_sem, *]) rfl ?_;exact⟨rfl,(HB3.out.setCell (p:=⟨w.heap.size,0,none⟩) qN _).setCell (p:=⟨w.heap.size,1,none⟩) qN _⟩
 ·have ho:=HO.out;rw[if_neg q] at ho;cases ho;obtain⟨x0,x1,f0,f1⟩:=K.box2 h1;have k0:=fun o=>K.zai x0 o
  have k1:=fun o=>K.zai x1 o
  have g0:=fun o=>K.zal h1 o 0
  have g1:=fun o=>K.zal h1 o 1
  clear h1;go_wp2;refine bodyPost_ret (v:= .agg #[.int .i64 e1,.int .i64 e2]) (by simp[results,results42,go_sem, *]) rfl ?_;exact⟨rfl,((HB1.out.alloc (by omega) _).setCell (p:=⟨w.heap.size,0,none⟩) qN _).setCell (p:=⟨w.heap.size,1,none⟩) qN _⟩
