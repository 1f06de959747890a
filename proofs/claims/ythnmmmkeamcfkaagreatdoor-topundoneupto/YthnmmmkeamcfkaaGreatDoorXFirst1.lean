import Derived.Test.YthnmmmkeamcfkaaGreatDoorXPut
set_option maxHeartbeats 0
set_option maxRecDepth 20000
set_option linter.unusedSimpArgs false
set_option linter.unusedVariables false
namespace Go.Proofs.YthnmmmkeamcfkaaGreatDoor
open Go.Proofs.Tryz
section
open Go.RowKit
theorem zo7 (w:World)(B:Gm.Bs)(g:Nat)(ao:Option Addr)(cur A Z:List Int)(h:Gm.Tx B g ao cur A Z w)(k:Nat)(hk:k<A.length+Z.length) :
  Calls prog 234 #[.pointer (some ⟨g,0,none⟩),.int .i64 k] w fun e w'=>e= .returned (.int .i32 ((A++Z).getD k 0))/\∃q,w'=w.drewN q:=by
 have hf:=h.fit;have hm:=h.most;have hw:=h.few;obtain⟨r,rfl⟩:=h.room.some (by omega);obtain⟨T,hT⟩:∃T:Nat,T=cur.length - Z.length:=⟨_,rfl⟩;have HT:=qH hT;have hTc:T+Z.length=cur.length:=by omega
 obtain⟨x,hx⟩:∃x,x=(A++Z).getD k 0:=⟨_,rfl⟩;rw[<- hx];have H:=qH h
 have HLn:=qH <| fun q=>by
  have h2:=zcm (w.drewN q) g (some ⟨r,0,none⟩) _ _ _ (h.drew q).box hm (by omega) (by omega);rw[show A.length+(cur.length - (cur.length - Z.length))=A.length+Z.length by omega] at h2;exact h2
 have HA:Hid (k<A.length->∀q,(w.drewN q).cell? ⟨r,k,none⟩=some (.int .i32 x)):=fun hka q=>by
  refine(h.drew q).room.cell rfl ?_;have h1:A[k]?=some x:=by rw[hx];simp[List.getD,List.getElem?_append,hka]
  have h2:=congrArg (fun z:List Int=>z[k]?) h.ahead;simp only[List.getElem?_take_of_lt hka] at h2;rw[<- h2];exact h1
 have HZ:Hid (¬k<A.length->∀q,(w.drewN q).cell? ⟨r,T+k - A.length,none⟩=some (.int .i32 x)):=fun hka q=>by
  refine(h.drew q).room.cell rfl ?_;have h1:Z[k - A.length]?=some x:=by rw[hx];simp[List.getD,List.getElem?_append,hka,show k - A.length<Z.length by omega]
  have h2:=congrArg (fun z:List Int=>z[k - A.length]?) h.behind;simp only[List.getElem?_drop,<- hT] at h2;rw[h2,show T+(k - A.length)=T+k - A.length by omega] at h1;exact h1
 have HC:Hid (∀q,(w.drewN q).cell? ⟨g,0,none⟩=some (.slice (some ⟨r,0,none⟩) cur.length cur.length)/\(w.drewN q).cell? ⟨g,1,none⟩=some (.int .i64 A.length)/\(w.drewN q).cell? ⟨g,2,none⟩=some (.int .i64 T)):=fun q=>by
  have hb:=(h.drew q).box;rw[<- hT] at hb;exact⟨hb.c0,hb.c1,hb.c2⟩
 clear h hx hT
 go_enter func234,ntmps234
 go_wp2_with fail
 go_at_call 211
 refine(HLn.out 0).mono ?_;rintro e w1 ⟨rfl,m,hw1⟩;have HW1:Hid (w1=w.drewN m):=by show _=_;rw[hw1,World.drewN_drewN,Nat.zero_add]
 clear hw1 HLn;obtain⟨c0,c1,c2⟩:=HC.out m;rw[<- HW1.out] at c0 c1 c2
 by_cases hka:k<A.length
 ·have cx:=HA.out hka m;rw[<- HW1.out] at cx;go_wp2;go_ret;exact⟨rfl,m,HW1.out⟩
 ·have cx:=HZ.out hka m;rw[<- HW1.out] at cx;go_wp2
  go_quiet (fail)
  go_wp2;go_ret
  exact⟨rfl,_,by rw[HW1.out,World.drewN_drewN]⟩
theorem zo5 (w:World)(mb:Nat):(method 496 235 (.pointer (some ⟨mb,0,none⟩)) "At").run prog w=((loadVar 269 ⟨mb,0,none⟩) >>= fun p=>pure (234,p)).run prog w:=by
 kernel_rfl
theorem zms (w:World)(mb:Nat):(method 496 235 (.pointer (some ⟨mb,0,none⟩)) "Len").run prog w=((loadVar 269 ⟨mb,0,none⟩) >>= fun p=>pure (211,p)).run prog w:=by
 kernel_rfl
theorem xload (w:World)(mb g:Nat)(h:w.cell? ⟨mb,0,none⟩=some (.pointer (some ⟨g,0,none⟩))):(loadVar 269 ⟨mb,0,none⟩).run prog w= .ok (.pointer (some ⟨g,0,none⟩)) w:=by
 have hs:∀w:World,(Go.sizeOf 269).run prog w= .ok 1 w:=fun w=>by kernel_rfl
 have hu:∀w:World,(underlying 269).run prog w= .ok (.pointer 288) w:=fun w=>by kernel_rfl
 unfold loadVar;simp[go_sem,hs,hu,h,Result.andThen]
theorem zsi (w:World)(mb g:Nat)(h:w.cell? ⟨mb,0,none⟩=some (.pointer (some ⟨g,0,none⟩))):(method 496 235 (.pointer (some ⟨mb,0,none⟩)) "At").run prog w= .ok (234,.pointer (some ⟨g,0,none⟩)) w:=by
 rw[zo5,Sem.run_bind,xload w mb g h];rfl
theorem zo4 (w:World)(mb g:Nat)(h:w.cell? ⟨mb,0,none⟩=some (.pointer (some ⟨g,0,none⟩))):(method 496 235 (.pointer (some ⟨mb,0,none⟩)) "Len").run prog w= .ok (211,.pointer (some ⟨g,0,none⟩)) w:=by
 rw[zms,Sem.run_bind,xload w mb g h];rfl
end
section
open Go.RowKit Go.Shelf
structure Gm.Vw (w0:World) (mb g:Nat) (t:List Int):Prop where
 cell:∀W,Below w0.heap.size w0 W->W.cell? ⟨mb,0,none⟩=some (.pointer (some ⟨g,0,none⟩))
 len:∀W,Below w0.heap.size w0 W->Calls prog 211 #[.pointer (some ⟨g,0,none⟩)] W fun e w'=>e= .returned (.int .i64 t.length)/\∃q,w'=W.drewN q
 at':∀W (k:Int),Below w0.heap.size w0 W->0<=k->k<t.length->Calls prog 234 #[.pointer (some ⟨g,0,none⟩),.int .i64 k] W fun e w'=>e= .returned (.int .i32 (t.getD k.toNat 0))/\∃q,w'=W.drewN q
theorem Gm.Vw.of {w0:World}{mb g:Nat}{B:Gm.Bs}{ao:Option Addr}{cur A Z:List Int}(hc:w0.cell? ⟨mb,0,none⟩=some (.pointer (some ⟨g,0,none⟩)))(h:Gm.Tx B g ao cur A Z w0):Gm.Vw w0 mb g (A++Z) where
 cell W hW:=by rw[(L.bcell hW).1 mb 0 (L.block_lt hc)];exact hc
 len W hW:=by
  have h':=h.kept fun k hk=>hW.block k hk
  have h2:=zcm W g ao _ _ _ h'.box h.most (by omega) (by have:=h.fit;omega);rw[show A.length+(cur.length - (cur.length - Z.length))=(A++Z).length by rw[List.length_append];have:=h.fit;omega] at h2;exact h2
 at' W k hW h0 hk:=by
  have h':=h.kept fun k hk=>hW.block k hk
  obtain⟨n,rfl⟩:∃n:Nat,k=n:=⟨k.toNat,by omega⟩;rw[List.length_append] at hk;exact zo7 W B g ao cur A Z h' n (by omega)
def K.Bs (w:World) (bv ba mb:Nat) (k:Int):Prop:=w.heap[bv]?=some (.cells #[.iface 235 (.pointer (some ⟨mb,0,none⟩))] 223)/\w.heap[ba]?=some (.cells #[.int .i64 k] 3)
theorem zdc (w0 w:World)(hB:Below w0.heap.size w0 w)(bv ba:Nat)(hbv:w0.heap.size<=bv)(hba:w0.heap.size<=ba)(hne:bv≠ba)(vl:Value)(l:List (List S.Sp))(R:K.Ss w0 vl l)(hG:K.Good l)
  (mb g:Nat) (t:List Int) (Rt:Gm.Vw w0 mb g t) (ht:t.length<=4000) (k:Int) (h0:0<=k) (hk:k+l.length<=t.length) (hX:K.Bs w bv ba mb k) :
  Calls prog 204 (#[vl]++#[.pointer (some ⟨bv,0,none⟩),.pointer (some ⟨ba,0,none⟩)]) w fun e w'=>e= .returned (.bool (K.runAt t k l))/\(K.runAt t k l=true->K.Bs w' bv ba mb (k+l.length))/\Below w0.heap.size w0 w'/\w.grownBy w' (some ba):=by
 have HR:=qH R;have HG:=qH hG;have HT:=qH Rt;have HX0:=qH hX;obtain⟨ao,cap,rfl⟩:=R.len;have hsb:=hB.size;have hl20:=hG.1;clear R hX hG Rt
 go_enter func204,ntmps204
 go_wp2
 go_loopw [9] (fun i wr=>∃j:Nat,j<=l.length/\i= .int .i64 j/\Hid (K.runAt t k l=K.runAt t (k+j) (l.drop j))/\Hid (Below w0.heap.size w0 wr/\w.grownBy wr (some ba)/\K.Bs wr bv ba mb (k+j))) (fun i _=>l.length - (intOf i).toNat)
 case atStart=>exact⟨0,Nat.zero_le _,rfl,by show _=_;simp,hB,S.zay _ _,by simpa using HX0.out⟩
 case round =>
  obtain⟨j,hj,rfl,HW,HB⟩:=hrel;have hs:=HB.out.1.size
  by_cases hlt:j<l.length
  ·obtain⟨s,hsj⟩:∃s,l[j]?=some s:=⟨l[j],by simp[hlt]⟩;obtain⟨b,off,so,sc,rfl,c1,R1,F1⟩:=(HR.out.below HB.out.1).at hsj;obtain⟨hN,hlen⟩:=HG.out.2 s (List.mem_of_getElem? hsj);have HD:=K.zgq (t:=t) (k:=k) hsj;rw[<- HW.out] at HD;have d1:=K.zad (i:=0) HB.out.2.2.1 rfl;have d2:=K.zad (i:=0) HB.out.2.2.2 rfl;have hlta:=(qA.1 HB.out.2.2.2).1;have hat:=HT.out.at' wr (k+j) HB.out.1 (by omega) (by omega);have hm:=zsi wr mb g (HT.out.cell wr HB.out.1);rw[decide_eq_true (show 0<=k+(j:Int) by omega),decide_eq_true (show k+(j:Int)<t.length by omega),Bool.true_and,Bool.true_and] at HD;obtain⟨x,hx⟩:∃x,x=t.getD (k+(j:Int)).toNat 0:=⟨_,rfl⟩;rw[<- hx] at HD hat
   have hhas:∀q,Calls prog 17 #[.slice so s.length sc,.int .i32 x] (wr.drewN q) fun e w'=>e= .returned (.bool (S.memb s x))/\Below wr.heap.size wr w':=fun q=>by
    have hd:Below wr.heap.size wr (wr.drewN q):=below_drewN (qR _) _;exact(zde (wr.drewN q) _ s x (R1.below hd qN) hN hlen).mono fun e w' ⟨h1,h2⟩=>⟨h1,hd.trans h2⟩
   have HHas:=qH hhas;clear hhas;generalize S.memb s x=mm at HD HHas;have HD2:=qH HD;clear HD R1 F1 hN hsj hx;have HBa:Hid (Below w0.heap.size w0 wr/\w.grownBy wr (some ba)):=⟨HB.out.1,HB.out.2.1⟩
   go_wp2_with fail
   refine hat.mono ?_;rintro e w1 ⟨rfl,q1,rfl⟩;clear hat hm
   go_wp2_with fail
   refine(HHas.out _).mono ?_;rintro e w1 ⟨rfl,hb⟩;have HB1:=qH <| HBa.out.1.trans (hb.mono hs);have HG1:=qH <| S.zaa HBa.out.2 (S.zaf hb);have HX1:Hid (K.Bs w1 bv ba mb (k+j)):=⟨K.zae HB.out.2.2.1 hb,K.zae HB.out.2.2.2 hb⟩;clear d1 d2;cases mm with
   | false =>
    have hf:K.runAt t k l=false:=by rw[HD2.out];rfl
    go_wp2;go_ret
    exact⟨L.zaj hf.symm,fun h=>(by rw[hf] at h;cases h),HB1.out,HG1.out⟩
   | true =>
    have d2:=K.zad (i:=0) HX1.out.2 rfl;have f2:=S.Bx.free (t:=3) (v:= .int .i64 (k+j)) HX1.out.2;go_wp2
    go_roundw
    case rel =>
     have e1:k+(j:Int)+1=k+((j+1:Nat):Int):=by omega
     refine⟨j+1,by omega,by go_num,by show _=_;rw[HD2.out];rfl,HB1.out.setCell hba _,S.zaa HG1.out ⟨rfl,rfl,rfl,by simp,fun b _ hb=>heap_setCell_other _ ⟨ba,0,none⟩ b _ (fun e=>hb (by simp[e]))⟩,?_,?_⟩
     ·rw[heap_setCell_other _ ⟨ba,0,none⟩ bv _ (by simpa using hne)];exact HX1.out.1
     ·rw[<- e1];exact heap_setCell_same _ ba 0 _ _ _ HX1.out.2
    case measure=>simp[intOf];omega
  ·go_wp2;go_ret
   have hf:K.runAt t k l=true:=by rw[HW.out,List.drop_eq_nil_of_le (by omega)];rfl
   obtain rfl:j=l.length:=by omega
   exact⟨L.zaj hf.symm,fun _=>HB.out.2.2,HB.out.1,HB.out.2.1⟩
theorem znx (w:World)(mb:Nat)(k:Int) :
  Calls prog 180 #[.iface 235 (.pointer (some ⟨mb,0,none⟩)),.int .i64 k] w fun e w'=>∃bv ba,e= .returned (.func (.func 204) #[] #[.pointer (some ⟨bv,0,none⟩),.pointer (some ⟨ba,0,none⟩)])/\w.heap.size<=bv/\w.heap.size<=ba/\bv≠ba/\K.Bs w' bv ba mb k/\Below w.heap.size w w':=by
 have hmf:∀(fn:Fn) (first cap:Array Value) (w:World),(Instr.makeFunc fn first cap).run prog w= .ok (.func fn first cap) w:=fun _ _ _ _=>rfl
 go_enter func180,ntmps180
 go_wp2;go_ret
 have h:=K.zar (w:=w) (qR ((w.alloc (.cells #[.iface 235 (.pointer (some ⟨mb,0,none⟩))] 223)).alloc (.cells #[.int .i64 k] 3)));exact⟨w.heap.size,w.heap.size+1,by simp,qN,by omega,by omega,⟨h.1,h.2.1⟩,h.2.2.1⟩
theorem zq3 (w:World)(v:Value)(r:K.Rule)(R:K.RuIs w v r)(hE:K.ruleE r=0)(mx g:Nat)(t:List Int)(Rt:Gm.Vw w mx g t)(ht:t.length<=4000)(k:Int)(hk0:0<=k)(hk1:k<=t.length) :
  Calls prog 142 #[v,.iface 235 (.pointer (some ⟨mx,0,none⟩)),.int .i64 k] w fun e w'=>e= .returned (.bool (K.matchB r t k))/\Below w.heap.size w w':=by
 obtain⟨g1,g2,g3,hsrc,_⟩:=K.zal hE;have HG:Hid (K.Good r.before/\K.Good r.source/\K.Good r.after):=⟨g1,g2,g3⟩;have l1:=g1.1;have l2:=g2.1;have l3:=g3.1;obtain⟨bo,bc,so,sc,ao,ac,tgo,tc,rfl,R1,R2,R3,R4,hl4,hcur⟩:=R;have HRs:Hid (K.Ss w (.slice bo r.before.length bc) r.before/\K.Ss w (.slice so r.source.length sc) r.source/\K.Ss w (.slice ao r.after.length ac) r.after):=⟨R1,R2,R3⟩;have HT:=qH Rt;have eg:∀args w,(callFunc 204 args).run prog w= .ok (.enter 204 args) w:=enters_of func204 (by kernel_rfl) rfl;have HNo:=@K.zhy r t k hsrc;have HRoom:=@K.zg3 r t k;have HN:Hid (_->_):=HNo;have HM:=qH HRoom;generalize K.matchB r t k=mb at *;clear HNo HRoom g1 g2 g3 R1 R2 R3 R4 hcur hE;obtain⟨st,fi,be,sou,af,ta,cu⟩:=r;simp only at *;have HLQ:=qH HT.out.len;have HMm:=qH <| fun X hX=>zo4 X mx g (HT.out.cell X hX)
 obtain⟨W0,hW0⟩:∃W0,W0=w.alloc (.cells #[.bool st,.bool fi,.slice bo be.length bc,.slice so sou.length sc,.slice ao af.length ac,.slice tgo ta.length tc,.int .i64 cu] 50):=⟨_,rfl⟩;have hH0:W0.heap[w.heap.size]?=some (.cells #[.bool st,.bool fi,.slice bo be.length bc,.slice so sou.length sc,.slice ao af.length ac,.slice tgo ta.length tc,.int .i64 cu] 50):=by rw[hW0];exact heap_alloc_new w _
 have HB0:Hid (Below w.heap.size w W0/\W0.heap.size=w.heap.size+1):=by
  rw[hW0];exact⟨(qR w).alloc qN _,by simp⟩
 have HH0:=qH hH0;have c0:=K.zad (i:=0) hH0 rfl;have c1:=K.zad (i:=1) hH0 rfl;have c2:=K.zad (i:=2) hH0 rfl;have c3:=K.zad (i:=3) hH0 rfl;have c4:=K.zad (i:=4) hH0 rfl;clear hH0
 go_enter func142,ntmps142
 go_wp2;rw[<- hW0]
 clear hW0
 have hmq:∀q,(method 496 235 (.pointer (some ⟨mx,0,none⟩)) "Len").run prog (W0.drewN q)= .ok (211,.pointer (some ⟨g,0,none⟩)) (W0.drewN q):=fun q=>HMm.out _ (below_drewN HB0.out.1 _)
 go_quiet ((go_at_call 211;exact Calls.quiet_of (HLQ.out _ (below_drewN HB0.out.1 _))))
 have HBW:Hid (Below w.heap.size w (W0.drewN nq)/\(W0.drewN nq).heap.size=w.heap.size+1/\(W0.drewN nq).heap[w.heap.size]?=some (.cells #[.bool st,.bool fi,.slice bo be.length bc,.slice so sou.length sc,.slice ao af.length ac,.slice tgo ta.length tc,.int .i64 cu] 50)):=⟨below_drewN HB0.out.1 _,HB0.out.2,HH0.out⟩;have d0:=K.zad (i:=0) HBW.out.2.2 rfl;have d1:=K.zad (i:=1) HBW.out.2.2 rfl;have d2:=K.zad (i:=2) HBW.out.2.2 rfl;have d3:=K.zad (i:=3) HBW.out.2.2 rfl;have d4:=K.zad (i:=4) HBW.out.2.2 rfl;clear c0 c1 c2 c3 c4 HB0 HH0 HLQ hmq HMm;generalize W0.drewN nq=W at *
 by_cases h1:k - (be.length:Int)<0
 ·have hf:=HN.out (.inl h1);go_wp2;go_ret
  first | exact⟨L.zaj hf.symm,HBW.out.1⟩ | exact⟨rfl,HBW.out.1⟩
 ·by_cases h2:(t.length:Int) - k - sou.length - af.length<0
  ·have hf:=HN.out (.inr (.inl h2));go_wp2;go_ret
   first | exact⟨L.zaj hf.symm,HBW.out.1⟩ | exact⟨rfl,HBW.out.1⟩
  ·by_cases h3:st=true/\0<k - (be.length:Int)
   ·have hf:=HN.out (.inr (.inr (.inl h3)));obtain⟨rfl,h3⟩:=h3;go_wp2;go_ret
    first | exact⟨L.zaj hf.symm,HBW.out.1⟩ | exact⟨rfl,HBW.out.1⟩
   ·by_cases h4:fi=true/\0<(t.length:Int) - k - sou.length - af.length
    ·have hf:=HN.out (.inr (.inr (.inr h4)));obtain⟨rfl,h4⟩:=h4;cases st with
     | false =>
      go_wp2;go_ret
      first | exact⟨L.zaj hf.symm,HBW.out.1⟩ | exact⟨rfl,HBW.out.1⟩
     | true =>
      have h5:¬ 0<k - (be.length:Int):=fun h=>h3 ⟨rfl,h⟩
      go_wp2;go_ret
      first | exact⟨L.zaj hf.symm,HBW.out.1⟩ | exact⟨rfl,HBW.out.1⟩
    ·have hM:=HM.out h3 h4;have HM2:=qH hM;have h5:=fun h=>Int.not_lt.1 fun h'=>h3 ⟨h,h'⟩
     have h6:=fun h=>Int.not_lt.1 fun h'=>h4 ⟨h,h'⟩
     have HAl:=znx W mx (k - be.length);have hW1:=HBW.out.2.1
     have HC:Hid (∀X bv ba,Below w.heap.size w X->w.heap.size<=bv->w.heap.size<=ba->bv≠ba->K.Bs X bv ba mx (k - be.length)->Calls prog 204 (#[.slice bo be.length bc]++#[.pointer (some ⟨bv,0,none⟩),.pointer (some ⟨ba,0,none⟩)]) X fun e w'=>e= .returned (.bool (K.runAt t (k - be.length) be))/\(K.runAt t (k - be.length) be=true->K.Bs w' bv ba mx (k - be.length+be.length))/\Below w.heap.size w w'/\X.grownBy w' (some ba)) :=
      fun X bv ba q1 q2 q3 q4 q5=>zdc w X q1 bv ba q2 q3 q4 _ be HRs.out.1 HG.out.1 mx g t HT.out ht (k - be.length) (by omega) (by omega) q5
     have HC2:Hid (∀X bv ba,Below w.heap.size w X->w.heap.size<=bv->w.heap.size<=ba->bv≠ba->K.Bs X bv ba mx k->Calls prog 204 (#[.slice so sou.length sc]++#[.pointer (some ⟨bv,0,none⟩),.pointer (some ⟨ba,0,none⟩)]) X fun e w'=>e= .returned (.bool (K.runAt t k sou))/\(K.runAt t k sou=true->K.Bs w' bv ba mx (k+sou.length))/\Below w.heap.size w w'/\X.grownBy w' (some ba)) :=
      fun X bv ba q1 q2 q3 q4 q5=>zdc w X q1 bv ba q2 q3 q4 _ sou HRs.out.2.1 HG.out.2.1 mx g t HT.out ht k (by omega) (by omega) q5
     have HC3:Hid (∀X bv ba,Below w.heap.size w X->w.heap.size<=bv->w.heap.size<=ba->bv≠ba->K.Bs X bv ba mx (k+sou.length)->Calls prog 204 (#[.slice ao af.length ac]++#[.pointer (some ⟨bv,0,none⟩),.pointer (some ⟨ba,0,none⟩)]) X fun e w'=>e= .returned (.bool (K.runAt t (k+sou.length) af))/\(K.runAt t (k+sou.length) af=true->K.Bs w' bv ba mx (k+sou.length+af.length))/\Below w.heap.size w w'/\X.grownBy w' (some ba)) :=
      fun X bv ba q1 q2 q3 q4 q5=>zdc w X q1 bv ba q2 q3 q4 _ af HRs.out.2.2 HG.out.2.2 mx g t HT.out ht (k+sou.length) (by omega) (by omega) q5
     generalize K.runAt t (k - be.length) be=m1 at *;generalize K.runAt t k sou=m2 at *;generalize K.runAt t (k+sou.length) af=m3 at *
     have HRB:Hid (∀X ba,W.heap.size<=ba->(W.grownBy X (some ba)->X.cell? ⟨w.heap.size,2,none⟩=some (.slice bo be.length bc)/\X.cell? ⟨w.heap.size,3,none⟩=some (.slice so sou.length sc)/\X.cell? ⟨w.heap.size,4,none⟩=some (.slice ao af.length ac))):=fun X ba hba hg=>by
      have hb:=hg.block w.heap.size (by omega) (by simp;omega);rw[HBW.out.2.2] at hb;exact⟨K.zad (i:=2) hb rfl,K.zad (i:=3) hb rfl,K.zad (i:=4) hb rfl⟩
     have HBw:=qH HBW.out.1;clear h3 h4 hM HM HN HG HRs HT HBW;have hnn:=h1;rcases Bool.eq_false_or_eq_true st with hst | hst <;> rcases Bool.eq_false_or_eq_true fi with hfi | hfi
     all_goals
      subst hst hfi;simp only[forall_const,Bool.false_eq_true,false_imp_iff] at h5 h6
      go_wp2_with fail
      refine HAl.mono ?_;rintro e w1 ⟨bv,ba,rfl,q1,q2,q3,q4,hb⟩;have HB1:=qH <| HBw.out.trans (hb.mono (by omega));have HG1:Hid (W.grownBy w1 (some ba)):=S.zaf hb;obtain⟨f2,f3,f4⟩:=HRB.out w1 ba q2 HG1.out;have hC1:=HC.out w1 bv ba HB1.out (by omega) (by omega) q3 q4;clear HAl HC d0 d1 d2 d3 d4 hb q4
      go_wp2_with fail
      refine hC1.mono ?_;rintro e w2 ⟨rfl,hX2,hb2,hg2⟩;have HB2:=qH hb2;have HG2:=qH <| S.zaa HG1.out hg2;obtain⟨e2,e3,e4⟩:=HRB.out w2 ba q2 HG2.out;clear hC1 f2 f3 f4 hb2 hg2;cases m1 with
      | false =>
       go_wp2;go_ret
       exact⟨L.zaj (by rw[HM2.out];simp),HB2.out⟩
      | true =>
       have hX2':=hX2 rfl;rw[show k - (be.length:Int)+be.length=k by omega] at hX2';have hC2:=HC2.out w2 bv ba HB2.out (by omega) (by omega) q3 hX2';clear hX2 hX2' HC2
       go_wp2_with fail
       refine hC2.mono ?_;rintro e w3 ⟨rfl,hX3,hb3,hg3⟩;have HB3:=qH hb3;have HG3:=qH <| S.zaa HG2.out hg3;obtain⟨e2',e3',e4'⟩:=HRB.out w3 ba q2 HG3.out;clear hC2 e2 e3 e4 hb3 hg3;cases m2 with
       | false =>
        go_wp2;go_ret
        exact⟨L.zaj (by rw[HM2.out];simp),HB3.out⟩
       | true =>
        have hC3:=HC3.out w3 bv ba HB3.out (by omega) (by omega) q3 (hX3 rfl);clear hX3 HC3
        go_wp2_with fail
        refine hC3.mono ?_;rintro e w4 ⟨rfl,_,hb4,_⟩;have HB4:=qH hb4;clear hC3 hb4;go_wp2;go_ret;exact⟨L.zaj (by rw[HM2.out];simp),HB4.out⟩
end
section
open Go.RowKit Go.Shelf
def Gm.Idx (P:Int->Bool) (l:List Int) (e:Ending):Prop :=
 (∃(j:Nat) (z:Int),l[j]?=some z/\P z=true/\(∀i y,i<j->l[i]?=some y->P y=false)/\e= .returned (.int .i64 j))∨((∀y∈l,P y=false)/\e= .returned (.int .i64 (-1)))
theorem zmw (w:World)(v:Value)(l:List Int)(R0:L.Rd w v .i64 l)(hl:l.length<=140737488355328)(g:Nat)(cb:Array Value)(P:Int->Bool)(eg:∀args w,(callFunc g args).run prog w= .ok (.enter g args) w)
  (hh:∀W r,Below w.heap.size w W->r∈l->Calls prog g (#[.int .i64 r]++cb) W fun e w'=>e= .returned (.bool (P r))/\Below W.heap.size W w') :
  Calls prog 235 #[v,.func (.func g) #[] cb] w fun e w'=>Gm.Idx P l e/\Below w.heap.size w w':=by
 have HH:=qH hh;obtain⟨lao,lcap,rfl,_,hcs⟩:=R0;have HC:=qH hcs;clear hh hcs
 go_enter func235,ntmps235
 go_wp2
 go_loopw [8] (fun i wr=>∃j:Nat,j<=l.length/\i= .int .i64 j/\Hid (∀i y,i<j->l[i]?=some y->P y=false)/\Hid (Below w.heap.size w wr)) (fun i _=>l.length - (RowKit.intOf i).toNat)
 case atStart=>exact⟨0,Nat.zero_le _,rfl,fun i y h=>by omega,qR w⟩
 case round =>
  obtain⟨j,hj,rfl,HW,HB⟩:=hrel
  by_cases hlt:j<l.length
  ·obtain⟨p,hp⟩:∃x,l[j]?=some x:=⟨l[j],by simp[hlt]⟩;obtain⟨b,off,rfl,hcell⟩:=HC.out (by intro h;subst h;simp at hlt);have c0:=hcell j p hp;rw[<- HB.out.cell (p:=⟨b,off+j,none⟩) (L.block_lt c0)] at c0;have hsz:=HB.out.size;have HW2:=qH <| HH.out wr p HB.out (List.mem_of_getElem? hp);have HP:=qH hp;generalize hz:P p=z at HW2;have HZ:=qH hz;clear hp hcell hz
   go_wp2_with fail
   refine HW2.out.mono ?_;rintro e w1 ⟨rfl,B1⟩;have HB1:=qH <| HB.out.trans (B1.mono hsz);clear B1;cases z with
   | false =>
    go_wp2
    go_roundw
    case rel =>
     refine⟨j+1,by omega,by go_num,fun i y hi hy=> ?_,HB1.out⟩
     by_cases hij:i=j
     ·subst hij;have:=HP.out;rw[hy] at this;cases this;exact HZ.out
     ·exact HW.out i y (by omega) hy
    case measure=>simp[RowKit.intOf];omega
   | true =>
    go_wp2;go_ret
    exact⟨.inl ⟨j,p,HP.out,HZ.out,HW.out,rfl⟩,HB1.out⟩
  ·go_wp2;go_ret
   refine⟨.inr ⟨fun y hy=> ?_,rfl⟩,HB.out⟩;obtain⟨i,hi⟩:=List.getElem?_of_mem hy;exact HW.out i y (by have:=(qL.1 hi).1;omega) hi
theorem zjq (w0 w:World)(hB:Below w0.heap.size w0 w)(bm ba mb g k:Nat)(vr vh:Value)(l:List K.Rule)(hR:V.Rus w0 vr l)(t:List Int)(hV:Gm.Vw w0 mb g t)(ht:t.length<=4000)(at':Nat)(hat:at'<=t.length)(r:K.Rule)(hr:l[k]?=some r)(hE:K.ruleE r=0)
  (c0:w.cell? ⟨bm,0,none⟩=some (.pointer (some ⟨mb,0,none⟩))) (c1:w.cell? ⟨ba,0,none⟩=some (.int .i64 at')) (c2:w.cell? ⟨mb,1,none⟩=some vr) :
  Calls prog 236 (#[.int .i64 k]++#[.pointer (some ⟨bm,0,none⟩),.pointer (some ⟨ba,0,none⟩)]) w fun e w'=>e= .returned (.bool (K.matchB r t at'))/\Below w.heap.size w w':=by
 obtain⟨ao,cap,rfl⟩:=hR.len;obtain⟨b9,o9,bo,bc,so,sc,ao2,ac,tt,tc,rfl,a0,a1,a2,a3,a4,a5,a6,hP⟩:=K.Rus.rule (hR.below hB) hr;have hkl:=(qL.1 hr).1;have hlf:=hR.few;have hVw:∀W,Below w.heap.size w W->Gm.Vw W mb g t:=fun W hW=>⟨fun X hX=>hV.cell X ((hB.trans (hW.mono hB.size)).trans (hX.mono (Nat.le_trans hB.size hW.size))),fun X hX=>hV.len X ((hB.trans (hW.mono hB.size)).trans (hX.mono (Nat.le_trans hB.size hW.size))),fun X q hX=>hV.at' X q ((hB.trans (hW.mono hB.size)).trans (hX.mono (Nat.le_trans hB.size hW.size)))⟩
 have HC:Hid (∀W,Below w.heap.size w W->Calls prog 142 #[.agg #[.bool r.start,.bool r.fin,.slice bo r.before.length bc,.slice so r.source.length sc,.slice ao2 r.after.length ac,.slice tt r.target.length tc,.int .i64 r.cursor],.iface 235 (.pointer (some ⟨mb,0,none⟩)),.int .i64 at'] W fun e w'=>e= .returned (.bool (K.matchB r t at'))/\Below w.heap.size w w'):=fun W hW =>
  (zq3 W _ r (hP.below hW) hE mb g t (hVw W hW) ht at' (by omega) (by omega)).mono fun e w' ⟨h1,h2⟩=>⟨h1,hW.trans (h2.mono hW.size)⟩
 clear hP hV hVw hR hr hE;obtain⟨st,fi,be,sou,af,ta,cu⟩:=r;simp only at a0 a1 a2 a3 a4 a5 a6 HC;generalize K.matchB _ t at'=z at HC ⊢;show Calls prog 236 #[_,.pointer (some ⟨bm,0,none⟩),.pointer (some ⟨ba,0,none⟩)] w _
 go_enter func236,ntmps236
 go_wp2_with fail
 go_region_with (go_at_call 142;refine(HC.out _ (by first | exact qR _ | exact(qR _).drew)).mono ?_;rintro e w1 ⟨rfl,z1⟩)
 all_goals go_wp2
 all_goals go_ret
 all_goals exact⟨rfl,by assumption⟩
