/-
 What is wrong with sides, rules and parts: package rulesyn's answers.
-/
import Derived.Test.YtdfjokdknanlfaaGreatDoorRWrong
set_option maxHeartbeats 0
namespace Go.Proofs.YtdfjokdknanlfaaGreatDoor
open Go.RowKit
set_option maxRecDepth 20000
set_option linter.unusedSimpArgs false
set_option linter.unusedVariables false
theorem zc8 {w:World}{v:Value}{l:List R.Item}(R0:R.Its w v l):∀w1,Below w.heap.size w w1->Calls Tryz.prog 131 #[v] w1 fun e w'=>e= .returned (.int .i64 (R.itemsE l))/\Below w1.heap.size w1 w':=fun w1 hb=>zfn w1 v l (R0.below hb)
theorem zgh (w:World)(v:Value)(s:R.Side)(m:Bool)(R0:R.SdIs w v s) :
  Calls Tryz.prog 118 #[v,.bool m] w fun e w'=>e= .returned (.int .i64 (R.sideE s m))/\Below w.heap.size w w':=by
 obtain⟨bo,bc,so,sc,ao,ac,rfl,hB,hS,hA,hcu⟩:=R0;have HIb:Hid (∀w1,Below w.heap.size w w1->Calls Tryz.prog 131 #[.slice bo s.before.length bc] w1 fun e w'=>e= .returned (.int .i64 (R.itemsE s.before))/\Below w1.heap.size w1 w'):=zc8 hB;have HIs:Hid (∀w1,Below w.heap.size w w1->Calls Tryz.prog 131 #[.slice so s.source.length sc] w1 fun e w'=>e= .returned (.int .i64 (R.itemsE s.source))/\Below w1.heap.size w1 w'):=zc8 hS;have HIa:Hid (∀w1,Below w.heap.size w w1->Calls Tryz.prog 131 #[.slice ao s.after.length ac] w1 fun e w'=>e= .returned (.int .i64 (R.itemsE s.after))/\Below w1.heap.size w1 w'):=zc8 hA;have HA:Hid (∀o,Below w.heap.size w (w.alloc o)):=fun o=>(qR w).alloc qN o
 clear hB hS hA;obtain⟨st,fi,be,sr,af,cu⟩:=s;simp only at hcu HIb HIs HIa ⊢;obtain⟨o,HO⟩:∃o,Hid (R.sideE ⟨st,fi,be,sr,af,cu⟩ m=o):=⟨_,rfl⟩;obtain⟨zb,HZb⟩:∃z,Hid (R.itemsE be=z):=⟨_,rfl⟩;obtain⟨zs,HZs⟩:∃z,Hid (R.itemsE sr=z):=⟨_,rfl⟩;obtain⟨za,HZa⟩:∃z,Hid (R.itemsE af=z):=⟨_,rfl⟩
 have HE:Hid ((if zb≠0 then zb else if zs≠0 then zs else if za≠0 then za else if cu< -1∨(sr.length:Int)<cu then 3 else if m=true/\sr.length=0 then 6 else 0)=o):=by
  show _=_;rw[<- HO.out,<- HZb.out,<- HZs.out,<- HZa.out];rfl
 rw[HO.out];rw[HZb.out] at HIb;rw[HZs.out] at HIs;rw[HZa.out] at HIa;unfold R.I64 at hcu
 go_enter Tryz.func118,Tryz.ntmps118
 go_wp2_with fail
 refine(HIb.out _ (HA.out _)).mono ?_;rintro e w1 ⟨rfl,b1⟩;obtain⟨hb1,B1,hl1⟩:=R.zb3 b1;have HK1:Hid _:=hb1;have HB1:Hid (Below w.heap.size w w1):=B1;have q3:w1.cell? ⟨w.heap.size,3,none⟩=some (.slice so sr.length sc):=by rw[Lib.cell_of_heap hb1];rfl
 clear b1 hb1 B1
 by_cases hz1:zb=0
 ·subst hz1
  go_wp2_with fail
  refine(HIs.out _ HB1.out).mono ?_;rintro e w2 ⟨rfl,b2⟩;have hb2:=R.zcr HK1.out b2;have HK2:Hid _:=hb2;have HB2:Hid (Below w.heap.size w w2):=HB1.out.trans (b2.mono HB1.out.size);have q4:w2.cell? ⟨w.heap.size,4,none⟩=some (.slice ao af.length ac):=by rw[Lib.cell_of_heap hb2];rfl
  clear b2 hb2 HK1 q3
  by_cases hz2:zs=0
  ·subst hz2
   go_wp2_with fail
   refine(HIa.out _ HB2.out).mono ?_;rintro e w3 ⟨rfl,b3⟩;have hb3:=R.zcr HK2.out b3;have HB3:Hid (Below w.heap.size w w3):=HB2.out.trans (b3.mono HB2.out.size);have q5:w3.cell? ⟨w.heap.size,5,none⟩=some (.int .i64 cu):=by rw[Lib.cell_of_heap hb3];rfl
   have q3:w3.cell? ⟨w.heap.size,3,none⟩=some (.slice so sr.length sc):=by rw[Lib.cell_of_heap hb3];rfl
   clear b3 hb3 HK2 q4
   by_cases hz3:za=0
   ·subst hz3
    by_cases hc1:cu< -1
    ·go_wp2;go_ret
     exact⟨by rw[<- HE.out];simp[hc1],HB3.out⟩
    ·by_cases hc2:(sr.length:Int)<cu
     ·go_wp2;go_ret
      exact⟨by rw[<- HE.out];simp[hc2],HB3.out⟩
     ·cases m with
      | false =>
       go_wp2;go_ret
       exact⟨by (rw[<- HE.out,if_neg (by simp),if_neg (by simp),if_neg (by simp),if_neg (by omega),if_neg (by simp)];all_goals rfl),HB3.out⟩
      | true =>
       by_cases hn:sr.length=0
       ·have hn':((sr.length:Nat):Int)=0:=by omega
        go_wp2;go_ret
        refine⟨?_,HB3.out⟩;rw[<- HE.out,if_neg (by simp),if_neg (by simp),if_neg (by simp),if_neg (by omega),if_pos ⟨by trivial,hn⟩]
        all_goals rfl
       ·have hn':¬((sr.length:Nat):Int)=0:=by omega
        go_wp2;go_ret
        refine⟨?_,HB3.out⟩;rw[<- HE.out,if_neg (by simp),if_neg (by simp),if_neg (by simp),if_neg (by omega),if_neg (by omega)]
        all_goals rfl
   ·go_wp2;go_ret
    exact⟨by rw[<- HE.out];simp[hz3],HB3.out⟩
  ·go_wp2;go_ret
   exact⟨by rw[<- HE.out];simp[hz2],HB2.out⟩
 ·go_wp2;go_ret
  exact⟨by rw[<- HE.out];simp[hz1],HB1.out⟩
theorem zey {w:World}{v:Value}{s:R.Side}(R0:R.SdIs w v s):∀w1 m,Below w.heap.size w w1->Calls Tryz.prog 118 #[v,.bool m] w1 fun e w'=>e= .returned (.int .i64 (R.sideE s m))/\Below w1.heap.size w1 w':=fun w1 m hb=>zgh w1 v s m (R0.below hb)
theorem zff {w:World}{v:Value}{s:R.Side}(R0:R.SdIs w v s)(hl:s.source.length<=20):∀w1,Below w.heap.size w w1->Calls Tryz.prog 132 #[v] w1 fun e w'=>e= .returned (.bool (R.gives s))/\Below w1.heap.size w1 w':=fun w1 hb=>zoi w1 v s (R0.below hb) hl
theorem zeh {w:World}{v:Value}{s:R.Side}(R0:R.SdIs w v s):∀w1,Below w.heap.size w w1->Calls Tryz.prog 133 #[v] w1 fun e w'=>e= .returned (.bool (R.around s))/\Below w1.heap.size w1 w':=fun w1 hb=>zfo w1 v s (R0.below hb)
theorem zqs (w:World)(v:Value)(p:R.Part)(R0:R.PtIs w v p)(hl:p.left.source.length<=20)(hr:p.right.source.length<=20)(hd:p.dir=1∨p.dir=2∨p.dir=3) :
  Calls Tryz.prog 119 #[v] w fun e w'=>e= .returned (.bool (R.fits p))/\Below w.heap.size w w':=by
 obtain⟨so,sc,lbo,lbc,lso,lsc,lao,lac,rbo,rbc,rso,rsc,rao,rac,rfl,_,_,hL,hR,_,_⟩:=R0.open;clear R0;have HA:Hid (∀o,Below w.heap.size w (w.alloc o)):=fun o=>(qR w).alloc qN o
 have HgL:Hid (∀w1,Below w.heap.size w w1->Calls Tryz.prog 132 #[.agg #[.bool p.left.start,.bool p.left.fin,.slice lbo p.left.before.length lbc,.slice lso p.left.source.length lsc,.slice lao p.left.after.length lac,.int .i64 p.left.cursor]] w1 fun e w'=>e= .returned (.bool (R.gives p.left))/\Below w1.heap.size w1 w'):=zff hL hl;have HgR:Hid (∀w1,Below w.heap.size w w1->Calls Tryz.prog 132 #[.agg #[.bool p.right.start,.bool p.right.fin,.slice rbo p.right.before.length rbc,.slice rso p.right.source.length rsc,.slice rao p.right.after.length rac,.int .i64 p.right.cursor]] w1 fun e w'=>e= .returned (.bool (R.gives p.right))/\Below w1.heap.size w1 w'):=zff hR hr;have HaL:Hid (∀w1,Below w.heap.size w w1->Calls Tryz.prog 133 #[.agg #[.bool p.left.start,.bool p.left.fin,.slice lbo p.left.before.length lbc,.slice lso p.left.source.length lsc,.slice lao p.left.after.length lac,.int .i64 p.left.cursor]] w1 fun e w'=>e= .returned (.bool (R.around p.left))/\Below w1.heap.size w1 w'):=zeh hL;have HaR:Hid (∀w1,Below w.heap.size w w1->Calls Tryz.prog 133 #[.agg #[.bool p.right.start,.bool p.right.fin,.slice rbo p.right.before.length rbc,.slice rso p.right.source.length rsc,.slice rao p.right.after.length rac,.int .i64 p.right.cursor]] w1 fun e w'=>e= .returned (.bool (R.around p.right))/\Below w1.heap.size w1 w'):=zeh hR;clear hL hR;obtain⟨pk,pn,ps,pd,pl,pr⟩:=p;simp only at HgL HgR HaL HaR hd ⊢;clear hl hr;obtain⟨o,HO⟩:∃o,Hid (R.fits ⟨pk,pn,ps,pd,pl,pr⟩=o):=⟨_,rfl⟩;rw[HO.out];obtain⟨gl,HGL⟩:∃z,Hid (R.gives pl=z):=⟨_,rfl⟩;obtain⟨gr,HGR⟩:∃z,Hid (R.gives pr=z):=⟨_,rfl⟩;obtain⟨al,HAL⟩:∃z,Hid (R.around pl=z):=⟨_,rfl⟩;obtain⟨ar,HAR⟩:∃z,Hid (R.around pr=z):=⟨_,rfl⟩
 have HF:Hid ((if pd=1 then gr&& !ar&&decide (pl.cursor<0) else if pd=2 then gl&& !al&&decide (pr.cursor<0) else gl&&gr)=o):=by
  show _=_;rw[<- HO.out,<- HGL.out,<- HGR.out,<- HAL.out,<- HAR.out];rfl
 rw[HGL.out] at HgL;rw[HGR.out] at HgR;rw[HAL.out] at HaL;rw[HAR.out] at HaR;clear HO HGL HGR HAL HAR;obtain⟨lst,lfi,lbe,lsr,laf,lcu⟩:=pl;obtain⟨rst,rfi,rbe,rsr,raf,rcu⟩:=pr;simp only at HgL HgR HaL HaR HF ⊢;rcases hd with rfl | rfl | rfl
 ·go_enter Tryz.func119,Tryz.ntmps119
  go_wp2_with fail
  refine(HgR.out _ (HA.out _)).mono ?_;rintro e w1 ⟨rfl,b1⟩;obtain⟨hb1,B1,hl1⟩:=R.zb3 b1;have q10:w1.cell? ⟨w.heap.size,10,none⟩=some (.bool rst):=by rw[Lib.cell_of_heap hb1];rfl
  have q11:w1.cell? ⟨w.heap.size,11,none⟩=some (.bool rfi):=by rw[Lib.cell_of_heap hb1];rfl
  have q12:w1.cell? ⟨w.heap.size,12,none⟩=some (.slice rbo rbe.length rbc):=by rw[Lib.cell_of_heap hb1];rfl
  have q13:w1.cell? ⟨w.heap.size,13,none⟩=some (.slice rso rsr.length rsc):=by rw[Lib.cell_of_heap hb1];rfl
  have q14:w1.cell? ⟨w.heap.size,14,none⟩=some (.slice rao raf.length rac):=by rw[Lib.cell_of_heap hb1];rfl
  have q15:w1.cell? ⟨w.heap.size,15,none⟩=some (.int .i64 rcu):=by rw[Lib.cell_of_heap hb1];rfl
  have q9:w1.cell? ⟨w.heap.size,9,none⟩=some (.int .i64 lcu):=by rw[Lib.cell_of_heap hb1];rfl
  have HK1:Hid _:=hb1;have HB1:Hid (Below w.heap.size w w1):=B1;clear b1 hb1 B1;cases gr with
  | false =>
   go_wp2;go_ret
   exact⟨L.zak (by rw[<- HF.out];simp),HB1.out⟩
  | true =>
   go_wp2_with fail
   refine(HaR.out _ HB1.out).mono ?_;rintro e w2 ⟨rfl,b2⟩;have hb2:=R.zcr HK1.out b2;have q9':w2.cell? ⟨w.heap.size,9,none⟩=some (.int .i64 lcu):=by rw[Lib.cell_of_heap hb2];rfl
   have HB2:Hid (Below w.heap.size w w2):=HB1.out.trans (b2.mono HB1.out.size);clear b2 hb2;cases ar with
   | true =>
    go_wp2;go_ret
    exact⟨L.zak (by rw[<- HF.out];simp),HB2.out⟩
   | false =>
    go_wp2;go_ret
    exact⟨L.zak (by rw[<- HF.out];simp),HB2.out⟩
 ·go_enter Tryz.func119,Tryz.ntmps119
  go_wp2_with fail
  refine(HgL.out _ (HA.out _)).mono ?_;rintro e w1 ⟨rfl,b1⟩;obtain⟨hb1,B1,hl1⟩:=R.zb3 b1;have q4:w1.cell? ⟨w.heap.size,4,none⟩=some (.bool lst):=by rw[Lib.cell_of_heap hb1];rfl
  have q5:w1.cell? ⟨w.heap.size,5,none⟩=some (.bool lfi):=by rw[Lib.cell_of_heap hb1];rfl
  have q6:w1.cell? ⟨w.heap.size,6,none⟩=some (.slice lbo lbe.length lbc):=by rw[Lib.cell_of_heap hb1];rfl
  have q7:w1.cell? ⟨w.heap.size,7,none⟩=some (.slice lso lsr.length lsc):=by rw[Lib.cell_of_heap hb1];rfl
  have q8:w1.cell? ⟨w.heap.size,8,none⟩=some (.slice lao laf.length lac):=by rw[Lib.cell_of_heap hb1];rfl
  have q9:w1.cell? ⟨w.heap.size,9,none⟩=some (.int .i64 lcu):=by rw[Lib.cell_of_heap hb1];rfl
  have q15:w1.cell? ⟨w.heap.size,15,none⟩=some (.int .i64 rcu):=by rw[Lib.cell_of_heap hb1];rfl
  have HK1:Hid _:=hb1;have HB1:Hid (Below w.heap.size w w1):=B1;clear b1 hb1 B1;cases gl with
  | false =>
   go_wp2;go_ret
   exact⟨L.zak (by rw[<- HF.out];simp),HB1.out⟩
  | true =>
   go_wp2_with fail
   refine(HaL.out _ HB1.out).mono ?_;rintro e w2 ⟨rfl,b2⟩;have hb2:=R.zcr HK1.out b2;have q15':w2.cell? ⟨w.heap.size,15,none⟩=some (.int .i64 rcu):=by rw[Lib.cell_of_heap hb2];rfl
   have HB2:Hid (Below w.heap.size w w2):=HB1.out.trans (b2.mono HB1.out.size);clear b2 hb2;cases al with
   | true =>
    go_wp2;go_ret
    exact⟨L.zak (by rw[<- HF.out];simp),HB2.out⟩
   | false =>
    go_wp2;go_ret
    exact⟨L.zak (by rw[<- HF.out];simp),HB2.out⟩
 ·go_enter Tryz.func119,Tryz.ntmps119
  go_wp2_with fail
  refine(HgL.out _ (HA.out _)).mono ?_;rintro e w1 ⟨rfl,b1⟩;obtain⟨hb1,B1,hl1⟩:=R.zb3 b1;have q10:w1.cell? ⟨w.heap.size,10,none⟩=some (.bool rst):=by rw[Lib.cell_of_heap hb1];rfl
  have q11:w1.cell? ⟨w.heap.size,11,none⟩=some (.bool rfi):=by rw[Lib.cell_of_heap hb1];rfl
  have q12:w1.cell? ⟨w.heap.size,12,none⟩=some (.slice rbo rbe.length rbc):=by rw[Lib.cell_of_heap hb1];rfl
  have q13:w1.cell? ⟨w.heap.size,13,none⟩=some (.slice rso rsr.length rsc):=by rw[Lib.cell_of_heap hb1];rfl
  have q14:w1.cell? ⟨w.heap.size,14,none⟩=some (.slice rao raf.length rac):=by rw[Lib.cell_of_heap hb1];rfl
  have q15:w1.cell? ⟨w.heap.size,15,none⟩=some (.int .i64 rcu):=by rw[Lib.cell_of_heap hb1];rfl
  have HB1:Hid (Below w.heap.size w w1):=B1;clear b1 hb1 B1;cases gl with
  | false =>
   go_wp2;go_ret
   exact⟨L.zak (by rw[<- HF.out];simp),HB1.out⟩
  | true =>
   go_wp2_with fail
   refine(HgR.out _ HB1.out).mono ?_;rintro e w2 ⟨rfl,b2⟩;have HB2:Hid (Below w.heap.size w w2):=HB1.out.trans (b2.mono HB1.out.size);clear b2;go_wp2;go_ret;exact⟨L.zak (by rw[<- HF.out];simp),HB2.out⟩
end Go.Proofs.YtdfjokdknanlfaaGreatDoor
