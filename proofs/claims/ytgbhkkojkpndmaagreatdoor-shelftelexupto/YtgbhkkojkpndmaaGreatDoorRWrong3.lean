/-
 What is wrong with sides, rules and parts: package rulesyn's answers.
-/
import Derived.Test.YtgbhkkojkpndmaaGreatDoorRWrong
set_option maxHeartbeats 0
set_option maxRecDepth 20000
set_option linter.unusedSimpArgs false
set_option linter.unusedVariables false
namespace Go.Proofs.YtgbhkkojkpndmaaGreatDoor
open Go.RowKit
theorem zc5 {w:World}{v:Value}{l:List R.Item}(R0:R.Its w v l):∀w1,Below w.heap.size w w1->Calls Tryz.prog 138 #[v] w1 fun e w'=>e= .returned (.int .i64 (R.itemsE l))/\Below w1.heap.size w1 w':=fun w1 hb=>zfj w1 v l (R0.below hb)
theorem zge (w:World)(v:Value)(s:R.Side)(m:Bool)(R0:R.SdIs w v s) :
  Calls Tryz.prog 125 #[v,.bool m] w fun e w'=>e= .returned (.int .i64 (R.sideE s m))/\Below w.heap.size w w':=by
 obtain⟨bo,bc,so,sc,ao,ac,rfl,hB,hS,hA,hcu⟩:=R0;have HIb:Hid (∀w1,Below w.heap.size w w1->Calls Tryz.prog 138 #[.slice bo s.before.length bc] w1 fun e w'=>e= .returned (.int .i64 (R.itemsE s.before))/\Below w1.heap.size w1 w'):=zc5 hB;have HIs:Hid (∀w1,Below w.heap.size w w1->Calls Tryz.prog 138 #[.slice so s.source.length sc] w1 fun e w'=>e= .returned (.int .i64 (R.itemsE s.source))/\Below w1.heap.size w1 w'):=zc5 hS;have HIa:Hid (∀w1,Below w.heap.size w w1->Calls Tryz.prog 138 #[.slice ao s.after.length ac] w1 fun e w'=>e= .returned (.int .i64 (R.itemsE s.after))/\Below w1.heap.size w1 w'):=zc5 hA;have HA:Hid (∀o,Below w.heap.size w (w.alloc o)):=fun o=>(qR w).alloc qN o
 clear hB hS hA;obtain⟨st,fi,be,sr,af,cu⟩:=s;simp only at hcu HIb HIs HIa ⊢;obtain⟨o,HO⟩:∃o,Hid (R.sideE ⟨st,fi,be,sr,af,cu⟩ m=o):=⟨_,rfl⟩;obtain⟨zb,HZb⟩:∃z,Hid (R.itemsE be=z):=⟨_,rfl⟩;obtain⟨zs,HZs⟩:∃z,Hid (R.itemsE sr=z):=⟨_,rfl⟩;obtain⟨za,HZa⟩:∃z,Hid (R.itemsE af=z):=⟨_,rfl⟩
 have HE:Hid ((if zb≠0 then zb else if zs≠0 then zs else if za≠0 then za else if cu< -1∨(sr.length:Int)<cu then 3 else if m=true/\sr.length=0 then 6 else 0)=o):=by
  show _=_;rw[<- HO.out,<- HZb.out,<- HZs.out,<- HZa.out];rfl
 rw[HO.out];rw[HZb.out] at HIb;rw[HZs.out] at HIs;rw[HZa.out] at HIa;unfold R.I64 at hcu
 go_enter Tryz.func125,Tryz.ntmps125
 go_wp2_with fail
 refine(HIb.out _ (HA.out _)).mono ?_;rintro e w1 ⟨rfl,b1⟩;obtain⟨hb1,B1,hl1⟩:=R.zby b1;have HK1:Hid _:=hb1;have HB1:Hid (Below w.heap.size w w1):=B1;have q3:w1.cell? ⟨w.heap.size,3,none⟩=some (.slice so sr.length sc):=by rw[Lib.cell_of_heap hb1];rfl
 clear b1 hb1 B1
 by_cases hz1:zb=0
 ·subst hz1
  go_wp2_with fail
  refine(HIs.out _ HB1.out).mono ?_;rintro e w2 ⟨rfl,b2⟩;have hb2:=R.zcn HK1.out b2;have HK2:Hid _:=hb2;have HB2:Hid (Below w.heap.size w w2):=HB1.out.trans (b2.mono HB1.out.size);have q4:w2.cell? ⟨w.heap.size,4,none⟩=some (.slice ao af.length ac):=by rw[Lib.cell_of_heap hb2];rfl
  clear b2 hb2 HK1 q3
  by_cases hz2:zs=0
  ·subst hz2
   go_wp2_with fail
   refine(HIa.out _ HB2.out).mono ?_;rintro e w3 ⟨rfl,b3⟩;have hb3:=R.zcn HK2.out b3;have HB3:Hid (Below w.heap.size w w3):=HB2.out.trans (b3.mono HB2.out.size);have q5:w3.cell? ⟨w.heap.size,5,none⟩=some (.int .i64 cu):=by rw[Lib.cell_of_heap hb3];rfl
   have q3:w3.cell? ⟨w.heap.size,3,none⟩=some (.slice so sr.length sc):=by rw[Lib.cell_of_heap hb3];rfl
   clear b3 hb3 HK2 q4
   by_cases hz3:za=0
   ·subst hz3
    by_cases hc1:cu< -1
    ·go_wp2;go_ret
     exact⟨by rw[<- HE.out];simp[hc1],HB3.out⟩
    ·by_cases hc2:(sr.length:Int)<cu
     ·go_wp2;go_ret
      exact⟨by rw[<- HE.out];simp[hc2],HB3.out⟩
     ·cases m with
      | false =>
       go_wp2;go_ret
       exact⟨by (rw[<- HE.out,if_neg (by simp),if_neg (by simp),if_neg (by simp),if_neg (by omega),if_neg (by simp)];all_goals rfl),HB3.out⟩
      | true =>
       by_cases hn:sr.length=0
       ·have hn':((sr.length:Nat):Int)=0:=by omega
        go_wp2;go_ret
        refine⟨?_,HB3.out⟩;rw[<- HE.out,if_neg (by simp),if_neg (by simp),if_neg (by simp),if_neg (by omega),if_pos ⟨by trivial,hn⟩]
        all_goals rfl
       ·have hn':¬((sr.length:Nat):Int)=0:=by omega
        go_wp2;go_ret
        refine⟨?_,HB3.out⟩;rw[<- HE.out,if_neg (by simp),if_neg (by simp),if_neg (by simp),if_neg (by omega),if_neg (by omega)]
        all_goals rfl
   ·go_wp2;go_ret
    exact⟨by rw[<- HE.out];simp[hz3],HB3.out⟩
  ·go_wp2;go_ret
   exact⟨by rw[<- HE.out];simp[hz2],HB2.out⟩
 ·go_wp2;go_ret
  exact⟨by rw[<- HE.out];simp[hz1],HB1.out⟩
theorem zev {w:World}{v:Value}{s:R.Side}(R0:R.SdIs w v s):∀w1 m,Below w.heap.size w w1->Calls Tryz.prog 125 #[v,.bool m] w1 fun e w'=>e= .returned (.int .i64 (R.sideE s m))/\Below w1.heap.size w1 w':=fun w1 m hb=>zge w1 v s m (R0.below hb)
theorem zfa {w:World}{v:Value}{s:R.Side}(R0:R.SdIs w v s)(hl:s.source.length<=20):∀w1,Below w.heap.size w w1->Calls Tryz.prog 139 #[v] w1 fun e w'=>e= .returned (.bool (R.gives s))/\Below w1.heap.size w1 w':=fun w1 hb=>zod w1 v s (R0.below hb) hl
theorem zec {w:World}{v:Value}{s:R.Side}(R0:R.SdIs w v s):∀w1,Below w.heap.size w w1->Calls Tryz.prog 140 #[v] w1 fun e w'=>e= .returned (.bool (R.around s))/\Below w1.heap.size w1 w':=fun w1 hb=>zfk w1 v s (R0.below hb)
theorem zqn (w:World)(v:Value)(p:R.Part)(R0:R.PtIs w v p)(hl:p.left.source.length<=20)(hr:p.right.source.length<=20)(hd:p.dir=1∨p.dir=2∨p.dir=3) :
  Calls Tryz.prog 126 #[v] w fun e w'=>e= .returned (.bool (R.fits p))/\Below w.heap.size w w':=by
 obtain⟨so,sc,lbo,lbc,lso,lsc,lao,lac,rbo,rbc,rso,rsc,rao,rac,rfl,_,_,hL,hR,_,_⟩:=R0.open;clear R0;have HA:Hid (∀o,Below w.heap.size w (w.alloc o)):=fun o=>(qR w).alloc qN o
 have HgL:Hid (∀w1,Below w.heap.size w w1->Calls Tryz.prog 139 #[.agg #[.bool p.left.start,.bool p.left.fin,.slice lbo p.left.before.length lbc,.slice lso p.left.source.length lsc,.slice lao p.left.after.length lac,.int .i64 p.left.cursor]] w1 fun e w'=>e= .returned (.bool (R.gives p.left))/\Below w1.heap.size w1 w'):=zfa hL hl;have HgR:Hid (∀w1,Below w.heap.size w w1->Calls Tryz.prog 139 #[.agg #[.bool p.right.start,.bool p.right.fin,.slice rbo p.right.before.length rbc,.slice rso p.right.source.length rsc,.slice rao p.right.after.length rac,.int .i64 p.right.cursor]] w1 fun e w'=>e= .returned (.bool (R.gives p.right))/\Below w1.heap.size w1 w'):=zfa hR hr;have HaL:Hid (∀w1,Below w.heap.size w w1->Calls Tryz.prog 140 #[.agg #[.bool p.left.start,.bool p.left.fin,.slice lbo p.left.before.length lbc,.slice lso p.left.source.length lsc,.slice lao p.left.after.length lac,.int .i64 p.left.cursor]] w1 fun e w'=>e= .returned (.bool (R.around p.left))/\Below w1.heap.size w1 w'):=zec hL;have HaR:Hid (∀w1,Below w.heap.size w w1->Calls Tryz.prog 140 #[.agg #[.bool p.right.start,.bool p.right.fin,.slice rbo p.right.before.length rbc,.slice rso p.right.source.length rsc,.slice rao p.right.after.length rac,.int .i64 p.right.cursor]] w1 fun e w'=>e= .returned (.bool (R.around p.right))/\Below w1.heap.size w1 w'):=zec hR;clear hL hR;obtain⟨pk,pn,ps,pd,pl,pr⟩:=p;simp only at HgL HgR HaL HaR hd ⊢;clear hl hr;obtain⟨o,HO⟩:∃o,Hid (R.fits ⟨pk,pn,ps,pd,pl,pr⟩=o):=⟨_,rfl⟩;rw[HO.out];obtain⟨gl,HGL⟩:∃z,Hid (R.gives pl=z):=⟨_,rfl⟩;obtain⟨gr,HGR⟩:∃z,Hid (R.gives pr=z):=⟨_,rfl⟩;obtain⟨al,HAL⟩:∃z,Hid (R.around pl=z):=⟨_,rfl⟩;obtain⟨ar,HAR⟩:∃z,Hid (R.around pr=z):=⟨_,rfl⟩
 have HF:Hid ((if pd=1 then gr&& !ar&&decide (pl.cursor<0) else if pd=2 then gl&& !al&&decide (pr.cursor<0) else gl&&gr)=o):=by
  show _=_;rw[<- HO.out,<- HGL.out,<- HGR.out,<- HAL.out,<- HAR.out];rfl
 rw[HGL.out] at HgL;rw[HGR.out] at HgR;rw[HAL.out] at HaL;rw[HAR.out] at HaR;clear HO HGL HGR HAL HAR;obtain⟨lst,lfi,lbe,lsr,laf,lcu⟩:=pl;obtain⟨rst,rfi,rbe,rsr,raf,rcu⟩:=pr;simp only at HgL HgR HaL HaR HF ⊢;rcases hd with rfl | rfl | rfl
 ·go_enter Tryz.func126,Tryz.ntmps126
  go_wp2_with fail
  refine(HgR.out _ (HA.out _)).mono ?_;rintro e w1 ⟨rfl,b1⟩;obtain⟨hb1,B1,hl1⟩:=R.zby b1;have q10:w1.cell? ⟨w.heap.size,10,none⟩=some (.bool rst):=by rw[Lib.cell_of_heap hb1];rfl
  have q11:w1.cell? ⟨w.heap.size,11,none⟩=some (.bool rfi):=by rw[Lib.cell_of_heap hb1];rfl
  have q12:w1.cell? ⟨w.heap.size,12,none⟩=some (.slice rbo rbe.length rbc):=by rw[Lib.cell_of_heap hb1];rfl
  have q13:w1.cell? ⟨w.heap.size,13,none⟩=some (.slice rso rsr.length rsc):=by rw[Lib.cell_of_heap hb1];rfl
  have q14:w1.cell? ⟨w.heap.size,14,none⟩=some (.slice rao raf.length rac):=by rw[Lib.cell_of_heap hb1];rfl
  have q15:w1.cell? ⟨w.heap.size,15,none⟩=some (.int .i64 rcu):=by rw[Lib.cell_of_heap hb1];rfl
  have q9:w1.cell? ⟨w.heap.size,9,none⟩=some (.int .i64 lcu):=by rw[Lib.cell_of_heap hb1];rfl
  have HK1:Hid _:=hb1;have HB1:Hid (Below w.heap.size w w1):=B1;clear b1 hb1 B1;cases gr with
  | false =>
   go_wp2;go_ret
   exact⟨L.zak (by rw[<- HF.out];simp),HB1.out⟩
  | true =>
   go_wp2_with fail
   refine(HaR.out _ HB1.out).mono ?_;rintro e w2 ⟨rfl,b2⟩;have hb2:=R.zcn HK1.out b2;have q9':w2.cell? ⟨w.heap.size,9,none⟩=some (.int .i64 lcu):=by rw[Lib.cell_of_heap hb2];rfl
   have HB2:Hid (Below w.heap.size w w2):=HB1.out.trans (b2.mono HB1.out.size);clear b2 hb2;cases ar with
   | true =>
    go_wp2;go_ret
    exact⟨L.zak (by rw[<- HF.out];simp),HB2.out⟩
   | false =>
    go_wp2;go_ret
    exact⟨L.zak (by rw[<- HF.out];simp),HB2.out⟩
 ·go_enter Tryz.func126,Tryz.ntmps126
  go_wp2_with fail
  refine(HgL.out _ (HA.out _)).mono ?_;rintro e w1 ⟨rfl,b1⟩;obtain⟨hb1,B1,hl1⟩:=R.zby b1;have q4:w1.cell? ⟨w.heap.size,4,none⟩=some (.bool lst):=by rw[Lib.cell_of_heap hb1];rfl
  have q5:w1.cell? ⟨w.heap.size,5,none⟩=some (.bool lfi):=by rw[Lib.cell_of_heap hb1];rfl
  have q6:w1.cell? ⟨w.heap.size,6,none⟩=some (.slice lbo lbe.length lbc):=by rw[Lib.cell_of_heap hb1];rfl
  have q7:w1.cell? ⟨w.heap.size,7,none⟩=some (.slice lso lsr.length lsc):=by rw[Lib.cell_of_heap hb1];rfl
  have q8:w1.cell? ⟨w.heap.size,8,none⟩=some (.slice lao laf.length lac):=by rw[Lib.cell_of_heap hb1];rfl
  have q9:w1.cell? ⟨w.heap.size,9,none⟩=some (.int .i64 lcu):=by rw[Lib.cell_of_heap hb1];rfl
  have q15:w1.cell? ⟨w.heap.size,15,none⟩=some (.int .i64 rcu):=by rw[Lib.cell_of_heap hb1];rfl
  have HK1:Hid _:=hb1;have HB1:Hid (Below w.heap.size w w1):=B1;clear b1 hb1 B1;cases gl with
  | false =>
   go_wp2;go_ret
   exact⟨L.zak (by rw[<- HF.out];simp),HB1.out⟩
  | true =>
   go_wp2_with fail
   refine(HaL.out _ HB1.out).mono ?_;rintro e w2 ⟨rfl,b2⟩;have hb2:=R.zcn HK1.out b2;have q15':w2.cell? ⟨w.heap.size,15,none⟩=some (.int .i64 rcu):=by rw[Lib.cell_of_heap hb2];rfl
   have HB2:Hid (Below w.heap.size w w2):=HB1.out.trans (b2.mono HB1.out.size);clear b2 hb2;cases al with
   | true =>
    go_wp2;go_ret
    exact⟨L.zak (by rw[<- HF.out];simp),HB2.out⟩
   | false =>
    go_wp2;go_ret
    exact⟨L.zak (by rw[<- HF.out];simp),HB2.out⟩
 ·go_enter Tryz.func126,Tryz.ntmps126
  go_wp2_with fail
  refine(HgL.out _ (HA.out _)).mono ?_;rintro e w1 ⟨rfl,b1⟩;obtain⟨hb1,B1,hl1⟩:=R.zby b1;have q10:w1.cell? ⟨w.heap.size,10,none⟩=some (.bool rst):=by rw[Lib.cell_of_heap hb1];rfl
  have q11:w1.cell? ⟨w.heap.size,11,none⟩=some (.bool rfi):=by rw[Lib.cell_of_heap hb1];rfl
  have q12:w1.cell? ⟨w.heap.size,12,none⟩=some (.slice rbo rbe.length rbc):=by rw[Lib.cell_of_heap hb1];rfl
  have q13:w1.cell? ⟨w.heap.size,13,none⟩=some (.slice rso rsr.length rsc):=by rw[Lib.cell_of_heap hb1];rfl
  have q14:w1.cell? ⟨w.heap.size,14,none⟩=some (.slice rao raf.length rac):=by rw[Lib.cell_of_heap hb1];rfl
  have q15:w1.cell? ⟨w.heap.size,15,none⟩=some (.int .i64 rcu):=by rw[Lib.cell_of_heap hb1];rfl
  have HB1:Hid (Below w.heap.size w w1):=B1;clear b1 hb1 B1;cases gl with
  | false =>
   go_wp2;go_ret
   exact⟨L.zak (by rw[<- HF.out];simp),HB1.out⟩
  | true =>
   go_wp2_with fail
   refine(HgR.out _ HB1.out).mono ?_;rintro e w2 ⟨rfl,b2⟩;have HB2:Hid (Below w.heap.size w w2):=HB1.out.trans (b2.mono HB1.out.size);clear b2;go_wp2;go_ret;exact⟨L.zak (by rw[<- HF.out];simp),HB2.out⟩
end Go.Proofs.YtgbhkkojkpndmaaGreatDoor
namespace Go.Proofs.YtgbhkkojkpndmaaGreatDoor
open Go.RowKit
theorem zq2 {s:R.Side}{m:Bool}(h:R.sideE s m=0):s.source.length<=20:=(R.zbu.1 (R.zcp h).2.1).1
theorem zgf (w:World)(v:Value)(p:R.Part)(R0:R.PtIs w v p) :
  Calls Tryz.prog 102 #[v] w fun e w'=>e= .returned (.int .i64 (R.ruleE p))/\Below w.heap.size w w':=by
 have HP:Hid (∀w1,Below w.heap.size w w1->p.left.source.length<=20->p.right.source.length<=20->(p.dir=1∨p.dir=2∨p.dir=3)->Calls Tryz.prog 126 #[v] w1 fun e w'=>e= .returned (.bool (R.fits p))/\Below w1.heap.size w1 w'):=fun w1 hb h1 h2 h3=>zqn w1 v p (R0.below hb) h1 h2 h3
 obtain⟨so,sc,lbo,lbc,lso,lsc,lao,lac,rbo,rbc,rso,rsc,rao,rac,rfl,_,_,hL,hR,_,_⟩:=R0.open;clear R0;have HA:Hid (∀o,Below w.heap.size w (w.alloc o)):=fun o=>(qR w).alloc qN o
 have HL:Hid (∀w1 m,Below w.heap.size w w1->Calls Tryz.prog 125 #[.agg #[.bool p.left.start,.bool p.left.fin,.slice lbo p.left.before.length lbc,.slice lso p.left.source.length lsc,.slice lao p.left.after.length lac,.int .i64 p.left.cursor],.bool m] w1 fun e w'=>e= .returned (.int .i64 (R.sideE p.left m))/\Below w1.heap.size w1 w'):=zev hL;have HR:Hid (∀w1 m,Below w.heap.size w w1->Calls Tryz.prog 125 #[.agg #[.bool p.right.start,.bool p.right.fin,.slice rbo p.right.before.length rbc,.slice rso p.right.source.length rsc,.slice rao p.right.after.length rac,.int .i64 p.right.cursor],.bool m] w1 fun e w'=>e= .returned (.int .i64 (R.sideE p.right m))/\Below w1.heap.size w1 w'):=zev hR;clear hL hR;obtain⟨o,HO⟩:∃o,Hid (R.ruleE p=o):=⟨_,rfl⟩;rw[HO.out]
 by_cases hd:p.dir=1∨p.dir=2∨p.dir=3
 ·obtain⟨zl,HZl⟩:∃z,Hid (R.sideE p.left (decide (p.dir≠2))=z):=⟨_,rfl⟩;obtain⟨zr,HZr⟩:∃z,Hid (R.sideE p.right (decide (p.dir≠1))=z):=⟨_,rfl⟩;obtain⟨ft,HF⟩:∃z,Hid (R.fits p=z):=⟨_,rfl⟩
  have HE:Hid ((if zl≠0 then zl else if zr≠0 then zr else if ft=true then 0 else 8)=o):=by
   show _=_;rw[<- HO.out,<- HZl.out,<- HZr.out,<- HF.out];unfold R.ruleE;exact(if_neg (by omega)).symm
  have HLd:Hid (∀w1,Below w.heap.size w w1->Calls Tryz.prog 125 #[.agg #[.bool p.left.start,.bool p.left.fin,.slice lbo p.left.before.length lbc,.slice lso p.left.source.length lsc,.slice lao p.left.after.length lac,.int .i64 p.left.cursor],.bool (decide (p.dir≠2))] w1 fun e w'=>e= .returned (.int .i64 zl)/\Below w1.heap.size w1 w'):=fun w1 hb=>by
   have:=HL.out w1 (decide (p.dir≠2)) hb;rw[HZl.out] at this;exact this
  have HRd:Hid (∀w1,Below w.heap.size w w1->Calls Tryz.prog 125 #[.agg #[.bool p.right.start,.bool p.right.fin,.slice rbo p.right.before.length rbc,.slice rso p.right.source.length rsc,.slice rao p.right.after.length rac,.int .i64 p.right.cursor],.bool (decide (p.dir≠1))] w1 fun e w'=>e= .returned (.int .i64 zr)/\Below w1.heap.size w1 w'):=fun w1 hb=>by
   have:=HR.out w1 (decide (p.dir≠1)) hb;rw[HZr.out] at this;exact this
  have HFd:Hid (zl=0->zr=0->∀w1,Below w.heap.size w w1->Calls Tryz.prog 126 #[.agg #[.int .i64 p.kind,.string p.name,.slice so p.set.length sc,.int .i64 p.dir,.bool p.left.start,.bool p.left.fin,.slice lbo p.left.before.length lbc,.slice lso p.left.source.length lsc,.slice lao p.left.after.length lac,.int .i64 p.left.cursor,.bool p.right.start,.bool p.right.fin,.slice rbo p.right.before.length rbc,.slice rso p.right.source.length rsc,.slice rao p.right.after.length rac,.int .i64 p.right.cursor]] w1 fun e w'=>e= .returned (.bool ft)/\Below w1.heap.size w1 w'):=fun h1 h2 w1 hb=>by
   rw[<- HF.out];exact HP.out w1 hb (zq2 (by rw[<- h1];exact HZl.out)) (zq2 (by rw[<- h2];exact HZr.out)) hd
  clear HP HL HR HO HZl HZr HF;obtain⟨pk,pn,ps,pd,⟨lst,lfi,lbe,lsr,laf,lcu⟩,⟨rst,rfi,rbe,rsr,raf,rcu⟩⟩:=p;simp only at hd HLd HRd HFd ⊢;have hdd:(pd==1)=decide (pd=1)/\(pd==2)=decide (pd=2):=⟨rfl,rfl⟩;rcases hd with rfl | rfl | rfl
  all_goals
   go_enter Tryz.func102,Tryz.ntmps102
   go_wp2_with fail
   refine(HLd.out _ (HA.out _)).mono ?_;rintro e w1 ⟨rfl,b1⟩;obtain⟨hb1,B1,hl1⟩:=R.zby b1;have q3:=R.zah (i:=3) hb1 rfl;have q10:w1.cell? ⟨w.heap.size,10,none⟩=some (.bool rst):=by rw[Lib.cell_of_heap hb1];rfl
   have q11:w1.cell? ⟨w.heap.size,11,none⟩=some (.bool rfi):=by rw[Lib.cell_of_heap hb1];rfl
   have q12:w1.cell? ⟨w.heap.size,12,none⟩=some (.slice rbo rbe.length rbc):=by rw[Lib.cell_of_heap hb1];rfl
   have q13:w1.cell? ⟨w.heap.size,13,none⟩=some (.slice rso rsr.length rsc):=by rw[Lib.cell_of_heap hb1];rfl
   have q14:w1.cell? ⟨w.heap.size,14,none⟩=some (.slice rao raf.length rac):=by rw[Lib.cell_of_heap hb1];rfl
   have q15:w1.cell? ⟨w.heap.size,15,none⟩=some (.int .i64 rcu):=by rw[Lib.cell_of_heap hb1];rfl
   have HK1:Hid _:=hb1;have HB1:Hid (Below w.heap.size w w1):=B1;clear b1 hb1 B1
   by_cases hz1:zl=0
   ·subst hz1
    go_wp2_with fail
    refine(HRd.out _ HB1.out).mono ?_;rintro e w2 ⟨rfl,b2⟩;have hb2:=R.zcn HK1.out b2;have HB2:Hid (Below w.heap.size w w2):=HB1.out.trans (b2.mono HB1.out.size);clear q3 q10 q11 q12 q13 q14 q15 HK1 b2;have p0:=R.zah (i:=0) hb2 rfl;have p1:=R.zah (i:=1) hb2 rfl;have p2:=R.zah (i:=2) hb2 rfl;have p3:=R.zah (i:=3) hb2 rfl;have p4:=R.zah (i:=4) hb2 rfl;have p5:=R.zah (i:=5) hb2 rfl;have p6:=R.zah (i:=6) hb2 rfl;have p7:=R.zah (i:=7) hb2 rfl;have p8:=R.zah (i:=8) hb2 rfl;have p9:=R.zah (i:=9) hb2 rfl;have p10:=R.zah (i:=10) hb2 rfl;have p11:=R.zah (i:=11) hb2 rfl;have p12:=R.zah (i:=12) hb2 rfl;have p13:=R.zah (i:=13) hb2 rfl;have p14:=R.zah (i:=14) hb2 rfl;have p15:=R.zah (i:=15) hb2 rfl;clear hb2
    by_cases hz2:zr=0
    ·subst hz2
     go_wp2_with fail
     refine(HFd.out (by trivial) (by trivial) _ HB2.out).mono ?_;rintro e w3 ⟨rfl,b3⟩;have HB3:Hid (Below w.heap.size w w3):=HB2.out.trans (b3.mono HB2.out.size);clear b3;cases ft with
     | true =>
      go_wp2;go_ret
      exact⟨by rw[<- HE.out];rfl,HB3.out⟩
     | false =>
      go_wp2;go_ret
      exact⟨by rw[<- HE.out];rfl,HB3.out⟩
    ·go_wp2;go_ret
     exact⟨by rw[<- HE.out];simp[hz2],HB2.out⟩
   ·go_wp2;go_ret
    exact⟨by rw[<- HE.out];simp[hz1],HB1.out⟩
 ·have HE:Hid ((1:Int)=o):=by
   show _=_;rw[<- HO.out];unfold R.ruleE;rw[if_pos (by omega)]
  clear HP HL HR HO;obtain⟨pk,pn,ps,pd,⟨lst,lfi,lbe,lsr,laf,lcu⟩,⟨rst,rfi,rbe,rsr,raf,rcu⟩⟩:=p;simp only at hd ⊢;have h1:(pd != 1)=true:=by simp;omega
  have h2:(pd != 2)=true:=by simp;omega
  have h3:(pd != 3)=true:=by simp;omega
  go_enter Tryz.func102,Tryz.ntmps102
  go_wp2;go_ret
  exact⟨by rw[<- HE.out];rfl,HA.out _⟩
theorem zda (w:World)(v:Value)(p:R.Part)(R0:R.PtIs w v p) :
  Calls Tryz.prog 75 #[v] w fun e w'=>e= .returned (.int .i64 (R.partE p))/\Below w.heap.size w w':=by
 have HP:Hid (∀w1,Below w.heap.size w w1->Calls Tryz.prog 102 #[v] w1 fun e w'=>e= .returned (.int .i64 (R.ruleE p))/\Below w1.heap.size w1 w'):=fun w1 hb=>zgf w1 v p (R0.below hb)
 obtain⟨so,sc,lbo,lbc,lso,lsc,lao,lac,rbo,rbc,rso,rsc,rao,rac,rfl,hS,hf,_,_,_,_⟩:=R0.open;clear R0;have HA:Hid (∀o,Below w.heap.size w (w.alloc o)):=fun o=>(qR w).alloc qN o
 have HW:Hid (∀w1,Below w.heap.size w w1->Calls Tryz.prog 47 #[.slice so p.set.length sc] w1 fun e w'=>e= .returned (.int .i64 (S.wrongE p.set))/\Below w1.heap.size w1 w'):=fun w1 hb=>zb1 w1 _ p.set (hS.below hb qN) hf
 clear hS hf;obtain⟨o,HO⟩:∃o,Hid (R.partE p=o):=⟨_,rfl⟩;rw[HO.out];obtain⟨pk,pn,ps,pd,⟨lst,lfi,lbe,lsr,laf,lcu⟩,⟨rst,rfi,rbe,rsr,raf,rcu⟩⟩:=p;simp only at HP HW ⊢;have hsz:∀(o:Obj),(w.alloc o).heap.size=w.heap.size+1:=fun o=>by simp
 have HSz:Hid (∀(o:Obj),(w.alloc o).heap.size=w.heap.size+1):=hsz;clear hsz
 by_cases h1:pk=1
 ·subst h1;cases hn:R.named pn with
  | true =>
   have HN:Hid (R.named pn=true):=hn;clear hn
   go_enter Tryz.func75,Tryz.ntmps75
   go_wp2_with fail
   refine(zdn pn _).mono ?_;rintro e w1 ⟨rfl,b1⟩;obtain⟨hb1,B1,hl1⟩:=R.zby b1;have q2:w1.cell? ⟨w.heap.size,2,none⟩=some (.slice so ps.length sc):=by rw[Lib.cell_of_heap hb1];rfl
   have HB1:Hid (Below w.heap.size w w1):=B1;clear b1 hb1 B1;rw[HN.out]
   go_wp2_with fail
   refine(HW.out _ HB1.out).mono ?_;rintro e w2 ⟨rfl,b2⟩;have HB2:Hid (Below w.heap.size w w2):=HB1.out.trans (b2.mono HB1.out.size);clear b2;go_wp2;go_ret;exact⟨by rw[<- HO.out];simp[R.partE,HN.out],HB2.out⟩
  | false =>
   have HN:Hid (R.named pn=false):=hn;clear hn
   go_enter Tryz.func75,Tryz.ntmps75
   go_wp2_with fail
   refine(zdn pn _).mono ?_;rintro e w1 ⟨rfl,b1⟩;obtain⟨hb1,B1,hl1⟩:=R.zby b1;have HB1:Hid (Below w.heap.size w w1):=B1;clear b1 hb1 B1;rw[HN.out];go_wp2;go_ret;exact⟨by rw[<- HO.out];simp[R.partE,HN.out],HB1.out⟩
 ·by_cases h3:pk=3
  ·subst h3
   go_enter Tryz.func75,Tryz.ntmps75
   go_wp2_with fail
   refine(HW.out _ (HA.out _)).mono ?_;rintro e w2 ⟨rfl,b2⟩;have HB2:Hid (Below w.heap.size w w2):=(HA.out _).trans (b2.mono (by rw[HSz.out];omega));clear b2;go_wp2;go_ret;exact⟨by rw[<- HO.out];simp[R.partE],HB2.out⟩
  ·by_cases h4:pk=4
   ·subst h4;cases hn:R.passes pn with
    | true =>
     have HN:Hid (R.passes pn=true):=hn;clear hn
     go_enter Tryz.func75,Tryz.ntmps75
     go_wp2_with (go_at_call 101;refine(zd2 pn _).mono ?_;rintro e w1 ⟨rfl,rfl⟩;rw[HN.out])
     go_ret;exact⟨by rw[<- HO.out];simp[R.partE,HN.out],HA.out _⟩
    | false =>
     have HN:Hid (R.passes pn=false):=hn;clear hn
     go_enter Tryz.func75,Tryz.ntmps75
     go_wp2_with (go_at_call 101;refine(zd2 pn _).mono ?_;rintro e w1 ⟨rfl,rfl⟩;rw[HN.out])
     go_ret;exact⟨by rw[<- HO.out];simp[R.partE,HN.out],HA.out _⟩
   ·by_cases h2:pk=2
    ·subst h2
     go_enter Tryz.func75,Tryz.ntmps75
     go_wp2_with fail
     refine(HP.out _ (HA.out _)).mono ?_;rintro e w2 ⟨rfl,b2⟩;have HB2:Hid (Below w.heap.size w w2):=(HA.out _).trans (b2.mono (by rw[HSz.out];omega));clear b2;go_wp2;go_ret;exact⟨by rw[<- HO.out];simp[R.partE],HB2.out⟩
    ·go_enter Tryz.func75,Tryz.ntmps75
     go_wp2;go_ret
     exact⟨by rw[<- HO.out];simp[R.partE,h1,h2,h3,h4],HA.out _⟩
theorem zh7 (w:World)(v:Value)(l:List R.Part)(R0:R.Pts w v l) :
  Calls Tryz.prog 76 #[v] w fun e w'=>e= .returned (.agg #[.int .i64 (R.wrong l).1,.int .i64 (R.wrong l).2])/\Below w.heap.size w w':=by
 have HR:Hid (R.Pts w v l):=R0;obtain⟨ao,cap,rfl⟩:=R0.len;clear R0;have HA:Hid (∀o,Below w.heap.size w (w.alloc o)):=fun o=>(qR w).alloc qN o
 unfold R.wrong
 by_cases hbig:200<l.length
 ·rw[if_pos hbig]
  go_enter Tryz.func76,Tryz.ntmps76
  go_wp2;refine bodyPost_ret (v:= .agg #[.int .i64 5,.int .i64 0]) (by simp[results,Tryz.results76,go_sem]) rfl ?_
  exact⟨rfl,HA.out _⟩
 ·rw[if_neg hbig];obtain⟨⟨o1,o2⟩,HO⟩:∃o,Hid (R.firstW 0 l=o):=⟨_,rfl⟩;rw[HO.out]
  go_enter Tryz.func76,Tryz.ntmps76
  go_wp2
  go_loopw [12] (fun i wr=>∃k:Nat,k<=l.length/\i= .int .i64 k/\Hid (R.firstW k (l.drop k)=(o1,o2))/\Hid (Below w.heap.size w wr)/\Hid (wr.heap[w.heap.size]?=some (.cells #[.int .i64 0,.int .i64 0] 48))) (fun i _=>l.length - (intOf i).toNat)
  case atStart=>exact⟨0,Nat.zero_le _,rfl,HO,HA.out _,heap_alloc_new w _⟩
  case round =>
   obtain⟨k,hk,rfl,HE,HB,HX⟩:=hrel;have hX:=HX.out
   by_cases hlt:k<l.length
   ·obtain⟨p,hp⟩:∃x,l[k]?=some x:=⟨l[k],by simp[hlt]⟩;obtain⟨ao',cap',e',hcs⟩:=HR.out.below HB.out;cases e';obtain⟨b,off,rfl,hcell⟩:=hcs (by intro h;subst h;simp at hlt);obtain⟨so,sc,lbo,lbc,lso,lsc,lao,lac,rbo,rbc,rso,rsc,rao,rac,c0,c1,c2,c3,c4,c5,c6,c7,c8,c9,c10,c11,c12,c13,c14,c15,hP⟩:=hcell k p hp;have HE2:Hid (R.firstW k (l.drop k)=if R.partE p=0 then R.firstW (k+1) (l.drop (k+1)) else (R.partE p,k)):=R.zjc hp;have hsz:=HB.out.size;have HW:Hid (∀o,Calls Tryz.prog 75 #[.agg #[.int .i64 p.kind,.string p.name,.slice so p.set.length sc,.int .i64 p.dir,.bool p.left.start,.bool p.left.fin,.slice lbo p.left.before.length lbc,.slice lso p.left.source.length lsc,.slice lao p.left.after.length lac,.int .i64 p.left.cursor,.bool p.right.start,.bool p.right.fin,.slice rbo p.right.before.length rbc,.slice rso p.right.source.length rsc,.slice rao p.right.after.length rac,.int .i64 p.right.cursor]] (wr.alloc o) fun e w'=>e= .returned (.int .i64 (R.partE p))/\Below (wr.alloc o).heap.size (wr.alloc o) w'):=fun o=>zda _ _ p (hP.keeps (R.Keeps.alloc wr o))
    obtain⟨z,HZ⟩:∃z,Hid (R.partE p=z):=⟨_,rfl⟩;rw[HZ.out] at HW HE2;clear hp hcell hcs hP hX;obtain⟨pk,pn,ps,pd,⟨lst,lfi,lbe,lsr,laf,lcu⟩,⟨rst,rfi,rbe,rsr,raf,rcu⟩⟩:=p;simp only at c0 c1 c2 c3 c4 c5 c6 c7 c8 c9 c10 c11 c12 c13 c14 c15 HW
    go_wp2_with fail
    refine(HW.out _).mono ?_;rintro e w1 ⟨rfl,b1⟩;obtain⟨_,B1,hl1⟩:=R.zby b1
    have hX1:w1.heap[w.heap.size]?=some (.cells #[.int .i64 0,.int .i64 0] 48):=by
     rw[B1.block _ (qA.1 HX.out).1];exact HX.out
    have HB1:Hid (Below w.heap.size w w1):=HB.out.trans (B1.mono hsz);have HX1:Hid _:=hX1;obtain⟨x0,x1,f0,f1⟩:=R.box2 hX1;clear b1 B1 hX1
    by_cases hz:z=0
    ·subst hz;go_wp2
     go_roundw
     case rel=>exact⟨k+1,by omega,by go_num,by show _=_;rw[<- HE.out,HE2.out];simp,HB1,HX1⟩
     case measure=>simp[intOf];omega
    ·go_wp2;refine bodyPost_ret (v:= .agg #[.int .i64 z,.int .i64 k]) (by simp[results,Tryz.results76,go_sem, *]) rfl ?_
     have h:=HE2.out;rw[HE.out,if_neg hz] at h;cases h;exact⟨rfl,(HB1.out.setCell (p:=⟨w.heap.size,0,none⟩) qN _).setCell (p:=⟨w.heap.size,1,none⟩) qN _⟩
   ·obtain⟨x0,x1,f0,f1⟩:=R.box2 hX;have h:=HE.out;rw[List.drop_eq_nil_of_le (by omega)] at h;cases h;go_wp2;refine bodyPost_ret (v:= .agg #[.int .i64 0,.int .i64 0]) (by simp[results,Tryz.results76,go_sem, *]) rfl ?_;exact⟨rfl,(HB.out.setCell (p:=⟨w.heap.size,0,none⟩) qN _).setCell (p:=⟨w.heap.size,1,none⟩) qN _⟩
end Go.Proofs.YtgbhkkojkpndmaaGreatDoor
