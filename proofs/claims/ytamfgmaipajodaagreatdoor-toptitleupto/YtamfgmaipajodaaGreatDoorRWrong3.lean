/-
 What is wrong with rules, parts and files: package rulesyn's answers.
-/
import Derived.Test.YtamfgmaipajodaaGreatDoorRWrong2
set_option maxHeartbeats 0
namespace Go.Proofs.YtamfgmaipajodaaGreatDoor
open Go.RowKit
set_option maxRecDepth 20000
set_option linter.unusedSimpArgs false
set_option linter.unusedVariables false
theorem zs9 {s:R.Side}{m:Bool}(h:R.sideE s m=0):s.source.length<=20:=(R.zbt.1 (R.zcj h).2.1).1
theorem zgc (w:World)(v:Value)(p:R.Part)(R0:R.PtIs w v p) :
  Calls Tryz.prog 191 #[v] w fun e w'=>e= .returned (.int .i64 (R.ruleE p))/\Below w.heap.size w w':=by
 have HP:Hid (∀w1,Below w.heap.size w w1->p.left.source.length<=20->p.right.source.length<=20->(p.dir=1∨p.dir=2∨p.dir=3)->Calls Tryz.prog 212 #[v] w1 fun e w'=>e= .returned (.bool (R.fits p))/\Below w1.heap.size w1 w'):=fun w1 hb h1 h2 h3=>zso w1 v p (R0.below hb) h1 h2 h3
 obtain⟨so,sc,lbo,lbc,lso,lsc,lao,lac,rbo,rbc,rso,rsc,rao,rac,rfl,_,_,hL,hR,_,_⟩:=R0.open;clear R0;have HA:Hid (∀o,Below w.heap.size w (w.alloc o)):=fun o=>(qR w).alloc qN o
 have HL:Hid (∀w1 m,Below w.heap.size w w1->Calls Tryz.prog 211 #[.agg #[.bool p.left.start,.bool p.left.fin,.slice lbo p.left.before.length lbc,.slice lso p.left.source.length lsc,.slice lao p.left.after.length lac,.int .i64 p.left.cursor],.bool m] w1 fun e w'=>e= .returned (.int .i64 (R.sideE p.left m))/\Below w1.heap.size w1 w'):=zer hL;have HR:Hid (∀w1 m,Below w.heap.size w w1->Calls Tryz.prog 211 #[.agg #[.bool p.right.start,.bool p.right.fin,.slice rbo p.right.before.length rbc,.slice rso p.right.source.length rsc,.slice rao p.right.after.length rac,.int .i64 p.right.cursor],.bool m] w1 fun e w'=>e= .returned (.int .i64 (R.sideE p.right m))/\Below w1.heap.size w1 w'):=zer hR;clear hL hR;obtain⟨o,HO⟩:∃o,Hid (R.ruleE p=o):=⟨_,rfl⟩;rw[HO.out]
 by_cases hd:p.dir=1∨p.dir=2∨p.dir=3
 ·obtain⟨zl,HZl⟩:∃z,Hid (R.sideE p.left (decide (p.dir≠2))=z):=⟨_,rfl⟩;obtain⟨zr,HZr⟩:∃z,Hid (R.sideE p.right (decide (p.dir≠1))=z):=⟨_,rfl⟩;obtain⟨ft,HF⟩:∃z,Hid (R.fits p=z):=⟨_,rfl⟩
  have HE:Hid ((if zl≠0 then zl else if zr≠0 then zr else if ft=true then 0 else 8)=o):=by
   show _=_;rw[<- HO.out,<- HZl.out,<- HZr.out,<- HF.out];unfold R.ruleE;exact(if_neg (by omega)).symm
  have HLd:Hid (∀w1,Below w.heap.size w w1->Calls Tryz.prog 211 #[.agg #[.bool p.left.start,.bool p.left.fin,.slice lbo p.left.before.length lbc,.slice lso p.left.source.length lsc,.slice lao p.left.after.length lac,.int .i64 p.left.cursor],.bool (decide (p.dir≠2))] w1 fun e w'=>e= .returned (.int .i64 zl)/\Below w1.heap.size w1 w'):=fun w1 hb=>by
   have:=HL.out w1 (decide (p.dir≠2)) hb;rw[HZl.out] at this;exact this
  have HRd:Hid (∀w1,Below w.heap.size w w1->Calls Tryz.prog 211 #[.agg #[.bool p.right.start,.bool p.right.fin,.slice rbo p.right.before.length rbc,.slice rso p.right.source.length rsc,.slice rao p.right.after.length rac,.int .i64 p.right.cursor],.bool (decide (p.dir≠1))] w1 fun e w'=>e= .returned (.int .i64 zr)/\Below w1.heap.size w1 w'):=fun w1 hb=>by
   have:=HR.out w1 (decide (p.dir≠1)) hb;rw[HZr.out] at this;exact this
  have HFd:Hid (zl=0->zr=0->∀w1,Below w.heap.size w w1->Calls Tryz.prog 212 #[.agg #[.int .i64 p.kind,.string p.name,.slice so p.set.length sc,.int .i64 p.dir,.bool p.left.start,.bool p.left.fin,.slice lbo p.left.before.length lbc,.slice lso p.left.source.length lsc,.slice lao p.left.after.length lac,.int .i64 p.left.cursor,.bool p.right.start,.bool p.right.fin,.slice rbo p.right.before.length rbc,.slice rso p.right.source.length rsc,.slice rao p.right.after.length rac,.int .i64 p.right.cursor]] w1 fun e w'=>e= .returned (.bool ft)/\Below w1.heap.size w1 w'):=fun h1 h2 w1 hb=>by
   rw[<- HF.out];exact HP.out w1 hb (zs9 (by rw[<- h1];exact HZl.out)) (zs9 (by rw[<- h2];exact HZr.out)) hd
  clear HP HL HR HO HZl HZr HF;obtain⟨pk,pn,ps,pd,⟨lst,lfi,lbe,lsr,laf,lcu⟩,⟨rst,rfi,rbe,rsr,raf,rcu⟩⟩:=p;simp only at hd HLd HRd HFd ⊢;have hdd:(pd==1)=decide (pd=1)/\(pd==2)=decide (pd=2):=⟨rfl,rfl⟩;rcases hd with rfl | rfl | rfl
  all_goals
   go_enter Tryz.func191,Tryz.ntmps191
   go_wp2_with fail
   refine(HLd.out _ (HA.out _)).mono ?_;rintro e w1 ⟨rfl,b1⟩;obtain⟨hb1,B1,hl1⟩:=R.zby b1;have q3:=R.zah (i:=3) hb1 rfl;have q10:w1.cell? ⟨w.heap.size,10,none⟩=some (.bool rst):=by rw[Lib.cell_of_heap hb1];rfl
   have q11:w1.cell? ⟨w.heap.size,11,none⟩=some (.bool rfi):=by rw[Lib.cell_of_heap hb1];rfl
   have q12:w1.cell? ⟨w.heap.size,12,none⟩=some (.slice rbo rbe.length rbc):=by rw[Lib.cell_of_heap hb1];rfl
   have q13:w1.cell? ⟨w.heap.size,13,none⟩=some (.slice rso rsr.length rsc):=by rw[Lib.cell_of_heap hb1];rfl
   have q14:w1.cell? ⟨w.heap.size,14,none⟩=some (.slice rao raf.length rac):=by rw[Lib.cell_of_heap hb1];rfl
   have q15:w1.cell? ⟨w.heap.size,15,none⟩=some (.int .i64 rcu):=by rw[Lib.cell_of_heap hb1];rfl
   have HK1:Hid _:=hb1;have HB1:Hid (Below w.heap.size w w1):=B1;clear b1 hb1 B1
   by_cases hz1:zl=0
   ·subst hz1
    go_wp2_with fail
    refine(HRd.out _ HB1.out).mono ?_;rintro e w2 ⟨rfl,b2⟩;have hb2:=R.zch HK1.out b2;have HB2:Hid (Below w.heap.size w w2):=HB1.out.trans (b2.mono HB1.out.size);clear q3 q10 q11 q12 q13 q14 q15 HK1 b2;have p0:=R.zah (i:=0) hb2 rfl;have p1:=R.zah (i:=1) hb2 rfl;have p2:=R.zah (i:=2) hb2 rfl;have p3:=R.zah (i:=3) hb2 rfl;have p4:=R.zah (i:=4) hb2 rfl;have p5:=R.zah (i:=5) hb2 rfl;have p6:=R.zah (i:=6) hb2 rfl;have p7:=R.zah (i:=7) hb2 rfl;have p8:=R.zah (i:=8) hb2 rfl;have p9:=R.zah (i:=9) hb2 rfl;have p10:=R.zah (i:=10) hb2 rfl;have p11:=R.zah (i:=11) hb2 rfl;have p12:=R.zah (i:=12) hb2 rfl;have p13:=R.zah (i:=13) hb2 rfl;have p14:=R.zah (i:=14) hb2 rfl;have p15:=R.zah (i:=15) hb2 rfl;clear hb2
    by_cases hz2:zr=0
    ·subst hz2
     go_wp2_with fail
     refine(HFd.out (by trivial) (by trivial) _ HB2.out).mono ?_;rintro e w3 ⟨rfl,b3⟩;have HB3:Hid (Below w.heap.size w w3):=HB2.out.trans (b3.mono HB2.out.size);clear b3;cases ft with
     | true =>
      go_wp2;go_ret
      exact⟨by rw[<- HE.out];rfl,HB3.out⟩
     | false =>
      go_wp2;go_ret
      exact⟨by rw[<- HE.out];rfl,HB3.out⟩
    ·go_wp2;go_ret
     exact⟨by rw[<- HE.out];simp[hz2],HB2.out⟩
   ·go_wp2;go_ret
    exact⟨by rw[<- HE.out];simp[hz1],HB1.out⟩
 ·have HE:Hid ((1:Int)=o):=by
   show _=_;rw[<- HO.out];unfold R.ruleE;rw[if_pos (by omega)]
  clear HP HL HR HO;obtain⟨pk,pn,ps,pd,⟨lst,lfi,lbe,lsr,laf,lcu⟩,⟨rst,rfi,rbe,rsr,raf,rcu⟩⟩:=p;simp only at hd ⊢;have h1:(pd != 1)=true:=by simp;omega
  have h2:(pd != 2)=true:=by simp;omega
  have h3:(pd != 3)=true:=by simp;omega
  go_enter Tryz.func191,Tryz.ntmps191
  go_wp2;go_ret
  exact⟨by rw[<- HE.out];rfl,HA.out _⟩
theorem zc8 (w:World)(v:Value)(p:R.Part)(R0:R.PtIs w v p) :
  Calls Tryz.prog 156 #[v] w fun e w'=>e= .returned (.int .i64 (R.partE p))/\Below w.heap.size w w':=by
 have HP:Hid (∀w1,Below w.heap.size w w1->Calls Tryz.prog 191 #[v] w1 fun e w'=>e= .returned (.int .i64 (R.ruleE p))/\Below w1.heap.size w1 w'):=fun w1 hb=>zgc w1 v p (R0.below hb)
 obtain⟨so,sc,lbo,lbc,lso,lsc,lao,lac,rbo,rbc,rso,rsc,rao,rac,rfl,hS,hf,_,_,_,_⟩:=R0.open;clear R0;have HA:Hid (∀o,Below w.heap.size w (w.alloc o)):=fun o=>(qR w).alloc qN o
 have HW:Hid (∀w1,Below w.heap.size w w1->Calls Tryz.prog 64 #[.slice so p.set.length sc] w1 fun e w'=>e= .returned (.int .i64 (S.wrongE p.set))/\Below w1.heap.size w1 w'):=fun w1 hb=>zbq w1 _ p.set (hS.below hb qN) hf
 clear hS hf;obtain⟨o,HO⟩:∃o,Hid (R.partE p=o):=⟨_,rfl⟩;rw[HO.out];obtain⟨pk,pn,ps,pd,⟨lst,lfi,lbe,lsr,laf,lcu⟩,⟨rst,rfi,rbe,rsr,raf,rcu⟩⟩:=p;simp only at HP HW ⊢;have hsz:∀(o:Obj),(w.alloc o).heap.size=w.heap.size+1:=fun o=>by simp
 have HSz:Hid (∀(o:Obj),(w.alloc o).heap.size=w.heap.size+1):=hsz;clear hsz
 by_cases h1:pk=1
 ·subst h1;cases hn:R.named pn with
  | true =>
   have HN:Hid (R.named pn=true):=hn;clear hn
   go_enter Tryz.func156,Tryz.ntmps156
   go_wp2_with fail
   refine(zdl pn _).mono ?_;rintro e w1 ⟨rfl,b1⟩;obtain⟨hb1,B1,hl1⟩:=R.zby b1;have q2:w1.cell? ⟨w.heap.size,2,none⟩=some (.slice so ps.length sc):=by rw[Lib.cell_of_heap hb1];rfl
   have HB1:Hid (Below w.heap.size w w1):=B1;clear b1 hb1 B1;rw[HN.out]
   go_wp2_with fail
   refine(HW.out _ HB1.out).mono ?_;rintro e w2 ⟨rfl,b2⟩;have HB2:Hid (Below w.heap.size w w2):=HB1.out.trans (b2.mono HB1.out.size);clear b2;go_wp2;go_ret;exact⟨by rw[<- HO.out];simp[R.partE,HN.out],HB2.out⟩
  | false =>
   have HN:Hid (R.named pn=false):=hn;clear hn
   go_enter Tryz.func156,Tryz.ntmps156
   go_wp2_with fail
   refine(zdl pn _).mono ?_;rintro e w1 ⟨rfl,b1⟩;obtain⟨hb1,B1,hl1⟩:=R.zby b1;have HB1:Hid (Below w.heap.size w w1):=B1;clear b1 hb1 B1;rw[HN.out];go_wp2;go_ret;exact⟨by rw[<- HO.out];simp[R.partE,HN.out],HB1.out⟩
 ·by_cases h3:pk=3
  ·subst h3
   go_enter Tryz.func156,Tryz.ntmps156
   go_wp2_with fail
   refine(HW.out _ (HA.out _)).mono ?_;rintro e w2 ⟨rfl,b2⟩;have HB2:Hid (Below w.heap.size w w2):=(HA.out _).trans (b2.mono (by rw[HSz.out];omega));clear b2;go_wp2;go_ret;exact⟨by rw[<- HO.out];simp[R.partE],HB2.out⟩
  ·by_cases h4:pk=4
   ·subst h4;cases hn:R.passes pn with
    | true =>
     have HN:Hid (R.passes pn=true):=hn;clear hn
     go_enter Tryz.func156,Tryz.ntmps156
     go_wp2_with (go_at_call 190;refine(zd1 pn _).mono ?_;rintro e w1 ⟨rfl,rfl⟩;rw[HN.out])
     go_ret;exact⟨by rw[<- HO.out];simp[R.partE,HN.out],HA.out _⟩
    | false =>
     have HN:Hid (R.passes pn=false):=hn;clear hn
     go_enter Tryz.func156,Tryz.ntmps156
     go_wp2_with (go_at_call 190;refine(zd1 pn _).mono ?_;rintro e w1 ⟨rfl,rfl⟩;rw[HN.out])
     go_ret;exact⟨by rw[<- HO.out];simp[R.partE,HN.out],HA.out _⟩
   ·by_cases h2:pk=2
    ·subst h2
     go_enter Tryz.func156,Tryz.ntmps156
     go_wp2_with fail
     refine(HP.out _ (HA.out _)).mono ?_;rintro e w2 ⟨rfl,b2⟩;have HB2:Hid (Below w.heap.size w w2):=(HA.out _).trans (b2.mono (by rw[HSz.out];omega));clear b2;go_wp2;go_ret;exact⟨by rw[<- HO.out];simp[R.partE],HB2.out⟩
    ·go_enter Tryz.func156,Tryz.ntmps156
     go_wp2;go_ret
     exact⟨by rw[<- HO.out];simp[R.partE,h1,h2,h3,h4],HA.out _⟩
theorem zii (w:World)(v:Value)(l:List R.Part)(R0:R.Pts w v l) :
  Calls Tryz.prog 110 #[v] w fun e w'=>e= .returned (.agg #[.int .i64 (R.wrong l).1,.int .i64 (R.wrong l).2])/\Below w.heap.size w w':=by
 have HR:Hid (R.Pts w v l):=R0;obtain⟨ao,cap,rfl⟩:=R0.len;clear R0;have HA:Hid (∀o,Below w.heap.size w (w.alloc o)):=fun o=>(qR w).alloc qN o
 unfold R.wrong
 by_cases hbig:200<l.length
 ·rw[if_pos hbig]
  go_enter Tryz.func110,Tryz.ntmps110
  go_wp2;refine bodyPost_ret (v:= .agg #[.int .i64 5,.int .i64 0]) (by simp[results,Tryz.results110,go_sem]) rfl ?_
  exact⟨rfl,HA.out _⟩
 ·rw[if_neg hbig];obtain⟨⟨o1,o2⟩,HO⟩:∃o,Hid (R.firstW 0 l=o):=⟨_,rfl⟩;rw[HO.out]
  go_enter Tryz.func110,Tryz.ntmps110
  go_wp2
  go_loopw [12] (fun i wr=>∃k:Nat,k<=l.length/\i= .int .i64 k/\Hid (R.firstW k (l.drop k)=(o1,o2))/\Hid (Below w.heap.size w wr)/\Hid (wr.heap[w.heap.size]?=some (.cells #[.int .i64 0,.int .i64 0] 38))) (fun i _=>l.length - (intOf i).toNat)
  case atStart=>exact⟨0,Nat.zero_le _,rfl,HO,HA.out _,heap_alloc_new w _⟩
  case round =>
   obtain⟨k,hk,rfl,HE,HB,HX⟩:=hrel;have hX:=HX.out
   by_cases hlt:k<l.length
   ·obtain⟨p,hp⟩:∃x,l[k]?=some x:=⟨l[k],by simp[hlt]⟩;obtain⟨ao',cap',e',hcs⟩:=HR.out.below HB.out;cases e';obtain⟨b,off,rfl,hcell⟩:=hcs (by intro h;subst h;simp at hlt);obtain⟨so,sc,lbo,lbc,lso,lsc,lao,lac,rbo,rbc,rso,rsc,rao,rac,c0,c1,c2,c3,c4,c5,c6,c7,c8,c9,c10,c11,c12,c13,c14,c15,hP⟩:=hcell k p hp;have HE2:Hid (R.firstW k (l.drop k)=if R.partE p=0 then R.firstW (k+1) (l.drop (k+1)) else (R.partE p,k)):=R.zjw hp;have hsz:=HB.out.size;have HW:Hid (∀o,Calls Tryz.prog 156 #[.agg #[.int .i64 p.kind,.string p.name,.slice so p.set.length sc,.int .i64 p.dir,.bool p.left.start,.bool p.left.fin,.slice lbo p.left.before.length lbc,.slice lso p.left.source.length lsc,.slice lao p.left.after.length lac,.int .i64 p.left.cursor,.bool p.right.start,.bool p.right.fin,.slice rbo p.right.before.length rbc,.slice rso p.right.source.length rsc,.slice rao p.right.after.length rac,.int .i64 p.right.cursor]] (wr.alloc o) fun e w'=>e= .returned (.int .i64 (R.partE p))/\Below (wr.alloc o).heap.size (wr.alloc o) w'):=fun o=>zc8 _ _ p (hP.keeps (R.Keeps.alloc wr o))
    obtain⟨z,HZ⟩:∃z,Hid (R.partE p=z):=⟨_,rfl⟩;rw[HZ.out] at HW HE2;clear hp hcell hcs hP hX;obtain⟨pk,pn,ps,pd,⟨lst,lfi,lbe,lsr,laf,lcu⟩,⟨rst,rfi,rbe,rsr,raf,rcu⟩⟩:=p;simp only at c0 c1 c2 c3 c4 c5 c6 c7 c8 c9 c10 c11 c12 c13 c14 c15 HW
    go_wp2_with fail
    refine(HW.out _).mono ?_;rintro e w1 ⟨rfl,b1⟩;obtain⟨_,B1,hl1⟩:=R.zby b1
    have hX1:w1.heap[w.heap.size]?=some (.cells #[.int .i64 0,.int .i64 0] 38):=by
     rw[B1.block _ (qA.1 HX.out).1];exact HX.out
    have HB1:Hid (Below w.heap.size w w1):=HB.out.trans (B1.mono hsz);have HX1:Hid _:=hX1;obtain⟨x0,x1,f0,f1⟩:=R.box2 hX1;clear b1 B1 hX1
    by_cases hz:z=0
    ·subst hz;go_wp2
     go_roundw
     case rel=>exact⟨k+1,by omega,by go_num,by show _=_;rw[<- HE.out,HE2.out];simp,HB1,HX1⟩
     case measure=>simp[intOf];omega
    ·go_wp2;refine bodyPost_ret (v:= .agg #[.int .i64 z,.int .i64 k]) (by simp[results,Tryz.results110,go_sem, *]) rfl ?_
     have h:=HE2.out;rw[HE.out,if_neg hz] at h;cases h;exact⟨rfl,(HB1.out.setCell (p:=⟨w.heap.size,0,none⟩) qN _).setCell (p:=⟨w.heap.size,1,none⟩) qN _⟩
   ·obtain⟨x0,x1,f0,f1⟩:=R.box2 hX;have h:=HE.out;rw[List.drop_eq_nil_of_le (by omega)] at h;cases h;go_wp2;refine bodyPost_ret (v:= .agg #[.int .i64 0,.int .i64 0]) (by simp[results,Tryz.results110,go_sem, *]) rfl ?_;exact⟨rfl,(HB.out.setCell (p:=⟨w.heap.size,0,none⟩) qN _).setCell (p:=⟨w.heap.size,1,none⟩) qN _⟩
end Go.Proofs.YtamfgmaipajodaaGreatDoor
