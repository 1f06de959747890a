/-
 scripttop.TopWritten: it returns true.
-/
import Derived.Test.YtmcljejgbikbhaaGreatDoorTpAlive
import Derived.Test.YtmcljejgbikbhaaGreatDoorRTell
import Derived.Test.YtmcljejgbikbhaaGreatDoorRBackP
import Derived.Test.YtmcljejgbikbhaaGreatDoorTWhole
import Derived.MapKept
import Derived.ChangeMaps4
set_option maxHeartbeats 0
set_option maxRecDepth 20000
namespace Go.Proofs.YtmcljejgbikbhaaGreatDoor
open Go.RowKit Go.Lib
set_option linter.unusedSimpArgs false
set_option linter.unusedVariables false
namespace Tp
theorem idle {w:World}{r:Nat}{x y:Value}{ty:TypeId}(h:w.heap[r]?=some (.cells #[x,y] ty)):Below w.heap.size w ((w.setCell ⟨r,0,none⟩ x).setCell ⟨r,1,none⟩ y):=by
 refine⟨rfl,rfl,rfl,by simp,fun k hk=> ?_⟩
 by_cases e:k=r
 ·subst e;rw[h];exact heap_setCell_same _ k 1 _ _ y (heap_setCell_same w k 0 _ _ x h)
 ·rw[heap_setCell_other _ ⟨r,1,none⟩ k y (by simpa using e),heap_setCell_other _ ⟨r,0,none⟩ k x (by simpa using e)]
def Got3 (w Z wx:World) (fb:Nat) (v:Value) (q:List Int×Int×Int):Prop :=
 wx.heap[fb]?=some (.cells #[.int .i64 q.2.1,.int .i64 q.2.2] 33)/\L.Rd wx v .i32 q.1/\(∀b,b<Z.heap.size->b≠fb->wx.heap[b]?=Z.heap[b]?)/\Z.heap.size<=wx.heap.size/\Below w.heap.size w wx
theorem got3 {w Z X:World}{fb:Nat}{v:Value}{q:List Int}{r1 r2:Int}(hw:Below w.heap.size w Z)(hb:Below Z.heap.size Z X)(hr:L.Rd X v .i32 q)(hf:X.heap[fb]?=some (.cells #[.int .i64 0,.int .i64 0] 33))(hfb:w.heap.size<=fb):Got3 w Z ((X.setCell ⟨fb,0,none⟩ (.int .i64 r1)).setCell ⟨fb,1,none⟩ (.int .i64 r2)) fb v (q,r1,r2):=by
 have hb1:=heap_setCell_same X fb 0 _ _ (.int .i64 r1) hf;have hb2:=heap_setCell_same _ fb 1 _ _ (.int .i64 r2) hb1;refine⟨hb2,K.zbr hr fun hz k hk=> ?_,fun b hb' hne=> ?_,by simp;exact hb.size,((hw.trans (hb.mono hw.size)).setCell (p:=⟨fb,0,none⟩) hfb _).setCell (p:=⟨fb,1,none⟩) hfb _⟩
 ·have hne:=K.zp0 hr hf hz k hk;rw[heap_setCell_other _ ⟨fb,1,none⟩ k _ hne,heap_setCell_other _ ⟨fb,0,none⟩ k _ hne]
 ·rw[heap_setCell_other _ ⟨fb,1,none⟩ b _ hne,heap_setCell_other _ ⟨fb,0,none⟩ b _ hne];exact hb.block b hb'
end Tp
theorem zgm (hK:T.ClassOk)(w:World)(hT:T.Tz w)(fs ts:ByteArray)(hfs:fs.size<=1099511627776)(hts:ts.size<=1099511627776) :
  Calls Tryz.prog 4 #[.string fs,.string ts] w fun e w'=>e= .returned (.bool true)/\Below w.heap.size w w':=by
 obtain⟨pl,hpl⟩:=Cn.zp9;have HDe:Hid (∀X,Calls Tryz.prog 11 #[.string ts] X fun e w'=>∃xo xc,e= .returned (.slice xo (M.rn ts).length xc)/\L.Rd w' (.slice xo (M.rn ts).length xc) .i32 (M.rn ts)/\(M.rn ts).length<=xc/\Below X.heap.size X w'):=fun X=>Tp.decode ts hts X
 have hrl:(M.rn ts).length<=140737488355328:=by have:=M.ziw ts;omega
 have HRd:Hid (∀X,Calls Tryz.prog 18 #[.string fs] X (R.readE (R.read (M.rn fs)) X)):=fun X=>zd1 hK fs hfs X
 have HPr:Hid (∀(l:List R.Part) (v:Value) (W:World),Below w.heap.size w W->R.Pts W v l->Calls Tryz.prog 19 #[v] W fun e w'=>e= .returned (R.printV l)/\Below W.heap.size W w'):=fun l v W hW hp=>zrt W v l hp (hT.below hW hT.lt)
 have HSc:Hid (∀s:ByteArray,s.size<=1099511627776->∀X,Calls Tryz.prog 10 #[.string s] X fun e w'=>∃v',e= .returned (.tuple #[v',.bool (Tp.scriptF (M.rn s)).2])/\V.Firm X.heap.size w' v' (Tp.scriptF (M.rn s)).1/\Below X.heap.size X w'):=fun s hs X=>zin hK s hs X
 have hfit:=Tp.zka (M.rn fs);generalize M.rn ts=t at *;clear hT
 go_enter Tryz.func4,Tryz.ntmps4
 go_wp2_with fail
 refine(zm1 hK w).mono ?_;rintro e w1 ⟨rfl,b1⟩;have HB1:Hid (Below w.heap.size w w1):=b1;clear b1
 go_wp2_with fail
 refine(HRd.out _).mono ?_;cases hrd:R.read (M.rn fs) with
 | bad er q =>
  have her:=R.zpx hrd;rintro e w2 ⟨rfl,b2⟩;have HB2:Hid (∀o,Below w.heap.size w (w2.alloc o)):=fun o=>(HB1.out.trans (b2.mono HB1.out.size)).alloc (by have:=b2.size;have:=HB1.out.size;omega) o
  clear b2;go_wp2;go_ret;exact⟨rfl,HB2.out _⟩
 | ok l q =>
  rintro e w2 ⟨v2,rfl,r2,hl2,b2⟩;have hB2:Below w.heap.size w w2:=HB1.out.trans (b2.mono HB1.out.size);have hsw:=HB1.out.size;have hs2:=b2.size;obtain⟨lo,lc,rfl⟩:=R.Row.slice r2;have hOk:∀p∈l,R.partE p=0:=fun p hp=>(R.zgx hrd p hp).1
  have hBare:l.map R.bareP=l:=(List.map_congr_left fun p hp=>(R.zgx hrd p hp).2).trans (List.map_id' _);have hwl:=R.zbc hl2 hOk;have htz:(⟨(R.printB l).toArray⟩:ByteArray).size<=1099511627776:=R.zpf hl2 hOk
  have HSame:Hid ((⟨(R.printB l).toArray⟩:ByteArray).size<=16000->Tp.scriptF (M.rn ⟨(R.printB l).toArray⟩)=Tp.scriptF (M.rn fs)):=fun h=>by
   obtain⟨q2,hq2⟩:=R.zpy hl2 hOk h;rw[hBare] at hq2;unfold Tp.scriptF;rw[hq2,hrd]
  obtain⟨X2,hX2⟩:∃X2,X2=w2.alloc (.cells #[.int .i64 0,.int .i64 0] 33):=⟨_,rfl⟩;have k2:=K.za1 (w:=w2) (qR (w2.alloc (.cells #[.int .i64 0,.int .i64 0] 33)));rw[<- hX2] at k2;have HX2:Hid (X2.heap[w2.heap.size]?=some (.cells #[.int .i64 0,.int .i64 0] 33)/\Below w.heap.size w X2/\w2.heap.size+1<=X2.heap.size):=⟨k2.1,hB2.trans (k2.2.1.mono hB2.size),k2.2.2⟩;have hpr:=HPr.out l (.slice lo l.length lc) X2 HX2.out.2.1 ((R.RowP.pts (R.Row.below r2 k2.2.1)).here);rw[R.zp6 hwl] at hpr;generalize (⟨(R.printB l).toArray⟩:ByteArray)=tl at *;have hw2:w.heap.size<=w2.heap.size:=by omega
  clear r2 b2 hB2 hOk hBare hwl k2 HPr HRd HB1 hrd
  go_wp2_with fail
  rw[<- hX2];refine hpr.mono ?_;clear hpr hX2;rintro e w3 ⟨rfl,b3⟩;have hb3:=K.zae HX2.out.1 b3;have hid:=Tp.idle hb3;obtain⟨W3,hW3⟩:∃W3,W3=(w3.setCell ⟨w2.heap.size,0,none⟩ (.int .i64 0)).setCell ⟨w2.heap.size,1,none⟩ (.int .i64 0):=⟨_,rfl⟩;rw[<- hW3] at hid;have hB3:Below w.heap.size w w3:=HX2.out.2.1.trans (b3.mono HX2.out.2.1.size);have HW3:Hid (W3.heap[w2.heap.size]?=some (.cells #[.int .i64 0,.int .i64 0] 33)/\Below w.heap.size w W3/\w2.heap.size+1<=W3.heap.size):=⟨K.zae hb3 hid,hB3.trans (hid.mono hB3.size),by have:=lt_of_block (K.zae hb3 hid);omega⟩;obtain⟨y0,y1,f0,f1⟩:=V.box2 hb3;have z0:W3.cell? ⟨w2.heap.size,0,none⟩=some (.int .i64 0):=K.zab HW3.out.1 rfl;have HScF:Hid (∀X,Calls Tryz.prog 10 #[.string fs] X fun e w'=>∃v',e= .returned (.tuple #[v',.bool (Tp.scriptF (M.rn fs)).2])/\V.Firm X.heap.size w' v' (Tp.scriptF (M.rn fs)).1/\Below X.heap.size X w'):=fun X=>HSc.out fs hfs X
  by_cases h16:tl.size<=16000
  ·have HScT:Hid (∀X,Calls Tryz.prog 10 #[.string tl] X fun e w'=>∃v',e= .returned (.tuple #[v',.bool (Tp.scriptF (M.rn fs)).2])/\V.Firm X.heap.size w' v' (Tp.scriptF (M.rn fs)).1/\Below X.heap.size X w'):=fun X=>by
    have h:=HSc.out tl htz X;rw[HSame.out h16] at h;exact h
   obtain⟨⟨sc,ok⟩,hsc⟩:∃o,Tp.scriptF (M.rn fs)=o:=⟨_,rfl⟩;rw[hsc] at HScF HScT hfit;simp only at HScF HScT hfit;have h16':¬(16000:Int)<(tl.size:Int):=by omega
   have hS3:=HScF.out W3;clear b3 hb3 hid hB3 HSame HSc hsc HX2
   go_upto_region 11 with fail
   rw[<- hW3];clear hW3 y0 y1 f0 f1 z0
   go_wp2_with fail
   go_at_call 10
   refine hS3.mono ?_;rintro e w4 ⟨v4,rfl,hF4,b4⟩;obtain⟨soo,soc,spo,spc,rfl,_⟩:=id hF4.here;obtain⟨X4,hX4⟩:∃X4,X4=w4.alloc (.cells #[.bool sc.has,.slice soo sc.only.length soc,.slice spo sc.passes.length spc] 26):=⟨_,rfl⟩;have k4:=K.za1 (w:=w4) (qR (w4.alloc (.cells #[.bool sc.has,.slice soo sc.only.length soc,.slice spo sc.passes.length spc] 26)));rw[<- hX4] at k4;have hB4:Below w.heap.size w w4:=HW3.out.2.1.trans (b4.mono HW3.out.2.1.size);have HX4:Hid (X4.heap[w4.heap.size]?=some (.cells #[.bool sc.has,.slice soo sc.only.length soc,.slice spo sc.passes.length spc] 26)/\X4.heap[w2.heap.size]?=some (.cells #[.int .i64 0,.int .i64 0] 33)/\Below w.heap.size w X4/\w4.heap.size+1<=X4.heap.size/\w2.heap.size+1<=W3.heap.size/\W3.heap.size<=w4.heap.size):=⟨k4.1,K.zae (K.zae HW3.out.1 b4) k4.2.1,hB4.trans (k4.2.1.mono hB4.size),k4.2.2,HW3.out.2.2,b4.size⟩;have HF4:Hid (V.Firm W3.heap.size X4 (.agg #[.bool sc.has,.slice soo sc.only.length soc,.slice spo sc.passes.length spc]) sc):=hF4.below k4.2.1;have hS4:=HScT.out X4;clear hF4 b4 k4 hB4 hS3 HScF HScT HW3
   go_upto_region 12 with fail
   rw[<- hX4];clear hX4
   go_wp2_with fail
   go_at_call 10
   refine hS4.mono ?_;rintro e w5 ⟨v5,rfl,hF5,b5⟩;obtain⟨uoo,uoc,upo,upc,rfl,_⟩:=id hF5.here;obtain⟨Z,hZ⟩:∃Z,Z=w5.alloc (.cells #[.bool sc.has,.slice uoo sc.only.length uoc,.slice upo sc.passes.length upc] 26):=⟨_,rfl⟩;have k5:=K.za1 (w:=w5) (qR (w5.alloc (.cells #[.bool sc.has,.slice uoo sc.only.length uoc,.slice upo sc.passes.length upc] 26)));rw[<- hZ] at k5;have hB5:Below w.heap.size w w5:=HX4.out.2.2.1.trans (b5.mono HX4.out.2.2.1.size);have hs45:=b5.size;have HZ:Hid (Z.heap[w4.heap.size]?=some (.cells #[.bool sc.has,.slice soo sc.only.length soc,.slice spo sc.passes.length spc] 26)/\Z.heap[w2.heap.size]?=some (.cells #[.int .i64 0,.int .i64 0] 33)/\Z.heap[w5.heap.size]?=some (.cells #[.bool sc.has,.slice uoo sc.only.length uoc,.slice upo sc.passes.length upc] 26)/\Below w.heap.size w Z/\w2.heap.size<X4.heap.size/\X4.heap.size<=w5.heap.size/\w2.heap.size<w4.heap.size/\w4.heap.size<w5.heap.size):=⟨K.zae (K.zae HX4.out.1 b5) k5.2.1,K.zae (K.zae HX4.out.2.1 b5) k5.2.1,k5.1,hB5.trans (k5.2.1.mono hB5.size),by have:=HX4.out.2.2.2;omega,hs45,by have:=HX4.out.2.2.2;omega,by have:=HX4.out.2.2.2;omega⟩;have HFs:Hid (V.ScIs Z (.agg #[.bool sc.has,.slice soo sc.only.length soc,.slice spo sc.passes.length spc]) sc):=((HF4.out.below b5).below k5.2.1).here;have HFu:Hid (V.Firm X4.heap.size Z (.agg #[.bool sc.has,.slice uoo sc.only.length uoc,.slice upo sc.passes.length upc]) sc):=hF5.below k5.2.1;have hZB:∀o,Below w.heap.size w (w5.alloc o):=fun o=>hB5.alloc hB5.size o
   have HZB:Hid (∀o,Below w.heap.size w (w5.alloc o)):=hZB;clear hF5 b5 k5 hB5 hS4 HF4 HX4 hZB;cases ok with
   | false =>
    clear HDe;go_wp2;go_ret;exact⟨by simp,HZB.out _⟩
   | true =>
    clear HZB;have HGa0:Hid (∀X xo xc,Tp.At Z X (w4.heap.size) (.bool sc.has) (.slice soo sc.only.length soc) (.slice spo sc.passes.length spc)->L.Rd X (.slice xo t.length xc) .i32 t->t.length<=xc->Calls Tryz.prog 12 #[.agg #[.bool sc.has,.slice soo sc.only.length soc,.slice spo sc.passes.length spc],.slice xo t.length xc] X fun e w'=>∃v',e= .returned (.tuple #[v',.agg #[.int .i64 (Cn.goF pl sc t).2.1,.int .i64 (Cn.goF pl sc t).2.2]])/\L.Rd w' v' .i32 (Cn.goF pl sc t).1/\Below X.heap.size X w'):=fun X xo xc hX hd hc=>zlh pl hpl X _ sc (HFs.out.below hX.1) hfit xo xc t hd hc hrl
    have HGb0:Hid (∀Y,Z.heap.size<=Y.heap.size->(∀b,b<Z.heap.size->b≠w2.heap.size->Y.heap[b]?=Z.heap[b]?)->∀X xo xc,Tp.At Y X (w5.heap.size) (.bool sc.has) (.slice uoo sc.only.length uoc) (.slice upo sc.passes.length upc)->L.Rd X (.slice xo t.length xc) .i32 t->t.length<=xc->Calls Tryz.prog 12 #[.agg #[.bool sc.has,.slice uoo sc.only.length uoc,.slice upo sc.passes.length upc],.slice xo t.length xc] X fun e w'=>∃v',e= .returned (.tuple #[v',.agg #[.int .i64 (Cn.goF pl sc t).2.1,.int .i64 (Cn.goF pl sc t).2.2]])/\L.Rd w' v' .i32 (Cn.goF pl sc t).1/\Below X.heap.size X w'):=fun Y h1 h2 X xo xc hX hd hc=>zlh pl hpl X _ sc ((HFu.out Y h1 fun b hb1 hb2=>h2 b hb2 (by have:=HZ.out.2.2.2.2.1;omega)).below hX.1) hfit xo xc t hd hc hrl
    have hlen:=Tp.zv5 hpl sc t;obtain⟨⟨ga,g1,g2⟩,hg⟩:∃g,Cn.goF pl sc t=g:=⟨_,rfl⟩;rw[hg] at HGa0 HGb0 hlen;simp only at HGa0 HGb0 hlen;have HGa:=HGa0;have HAta:Hid (Tp.At Z Z (w4.heap.size) (.bool sc.has) (.slice soo sc.only.length soc) (.slice spo sc.passes.length spc)):=⟨qR _,K.zab (i:=0) HZ.out.1 rfl,K.zab (i:=1) HZ.out.1 rfl,K.zab (i:=2) HZ.out.1 rfl⟩;have HKa:Hid (Tp.At Z Z.drew (w4.heap.size) (.bool sc.has) (.slice soo sc.only.length soc) (.slice spo sc.passes.length spc)):=HAta.out.drew;have HFb:Hid (Z.drew.heap[w2.heap.size]?=some (.cells #[.int .i64 0,.int .i64 0] 33)):=HZ.out.2.1;clear hg HGa0
    go_upto_region 15 with fail
    rw[<- hZ];clear hZ;obtain⟨_,a0,a1,a2⟩:=id HKa.out
    go_cut [12] (fun va wx=>Hid (Tp.Got3 w Z wx w2.heap.size va (ga,g1,g2)))
    case first =>
     go_region_with (first
      | (have hy:=k1;clear hy;go_at_call 12;refine(HGa.out _ _ _ k1 d1 hc1).mono ?_;rintro e wd2 ⟨vd2,rfl,d2,z2⟩;have k3:=k1.below z2;have r3:=K.zae r1 z2;obtain⟨y0,y1,ff0,ff1⟩:=V.box2 r3)
      | ((fail_if_success (have hy:=k1));go_at_call 11;refine(HDe.out _).mono ?_;rintro e wd1 ⟨xo1,xc1,rfl,d1,hc1,z1⟩;have k1:=HKa.out.below z1;have r1:=K.zae HFb.out z1;obtain⟨_,j0,j1,j2⟩:=id k1)
      | fail)
     all_goals
      have HM:Hid (Tp.Got3 w Z _ w2.heap.size _ (ga,g1,g2)):=Tp.got3 (r1:=g1) (r2:=g2) HZ.out.2.2.2.1 k3.1 d2 r3 hw2;clear k1 k3 d1 d2 z1 z2 r1 r3
      go_wp2_with fail
      go_meet
      case rel=>exact HM
    case rest =>
     obtain⟨hbox,hrdv,hkp,hsz,hbl⟩:=hcut.out;obtain⟨va,vc,rfl⟩:∃va vc,_=Value.slice va ga.length vc:=by obtain⟨a,c,h,_⟩:=hrdv;exact⟨a,c,h⟩
     have hub:wc.heap[w5.heap.size]?=some (.cells #[.bool sc.has,.slice uoo sc.only.length uoc,.slice upo sc.passes.length upc] 26):=(hkp _ (lt_of_block HZ.out.2.2.1) (by have:=HZ.out.2.2.2.2;omega)).trans HZ.out.2.2.1;have HGb:Hid (∀X xo xc,Tp.At wc X (w5.heap.size) (.bool sc.has) (.slice uoo sc.only.length uoc) (.slice upo sc.passes.length upc)->L.Rd X (.slice xo t.length xc) .i32 t->t.length<=xc->Calls Tryz.prog 12 #[.agg #[.bool sc.has,.slice uoo sc.only.length uoc,.slice upo sc.passes.length upc],.slice xo t.length xc] X fun e w'=>∃v',e= .returned (.tuple #[v',.agg #[.int .i64 g1,.int .i64 g2]])/\L.Rd w' v' .i32 ga/\Below X.heap.size X w'):=HGb0.out wc hsz hkp;have HAtb:Hid (Tp.At wc wc (w5.heap.size) (.bool sc.has) (.slice uoo sc.only.length uoc) (.slice upo sc.passes.length upc)):=⟨qR _,K.zab (i:=0) hub rfl,K.zab (i:=1) hub rfl,K.zab (i:=2) hub rfl⟩;have hsbb:w5.heap.size<wc.heap.size:=lt_of_block hub;have HC:Hid (wc.heap[w2.heap.size]?=some (.cells #[.int .i64 g1,.int .i64 g2] 33)/\L.Rd wc (.slice va ga.length vc) .i32 ga/\Below w.heap.size w wc):=⟨hbox,hrdv,hbl⟩;obtain⟨Y,hY⟩:∃Y,Y=wc:=⟨_,rfl⟩;subst hY;clear hcut hbox hrdv hkp hsz hbl HGa HGb0 HKa HAta HFb HZ hub a0 a1 a2 HFs HFu;go_wp2;have HKb:Hid (Tp.At Y Y.drew (w5.heap.size) (.bool sc.has) (.slice uoo sc.only.length uoc) (.slice upo sc.passes.length upc)):=HAtb.out.drew;have HKDb:Hid (∀o,Tp.At Y (Y.alloc o).drew (w5.heap.size) (.bool sc.has) (.slice uoo sc.only.length uoc) (.slice upo sc.passes.length upc)):=fun o=>(HAtb.out.alloc o).drew
     go_cut [13,14] (fun va vf wx=>Hid (Tp.Got Y wx va vf (ga,g1,g2)))
     case first =>
      go_region_held3 (fun w'=>Below Y.heap.size Y w'/\w'.cell? ⟨w5.heap.size,0,none⟩=some (.bool sc.has)/\w'.cell? ⟨w5.heap.size,1,none⟩=some (.slice uoo sc.only.length uoc)/\w'.cell? ⟨w5.heap.size,2,none⟩=some (.slice upo sc.passes.length upc))
       (first | with_reducible exact HKb.out | with_reducible exact k2 | with_reducible exact k1 | with_reducible exact k2.alloc _ | with_reducible exact k1.alloc _ | with_reducible exact HKb.out.alloc _ | with_reducible exact HKDb.out _ | with_reducible exact Tp.At.set2 k2 hsbb k1.1.size _ _ | with_reducible exact Tp.At.set2 k2 hsbb qN _ _ | fail)
       (first
        | (have hy:=k1;clear hy;go_at_call 12;refine(HGb.out _ _ _ (by first | with_reducible exact k1 | with_reducible exact k1.alloc _) (by first | with_reducible exact d1 | with_reducible exact d1.below (Cn.al _ _) qN) hc1).mono ?_;rintro e wd2 ⟨vd2,rfl,d2,z2⟩;have k2:Tp.At Y wd2 (w5.heap.size) (.bool sc.has) (.slice uoo sc.only.length uoc) (.slice upo sc.passes.length upc):=(by first | with_reducible exact k1.below z2 | with_reducible exact(k1.alloc _).below z2);first | (have r2:=K.zae r1 z2;obtain⟨y0,y1,ff0,ff1⟩:=V.box2 r2) | (have r2:=Cn.rb z2;obtain⟨y0,y1,ff0,ff1⟩:=V.box2 r2) | skip)
        | ((fail_if_success (have hy:=k1));go_at_call 11;refine(HDe.out _).mono ?_;rintro e wd1 ⟨xo1,xc1,rfl,d1,hc1,z1⟩;have k1:Tp.At Y wd1 (w5.heap.size) (.bool sc.has) (.slice uoo sc.only.length uoc) (.slice upo sc.passes.length upc):=(by first | with_reducible exact HKb.out.below z1 | with_reducible exact(HKb.out.alloc _).below z1 | with_reducible exact(HKDb.out _).below z1);first | (have r1:=Cn.rbD z1) | skip)
        | fail)
      all_goals
       first
        | (have HM:=Tp.zh6 (r1:=g1) (r2:=g2) k2 hsbb d2 r2 (by first | with_reducible exact k1.1.size | with_reducible exact qN))
        | (have HM:=Tp.zh7 (r1:=g1) (r2:=g2) k2 d2)
       clear k2 k1 d2 d1 z2 z1
       go_wp2_with fail
       go_meet
       case rel=>exact HM
     case rest =>
      obtain⟨fb2,rfl,hfb2,hbox2,hrd2,hbl2⟩:=hcut.out;obtain⟨vb,vd,rfl⟩:∃va vc,_=Value.slice va ga.length vc:=by obtain⟨a,c,h,_⟩:=hrd2;exact⟨a,c,h⟩
      have hf1:=K.zae HC.out.1 hbl2;obtain⟨p0,p1,_,_⟩:=V.box2 hf1;obtain⟨q0,q1,_,_⟩:=V.box2 hbox2;have hSm:=zps wc _ _ ga ga (HC.out.2.1.below hbl2 qN) hrd2 (by omega) (by omega);have HE:Hid (Below w.heap.size w wc):=HC.out.2.2.trans (hbl2.mono HC.out.2.2.size);clear hcut hbox2 hrd2 hbl2 hf1 HC HGb HDe HKb HKDb HAtb
      go_wp2_with fail
      refine hSm.mono ?_;rintro e w9 ⟨rfl,b9⟩;have HE9:Hid (Below w.heap.size w w9):=HE.out.trans (b9.mono HE.out.size);clear b9 hSm;go_wp2;go_ret;exact⟨by simp,HE9.out⟩
  ·have h17:(16000:Int)<(tl.size:Int):=by omega
   have HE3:Hid (Below w.heap.size w ((w3.setCell ⟨w2.heap.size,0,none⟩ (.int .i64 0)).setCell ⟨w2.heap.size,1,none⟩ (.int .i64 0))):=by
    show Below _ _ _;rw[<- hW3];exact HW3.out.2.1
   clear b3 hb3 hid hB3 HSame HSc HX2 HScF HDe hW3 z0;go_wp2;go_ret;exact⟨rfl,HE3.out⟩
end Go.Proofs.YtmcljejgbikbhaaGreatDoor
namespace Go.Proofs.YtmcljejgbikbhaaGreatDoor
open Go.RowKit
def T.Cls (w:World) (b:Nat) (ents:List (ByteArray×List S.Sp)):Prop :=
 ∃(es:Array MapEntry) (clock:Nat),w.heap[b]?=some (.map es clock)/\es.toList.length=ents.length/\∀(i:Nat) (e:MapEntry) (x:ByteArray×List S.Sp),es.toList[i]?=some e->ents[i]?=some x->e.key= .string x.1/\S.Rd w e.val x.2
theorem zvq (w:World):T.Cls (w.alloc (.map #[] 0)) w.heap.size []:=⟨#[],0,heap_alloc_new w _,rfl,fun i e x h=>by simp at h⟩
theorem za8 {w w':World}{b:Nat}{ents:List (ByteArray×List S.Sp)}(h:T.Cls w b ents)(hb:Below w.heap.size w w'):T.Cls w' b ents:=by
 obtain⟨es,clock,h1,h2,h3⟩:=h;exact⟨es,clock,by rw[hb.block b (qA.1 h1).1];exact h1,h2,fun i e x he hx=>⟨(h3 i e x he hx).1,(h3 i e x he hx).2.below hb qN⟩⟩
theorem zgd (s:ByteArray):∀(l:List MapEntry) (i:Nat),(∀e∈l,∃t,e.key= .string t/\t≠s)->Instr.findNow .string (.string s) l i=some none
 | [],_,_=>rfl
 | e::l,i,h=>by
  obtain⟨t,ht,hne⟩:=h e (by simp)
  have hb:(s==t)=false:=by
   apply Bool.eq_false_iff.2;intro hh;exact hne ((MapKept.bytes_beq _ _).1 hh).symm
  simp only[Instr.findNow,ht,Instr.sameNow,hb];exact zgd s l (i+1) fun e' he'=>h e' (by simp[he'])
theorem zjk (s:ByteArray):∀(l:List MapEntry) (i:Nat),(∀e∈l,∃t,e.key= .string t)->(∃e∈l,e.key= .string s)->∃j e,Instr.findNow .string (.string s) l i=some (some (j,e.val))/\e∈l/\e.key= .string s
 | [],_,_,h=>by obtain⟨e,he,_⟩:=h;simp at he
 | e::l,i,hk,h=>by
  obtain⟨t,ht⟩:=hk e (by simp)
  by_cases hst:s=t
  ·subst hst;exact⟨i,e,by simp only[Instr.findNow,ht,Instr.sameNow,(MapKept.bytes_beq s s).2 rfl],by simp,ht⟩
  ·have hb:(s==t)=false:=by
    apply Bool.eq_false_iff.2;intro hh;exact hst ((MapKept.bytes_beq _ _).1 hh)
   obtain⟨e0,he0,hk0⟩:=h
   have hm:e0∈l:=by
    rcases List.mem_cons.1 he0 with rfl | hm
    ·rw[ht] at hk0;cases hk0;exact absurd rfl hst
    ·exact hm
   obtain⟨j,e1,h1,h2,h3⟩:=zjk s l (i+1) (fun x hx=>hk x (by simp[hx])) ⟨e0,hm,hk0⟩;exact⟨j,e1,by simp only[Instr.findNow,ht,Instr.sameNow,hb];exact h1,by simp[h2],h3⟩
theorem zbr {w w':World}{v:Value}{s:List S.Sp}{b:Nat}{es:Array MapEntry}{clock:Nat}(R:S.Rd w v s)(hb:w.heap[b]?=some (.map es clock))(hg:w.grownBy w' (some b)):S.Rd w' v s:=by
 obtain⟨vo,vc,rfl,hn,h⟩:=R;refine⟨vo,vc,rfl,hn,fun hz=> ?_⟩;obtain⟨g,off,rfl,hcl⟩:=h hz;refine⟨g,off,rfl,fun j x hj=> ?_⟩;have h1:=hcl j x hj
 have hne:g≠b:=by
  intro e;subst e;have:=h1.1;rw[World.cell?] at this;simp[hb] at this
 constructor
 ·rw[World.cell?_of_block (a:=⟨g,off+j*2,none⟩) (hg.block g (L.block_lt h1.1) (by simp[hne]))];exact h1.1
 ·rw[World.cell?_of_block (a:=⟨g,off+j*2+1,none⟩) (hg.block g (L.block_lt h1.2) (by simp[hne]))];exact h1.2
theorem zoe {w:World}{b:Nat}{ents:List (ByteArray×List S.Sp)}(h:T.Cls w b ents)(s:ByteArray)(v:Value)(sp:List S.Sp)(hnew:∀x∈ents,x.1≠s)(R:S.Rd w v sp) :
  ∃w',(Instr.mapUpdate 131 (.map (some b)) (.string s) v).run Tryz.prog w= .ok () w'/\T.Cls w' b (ents++ [(s,sp)])/\w.grownBy w' (some b):=by
 obtain⟨es,clock,h1,h2,h3⟩:=h
 have hkeys:∀e∈es.toList,∃t,e.key= .string t/\t≠s:=by
  intro e he;obtain⟨i,hi⟩:=List.getElem?_of_mem he;have hlt:i<ents.length:=by rw[<- h2];exact(qL.1 hi).1
  have hx:=h3 i e ents[i] hi (by simp[hlt]);exact⟨_,hx.1,hnew _ (List.getElem_mem _)⟩
 have hf:=zgd s es.toList 0 hkeys;have hlt:b<w.heap.size:=(qA.1 h1).1
 have hg:w.grownBy ({ w with heap:=w.heap.setIfInBounds b (.map (es.push { key:= .string s,val:=v,born:=clock }) (clock+1)) }:World) (some b):=⟨rfl,rfl,rfl,by simp,fun i _ hi=>by
  have hne:b≠i:=fun e=>hi (by rw[e])
  simp[hne]⟩
 refine⟨({ w with heap:=w.heap.setIfInBounds b (.map (es.push { key:= .string s,val:=v,born:=clock }) (clock+1)) }:World),?_,⟨es.push { key:= .string s,val:=v,born:=clock },clock+1,?_,?_,?_⟩,hg⟩
 ·simp[Instr.mapUpdate,run_underlying Tryz.underlying131,MapKept.run_getObj_map h1,MapKept.run_checkKey (kt:=9) Tryz.underlying9 (show MapKept.IsKey .string (.string s) from trivial),MapKept.run_findKey (kt:=9) Tryz.underlying9 hf,MapKept.run_setObj_map _ h1,Result.andThen]
 ·simp[hlt]
 ·simp;simpa using h2
 ·intro i e x he hx;have hl:es.size=ents.length:=by simpa using h2
  rw[Array.toList_push] at he
  by_cases hi:i<ents.length
  ·rw[List.getElem?_append_left (by simpa [hl] using hi)] at he;rw[List.getElem?_append_left hi] at hx;have:=h3 i e x he hx;exact⟨this.1,zbr this.2 h1 hg⟩
  ·have hi2:i=ents.length:=by
    have:=(qL.1 hx).1;simp at this;omega
   subst hi2;rw[<- h2] at he;rw[List.getElem?_append_right qN] at he hx;simp at he hx;subst he hx;exact⟨rfl,zbr R h1 hg⟩
theorem zod {w:World}{b:Nat}{ents:List (ByteArray×List S.Sp)}(h:T.Cls w b ents)(s:ByteArray) :
  (∃v x,x∈ents/\x.1=s/\S.Rd w v x.2/\(Instr.lookup 131 (.map (some b)) (.string s) true).run Tryz.prog w= .ok (.tuple #[v,.bool true]) w) ∨
  ((∀x∈ents,x.1≠s)/\(Instr.lookup 131 (.map (some b)) (.string s) true).run Tryz.prog w= .ok (.tuple #[.slice none 0 0,.bool false]) w):=by
 obtain⟨es,clock,h1,h2,h3⟩:=h
 have hkey:∀e∈es.toList,∃x∈ents,e.key= .string x.1/\S.Rd w e.val x.2:=by
  intro e he;obtain⟨i,hi⟩:=List.getElem?_of_mem he;have hlt:i<ents.length:=by rw[<- h2];exact(qL.1 hi).1
  have hx:=h3 i e ents[i] hi (by simp[hlt]);exact⟨_,List.getElem_mem _,hx.1,hx.2⟩
 by_cases hs:∃x∈ents,x.1=s
 ·left
  obtain⟨x,hx,hxs⟩:=hs
  have hex:∃e∈es.toList,e.key= .string s:=by
   obtain⟨i,hi⟩:=List.getElem?_of_mem hx;have hlt:i<es.toList.length:=by rw[h2];exact(qL.1 hi).1
   have:=h3 i es.toList[i] x (by simp) hi;exact⟨_,List.getElem_mem _,by rw[this.1,hxs]⟩
  obtain⟨j,e,hf,hm,hk⟩:=zjk s es.toList 0 (fun e he=>by obtain⟨x,_,h,_⟩:=hkey e he;exact⟨_,h⟩) hex;obtain⟨y,hy,hyk,hR⟩:=hkey e hm;rw[hk] at hyk;cases hyk;refine⟨e.val,y,hy,rfl,hR,?_⟩;simp[Instr.lookup,run_underlying Tryz.underlying131,MapKept.run_getObj_map h1,MapKept.run_checkKey (kt:=9) Tryz.underlying9 (show MapKept.IsKey .string (.string y.1) from trivial),MapKept.run_findKey (kt:=9) Tryz.underlying9 hf,Result.andThen]
 ·right
  refine⟨fun x hx e=>hs ⟨x,hx,e⟩,?_⟩
  have hf:=zgd s es.toList 0 fun e he=>by
   obtain⟨x,hx,hk,_⟩:=hkey e he;exact⟨x.1,hk,fun e=>hs ⟨x,hx,e⟩⟩
  have hz:=Tryz.zeroValue23;simp[Instr.lookup,run_underlying Tryz.underlying131,MapKept.run_getObj_map h1,MapKept.run_checkKey (kt:=9) Tryz.underlying9 (show MapKept.IsKey .string (.string s) from trivial),MapKept.run_findKey (kt:=9) Tryz.underlying9 hf,Result.andThen,hz]
theorem zsq (w:World)(sp:List S.Sp)(C:Array Value)(hC:C=(S.cellsOf sp).toArray)(n:Nat)(hn:n=sp.length)(c:Nat):S.Rd (w.alloc (.cells C 125)) (.slice (some ⟨w.heap.size,0,none⟩) n c) sp:=by
 subst hC hn;refine⟨_,c,rfl,(fun h=>by cases h),fun _=>⟨w.heap.size,0,rfl,fun j x hj=> ?_⟩⟩;have hg:=S.zcz hj;rw[World.cell?_alloc_at _ _ _ _ rfl,World.cell?_alloc_at _ _ _ _ rfl];simp only[Nat.zero_add];exact⟨by simpa using hg.1,by simpa using hg.2⟩
end Go.Proofs.YtmcljejgbikbhaaGreatDoor
namespace Go.Proofs.YtmcljejgbikbhaaGreatDoor
open Go.RowKit
def T.names:List (ByteArray×List S.Sp) :=
  [(⟨#[100,105,103,105,116]⟩,[(48,57)]),(⟨#[108,111,119,101,114]⟩,[(97,122),(223,246),(248,255)]),
   (⟨#[117,112,112,101,114]⟩,[(65,90),(192,214),(216,222)]),(⟨#[108,101,116,116,101,114]⟩,[(65,90),(97,122),(192,214),(216,246),(248,255)]),
   (⟨#[118,111,119,101,108]⟩,[(65,65),(69,69),(73,73),(79,79),(85,85),(97,97),(101,101),(105,105),(111,111),(117,117)]),
   (⟨#[103,114,101,101,107]⟩,[(880,1023)]),(⟨#[99,121,114,105,108,108,105,99]⟩,[(1024,1279)]),(⟨#[115,112,97,99,101]⟩,[(9,10),(32,32)]),(⟨#[97,110,121]⟩,[(0,1114111)])]
theorem zrm (w:World):∃w1 b,(Instr.makeMap 131 none).run Tryz.prog w= .ok (.map (some b)) w1/\T.Cls w1 b []/\Hid (w.heap.size<=b/\Below w.heap.size w w1) :=
  ⟨_,_,run_makeMap _ _,zvq w,⟨qN,(qR _).alloc qN _⟩⟩
theorem zb1 {w w1:World}{b:Nat}{ents:List (ByteArray×List S.Sp)}(hC:T.Cls w1 b ents)(hB:Hid (w.heap.size<=b/\Below w.heap.size w w1))(s:ByteArray)(sp:List S.Sp)(C:Array Value)(hCC:C=(S.cellsOf sp).toArray)(n c:Nat)(hn:n=sp.length)(hnew:∀x∈ents,x.1≠s) :
    ∃w2,(Instr.mapUpdate 131 (.map (some b)) (.string s) (.slice (some ⟨w1.heap.size,0,none⟩) n c)).run Tryz.prog (w1.alloc (.cells C 125))= .ok () w2/\T.Cls w2 b (ents++ [(s,sp)])/\Hid (w.heap.size<=b/\Below w.heap.size w w2):=by
  have b1:Below w1.heap.size w1 (w1.alloc (.cells C 125)):=(qR _).alloc qN _;obtain⟨w2,r,h1,h2⟩:=zoe (za8 hC b1) s _ sp hnew (zsq w1 sp C hCC n hn c);have hB1:Below w.heap.size w (w1.alloc (.cells C 125)):=hB.out.2.alloc hB.out.2.size _;exact⟨w2,r,h1,hB.out.1,hB1.grown h2 hB1.size (fun j hj=>by cases hj;exact hB.out.1)⟩
theorem zdq (w:World):Calls Tryz.prog 272 #[] w fun e w'=>∃b,e= .returned (.map (some b))/\w.heap.size<=b/\T.Cls w' b T.names/\Below w.heap.size w w':=by
  go_enter Tryz.func272,Tryz.ntmps272
  go_wp2_with fail
  obtain⟨w1,b,r,hC,hB⟩:=zrm w;rw[r];clear r
  go_wp2_with fail
  obtain⟨w2,r,hC,hB⟩:=zb1 hC hB ⟨#[100,105,103,105,116]⟩ [(48,57)] #[.int .i32 48,.int .i32 57] rfl 1 1 rfl (by decide);rw[r];clear r
  go_wp2_with fail
  obtain⟨w3,r,hC,hB⟩:=zb1 hC hB ⟨#[108,111,119,101,114]⟩ [(97,122),(223,246),(248,255)] #[.int .i32 97,.int .i32 122,.int .i32 223,.int .i32 246,.int .i32 248,.int .i32 255] rfl 3 3 rfl (by decide);rw[r];clear r
  go_wp2_with fail
  obtain⟨w4,r,hC,hB⟩:=zb1 hC hB ⟨#[117,112,112,101,114]⟩ [(65,90),(192,214),(216,222)] #[.int .i32 65,.int .i32 90,.int .i32 192,.int .i32 214,.int .i32 216,.int .i32 222] rfl 3 3 rfl (by decide);rw[r];clear r
  go_wp2_with fail
  obtain⟨w5,r,hC,hB⟩:=zb1 hC hB ⟨#[108,101,116,116,101,114]⟩ [(65,90),(97,122),(192,214),(216,246),(248,255)] #[.int .i32 65,.int .i32 90,.int .i32 97,.int .i32 122,.int .i32 192,.int .i32 214,.int .i32 216,.int .i32 246,.int .i32 248,.int .i32 255] rfl 5 5 rfl (by decide);rw[r];clear r
  go_wp2_with fail
  refine(zbo 65 _).mono ?_;rintro e w6 ⟨rfl,hb⟩
  replace hC:=za8 hC hb
  replace hB:Hid (w.heap.size<=b/\Below w.heap.size w w6):=⟨hB.out.1,hB.out.2.trans (hb.mono hB.out.2.size)⟩
  clear hb
  go_wp2_with fail
  refine(zbo 69 _).mono ?_;rintro e w7 ⟨rfl,hb⟩
  replace hC:=za8 hC hb
  replace hB:Hid (w.heap.size<=b/\Below w.heap.size w w7):=⟨hB.out.1,hB.out.2.trans (hb.mono hB.out.2.size)⟩
  clear hb
  go_wp2_with fail
  refine(zbo 73 _).mono ?_;rintro e w8 ⟨rfl,hb⟩
  replace hC:=za8 hC hb
  replace hB:Hid (w.heap.size<=b/\Below w.heap.size w w8):=⟨hB.out.1,hB.out.2.trans (hb.mono hB.out.2.size)⟩
  clear hb
  go_wp2_with fail
  refine(zbo 79 _).mono ?_;rintro e w9 ⟨rfl,hb⟩
  replace hC:=za8 hC hb
  replace hB:Hid (w.heap.size<=b/\Below w.heap.size w w9):=⟨hB.out.1,hB.out.2.trans (hb.mono hB.out.2.size)⟩
  clear hb
  go_wp2_with fail
  refine(zbo 85 _).mono ?_;rintro e w10 ⟨rfl,hb⟩
  replace hC:=za8 hC hb
  replace hB:Hid (w.heap.size<=b/\Below w.heap.size w w10):=⟨hB.out.1,hB.out.2.trans (hb.mono hB.out.2.size)⟩
  clear hb
  go_wp2_with fail
  refine(zbo 97 _).mono ?_;rintro e w11 ⟨rfl,hb⟩
  replace hC:=za8 hC hb
  replace hB:Hid (w.heap.size<=b/\Below w.heap.size w w11):=⟨hB.out.1,hB.out.2.trans (hb.mono hB.out.2.size)⟩
  clear hb
  go_wp2_with fail
  refine(zbo 101 _).mono ?_;rintro e w12 ⟨rfl,hb⟩
  replace hC:=za8 hC hb
  replace hB:Hid (w.heap.size<=b/\Below w.heap.size w w12):=⟨hB.out.1,hB.out.2.trans (hb.mono hB.out.2.size)⟩
  clear hb
  go_wp2_with fail
  refine(zbo 105 _).mono ?_;rintro e w13 ⟨rfl,hb⟩
  replace hC:=za8 hC hb
  replace hB:Hid (w.heap.size<=b/\Below w.heap.size w w13):=⟨hB.out.1,hB.out.2.trans (hb.mono hB.out.2.size)⟩
  clear hb
  go_wp2_with fail
  refine(zbo 111 _).mono ?_;rintro e w14 ⟨rfl,hb⟩
  replace hC:=za8 hC hb
  replace hB:Hid (w.heap.size<=b/\Below w.heap.size w w14):=⟨hB.out.1,hB.out.2.trans (hb.mono hB.out.2.size)⟩
  clear hb
  go_wp2_with fail
  refine(zbo 117 _).mono ?_;rintro e w15 ⟨rfl,hb⟩
  replace hC:=za8 hC hb
  replace hB:Hid (w.heap.size<=b/\Below w.heap.size w w15):=⟨hB.out.1,hB.out.2.trans (hb.mono hB.out.2.size)⟩
  clear hb
  go_wp2_with fail
  obtain⟨w16,r,hC,hB⟩:=zb1 hC hB ⟨#[118,111,119,101,108]⟩ [(65,65),(69,69),(73,73),(79,79),(85,85),(97,97),(101,101),(105,105),(111,111),(117,117)] #[.int .i32 65,.int .i32 65,.int .i32 69,.int .i32 69,.int .i32 73,.int .i32 73,.int .i32 79,.int .i32 79,.int .i32 85,.int .i32 85,.int .i32 97,.int .i32 97,.int .i32 101,.int .i32 101,.int .i32 105,.int .i32 105,.int .i32 111,.int .i32 111,.int .i32 117,.int .i32 117] rfl 10 10 rfl (by decide);rw[r];clear r
  go_wp2_with fail
  obtain⟨w17,r,hC,hB⟩:=zb1 hC hB ⟨#[103,114,101,101,107]⟩ [(880,1023)] #[.int .i32 880,.int .i32 1023] rfl 1 1 rfl (by decide);rw[r];clear r
  go_wp2_with fail
  obtain⟨w18,r,hC,hB⟩:=zb1 hC hB ⟨#[99,121,114,105,108,108,105,99]⟩ [(1024,1279)] #[.int .i32 1024,.int .i32 1279] rfl 1 1 rfl (by decide);rw[r];clear r
  go_wp2_with fail
  refine(zbo 32 _).mono ?_;rintro e w19 ⟨rfl,hb⟩
  replace hC:=za8 hC hb
  replace hB:Hid (w.heap.size<=b/\Below w.heap.size w w19):=⟨hB.out.1,hB.out.2.trans (hb.mono hB.out.2.size)⟩
  clear hb
  go_wp2_with fail
  obtain⟨w20,r,hC,hB⟩:=zb1 hC hB ⟨#[115,112,97,99,101]⟩ [(9,10),(32,32)] #[.int .i32 9,.int .i32 10,.int .i32 32,.int .i32 32] rfl 2 2 rfl (by decide);rw[r];clear r
  go_wp2_with fail
  obtain⟨w21,r,hC,hB⟩:=zb1 hC hB ⟨#[97,110,121]⟩ [(0,1114111)] #[.int .i32 0,.int .i32 1114111] rfl 1 1 rfl (by decide);rw[r];clear r
  go_wp2_with fail
  go_ret;exact⟨b,rfl,hB.out.1,hC,hB.out.2⟩
theorem zmc (z:Int)(h:¬(0<=z/\z<128)):∃a t,M.enc z=a::t/\128<=a.toNat:=by
 by_cases hr:M.right z=true
 ·have hz:0<=z/\z<=1114111:=by
   have:=of_decide_eq_true hr;omega
  obtain⟨n,rfl⟩:∃n:Nat,z=(n:Int):=⟨z.toNat,by omega⟩;rw[M.zde n hr,if_neg (by omega)]
  repeat' split
  all_goals exact⟨_,_,rfl,by rw[M.u8 _ (by omega)];omega⟩
 ·have e:M.enc z=M.enc ((65533:Nat):Int):=by
   have h1:Utf8.valid z=false:=by rw[M.zfr];exact Bool.eq_false_iff.2 hr
   have h2:Utf8.valid ((65533:Nat):Int)=true:=by decide
   unfold M.enc Utf8.encode;rw[h1,h2];rfl
  rw[e,M.zde 65533 (by decide)];exact⟨_,_,rfl,by decide⟩
theorem zk6 (n:Nat)(h:n<128):M.enc (n:Int)= [UInt8.ofNat n]:=by
 have hr:M.right (n:Int)=true:=by unfold M.right;exact decide_eq_true (by omega)
 rw[M.zde n hr,if_pos (by omega)]
theorem zha:∀(ns:List Nat) (zs:List Int),(∀n∈ns,n<128)->(zs.flatMap fun z=>M.enc z)=ns.map UInt8.ofNat->zs=ns.map Int.ofNat
 | [],[],_,_=>rfl
 | [],z::zs,_,h=>by
  exfalso
  by_cases hz:0<=z/\z<128
  ·obtain⟨n,rfl⟩:∃n:Nat,z=(n:Int):=⟨z.toNat,by omega⟩;rw[List.flatMap_cons,zk6 n (by omega)] at h;simp at h
  ·obtain⟨a,t,he,_⟩:=zmc z hz;rw[List.flatMap_cons,he] at h;simp at h
 | n::ns,[],_,h=>by simp at h
 | n::ns,z::zs,hn,h=>by
  have h0:=hn n (by simp)
  by_cases hz:0<=z/\z<128
  ·obtain⟨m,rfl⟩:∃m:Nat,z=(m:Int):=⟨z.toNat,by omega⟩;rw[List.flatMap_cons,zk6 m (by omega),List.map_cons,List.singleton_append,List.cons.injEq] at h;have e:=congrArg UInt8.toNat h.1;rw[M.u8 _ (by omega),M.u8 _ (by omega)] at e;subst e;rw[zha ns zs (fun x hx=>hn x (by simp[hx])) h.2,List.map_cons];rfl
  ·exfalso;obtain⟨a,t,he,ha⟩:=zmc z hz;rw[List.flatMap_cons,he,List.map_cons,List.cons_append,List.cons.injEq] at h;have e:=congrArg UInt8.toNat h.1;rw[M.u8 _ (by omega)] at e;omega
theorem zct (ns:List Nat)(s:ByteArray)(hs:s.data.toList=ns.map UInt8.ofNat)(hn:∀n∈ns,n<128)(zs:List Int):runesBytes zs=s↔zs=ns.map Int.ofNat:=by
 constructor
 ·intro h;refine zha ns zs hn ?_;rw[<- hs,<- h,zbj]
 ·rintro rfl;apply ByteArray.ext;apply Array.toList_inj.1;rw[zbj,hs,List.flatMap_map];clear hs
  induction ns with
  | nil=>rfl
  | cons n ns ih =>
   have e:M.enc (Int.ofNat n)= [UInt8.ofNat n]:=zk6 n (hn n (by simp));rw[List.flatMap_cons,e,List.map_cons,ih fun x hx=>hn x (by simp[hx])];rfl
theorem zg6 (zs:List Int):runesBytes zs=⟨#[100,105,103,105,116]⟩↔zs= [100,105,103,105,116]:=zct [100,105,103,105,116] _ rfl (by decide) zs
theorem zg4 (zs:List Int):runesBytes zs=⟨#[108,111,119,101,114]⟩↔zs= [108,111,119,101,114]:=zct [108,111,119,101,114] _ rfl (by decide) zs
theorem zg2 (zs:List Int):runesBytes zs=⟨#[117,112,112,101,114]⟩↔zs= [117,112,112,101,114]:=zct [117,112,112,101,114] _ rfl (by decide) zs
theorem zfx (zs:List Int):runesBytes zs=⟨#[108,101,116,116,101,114]⟩↔zs= [108,101,116,116,101,114]:=zct [108,101,116,116,101,114] _ rfl (by decide) zs
theorem zg1 (zs:List Int):runesBytes zs=⟨#[118,111,119,101,108]⟩↔zs= [118,111,119,101,108]:=zct [118,111,119,101,108] _ rfl (by decide) zs
theorem zg5 (zs:List Int):runesBytes zs=⟨#[103,114,101,101,107]⟩↔zs= [103,114,101,101,107]:=zct [103,114,101,101,107] _ rfl (by decide) zs
theorem zd7 (zs:List Int):runesBytes zs=⟨#[99,121,114,105,108,108,105,99]⟩↔zs= [99,121,114,105,108,108,105,99]:=zct [99,121,114,105,108,108,105,99] _ rfl (by decide) zs
theorem zg3 (zs:List Int):runesBytes zs=⟨#[115,112,97,99,101]⟩↔zs= [115,112,97,99,101]:=zct [115,112,97,99,101] _ rfl (by decide) zs
theorem zl5 (zs:List Int):runesBytes zs=⟨#[97,110,121]⟩↔zs= [97,110,121]:=zct [97,110,121] _ rfl (by decide) zs
theorem znn (zs:List Int)(x:ByteArray×List S.Sp)(hx:x∈T.names)(h:x.1=runesBytes zs):T.classOf zs=some x.2:=by
 unfold T.names at hx;simp only[List.mem_cons,List.not_mem_nil,or_false] at hx;rcases hx with rfl | rfl | rfl | rfl | rfl | rfl | rfl | rfl | rfl
 ·rw[(zg6 zs).1 h.symm];rfl
 ·rw[(zg4 zs).1 h.symm];rfl
 ·rw[(zg2 zs).1 h.symm];rfl
 ·rw[(zfx zs).1 h.symm];rfl
 ·rw[(zg1 zs).1 h.symm];rfl
 ·rw[(zg5 zs).1 h.symm];rfl
 ·rw[(zd7 zs).1 h.symm];rfl
 ·rw[(zg3 zs).1 h.symm];rfl
 ·rw[(zl5 zs).1 h.symm];rfl
theorem zno (zs:List Int)(h:∀x∈T.names,x.1≠runesBytes zs):T.classOf zs=none:=by
 unfold T.classOf;rw[if_neg fun e=>h _ (.head _) ((zg6 zs).2 e).symm];rw[if_neg fun e=>h _ (.tail _ (.head _)) ((zg4 zs).2 e).symm];rw[if_neg fun e=>h _ (.tail _ (.tail _ (.head _))) ((zg2 zs).2 e).symm];rw[if_neg fun e=>h _ (.tail _ (.tail _ (.tail _ (.head _)))) ((zfx zs).2 e).symm];rw[if_neg fun e=>h _ (.tail _ (.tail _ (.tail _ (.tail _ (.head _))))) ((zg1 zs).2 e).symm];rw[if_neg fun e=>h _ (.tail _ (.tail _ (.tail _ (.tail _ (.tail _ (.head _)))))) ((zg5 zs).2 e).symm];rw[if_neg fun e=>h _ (.tail _ (.tail _ (.tail _ (.tail _ (.tail _ (.tail _ (.head _))))))) ((zd7 zs).2 e).symm];rw[if_neg fun e=>h _ (.tail _ (.tail _ (.tail _ (.tail _ (.tail _ (.tail _ (.tail _ (.head _)))))))) ((zg3 zs).2 e).symm];rw[if_neg fun e=>h _ (.tail _ (.tail _ (.tail _ (.tail _ (.tail _ (.tail _ (.tail _ (.tail _ (.head _))))))))) ((zl5 zs).2 e).symm]
end Go.Proofs.YtmcljejgbikbhaaGreatDoor
