import Derived.Test.YtcadaallpiekiaaGreatDoorXReady
import Derived.Lib.AppendZerosOnto
import Derived.Lib.Overlaps
import Derived.Lib.SliceRun
set_option maxHeartbeats 0
set_option maxRecDepth 20000
set_option linter.unusedSimpArgs false
set_option linter.unusedVariables false
namespace Go.Proofs.YtcadaallpiekiaaGreatDoor
open Go.Proofs.Tryz
section
open Go.RowKit Go.Shelf
def Gm.Cn (b ob:Nat) (vh:Value) (l:List K.Rule) (c:List Int) (W:World) (s p:Int):Prop :=
 W.heap[ob]?=some (.cells #[.slice none 0 0,.int .i64 s,.int .i64 p] 127)/\∀W',(∀j,j<b->j≠ob->W'.heap[j]?=W.heap[j]?)->J.Rd W' vh (J.heads (J.begins l) c (c.length-1))
theorem Gm.Mx.count {b ob mb:Nat}{ms:List Nat}{wb w w':World}{g:Nat}{vr vh:Value}{l:List K.Rule}{c A Z:List Int}{s p:Int}(M:Gm.Mx b ms mb wb w g vr vh l c A Z)(hob:wb.heap.size<=ob)(hb:ob<b)(hmb:mb≠ob)(C:Gm.Cn b ob vh l c w s p)
  (hs:w.heap.size<=w'.heap.size) (hbel:Bl wb w') (e:∀j,j<w.heap.size->j≠ob->w'.heap[j]?=w.heap[j]?):Gm.Mx b ms mb wb w' g vr vh l c A Z:=by
 obtain⟨ao,cur,hT⟩:=M.tx;have hg:b<=g:=hT.hB.1;have htop:=M.top;have hm:=(qA.1 M.box).1;refine⟨M.base,hbel,(e mb hm hmb).trans M.box,M.mem,fun j hj=>by have:=M.old j hj;omega,⟨ao,cur,hT.hB,hT.box.block (e g hT.box.lt (by omega)),hT.room.block fun r hr=> ?_,hT.ne,hT.fit,hT.most,hT.few,hT.ahead,hT.behind⟩,M.rus,fun W hW=> ?_⟩
 ·have h1:=hT.room.lt r hr;have h2:b<=r:=h1.1.1;exact e r h1.2 (by omega)
 ·exact C.2 W fun j hj hne=>(hW.block j hj).trans (e j (by omega) hne)
theorem zmj (W:World)(ob:Nat)(s p at_ k:Int)(h:W.heap[ob]?=some (.cells #[.slice none 0 0,.int .i64 s,.int .i64 p] 127))(hs0:0<=s)(hs:s<=100000)(hp0:0<=p)(hp:p<=100000)(hk:k= -1∨0<=k) :
  Calls prog 144 #[.agg #[.int .i64 at_,.int .i64 k],.pointer (some ⟨ob,0,none⟩)] W fun e w'=>e=.returned (.tuple #[])/\w'.heap[ob]?=some (.cells #[.slice none 0 0,.int .i64 (s+1),.int .i64 (p+if k= -1 then 0 else 1)] 127)/\W.heap.size<=w'.heap.size/\(∀B,B<=ob->Below B W w')/\(∀j,j<W.heap.size->j≠ob->w'.heap[j]?=W.heap[j]?):=by
 have hob:=(qA.1 h).1;have e1:∀x,(W.setCell ⟨ob,1,none⟩ x).heap[ob]?=some (.cells #[.slice none 0 0,x,.int .i64 p] 127):=fun x=>heap_setCell_same W ob 1 _ _ x h
 have e2:∀x y,((W.setCell ⟨ob,1,none⟩ x).setCell ⟨ob,2,none⟩ y).heap[ob]?=some (.cells #[.slice none 0 0,x,y] 127):=fun x y=>heap_setCell_same _ ob 2 _ _ y (e1 x)
 have f1:∀x j,j≠ob->(W.setCell ⟨ob,1,none⟩ x).heap[j]?=W.heap[j]?:=fun x j hne=>heap_setCell_other W _ j x (by simpa using hne)
 have f2:∀x y j,j≠ob->((W.setCell ⟨ob,1,none⟩ x).setCell ⟨ob,2,none⟩ y).heap[j]?=W.heap[j]?:=fun x y j hne=>(heap_setCell_other _ _ j y (by simpa using hne)).trans (f1 x j hne)
 have al:∀(V:World) (o v:Obj),V.heap[ob]?=some v->(∀B,B<=ob->Below B W V)->(∀j,j≠ob->V.heap[j]?=W.heap[j]?)->(V.alloc o).heap[ob]?=some v/\W.heap.size<=(V.alloc o).heap.size/\(∀B,B<=ob->Below B W (V.alloc o))/\(∀j,j<W.heap.size->¬j=ob->(V.alloc o).heap[j]?=W.heap[j]?):=fun V o v h1 h2 h3=>by
  have hs:=(h2 0 (Nat.zero_le _)).size;refine⟨(Below.heap_alloc V o ob (by omega)).trans h1,by simp;omega,fun B hB=>(h2 B hB).alloc (by omega) o,fun j hj hne=>(Below.heap_alloc V o j (by omega)).trans (h3 j hne)⟩
 have H1:Hid (∀x o,_):=fun x o=>al (W.setCell ⟨ob,1,none⟩ x) o _ (e1 x) (fun B hB=>(Below.refl B W).setCell hB x) (f1 x)
 have H2:Hid (∀x y o,_):=fun x y o=>al ((W.setCell ⟨ob,1,none⟩ x).setCell ⟨ob,2,none⟩ y) o _ (e2 x y) (fun B hB=>((Below.refl B W).setCell hB x).setCell hB y) (f2 x y)
 have c1:W.cell? ⟨ob,1,none⟩=some (.int .i64 s):=K.zad (i:=1) h rfl;have c2:W.cell? ⟨ob,2,none⟩=some (.int .i64 p):=K.zad (i:=2) h rfl;have fr:=fun i=>frozen_of_row W _ i _ _ h
 have hne:W.heap.size≠ob:=by omega
 have hne2:ob≠W.heap.size:=by omega
 clear e1 e2 f1 f2 al h
 go_enter func144,ntmps144
 rcases hk with rfl|hk
 ·go_wp2;refine bodyPost_end (results_none rfl _ _ _) rfl ?_
  exact⟨rfl,H1.out _ _⟩
 ·have hk1:¬k= -1:=by omega
  go_wp2;refine bodyPost_end (results_none rfl _ _ _) rfl ?_
  exact⟨rfl,H2.out _ _ _⟩
theorem Gm.Cn.keep {b ob:Nat}{vh:Value}{l:List K.Rule}{c:List Int}{W W':World}{s p:Int}(h:Gm.Cn b ob vh l c W s p)(hob:ob<b)(hb:Below b W W'):Gm.Cn b ob vh l c W' s p :=
 ⟨(hb.block ob hob).trans h.1,fun W2 e=>h.2 W2 fun j hj hne=>(e j hj hne).trans (hb.block j hj)⟩
def Gm.Cb (b ob rb:Nat) (o:Obj) (vh:Value) (l:List K.Rule) (c:List Int) (W:World) (s p:Int):Prop:=Gm.Cn b ob vh l c W s p/\W.heap[rb]?=some o
theorem Gm.Cb.keep {b ob rb:Nat}{o:Obj}{vh:Value}{l:List K.Rule}{c:List Int}{W W':World}{s p:Int}(h:Gm.Cb b ob rb o vh l c W s p)(hob:ob<b)(hrb:rb<b)(hb:Below b W W'):Gm.Cb b ob rb o vh l c W' s p :=
 ⟨h.1.keep hob hb,(hb.block rb hrb).trans h.2⟩
theorem Gm.zrk {b ob rb mb:Nat}{o:Obj}{wb:World}{g:Nat}{vr vh:Value}{l:List K.Rule}{c:List Int}{n:Nat}(hob:wb.heap.size<=ob)(hb:ob<b)(hmb:mb≠ob)(hrb:rb≠ob)(hn:n<=4000) :
  ∀W A Z (s p at_ k:Int),Gm.Mx b [mb] mb wb W g vr vh l c A Z->Gm.Cb b ob rb o vh l c W s p->0<=p->p<=s->s<8*n+40->(k= -1∨0<=k)->Calls prog 144 (#[.agg #[.int .i64 at_,.int .i64 k]]++#[.pointer (some ⟨ob,0,none⟩)]) W fun e w'=>e=.returned (.tuple #[])/\Gm.Mx b [mb] mb wb w' g vr vh l c A Z/\Gm.Cb b ob rb o vh l c w' (s+1) (p+if k= -1 then 0 else 1):=by
 intro W A Z s p at_ k M C h0 h1 h2 hk;refine(zmj W ob s p at_ k C.1.1 (by omega) (by omega) h0 (by omega) hk).mono ?_;rintro e w' ⟨rfl,g1,g2,g3,g4⟩;have htop:=M.top;refine⟨rfl,M.count hob hb hmb C.1 g2 (M.bel.trans (g3 _ hob)) g4,⟨g1,fun W' e=>C.1.2 W' fun j hj hne=>(e j hj hne).trans (g4 j (by omega) hne)⟩,(g4 rb (lt_of_block C.2) hrb).trans C.2⟩
theorem Gm.idle {w:World}{r:Nat}{x y:Value}{ty:TypeId}(h:w.heap[r]?=some (.cells #[x,y] ty)):Bl w ((w.setCell ⟨r,0,none⟩ x).setCell ⟨r,1,none⟩ y):=by
 refine⟨rfl,rfl,rfl,by simp,fun k hk=> ?_⟩
 by_cases e:k=r
 ·subst e;rw[h];exact heap_setCell_same _ k 1 _ _ y (heap_setCell_same w k 0 _ _ x h)
 ·rw[heap_setCell_other _ ⟨r,1,none⟩ k y (by simpa using e),heap_setCell_other _ ⟨r,0,none⟩ k x (by simpa using e)]
def Gm.Vm (wb w':World) (v:Value) (l:List K.Rule) (t:List Int) (ob:Nat) (mp:Value) (f1 f2:Int):Prop :=
 ∃o:List J.Hd×Int×Int,Gm.Chk l t o/\((o.2.1≠0/\mp=.pointer none/\f1=o.2.1/\f2=o.2.2)∨(o.2.1=0/\∃p1 p2 p3 p4,K.play l (8*t.length+40) [] t 0 0=(p1,p2,p3,p4)/\f1=p1/\f2=0 /\
  ((p1≠0/\mp=.pointer none)∨(p1=0/\∃mb,mp=.pointer (some ⟨mb,0,none⟩)/\w'.heap[ob]?=some (.cells #[.slice none 0 0,.int .i64 p3,.int .i64 p4] 127)/\∃b g vh c,ob<b/\mb≠ob/\Gm.Mx b [mb] mb wb w' g v vh l c p2 []))))
theorem zjr (wb w:World)(v:Value)(l:List K.Rule)(hwb:Bl wb w)(R0:V.Rus wb v l)(vt:Value)(t:List Int)(Rt:L.Rd w vt .i32 t)(ht:t.length<=140737488355328)(ob:Nat)(hob:wb.heap.size<=ob)(hout:w.heap[ob]?=some (.cells #[.slice none 0 0,.int .i64 0,.int .i64 0] 127)) :
  Calls prog 145 #[v,vt,.func (.func 144) #[] #[.pointer (some ⟨ob,0,none⟩)]] w fun e w'=>∃mp f1 f2,e=.returned (.tuple #[mp,.agg #[.int .i64 f1,.int .i64 f2]])/\Bl wb w'/\Gm.Vm wb w' v l t ob mp f1 f2:=by
 have eg:∀args w,(callFunc 144 args).run prog w=.ok (.enter 144 args) w:=enters_of func144 (by kernel_rfl) rfl;have hobl:=lt_of_block hout;have hsb:=hwb.size;have HA:=qH<|fun o=>(qR w).alloc qN o
 have HRe:=qH<|fun o=>zmg wb (w.alloc o) v l (hwb.trans ((HA.out o).mono hsb)) R0 vt t (Rt.below (HA.out o) qN) ht
 have HWB:=qH hwb;have HOut:=qH hout;obtain⟨va,vc,rfl⟩:=R0.len;clear R0 Rt hwb hout
 go_enter func145,ntmps145
 go_wp2_with fail
 refine(HRe.out _).mono ?_;rintro e w1 ⟨⟨hs,e1,e2⟩,hch,b1,⟨hq,rfl⟩|⟨hq,mb,rfl,hrdy⟩⟩
 ·obtain⟨h1,B1,s1⟩:=K.zau b1;have HCh:=qH hch;have HB2:=qH<|fun o=>B1.alloc (by omega) o
  obtain⟨x0,x1,f0,f1⟩:=K.box2 h1;have k0:=fun o=>K.zai x0 o
  have k1:=fun o=>K.zai x1 o
  have g0:=fun o=>K.zal h1 o 0
  have g1:=fun o=>K.zal h1 o 1
  have hq':¬e1=0:=hq;clear b1 B1 HRe x0 x1 f0 f1 h1 hch hq;go_wp2
  go_region
  go_wp2;refine bodyPost_ret (v:=.tuple #[.pointer none,.agg #[.int .i64 e1,.int .i64 e2]]) (by simp[results,results145,go_sem, *]) rfl ?_
  exact⟨_,_,_,rfl,HWB.out.trans (((((HB2.out _).setCell (p:=⟨w.heap.size,0,none⟩) qN _).setCell (p:=⟨w.heap.size,1,none⟩) qN _).drew).mono hsb),_,HCh.out,.inl ⟨hq',rfl,rfl,rfl⟩⟩
 ·obtain⟨h1,B1,s1⟩:=K.zau b1;have hq':e1=0:=hq;subst hq';have HCh:=qH hch;obtain⟨b,g,vh,c,hb1,hb2,hMx,hok,hall,hhd⟩:=hrdy;have hsz:(w.alloc (.cells #[.int .i64 0,.int .i64 0] 36)).heap.size=w.heap.size+1:=by simp
  have hbt:=hMx.top;have hmlt:=hMx.old mb (by simp);obtain⟨⟨p1,p2,p3,p4⟩,hO⟩:∃o,K.play l (8*t.length+40) [] t 0 0=o:=⟨_,rfl⟩
  have HPl:Hid (∀o,Calls prog 158 #[.pointer (some ⟨mb,0,none⟩),.func (.func 144) #[] #[.pointer (some ⟨ob,0,none⟩)]] (w1.alloc o) fun e w'=>e=.returned (.int .i64 p1)/\Bl wb w'/\w'.heap[w.heap.size]?=some (.cells #[.int .i64 0,.int .i64 0] 36)/\(p1=0->Gm.Mx b [mb] mb wb w' g (.slice va l.length vc) vh l c p2 []/\w'.heap[ob]?=some (.cells #[.slice none 0 0,.int .i64 p3,.int .i64 p4] 127))):=fun o=>by
   have hal:=(qR w1).alloc qN o;have hbo:=(hal.block ob (by omega)).trans ((B1.block ob hobl).trans HOut.out);have hbr:(w1.alloc o).heap[w.heap.size]?=some (.cells #[.int .i64 0,.int .i64 0] 36):=K.zae h1 hal;refine(zof b mb wb (w1.alloc o) g _ vh l c t (hMx.below hal) hok hall (Gm.Cb b ob w.heap.size (.cells #[.int .i64 0,.int .i64 0] 36) vh l c) ⟨⟨hbo,fun W' hW'=>hhd W' fun j hj1 hj2=> ?_⟩,hbr⟩ (fun W W' s p hC hB=>hC.keep (by omega) (by omega) hB) 144 #[.pointer (some ⟨ob,0,none⟩)] eg (Gm.zrk hob (by omega) (by omega) (by omega) (HCh.out.ok).1) p1 p2 p3 p4 hO).mono ?_
   ·rw[hW' j hj2 (by omega)];exact hal.block j (by omega)
   ·rintro e w' ⟨h1,h2,⟨s,p,hC⟩,h3⟩;exact⟨h1,h2,hC.2,fun h=>⟨(h3 h).1,(h3 h).2.1.1⟩⟩
  obtain⟨ht4,_,rfl,_⟩:=HCh.out.ok;have HO:=qH hO;have hobb:ob<b:=by omega
  have hmo:mb≠ob:=by omega
  have hss:=b1.size;clear b1 B1 HRe h1 hch hq hMx hok hall hhd hO HOut
  go_wp2_with fail
  go_at_call 158
  refine(HPl.out _).mono ?_;rintro e w2 ⟨rfl,hB2,hbx,hfin⟩;have HB2:=qH hB2;have HF:=qH hfin;obtain⟨x0,x1,f0,f1⟩:=K.box2 hbx;have HBx:=qH hbx;clear HPl hB2 hfin hbx
  by_cases q:p1=0
  ·subst q;obtain⟨hM,hOb⟩:=HF.out rfl;have HM:=qH hM;have HOb:=qH hOb;clear hM hOb HF;go_wp2;refine bodyPost_ret (v:=.tuple #[.pointer (some ⟨mb,0,none⟩),.agg #[.int .i64 0,.int .i64 0]]) (by simp[results,results145,go_sem, *]) rfl ?_;have hid:=Gm.idle HBx.out;exact⟨_,_,_,rfl,HB2.out.trans (hid.mono (by have:=HB2.out.size;omega)),_,HCh.out,.inr ⟨rfl,0,p2,p3,p4,HO.out,rfl,rfl,.inr ⟨rfl,mb,rfl,K.zae HOb.out hid,b,g,vh,c,hobb,hmo,HM.out.below hid⟩⟩⟩
  ·clear HF;go_wp2;refine bodyPost_ret (v:=.tuple #[.pointer none,.agg #[.int .i64 p1,.int .i64 0]]) (by simp[results,results145,go_sem, *]) rfl ?_;exact⟨_,_,_,rfl,(HB2.out.setCell (p:=⟨w.heap.size,0,none⟩) hsb _).setCell (p:=⟨w.heap.size,1,none⟩) hsb _,_,HCh.out,.inr ⟨rfl,p1,p2,p3,p4,HO.out,rfl,rfl,.inl ⟨q,rfl⟩⟩⟩
end
section
open Go.RowKit Go.Lib
attribute [local go_sem ↓] Go.wp_at_zero Go.wp_at_succ
theorem zok (w:World)(n:Nat)(hn:n<=8000) :
  Calls prog 180 #[.slice none 0 0,.int .i64 n] w fun e w'=>∃v,e=.returned v/\w'.ownsRow w.heap.size 21 1 v 0 []/\Bl w w':=by
 by_cases h0:n=0
 ·subst h0
  go_enter func180,ntmps180
  go_wp2;go_ret
  exact⟨_,rfl,World.ownsRow_nil _ _ _ _,qR _⟩
 ·obtain⟨i0,hi,hz0,hz1,hz2⟩:=info_parts Tryz.infoI32;have hG:n<=grownCap w n 0 21:=grownCap_ge w _ _ _;have hG63:=grownCap_le_maxLen w n 0 21 (by unfold maxLen;omega)
  have hrz:∀ty,(Builtin.append_ #[42,3] ty #[.slice none 0 0,.int .i64 (n:Int)]).run prog w =
    .ok (.slice (some ⟨w.heap.size,0,none⟩) n (grownCap w n 0 21)) (w.drew.alloc (.cells (([]:List Value).toArray++Builtin.zeroCells (Value.int .i32 0).cells n++Builtin.zeroCells (Value.int .i32 0).cells (grownCap w n 0 21 - n)) 21)):=fun ty=>by
   have h:=Lib.run_append_grow_zeros w 42 3 ty 21 i0 (.int .i32 0) .i64 .i64 underlying42 underlying3 hi hz0 none 0 0 [] (run_firstCells_none w.drew i0.size 0 0 0) n (by omega) (by omega) (by omega) (by omega)
    (by rw[hz2];omega) (by rw[hz2];exact growslice_fits (by omega) (by omega))
   simpa using h
  obtain⟨Gc,hGc⟩:=qE (grownCap w n 0 21);rw[<- hGc] at hrz hG hG63
  have HO:Hid ((w.drew.alloc (.cells (([]:List Value).toArray++Builtin.zeroCells (Value.int .i32 0).cells n++Builtin.zeroCells (Value.int .i32 0).cells (Gc-n)) 21)).ownsRow w.heap.size 21 1 (.slice (some ⟨w.heap.size,0,none⟩) 0 Gc) 0 []) :=
   World.ownsRow_made w.drew _ Gc qN hG63 (by simp[Builtin.zeroCells,Value.cells];omega)
  have HB:Hid (Bl w (w.drew.alloc (.cells (([]:List Value).toArray++Builtin.zeroCells (Value.int .i32 0).cells n++Builtin.zeroCells (Value.int .i32 0).cells (Gc-n)) 21))):=(qR w).drew.alloc qN _;generalize (w.drew.alloc (.cells (([]:List Value).toArray++Builtin.zeroCells (Value.int .i32 0).cells n++Builtin.zeroCells (Value.int .i32 0).cells (Gc-n)) 21))=W at *;unfold maxLen at hG63;clear hGc
  go_enter func180,ntmps180
  go_wp2_with (at_builtin;refine Lib.wpList_append_run _ rfl _ _ _ _ rfl _ _ rfl rfl _ _ (hrz _) ?_)
  all_goals
   go_ret;exact⟨_,rfl,HO.out,HB.out⟩
theorem zju (w:World)(b:Nat)(v1 v2:Value)(z1 z2:List Int)(c1:w.cell? ⟨b,0,none⟩=some v1)(c2:w.cell? ⟨b,1,none⟩=some v2)(R1:L.Rd w v1 .i32 z1)(R2:L.Rd w v2 .i32 z2)(hl:z1.length+z2.length<=4000) :
  Calls prog 159 #[.slice (some ⟨b,0,none⟩) 2 2] w fun e w'=>∃v,e=.returned v/\w'.ownsRow w.heap.size 21 1 v (z1++z2).length ((z1++z2).map (Value.int .i32))/\Bl w w':=by
 obtain⟨i0,hi,hz0,hz1,hz2⟩:=info_parts Tryz.infoI32;have HR1:=qH R1;have HR2:=qH R2;obtain⟨a1,k1,rfl,_⟩:=R1;obtain⟨a2,k2,rfl,_⟩:=R2;have hb:=L.block_lt c1
 go_enter func159,ntmps159
 go_wp2;refine wp_loop_rounds 3 ?_
 rw[rounds_succ];go_wp2;rw[rounds_succ];go_wp2;rw[rounds_succ];go_wp2_with fail;have hgr:=zok w (z1.length+z2.length) (by omega);rw[Int.natCast_add] at hgr;refine hgr.mono ?_;clear hgr;rintro e W ⟨v,rfl,own,hbl⟩;have HO:=qH own;have HB:=qH hbl;have d1:W.cell? ⟨b,0,none⟩=some (.slice a1 z1.length k1):=by rw[hbl.cell (p:=⟨b,0,none⟩) hb];exact c1
 have d2:W.cell? ⟨b,1,none⟩=some (.slice a2 z2.length k2):=by rw[hbl.cell (p:=⟨b,1,none⟩) hb];exact c2
 have HC2:=qH c2;clear own hbl c1 c2;go_wp2;refine wp_loop_rounds 3 ?_;rw[rounds_succ]
 go_wp2_with (at_builtin;go_must (refine L.zbd rfl _ _ 42 rfl w.heap.size 21 i0 .i32 4 underlying42 hi hz0 hz1 hz2 _ _ _ rfl HO.out _ z1 rfl (HR1.out.below HB.out qN) (by unfold maxLen;omega) (by omega) HB.out.size ?_;intro v' W1 own1 grown1))
 have HO1:=qH own1;have HB1:=qH<|HB.out.grown grown1 HB.out.size fun k hk=>(HO.out.lt k hk).1
 have f2:W1.cell? ⟨b,1,none⟩=some (.slice a2 z2.length k2):=by rw[HB1.out.cell (p:=⟨b,1,none⟩) hb];exact HC2.out
 clear own1 grown1 d1 d2;rw[rounds_succ]
 go_wp2_with (at_builtin;go_must (refine L.zbd rfl _ _ 42 rfl w.heap.size 21 i0 .i32 4 underlying42 hi hz0 hz1 hz2 _ _ _ rfl HO1.out _ z2 rfl (HR2.out.below HB1.out qN) (by unfold maxLen;omega) (by omega) HB1.out.size ?_;intro v'' W2 own2 grown2))
 have HO2:=qH own2;have HB2:=qH<|HB1.out.grown grown2 HB1.out.size fun k hk=>(HO1.out.lt k hk).1
 clear own2 grown2 f2;rw[rounds_succ];go_wp2;go_ret;refine⟨_,rfl,?_,HB2.out⟩;have h:=HO2.out;rw[show 0+z1.length+z2.length=(z1++z2).length by simp,show []++z1.map (Value.int .i32)++z2.map (Value.int .i32)=(z1++z2).map (Value.int .i32) by simp] at h;exact h
namespace Gm
theorem Tx.rdA {B:Gm.Bs}{g:Nat}{ao:Option Addr}{cur A Z:List Int}{w:World}(h:Tx B g ao cur A Z w)(c:Nat)(hc:ao=none->c=0):L.Rd w (.slice ao A.length c) .i32 A :=
 ⟨ao,c,rfl,hc,fun hz=>by
  obtain⟨b,so,hao,hcell⟩:=h.cellsA (List.length_pos_iff.2 hz)
  exact⟨b,so,hao,fun j z hj=>hcell j z hj⟩⟩
theorem Tx.rdZ {B:Gm.Bs}{g:Nat}{ao:Option Addr}{cur A Z:List Int}{w:World}(h:Tx B g ao cur A Z w){T:Nat}(hT:T=cur.length-Z.length):L.Rd w (.slice (if cur.length=T then ao else Option.map (fun x=>x.add T) ao) (cur.length-T) (cur.length-T)) .i32 Z:=by
 have hf:=h.fit;have hl:cur.length-T=Z.length:=by omega
 refine⟨_,_,by rw[hl],fun e=> ?_,fun hz=> ?_⟩
 ·rcases h.room with ⟨_,hc⟩|⟨r,hr,_⟩
  ·have:cur.length=0:=by rw[hc];rfl
   omega
  ·rw[hr] at e;split at e <;> cases e
 ·obtain⟨r,hr,hc⟩:=h.cellsZ hT (List.length_pos_iff.2 hz);have:=List.length_pos_iff.2 hz;rw[if_neg (by omega),hr];exact⟨r,T,by rw[Option.map_some,L.addr_add,Nat.zero_add],fun j z hj=>hc j z hj⟩
theorem keep3b {w w':World}{o:Obj}{g:Nat}{v0 v1 v2:Value}(h:Bx3 w g v0 v1 v2)(hb:Below (w.alloc o).drew.heap.size (w.alloc o).drew w'):(w'.cell? ⟨g,0,none⟩=some v0/\w'.cell? ⟨g,1,none⟩=some v1)/\w'.cell? ⟨g,2,none⟩=some v2 :=
 have hb':Bx3 w' g v0 v1 v2:=h.block ((hb.block g (by have:=h.lt;show g<(w.alloc o).heap.size;simp;omega)).trans (Below.heap_alloc w o g h.lt))
 ⟨⟨hb'.c0,hb'.c1⟩,hb'.c2⟩
end Gm
theorem zmf (w:World)(B:Gm.Bs)(g:Nat)(ao:Option Addr)(cur A Z:List Int)(h:Gm.Tx B g ao cur A Z w) :
  Calls prog 146 #[.pointer (some ⟨g,0,none⟩)] w fun e w'=>∃v,e=.returned v/\w'.ownsRow w.heap.size 21 1 v (A++Z).length ((A++Z).map (Value.int .i32))/\Bl w w':=by
 have hf:=h.fit;have hm:=h.most;have hw:=h.few;have c0:=h.box.c0;have c1:=h.box.c1;have c2:=h.box.c2;have H:=qH h;have hgl:=h.box.lt;obtain⟨T,hT⟩:∃T:Nat,T=cur.length-Z.length:=⟨_,rfl⟩;have HT:=qH hT;rw[<- hT] at c2;have hT0:(0:Int)<=T:=by omega
 have hT1:(T:Int)<=cur.length:=by omega
 have hA0:(0:Int)<=A.length:=by omega
 have hA1:(A.length:Int)<=cur.length:=by omega
 have n0:=World.new_ne w _ c0;have n1:=World.new_ne w _ c1;have n2:=World.new_ne w _ c2
 have HC:Hid (∀v2,(∀o,L.Rd (w.alloc o).drew v2 .i32 Z)->Calls prog 159 #[.slice (some ⟨w.heap.size,0,none⟩) 2 2] (w.alloc (.cells #[.slice ao A.length cur.length,v2] 42)).drew fun e w'=>∃v,e=.returned v/\w'.ownsRow w.heap.size 21 1 v (A++Z).length ((A++Z).map (Value.int .i32))/\Below (w.alloc (.cells #[.slice ao A.length cur.length,v2] 42)).drew.heap.size (w.alloc (.cells #[.slice ao A.length cur.length,v2] 42)).drew w'):=by
  intro v2 h2;have hx:∀o,Gm.Tx B g ao cur A Z (w.alloc o).drew:=fun o=>h.kept fun k hk=>Below.heap_alloc w o k hk
  refine(zju _ _ (.slice ao A.length cur.length) v2 _ _ ?_ ?_ ((hx _).rdA cur.length fun e=> ?_) (h2 _) hw).mono fun e w' ⟨v,he,ho,hb⟩=>⟨v,he,L.zbj ho (by show w.heap.size<=(w.alloc _).heap.size;simp),hb⟩
  ·exact World.cell?_alloc_at _ _ _ _ (by simp)
  ·exact World.cell?_alloc_at _ _ _ _ (by simp)
  ·rcases h.room with ⟨_,hc⟩|⟨r,hr,_⟩
   ·rw[hc];rfl
   ·rw[e] at hr;cases hr
 have HZ:=qH<|fun o =>
  have hx:Gm.Tx B g ao cur A Z (w.alloc o).drew:=h.kept fun k hk=>Below.heap_alloc w o k hk
  hx.rdZ hT
 clear h hT;obtain⟨m,hmT⟩:∃m:Nat,m=cur.length-T:=⟨_,rfl⟩;obtain⟨ap,hap⟩:=qE ((if cur.length=T then ao else Option.map (fun x=>x.add T) ao));rw[<- hmT,<- hap] at HZ
 have hsl:∀w',(Instr.slice 42 (.slice ao cur.length cur.length) (some (.int .i64 (T:Int))) none none).run prog w'=.ok (.slice ap m m) w':=fun w'=>by
  rw[hmT,hap]
  go_simp
 clear hmT hap
 go_enter func146,ntmps146
 go_wp2
 go_region_held3 (fun w'=>(w'.cell? ⟨g,0,none⟩=some (.slice ao cur.length cur.length)/\w'.cell? ⟨g,1,none⟩=some (.int .i64 A.length))/\w'.cell? ⟨g,2,none⟩=some (.int .i64 T)) (first|exact Gm.keep3b (Gm.Bx3.toT H.out.box HT.out) bw|go_keep) (first|(go_at_call 159;refine(HC.out _ HZ.out).mono ?_;rintro e w' ⟨v,rfl,rv,bw⟩))
 have HV:=qH rv;have HB:=qH<|((qR w).alloc qN _).drew.trans (bw.mono (by show w.heap.size<=(w.alloc _).heap.size;simp));clear rv bw HC;go_wp2
 all_goals
  go_ret;exact⟨_,rfl,HV.out,HB.out⟩
end
namespace K
open Go.RowKit
def spl (cur:List Value) (o:Nat) (vs:List Value):List Value:=cur.take o++vs++cur.drop (o+vs.length)
def Row (w:World) (g:Nat) (cur:List Value):Prop:=w.heap[g]?=some (.cells cur.toArray 21 (0,0))
theorem Row.lt {w:World}{g:Nat}{cur:List Value}(h:Row w g cur):g<w.heap.size:=(qA.1 h).1
theorem Row.cell {w:World}{g:Nat}{cur:List Value}(h:Row w g cur)(j:Nat):w.cell? ⟨g,j,none⟩=cur[j]?:=by
 simp[World.cell?,show w.heap[g]?=_ from h]
theorem Row.free {w:World}{g:Nat}{cur:List Value}(h:Row w g cur)(j:Nat):w.frozen? ⟨g,j,none⟩=false:=frozen_of_row w g j _ _ h
theorem Row.set {w:World}{g:Nat}{cur:List Value}(h:Row w g cur)(cur':List Value):Row (w.setRow g cur'.toArray) g cur':=setRow_heap w g _ _ _ _ h
theorem zak (w:World)(g:Nat)(c:Array Value):w.grownBy (w.setRow g c) (some g):=⟨rfl,rfl,rfl,by simp,fun k _ hk=>setRow_other w g k c fun e=>hk (by rw[e])⟩
theorem Row.drew {w:World}{g:Nat}{cur:List Value}(h:Row w g cur):Row w.drew g cur:=h
theorem Row.block {w w':World}{g:Nat}{cur:List Value}(h:Row w g cur)(e:w'.heap[g]?=w.heap[g]?):Row w' g cur:=e.trans h
theorem Row.cells {g:Nat}:∀(vs:List Value) {w:World} {cur:List Value} {o:Nat},Row w g cur->o+vs.length<=cur.length->Row (w.setCells g o vs) g (spl cur o vs)/\w.grownBy (w.setCells g o vs) (some g)
 | [],w,cur,o,h,_=>⟨by rw[World.setCells];simpa [spl] using h,⟨rfl,rfl,rfl,qN,fun _ _ _=>rfl⟩⟩
 | v::r,w,cur,o,h,hl=>by
  rw[List.length_cons] at hl
  have h1:Row (w.setCell ⟨g,o,none⟩ v) g (cur.set o v):=by
   have:=heap_setCell_same w g o _ _ v h;unfold Row;rw[this];simp
  obtain⟨h2,h3⟩:=Row.cells r h1 (o:=o+1) (by simp;omega)
  have e:spl (cur.set o v) (o+1) r=spl cur o (v::r):=by
   unfold spl
   have e1:(cur.set o v).take (o+1)=cur.take o++ [v]:=by
    rw[List.take_add_one,List.take_set_of_le (Nat.le_refl o),List.getElem?_set_self (by omega)];rfl
   rw[e1,List.drop_set_of_lt (by omega),List.length_cons];simp[Nat.add_assoc,Nat.add_comm 1]
  rw[World.setCells];rw[e] at h2;refine⟨h2,h3.os,h3.tape,h3.output,by simpa using h3.size,fun k hk hne=> ?_⟩;rw[h3.block k (by simpa using hk) hne];exact heap_setCell_other _ ⟨g,o,none⟩ k _ fun e=>hne (by simp[e])
/-! copy and clear, by their runs, at a step of a walk -/
end K
