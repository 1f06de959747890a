import Derived.Test.YthnmmmkeamcfkaaGreatDoorXRun
import Derived.Lib.AppendZerosOnto
import Derived.ArgAppend
import Derived.Deep.Upon
import Derived.Lib.Overlaps
import Derived.Lib.SliceRun
set_option maxHeartbeats 0
set_option maxRecDepth 20000
namespace Go.Proofs.YthnmmmkeamcfkaaGreatDoor
open Go.Proofs.Tryz
section
open Go.RowKit Go.Shelf
set_option linter.unusedSimpArgs false
set_option linter.unusedVariables false
theorem Gm.idle {w:World}{r:Nat}{x y:Value}{ty:TypeId}(h:w.heap[r]?=some (.cells #[x,y] ty)):Below w.heap.size w ((w.setCell ⟨r,0,none⟩ x).setCell ⟨r,1,none⟩ y):=by
 refine⟨rfl,rfl,rfl,by simp,fun k hk=> ?_⟩
 by_cases e:k=r
 ·subst e;rw[h];exact heap_setCell_same _ k 1 _ _ y (heap_setCell_same w k 0 _ _ x h)
 ·rw[heap_setCell_other _ ⟨r,1,none⟩ k y (by simpa using e),heap_setCell_other _ ⟨r,0,none⟩ k x (by simpa using e)]
def Gm.Vm (wb w':World) (v:Value) (l:List K.Rule) (t:List Int) (ob:Nat) (mp:Value) (f1 f2:Int):Prop :=
 ∃o:List J.Hd×Int×Int,Gm.Chk l t o/\((o.2.1≠0/\mp= .pointer none/\f1=o.2.1/\f2=o.2.2)∨(o.2.1=0/\∃p1 p2 p3 p4,K.play l (8*t.length+40) [] t 0 0=(p1,p2,p3,p4)/\f1=p1/\f2=0 /\
  ((p1≠0/\mp= .pointer none)∨(p1=0/\∃mb,mp= .pointer (some ⟨mb,0,none⟩)/\w'.heap[ob]?=some (.cells #[.slice none 0 0,.int .i64 p3,.int .i64 p4] 58)/\∃b g vh c,ob<b/\mb≠ob/\Gm.Mx b [mb] mb wb w' g v vh l c p2 []))))
theorem zjn (wb w:World)(v:Value)(l:List K.Rule)(hwb:Below wb.heap.size wb w)(R0:V.Rus wb v l)(vt:Value)(t:List Int)(Rt:L.Rd w vt .i32 t)(ht:t.length<=140737488355328)(ob:Nat)(hob:wb.heap.size<=ob)(hout:w.heap[ob]?=some (.cells #[.slice none 0 0,.int .i64 0,.int .i64 0] 58)) :
  Calls prog 151 #[v,vt,.func (.func 201) #[] #[.pointer (some ⟨ob,0,none⟩)]] w fun e w'=>∃mp f1 f2,e= .returned (.tuple #[mp,.agg #[.int .i64 f1,.int .i64 f2]])/\Below wb.heap.size wb w'/\Gm.Vm wb w' v l t ob mp f1 f2:=by
 have eg:∀args w,(callFunc 201 args).run prog w= .ok (.enter 201 args) w:=enters_of func201 (by kernel_rfl) rfl;have hobl:=lt_of_block hout;have hsb:=hwb.size;have HA:=qH <| fun o=>(qR w).alloc qN o
 have HRe:=qH <| fun o=>zmr wb (w.alloc o) v l (hwb.trans ((HA.out o).mono hsb)) R0 vt t (Rt.below (HA.out o) qN) ht
 have HWB:=qH hwb;have HOut:=qH hout;obtain⟨va,vc,rfl⟩:=R0.len;clear R0 Rt hwb hout
 go_enter func151,ntmps151
 go_wp2_with fail
 refine(HRe.out _).mono ?_;rintro e w1 ⟨⟨hs,e1,e2⟩,hch,b1,⟨hq,rfl⟩|⟨hq,mb,rfl,hrdy⟩⟩
 ·obtain⟨h1,B1,s1⟩:=K.zau b1;have HCh:=qH hch;have HB2:=qH <| fun o=>B1.alloc (by omega) o
  obtain⟨x0,x1,f0,f1⟩:=K.box2 h1;have k0:=fun o=>K.zai x0 o
  have k1:=fun o=>K.zai x1 o
  have g0:=fun o=>K.zao h1 o 0
  have g1:=fun o=>K.zao h1 o 1
  have hq':¬e1=0:=hq;clear b1 B1 HRe x0 x1 f0 f1 h1 hch hq;go_wp2
  go_region
  go_wp2;refine bodyPost_ret (v:= .tuple #[.pointer none,.agg #[.int .i64 e1,.int .i64 e2]]) (by simp[results,results151,go_sem, *]) rfl ?_
  exact⟨_,_,_,rfl,HWB.out.trans (((((HB2.out _).setCell (p:=⟨w.heap.size,0,none⟩) qN _).setCell (p:=⟨w.heap.size,1,none⟩) qN _).drew).mono hsb),_,HCh.out,.inl ⟨hq',rfl,rfl,rfl⟩⟩
 ·obtain⟨h1,B1,s1⟩:=K.zau b1;have hq':e1=0:=hq;subst hq';have HCh:=qH hch;obtain⟨b,g,vh,c,hb1,hb2,hMx,hok,hall,hhd⟩:=hrdy;have hsz:(w.alloc (.cells #[.int .i64 0,.int .i64 0] 38)).heap.size=w.heap.size+1:=by simp
  have hbt:=hMx.top;have hmlt:=hMx.old mb (by simp);obtain⟨⟨p1,p2,p3,p4⟩,hO⟩:∃o,K.play l (8*t.length+40) [] t 0 0=o:=⟨_,rfl⟩
  have HPl:Hid (∀o,Calls prog 190 #[.pointer (some ⟨mb,0,none⟩),.func (.func 201) #[] #[.pointer (some ⟨ob,0,none⟩)]] (w1.alloc o) fun e w'=>e= .returned (.int .i64 p1)/\Below wb.heap.size wb w'/\w'.heap[w.heap.size]?=some (.cells #[.int .i64 0,.int .i64 0] 38)/\(p1=0->Gm.Mx b [mb] mb wb w' g (.slice va l.length vc) vh l c p2 []/\w'.heap[ob]?=some (.cells #[.slice none 0 0,.int .i64 p3,.int .i64 p4] 58))):=fun o=>by
   have hal:=(qR w1).alloc qN o;have hbo:=(hal.block ob (by omega)).trans ((B1.block ob hobl).trans HOut.out);have hbr:(w1.alloc o).heap[w.heap.size]?=some (.cells #[.int .i64 0,.int .i64 0] 38):=K.zae h1 hal;refine(zo1 b mb wb (w1.alloc o) g _ vh l c t (hMx.below hal) hok hall (Gm.Cb b ob w.heap.size (.cells #[.int .i64 0,.int .i64 0] 38) vh l c) ⟨⟨hbo,fun W' hW'=>hhd W' fun j hj1 hj2=> ?_⟩,hbr⟩ (fun W W' s p hC hB=>hC.keep (by omega) (by omega) hB) 201 #[.pointer (some ⟨ob,0,none⟩)] eg (Gm.zso hob (by omega) (by omega) (by omega) (HCh.out.ok).1) p1 p2 p3 p4 hO).mono ?_
   ·rw[hW' j hj2 (by omega)];exact hal.block j (by omega)
   ·rintro e w' ⟨h1,h2,⟨s,p,hC⟩,h3⟩;exact⟨h1,h2,hC.2,fun h=>⟨(h3 h).1,(h3 h).2.1.1⟩⟩
  obtain⟨ht4,_,rfl,_⟩:=HCh.out.ok;have HO:=qH hO;have hobb:ob<b:=by omega
  have hmo:mb≠ob:=by omega
  have hss:=b1.size;clear b1 B1 HRe h1 hch hq hMx hok hall hhd hO HOut
  go_wp2_with fail
  go_at_call 190
  refine(HPl.out _).mono ?_;rintro e w2 ⟨rfl,hB2,hbx,hfin⟩;have HB2:=qH hB2;have HF:=qH hfin;obtain⟨x0,x1,f0,f1⟩:=K.box2 hbx;have HBx:=qH hbx;clear HPl hB2 hfin hbx
  by_cases q:p1=0
  ·subst q;obtain⟨hM,hOb⟩:=HF.out rfl;have HM:=qH hM;have HOb:=qH hOb;clear hM hOb HF;go_wp2;refine bodyPost_ret (v:= .tuple #[.pointer (some ⟨mb,0,none⟩),.agg #[.int .i64 0,.int .i64 0]]) (by simp[results,results151,go_sem, *]) rfl ?_;have hid:=Gm.idle HBx.out;exact⟨_,_,_,rfl,HB2.out.trans (hid.mono (by have:=HB2.out.size;omega)),_,HCh.out,.inr ⟨rfl,0,p2,p3,p4,HO.out,rfl,rfl,.inr ⟨rfl,mb,rfl,K.zae HOb.out hid,b,g,vh,c,hobb,hmo,HM.out.below hid⟩⟩⟩
  ·clear HF;go_wp2;refine bodyPost_ret (v:= .tuple #[.pointer none,.agg #[.int .i64 p1,.int .i64 0]]) (by simp[results,results151,go_sem, *]) rfl ?_;exact⟨_,_,_,rfl,(HB2.out.setCell (p:=⟨w.heap.size,0,none⟩) hsb _).setCell (p:=⟨w.heap.size,1,none⟩) hsb _,_,HCh.out,.inr ⟨rfl,p1,p2,p3,p4,HO.out,rfl,rfl,.inl ⟨q,rfl⟩⟩⟩
end
section
open Go.RowKit Go.Lib
attribute [local go_sem ↓] Go.wp_at_zero Go.wp_at_succ
theorem zo6 (w:World)(n:Nat)(hn:n<=8000) :
  Calls prog 203 #[.slice none 0 0,.int .i64 n] w fun e w'=>∃v,e= .returned v/\w'.ownsRow w.heap.size 21 1 v 0 []/\Below w.heap.size w w':=by
 by_cases h0:n=0
 ·subst h0
  go_enter func203,ntmps203
  go_wp2;go_ret
  exact⟨_,rfl,World.ownsRow_nil _ _ _ _,qR _⟩
 ·obtain⟨i0,hi,hz0,hz1,hz2⟩:=info_parts Tryz.infoI32;have hG:n<=grownCap w n 0 21:=grownCap_ge w _ _ _;have hG63:=grownCap_le_maxLen w n 0 21 (by unfold maxLen;omega)
  have hrz:∀ty,(Builtin.append_ #[33,3] ty #[.slice none 0 0,.int .i64 (n:Int)]).run prog w =
    .ok (.slice (some ⟨w.heap.size,0,none⟩) n (grownCap w n 0 21)) (w.drew.alloc (.cells (([]:List Value).toArray++Builtin.zeroCells (Value.int .i32 0).cells n++Builtin.zeroCells (Value.int .i32 0).cells (grownCap w n 0 21 - n)) 21)):=fun ty=>by
   have h:=Lib.run_append_grow_zeros w 33 3 ty 21 i0 (.int .i32 0) .i64 .i64 underlying33 underlying3 hi hz0 none 0 0 [] (run_firstCells_none w.drew i0.size 0 0 0) n (by omega) (by omega) (by omega) (by omega)
    (by rw[hz2];omega) (by rw[hz2];exact growslice_fits (by omega) (by omega))
   simpa using h
  obtain⟨Gc,hGc⟩:∃Gc,Gc=grownCap w n 0 21:=⟨_,rfl⟩;rw[<- hGc] at hrz hG hG63
  have HO:Hid ((w.drew.alloc (.cells (([]:List Value).toArray++Builtin.zeroCells (Value.int .i32 0).cells n++Builtin.zeroCells (Value.int .i32 0).cells (Gc - n)) 21)).ownsRow w.heap.size 21 1 (.slice (some ⟨w.heap.size,0,none⟩) 0 Gc) 0 []) :=
   World.ownsRow_made w.drew _ Gc qN hG63 (by simp[Builtin.zeroCells,Value.cells];omega)
  have HB:Hid (Below w.heap.size w (w.drew.alloc (.cells (([]:List Value).toArray++Builtin.zeroCells (Value.int .i32 0).cells n++Builtin.zeroCells (Value.int .i32 0).cells (Gc - n)) 21))):=(qR w).drew.alloc qN _;generalize (w.drew.alloc (.cells (([]:List Value).toArray++Builtin.zeroCells (Value.int .i32 0).cells n++Builtin.zeroCells (Value.int .i32 0).cells (Gc - n)) 21))=W at *;unfold maxLen at hG63;clear hGc
  go_enter func203,ntmps203
  go_wp2_with (at_builtin;refine Lib.wpList_append_run _ rfl _ _ _ _ rfl _ _ rfl rfl _ _ (hrz _) ?_)
  all_goals
   go_ret;exact⟨_,rfl,HO.out,HB.out⟩
theorem zjr (w:World)(b:Nat)(v1 v2:Value)(z1 z2:List Int)(c1:w.cell? ⟨b,0,none⟩=some v1)(c2:w.cell? ⟨b,1,none⟩=some v2)(R1:L.Rd w v1 .i32 z1)(R2:L.Rd w v2 .i32 z2)(hl:z1.length+z2.length<=4000) :
  Calls prog 178 #[.slice (some ⟨b,0,none⟩) 2 2] w fun e w'=>∃v,e= .returned v/\w'.ownsRow w.heap.size 21 1 v (z1++z2).length ((z1++z2).map (Value.int .i32))/\Below w.heap.size w w':=by
 obtain⟨i0,hi,hz0,hz1,hz2⟩:=info_parts Tryz.infoI32;have HR1:=qH R1;have HR2:=qH R2;obtain⟨a1,k1,rfl,_⟩:=R1;obtain⟨a2,k2,rfl,_⟩:=R2;have hb:=L.block_lt c1
 go_enter func178,ntmps178
 go_wp2;refine wp_loop_rounds 3 ?_
 rw[rounds_succ];go_wp2;rw[rounds_succ];go_wp2;rw[rounds_succ];go_wp2_with fail;have hgr:=zo6 w (z1.length+z2.length) (by omega);rw[Int.natCast_add] at hgr;refine hgr.mono ?_;clear hgr;rintro e W ⟨v,rfl,own,hbl⟩;have HO:=qH own;have HB:=qH hbl;have d1:W.cell? ⟨b,0,none⟩=some (.slice a1 z1.length k1):=by rw[hbl.cell (p:=⟨b,0,none⟩) hb];exact c1
 have d2:W.cell? ⟨b,1,none⟩=some (.slice a2 z2.length k2):=by rw[hbl.cell (p:=⟨b,1,none⟩) hb];exact c2
 have HC2:=qH c2;clear own hbl c1 c2;go_wp2;refine wp_loop_rounds 3 ?_;rw[rounds_succ]
 go_wp2_with (at_builtin;go_must (refine L.za2 rfl _ _ 33 rfl w.heap.size 21 i0 .i32 4 underlying33 hi hz0 hz1 hz2 _ _ _ rfl HO.out _ z1 rfl (HR1.out.below HB.out qN) (by unfold maxLen;omega) (by omega) HB.out.size ?_;intro v' W1 own1 grown1))
 have HO1:=qH own1;have HB1:=qH <| HB.out.grown grown1 HB.out.size fun k hk=>(HO.out.lt k hk).1
 have f2:W1.cell? ⟨b,1,none⟩=some (.slice a2 z2.length k2):=by rw[HB1.out.cell (p:=⟨b,1,none⟩) hb];exact HC2.out
 clear own1 grown1 d1 d2;rw[rounds_succ]
 go_wp2_with (at_builtin;go_must (refine L.za2 rfl _ _ 33 rfl w.heap.size 21 i0 .i32 4 underlying33 hi hz0 hz1 hz2 _ _ _ rfl HO1.out _ z2 rfl (HR2.out.below HB1.out qN) (by unfold maxLen;omega) (by omega) HB1.out.size ?_;intro v'' W2 own2 grown2))
 have HO2:=qH own2;have HB2:=qH <| HB1.out.grown grown2 HB1.out.size fun k hk=>(HO1.out.lt k hk).1
 clear own2 grown2 f2;rw[rounds_succ];go_wp2;go_ret;refine⟨_,rfl,?_,HB2.out⟩;have h:=HO2.out;rw[show 0+z1.length+z2.length=(z1++z2).length by simp,show []++z1.map (Value.int .i32)++z2.map (Value.int .i32)=(z1++z2).map (Value.int .i32) by simp] at h;exact h
namespace Gm
theorem Tx.rdA {B:Gm.Bs}{g:Nat}{ao:Option Addr}{cur A Z:List Int}{w:World}(h:Tx B g ao cur A Z w)(c:Nat)(hc:ao=none->c=0):L.Rd w (.slice ao A.length c) .i32 A :=
 ⟨ao,c,rfl,hc,fun hz=>by
  obtain⟨b,so,hao,hcell⟩:=h.cellsA (List.length_pos_iff.2 hz)
  exact⟨b,so,hao,fun j z hj=>hcell j z hj⟩⟩
theorem Tx.rdZ {B:Gm.Bs}{g:Nat}{ao:Option Addr}{cur A Z:List Int}{w:World}(h:Tx B g ao cur A Z w){T:Nat}(hT:T=cur.length - Z.length):L.Rd w (.slice (if cur.length=T then ao else Option.map (fun x=>x.add T) ao) (cur.length - T) (cur.length - T)) .i32 Z:=by
 have hf:=h.fit;have hl:cur.length - T=Z.length:=by omega
 refine⟨_,_,by rw[hl],fun e=> ?_,fun hz=> ?_⟩
 ·rcases h.room with ⟨_,hc⟩|⟨r,hr,_⟩
  ·have:cur.length=0:=by rw[hc];rfl
   omega
  ·rw[hr] at e;split at e <;> cases e
 ·obtain⟨r,hr,hc⟩:=h.cellsZ hT (List.length_pos_iff.2 hz);have:=List.length_pos_iff.2 hz;rw[if_neg (by omega),hr];exact⟨r,T,by rw[Option.map_some,L.addr_add,Nat.zero_add],fun j z hj=>hc j z hj⟩
theorem keep3b {w w':World}{o:Obj}{g:Nat}{v0 v1 v2:Value}(h:Bx3 w g v0 v1 v2)(hb:Below (w.alloc o).drew.heap.size (w.alloc o).drew w'):(w'.cell? ⟨g,0,none⟩=some v0/\w'.cell? ⟨g,1,none⟩=some v1)/\w'.cell? ⟨g,2,none⟩=some v2 :=
 have hb':Bx3 w' g v0 v1 v2:=h.block ((hb.block g (by have:=h.lt;show g<(w.alloc o).heap.size;simp;omega)).trans (Below.heap_alloc w o g h.lt))
 ⟨⟨hb'.c0,hb'.c1⟩,hb'.c2⟩
end Gm
theorem zmq (w:World)(B:Gm.Bs)(g:Nat)(ao:Option Addr)(cur A Z:List Int)(h:Gm.Tx B g ao cur A Z w) :
  Calls prog 202 #[.pointer (some ⟨g,0,none⟩)] w fun e w'=>∃v,e= .returned v/\w'.ownsRow w.heap.size 21 1 v (A++Z).length ((A++Z).map (Value.int .i32))/\Below w.heap.size w w':=by
 have hf:=h.fit;have hm:=h.most;have hw:=h.few;have c0:=h.box.c0;have c1:=h.box.c1;have c2:=h.box.c2;have H:=qH h;have hgl:=h.box.lt;obtain⟨T,hT⟩:∃T:Nat,T=cur.length - Z.length:=⟨_,rfl⟩;have HT:=qH hT;rw[<- hT] at c2;have hT0:(0:Int)<=T:=by omega
 have hT1:(T:Int)<=cur.length:=by omega
 have hA0:(0:Int)<=A.length:=by omega
 have hA1:(A.length:Int)<=cur.length:=by omega
 have n0:=World.new_ne w _ c0;have n1:=World.new_ne w _ c1;have n2:=World.new_ne w _ c2
 have HC:Hid (∀v2,(∀o,L.Rd (w.alloc o).drew v2 .i32 Z)->Calls prog 178 #[.slice (some ⟨w.heap.size,0,none⟩) 2 2] (w.alloc (.cells #[.slice ao A.length cur.length,v2] 33)).drew fun e w'=>∃v,e= .returned v/\w'.ownsRow w.heap.size 21 1 v (A++Z).length ((A++Z).map (Value.int .i32))/\Below (w.alloc (.cells #[.slice ao A.length cur.length,v2] 33)).drew.heap.size (w.alloc (.cells #[.slice ao A.length cur.length,v2] 33)).drew w'):=by
  intro v2 h2;have hx:∀o,Gm.Tx B g ao cur A Z (w.alloc o).drew:=fun o=>h.kept fun k hk=>Below.heap_alloc w o k hk
  refine(zjr _ _ (.slice ao A.length cur.length) v2 _ _ ?_ ?_ ((hx _).rdA cur.length fun e=> ?_) (h2 _) hw).mono fun e w' ⟨v,he,ho,hb⟩=>⟨v,he,L.zbz ho (by show w.heap.size<=(w.alloc _).heap.size;simp),hb⟩
  ·exact World.cell?_alloc_at _ _ _ _ (by simp)
  ·exact World.cell?_alloc_at _ _ _ _ (by simp)
  ·rcases h.room with ⟨_,hc⟩|⟨r,hr,_⟩
   ·rw[hc];rfl
   ·rw[e] at hr;cases hr
 have HZ:=qH <| fun o =>
  have hx:Gm.Tx B g ao cur A Z (w.alloc o).drew:=h.kept fun k hk=>Below.heap_alloc w o k hk
  hx.rdZ hT
 clear h hT;obtain⟨m,hmT⟩:∃m:Nat,m=cur.length - T:=⟨_,rfl⟩;obtain⟨ap,hap⟩:∃ap,ap=(if cur.length=T then ao else Option.map (fun x=>x.add T) ao):=⟨_,rfl⟩;rw[<- hmT,<- hap] at HZ
 have hsl:∀w',(Instr.slice 33 (.slice ao cur.length cur.length) (some (.int .i64 (T:Int))) none none).run prog w'= .ok (.slice ap m m) w':=fun w'=>by
  rw[hmT,hap]
  go_simp
 clear hmT hap
 go_enter func202,ntmps202
 go_wp2
 go_region_held3 (fun w'=>(w'.cell? ⟨g,0,none⟩=some (.slice ao cur.length cur.length)/\w'.cell? ⟨g,1,none⟩=some (.int .i64 A.length))/\w'.cell? ⟨g,2,none⟩=some (.int .i64 T)) (first | exact Gm.keep3b (Gm.Bx3.toT H.out.box HT.out) bw | go_keep) (first | (go_at_call 178;refine(HC.out _ HZ.out).mono ?_;rintro e w' ⟨v,rfl,rv,bw⟩))
 have HV:=qH rv;have HB:=qH <| ((qR w).alloc qN _).drew.trans (bw.mono (by show w.heap.size<=(w.alloc _).heap.size;simp));clear rv bw HC;go_wp2
 all_goals
  go_ret;exact⟨_,rfl,HV.out,HB.out⟩
end
section
open Go.RowKit
theorem Tryz.infoRune:(prog.info? 21).map (fun i=>(i.zero,i.size,i.bytes))=some (some (.int .i32 0),1,4):=by kernel_rfl
end
namespace K
open Go.RowKit
def ints (t:List Int):List Value:=t.map (Value.int .i32)
theorem zam (t:List Int):(ints t).length=t.length:=by simp[ints]
theorem zd0 (t:List Int):∀v∈ints t,v.oneCell'=true:=fun v hv=>by obtain⟨z,_,rfl⟩:=List.mem_map.1 hv;rfl
theorem zc1 {t:List Int}{j:Nat}{v:Value}(h:(ints t)[j]?=some v):∃z,t[j]?=some z/\v= .int .i32 z:=by
 unfold ints at h;rw[List.getElem?_map] at h;cases hz:t[j]? with
 | none=>rw[hz] at h;cases h
 | some z=>rw[hz] at h;cases h;exact⟨z,rfl,rfl⟩
theorem zu0 (w:World)(B:Nat)(v:Value)(t:List Int)(own:w.ownsRow B 21 1 v t.length (ints t))(vx:Value)(zs:List Int)(hx:L.Rd w vx .i32 zs)(hl:t.length+zs.length<=100000000)(hB:B<=w.heap.size) :
  ∃v' w',(∀ty,(Builtin.append_ #[33,33] ty #[v,vx]).run prog w= .ok v' w')/\w'.ownsRow B 21 1 v' (t++zs).length (ints (t++zs))/\w.grownBy w' v.ownBlock/\(v'.ownBlock=v.ownBlock∨∃k,v'.ownBlock=some k/\w.heap.size<=k):=by
 obtain⟨i0,hi,hz0,hz1,hz2⟩:=info_parts Tryz.infoRune;have he:ints (t++zs)=ints t++ints zs:=by unfold ints;rw[List.map_append]
 have hle:(t++zs).length=t.length+zs.length:=List.length_append
 by_cases h0:zs= []
 ·subst h0;obtain⟨ao,cx,rfl,hn,hc⟩:=hx
  obtain⟨vo,vc,rfl,hvc⟩:∃vo vc,v= .slice vo t.length vc/\t.length<=vc:=by
   rcases own.2 with ⟨h,h1⟩|⟨g,cap,cur,h,_,_,h1,_⟩
   ·exact⟨none,0,by rw[h,h1],by omega⟩
   ·exact⟨_,cap,h,h1⟩
  refine⟨_,w,fun ty=> ?_,by simpa using own,⟨rfl,rfl,rfl,qN,fun _ _ _=>rfl⟩,.inl rfl⟩;refine Go.run_append_nothing (P:=prog) w _ _ ty 21 i0 underlying33 hi vo t.length vc hvc _ ?_;cases ao with
  | none=>exact Go.Src.ofNil w underlying33 cx
  | some ad=>exact Go.Src.ofSlice w underlying33 ad 0 cx [] (by simp) (fun j u h=>by simp at h) (fun u h=>by simp at h)
 ·obtain⟨ao,cx,rfl,_,hcx⟩:=hx;obtain⟨bx,offx,rfl,hcellx⟩:=hcx h0;have hp:=List.length_pos_iff.2 h0
  have hnews:∀j u,(ints zs)[j]?=some u->w.cell? ((⟨bx,offx,none⟩:Addr).add j)=some u:=fun j u hj=>by
   obtain⟨z,hz,rfl⟩:=zc1 hj;rw[L.addr_add];exact hcellx j z hz
  have blk:∀(v':Value) (w':World),w'.ownsRow w.heap.size 21 1 v' (t.length+zs.length) (ints t++ints zs)->∃k,v'.ownBlock=some k/\w.heap.size<=k:=fun v' w' h=>by
   rcases h.2 with ⟨_,h1⟩|⟨g,cap,cur,h,hg,_⟩
   ·omega
   ·exact⟨g,by rw[h];rfl,hg⟩
  rw[he,hle];rcases own.2 with ⟨hv,h1⟩|⟨g,cap,cur,hv,hBg,hg,hnc,hcm,hcs,htk⟩
  ·have ht:=List.eq_nil_of_length_eq_zero h1;subst ht hv;obtain⟨v',w',hrun,r1,r2,_⟩:=run_append_own (P:=prog) w w.heap.size 33 0 21 i0 (.int .i32 0) 1 4 underlying33 hi hz0 hz1 hz2 rfl (by decide) (.slice none 0 0) 0 [] (World.ownsRow_nil w _ _ _) ⟨bx,offx,none⟩ zs.length cx (ints zs) (by rw[zam];omega) hnews (zd0 zs) (by unfold maxLen;simp at hl;omega) (by simp at hl;omega) qN;exact⟨v',w',fun ty=>hrun,L.zbz r1 hB,r2,.inr (blk v' w' r1)⟩
  ·subst hv
   by_cases hf:t.length+zs.length<=cap
   ·obtain⟨w',hrun,r1,r2⟩:=run_append_fits (P:=prog) w B 33 0 21 i0 1 underlying33 hi hz1 g t.length cap (ints t) own ⟨bx,offx,none⟩ zs.length cx (ints zs) (by rw[zam];omega) hnews (zd0 zs) hf;exact⟨_,w',fun ty=>hrun,r1,r2,.inl rfl⟩
   ·obtain⟨v',w',hrun,r1,r2⟩:=run_append_arg_grows (P:=prog) w 33 0 21 i0 (.int .i32 0) 1 4 underlying33 hi hz0 hz1 hz2 rfl (by decide) ⟨g,0,none⟩ t.length cap (ints t) (by rw[zam];omega) (fun j u hj=>World.ownsRow.cells own (g:=g) rfl j u hj) ⟨bx,offx,none⟩ zs.length cx (ints zs) (by rw[zam];omega) hnews (by omega) (by unfold maxLen;omega) (by omega);exact⟨v',w',fun ty=>hrun,L.zbz r1 hB,⟨r2.os,r2.tape,r2.output,r2.size,fun k hk _=>r2.block k hk (by simp)⟩,.inr (blk v' w' r1)⟩
end K
namespace K
open Go.RowKit
def spl (cur:List Value) (o:Nat) (vs:List Value):List Value:=cur.take o++vs++cur.drop (o+vs.length)
theorem zba {cur:List Value}{o:Nat}{vs:List Value}(h:o+vs.length<=cur.length):(spl cur o vs).length=cur.length:=by
 unfold spl;simp;omega
theorem zhi {cur:List Value}{o:Nat}{vs:List Value}(h:o<=cur.length):(spl cur o vs).take o=cur.take o:=by
 unfold spl;rw[List.append_assoc,List.take_append_of_le_length (by simp;omega),List.take_take,Nat.min_self]
theorem zdr {cur:List Value}{o:Nat}{vs:List Value}(h:o<=cur.length):(spl cur o vs).take (o+vs.length)=cur.take o++vs:=by
 unfold spl;have:(cur.take o++vs).length=o+vs.length:=by simp;omega
 rw[<- this,List.take_left]
theorem zst {cur:List Value}{o n:Nat}{vs:List Value}(h:o<=cur.length)(hn:o+vs.length<=n):(spl cur o vs).drop n=cur.drop n:=by
 unfold spl;have e:(cur.take o++vs).length=o+vs.length:=by simp;omega
 rw[List.drop_append,List.drop_eq_nil_of_le (by omega),List.nil_append,e,List.drop_drop];congr 1;omega
theorem zj1 {cur:List Value}{o n:Nat}{vs:List Value}(h:o<=cur.length)(hn:n<=o):(spl cur o vs).take n=cur.take n:=by
 have:=congrArg (List.take n) (zhi (vs:=vs) h)
 rwa [List.take_take,List.take_take,Nat.min_eq_left hn] at this
def Row (w:World) (g:Nat) (cur:List Value):Prop:=w.heap[g]?=some (.cells cur.toArray 21 (0,0))
theorem Row.lt {w:World}{g:Nat}{cur:List Value}(h:Row w g cur):g<w.heap.size:=(qA.1 h).1
theorem Row.cell {w:World}{g:Nat}{cur:List Value}(h:Row w g cur)(j:Nat):w.cell? ⟨g,j,none⟩=cur[j]?:=by
 simp[World.cell?,show w.heap[g]?=_ from h]
theorem Row.free {w:World}{g:Nat}{cur:List Value}(h:Row w g cur)(j:Nat):w.frozen? ⟨g,j,none⟩=false:=frozen_of_row w g j _ _ h
theorem Row.set {w:World}{g:Nat}{cur:List Value}(h:Row w g cur)(cur':List Value):Row (w.setRow g cur'.toArray) g cur':=setRow_heap w g _ _ _ _ h
theorem zak (w:World)(g:Nat)(c:Array Value):w.grownBy (w.setRow g c) (some g):=⟨rfl,rfl,rfl,by simp,fun k _ hk=>setRow_other w g k c fun e=>hk (by rw[e])⟩
theorem Row.drew {w:World}{g:Nat}{cur:List Value}(h:Row w g cur):Row w.drew g cur:=h
theorem Row.block {w w':World}{g:Nat}{cur:List Value}(h:Row w g cur)(e:w'.heap[g]?=w.heap[g]?):Row w' g cur:=e.trans h
theorem Row.cells {g:Nat}:∀(vs:List Value) {w:World} {cur:List Value} {o:Nat},Row w g cur->o+vs.length<=cur.length->Row (w.setCells g o vs) g (spl cur o vs)/\w.grownBy (w.setCells g o vs) (some g)
 | [],w,cur,o,h,_=>⟨by rw[World.setCells];simpa [spl] using h,⟨rfl,rfl,rfl,qN,fun _ _ _=>rfl⟩⟩
 | v::r,w,cur,o,h,hl=>by
  rw[List.length_cons] at hl
  have h1:Row (w.setCell ⟨g,o,none⟩ v) g (cur.set o v):=by
   have:=heap_setCell_same w g o _ _ v h;unfold Row;rw[this];simp
  obtain⟨h2,h3⟩:=Row.cells r h1 (o:=o+1) (by simp;omega)
  have e:spl (cur.set o v) (o+1) r=spl cur o (v::r):=by
   unfold spl
   have e1:(cur.set o v).take (o+1)=cur.take o++ [v]:=by
    rw[List.take_add_one,List.take_set_of_le (Nat.le_refl o),List.getElem?_set_self (by omega)];rfl
   rw[e1,List.drop_set_of_lt (by omega),List.length_cons];simp[Nat.add_assoc,Nat.add_comm 1]
  rw[World.setCells];rw[e] at h2;refine⟨h2,h3.os,h3.tape,h3.output,by simpa using h3.size,fun k hk hne=> ?_⟩;rw[h3.block k (by simpa using hk) hne];exact heap_setCell_other _ ⟨g,o,none⟩ k _ fun e=>hne (by simp[e])
theorem Row.copy {w:World}{g:Nat}{cur:List Value}(h:Row w g cur)(o dl dc:Nat)(a:Addr)(sl sc:Nat)(cs:List Value)(hn:cs.length=min sl dl)(hs:∀(j:Nat) v,cs[j]?=some v->w.cell? (a.add j)=some v)(hfit:o+cs.length<=cur.length)(h1:∀v∈cs,v.oneCell'=true) :
  ∃W,(∀ty,(Builtin.copy_ #[33,33] ty #[.slice (some ⟨g,o,none⟩) dl dc,.slice (some a) sl sc]).run prog w= .ok (goInt cs.length) W)/\Row W g (spl cur o cs)/\w.grownBy W (some g):=by
 refine⟨_,fun ty=> ?_,h.set (spl cur o cs),zak _ _ _⟩;obtain⟨i0,hi,hz0,hz1,hz2⟩:=info_parts Tryz.infoRune;exact run_copy_row (P:=prog) w 33 33 ty 21 g o dl dc a sl sc _ _ cs underlying33 (by rw[hi];simp[hz1]) h hn hs (by simpa using hfit) h1
theorem zjc (w:World)(dp sp:Option Addr)(dl c1 c2:Nat)(ty:TypeId):(Builtin.copy_ #[33,33] ty #[.slice dp dl c1,.slice sp 0 c2]).run prog w= .ok (goInt 0) w:=by
 obtain⟨i0,hi,hz0,hz1,hz2⟩:=info_parts Tryz.infoRune;exact run_copy_none w _ _ _ 21 _ _ _ _ _ _ underlying33 (by rw[hi];simp[hz1]) (by simp)
theorem Row.clear {w:World}{g:Nat}{cur:List Value}(h:Row w g cur)(o n c:Nat)(hn:0<n)(hfit:o+n<=cur.length) :
  ∃W,(∀ty,(Builtin.clear_ #[33] ty #[.slice (some ⟨g,o,none⟩) n c]).run prog w= .ok (.tuple #[]) W)/\Row W g (spl cur o (List.replicate n (.int .i32 0)))/\w.grownBy W (some g):=by
 obtain⟨i0,hi,hz0,hz1,hz2⟩:=info_parts Tryz.infoRune;have h2:=Row.cells (List.replicate n (.int .i32 0)) h (o:=o) (by simpa using hfit);refine⟨_,fun ty=> ?_,h2.1,h2.2⟩;exact Lib.run_clear_slice w 33 21 ty (.int .i32 0) underlying33 (fun w=>by simp[zeroValue,typeInfo,hi,hz0]) rfl rfl g o n c hn (fun j hj=>by rw[h.cell,List.getElem?_eq_getElem (by omega)];rfl) (fun j _=>h.free _)
/-! copy and clear, by their runs, at a step of a walk -/
theorem wp_copy_run {P:Program}(w:World){o:Oper}{a:Act}{K:Act->World->Prop}{Q:Exit->Act->World->Prop}(d s:Operand)(t t':TypeId)
  (ho:o.op= .call { callee:= .builtin .copy,args:=#[d,s],argTypes:=#[t,t'] }) (v u:Value) (hd:a.eval d=v) (hs:a.eval s=u) {v':Value} {w':World}
  (hr:(Builtin.copy_ #[t,t'] o.type #[v,u]).run P w= .ok v' w') (h:K (a.put o.dst v') w'):o.wp P a w K Q:=by
 unfold Oper.wp execOp;simp only[ho,resolve,invoke,builtin,Sem.run_bind,Sem.run_pure,Result.andThen_ok,List.map_toArray,List.map_cons,List.map_nil,hd,hs,hr];exact h
theorem ze2 {P:Program}(w:World){ops:Array Oper}{rest:List Oper}{o:Oper}{a:Act}{Q:Exit->Act->World->Prop}(hgd:o.guard=none)(d s:Operand)(t t':TypeId)
  (ho:o.op= .call { callee:= .builtin .copy,args:=#[d,s],argTypes:=#[t,t'] }) (v u:Value) (hd:a.eval d=v) (hs:a.eval s=u) {v':Value} {w':World}
  (hr:(Builtin.copy_ #[t,t'] o.type #[v,u]).run P w= .ok v' w') (h:wpList P ops Q rest (a.put o.dst v') w'):wpList P ops Q (o::rest) a w :=
 wpList_plain hgd fun _ hK=>wp_copy_run w d s t t' ho v u hd hs hr (hK _ _ h)
theorem zia {P:Program}(w:World){o:Oper}{a:Act}{K:Act->World->Prop}{Q:Exit->Act->World->Prop}(s:Operand)(t:TypeId)
  (ho:o.op= .call { callee:= .builtin .clear,args:=#[s],argTypes:=#[t] }) (v:Value) (hs:a.eval s=v) {v':Value} {w':World}
  (hr:(Builtin.clear_ #[t] o.type #[v]).run P w= .ok v' w') (h:K (a.put o.dst v') w'):o.wp P a w K Q:=by
 unfold Oper.wp execOp;simp only[ho,resolve,invoke,builtin,Sem.run_bind,Sem.run_pure,Result.andThen_ok,List.map_toArray,List.map_cons,List.map_nil,hs,hr];exact h
theorem ze7 {P:Program}(w:World){ops:Array Oper}{rest:List Oper}{o:Oper}{a:Act}{Q:Exit->Act->World->Prop}(hgd:o.guard=none)(s:Operand)(t:TypeId)
  (ho:o.op= .call { callee:= .builtin .clear,args:=#[s],argTypes:=#[t] }) (v:Value) (hs:a.eval s=v) {v':Value} {w':World}
  (hr:(Builtin.clear_ #[t] o.type #[v]).run P w= .ok v' w') (h:wpList P ops Q rest (a.put o.dst v') w'):wpList P ops Q (o::rest) a w :=
 wpList_plain hgd fun _ hK=>zia w s t ho v hs hr (hK _ _ h)
end K
