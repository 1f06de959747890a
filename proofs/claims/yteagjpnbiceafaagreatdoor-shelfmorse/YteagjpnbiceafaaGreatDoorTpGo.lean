/-
 A script plays over a text: the program's answer.
-/
import Derived.Test.YteagjpnbiceafaaGreatDoorCnPiece2
import Derived.Test.YteagjpnbiceafaaGreatDoorCnThru
import Derived.Test.YteagjpnbiceafaaGreatDoorQWrong
import Derived.Deep.DeepCutAuto
import Derived.Deep.RegionHeld3
import Derived.Test.YteagjpnbiceafaaGreatDoorShText2
import Derived.Test.YteagjpnbiceafaaGreatDoorRPos
import Derived.Test.YteagjpnbiceafaaGreatDoorCnMath
import Derived.Test.YteagjpnbiceafaaGreatDoorTRight
import Derived.Test.YteagjpnbiceafaaGreatDoorTMath
import Derived.Test.YteagjpnbiceafaaGreatDoorCnPass
set_option maxHeartbeats 0
set_option maxRecDepth 20000
set_option linter.unusedSimpArgs false
set_option linter.unusedVariables false
namespace Go.Proofs.YteagjpnbiceafaaGreatDoor
open Go.RowKit Go.Lib
theorem znb (w:World)(v0 v1 v2:Value) :
  Calls Tryz.prog 51 #[.agg #[v0,v1,v2]] w fun e w'=>∃sb,e= .returned (.func (.func 82) #[] #[.pointer (some ⟨sb,0,none⟩)])/\w'.heap[sb]?=some (.cells #[v0,v1,v2] 30)/\Below w.heap.size w w':=by
 go_enter Tryz.func51,Tryz.ntmps51
 go_wp2;go_ret
 exact⟨_,rfl,heap_alloc_new w _,(qR w).alloc qN _⟩
namespace Cn
abbrev At (w w':World) (v0 v1 v2:Value):Prop :=
 Below w.heap.size w w'/\w'.cell? ⟨w.heap.size,0,none⟩=some v0/\w'.cell? ⟨w.heap.size,1,none⟩=some v1/\w'.cell? ⟨w.heap.size,2,none⟩=some v2/\w'.heap[w.heap.size+1]?=some (.cells #[.int .i64 0,.int .i64 0] 36)
theorem At.below {w X Y:World}{v0 v1 v2:Value}(h:At w X v0 v1 v2)(hb:Below X.heap.size X Y):At w Y v0 v1 v2:=by
 obtain⟨h0,h1,h2,h3,h4⟩:=h;exact⟨h0.trans (hb.mono h0.size),(hb.cell (p:=⟨w.heap.size,0,none⟩) (L.block_lt h1)).trans h1,(hb.cell (p:=⟨w.heap.size,1,none⟩) (L.block_lt h1)).trans h2,(hb.cell (p:=⟨w.heap.size,2,none⟩) (L.block_lt h1)).trans h3,K.zae h4 hb⟩
theorem At.alloc {w X:World}{v0 v1 v2:Value}(h:At w X v0 v1 v2)(o:Obj):At w (X.alloc o) v0 v1 v2:=h.below ((qR X).alloc qN o)
theorem At.drew {w X:World}{v0 v1 v2:Value}(h:At w X v0 v1 v2):At w X.drew v0 v1 v2:=h.below (qR X).drew
theorem al (X:World)(o:Obj):Below X.heap.size X (X.alloc o):=(qR X).alloc qN o
theorem rb {X Y:World}{o:Obj}(z:Below (X.alloc o).heap.size (X.alloc o) Y):Y.heap[X.heap.size]?=some o:=K.zae (heap_alloc_new X o) z
theorem rbD {X Y:World}{o:Obj}(z:Below (X.alloc o).drew.heap.size (X.alloc o).drew Y):Y.heap[X.heap.size]?=some o:=K.zae (w:=(X.alloc o).drew) (heap_alloc_new X o) z
theorem At.set2 {w X:World}{v0 v1 v2:Value}{fb:Nat}(h:At w X v0 v1 v2)(hb:w.heap.size+1<fb)(a b:Value):At w ((X.setCell ⟨fb,0,none⟩ a).setCell ⟨fb,1,none⟩ b) v0 v1 v2:=by
 obtain⟨h0,h1,h2,h3,h4⟩:=h
 have oth:∀k,k≠fb->((X.setCell ⟨fb,0,none⟩ a).setCell ⟨fb,1,none⟩ b).heap[k]?=X.heap[k]?:=fun k hk=>by
  rw[heap_setCell_other _ ⟨fb,1,none⟩ k _ hk,heap_setCell_other _ ⟨fb,0,none⟩ k _ hk]
 have c:∀i,((X.setCell ⟨fb,0,none⟩ a).setCell ⟨fb,1,none⟩ b).cell? ⟨w.heap.size,i,none⟩=X.cell? ⟨w.heap.size,i,none⟩:=fun i=>World.cell?_of_block (a:=⟨w.heap.size,i,none⟩) (oth w.heap.size (by omega))
 exact⟨(h0.setCell (p:=⟨fb,0,none⟩) (by simp;omega) _).setCell (p:=⟨fb,1,none⟩) (by simp;omega) _,by rw[c];exact h1,by rw[c];exact h2,by rw[c];exact h3,by rw[oth (w.heap.size+1) (by omega)];exact h4⟩
def Got (w wx:World) (v0 v1 v2 v8 v9:Value) (q:List Int×Int×Int):Prop :=
 ∃fb,v9= .pointer (some ⟨fb,0,none⟩)/\w.heap.size+1<fb/\wx.heap[fb]?=some (.cells #[.int .i64 q.2.1,.int .i64 q.2.2] 36)/\L.Rd wx v8 .i32 q.1/\At w wx v0 v1 v2/\q.1.length<=16000000
theorem zgv {w X:World}{v0 v1 v2 v8:Value}{q:List Int}{r1 r2:Int}(h:At w X v0 v1 v2)(hr:L.Rd X v8 .i32 q)(hl:q.length<=16000000):Got w (X.alloc (.cells #[.int .i64 r1,.int .i64 r2] 36)) v0 v1 v2 v8 (.pointer (some ⟨X.heap.size,0,none⟩)) (q,r1,r2) :=
 ⟨_,rfl,lt_of_block h.2.2.2.2,heap_alloc_new X _,hr.below (al _ _) qN,h.alloc _,hl⟩
theorem zgu {w X:World}{v0 v1 v2 v8:Value}{q:List Int}{r1 r2:Int}{fb:Nat}(h:At w X v0 v1 v2)(hr:L.Rd X v8 .i32 q)(hl:q.length<=16000000)(hb:X.heap[fb]?=some (.cells #[.int .i64 0,.int .i64 0] 36))(hfb:w.heap.size+1<fb):Got w ((X.setCell ⟨fb,0,none⟩ (.int .i64 r1)).setCell ⟨fb,1,none⟩ (.int .i64 r2)) v0 v1 v2 v8 (.pointer (some ⟨fb,0,none⟩)) (q,r1,r2):=by
 have hb1:=heap_setCell_same X fb 0 _ _ (.int .i64 r1) hb;have hb2:=heap_setCell_same _ fb 1 _ _ (.int .i64 r2) hb1;refine⟨fb,rfl,hfb,hb2,K.za8 hr fun hz k hk=> ?_,h.set2 hfb _ _,hl⟩;have hne:=K.zp1 hr hb hz k hk;rw[heap_setCell_other _ ⟨fb,1,none⟩ k _ (by simpa using hne),heap_setCell_other _ ⟨fb,0,none⟩ k _ (by simpa using hne)]
end Cn
theorem zo4 (pl:Cn.Pl)(hpl:Cn.PlOk pl)(w:World)(v:Value)(s:V.Script)(h0:V.ScIs w v s)(hfit:S.Fit s.only)(xo:Option Addr)(xc:Nat)(t:List Int)(Rt:L.Rd w (.slice xo t.length xc) .i32 t)(hcap:t.length<=xc)(ht:t.length<=140737488355328) :
  Calls Tryz.prog 21 #[v,.slice xo t.length xc] w fun e w'=>∃v',e= .returned (.tuple #[v',.agg #[.int .i64 (Cn.goF pl s t).2.1,.int .i64 (Cn.goF pl s t).2.2]])/\L.Rd w' v' .i32 (Cn.goF pl s t).1/\Below w.heap.size w w':=by
 have HWr:Hid (∀X,Below w.heap.size w X->Calls Tryz.prog 48 #[v] X fun e w'=>e= .returned (.agg #[.int .i64 (Cn.wrongF s).1,.int .i64 (Cn.wrongF s).2])/\Below X.heap.size X w'):=fun X hX=>zme X v s (h0.below hX) hfit
 have HTx:Hid (∀X,Below w.heap.size w X->Calls Tryz.prog 49 #[.slice xo t.length xc] X fun e w'=>e= .returned (.int .i64 (K.textE t))/\Below X.heap.size X w'):=fun X hX=>zho X _ t (Rt.below hX qN) ht
 obtain⟨⟨g,g1,g2⟩,HG⟩:∃o,Hid (Cn.goF pl s t=o):=⟨_,rfl⟩;rw[HG.out];obtain⟨oo,oc,po,pc,rfl,hO,hOl,hP⟩:=h0;have HIn:Hid (S.Rd w (.slice oo s.only.length oc) s.only/\V.Pas w (.slice po s.passes.length pc) s.passes/\L.Rd w (.slice xo t.length xc) .i32 t/\Cn.PlOk pl):=⟨hO,hP,Rt,hpl⟩;obtain⟨W0,hW0⟩:∃W0,W0=(w.alloc (.cells #[.bool s.has,.slice oo s.only.length oc,.slice po s.passes.length pc] 30)).alloc (.cells #[.int .i64 0,.int .i64 0] 36):=⟨_,rfl⟩;have h2:=Cn.zdp w (.cells #[.bool s.has,.slice oo s.only.length oc,.slice po s.passes.length pc] 30) (.cells #[.int .i64 0,.int .i64 0] 36);rw[<- hW0] at h2;have HA0:Hid (Cn.At w W0 (.bool s.has) (.slice oo s.only.length oc) (.slice po s.passes.length pc)):=⟨h2.2.2,K.zaf h2.1 rfl,K.zaf (i:=1) h2.1 rfl,K.zaf (i:=2) h2.1 rfl,h2.2.1⟩;have hWr:=HWr.out W0 HA0.out.1;obtain⟨⟨e1,e2⟩,HE⟩:∃o,Hid (Cn.wrongF s=o):=⟨_,rfl⟩;rw[HE.out] at hWr;have HW1:Hid (Calls Tryz.prog 48 #[.agg #[.bool s.has,.slice oo s.only.length oc,.slice po s.passes.length pc]] W0 fun e w'=>e= .returned (.agg #[.int .i64 e1,.int .i64 e2])/\Below W0.heap.size W0 w'):=hWr;have hPl:=hP.few;have HW0:Hid (W0=(w.alloc (.cells #[.bool s.has,.slice oo s.only.length oc,.slice po s.passes.length pc] 30)).alloc (.cells #[.int .i64 0,.int .i64 0] 36)):=hW0;clear hWr h2 hO hP Rt hpl HWr hW0
 go_enter Tryz.func21,Tryz.ntmps21
 go_wp2_with fail
 rw[<- HW0.out];refine HW1.out.mono ?_;rintro e w1 ⟨rfl,b1⟩;have hA1:=HA0.out.below b1;have HA1:Hid (∀o,Cn.At w (w1.alloc o) (.bool s.has) (.slice oo s.only.length oc) (.slice po s.passes.length pc)):=fun o=>hA1.alloc o
 have hx1:w.heap.size+1<w1.heap.size:=lt_of_block hA1.2.2.2.2;obtain⟨x0,x1,f0,f1⟩:=K.box2 hA1.2.2.2.2;have k0:∀o,(w1.alloc o).cell? ⟨w.heap.size+1,0,none⟩=some (.int .i64 0):=fun o=>K.zai x0 o
 have k1:∀o,(w1.alloc o).cell? ⟨w.heap.size+1,1,none⟩=some (.int .i64 0):=fun o=>K.zai x1 o
 have fz:∀o i,(w1.alloc o).frozen? ⟨w.heap.size+1,i,none⟩=false:=fun o i=>K.zao hA1.2.2.2.2 o i
 have HB1:Hid (Below w.heap.size w w1):=hA1.1;clear b1 hA1 HW1 HA0 HW0
 by_cases q1:e1=0
 ·subst q1;have HTt:Hid (∀o,Calls Tryz.prog 49 #[.slice xo t.length xc] (w1.alloc o) fun e w'=>e= .returned (.int .i64 (K.textE t))/\Below (w1.alloc o).heap.size (w1.alloc o) w'):=fun o=>HTx.out _ (HA1.out o).1
  obtain⟨z,HZ⟩:∃z,Hid (K.textE t=z):=⟨_,rfl⟩;rw[HZ.out] at HTt;clear HTx k0 k1 fz x0 x1 f0 f1
  go_wp2_with fail
  refine(HTt.out _).mono ?_;rintro e w2 ⟨rfl,b2⟩;have hA2:=(HA1.out _).below b2;have HA2:Hid (Cn.At w w2 (.bool s.has) (.slice oo s.only.length oc) (.slice po s.passes.length pc)):=hA2;obtain⟨x0,x1,f0,f1⟩:=K.box2 hA2.2.2.2.2;have hx2:w.heap.size+1<w2.heap.size:=lt_of_block hA2.2.2.2.2;clear b2 hA2 HTt HA1 HB1
  by_cases q2:z=0
  ·subst q2;have hW:=Cn.zid (s:=s) (by rw[HE.out]);have hT:=Cn.zgd.1 HZ.out
   have HGo:Hid ((g,g1,g2)=if (Cn.runP pl s.passes (Cn.cut (Cn.inS s) t) []).2.1=0 then
    (if 4000<(Cn.runP pl s.passes (Cn.cut (Cn.inS s) t) []).1.length then ([],4,(s.passes.length:Int)) else ((Cn.runP pl s.passes (Cn.cut (Cn.inS s) t) []).1,0,0))
   else ([],(Cn.runP pl s.passes (Cn.cut (Cn.inS s) t) []).2)):=by
    show _=_;rw[<- HG.out,Cn.goF,if_pos (by rw[HE.out]),if_pos HZ.out]
   have HPs:Hid (∀X,Cn.At w X (.bool s.has) (.slice oo s.only.length oc) (.slice po s.passes.length pc)->Calls Tryz.prog 52 #[.slice po s.passes.length pc] X fun e w'=>∃v',e= .returned v'/\Cn.Fns X (X.heap.size+1) w' v' (s.passes.map (Cn.passF pl))/\Below X.heap.size X w'):=fun X hX=>zh2 pl HIn.out.2.2.2 X _ s.passes (HIn.out.2.1.below hX.1) hW.2.1 hW.2.2.1
   have HSt:Hid (∀X,Calls Tryz.prog 51 #[.agg #[.bool s.has,.slice oo s.only.length oc,.slice po s.passes.length pc]] X fun e w'=>∃sb,e= .returned (.func (.func 82) #[] #[.pointer (some ⟨sb,0,none⟩)])/\w'.heap[sb]?=some (.cells #[.bool s.has,.slice oo s.only.length oc,.slice po s.passes.length pc] 30)/\Below X.heap.size X w'):=fun X=>znb X _ _ _
   have HPi:Hid (∀X B Y vps sb,Below X.heap.size X Y->Cn.Fns X B Y vps (s.passes.map (Cn.passF pl))->Y.heap[sb]?=some (.cells #[.bool s.has,.slice oo s.only.length oc,.slice po s.passes.length pc] 30)->Cn.At w Y (.bool s.has) (.slice oo s.only.length oc) (.slice po s.passes.length pc)->Calls Tryz.prog 50 #[.slice xo t.length xc,.func (.func 82) #[] #[.pointer (some ⟨sb,0,none⟩)],vps] Y fun e w'=>∃v',e= .returned (.tuple #[v',.agg #[.int .i64 (Cn.runP pl s.passes (Cn.cut (Cn.inS s) t) []).2.1,.int .i64 (Cn.runP pl s.passes (Cn.cut (Cn.inS s) t) []).2.2]])/\L.Rd w' v' .i32 (Cn.runP pl s.passes (Cn.cut (Cn.inS s) t) []).1/\Below Y.heap.size Y w'/\(Cn.runP pl s.passes (Cn.cut (Cn.inS s) t) []).1.length<=16000000):=fun X B Y vps sb hXY hF hsb hY =>
    zll pl HIn.out.2.2.2 X Y B vps s.passes hXY hF hW.2.1 82 #[.pointer (some ⟨sb,0,none⟩)] (Cn.inS s) (enters_of Tryz.func82 (by kernel_rfl) rfl)
     (fun W r hW2=>by
      have hst:=zk8 W sb s oo oc _ (K.zae hsb hW2) (HIn.out.1.below (hY.1.trans (hW2.mono hY.1.size)) qN) hW.1 r;rw[show (#[Value.int .i32 r]++#[Value.pointer (some ⟨sb,0,none⟩)]:Array Value)=#[Value.int .i32 r,Value.pointer (some ⟨sb,0,none⟩)] from rfl]
      exact hst) xo xc t (HIn.out.2.2.1.below hY.1 qN) hcap hT
   obtain⟨⟨q,r1,r2⟩,hQ⟩:∃o,Cn.runP pl s.passes (Cn.cut (Cn.inS s) t) []=o:=⟨_,rfl⟩;rw[hQ] at HGo HPi;simp only at HGo HPi;have hk:Cn.At w w2.drew (.bool s.has) (.slice oo s.only.length oc) (.slice po s.passes.length pc):=HA2.out.drew;have HK:Hid (Cn.At w w2.drew (.bool s.has) (.slice oo s.only.length oc) (.slice po s.passes.length pc)):=hk;have HKD:Hid (∀o,Cn.At w (w2.alloc o).drew (.bool s.has) (.slice oo s.only.length oc) (.slice po s.passes.length pc)):=fun o=>(HA2.out.alloc o).drew
   clear hQ hW hT hk;go_wp2
   go_cut [8,9] (fun v8 v9 wx=>Hid (Cn.Got w wx (.bool s.has) (.slice oo s.only.length oc) (.slice po s.passes.length pc) v8 v9 (q,r1,r2)))
   case first =>
    go_region_held3 (fun w'=>Below w.heap.size w w'/\w'.cell? ⟨w.heap.size,0,none⟩=some (.bool s.has)/\w'.cell? ⟨w.heap.size,1,none⟩=some (.slice oo s.only.length oc)/\w'.cell? ⟨w.heap.size,2,none⟩=some (.slice po s.passes.length pc)/\w'.heap[w.heap.size+1]?=some (.cells #[.int .i64 0,.int .i64 0] 36))
     (first | with_reducible exact HK.out | with_reducible exact k5 | with_reducible exact k4 | with_reducible exact k3 | with_reducible exact k2 | with_reducible exact k1 | with_reducible exact k5.alloc _ | with_reducible exact k4.alloc _ | with_reducible exact k3.alloc _ | with_reducible exact k2.alloc _ | with_reducible exact k1.alloc _ | with_reducible exact HK.out.alloc _ | with_reducible exact HKD.out _ | with_reducible exact Cn.At.set2 k5 (lt_of_block k4.2.2.2.2) _ _ | with_reducible exact Cn.At.set2 k5 (lt_of_block k3.2.2.2.2) _ _ | with_reducible exact Cn.At.set2 k5 hx2 _ _ | fail)
     (first
      | (have hy:=hF;clear hy;go_at_call 50;refine(HPi.out _ _ _ _ _ (by first | with_reducible exact zp | with_reducible exact zp.trans ((Cn.al _ _).mono zp.size)) (by first | with_reducible exact hF | with_reducible exact hF.below (Cn.al _ _)) (by first | with_reducible exact hs1 | with_reducible exact K.zae hs1 (Cn.al _ _)) (by first | with_reducible exact k4 | with_reducible exact k4.alloc _)).mono ?_;rintro e w5 ⟨v5,rfl,d5,z5,hl5⟩;have k5:Cn.At w w5 (.bool s.has) (.slice oo s.only.length oc) (.slice po s.passes.length pc):=(by first | with_reducible exact k4.below z5 | with_reducible exact(k4.alloc _).below z5);first | (have r5:=K.zae r4 z5;obtain⟨y0,y1,ff0,ff1⟩:=K.box2 r5) | (have r5:=Cn.rb z5;obtain⟨y0,y1,ff0,ff1⟩:=K.box2 r5) | skip)
      | ((fail_if_success (have hy:=hF));have hy:=hs;clear hy;go_at_call 52;refine(HPs.out _ (by first | with_reducible exact k3 | with_reducible exact k3.alloc _)).mono ?_;rintro e w4 ⟨v4,rfl,hF,zp⟩;have hs1:w4.heap[sb]?=some (.cells #[.bool s.has,.slice oo s.only.length oc,.slice po s.passes.length pc] 30):=(by first | with_reducible exact K.zae hs zp | with_reducible exact K.zae (K.zae hs (Cn.al _ _)) zp);have k4:Cn.At w w4 (.bool s.has) (.slice oo s.only.length oc) (.slice po s.passes.length pc):=(by first | with_reducible exact k3.below zp | with_reducible exact(k3.alloc _).below zp);first | (have r4:=K.zae r3 zp) | (have r4:=Cn.rb zp) | skip)
      | ((fail_if_success (have hy:=hs));go_at_call 51;refine(HSt.out _).mono ?_;rintro e w3 ⟨sb,rfl,hs,zs⟩;have k3:Cn.At w w3 (.bool s.has) (.slice oo s.only.length oc) (.slice po s.passes.length pc):=(by first | with_reducible exact HK.out.below zs | with_reducible exact(HK.out.alloc _).below zs | with_reducible exact(HKD.out _).below zs);first | (have r3:=Cn.rbD zs) | skip)
      | fail)
    all_goals
     first
      | (have HM:=Cn.zgu (r1:=r1) (r2:=r2) k5 d5 hl5 r5 (by first | with_reducible exact lt_of_block k4.2.2.2.2 | with_reducible exact lt_of_block k3.2.2.2.2 | with_reducible exact hx2))
      | (have HM:=Cn.zgv (r1:=r1) (r2:=r2) k5 d5 hl5)
     clear k5 k4 k3 d5 z5 zp zs hF hs hs1
     go_wp2_with fail
     go_meet
     case rel=>exact HM
   case rest =>
    obtain⟨fb,rfl,hfb,hbox,hrd,hat,hl5⟩:=hcut.out;obtain⟨va,vc,rfl⟩:∃va vc,_=Value.slice va q.length vc:=by obtain⟨a,c,h,_⟩:=hrd;exact⟨a,c,h⟩
    have HM:Hid (L.Rd wc (.slice va q.length vc) .i32 q/\Cn.At w wc (.bool s.has) (.slice oo s.only.length oc) (.slice po s.passes.length pc)/\wc.heap[fb]?=some (.cells #[.int .i64 r1,.int .i64 r2] 36)):=⟨hrd,hat,hbox⟩;have a0:=K.zaf (i:=0) hbox rfl;have a1:=K.zaf (i:=1) hbox rfl;have p2:=hat.2.2.2.1;obtain⟨y0,y1,g0,g1'⟩:=K.box2 hat.2.2.2.2;have n1:¬fb=w.heap.size+1:=by omega
    have n2:¬w.heap.size+1=fb:=by omega
    clear hbox hrd hat hcut HPs HSt HPi HK HKD HA2
    by_cases q3:r1=0
    ·subst q3
     by_cases q4:4000<q.length
     ·have h:=HGo.out;rw[if_pos rfl,if_pos q4] at h;simp only[Prod.mk.injEq] at h;obtain⟨rfl,rfl,rfl⟩:=h;have q4':(4000:Int)<(q.length:Int):=by omega
      go_wp2
      go_region
      go_wp2;refine bodyPost_ret (v:= .tuple #[.slice none 0 0,.agg #[.int .i64 4,.int .i64 s.passes.length]]) (by simp[results,Tryz.results21,go_sem, *]) rfl ?_
      exact⟨_,rfl,⟨none,0,rfl,fun _=>rfl,fun h=>absurd rfl h⟩,((HM.out.2.1.1.setCell (p:=⟨w.heap.size+1,0,none⟩) (by simp) _).setCell (p:=⟨w.heap.size+1,1,none⟩) (by simp) _).drew⟩
     ·have h:=HGo.out;rw[if_pos rfl,if_neg q4] at h;simp only[Prod.mk.injEq] at h;obtain⟨rfl,rfl,rfl⟩:=h;have q4':¬(4000:Int)<(g.length:Int):=by omega
      go_wp2;refine bodyPost_ret (v:= .tuple #[.slice va g.length vc,.agg #[.int .i64 0,.int .i64 0]]) (by simp[results,Tryz.results21,go_sem, *]) rfl ?_
      refine⟨_,rfl,K.za8 HM.out.1 fun hz k hk=> ?_,(HM.out.2.1.1.setCell (p:=⟨w.heap.size+1,0,none⟩) (by simp) _).setCell (p:=⟨w.heap.size+1,1,none⟩) (by simp) _⟩;have hne:=K.zp1 HM.out.1 HM.out.2.1.2.2.2.2 hz k hk;rw[heap_setCell_other _ ⟨w.heap.size+1,1,none⟩ k _ (by simpa using hne),heap_setCell_other _ ⟨w.heap.size+1,0,none⟩ k _ (by simpa using hne)]
    ·have h:=HGo.out;rw[if_neg q3] at h;simp only[Prod.mk.injEq] at h;obtain⟨rfl,rfl,rfl⟩:=h;go_wp2
     go_region
     go_wp2;refine bodyPost_ret (v:= .tuple #[.slice none 0 0,.agg #[.int .i64 g1,.int .i64 g2]]) (by simp[results,Tryz.results21,go_sem, *]) rfl ?_
     exact⟨_,rfl,⟨none,0,rfl,fun _=>rfl,fun h=>absurd rfl h⟩,((HM.out.2.1.1.setCell (p:=⟨w.heap.size+1,0,none⟩) (by simp) _).setCell (p:=⟨w.heap.size+1,1,none⟩) (by simp) _).drew⟩
  ·have h:(g,g1,g2)=([],z,0):=by rw[<- HG.out,Cn.goF,if_pos (by rw[HE.out]),if_neg (by rw[HZ.out];exact q2),HZ.out]
   simp only[Prod.mk.injEq] at h;obtain⟨rfl,rfl,rfl⟩:=h;go_wp2;refine bodyPost_ret (v:= .tuple #[.slice none 0 0,.agg #[.int .i64 g1,.int .i64 0]]) (by simp[results,Tryz.results21,go_sem, *]) rfl ?_;exact⟨_,rfl,⟨none,0,rfl,fun _=>rfl,fun h=>absurd rfl h⟩,(HA2.out.1.setCell (p:=⟨w.heap.size+1,0,none⟩) (by simp) _).setCell (p:=⟨w.heap.size+1,1,none⟩) (by simp) _⟩
 ·have h:(g,g1,g2)=([],e1,e2):=by rw[<- HG.out,Cn.goF,if_neg (by rw[HE.out];exact q1),HE.out]
  simp only[Prod.mk.injEq] at h;obtain⟨rfl,rfl,rfl⟩:=h;go_wp2
  go_region
  go_wp2;refine bodyPost_ret (v:= .tuple #[.slice none 0 0,.agg #[.int .i64 g1,.int .i64 g2]]) (by simp[results,Tryz.results21,go_sem, *]) rfl ?_
  refine⟨_,rfl,⟨none,0,rfl,fun _=>rfl,fun h=>absurd rfl h⟩,?_⟩
  first
   | exact(((HA1.out _).1.setCell (p:=⟨w.heap.size+1,0,none⟩) (by simp) _).setCell (p:=⟨w.heap.size+1,1,none⟩) (by simp) _).drew
   | exact(((HB1.out.setCell (p:=⟨w.heap.size+1,0,none⟩) (by simp) _).setCell (p:=⟨w.heap.size+1,1,none⟩) (by simp) _).alloc (by simp;omega) _).drew
end Go.Proofs.YteagjpnbiceafaaGreatDoor
namespace Go.Proofs.YteagjpnbiceafaaGreatDoor
open Go.RowKit Go.Lib
theorem zik (w:World):Calls Tryz.prog 29 #[.bool false] w fun e w'=>e= .returned (.func (.func 13) #[] #[])/\w'=w:=by
 go_enter Tryz.func29,Tryz.ntmps29
 go_wp2;go_ret
 exact⟨rfl,rfl⟩
theorem ze9 (hK:T.ClassOk)(name t:ByteArray)(l:List R.Part)(q:Nat)(sc:V.Script)(ht:Sh.textF name=(t,0))(hsz:t.size<=1099511627776)(hr:R.read (M.rn t)= .ok l q)(hf:V.forthF l=(sc,0,0))(w:World) :
  Calls Tryz.prog 10 #[.string name,.bool false] w fun e w'=>∃v',e= .returned (.tuple #[v',.int .i64 0])/\V.ScIs w' v' sc/\Below w.heap.size w w':=by
 obtain⟨X,hX⟩:∃X,X=w.alloc (.cells #[.bool false,.slice none 0 0,.slice none 0 0] 30):=⟨_,rfl⟩;have k1:=K.zay (w:=w) (qR (w.alloc (.cells #[.bool false,.slice none 0 0,.slice none 0 0] 30)));rw[<- hX] at k1;have HX:Hid (X.heap[w.heap.size]?=some (.cells #[.bool false,.slice none 0 0,.slice none 0 0] 30)/\Below w.heap.size w X/\w.heap.size+1<=X.heap.size):=k1
 have HT:Hid (Calls Tryz.prog 6 #[.string name] X fun e w'=>e= .returned (.tuple #[.string t,.int .i64 0])/\Below X.heap.size X w'):=by
  have h:=zfi name X;rw[ht] at h;exact h
 have HR:Hid (∀Y,Calls Tryz.prog 12 #[.string t] Y fun e w'=>∃v,e= .returned (.tuple #[v,.agg #[.int .i64 0,.int .i64 0]])/\R.Pts w' v l/\Below Y.heap.size Y w'):=fun Y=>by
  have h:=zha hK t hsz Y;rw[hr] at h;exact h.mono fun e w' ⟨v,h1,h2,_,h4⟩=>⟨v,h1,(R.RowP.pts h2).here,h4⟩
 have HF:Hid (∀Y v,R.Pts Y v l->Calls Tryz.prog 13 #[v] Y fun e w'=>∃v',e= .returned (.tuple #[v',.agg #[.int .i64 0,.int .i64 0]])/\V.Firm Y.heap.size w' v' sc/\Below Y.heap.size Y w'):=fun Y v hv=>by
  have h:=zma Y v l hv;rw[hf] at h;exact h
 clear k1 ht hr hf hsz
 go_enter Tryz.func10,Tryz.ntmps10
 go_wp2_with fail
 rw[<- hX];refine HT.out.mono ?_;clear hX HT;rintro e w1 ⟨rfl,b1⟩;have hb1:=K.zae HX.out.1 b1;have hB1:Below w.heap.size w w1:=HX.out.2.1.trans (b1.mono (by have:=HX.out.2.2;omega));have hR:=HR.out w1;clear b1 HR HX;have HB1:Hid (w1.heap[w.heap.size]?=some (.cells #[.bool false,.slice none 0 0,.slice none 0 0] 30)/\Below w.heap.size w w1):=⟨hb1,hB1⟩;clear hb1 hB1
 go_wp2_with fail
 refine hR.mono ?_;clear hR;rintro e w2 ⟨v2,rfl,hp2,b2⟩;obtain⟨Y,hY⟩:∃Y,Y=w2.alloc (.cells #[.int .i64 0,.int .i64 0] 36):=⟨_,rfl⟩;have k2:=K.zay (w:=w2) (qR (w2.alloc (.cells #[.int .i64 0,.int .i64 0] 36)));rw[<- hY] at k2;have hF:=HF.out Y v2 (hp2.below k2.2.1);have hb2:=K.zae (K.zae HB1.out.1 b2) k2.2.1;have hB2:Below w.heap.size w w2:=HB1.out.2.trans (b2.mono HB1.out.2.size);have HY:Hid (Y.heap[w.heap.size]?=some (.cells #[.bool false,.slice none 0 0,.slice none 0 0] 30)/\Below w.heap.size w Y):=⟨hb2,hB2.trans (k2.2.1.mono hB2.size)⟩;obtain⟨la,lc,rfl⟩:∃a c,v2= .slice a l.length c:=by obtain⟨a,c,h⟩:=hp2.len;exact⟨a,c,h⟩
 clear hp2 b2 k2 HF hb2 hB2 HB1
 go_wp2_with fail
 rw[<- hY];refine(zik Y).mono ?_;clear hY;rintro e w2' ⟨rfl,rfl⟩
 go_wp2_with fail
 refine hF.mono ?_;clear hF;rintro e w3 ⟨v3,rfl,hFm,b3⟩;have hb3:=K.zae HY.out.1 b3;have hB3:Below w.heap.size w w3:=HY.out.2.trans (b3.mono HY.out.2.size);have hl3:w.heap.size<w3.heap.size:=lt_of_block hb3;obtain⟨oo,oc,po,pc,rfl,_⟩:=id hFm.here;obtain⟨r0,r1,r2,f0,f1,f2⟩:=V.box3 hb3;have HE:Hid (V.Firm w2'.heap.size w3 (.agg #[.bool sc.has,.slice oo sc.only.length oc,.slice po sc.passes.length pc]) sc/\Below w.heap.size w w3/\w.heap.size<w2'.heap.size):=⟨hFm,hB3,lt_of_block HY.out.1⟩;clear hFm b3 hb3 hB3 HY;go_wp2;refine bodyPost_ret (v:= .tuple #[.agg #[.bool sc.has,.slice oo sc.only.length oc,.slice po sc.passes.length pc],.int .i64 0]) (by simp[results,Tryz.results10,go_sem, *]) rfl ?_;refine⟨_,rfl,?_,?_⟩
 ·exact((((HE.out.1.store _ 0 _ HE.out.2.2).store _ 1 _ HE.out.2.2).store _ 2 _ HE.out.2.2).below (Cn.al _ _)).below (Cn.al _ _) |>.here
 ·exact((((HE.out.2.1.setCell (p:=⟨w.heap.size,0,none⟩) qN _).setCell (p:=⟨w.heap.size,1,none⟩) qN _).setCell (p:=⟨w.heap.size,2,none⟩) qN _).alloc (by simp;omega) _).alloc (by simp;omega) _
end Go.Proofs.YteagjpnbiceafaaGreatDoor
namespace Go.Proofs.YteagjpnbiceafaaGreatDoor
open Go.RowKit
theorem zf2 (w:World)(v:Value)(zs:List Int)(R:L.Rd w v .i32 zs)(hl:zs.length<=1099511627776)(hall:∀z∈zs,M.right z=true) :
  Calls Tryz.prog 31 #[v] w fun e w'=>e= .returned (.tuple #[.string (runesBytes zs),.int .i64 0])/\w'=w:=by
 obtain⟨ao,cap,rfl,hn,hc⟩:=R;have hcv:=zf5 (P:=Tryz.prog) (w:=w) 42 9 21 Tryz.underlying42 Tryz.underlying21 Tryz.underlying9 hn hc
 go_enter Tryz.func31,Tryz.ntmps31
 go_wp2
 go_loop [8] (fun i=>∃k:Nat,k<=zs.length/\i= .int .i64 k) (fun i=>zs.length - (intOf i).toNat)
 case atStart=>exact⟨0,Nat.zero_le _,rfl⟩
 case round =>
  obtain⟨k,hk,rfl⟩:=hrel
  by_cases hlt:k<zs.length
  ·obtain⟨b,off,rfl,hcell⟩:=hc (by intro h;subst h;simp at hlt);obtain⟨x,hx⟩:∃x,zs[k]?=some x:=⟨zs[k],by simp[hlt]⟩;have c1:=hcell k x hx;have HR:Hid (M.right x=true):=hall x (List.mem_of_getElem? hx);clear hcv hcell hx hc
   go_wp2_with (go_at_call 53;go_must (refine(zdb _ _).mono ?_;rintro e w' ⟨rfl,rfl⟩;rw[HR.out]))
   go_round
   case rel=>exact⟨k+1,by omega,by go_num⟩
   case measure=>simp[intOf];omega
  ·go_wp2
   go_ret2
   exact⟨rfl,rfl⟩
end Go.Proofs.YteagjpnbiceafaaGreatDoor
namespace Go.Proofs.YteagjpnbiceafaaGreatDoor
open Go.RowKit Go.Lib
namespace Tp
abbrev At (W X:World) (sb:Nat) (v0 v1 v2:Value):Prop :=
 Below W.heap.size W X/\X.cell? ⟨sb,0,none⟩=some v0/\X.cell? ⟨sb,1,none⟩=some v1/\X.cell? ⟨sb,2,none⟩=some v2
theorem At.below {W X Y:World}{sb:Nat}{v0 v1 v2:Value}(h:At W X sb v0 v1 v2)(hb:Below X.heap.size X Y):At W Y sb v0 v1 v2:=by
 obtain⟨h0,h1,h2,h3⟩:=h;exact⟨h0.trans (hb.mono h0.size),(hb.cell (p:=⟨sb,0,none⟩) (L.block_lt h1)).trans h1,(hb.cell (p:=⟨sb,1,none⟩) (L.block_lt h2)).trans h2,(hb.cell (p:=⟨sb,2,none⟩) (L.block_lt h3)).trans h3⟩
theorem At.alloc {W X:World}{sb:Nat}{v0 v1 v2:Value}(h:At W X sb v0 v1 v2)(o:Obj):At W (X.alloc o) sb v0 v1 v2:=h.below ((qR X).alloc qN o)
theorem At.drew {W X:World}{sb:Nat}{v0 v1 v2:Value}(h:At W X sb v0 v1 v2):At W X.drew sb v0 v1 v2:=h.below (qR X).drew
theorem At.set2 {W X:World}{sb fb:Nat}{v0 v1 v2:Value}(h:At W X sb v0 v1 v2)(hs:sb<W.heap.size)(hb:W.heap.size<=fb)(a b:Value):At W ((X.setCell ⟨fb,0,none⟩ a).setCell ⟨fb,1,none⟩ b) sb v0 v1 v2:=by
 obtain⟨h0,h1,h2,h3⟩:=h
 have c:∀i,((X.setCell ⟨fb,0,none⟩ a).setCell ⟨fb,1,none⟩ b).cell? ⟨sb,i,none⟩=X.cell? ⟨sb,i,none⟩:=fun i=>World.cell?_of_block (a:=⟨sb,i,none⟩) (by
  rw[heap_setCell_other _ ⟨fb,1,none⟩ sb _ (by simp;omega),heap_setCell_other _ ⟨fb,0,none⟩ sb _ (by simp;omega)])
 exact⟨(h0.setCell (p:=⟨fb,0,none⟩) hb _).setCell (p:=⟨fb,1,none⟩) hb _,by rw[c];exact h1,by rw[c];exact h2,by rw[c];exact h3⟩
theorem three (w:World)(o1 o2 o3:Obj):(((w.alloc o1).alloc o2).alloc o3).heap[w.heap.size]?=some o1/\(((w.alloc o1).alloc o2).alloc o3).heap[w.heap.size+1]?=some o2/\(((w.alloc o1).alloc o2).alloc o3).heap[w.heap.size+1+1]?=some o3/\Below w.heap.size w (((w.alloc o1).alloc o2).alloc o3):=by
 have k:=K.zba (w:=w) (o1:=o1) (o2:=o2) (qR _);have e:=heap_alloc_new ((w.alloc o1).alloc o2) o3;have hs:((w.alloc o1).alloc o2).heap.size=w.heap.size+1+1:=by simp
 rw[hs] at e;exact⟨K.zae k.1 (Cn.al _ _),K.zae k.2.1 (Cn.al _ _),e,k.2.2.1.trans ((Cn.al _ _).mono k.2.2.1.size)⟩
def Got (W wx:World) (v8 v9:Value) (q:List Int×Int×Int):Prop :=
 ∃fb,v9= .pointer (some ⟨fb,0,none⟩)/\W.heap.size<=fb/\wx.heap[fb]?=some (.cells #[.int .i64 q.2.1,.int .i64 q.2.2] 36)/\L.Rd wx v8 .i32 q.1/\Below W.heap.size W wx
theorem zgv {W X:World}{sb:Nat}{v0 v1 v2 v8:Value}{q:List Int}{r1 r2:Int}(h:At W X sb v0 v1 v2)(hr:L.Rd X v8 .i32 q):Got W (X.alloc (.cells #[.int .i64 r1,.int .i64 r2] 36)) v8 (.pointer (some ⟨X.heap.size,0,none⟩)) (q,r1,r2) :=
 ⟨_,rfl,h.1.size,heap_alloc_new X _,hr.below (Cn.al _ _) qN,(h.alloc _).1⟩
theorem zgu {W X:World}{sb fb:Nat}{v0 v1 v2 v8:Value}{q:List Int}{r1 r2:Int}(h:At W X sb v0 v1 v2)(hs:sb<W.heap.size)(hr:L.Rd X v8 .i32 q)(hb:X.heap[fb]?=some (.cells #[.int .i64 0,.int .i64 0] 36))(hfb:W.heap.size<=fb):Got W ((X.setCell ⟨fb,0,none⟩ (.int .i64 r1)).setCell ⟨fb,1,none⟩ (.int .i64 r2)) v8 (.pointer (some ⟨fb,0,none⟩)) (q,r1,r2):=by
 have hb1:=heap_setCell_same X fb 0 _ _ (.int .i64 r1) hb;have hb2:=heap_setCell_same _ fb 1 _ _ (.int .i64 r2) hb1;refine⟨fb,rfl,hfb,hb2,K.za8 hr fun hz k hk=> ?_,(h.set2 hs hfb _ _).1⟩;have hne:=K.zp1 hr hb hz k hk;rw[heap_setCell_other _ ⟨fb,1,none⟩ k _ hne,heap_setCell_other _ ⟨fb,0,none⟩ k _ hne]
theorem decode (s:ByteArray)(hs:s.size<=1099511627776)(X:World):Calls Tryz.prog 30 #[.string s] X fun e w'=>∃xo xc,e= .returned (.slice xo (M.rn s).length xc)/\L.Rd w' (.slice xo (M.rn s).length xc) .i32 (M.rn s)/\(M.rn s).length<=xc/\Below X.heap.size X w' :=
 (zf4 s X hs).mono fun e w' ⟨v,h1,own,hb⟩=>by
  subst h1;rcases own.2 with ⟨hv,h0⟩|⟨g,cap,cur,hv,_,_,hc,_⟩
  ·refine⟨none,0,by rw[hv,h0],?_,by omega,hb⟩;have:=L.Rd.za6 own;rw[hv] at this;rw[h0];exact this
  ·refine⟨_,cap,by rw[hv],?_,hc,hb⟩;have:=L.Rd.za6 own;rw[hv] at this;exact this
theorem zrj {pl:Cn.Pl}(h:Cn.PlOk pl)(s:V.Script)(t:List Int):(Cn.goF pl s t).1.length<=16000000:=by
 unfold Cn.goF;split
 ·split
  ·split
   ·split
    ·simp
    ·show (Cn.runP pl s.passes (Cn.cut (Cn.inS s) t) []).1.length<=_;omega
   ·simp
  ·simp
 ·simp
end Tp
end Go.Proofs.YteagjpnbiceafaaGreatDoor
