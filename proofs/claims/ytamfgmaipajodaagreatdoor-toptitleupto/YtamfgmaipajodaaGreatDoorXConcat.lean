/-
 vm.ready: a machine ahead of its first step.
-/
import Derived.Test.YtamfgmaipajodaaGreatDoorXNew
import Derived.Test.YtamfgmaipajodaaGreatDoorXPut
import Derived.Lib.AppendZerosOnto
import Derived.Lib.Walk
set_option maxHeartbeats 0
set_option maxRecDepth 20000
set_option linter.unusedSimpArgs false
set_option linter.unusedVariables false
namespace Go.Proofs.YtamfgmaipajodaaGreatDoor
open Go.RowKit Go.Shelf
theorem J.held {F:Nat}{e:TypeId}{k:Nat}{w w':World}{v:Value}{n:Nat}{xs:List Value}(h:w.ownsRow F e k v n xs)(hb:∀g,F<=g->g<w.heap.size->w'.heap[g]?=w.heap[g]?):w'.ownsRow F e k v n xs:=by
 obtain⟨h1,h2⟩:=h;refine⟨h1,?_⟩;rcases h2 with h2 | ⟨g,cap,cur,hv,hg,hx,r⟩
 ·exact .inl h2
 ·exact .inr ⟨g,cap,cur,hv,hg,by rw[hb g hg (lt_of_block hx)];exact hx,r⟩
theorem J.Own.held {F:Nat}{w w':World}{v:Value}{hs:List J.Hd}(h:J.Own F w v hs)(hb:∀g,F<=g->g<w.heap.size->w'.heap[g]?=w.heap[g]?):J.Own F w' v hs:=by
 obtain⟨ps,h1,h2,h3⟩:=h;exact⟨ps,h1,J.held h2 hb,fun p hp=>J.held (h3 p hp) hb⟩
theorem Gm.Chk.ok {l:List K.Rule}{t:List Int}{hs:List J.Hd}{e2:Int}(h:Gm.Chk l t (hs,0,e2)):t.length<=4000/\K.allR t=true/\e2=0/\∃c,Gm.Ok l c/\hs=J.heads (J.begins l) c (c.length - 1):=by
 rcases h with ⟨h,h2⟩|⟨h,h2,h3⟩|⟨h,h2,h3⟩
 ·simp only[Prod.mk.injEq] at h2;exact absurd (by rw[<- h2.2]) h
 ·simp only[Prod.mk.injEq] at h3;exact absurd h3.2.1.symm h2
 ·have h4:=K.zfq h2
  have h5:K.allR t=true:=by
   unfold K.textE at h2;rw[if_neg (by omega)] at h2
   by_cases h:K.allR t=true
   ·exact h
   ·rw[if_neg h] at h2;cases h2
  rcases h3 with ⟨g,_⟩|⟨_,c,hc,_,⟨_,g⟩|⟨h9,g⟩⟩
  ·exact absurd h g
  ·simp at g
  ·simp only[Prod.mk.injEq] at g;exact⟨h4,h5,g.2.2,c,⟨(K.zbr h).1,(K.zbr h).2.1,hc,h9⟩,g.1⟩
def Gm.Rdy (wb w w':World) (v:Value) (l:List K.Rule) (t:List Int) (mb:Nat):Prop :=
 ∃b g vh c,w.heap.size<=b/\b<=mb/\Gm.Mx b [mb] mb wb w' g v vh l c [] t/\Gm.Ok l c/\K.allR t=true/\∀W',(∀j,w.heap.size<=j->j<b->W'.heap[j]?=w'.heap[j]?)->J.Rd W' vh (J.heads (J.begins l) c (c.length - 1))
theorem Gm.zro {wb w X w2:World}{va:Value}{l:List K.Rule}{t c:List Int}{vh:Value}(hwb:Below wb.heap.size wb w)(R0:V.Rus wb va l)(hBX:Below w.heap.size w X)(hXs:w.heap.size<X.heap.size)(hO:J.Own (w.heap.size+1) X vh (J.heads (J.begins l) c (c.length - 1)))(hok:Gm.Ok l c)(hall:K.allR t=true)(hTo:Gm.Told ⟨X.heap.size,[]⟩ X.heap.size X [] t w2)(x y:Value) :
  Gm.Rdy wb w (((w2.alloc (.cells #[.pointer (some ⟨X.heap.size,0,none⟩),va,vh] 263)).setCell ⟨w.heap.size,0,none⟩ x).setCell ⟨w.heap.size,1,none⟩ y) va l t w2.heap.size/\Below w.heap.size w (((w2.alloc (.cells #[.pointer (some ⟨X.heap.size,0,none⟩),va,vh] 263)).setCell ⟨w.heap.size,0,none⟩ x).setCell ⟨w.heap.size,1,none⟩ y):=by
 obtain⟨⟨ao,cur,hT⟩,hF⟩:=hTo;have hb2:Below X.heap.size X w2:=hF.1;have hs2:=hb2.size;have hsw:=hwb.size;obtain⟨M,hM⟩:∃M,M=w2.alloc (.cells #[.pointer (some ⟨X.heap.size,0,none⟩),va,vh] 263):=⟨_,rfl⟩;have hM0:M.heap[w2.heap.size]?=some (.cells #[.pointer (some ⟨X.heap.size,0,none⟩),va,vh] 263):=by rw[hM];exact heap_alloc_new w2 _
 have hMb:Below w.heap.size w M:=by rw[hM];exact(hBX.trans (hb2.mono (by omega))).alloc (by omega) _
 have hM1:∀j,j<w2.heap.size->M.heap[j]?=w2.heap[j]?:=fun j hj=>by rw[hM];exact Below.heap_alloc w2 _ j hj
 rw[<- hM];have hWb:Below w.heap.size w ((M.setCell ⟨w.heap.size,0,none⟩ x).setCell ⟨w.heap.size,1,none⟩ y):=(hMb.setCell (p:=⟨w.heap.size,0,none⟩) qN _).setCell (p:=⟨w.heap.size,1,none⟩) qN _
 have hW1:∀j,j≠w.heap.size->((M.setCell ⟨w.heap.size,0,none⟩ x).setCell ⟨w.heap.size,1,none⟩ y).heap[j]?=M.heap[j]?:=fun j hj=>by
  rw[heap_setCell_other _ _ j y (by simpa using hj),heap_setCell_other _ _ j x (by simpa using hj)]
 generalize (M.setCell ⟨w.heap.size,0,none⟩ x).setCell ⟨w.heap.size,1,none⟩ y=W at *;have hbox:W.heap[w2.heap.size]?=some (.cells #[.pointer (some ⟨X.heap.size,0,none⟩),va,vh] 263):=(hW1 _ (by omega)).trans hM0;have hhd:∀W',(∀j,w.heap.size<=j->j<X.heap.size->W'.heap[j]?=W.heap[j]?)->J.Rd W' vh (J.heads (J.begins l) c (c.length - 1)):=fun W' h=>(hO.held fun g h1 h2=>by rw[h g (by omega) h2,hW1 g (by omega),hM1 g (by omega)];exact hb2.block g h2).rd
 have hgl:=hT.box.lt
 have h2:=hT.re (B':=⟨X.heap.size,[w2.heap.size]⟩) ⟨qN,by simp;omega⟩ fun q hq=>by
  have h1:=hT.room.lt q hq;exact⟨h1.1.1,by simp;have:=h1.2;omega⟩
 refine⟨⟨X.heap.size,X.heap.size,vh,c,by omega,hs2,⟨by omega,hwb.trans (hWb.mono hsw),hbox,by simp,fun j hj=> ?_,⟨ao,cur,h2.hB,h2.box.block ?_,h2.room.block fun r hr=> ?_,h2.ne,h2.fit,h2.most,h2.few,h2.ahead,h2.behind⟩,R0,fun W' hW'=>hhd W' fun j h3 h4=>hW'.block j h4⟩,hok,hall,hhd⟩,hWb⟩
 ·simp at hj;subst hj;exact lt_of_block hbox
 ·rw[hW1 _ (by omega),hM1 _ hgl]
 ·have h1:=hT.room.lt r hr;have h3:X.heap.size<=r:=h1.1.1;rw[hW1 _ (by omega),hM1 _ h1.2]
theorem zlk (wb w:World)(v:Value)(l:List K.Rule)(hwb:Below wb.heap.size wb w)(R0:V.Rus wb v l)(vt:Value)(t:List Int)(Rt:L.Rd w vt .i32 t)(ht:t.length<=140737488355328) :
  Calls Tryz.prog 214 #[v,vt] w fun e w'=>∃o,Gm.Chk l t o/\Below w.heap.size w w'/\((o.2.1≠0/\e= .returned (.tuple #[.pointer none,.agg #[.int .i64 o.2.1,.int .i64 o.2.2]]))∨(o.2.1=0/\∃mb,e= .returned (.tuple #[.pointer (some ⟨mb,0,none⟩),.agg #[.int .i64 0,.int .i64 0]])/\Gm.Rdy wb w w' v l t mb)):=by
 have HA:Hid (∀o,Below w.heap.size w (w.alloc o)):=fun o=>(qR w).alloc qN o
 have HC:Hid (∀o,Calls Tryz.prog 227 #[v,vt] (w.alloc o) fun e w'=>∃(v':Value) (o':List J.Hd×Int×Int),Gm.Chk l t o'/\e= .returned (.tuple #[v',.agg #[.int .i64 o'.2.1,.int .i64 o'.2.2]])/\J.Own (w.alloc o).heap.size w' v' o'.1/\Below (w.alloc o).heap.size (w.alloc o) w'):=fun o=>zlo _ v l ((R0.below hwb).below (HA.out o)) vt t (Rt.below (HA.out o) qN) ht
 have HR:Hid (V.Rus wb v l/\Below wb.heap.size wb w):=⟨R0,hwb⟩;have HT:Hid (L.Rd w vt .i32 t):=Rt;obtain⟨va,vc,rfl⟩:=R0.len;clear R0 Rt hwb
 go_enter Tryz.func214,Tryz.ntmps214
 go_wp2_with fail
 refine(HC.out _).mono ?_;rintro e w1 ⟨v',⟨hs,e1,e2⟩,hch,rfl,own,b1⟩;obtain⟨h1,B1,s1⟩:=K.zbb b1;have HB1:Hid (Below w.heap.size w w1):=B1;have HX1:Hid (w1.heap[w.heap.size]?=some (.cells #[.int .i64 0,.int .i64 0] 38)):=h1;have HCh:Hid (Gm.Chk l t (hs,e1,e2)):=hch;have hOw:J.Own (w.heap.size+1) w1 v' hs:=by simpa using own
 have HOw:Hid (J.Own (w.heap.size+1) w1 v' hs):=hOw;obtain⟨x0,x1,f0,f1⟩:=K.box2 h1;have k0:∀o,(w1.alloc o).cell? ⟨w.heap.size,0,none⟩=some (.int .i64 0):=fun o=>K.zai x0 o
 have k1:∀o,(w1.alloc o).cell? ⟨w.heap.size,1,none⟩=some (.int .i64 0):=fun o=>K.zai x1 o
 have g0:∀o,(w1.alloc o).frozen? ⟨w.heap.size,0,none⟩=false:=fun o=>K.zao h1 o 0
 have g1:∀o,(w1.alloc o).frozen? ⟨w.heap.size,1,none⟩=false:=fun o=>K.zao h1 o 1
 have HB2:Hid (∀o,Below w.heap.size w (w1.alloc o)):=fun o=>HB1.out.alloc (by omega) o
 clear b1 B1 HC x0 x1 f0 f1 h1 hch own hOw
 by_cases q:e1=0
 ·subst q;obtain⟨ht4,hall,rfl,c,hok,rfl⟩:=HCh.out.ok;have HOk:Hid (Gm.Ok l c/\K.allR t=true):=⟨hok,hall⟩;obtain⟨X,hX⟩:∃X,X=w1.alloc (.cells #[.int .i64 0,.int .i64 0] 38):=⟨_,rfl⟩;have HXX:Hid (X=w1.alloc (.cells #[.int .i64 0,.int .i64 0] 38)):=hX;have HBX:Hid (Below w.heap.size w X):=by show Below _ _ _;rw[hX];exact HB2.out _
  have hXs:w.heap.size<X.heap.size:=by rw[hX];simp;omega
  have HXb:Hid (X.heap[w.heap.size]?=some (.cells #[.int .i64 0,.int .i64 0] 38)):=by
   show X.heap[w.heap.size]?=_;rw[hX,Below.heap_alloc w1 _ w.heap.size (by omega)];exact HX1.out
  have HOX:Hid (J.Own (w.heap.size+1) X v' (J.heads (J.begins l) c (c.length - 1))):=by
   show J.Own _ _ _ _;rw[hX];exact HOw.out.below ((qR w1).alloc qN _)
  have HNw:Hid (∀Y,Y=X->Calls Tryz.prog 228 #[vt] Y fun e w'=>e= .returned (.tuple #[.pointer (some ⟨X.heap.size,0,none⟩),.int .i64 0])/\Gm.Told ⟨X.heap.size,[]⟩ X.heap.size X [] t w'):=fun Y hY=>by rw[hY];exact ztl X vt t (HT.out.below HBX.out qN) ht4
  clear hX k0 k1 g0 g1 hok hall HOw;obtain⟨ua,uc,rfl⟩:=HOX.out.len;generalize hhs:J.heads (J.begins l) c (c.length - 1)=hs at *
  go_wp2_with fail
  go_at_call 228
  refine(HNw.out _ HXX.out.symm).mono ?_;rintro e w2 ⟨rfl,told⟩;have HTo:Hid (Gm.Told ⟨X.heap.size,[]⟩ X.heap.size X [] t w2):=told;have hb2:Below X.heap.size X w2:=told.2.1;have hx2:=K.zae HXb.out hb2;have HX2:Hid (w2.heap[w.heap.size]?=some (.cells #[.int .i64 0,.int .i64 0] 38)):=hx2;obtain⟨x0,x1,f0,f1⟩:=K.box2 hx2;have k0:∀o,(w2.alloc o).cell? ⟨w.heap.size,0,none⟩=some (.int .i64 0):=fun o=>K.zai x0 o
  have k1:∀o,(w2.alloc o).cell? ⟨w.heap.size,1,none⟩=some (.int .i64 0):=fun o=>K.zai x1 o
  have g0:∀o,(w2.alloc o).frozen? ⟨w.heap.size,0,none⟩=false:=fun o=>K.zao hx2 o 0
  have g1:∀o,(w2.alloc o).frozen? ⟨w.heap.size,1,none⟩=false:=fun o=>K.zao hx2 o 1
  have hs2:=hb2.size;have HFin:Hid (∀x y,_):=fun x y=>Gm.zro (c:=c) HR.out.2 HR.out.1 HBX.out hXs (by rw[hhs];exact HOX.out) HOk.out.1 HOk.out.2 HTo.out x y
  clear told hb2 hx2 HNw HXX HXb HB1 HX1 HB2 x0 x1 f0 f1;go_wp2;refine bodyPost_ret (v:= .tuple #[.pointer (some ⟨w2.heap.size,0,none⟩),.agg #[.int .i64 0,.int .i64 0]]) (by simp[results,Tryz.results214,go_sem, *]) rfl ?_;exact⟨_,HCh.out,(HFin.out _ _).2,.inr ⟨rfl,_,rfl,(HFin.out _ _).1⟩⟩
 ·go_wp2
  go_region
  go_wp2;refine bodyPost_ret (v:= .tuple #[.pointer none,.agg #[.int .i64 e1,.int .i64 e2]]) (by simp[results,Tryz.results214,go_sem, *]) rfl ?_
  exact⟨_,HCh.out,(((HB2.out _).setCell (p:=⟨w.heap.size,0,none⟩) qN _).setCell (p:=⟨w.heap.size,1,none⟩) qN _).drew,.inl ⟨q,rfl⟩⟩
end Go.Proofs.YtamfgmaipajodaaGreatDoor
namespace Go.Proofs.YtamfgmaipajodaaGreatDoor
open Go.RowKit Go.Shelf
def Gm.Cn (b ob:Nat) (vh:Value) (l:List K.Rule) (c:List Int) (W:World) (s p:Int):Prop :=
 W.heap[ob]?=some (.cells #[.slice none 0 0,.int .i64 s,.int .i64 p] 58)/\∀W',(∀j,j<b->j≠ob->W'.heap[j]?=W.heap[j]?)->J.Rd W' vh (J.heads (J.begins l) c (c.length - 1))
theorem Gm.Mx.count {b ob mb:Nat}{ms:List Nat}{wb w w':World}{g:Nat}{vr vh:Value}{l:List K.Rule}{c A Z:List Int}{s p:Int}(M:Gm.Mx b ms mb wb w g vr vh l c A Z)(hob:wb.heap.size<=ob)(hb:ob<b)(hmb:mb≠ob)(C:Gm.Cn b ob vh l c w s p)
  (hs:w.heap.size<=w'.heap.size) (hbel:Below wb.heap.size wb w') (e:∀j,j<w.heap.size->j≠ob->w'.heap[j]?=w.heap[j]?):Gm.Mx b ms mb wb w' g vr vh l c A Z:=by
 obtain⟨ao,cur,hT⟩:=M.tx;have hg:b<=g:=hT.hB.1;have htop:=M.top;have hm:mb<w.heap.size:=(qA.1 M.box).1;refine⟨M.base,hbel,(e mb hm hmb).trans M.box,M.mem,fun j hj=>by have:=M.old j hj;omega,⟨ao,cur,hT.hB,hT.box.block (e g hT.box.lt (by omega)),hT.room.block fun r hr=> ?_,hT.ne,hT.fit,hT.most,hT.few,hT.ahead,hT.behind⟩,M.rus,fun W hW=> ?_⟩
 ·have h1:=hT.room.lt r hr;have h2:b<=r:=h1.1.1;exact e r h1.2 (by omega)
 ·exact C.2 W fun j hj hne=>(hW.block j hj).trans (e j (by omega) hne)
theorem zln (W:World)(ob:Nat)(s p at_ k:Int)(h:W.heap[ob]?=some (.cells #[.slice none 0 0,.int .i64 s,.int .i64 p] 58))(hs0:0<=s)(hs:s<=100000)(hp0:0<=p)(hp:p<=100000)(hk:k= -1∨0<=k) :
  Calls Tryz.prog 194 #[.agg #[.int .i64 at_,.int .i64 k],.pointer (some ⟨ob,0,none⟩)] W fun e w'=>e= .returned (.tuple #[])/\w'.heap[ob]?=some (.cells #[.slice none 0 0,.int .i64 (s+1),.int .i64 (p+if k= -1 then 0 else 1)] 58)/\W.heap.size<=w'.heap.size/\(∀B,B<=ob->Below B W w')/\(∀j,j<W.heap.size->j≠ob->w'.heap[j]?=W.heap[j]?):=by
 have hob:ob<W.heap.size:=(qA.1 h).1;have e1:∀x,(W.setCell ⟨ob,1,none⟩ x).heap[ob]?=some (.cells #[.slice none 0 0,x,.int .i64 p] 58):=fun x=>heap_setCell_same W ob 1 _ _ x h
 have e2:∀x y,((W.setCell ⟨ob,1,none⟩ x).setCell ⟨ob,2,none⟩ y).heap[ob]?=some (.cells #[.slice none 0 0,x,y] 58):=fun x y=>heap_setCell_same _ ob 2 _ _ y (e1 x)
 have f1:∀x j,j≠ob->(W.setCell ⟨ob,1,none⟩ x).heap[j]?=W.heap[j]?:=fun x j hne=>heap_setCell_other W _ j x (by simpa using hne)
 have f2:∀x y j,j≠ob->((W.setCell ⟨ob,1,none⟩ x).setCell ⟨ob,2,none⟩ y).heap[j]?=W.heap[j]?:=fun x y j hne=>(heap_setCell_other _ _ j y (by simpa using hne)).trans (f1 x j hne)
 have al:∀(V:World) (o v:Obj),V.heap[ob]?=some v->(∀B,B<=ob->Below B W V)->(∀j,j≠ob->V.heap[j]?=W.heap[j]?)->(V.alloc o).heap[ob]?=some v/\W.heap.size<=(V.alloc o).heap.size/\(∀B,B<=ob->Below B W (V.alloc o))/\(∀j,j<W.heap.size->¬j=ob->(V.alloc o).heap[j]?=W.heap[j]?):=fun V o v h1 h2 h3=>by
  have hs:=(h2 0 (Nat.zero_le _)).size;refine⟨(Below.heap_alloc V o ob (by omega)).trans h1,by simp;omega,fun B hB=>(h2 B hB).alloc (by omega) o,fun j hj hne=>(Below.heap_alloc V o j (by omega)).trans (h3 j hne)⟩
 have H1:Hid (∀x o,_):=fun x o=>al (W.setCell ⟨ob,1,none⟩ x) o _ (e1 x) (fun B hB=>(Below.refl B W).setCell hB x) (f1 x)
 have H2:Hid (∀x y o,_):=fun x y o=>al ((W.setCell ⟨ob,1,none⟩ x).setCell ⟨ob,2,none⟩ y) o _ (e2 x y) (fun B hB=>((Below.refl B W).setCell hB x).setCell hB y) (f2 x y)
 have c1:W.cell? ⟨ob,1,none⟩=some (.int .i64 s):=K.zah (i:=1) h rfl;have c2:W.cell? ⟨ob,2,none⟩=some (.int .i64 p):=K.zah (i:=2) h rfl;have fr:∀i,W.frozen? ⟨ob,i,none⟩=false:=fun i=>frozen_of_row W _ i _ _ h
 have hne:W.heap.size≠ob:=by omega
 have hne2:ob≠W.heap.size:=by omega
 clear e1 e2 f1 f2 al h
 go_enter Tryz.func194,Tryz.ntmps194
 rcases hk with rfl | hk
 ·go_wp2;refine bodyPost_end (results_none rfl _ _ _) rfl ?_
  exact⟨rfl,H1.out _ _⟩
 ·have hk1:¬k= -1:=by omega
  go_wp2;refine bodyPost_end (results_none rfl _ _ _) rfl ?_
  exact⟨rfl,H2.out _ _ _⟩
theorem Gm.Cn.keep {b ob:Nat}{vh:Value}{l:List K.Rule}{c:List Int}{W W':World}{s p:Int}(h:Gm.Cn b ob vh l c W s p)(hob:ob<b)(hb:Below b W W'):Gm.Cn b ob vh l c W' s p :=
 ⟨(hb.block ob hob).trans h.1,fun W2 e=>h.2 W2 fun j hj hne=>(e j hj hne).trans (hb.block j hj)⟩
def Gm.Cb (b ob rb:Nat) (o:Obj) (vh:Value) (l:List K.Rule) (c:List Int) (W:World) (s p:Int):Prop:=Gm.Cn b ob vh l c W s p/\W.heap[rb]?=some o
theorem Gm.Cb.keep {b ob rb:Nat}{o:Obj}{vh:Value}{l:List K.Rule}{c:List Int}{W W':World}{s p:Int}(h:Gm.Cb b ob rb o vh l c W s p)(hob:ob<b)(hrb:rb<b)(hb:Below b W W'):Gm.Cb b ob rb o vh l c W' s p :=
 ⟨h.1.keep hob hb,(hb.block rb hrb).trans h.2⟩
theorem Gm.zq8 {b ob rb mb:Nat}{o:Obj}{wb:World}{g:Nat}{vr vh:Value}{l:List K.Rule}{c:List Int}{n:Nat}(hob:wb.heap.size<=ob)(hb:ob<b)(hmb:mb≠ob)(hrb:rb≠ob)(hn:n<=4000) :
  ∀W A Z (s p at_ k:Int),Gm.Mx b [mb] mb wb W g vr vh l c A Z->Gm.Cb b ob rb o vh l c W s p->0<=p->p<=s->s<8*n+40->(k= -1∨0<=k)->Calls Tryz.prog 194 (#[.agg #[.int .i64 at_,.int .i64 k]]++#[.pointer (some ⟨ob,0,none⟩)]) W fun e w'=>e= .returned (.tuple #[])/\Gm.Mx b [mb] mb wb w' g vr vh l c A Z/\Gm.Cb b ob rb o vh l c w' (s+1) (p+if k= -1 then 0 else 1):=by
 intro W A Z s p at_ k M C h0 h1 h2 hk;refine(zln W ob s p at_ k C.1.1 (by omega) (by omega) h0 (by omega) hk).mono ?_;rintro e w' ⟨rfl,g1,g2,g3,g4⟩;have htop:=M.top;refine⟨rfl,M.count hob hb hmb C.1 g2 (M.bel.trans (g3 _ hob)) g4,⟨g1,fun W' e=>C.1.2 W' fun j hj hne=>(e j hj hne).trans (g4 j (by omega) hne)⟩,(g4 rb (lt_of_block C.2) hrb).trans C.2⟩
end Go.Proofs.YtamfgmaipajodaaGreatDoor
namespace Go.Proofs.YtamfgmaipajodaaGreatDoor
open Go.RowKit Go.Shelf
theorem Gm.idle {w:World}{r:Nat}{x y:Value}{ty:TypeId}(h:w.heap[r]?=some (.cells #[x,y] ty)):Below w.heap.size w ((w.setCell ⟨r,0,none⟩ x).setCell ⟨r,1,none⟩ y):=by
 refine⟨rfl,rfl,rfl,by simp,fun k hk=> ?_⟩
 by_cases e:k=r
 ·subst e;rw[h];exact heap_setCell_same _ k 1 _ _ y (heap_setCell_same w k 0 _ _ x h)
 ·rw[heap_setCell_other _ ⟨r,1,none⟩ k y (by simpa using e),heap_setCell_other _ ⟨r,0,none⟩ k x (by simpa using e)]
def Gm.Vm (wb w':World) (v:Value) (l:List K.Rule) (t:List Int) (ob:Nat) (mp:Value) (f1 f2:Int):Prop :=
 ∃o:List J.Hd×Int×Int,Gm.Chk l t o/\((o.2.1≠0/\mp= .pointer none/\f1=o.2.1/\f2=o.2.2)∨(o.2.1=0/\∃p1 p2 p3 p4,K.play l (8*t.length+40) [] t 0 0=(p1,p2,p3,p4)/\f1=p1/\f2=0 /\
  ((p1≠0/\mp= .pointer none)∨(p1=0/\∃mb,mp= .pointer (some ⟨mb,0,none⟩)/\w'.heap[ob]?=some (.cells #[.slice none 0 0,.int .i64 p3,.int .i64 p4] 58)/\∃b g vh c,ob<b/\mb≠ob/\Gm.Mx b [mb] mb wb w' g v vh l c p2 []))))
theorem zil (wb w:World)(v:Value)(l:List K.Rule)(hwb:Below wb.heap.size wb w)(R0:V.Rus wb v l)(vt:Value)(t:List Int)(Rt:L.Rd w vt .i32 t)(ht:t.length<=140737488355328)(ob:Nat)(hob:wb.heap.size<=ob)(hout:w.heap[ob]?=some (.cells #[.slice none 0 0,.int .i64 0,.int .i64 0] 58)) :
  Calls Tryz.prog 195 #[v,vt,.func (.func 194) #[] #[.pointer (some ⟨ob,0,none⟩)]] w fun e w'=>∃mp f1 f2,e= .returned (.tuple #[mp,.agg #[.int .i64 f1,.int .i64 f2]])/\Below wb.heap.size wb w'/\Gm.Vm wb w' v l t ob mp f1 f2:=by
 have eg:∀args w,(callFunc 194 args).run Tryz.prog w= .ok (.enter 194 args) w:=enters_of Tryz.func194 (by kernel_rfl) rfl;have hobl:ob<w.heap.size:=lt_of_block hout;have hsb:=hwb.size;have HA:Hid (∀o,Below w.heap.size w (w.alloc o)):=fun o=>(qR w).alloc qN o
 have HRe:Hid (∀o,Calls Tryz.prog 214 #[v,vt] (w.alloc o) fun e w'=>∃o',Gm.Chk l t o'/\Below (w.alloc o).heap.size (w.alloc o) w'/\((o'.2.1≠0/\e= .returned (.tuple #[.pointer none,.agg #[.int .i64 o'.2.1,.int .i64 o'.2.2]]))∨(o'.2.1=0/\∃mb,e= .returned (.tuple #[.pointer (some ⟨mb,0,none⟩),.agg #[.int .i64 0,.int .i64 0]])/\Gm.Rdy wb (w.alloc o) w' v l t mb))):=fun o=>zlk wb (w.alloc o) v l (hwb.trans ((HA.out o).mono hsb)) R0 vt t (Rt.below (HA.out o) qN) ht
 have HWB:Hid (Below wb.heap.size wb w):=hwb;have HOut:Hid (w.heap[ob]?=some (.cells #[.slice none 0 0,.int .i64 0,.int .i64 0] 58)):=hout;obtain⟨va,vc,rfl⟩:=R0.len;clear R0 Rt hwb hout
 go_enter Tryz.func195,Tryz.ntmps195
 go_wp2_with fail
 refine(HRe.out _).mono ?_;rintro e w1 ⟨⟨hs,e1,e2⟩,hch,b1,⟨hq,rfl⟩|⟨hq,mb,rfl,hrdy⟩⟩
 ·obtain⟨h1,B1,s1⟩:=K.zbb b1;have HCh:Hid (Gm.Chk l t (hs,e1,e2)):=hch;have HB2:Hid (∀o,Below w.heap.size w (w1.alloc o)):=fun o=>B1.alloc (by omega) o
  obtain⟨x0,x1,f0,f1⟩:=K.box2 h1;have k0:∀o,(w1.alloc o).cell? ⟨w.heap.size,0,none⟩=some (.int .i64 0):=fun o=>K.zai x0 o
  have k1:∀o,(w1.alloc o).cell? ⟨w.heap.size,1,none⟩=some (.int .i64 0):=fun o=>K.zai x1 o
  have g0:∀o,(w1.alloc o).frozen? ⟨w.heap.size,0,none⟩=false:=fun o=>K.zao h1 o 0
  have g1:∀o,(w1.alloc o).frozen? ⟨w.heap.size,1,none⟩=false:=fun o=>K.zao h1 o 1
  have hq':¬e1=0:=hq;clear b1 B1 HRe x0 x1 f0 f1 h1 hch hq;go_wp2
  go_region
  go_wp2;refine bodyPost_ret (v:= .tuple #[.pointer none,.agg #[.int .i64 e1,.int .i64 e2]]) (by simp[results,Tryz.results195,go_sem, *]) rfl ?_
  exact⟨_,_,_,rfl,HWB.out.trans (((((HB2.out _).setCell (p:=⟨w.heap.size,0,none⟩) qN _).setCell (p:=⟨w.heap.size,1,none⟩) qN _).drew).mono hsb),_,HCh.out,.inl ⟨hq',rfl,rfl,rfl⟩⟩
 ·obtain⟨h1,B1,s1⟩:=K.zbb b1;have hq':e1=0:=hq;subst hq';have HCh:Hid (Gm.Chk l t (hs,0,e2)):=hch;obtain⟨b,g,vh,c,hb1,hb2,hMx,hok,hall,hhd⟩:=hrdy;have hsz:(w.alloc (.cells #[.int .i64 0,.int .i64 0] 38)).heap.size=w.heap.size+1:=by simp
  have hbt:=hMx.top;have hmlt:mb<w1.heap.size:=hMx.old mb (by simp);obtain⟨⟨p1,p2,p3,p4⟩,hO⟩:∃o,K.play l (8*t.length+40) [] t 0 0=o:=⟨_,rfl⟩
  have HPl:Hid (∀o,Calls Tryz.prog 215 #[.pointer (some ⟨mb,0,none⟩),.func (.func 194) #[] #[.pointer (some ⟨ob,0,none⟩)]] (w1.alloc o) fun e w'=>e= .returned (.int .i64 p1)/\Below wb.heap.size wb w'/\w'.heap[w.heap.size]?=some (.cells #[.int .i64 0,.int .i64 0] 38)/\(p1=0->Gm.Mx b [mb] mb wb w' g (.slice va l.length vc) vh l c p2 []/\w'.heap[ob]?=some (.cells #[.slice none 0 0,.int .i64 p3,.int .i64 p4] 58))):=fun o=>by
   have hal:Below w1.heap.size w1 (w1.alloc o):=(qR w1).alloc qN o;have hbo:(w1.alloc o).heap[ob]?=some (.cells #[.slice none 0 0,.int .i64 0,.int .i64 0] 58):=(hal.block ob (by omega)).trans ((B1.block ob hobl).trans HOut.out);have hbr:(w1.alloc o).heap[w.heap.size]?=some (.cells #[.int .i64 0,.int .i64 0] 38):=K.zae h1 hal;refine(zno b mb wb (w1.alloc o) g _ vh l c t (hMx.below hal) hok hall (Gm.Cb b ob w.heap.size (.cells #[.int .i64 0,.int .i64 0] 38) vh l c) ⟨⟨hbo,fun W' hW'=>hhd W' fun j hj1 hj2=> ?_⟩,hbr⟩ (fun W W' s p hC hB=>hC.keep (by omega) (by omega) hB) 194 #[.pointer (some ⟨ob,0,none⟩)] eg (Gm.zq8 hob (by omega) (by omega) (by omega) (HCh.out.ok).1) p1 p2 p3 p4 hO).mono ?_
   ·rw[hW' j hj2 (by omega)];exact hal.block j (by omega)
   ·rintro e w' ⟨h1,h2,⟨s,p,hC⟩,h3⟩;exact⟨h1,h2,hC.2,fun h=>⟨(h3 h).1,(h3 h).2.1.1⟩⟩
  obtain⟨ht4,_,rfl,_⟩:=HCh.out.ok;have HO:Hid (K.play l (8*t.length+40) [] t 0 0=(p1,p2,p3,p4)):=hO;have hobb:ob<b:=by omega
  have hmo:mb≠ob:=by omega
  have hss:=b1.size;clear b1 B1 HRe h1 hch hq hMx hok hall hhd hO HOut
  go_wp2_with fail
  go_at_call 215
  refine(HPl.out _).mono ?_;rintro e w2 ⟨rfl,hB2,hbx,hfin⟩;have HB2:Hid (Below wb.heap.size wb w2):=hB2;have HF:Hid (p1=0->Gm.Mx b [mb] mb wb w2 g (.slice va l.length vc) vh l c p2 []/\w2.heap[ob]?=some (.cells #[.slice none 0 0,.int .i64 p3,.int .i64 p4] 58)):=hfin;obtain⟨x0,x1,f0,f1⟩:=K.box2 hbx;have HBx:Hid (w2.heap[w.heap.size]?=some (.cells #[.int .i64 0,.int .i64 0] 38)):=hbx;clear HPl hB2 hfin hbx
  by_cases q:p1=0
  ·subst q;obtain⟨hM,hOb⟩:=HF.out rfl;have HM:Hid (Gm.Mx b [mb] mb wb w2 g (.slice va l.length vc) vh l c p2 []):=hM;have HOb:Hid (w2.heap[ob]?=some (.cells #[.slice none 0 0,.int .i64 p3,.int .i64 p4] 58)):=hOb;clear hM hOb HF;go_wp2;refine bodyPost_ret (v:= .tuple #[.pointer (some ⟨mb,0,none⟩),.agg #[.int .i64 0,.int .i64 0]]) (by simp[results,Tryz.results195,go_sem, *]) rfl ?_;have hid:=Gm.idle HBx.out;exact⟨_,_,_,rfl,HB2.out.trans (hid.mono (by have:=HB2.out.size;omega)),_,HCh.out,.inr ⟨rfl,0,p2,p3,p4,HO.out,rfl,rfl,.inr ⟨rfl,mb,rfl,K.zae HOb.out hid,b,g,vh,c,hobb,hmo,HM.out.below hid⟩⟩⟩
  ·clear HF;go_wp2;refine bodyPost_ret (v:= .tuple #[.pointer none,.agg #[.int .i64 p1,.int .i64 0]]) (by simp[results,Tryz.results195,go_sem, *]) rfl ?_;exact⟨_,_,_,rfl,(HB2.out.setCell (p:=⟨w.heap.size,0,none⟩) hsb _).setCell (p:=⟨w.heap.size,1,none⟩) hsb _,_,HCh.out,.inr ⟨rfl,p1,p2,p3,p4,HO.out,rfl,rfl,.inl ⟨q,rfl⟩⟩⟩
end Go.Proofs.YtamfgmaipajodaaGreatDoor
namespace Go.Proofs.YtamfgmaipajodaaGreatDoor
open Go.RowKit Go.Lib
attribute [local go_sem ↓] Go.wp_at_zero Go.wp_at_succ
theorem znt (w:World)(n:Nat)(hn:n<=8000) :
  Calls Tryz.prog 197 #[.slice none 0 0,.int .i64 n] w fun e w'=>∃v,e= .returned v/\w'.ownsRow w.heap.size 21 1 v 0 []/\Below w.heap.size w w':=by
 by_cases h0:n=0
 ·subst h0
  go_enter Tryz.func197,Tryz.ntmps197
  go_wp2;go_ret
  exact⟨_,rfl,World.ownsRow_nil _ _ _ _,qR _⟩
 ·obtain⟨i0,hi,hz0,hz1,hz2⟩:=info_parts Tryz.infoI32;have hG:n<=grownCap w n 0 21:=grownCap_ge w _ _ _;have hG63:=grownCap_le_maxLen w n 0 21 (by unfold maxLen;omega)
  have hrz:∀ty,(Builtin.append_ #[33,3] ty #[.slice none 0 0,.int .i64 (n:Int)]).run Tryz.prog w =
    .ok (.slice (some ⟨w.heap.size,0,none⟩) n (grownCap w n 0 21)) (w.drew.alloc (.cells (([]:List Value).toArray++Builtin.zeroCells (Value.int .i32 0).cells n++Builtin.zeroCells (Value.int .i32 0).cells (grownCap w n 0 21 - n)) 21)):=fun ty=>by
   have h:=Lib.run_append_grow_zeros w 33 3 ty 21 i0 (.int .i32 0) .i64 .i64 Tryz.underlying33 Tryz.underlying3 hi hz0 none 0 0 [] (run_firstCells_none w.drew i0.size 0 0 0) n (by omega) (by omega) (by omega) (by omega)
    (by rw[hz2];omega) (by rw[hz2];exact growslice_fits (by omega) (by omega))
   simpa using h
  obtain⟨Gc,hGc⟩:∃Gc,Gc=grownCap w n 0 21:=⟨_,rfl⟩;rw[<- hGc] at hrz hG hG63
  have HO:Hid ((w.drew.alloc (.cells (([]:List Value).toArray++Builtin.zeroCells (Value.int .i32 0).cells n++Builtin.zeroCells (Value.int .i32 0).cells (Gc - n)) 21)).ownsRow w.heap.size 21 1 (.slice (some ⟨w.heap.size,0,none⟩) 0 Gc) 0 []) :=
   World.ownsRow_made w.drew _ Gc qN hG63 (by simp[Builtin.zeroCells,Value.cells];omega)
  have HB:Hid (Below w.heap.size w (w.drew.alloc (.cells (([]:List Value).toArray++Builtin.zeroCells (Value.int .i32 0).cells n++Builtin.zeroCells (Value.int .i32 0).cells (Gc - n)) 21))):=(qR w).drew.alloc qN _;generalize (w.drew.alloc (.cells (([]:List Value).toArray++Builtin.zeroCells (Value.int .i32 0).cells n++Builtin.zeroCells (Value.int .i32 0).cells (Gc - n)) 21))=W at *;unfold maxLen at hG63;clear hGc
  go_enter Tryz.func197,Tryz.ntmps197
  go_wp2_with (at_builtin;refine Lib.wpList_append_run _ rfl _ _ _ _ rfl _ _ rfl rfl _ _ (hrz _) ?_)
  all_goals
   go_ret;exact⟨_,rfl,HO.out,HB.out⟩
theorem zio (w:World)(b:Nat)(v1 v2:Value)(z1 z2:List Int)(c1:w.cell? ⟨b,0,none⟩=some v1)(c2:w.cell? ⟨b,1,none⟩=some v2)(R1:L.Rd w v1 .i32 z1)(R2:L.Rd w v2 .i32 z2)(hl:z1.length+z2.length<=4000) :
  Calls Tryz.prog 173 #[.slice (some ⟨b,0,none⟩) 2 2] w fun e w'=>∃v,e= .returned v/\w'.ownsRow w.heap.size 21 1 v (z1++z2).length ((z1++z2).map (Value.int .i32))/\Below w.heap.size w w':=by
 obtain⟨i0,hi,hz0,hz1,hz2⟩:=info_parts Tryz.infoI32;have HR1:Hid (L.Rd w v1 .i32 z1):=R1;have HR2:Hid (L.Rd w v2 .i32 z2):=R2;obtain⟨a1,k1,rfl,_⟩:=R1;obtain⟨a2,k2,rfl,_⟩:=R2;have hb:=L.block_lt c1
 go_enter Tryz.func173,Tryz.ntmps173
 go_wp2;refine wp_loop_rounds 3 ?_
 rw[rounds_succ];go_wp2;rw[rounds_succ];go_wp2;rw[rounds_succ];go_wp2_with fail;have hgr:=znt w (z1.length+z2.length) (by omega);rw[Int.natCast_add] at hgr;refine hgr.mono ?_;clear hgr;rintro e W ⟨v,rfl,own,hbl⟩;have HO:Hid (W.ownsRow w.heap.size 21 1 v 0 []):=own;have HB:Hid (Below w.heap.size w W):=hbl;have d1:W.cell? ⟨b,0,none⟩=some (.slice a1 z1.length k1):=by rw[hbl.cell (p:=⟨b,0,none⟩) hb];exact c1
 have d2:W.cell? ⟨b,1,none⟩=some (.slice a2 z2.length k2):=by rw[hbl.cell (p:=⟨b,1,none⟩) hb];exact c2
 have HC2:Hid (w.cell? ⟨b,1,none⟩=some (.slice a2 z2.length k2)):=c2;clear own hbl c1 c2;go_wp2;refine wp_loop_rounds 3 ?_;rw[rounds_succ]
 go_wp2_with (at_builtin;go_must (refine L.za9 rfl _ _ 33 rfl w.heap.size 21 i0 .i32 4 Tryz.underlying33 hi hz0 hz1 hz2 _ _ _ rfl HO.out _ z1 rfl (HR1.out.below HB.out qN) (by unfold maxLen;omega) (by omega) HB.out.size ?_;intro v' W1 own1 grown1))
 have HO1:Hid (W1.ownsRow w.heap.size 21 1 v' (0+z1.length) ([]++z1.map (Value.int .i32))):=own1;have HB1:Hid (Below w.heap.size w W1):=HB.out.grown grown1 HB.out.size fun k hk=>(HO.out.lt k hk).1
 have f2:W1.cell? ⟨b,1,none⟩=some (.slice a2 z2.length k2):=by rw[HB1.out.cell (p:=⟨b,1,none⟩) hb];exact HC2.out
 clear own1 grown1 d1 d2;rw[rounds_succ]
 go_wp2_with (at_builtin;go_must (refine L.za9 rfl _ _ 33 rfl w.heap.size 21 i0 .i32 4 Tryz.underlying33 hi hz0 hz1 hz2 _ _ _ rfl HO1.out _ z2 rfl (HR2.out.below HB1.out qN) (by unfold maxLen;omega) (by omega) HB1.out.size ?_;intro v'' W2 own2 grown2))
 have HO2:Hid (W2.ownsRow w.heap.size 21 1 v'' (0+z1.length+z2.length) ([]++z1.map (Value.int .i32)++z2.map (Value.int .i32))):=own2;have HB2:Hid (Below w.heap.size w W2):=HB1.out.grown grown2 HB1.out.size fun k hk=>(HO1.out.lt k hk).1
 clear own2 grown2 f2;rw[rounds_succ];go_wp2;go_ret;refine⟨_,rfl,?_,HB2.out⟩;have h:=HO2.out;rw[show 0+z1.length+z2.length=(z1++z2).length by simp,show []++z1.map (Value.int .i32)++z2.map (Value.int .i32)=(z1++z2).map (Value.int .i32) by simp] at h;exact h
namespace Gm
theorem Tx.rdA {B:Gm.Bs}{g:Nat}{ao:Option Addr}{cur A Z:List Int}{w:World}(h:Tx B g ao cur A Z w)(c:Nat)(hc:ao=none->c=0):L.Rd w (.slice ao A.length c) .i32 A :=
 ⟨ao,c,rfl,hc,fun hz=>by
  obtain⟨b,so,hao,hcell⟩:=h.cellsA (List.length_pos_iff.2 hz)
  exact⟨b,so,hao,fun j z hj=>hcell j z hj⟩⟩
theorem Tx.rdZ {B:Gm.Bs}{g:Nat}{ao:Option Addr}{cur A Z:List Int}{w:World}(h:Tx B g ao cur A Z w){T:Nat}(hT:T=cur.length - Z.length):L.Rd w (.slice (if cur.length=T then ao else Option.map (fun x=>x.add T) ao) (cur.length - T) (cur.length - T)) .i32 Z:=by
 have hf:=h.fit;have hl:cur.length - T=Z.length:=by omega
 refine⟨_,_,by rw[hl],fun e=> ?_,fun hz=> ?_⟩
 ·rcases h.room with ⟨_,hc⟩|⟨r,hr,_⟩
  ·have:cur.length=0:=by rw[hc];rfl
   omega
  ·rw[hr] at e;split at e <;> cases e
 ·obtain⟨r,hr,hc⟩:=h.cellsZ hT (List.length_pos_iff.2 hz);have:=List.length_pos_iff.2 hz;rw[if_neg (by omega),hr];exact⟨r,T,by rw[Option.map_some,L.addr_add,Nat.zero_add],fun j z hj=>hc j z hj⟩
theorem keep3b {w w':World}{o:Obj}{g:Nat}{v0 v1 v2:Value}(h:Bx3 w g v0 v1 v2)(hb:Below (w.alloc o).drew.heap.size (w.alloc o).drew w'):(w'.cell? ⟨g,0,none⟩=some v0/\w'.cell? ⟨g,1,none⟩=some v1)/\w'.cell? ⟨g,2,none⟩=some v2 :=
 have hb':Bx3 w' g v0 v1 v2:=h.block ((hb.block g (by have:=h.lt;show g<(w.alloc o).heap.size;simp;omega)).trans (Below.heap_alloc w o g h.lt))
 ⟨⟨hb'.c0,hb'.c1⟩,hb'.c2⟩
end Gm
theorem zlj (w:World)(B:Gm.Bs)(g:Nat)(ao:Option Addr)(cur A Z:List Int)(h:Gm.Tx B g ao cur A Z w) :
  Calls Tryz.prog 196 #[.pointer (some ⟨g,0,none⟩)] w fun e w'=>∃v,e= .returned v/\w'.ownsRow w.heap.size 21 1 v (A++Z).length ((A++Z).map (Value.int .i32))/\Below w.heap.size w w':=by
 have hf:=h.fit;have hm:=h.most;have hw:=h.few;have c0:=h.box.c0;have c1:=h.box.c1;have c2:=h.box.c2;have H:Hid (Gm.Tx B g ao cur A Z w):=h;have hgl:=h.box.lt;obtain⟨T,hT⟩:∃T:Nat,T=cur.length - Z.length:=⟨_,rfl⟩;have HT:Hid (T=cur.length - Z.length):=hT;rw[<- hT] at c2;have hT0:(0:Int)<=T:=by omega
 have hT1:(T:Int)<=cur.length:=by omega
 have hA0:(0:Int)<=A.length:=by omega
 have hA1:(A.length:Int)<=cur.length:=by omega
 have n0:=World.new_ne w _ c0;have n1:=World.new_ne w _ c1;have n2:=World.new_ne w _ c2
 have HC:Hid (∀v2,(∀o,L.Rd (w.alloc o).drew v2 .i32 Z)->Calls Tryz.prog 173 #[.slice (some ⟨w.heap.size,0,none⟩) 2 2] (w.alloc (.cells #[.slice ao A.length cur.length,v2] 33)).drew fun e w'=>∃v,e= .returned v/\w'.ownsRow w.heap.size 21 1 v (A++Z).length ((A++Z).map (Value.int .i32))/\Below (w.alloc (.cells #[.slice ao A.length cur.length,v2] 33)).drew.heap.size (w.alloc (.cells #[.slice ao A.length cur.length,v2] 33)).drew w'):=by
  intro v2 h2;have hx:∀o,Gm.Tx B g ao cur A Z (w.alloc o).drew:=fun o=>h.kept fun k hk=>Below.heap_alloc w o k hk
  refine(zio _ _ (.slice ao A.length cur.length) v2 _ _ ?_ ?_ ((hx _).rdA cur.length fun e=> ?_) (h2 _) hw).mono fun e w' ⟨v,he,ho,hb⟩=>⟨v,he,L.zaw ho (by show w.heap.size<=(w.alloc _).heap.size;simp),hb⟩
  ·exact World.cell?_alloc_at _ _ _ _ (by simp)
  ·exact World.cell?_alloc_at _ _ _ _ (by simp)
  ·rcases h.room with ⟨_,hc⟩|⟨r,hr,_⟩
   ·rw[hc];rfl
   ·rw[e] at hr;cases hr
 have HZ:Hid (∀o,L.Rd (w.alloc o).drew (.slice (if cur.length=T then ao else Option.map (fun x=>x.add T) ao) (cur.length - T) (cur.length - T)) .i32 Z):=fun o =>
  have hx:Gm.Tx B g ao cur A Z (w.alloc o).drew:=h.kept fun k hk=>Below.heap_alloc w o k hk
  hx.rdZ hT
 clear h hT;obtain⟨m,hmT⟩:∃m:Nat,m=cur.length - T:=⟨_,rfl⟩;obtain⟨ap,hap⟩:∃ap,ap=(if cur.length=T then ao else Option.map (fun x=>x.add T) ao):=⟨_,rfl⟩;rw[<- hmT,<- hap] at HZ
 have hsl:∀w',(Instr.slice 33 (.slice ao cur.length cur.length) (some (.int .i64 (T:Int))) none none).run Tryz.prog w'= .ok (.slice ap m m) w':=fun w'=>by
  rw[hmT,hap]
  go_simp
 clear hmT hap
 go_enter Tryz.func196,Tryz.ntmps196
 go_wp2
 go_region_held3 (fun w'=>(w'.cell? ⟨g,0,none⟩=some (.slice ao cur.length cur.length)/\w'.cell? ⟨g,1,none⟩=some (.int .i64 A.length))/\w'.cell? ⟨g,2,none⟩=some (.int .i64 T)) (first | exact Gm.keep3b (Gm.Bx3.toT H.out.box HT.out) bw | go_keep) (first | (go_at_call 173;refine(HC.out _ HZ.out).mono ?_;rintro e w' ⟨v,rfl,rv,bw⟩))
 have HV:Hid (w'.ownsRow w.heap.size 21 1 v (A++Z).length ((A++Z).map (Value.int .i32))):=rv;have HB:Hid (Below w.heap.size w w'):=((qR w).alloc qN _).drew.trans (bw.mono (by show w.heap.size<=(w.alloc _).heap.size;simp));clear rv bw HC;go_wp2
 all_goals
  go_ret;exact⟨_,rfl,HV.out,HB.out⟩
end Go.Proofs.YtamfgmaipajodaaGreatDoor
