import Derived.Test.YthnmmmkeamcfkaaGreatDoorXCheck
set_option maxHeartbeats 0
set_option maxRecDepth 20000
set_option linter.unusedSimpArgs false
set_option linter.unusedVariables false
namespace Go.Proofs.YthnmmmkeamcfkaaGreatDoor
open Go.Proofs.Tryz
section
open Go.RowKit
theorem zsh (w:World)(B:Gm.Bs)(g:Nat)(ao:Option Addr)(cur A Z:List Int)(h:Gm.Tx B g ao cur A Z w)(k:Nat)(hk:k<=A.length+Z.length) :
  Calls prog 231 #[.pointer (some ⟨g,0,none⟩),.int .i64 k] w fun e w'=>e= .returned (.int .i64 0)/\Gm.Told B g w ((A++Z).take k) ((A++Z).drop k) w':=by
 have hf:=h.fit
 by_cases h1:k<A.length
 ·obtain⟨r,rfl⟩:=h.room.some (by omega);rw[List.take_append_of_le_length (by omega),List.drop_append_of_le_length (by omega)];exact ziv w B g r cur A Z h k h1
 ·by_cases h2:k=A.length
  ·subst h2;rw[List.take_left,List.drop_left];exact ziu w B g ao cur A Z h
  ·obtain⟨m,rfl⟩:∃m,k=A.length+m:=⟨k - A.length,by omega⟩;obtain⟨r,rfl⟩:=h.room.some (by omega);rw[List.take_length_add_append,List.drop_length_add_append];exact zg0 w B g r cur A Z h _ m rfl (by omega) (by omega)
namespace Gm
theorem Told.from {B:Gm.Bs}{g:Nat}{w w1:World}{A Z:List Int}{w':World}(h:Told B g w1 A Z w')(hb:Gm.Fr B w w1):Told B g w A Z w':=⟨h.1,hb.trans h.2⟩
theorem Tx.new (w:World):Tx ⟨w.heap.size,[]⟩ w.heap.size none [] [] [] (w.alloc (.cells #[.slice none 0 0,.int .i64 0,.int .i64 0] 288)) :=
 ⟨⟨qN,by simp⟩,Go.heap_alloc_new w _,.inl ⟨rfl,rfl⟩,(fun r h=>by cases h),Nat.le_refl 0,Nat.zero_le _,Nat.zero_le _,rfl,rfl⟩
end Gm
theorem zu5 (w:World)(v:Value)(R:List Int)(hv:L.Rd w v .i32 R)(h4:R.length<=4000) :
  Calls prog 210 #[v] w fun e w'=>e= .returned (.tuple #[.pointer (some ⟨w.heap.size,0,none⟩),.int .i64 0])/\Gm.Told ⟨w.heap.size,[]⟩ w.heap.size w [] R w':=by
 have HV:=qH hv;obtain⟨sp,c,rfl,_⟩:=hv;obtain⟨w1,hw1⟩:∃w1,w1=w.alloc (.cells #[.slice none 0 0,.int .i64 0,.int .i64 0] 288):=⟨_,rfl⟩;have HX:Hid (Gm.Tx ⟨w.heap.size,[]⟩ w.heap.size none [] [] [] w1):=by rw[hw1];exact Gm.Tx.new w
 have HB:Hid (Below w.heap.size w w1):=by rw[hw1];exact(qR w).alloc qN _
 have HW:=qH hw1;clear hw1
 go_enter func210,ntmps210
 go_wp2_with fail
 rw[<- HW.out];refine(zuv _ _ _ none [] [] [] HX.out _ R (fun w' hb=>HV.out.below (HB.out.trans hb.1) qN) (by simpa using h4) (by simp)).mono ?_;rintro e w2 ⟨rfl,⟨ao2,cur2,hx2⟩,hb2⟩;have HX2:=qH hx2;have HB2:Hid (Gm.Fr ⟨w.heap.size,[]⟩ w w2):=⟨HB.out.trans hb2.1,fun j hj=>absurd hj (by simp)⟩;clear hx2 hb2 HW
 go_wp2_with fail
 refine(zsh _ _ _ ao2 cur2 ([]++R) [] HX2.out 0 (Nat.zero_le _)).mono ?_;rintro e w3 ⟨rfl,ht⟩
 have HE:Hid (Gm.Told ⟨w.heap.size,[]⟩ w.heap.size w [] R w3):=by
  have:=ht.from HB2.out
  show Gm.Told _ _ _ _ _ _;simpa using this
 clear ht;go_wp2
 go_ret2
 exact⟨rfl,HE.out⟩
end
section
open Go.RowKit Go.Shelf
theorem J.held {F:Nat}{e:TypeId}{k:Nat}{w w':World}{v:Value}{n:Nat}{xs:List Value}(h:w.ownsRow F e k v n xs)(hb:∀g,F<=g->g<w.heap.size->w'.heap[g]?=w.heap[g]?):w'.ownsRow F e k v n xs:=by
 obtain⟨h1,h2⟩:=h;refine⟨h1,?_⟩;rcases h2 with h2 | ⟨g,cap,cur,hv,hg,hx,r⟩
 ·exact .inl h2
 ·exact .inr ⟨g,cap,cur,hv,hg,by rw[hb g hg (lt_of_block hx)];exact hx,r⟩
theorem J.Own.held {F:Nat}{w w':World}{v:Value}{hs:List J.Hd}(h:J.Own F w v hs)(hb:∀g,F<=g->g<w.heap.size->w'.heap[g]?=w.heap[g]?):J.Own F w' v hs:=by
 obtain⟨ps,h1,h2,h3⟩:=h;exact⟨ps,h1,J.held h2 hb,fun p hp=>J.held (h3 p hp) hb⟩
theorem Gm.Chk.ok {l:List K.Rule}{t:List Int}{hs:List J.Hd}{e2:Int}(h:Gm.Chk l t (hs,0,e2)):t.length<=4000/\K.allR t=true/\e2=0/\∃c,Gm.Ok l c/\hs=J.heads (J.begins l) c (c.length - 1):=by
 rcases h with ⟨h,h2⟩|⟨h,h2,h3⟩|⟨h,h2,h3⟩
 ·simp only[Prod.mk.injEq] at h2;exact absurd (by rw[<- h2.2]) h
 ·simp only[Prod.mk.injEq] at h3;exact absurd h3.2.1.symm h2
 ·have h4:=K.zd9 h2
  have h5:K.allR t=true:=by
   unfold K.textE at h2;rw[if_neg (by omega)] at h2
   by_cases h:K.allR t=true
   ·exact h
   ·rw[if_neg h] at h2;cases h2
  rcases h3 with ⟨g,_⟩|⟨_,c,hc,_,⟨_,g⟩|⟨h9,g⟩⟩
  ·exact absurd h g
  ·simp at g
  ·simp only[Prod.mk.injEq] at g;exact⟨h4,h5,g.2.2,c,⟨(K.zax h).1,(K.zax h).2.1,hc,h9⟩,g.1⟩
def Gm.Rdy (wb w w':World) (v:Value) (l:List K.Rule) (t:List Int) (mb:Nat):Prop :=
 ∃b g vh c,w.heap.size<=b/\b<=mb/\Gm.Mx b [mb] mb wb w' g v vh l c [] t/\Gm.Ok l c/\K.allR t=true/\∀W',(∀j,w.heap.size<=j->j<b->W'.heap[j]?=w'.heap[j]?)->J.Rd W' vh (J.heads (J.begins l) c (c.length - 1))
theorem Gm.zs6 {wb w X w2:World}{va:Value}{l:List K.Rule}{t c:List Int}{vh:Value}(hwb:Below wb.heap.size wb w)(R0:V.Rus wb va l)(hBX:Below w.heap.size w X)(hXs:w.heap.size<X.heap.size)(hO:J.Own (w.heap.size+1) X vh (J.heads (J.begins l) c (c.length - 1)))(hok:Gm.Ok l c)(hall:K.allR t=true)(hTo:Gm.Told ⟨X.heap.size,[]⟩ X.heap.size X [] t w2)(x y:Value) :
  Gm.Rdy wb w (((w2.alloc (.cells #[.pointer (some ⟨X.heap.size,0,none⟩),va,vh] 272)).setCell ⟨w.heap.size,0,none⟩ x).setCell ⟨w.heap.size,1,none⟩ y) va l t w2.heap.size/\Below w.heap.size w (((w2.alloc (.cells #[.pointer (some ⟨X.heap.size,0,none⟩),va,vh] 272)).setCell ⟨w.heap.size,0,none⟩ x).setCell ⟨w.heap.size,1,none⟩ y):=by
 obtain⟨⟨ao,cur,hT⟩,hF⟩:=hTo;have hb2:Below X.heap.size X w2:=hF.1;have hs2:=hb2.size;have hsw:=hwb.size;obtain⟨M,hM⟩:∃M,M=w2.alloc (.cells #[.pointer (some ⟨X.heap.size,0,none⟩),va,vh] 272):=⟨_,rfl⟩;have hM0:M.heap[w2.heap.size]?=some (.cells #[.pointer (some ⟨X.heap.size,0,none⟩),va,vh] 272):=by rw[hM];exact heap_alloc_new w2 _
 have hMb:Below w.heap.size w M:=by rw[hM];exact(hBX.trans (hb2.mono (by omega))).alloc (by omega) _
 have hM1:∀j,j<w2.heap.size->M.heap[j]?=w2.heap[j]?:=fun j hj=>by rw[hM];exact Below.heap_alloc w2 _ j hj
 rw[<- hM];have hWb:Below w.heap.size w ((M.setCell ⟨w.heap.size,0,none⟩ x).setCell ⟨w.heap.size,1,none⟩ y):=(hMb.setCell (p:=⟨w.heap.size,0,none⟩) qN _).setCell (p:=⟨w.heap.size,1,none⟩) qN _
 have hW1:∀j,j≠w.heap.size->((M.setCell ⟨w.heap.size,0,none⟩ x).setCell ⟨w.heap.size,1,none⟩ y).heap[j]?=M.heap[j]?:=fun j hj=>by
  rw[heap_setCell_other _ _ j y (by simpa using hj),heap_setCell_other _ _ j x (by simpa using hj)]
 generalize (M.setCell ⟨w.heap.size,0,none⟩ x).setCell ⟨w.heap.size,1,none⟩ y=W at *;have hbox:=(hW1 _ (by omega)).trans hM0;have hhd:∀W',(∀j,w.heap.size<=j->j<X.heap.size->W'.heap[j]?=W.heap[j]?)->J.Rd W' vh (J.heads (J.begins l) c (c.length - 1)):=fun W' h=>(hO.held fun g h1 h2=>by rw[h g (by omega) h2,hW1 g (by omega),hM1 g (by omega)];exact hb2.block g h2).rd
 have hgl:=hT.box.lt
 have h2:=hT.re (B':=⟨X.heap.size,[w2.heap.size]⟩) ⟨qN,by simp;omega⟩ fun q hq=>by
  have h1:=hT.room.lt q hq;exact⟨h1.1.1,by simp;have:=h1.2;omega⟩
 refine⟨⟨X.heap.size,X.heap.size,vh,c,by omega,hs2,⟨by omega,hwb.trans (hWb.mono hsw),hbox,by simp,fun j hj=> ?_,⟨ao,cur,h2.hB,h2.box.block ?_,h2.room.block fun r hr=> ?_,h2.ne,h2.fit,h2.most,h2.few,h2.ahead,h2.behind⟩,R0,fun W' hW'=>hhd W' fun j h3 h4=>hW'.block j h4⟩,hok,hall,hhd⟩,hWb⟩
 ·simp at hj;subst hj;exact lt_of_block hbox
 ·rw[hW1 _ (by omega),hM1 _ hgl]
 ·have h1:=hT.room.lt r hr;have h3:X.heap.size<=r:=h1.1.1;rw[hW1 _ (by omega),hM1 _ h1.2]
theorem zmr (wb w:World)(v:Value)(l:List K.Rule)(hwb:Below wb.heap.size wb w)(R0:V.Rus wb v l)(vt:Value)(t:List Int)(Rt:L.Rd w vt .i32 t)(ht:t.length<=140737488355328) :
  Calls prog 189 #[v,vt] w fun e w'=>∃o,Gm.Chk l t o/\Below w.heap.size w w'/\((o.2.1≠0/\e= .returned (.tuple #[.pointer none,.agg #[.int .i64 o.2.1,.int .i64 o.2.2]]))∨(o.2.1=0/\∃mb,e= .returned (.tuple #[.pointer (some ⟨mb,0,none⟩),.agg #[.int .i64 0,.int .i64 0]])/\Gm.Rdy wb w w' v l t mb)):=by
 have HA:=qH <| fun o=>(qR w).alloc qN o
 have HC:=qH <| fun o=>zmv _ v l ((R0.below hwb).below (HA.out o)) vt t (Rt.below (HA.out o) qN) ht
 have HR:Hid (V.Rus wb v l/\Below wb.heap.size wb w):=⟨R0,hwb⟩;have HT:=qH Rt;obtain⟨va,vc,rfl⟩:=R0.len;clear R0 Rt hwb
 go_enter func189,ntmps189
 go_wp2_with fail
 refine(HC.out _).mono ?_;rintro e w1 ⟨v',⟨hs,e1,e2⟩,hch,rfl,own,b1⟩;obtain⟨h1,B1,s1⟩:=K.zau b1;have HB1:=qH B1;have HX1:Hid (w1.heap[w.heap.size]?=some (.cells #[.int .i64 0,.int .i64 0] 38)):=h1;have HCh:=qH hch;have hOw:J.Own (w.heap.size+1) w1 v' hs:=by simpa using own
 have HOw:=qH hOw;obtain⟨x0,x1,f0,f1⟩:=K.box2 h1;have k0:=fun o=>K.zai x0 o
 have k1:=fun o=>K.zai x1 o
 have g0:=fun o=>K.zao h1 o 0
 have g1:=fun o=>K.zao h1 o 1
 have HB2:=qH <| fun o=>HB1.out.alloc (by omega) o
 clear b1 B1 HC x0 x1 f0 f1 h1 hch own hOw
 by_cases q:e1=0
 ·subst q;obtain⟨ht4,hall,rfl,c,hok,rfl⟩:=HCh.out.ok;have HOk:Hid (Gm.Ok l c/\K.allR t=true):=⟨hok,hall⟩;obtain⟨X,hX⟩:∃X,X=w1.alloc (.cells #[.int .i64 0,.int .i64 0] 38):=⟨_,rfl⟩;have HXX:=qH hX;have HBX:Hid (Below w.heap.size w X):=by show Below _ _ _;rw[hX];exact HB2.out _
  have hXs:w.heap.size<X.heap.size:=by rw[hX];simp;omega
  have HXb:Hid (X.heap[w.heap.size]?=some (.cells #[.int .i64 0,.int .i64 0] 38)):=by
   show X.heap[w.heap.size]?=_;rw[hX,Below.heap_alloc w1 _ w.heap.size (by omega)];exact HX1.out
  have HOX:Hid (J.Own (w.heap.size+1) X v' (J.heads (J.begins l) c (c.length - 1))):=by
   show J.Own _ _ _ _;rw[hX];exact HOw.out.below ((qR w1).alloc qN _)
  have HNw:Hid (∀Y,Y=X->Calls prog 210 #[vt] Y fun e w'=>e= .returned (.tuple #[.pointer (some ⟨X.heap.size,0,none⟩),.int .i64 0])/\Gm.Told ⟨X.heap.size,[]⟩ X.heap.size X [] t w'):=fun Y hY=>by rw[hY];exact zu5 X vt t (HT.out.below HBX.out qN) ht4
  clear hX k0 k1 g0 g1 hok hall HOw;obtain⟨ua,uc,rfl⟩:=HOX.out.len;generalize hhs:J.heads (J.begins l) c (c.length - 1)=hs at *
  go_wp2_with fail
  go_at_call 210
  refine(HNw.out _ HXX.out.symm).mono ?_;rintro e w2 ⟨rfl,told⟩;have HTo:=qH told;have hb2:Below X.heap.size X w2:=told.2.1;have hx2:=K.zae HXb.out hb2;have HX2:=qH hx2;obtain⟨x0,x1,f0,f1⟩:=K.box2 hx2;have k0:=fun o=>K.zai x0 o
  have k1:=fun o=>K.zai x1 o
  have g0:=fun o=>K.zao hx2 o 0
  have g1:=fun o=>K.zao hx2 o 1
  have hs2:=hb2.size;have HFin:Hid (∀x y,_):=fun x y=>Gm.zs6 (c:=c) HR.out.2 HR.out.1 HBX.out hXs (by rw[hhs];exact HOX.out) HOk.out.1 HOk.out.2 HTo.out x y
  clear told hb2 hx2 HNw HXX HXb HB1 HX1 HB2 x0 x1 f0 f1;go_wp2;refine bodyPost_ret (v:= .tuple #[.pointer (some ⟨w2.heap.size,0,none⟩),.agg #[.int .i64 0,.int .i64 0]]) (by simp[results,results189,go_sem, *]) rfl ?_;exact⟨_,HCh.out,(HFin.out _ _).2,.inr ⟨rfl,_,rfl,(HFin.out _ _).1⟩⟩
 ·go_wp2
  go_region
  go_wp2;refine bodyPost_ret (v:= .tuple #[.pointer none,.agg #[.int .i64 e1,.int .i64 e2]]) (by simp[results,results189,go_sem, *]) rfl ?_
  exact⟨_,HCh.out,(((HB2.out _).setCell (p:=⟨w.heap.size,0,none⟩) qN _).setCell (p:=⟨w.heap.size,1,none⟩) qN _).drew,.inl ⟨q,rfl⟩⟩
end
section
open Go.RowKit Go.Shelf
def Gm.Cn (b ob:Nat) (vh:Value) (l:List K.Rule) (c:List Int) (W:World) (s p:Int):Prop :=
 W.heap[ob]?=some (.cells #[.slice none 0 0,.int .i64 s,.int .i64 p] 58)/\∀W',(∀j,j<b->j≠ob->W'.heap[j]?=W.heap[j]?)->J.Rd W' vh (J.heads (J.begins l) c (c.length - 1))
theorem Gm.Mx.count {b ob mb:Nat}{ms:List Nat}{wb w w':World}{g:Nat}{vr vh:Value}{l:List K.Rule}{c A Z:List Int}{s p:Int}(M:Gm.Mx b ms mb wb w g vr vh l c A Z)(hob:wb.heap.size<=ob)(hb:ob<b)(hmb:mb≠ob)(C:Gm.Cn b ob vh l c w s p)
  (hs:w.heap.size<=w'.heap.size) (hbel:Below wb.heap.size wb w') (e:∀j,j<w.heap.size->j≠ob->w'.heap[j]?=w.heap[j]?):Gm.Mx b ms mb wb w' g vr vh l c A Z:=by
 obtain⟨ao,cur,hT⟩:=M.tx;have hg:b<=g:=hT.hB.1;have htop:=M.top;have hm:=(qA.1 M.box).1;refine⟨M.base,hbel,(e mb hm hmb).trans M.box,M.mem,fun j hj=>by have:=M.old j hj;omega,⟨ao,cur,hT.hB,hT.box.block (e g hT.box.lt (by omega)),hT.room.block fun r hr=> ?_,hT.ne,hT.fit,hT.most,hT.few,hT.ahead,hT.behind⟩,M.rus,fun W hW=> ?_⟩
 ·have h1:=hT.room.lt r hr;have h2:b<=r:=h1.1.1;exact e r h1.2 (by omega)
 ·exact C.2 W fun j hj hne=>(hW.block j hj).trans (e j (by omega) hne)
theorem zmu (W:World)(ob:Nat)(s p at_ k:Int)(h:W.heap[ob]?=some (.cells #[.slice none 0 0,.int .i64 s,.int .i64 p] 58))(hs0:0<=s)(hs:s<=100000)(hp0:0<=p)(hp:p<=100000)(hk:k= -1∨0<=k) :
  Calls prog 201 #[.agg #[.int .i64 at_,.int .i64 k],.pointer (some ⟨ob,0,none⟩)] W fun e w'=>e= .returned (.tuple #[])/\w'.heap[ob]?=some (.cells #[.slice none 0 0,.int .i64 (s+1),.int .i64 (p+if k= -1 then 0 else 1)] 58)/\W.heap.size<=w'.heap.size/\(∀B,B<=ob->Below B W w')/\(∀j,j<W.heap.size->j≠ob->w'.heap[j]?=W.heap[j]?):=by
 have hob:=(qA.1 h).1;have e1:∀x,(W.setCell ⟨ob,1,none⟩ x).heap[ob]?=some (.cells #[.slice none 0 0,x,.int .i64 p] 58):=fun x=>heap_setCell_same W ob 1 _ _ x h
 have e2:∀x y,((W.setCell ⟨ob,1,none⟩ x).setCell ⟨ob,2,none⟩ y).heap[ob]?=some (.cells #[.slice none 0 0,x,y] 58):=fun x y=>heap_setCell_same _ ob 2 _ _ y (e1 x)
 have f1:∀x j,j≠ob->(W.setCell ⟨ob,1,none⟩ x).heap[j]?=W.heap[j]?:=fun x j hne=>heap_setCell_other W _ j x (by simpa using hne)
 have f2:∀x y j,j≠ob->((W.setCell ⟨ob,1,none⟩ x).setCell ⟨ob,2,none⟩ y).heap[j]?=W.heap[j]?:=fun x y j hne=>(heap_setCell_other _ _ j y (by simpa using hne)).trans (f1 x j hne)
 have al:∀(V:World) (o v:Obj),V.heap[ob]?=some v->(∀B,B<=ob->Below B W V)->(∀j,j≠ob->V.heap[j]?=W.heap[j]?)->(V.alloc o).heap[ob]?=some v/\W.heap.size<=(V.alloc o).heap.size/\(∀B,B<=ob->Below B W (V.alloc o))/\(∀j,j<W.heap.size->¬j=ob->(V.alloc o).heap[j]?=W.heap[j]?):=fun V o v h1 h2 h3=>by
  have hs:=(h2 0 (Nat.zero_le _)).size;refine⟨(Below.heap_alloc V o ob (by omega)).trans h1,by simp;omega,fun B hB=>(h2 B hB).alloc (by omega) o,fun j hj hne=>(Below.heap_alloc V o j (by omega)).trans (h3 j hne)⟩
 have H1:Hid (∀x o,_):=fun x o=>al (W.setCell ⟨ob,1,none⟩ x) o _ (e1 x) (fun B hB=>(Below.refl B W).setCell hB x) (f1 x)
 have H2:Hid (∀x y o,_):=fun x y o=>al ((W.setCell ⟨ob,1,none⟩ x).setCell ⟨ob,2,none⟩ y) o _ (e2 x y) (fun B hB=>((Below.refl B W).setCell hB x).setCell hB y) (f2 x y)
 have c1:W.cell? ⟨ob,1,none⟩=some (.int .i64 s):=K.zad (i:=1) h rfl;have c2:W.cell? ⟨ob,2,none⟩=some (.int .i64 p):=K.zad (i:=2) h rfl;have fr:=fun i=>frozen_of_row W _ i _ _ h
 have hne:W.heap.size≠ob:=by omega
 have hne2:ob≠W.heap.size:=by omega
 clear e1 e2 f1 f2 al h
 go_enter func201,ntmps201
 rcases hk with rfl | hk
 ·go_wp2;refine bodyPost_end (results_none rfl _ _ _) rfl ?_
  exact⟨rfl,H1.out _ _⟩
 ·have hk1:¬k= -1:=by omega
  go_wp2;refine bodyPost_end (results_none rfl _ _ _) rfl ?_
  exact⟨rfl,H2.out _ _ _⟩
theorem Gm.Cn.keep {b ob:Nat}{vh:Value}{l:List K.Rule}{c:List Int}{W W':World}{s p:Int}(h:Gm.Cn b ob vh l c W s p)(hob:ob<b)(hb:Below b W W'):Gm.Cn b ob vh l c W' s p :=
 ⟨(hb.block ob hob).trans h.1,fun W2 e=>h.2 W2 fun j hj hne=>(e j hj hne).trans (hb.block j hj)⟩
def Gm.Cb (b ob rb:Nat) (o:Obj) (vh:Value) (l:List K.Rule) (c:List Int) (W:World) (s p:Int):Prop:=Gm.Cn b ob vh l c W s p/\W.heap[rb]?=some o
theorem Gm.Cb.keep {b ob rb:Nat}{o:Obj}{vh:Value}{l:List K.Rule}{c:List Int}{W W':World}{s p:Int}(h:Gm.Cb b ob rb o vh l c W s p)(hob:ob<b)(hrb:rb<b)(hb:Below b W W'):Gm.Cb b ob rb o vh l c W' s p :=
 ⟨h.1.keep hob hb,(hb.block rb hrb).trans h.2⟩
theorem Gm.zso {b ob rb mb:Nat}{o:Obj}{wb:World}{g:Nat}{vr vh:Value}{l:List K.Rule}{c:List Int}{n:Nat}(hob:wb.heap.size<=ob)(hb:ob<b)(hmb:mb≠ob)(hrb:rb≠ob)(hn:n<=4000) :
  ∀W A Z (s p at_ k:Int),Gm.Mx b [mb] mb wb W g vr vh l c A Z->Gm.Cb b ob rb o vh l c W s p->0<=p->p<=s->s<8*n+40->(k= -1∨0<=k)->Calls prog 201 (#[.agg #[.int .i64 at_,.int .i64 k]]++#[.pointer (some ⟨ob,0,none⟩)]) W fun e w'=>e= .returned (.tuple #[])/\Gm.Mx b [mb] mb wb w' g vr vh l c A Z/\Gm.Cb b ob rb o vh l c w' (s+1) (p+if k= -1 then 0 else 1):=by
 intro W A Z s p at_ k M C h0 h1 h2 hk;refine(zmu W ob s p at_ k C.1.1 (by omega) (by omega) h0 (by omega) hk).mono ?_;rintro e w' ⟨rfl,g1,g2,g3,g4⟩;have htop:=M.top;refine⟨rfl,M.count hob hb hmb C.1 g2 (M.bel.trans (g3 _ hob)) g4,⟨g1,fun W' e=>C.1.2 W' fun j hj hne=>(e j hj hne).trans (g4 j (by omega) hne)⟩,(g4 rb (lt_of_block C.2) hrb).trans C.2⟩
