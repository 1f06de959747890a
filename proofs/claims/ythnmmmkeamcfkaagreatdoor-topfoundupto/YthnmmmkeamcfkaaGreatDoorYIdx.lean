import Derived.Test.YthnmmmkeamcfkaaGreatDoorAlApp
set_option maxHeartbeats 0
set_option maxRecDepth 20000
set_option linter.unusedSimpArgs false
set_option linter.unusedVariables false
namespace Go.Proofs.YthnmmmkeamcfkaaGreatDoor
open Go.Proofs.Tryz
section
open Go.RowKit Go.Shelf
theorem Tryz.infoShot:(prog.info? 186).map (fun i=>(i.zero,i.size,i.bytes))=some (some (.agg #[.int .i64 0,.int .i64 0]),2,16):=by kernel_rfl
theorem Tryz.infoLink:(prog.info? 188).map (fun i=>(i.zero,i.size,i.bytes))=some (some (.agg #[.int .i64 0,.int .i64 0,.int .i64 0,.int .i64 0,.int .i64 0]),5,40):=by kernel_rfl
namespace Al
def scells (sh:List (Int×Int)):List Value:=sh.flatMap fun x=> [.int .i64 x.1,.int .i64 x.2]
theorem zds (a b:List (Int×Int)):scells (a++b)=scells a++scells b:=by simp[scells]
def lcells (sh:List Lk):List Value:=sh.flatMap fun x=> [.int .i64 x.fr,.int .i64 x.up,.int .i64 x.beg,.int .i64 x.fin,.int .i64 x.rule]
theorem zhl (a b:List Lk):lcells (a++b)=lcells a++lcells b:=by simp[lcells]
end Al
end
section
open Go.RowKit Go.Shelf
def Al.Tr (b ob:Nat) (vh:Value) (l:List K.Rule) (c:List Int) (W:World) (ms:List Nat) (sh:List (Int×Int)):Prop :=
 (∃v,W.heap[ob]?=some (.cells #[v] 182)/\W.ownsRow b 186 2 v sh.length (Al.scells sh)/\∀q,v.ownBlock=some q->q∈ms)/\(∀q∈ms,∃cs p,W.heap[q]?=some (.cells cs 186 p))/\∀W',(∀j,j<b->j≠ob->W'.heap[j]?=W.heap[j]?)->J.Rd W' vh (J.heads (J.begins l) c (c.length - 1))
theorem Al.Tr.keep {b ob mb:Nat}{vh:Value}{l:List K.Rule}{c:List Int}{W W':World}{ms:List Nat}{sh:List (Int×Int)}(h:Al.Tr b ob vh l c W ms sh)(hob:ob<b)(hb:Gm.Fr ⟨b,mb::ms⟩ W W'):Al.Tr b ob vh l c W' ms sh:=by
 obtain⟨⟨v,h1,h2,h3⟩,h4,h5⟩:=h;have hk:=fun q hq hl=>hb.2 q (List.mem_cons_of_mem _ hq) hl
 refine⟨⟨v,(hb.1.block ob hob).trans h1,Al.held h2 fun q hq hl=>hk q (h3 q hq) hl,h3⟩,fun q hq=> ?_,fun W2 e=>h5 W2 fun j hj hne=>(e j hj hne).trans (hb.1.block j hj)⟩;obtain⟨cs,p,hx⟩:=h4 q hq;exact⟨cs,p,(hk q hq (lt_of_block hx)).trans hx⟩
theorem Gm.Mx.tells {b ob mb:Nat}{ms ns:List Nat}{wb w w':World}{g:Nat}{vr vh:Value}{l:List K.Rule}{c A Z:List Int}(M:Gm.Mx b (mb::ms) mb wb w g vr vh l c A Z)(hb:ob<b)(hmb:mb≠ob)
  (hm:∀q∈ms,∃cs p,w.heap[q]?=some (.cells cs 186 p)) (hn:∀q∈ns,∃cs p,w'.heap[q]?=some (.cells cs 186 p))
  (hs:w.heap.size<=w'.heap.size) (hbel:Below wb.heap.size wb w') (e:∀j,j<w.heap.size->j≠ob->j∉ms->w'.heap[j]?=w.heap[j]?) (hd:∀W',(∀j,j<b->j≠ob->W'.heap[j]?=w.heap[j]?)->J.Rd W' vh (J.heads (J.begins l) c (c.length - 1))) (hms:∀q∈ms,b<=q):Gm.Mx b (mb::ns) mb wb w' g vr vh l c A Z:=by
 obtain⟨ao,cur,hT⟩:=M.tx;have hg:b<=g:=hT.hB.1;have htop:=M.top;have hml:=lt_of_block M.box
 have hmm:mb∉ms:=fun h=>by
  obtain⟨cs,p,hx⟩:=hm mb h;have:=hx.symm.trans M.box;simp at this
 have hgm:g∉ms:=fun h=>hT.hB.2 (List.mem_cons_of_mem _ h)
 have ebox:=(e mb hml hmb hmm).trans M.box;have eg:=hT.box.block (e g hT.box.lt (by omega) hgm)
 have er:=fun r hr=>by
  have h1:=hT.room.lt r hr;have h2:b<=r:=h1.1.1;exact e r h1.2 (by omega) fun h=>h1.1.2 (List.mem_cons_of_mem _ h)
 have hroom:=hT.room.block er;have h2:Gm.Tx ⟨b,mb::ms⟩ g ao cur A Z w':=⟨hT.hB,eg,hroom,hT.ne,hT.fit,hT.most,hT.few,hT.ahead,hT.behind⟩;refine⟨M.base,hbel,ebox,by simp,fun j hj=> ?_,⟨ao,cur,h2.re ⟨hg,fun h=> ?_⟩ fun q hq=> ?_⟩,M.rus,fun W hW=> ?_⟩
 ·rcases List.mem_cons.1 hj with rfl | hj
  ·omega
  ·obtain⟨cs,p,hx⟩:=hn j hj;exact lt_of_block hx
 ·rcases List.mem_cons.1 h with h | h
  ·exact hT.hB.2 (by rw[h];simp)
  ·obtain⟨cs,p,hx⟩:=hn g h;have:=hx.symm.trans eg;simp at this
 ·have h1:=hT.room.lt q hq;refine⟨h1.1.1,fun h=> ?_⟩;rcases List.mem_cons.1 h with h | h
  ·exact h1.1.2 (by rw[h];simp)
  ·obtain⟨cs,p,hx⟩:=hn q h;rcases hroom with ⟨h0,_⟩|⟨r,hr,_,hx2⟩
   ·rw[h0] at hq;cases hq
   ·rw[hr] at hq;cases hq;have:=hx.symm.trans hx2;simp at this
 ·refine hd W fun j hj hne=>(hW.block j hj).trans (e j (by omega) hne fun h=> ?_)
  have:=hms j h;omega
theorem znz (W:World)(b ob:Nat)(v:Value)(sh:List (Int×Int))(at_ k:Int)(h:W.heap[ob]?=some (.cells #[v] 182))(own:W.ownsRow b 186 2 v sh.length (Al.scells sh))(hob:ob<b)(hb:b<=W.heap.size)(hl:sh.length<=100000) :
  Calls prog 152 #[.agg #[.int .i64 at_,.int .i64 k],.pointer (some ⟨ob,0,none⟩)] W fun e w'=>e= .returned (.tuple #[])/\∃v',w'.heap[ob]?=some (.cells #[v'] 182)/\w'.ownsRow b 186 2 v' (sh.length+1) (Al.scells (sh++ [(at_,k)]))/\W.heap.size<=w'.heap.size/\(∀B,B<=ob->Below B W w')/\(∀j,j<W.heap.size->j≠ob->v.ownBlock≠some j->w'.heap[j]?=W.heap[j]?):=by
 obtain⟨vo,vc,rfl⟩:∃vo vc,v= .slice vo sh.length vc:=by
  rcases own.2 with ⟨hv,h0⟩|⟨g,cap,cur,hv,_⟩
  ·exact⟨none,0,by rw[hv,h0]⟩
  ·exact⟨_,cap,hv⟩
 generalize hv:Value.slice vo sh.length vc=v at *;obtain⟨X,hX⟩:∃X,X=W.alloc (.cells #[.int .i64 at_,.int .i64 k] 186):=⟨_,rfl⟩;have hbX:Below W.heap.size W X:=by rw[hX];exact(qR W).alloc qN _
 have hXs:X.heap.size=W.heap.size+1:=by rw[hX];simp
 have ownX:X.ownsRow b 186 2 v sh.length (Al.scells sh):=by rw[hX];exact own.alloc _
 have hnew:X.heap[W.heap.size]?=some (.cells #[.int .i64 at_,.int .i64 k] 186):=by rw[hX];exact heap_alloc_new W _
 have hbo:=(hbX.block ob (by omega)).trans h;obtain⟨ao1,vc1,w1,run1,own1,kp1,sz1,be1⟩:=Al.app (sl:=182) underlying182 Tryz.infoShot rfl (by decide) (by decide) ownX (by omega) (by omega) [.int .i64 at_,.int .i64 k] rfl (fun u hu=>by simp at hu;rcases hu with rfl | rfl <;> rfl);have hvo:v.ownBlock≠some ob:=fun e=>by have:=(Al.block own e).1;omega
 have ho1:=(kp1 ob (by omega) hvo).trans hbo
 have HQ:Hid (∀y,y=Value.slice ao1 (sh.length+1) vc1->∃v',(w1.setCell ⟨ob,0,none⟩ y).heap[ob]?=some (.cells #[v'] 182)/\(w1.setCell ⟨ob,0,none⟩ y).ownsRow b 186 2 v' (sh.length+1) (Al.scells (sh++ [(at_,k)]))/\W.heap.size<=(w1.setCell ⟨ob,0,none⟩ y).heap.size/\(∀B,B<=ob->Below B W (w1.setCell ⟨ob,0,none⟩ y))/\(∀j,j<W.heap.size->j≠ob->v.ownBlock≠some j->(w1.setCell ⟨ob,0,none⟩ y).heap[j]?=W.heap[j]?)):=by
  rintro y rfl;refine⟨_,heap_setCell_same w1 ob 0 _ _ _ ho1,?_,by simp;omega,fun B hB=>((hbX.mono (by omega)).trans (be1.mono (by omega))).setCell (p:=⟨ob,0,none⟩) hB _,fun j hj hne hv=> ?_⟩
  ·rw[Al.zds];exact Al.held own1 fun q hq _=>heap_setCell_other w1 _ q _ (by have:=(Al.block own1 hq).1;simp;omega)
  ·rw[heap_setCell_other w1 ⟨ob,0,none⟩ j _ (by simpa using hne),kp1 j (by omega) hv];exact hbX.block j hj
 have c1:W.cell? ⟨ob,0,none⟩=some v:=K.zad (i:=0) h rfl;have hobl:ob<W.heap.size:=by omega
 have hne:ob≠W.heap.size:=by omega
 have fr:=frozen_of_row w1 _ 0 _ _ ho1;have d1:w1.cell? ⟨ob,0,none⟩=some v:=K.zad (i:=0) ho1 rfl;rw[hXs] at run1;rw[hX] at run1;subst hv;have hlen:=hl;clear hbX hX hXs ownX hnew hbo own1 kp1 be1 ho1 hvo own h sz1
 go_enter func152,ntmps152
 go_wp2_with (at_builtin;refine Lib.wpList_append_run _ rfl _ _ _ _ rfl _ _ rfl rfl _ _ (run1 _) ?_;clear run1)
 refine bodyPost_end (results_none rfl _ _ _) rfl ?_;exact⟨rfl,HQ.out _ rfl⟩
end
section
open Go.RowKit Go.Shelf
theorem Al.idle {w:World}{r:Nat}{x y:Value}{ty:TypeId}(h:w.heap[r]?=some (.cells #[x,y] ty)):Below w.heap.size w ((w.setCell ⟨r,0,none⟩ x).setCell ⟨r,1,none⟩ y):=by
 refine⟨rfl,rfl,rfl,by simp,fun k hk=> ?_⟩
 by_cases e:k=r
 ·subst e;rw[h];exact heap_setCell_same _ k 1 _ _ y (heap_setCell_same w k 0 _ _ x h)
 ·rw[heap_setCell_other _ ⟨r,1,none⟩ k y (by simpa using e),heap_setCell_other _ ⟨r,0,none⟩ k x (by simpa using e)]
def Al.Trc (l:List K.Rule) (t:List Int) (sh:List (Int×Int)) (f1 f2:Int):Prop :=
 ∃o:List J.Hd×Int×Int,Gm.Chk l t o/\((o.2.1≠0/\f1=o.2.1/\f2=o.2.2)∨(o.2.1=0/\(K.play l (8*t.length+40) [] t 0 0).1=f1/\f2=0))/\sh=if f1=0 then Al.shots l (8*t.length+40) [] t else []
def Al.Out (w':World) (ob:Nat) (l:List K.Rule) (t:List Int) (f1:Int):Prop :=
 f1=0->∃v',w'.heap[ob]?=some (.cells #[v'] 182)/\w'.ownsRow (ob+1) 186 2 v' (Al.shots l (8*t.length+40) [] t).length (Al.scells (Al.shots l (8*t.length+40) [] t))
theorem Al.Out.below {w w':World}{ob:Nat}{l:List K.Rule}{t:List Int}{f1:Int}(h:Al.Out w ob l t f1)(hb:Below w.heap.size w w'):Al.Out w' ob l t f1:=fun hf=>by
 obtain⟨v',h1,h2⟩:=h hf;exact⟨v',K.zaf h1 hb,L.zbh h2 hb qN⟩
theorem Al.told {b ob rb mb:Nat}{o:Obj}{wb:World}{g:Nat}{vr vh:Value}{l:List K.Rule}{c:List Int}{n:Nat}(hob:wb.heap.size<=ob)(hb:ob<b)(hmb:mb≠ob)(hrb:rb≠ob)(hrl:rb<b)(hn:n<=4000) :
  ∀W ms A Z (sh:List (Int×Int)) (at_ k:Int),Gm.Mx b (mb::ms) mb wb W g vr vh l c A Z->Al.Tr b ob vh l c W ms sh/\(∀q∈ms,b<=q)->W.heap[rb]?=some o->sh.length<8*n+40->Calls prog 152 (#[.agg #[.int .i64 at_,.int .i64 k]]++#[.pointer (some ⟨ob,0,none⟩)]) W fun e w'=>e= .returned (.tuple #[])/\w'.heap[rb]?=some o/\∃ns,Gm.Mx b (mb::ns) mb wb w' g vr vh l c A Z/\Al.Tr b ob vh l c w' ns (sh++ [(at_,k)])/\(∀q∈ns,b<=q):=by
 rintro W ms A Z sh at_ k M ⟨⟨⟨v,h1,h2,h3⟩,h4,h5⟩,h6⟩ hr hl;have htop:=M.top;refine(znz W b ob v sh at_ k h1 h2 hb htop (by omega)).mono ?_;rintro e w' ⟨rfl,v',g1,g2,g3,g4,g5⟩;have hne:∀j,j∉ms->v.ownBlock≠some j:=fun j hj e=>hj (h3 j e)
 have e5:=fun j hj h7 h8=>g5 j hj h7 (hne j h8)
 have hrm:rb∉ms:=fun h=>by have:=h6 rb h;omega
 have hns:∀q∈v'.ownBlock.toList,v'.ownBlock=some q:=fun q hq=>by simpa using hq
 have hcs:=fun q hq=>(Al.block g2 (hns q hq)).2
 refine⟨rfl,(e5 rb (lt_of_block hr) hrb hrm).trans hr,v'.ownBlock.toList,M.tells hb hmb h4 hcs g3 (M.bel.trans (g4 _ hob)) e5 h5 h6,⟨⟨v',g1,by rw[List.length_append];exact g2,fun q hq=>by simp[hq]⟩,hcs,fun W2 e=>h5 W2 fun j hj hne2=>(e j hj hne2).trans (e5 j (by omega) hne2 fun h=> ?_)⟩,fun q hq=>(Al.block g2 (hns q hq)).1⟩;have:=h6 j h;omega
theorem zhu (wb w:World)(v:Value)(l:List K.Rule)(hwb:Below wb.heap.size wb w)(R0:V.Rus wb v l)(vt:Value)(t:List Int)(Rt:L.Rd w vt .i32 t)(ht:t.length<=140737488355328)(ob:Nat)(hob:wb.heap.size<=ob)(hout:w.heap[ob]?=some (.cells #[.slice none 0 0] 182)) :
  Calls prog 151 #[v,vt,.func (.func 152) #[] #[.pointer (some ⟨ob,0,none⟩)]] w fun e w'=>∃mp f1 f2,e= .returned (.tuple #[mp,.agg #[.int .i64 f1,.int .i64 f2]])/\Below wb.heap.size wb w'/\Al.Trc l t (if f1=0 then Al.shots l (8*t.length+40) [] t else []) f1 f2/\Al.Out w' ob l t f1:=by
 have eg:∀args w,(callFunc 152 args).run prog w= .ok (.enter 152 args) w:=enters_of func152 (by kernel_rfl) rfl;have hobl:=lt_of_block hout;have hsb:=hwb.size;have HA:=qH <| fun o=>(qR w).alloc qN o
 have HRe:=qH <| fun o=>zf4 wb (w.alloc o) v l (hwb.trans ((HA.out o).mono hsb)) R0 vt t (Rt.below (HA.out o) qN) ht
 have HWB:=qH hwb;have HOut:=qH hout;obtain⟨va,vc,rfl⟩:=R0.len;clear R0 Rt hwb hout
 go_enter func151,ntmps151
 go_wp2_with fail
 refine(HRe.out _).mono ?_;rintro e w1 ⟨⟨hs,e1,e2⟩,hch,b1,⟨hq,rfl⟩|⟨hq,mb,rfl,hrdy⟩⟩
 ·obtain⟨h1,B1,s1⟩:=K.zay b1;have HCh:=qH hch;have HB2:=qH <| fun o=>B1.alloc (by omega) o
  obtain⟨x0,x1,f0,f1⟩:=K.box2 h1;have k0:=fun o=>K.zai x0 o
  have k1:=fun o=>K.zai x1 o
  have g0:=fun o=>K.zal h1 o 0
  have g1:=fun o=>K.zal h1 o 1
  have hq':¬e1=0:=hq;clear b1 B1 HRe x0 x1 f0 f1 h1 hch hq;go_wp2
  go_region
  go_wp2;refine bodyPost_ret (v:= .tuple #[.pointer none,.agg #[.int .i64 e1,.int .i64 e2]]) (by simp[results,results151,go_sem, *]) rfl ?_
  exact⟨_,_,_,rfl,HWB.out.trans (((((HB2.out _).setCell (p:=⟨w.heap.size,0,none⟩) qN _).setCell (p:=⟨w.heap.size,1,none⟩) qN _).drew).mono hsb),⟨_,HCh.out,.inl ⟨hq',rfl,rfl⟩,rfl⟩,fun h=>absurd h hq'⟩
 ·obtain⟨h1,B1,s1⟩:=K.zay b1;have hq':e1=0:=hq;subst hq';have HCh:=qH hch;obtain⟨b,g,vh,c,hb1,hb2,hMx,hok,hall,hhd⟩:=hrdy;have hsz:(w.alloc (.cells #[.int .i64 0,.int .i64 0] 38)).heap.size=w.heap.size+1:=by simp
  have hbt:=hMx.top;have hmlt:=hMx.old mb (by simp);obtain⟨⟨p1,p2,p3,p4⟩,hO⟩:∃o,K.play l (8*t.length+40) [] t 0 0=o:=⟨_,rfl⟩
  have HPl:Hid (∀o,Calls prog 190 #[.pointer (some ⟨mb,0,none⟩),.func (.func 152) #[] #[.pointer (some ⟨ob,0,none⟩)]] (w1.alloc o) fun e w'=>e= .returned (.int .i64 p1)/\Below wb.heap.size wb w'/\w'.heap[w.heap.size]?=some (.cells #[.int .i64 0,.int .i64 0] 38)/\Al.Out w' ob l t p1):=fun o=>by
   have hal:=(qR w1).alloc qN o;have hbo:=(hal.block ob (by omega)).trans ((B1.block ob hobl).trans HOut.out);have hbr:(w1.alloc o).heap[w.heap.size]?=some (.cells #[.int .i64 0,.int .i64 0] 38):=K.zaf h1 hal
   refine(zlx b mb wb (w1.alloc o) g _ vh l c t (hMx.below hal) hok hall (fun W=>W.heap[w.heap.size]?=some (.cells #[.int .i64 0,.int .i64 0] 38)) hbr (fun W W' h hB=>(hB.block _ (by omega)).trans h)
    (fun W ms sh=>Al.Tr b ob vh l c W ms sh/\(∀q∈ms,b<=q)) ⟨⟨⟨_,hbo,World.ownsRow_nil _ _ _ _,fun q hq=>(by cases hq)⟩,fun q hq=>(by cases hq),fun W' hW'=>hhd W' fun j hj1 hj2=> ?_⟩,fun q hq=>(by cases hq)⟩ (fun W W' ms sh h hB=>⟨h.1.keep (by omega) hB,h.2⟩) 152 #[.pointer (some ⟨ob,0,none⟩)] eg (Al.told hob (by omega) (by omega) (by omega) (by omega) (HCh.out.ok).1) p1 p2 p3 p4 hO).mono ?_
   ·rw[hW' j hj2 (by omega)];exact hal.block j (by omega)
   ·rintro e w' ⟨h1,h2,h3,h4⟩;refine⟨h1,h2,h3,fun h=> ?_⟩;obtain⟨ms,⟨⟨v',g1,g2,_⟩,_⟩,_⟩:=h4 h;exact⟨v',g1,L.za6 g2 (by omega)⟩
  obtain⟨ht4,_,rfl,_⟩:=HCh.out.ok;have HO:Hid ((K.play l (8*t.length+40) [] t 0 0).1=p1):=by show _=_;rw[hO]
  have hobb:ob<b:=by omega
  have hmo:mb≠ob:=by omega
  have hss:=b1.size;clear b1 B1 HRe h1 hch hq hMx hok hall hhd hO HOut
  go_wp2_with fail
  go_at_call 190
  refine(HPl.out _).mono ?_;rintro e w2 ⟨rfl,hB2,hbx,hfin⟩;have HB2:=qH hB2;have HF:=qH hfin;obtain⟨x0,x1,f0,f1⟩:=K.box2 hbx;have HBx:=qH hbx;clear HPl hB2 hfin hbx
  by_cases q:p1=0
  ·subst q;go_wp2;refine bodyPost_ret (v:= .tuple #[.pointer (some ⟨mb,0,none⟩),.agg #[.int .i64 0,.int .i64 0]]) (by simp[results,results151,go_sem, *]) rfl ?_;have hid:=Al.idle HBx.out;exact⟨_,_,_,rfl,HB2.out.trans (hid.mono (by have:=HB2.out.size;omega)),⟨_,HCh.out,.inr ⟨rfl,HO.out,rfl⟩,rfl⟩,HF.out.below hid⟩
  ·clear HF;go_wp2;refine bodyPost_ret (v:= .tuple #[.pointer none,.agg #[.int .i64 p1,.int .i64 0]]) (by simp[results,results151,go_sem, *]) rfl ?_;exact⟨_,_,_,rfl,(HB2.out.setCell (p:=⟨w.heap.size,0,none⟩) hsb _).setCell (p:=⟨w.heap.size,1,none⟩) hsb _,⟨_,HCh.out,.inr ⟨rfl,HO.out,rfl⟩,rfl⟩,fun h=>absurd h q⟩
theorem zl1 (w:World)(v:Value)(l:List K.Rule)(R0:V.Rus w v l)(vt:Value)(t:List Int)(Rt:L.Rd w vt .i32 t)(ht:t.length<=140737488355328) :
  Calls prog 104 #[v,vt] w fun e w'=>∃(v':Value) (sh:List (Int×Int)) (f1 f2:Int),e= .returned (.tuple #[v',.agg #[.int .i64 f1,.int .i64 f2]])/\Al.Trc l t sh f1 f2/\w'.ownsRow w.heap.size 186 2 v' sh.length (Al.scells sh)/\Below w.heap.size w w':=by
 obtain⟨wb,hwb⟩:∃wb,wb=w.alloc (.cells #[.int .i64 0,.int .i64 0] 38):=⟨_,rfl⟩;have hBb:Below w.heap.size w wb:=by rw[hwb];exact(qR w).alloc qN _
 have hbs:wb.heap.size=w.heap.size+1:=by rw[hwb];simp
 have hx0:wb.heap[w.heap.size]?=some (.cells #[.int .i64 0,.int .i64 0] 38):=by rw[hwb];exact heap_alloc_new w _
 have HPl:Hid (∀Y,Y=wb->Calls prog 151 #[v,vt,.func (.func 152) #[] #[.pointer (some ⟨w.heap.size+1,0,none⟩)]] (Y.alloc (.cells #[.slice none 0 0] 182)) fun e w'=>∃mp f1 f2,e= .returned (.tuple #[mp,.agg #[.int .i64 f1,.int .i64 f2]])/\Below wb.heap.size wb w'/\Al.Trc l t (if f1=0 then Al.shots l (8*t.length+40) [] t else []) f1 f2/\Al.Out w' (w.heap.size+1) l t f1):=fun Y hY=>by
  rw[hY];have hal:Below wb.heap.size wb (wb.alloc (.cells #[.slice none 0 0] 182)):=(qR wb).alloc qN _;exact zhu wb _ v l hal (R0.below hBb) vt t ((Rt.below hBb qN).below hal qN) ht (w.heap.size+1) (by omega) (by rw[<- hbs];exact heap_alloc_new wb _)
 have HWB:=qH hwb;have HBb:=qH hBb;have HX:Hid (wb.heap[w.heap.size]?=some (.cells #[.int .i64 0,.int .i64 0] 38)/\wb.heap.size=w.heap.size+1):=⟨hx0,hbs⟩;obtain⟨va,vc,rfl⟩:=R0.len;clear R0 Rt hwb hBb hbs hx0
 go_enter func104,ntmps104
 go_wp2_with fail
 go_at_call 151
 refine(HPl.out _ HWB.out.symm).mono ?_;rintro e w1 ⟨mp,f1,f2,rfl,b1,hV,hO⟩;have HV:=qH hV;have HB1:=qH <| HBb.out.trans (b1.mono (by have:=HX.out.2;omega));have h0:=K.zaf HX.out.1 b1;have hs1:w.heap.size+1<=w1.heap.size:=by have:=b1.size;have:=HX.out.2;omega
 have k0:∀o,(w1.alloc o).cell? ⟨w.heap.size,0,none⟩=some (.int .i64 0):=fun o=>K.zai (K.zad h0 rfl) o
 have k1:∀o,(w1.alloc o).cell? ⟨w.heap.size,1,none⟩=some (.int .i64 0):=fun o=>K.zai (K.zad h0 rfl) o
 have g0:=fun o i=>K.zal h0 o i
 have HB2:Hid (∀o x y,Below w.heap.size w (((w1.alloc o).setCell ⟨w.heap.size,0,none⟩ x).setCell ⟨w.heap.size,1,none⟩ y)):=fun o x y=>((HB1.out.alloc HB1.out.size o).setCell (p:=⟨w.heap.size,0,none⟩) qN _).setCell (p:=⟨w.heap.size,1,none⟩) qN _
 by_cases q:f1=0
 ·subst q;obtain⟨v',h1,own⟩:=hO rfl;have k2:∀o,(w1.alloc o).cell? ⟨w.heap.size+1,0,none⟩=some v':=fun o=>K.zai (K.zad h1 rfl) o
  have HOw:Hid (∀o x y,(((w1.alloc o).setCell ⟨w.heap.size,0,none⟩ x).setCell ⟨w.heap.size,1,none⟩ y).ownsRow w.heap.size 186 2 v' (Al.shots l (8*t.length+40) [] t).length (Al.scells (Al.shots l (8*t.length+40) [] t))):=fun o x y=>by
   refine L.za6 (Al.held (own.alloc o) fun q hq _=> ?_) (by omega:w.heap.size<=w.heap.size+1+1);have:=(Al.block own hq).1;rw[heap_setCell_other _ ⟨w.heap.size,1,none⟩ q y (by simp;omega),heap_setCell_other _ ⟨w.heap.size,0,none⟩ q x (by simp;omega)]
  obtain⟨wo,wc,rfl⟩:∃wo wc,v'= .slice wo (Al.shots l (8*t.length+40) [] t).length wc:=by
   rcases own.2 with ⟨hv,h0⟩|⟨g,cap,cur,hv,_⟩
   ·exact⟨none,0,by rw[hv,h0]⟩
   ·exact⟨_,cap,hv⟩
  have HV2:Hid (Al.Trc l t (Al.shots l (8*t.length+40) [] t) 0 f2):=by
   have:=HV.out;rw[if_pos rfl] at this;exact this
  generalize Al.shots l (8*t.length+40) [] t=SH at *;have hk1:=lt_of_block h1;clear hV hO h0 h1 own b1 HPl HWB HX HBb HV
  have hf2:f2=0:=by
   obtain⟨o,hc,h | ⟨_,_,h⟩,_⟩:=HV2.out
   ·exact absurd h.2.1.symm h.1
   ·exact h
  go_wp2;refine bodyPost_ret (v:= .tuple #[.slice wo SH.length wc,.agg #[.int .i64 0,.int .i64 0]]) (by simp[results,results104,go_sem, *]) rfl ?_
  exact⟨_,SH,0,f2,by rw[hf2],HV2.out,HOw.out _ _ _,HB2.out _ _ _⟩
 ·have HV2:Hid (Al.Trc l t [] f1 f2):=by
   have:=HV.out;rw[if_neg q] at this;exact this
  clear hV hO h0 b1 HPl HWB HX HBb HV;go_wp2
  go_region
  go_wp2;refine bodyPost_ret (v:= .tuple #[.slice none 0 0,.agg #[.int .i64 f1,.int .i64 f2]]) (by simp[results,results104,go_sem, *]) rfl ?_
  exact⟨_,[],f1,f2,rfl,HV2.out,World.ownsRow_nil _ _ _ _,(HB2.out _ _ _).drew⟩
end
section
open Go.RowKit
theorem zs5 {α:Type}{l:List α}{P:α->Bool}{k:Nat}{x:α}(h:l[k]?=some x):(l.take (k+1)).any P=((l.take k).any P||P x):=by
 rw[List.take_add_one,h,List.any_append];simp
theorem zjr (w:World)(v:Value)(l:List K.Rule)(R0:V.Rus w v l)(g:Nat)(cb:Array Value)(P:K.Rule->Bool)(eg:∀args w,(callFunc g args).run prog w= .ok (.enter g args) w)
  (hh:∀W r u,Below w.heap.size w W->r∈l->K.RuIs W u r->Calls prog g (#[u]++cb) W fun e w'=>e= .returned (.bool (P r))/\Below W.heap.size W w') :
  Calls prog 75 #[v,.func (.func g) #[] cb] w fun e w'=>∃i:Int,e= .returned (.int .i64 i)/\decide (0<=i)=l.any P/\Below w.heap.size w w':=by
 have HR:=qH R0;have HH:=qH hh;have hl:=R0.few;obtain⟨lao,lcap,rfl⟩:=R0.len;clear R0 hh
 go_enter func75,ntmps75
 go_wp2
 go_loopw [8] (fun i wr=>∃j:Nat,j<=l.length/\i= .int .i64 j/\Hid ((l.take j).any P=false)/\Hid (Below w.heap.size w wr)) (fun i _=>l.length - (intOf i).toNat)
 case atStart=>exact⟨0,Nat.zero_le _,rfl,by show (l.take 0).any P=false;simp,qR w⟩
 case round =>
  obtain⟨j,hj,rfl,HW,HB⟩:=hrel
  by_cases hlt:j<l.length
  ·obtain⟨p,hp⟩:∃x,l[j]?=some x:=⟨l[j],by simp[hlt]⟩;obtain⟨ao',cap',e',_,hcs⟩:=HR.out.below HB.out;cases e';obtain⟨b,off,rfl,hcell⟩:=hcs (by intro h;subst h;simp at hlt);obtain⟨bo,bc,so,sc,ao,ac,tgo,tc,a0,a1,a2,a3,a4,a5,a6,hP⟩:=hcell j p hp;have HE2:Hid ((l.take (j+1)).any P=P p/\(P p=true->l.any P=true)):=⟨by rw[zs5 hp,HW.out,Bool.false_or],fun h=>List.any_eq_true.2 ⟨p,List.mem_of_getElem? hp,h⟩⟩;have hsz:=HB.out.size;have HW2:=qH <| HH.out wr p _ HB.out (List.mem_of_getElem? hp) hP;generalize P p=z at HW2 HE2;clear hp hcell hcs hP;obtain⟨st,fi,be,sou,af,ta,cu⟩:=p;simp only at a0 a1 a2 a3 a4 a5 a6 HW2
   go_wp2_with fail
   refine HW2.out.mono ?_;rintro e w1 ⟨rfl,B1⟩;have HB1:=qH <| HB.out.trans (B1.mono hsz);clear B1;cases z with
   | false =>
    have HT:=qH HE2.out.1;clear HE2;go_wp2
    go_roundw
    case rel=>exact⟨j+1,by omega,by go_num,HT,HB1⟩
    case measure=>simp[intOf];omega
   | true =>
    have HT:=qH <| HE2.out.2 rfl;clear HE2;go_wp2;go_ret;exact⟨j,rfl,by rw[HT.out];simp,HB1.out⟩
  ·have hkl:j=l.length:=by omega
   subst hkl;go_wp2;go_ret;exact⟨-1,rfl,by have:=HW.out;rw[List.take_length] at this;rw[this];rfl,HB.out⟩
theorem zo0 (w:World)(v:Value)(l:List K.Rule)(R0:V.Rus w v l)(g:Nat)(cb:Array Value)(P:K.Rule->Bool)(eg:∀args w,(callFunc g args).run prog w= .ok (.enter g args) w)
  (hh:∀W r u,Below w.heap.size w W->r∈l->K.RuIs W u r->Calls prog g (#[u]++cb) W fun e w'=>e= .returned (.bool (P r))/\Below W.heap.size W w') :
  Calls prog 34 #[v,.func (.func g) #[] cb] w fun e w'=>e= .returned (.bool (l.any P))/\Below w.heap.size w w':=by
 have h:=zjr w v l R0 g cb P eg hh;obtain⟨aa,ca,rfl⟩:=R0.len;clear R0 hh
 go_enter func34,ntmps34
 go_wp2_with fail
 refine h.mono ?_;rintro e w1 ⟨i,rfl,hi,hb⟩;have HI:Hid _:=hi;clear hi;go_wp2;go_ret;exact⟨L.zaj HI.out,hb⟩
