/-
 The script of a file's text: scripttop.script.
-/
import Derived.Test.YtmcljejgbikbhaaGreatDoorRPos
import Derived.Test.YtmcljejgbikbhaaGreatDoorCnLet
import Derived.Test.YtmcljejgbikbhaaGreatDoorCnWrong
import Derived.BigRegion
import Derived.Test.YtmcljejgbikbhaaGreatDoorSLib
import Derived.Deep.RegionHeld3
import Derived.Deep.MidRow
set_option maxRecDepth 20000
set_option linter.unusedSimpArgs false
set_option linter.unusedVariables false
namespace Go.Proofs.YtmcljejgbikbhaaGreatDoor
open Go.RowKit Go.Lib
namespace Tp
theorem scr_fit {g:ByteArray->List S.Sp}{l:List R.Part}(h:∀p∈l,R.partE p=0):∀(s:V.Script),S.Fit s.only->S.Fit (l.foldl (V.scrStep g) s).only:=by
 induction l with
 | nil=>intro s hs;exact hs
 | cons p l ih =>
  intro s hs
  rw[List.foldl_cons]
  refine ih (fun q hq=>h q (List.mem_cons_of_mem _ hq)) _ ?_
  unfold V.scrStep
  split
  ·rename_i h3
   rcases R.partE_cases (h p List.mem_cons_self) with ⟨h1,h2,_⟩|⟨h1,h2⟩|⟨h1,h2⟩|⟨h1,h2⟩
   ·omega
   ·exact V.fit_set h2
   ·omega
   ·omega
  ·split
   ·exact hs
   ·split
    ·split
     ·exact hs
     ·exact hs
    ·exact hs
theorem forth_fit (l:List R.Part):S.Fit (V.forthF l).1.only:=by
 unfold V.forthF
 by_cases hg:(V.varsF l).1.1=0
 ·rw[if_pos hg]
  exact scr_fit (V.vars_ok hg).2 _ (fun x hx=>by cases hx)
 ·rw[if_neg hg];exact fun x hx=>by cases hx
noncomputable def scriptF (t:List Int):V.Script×Bool :=
 match R.read t with
 | .ok l _=>((V.forthF l).1,decide ((V.forthF l).2.1=0)&&decide ((Cn.wrongF (V.forthF l).1).1=0))
 | .bad _ _=>(⟨false,[],[]⟩,false)
theorem scriptF_fit (t:List Int):S.Fit (scriptF t).1.only:=by
 unfold scriptF
 split
 ·exact forth_fit _
 ·exact fun x hx=>by cases hx
theorem set3 {W:World}{b:Nat}{u0 u1 u2:Value}{t:TypeId}(h:W.heap[b]?=some (.cells #[u0,u1,u2] t))(v0 v1 v2:Value):(((W.setCell ⟨b,0,none⟩ v0).setCell ⟨b,1,none⟩ v1).setCell ⟨b,2,none⟩ v2).heap[b]?=some (.cells #[v0,v1,v2] t):=by
 have h1:=heap_setCell_same W b 0 _ _ v0 h
 have h2:=heap_setCell_same _ b 1 _ _ v1 h1
 exact heap_setCell_same _ b 2 _ _ v2 h2
theorem oth3 (W:World){b k:Nat}(v0 v1 v2:Value)(hk:k≠b):(((W.setCell ⟨b,0,none⟩ v0).setCell ⟨b,1,none⟩ v1).setCell ⟨b,2,none⟩ v2).heap[k]?=W.heap[k]?:=by
 rw[heap_setCell_other _ ⟨b,2,none⟩ k _ hk,heap_setCell_other _ ⟨b,1,none⟩ k _ hk,heap_setCell_other _ ⟨b,0,none⟩ k _ hk]
theorem empty_is (w:World):V.ScIs w (.agg #[.bool false,.slice none 0 0,.slice none 0 0]) ⟨false,[],[]⟩:=⟨none,0,none,0,rfl,S.Rd.nil _,by simp,V.Pas.nil _⟩
end Tp
set_option maxHeartbeats 4000000 in
theorem tScript_bad (hK:T.ClassOk)(s:ByteArray)(hs:s.size<=1099511627776)(w:World)(er:Int)(q:Nat)(hr:R.read (M.rn s)= .bad er q) :
  Calls Tryz.prog 10 #[.string s] w fun e w'=>∃v',e= .returned (.tuple #[v',.bool false])/\V.ScIs w' v' ⟨false,[],[]⟩/\Below w.heap.size w w':=by
 have hne:=R.read_er hr
 obtain⟨X,hX⟩:∃X,X=w.alloc (.cells #[.bool false,.slice none 0 0,.slice none 0 0] 26):=⟨_,rfl⟩
 have k1:=K.one_box (w:=w) (Below.refl _ (w.alloc (.cells #[.bool false,.slice none 0 0,.slice none 0 0] 26)))
 rw[<- hX] at k1
 have HR:Hid (Calls Tryz.prog 18 #[.string s] X fun e w'=>e= .returned (.tuple #[.slice none 0 0,.agg #[.int .i64 er,.int .i64 q]])/\Below X.heap.size X w'):=by
  have h:=rread_any hK s hs X
  rw[hr] at h
  exact h
 have HX:Hid (X.heap[w.heap.size]?=some (.cells #[.bool false,.slice none 0 0,.slice none 0 0] 26)/\Below w.heap.size w X/\w.heap.size+1<=X.heap.size):=k1
 clear k1 hr
 go_enter Tryz.func10,Tryz.ntmps10
 go_wp2_with fail
 rw[<- hX]
 refine HR.out.mono ?_
 clear hX HR
 rintro e w1 ⟨rfl,b1⟩
 have hb:=K.blk_below HX.out.1 b1
 have hB1:Below w.heap.size w w1:=HX.out.2.1.trans (b1.mono (by have:=HX.out.2.2;omega))
 have hlt:w.heap.size<w1.heap.size:=lt_of_block hb
 obtain⟨r0,r1,r2,f0,f1,f2⟩:=V.box3 hb
 have HE:Hid (∀o,(((w1.setCell ⟨w.heap.size,0,none⟩ (.bool false)).setCell ⟨w.heap.size,1,none⟩ (.slice none 0 0)).setCell ⟨w.heap.size,2,none⟩ (.slice none 0 0)).heap[w.heap.size]?=some (.cells #[.bool false,.slice none 0 0,.slice none 0 0] 26)/\Below w.heap.size w ((((w1.setCell ⟨w.heap.size,0,none⟩ (.bool false)).setCell ⟨w.heap.size,1,none⟩ (.slice none 0 0)).setCell ⟨w.heap.size,2,none⟩ (.slice none 0 0)).alloc o)):=fun o=>⟨Tp.set3 hb _ _ _,(((hB1.setCell (p:=⟨w.heap.size,0,none⟩) (Nat.le_refl _) _).setCell (p:=⟨w.heap.size,1,none⟩) (Nat.le_refl _) _).setCell (p:=⟨w.heap.size,2,none⟩) (Nat.le_refl _) _).alloc (by simp;omega) o⟩
 clear b1 hb hB1
 go_wp2
 refine bodyPost_ret (v:= .tuple #[.agg #[.bool false,.slice none 0 0,.slice none 0 0],.bool false]) (by simp[results,Tryz.results10,go_sem, *]) rfl ?_
 exact⟨_,rfl,Tp.empty_is _,(HE.out _).2⟩
namespace V
theorem take {P:Program}{ops:Array Oper}{Q:Exit->Act->World->Prop}{md:Region.Mode}{S:World->Prop}(i d:Nat)(v:Value)(L':List Bool){oi:Oper}{fuel:Nat}{listed:Array Bool}{a:Act}{w:World}(hi:ops[i]?=some oi)(hd:oi.dst=some d)
  (hl:listed.setIfInBounds i true=L'.toArray) (hs:Region.noSelect ops=true) (hf:Region.free md ops listed i=true) (hr:(Region.ready md ops listed).contains i=true)
  (hQ:∀c a w,Q (.panic c) (a.put (some d) v) w->Q (.panic c) a w) (hy:YieldsIf P ops S oi v a) (hS:S w)
  (h:wpAnyH P md ops Q S fuel L'.toArray (a.put (some d) v) w):wpAnyH P md ops Q S (fuel+1) listed a w :=
 wpAnyH_take hi hs hf hr (by rw[hd];exact hQ) hy hS (by rw[hd,hl];exact h)
theorem stored {P:Program}{ops:Array Oper}{Q:Exit->Act->World->Prop}{md:Region.Mode}{S:World->Prop}(i:Nat)(L':List Bool)(ty:TypeId)(x y:Operand){oi:Oper}{fuel:Nat}{listed:Array Bool}{a:Act}{w:World}(hi:ops[i]?=some oi)(ho:oi.op= .store ty x y)(hgd:oi.guard=none)(hd:oi.dst=none)
  (hl:listed.setIfInBounds i true=L'.toArray) (hr:Region.ready md ops listed= [i]) (b o:Nat) (cells:List Value) (hx:a.eval x= .pointer (some ⟨b,o,none⟩)) (hy:a.eval y= .agg cells.toArray) (ht:w.there b o cells.length) (hinf:(P.info? ty).map (·.size)=some cells.length) (h1:cells.all (·.oneCell')=true)
  (hS:S (w.setCells b o cells)) (h:wpAnyH P md ops Q S fuel L'.toArray a (w.setCells b o cells)):wpAnyH P md ops Q S (fuel+1) listed a w :=
 wpAnyH_ready hr (by simp) (AllReadyH.cons hi (fun KK hK=>by
  have hw:Region.wanted oi (yielded ops a.tmps)=true:=by simp[Region.wanted,hgd]
  rw[if_pos hw]
  refine wp_store_mid ty x y ho b o cells.toArray hx hy (by simpa using ht) (by simpa using hinf) (by simpa using h1) ?_
  rw[hd]
  exact hK.out _ _ (by simpa using hS) (fun _=>by rw[hl,show a.put none undef=a from rfl];simpa using h)) AllReadyH.nil)
end V
set_option maxHeartbeats 16000000 in
theorem tScript_ok (hK:T.ClassOk)(s:ByteArray)(hs:s.size<=1099511627776)(w:World)(l:List R.Part)(q:Nat)(hr:R.read (M.rn s)= .ok l q) :
  Calls Tryz.prog 10 #[.string s] w fun e w'=>∃v',e= .returned (.tuple #[v',.bool (decide ((V.forthF l).2.1=0)&&decide ((Cn.wrongF (V.forthF l).1).1=0))])/\V.ScIs w' v' (V.forthF l).1/\Below w.heap.size w w':=by
 obtain⟨X,hX⟩:∃X,X=w.alloc (.cells #[.bool false,.slice none 0 0,.slice none 0 0] 26):=⟨_,rfl⟩
 have k1:=K.one_box (w:=w) (Below.refl _ (w.alloc (.cells #[.bool false,.slice none 0 0,.slice none 0 0] 26)))
 rw[<- hX] at k1
 have HR:Hid (Calls Tryz.prog 18 #[.string s] X fun e w'=>∃v,e= .returned (.tuple #[v,.agg #[.int .i64 0,.int .i64 0]])/\R.Pts w' v l/\Below X.heap.size X w'):=by
  have h:=rread_any hK s hs X
  rw[hr] at h
  exact h.mono fun e w' ⟨v,h1,h2,_,h4⟩=>⟨v,h1,(R.RowP.pts h2).here,h4⟩
 have HX:Hid (X.heap[w.heap.size]?=some (.cells #[.bool false,.slice none 0 0,.slice none 0 0] 26)/\Below w.heap.size w X/\w.heap.size+1<=X.heap.size):=k1
 have HF:Hid (∀Y v,R.Pts Y v l->Calls Tryz.prog 26 #[v] Y fun e w'=>∃v',e= .returned (.tuple #[v',.agg #[.int .i64 (V.forthF l).2.1,.int .i64 ((V.forthF l).2.2:Nat)]])/\V.Firm Y.heap.size w' v' (V.forthF l).1/\Below Y.heap.size Y w'):=fun Y v hv=>forth_any2 Y v l hv
 have hfit:=Tp.forth_fit l
 obtain⟨⟨sc,e3,a3⟩,hf⟩:∃o,V.forthF l=o:=⟨_,rfl⟩
 rw[hf] at HF hfit ⊢
 simp only at HF hfit ⊢
 have HWr:Hid (∀Y v,V.ScIs Y v sc->Calls Tryz.prog 27 #[v] Y fun e w'=>e= .returned (.agg #[.int .i64 (Cn.wrongF sc).1,.int .i64 (Cn.wrongF sc).2])/\Below Y.heap.size Y w'):=fun Y v hv=>cWrong_any Y v sc hv hfit
 obtain⟨⟨we,wa⟩,hw⟩:∃o,Cn.wrongF sc=o:=⟨_,rfl⟩
 rw[hw] at HWr ⊢
 simp only at HWr ⊢
 clear k1 hr hf hw hfit
 by_cases h0:e3=0
 ·subst h0
  rw[show (decide ((0:Int)=0)&&decide (we=0))=decide (we=0) from by simp]
  obtain⟨z,hz⟩:∃z,z=decide (we=0):=⟨_,rfl⟩
  rw[<- hz]
  have HZw:Hid (z=decide (we=0)):=hz
  clear hz
  go_enter Tryz.func10,Tryz.ntmps10
  go_wp2_with fail
  rw[<- hX]
  refine HR.out.mono ?_
  clear hX HR
  rintro e w1 ⟨v1,rfl,hp1,b1⟩
  have hb1:=K.blk_below HX.out.1 b1
  have hB1:Below w.heap.size w w1:=HX.out.2.1.trans (b1.mono (by have:=HX.out.2.2;omega))
  have hlt:w.heap.size<w1.heap.size:=lt_of_block hb1
  obtain⟨Y,hY⟩:∃Y,Y=w1.alloc (.cells #[.int .i64 0,.int .i64 0] 33):=⟨_,rfl⟩
  have k2:=K.one_box (w:=w1) (Below.refl _ (w1.alloc (.cells #[.int .i64 0,.int .i64 0] 33)))
  rw[<- hY] at k2
  have hF:=HF.out Y v1 (hp1.below k2.2.1)
  have HY:Hid (Y.heap[w.heap.size]?=some (.cells #[.bool false,.slice none 0 0,.slice none 0 0] 26)/\Y.heap[w1.heap.size]?=some (.cells #[.int .i64 0,.int .i64 0] 33)/\Below w.heap.size w Y/\w1.heap.size+1<=Y.heap.size):=⟨K.blk_below hb1 k2.2.1,k2.1,hB1.trans (k2.2.1.mono (by omega)),k2.2.2⟩
  obtain⟨la,lc,rfl⟩:∃a c,v1= .slice a l.length c:=by obtain⟨a,c,h⟩:=hp1.len;exact⟨a,c,h⟩
  clear hp1 b1 hb1 hB1 k2 HF HX
  go_wp2_with fail
  rw[<- hY]
  refine hF.mono ?_
  clear hY hF
  rintro e w3 ⟨v3,rfl,hFm,b3⟩
  have hb3:=K.blk_below HY.out.1 b3
  have hf3:=K.blk_below HY.out.2.1 b3
  have hB3:Below w.heap.size w w3:=HY.out.2.2.1.trans (b3.mono HY.out.2.2.1.size)
  have hl3:w1.heap.size<w3.heap.size:=lt_of_block hf3
  obtain⟨oo,oc,po,pc,rfl,_⟩:=id hFm.here
  obtain⟨r0,r1,r2,f0,f1,f2⟩:=V.box3 hb3
  obtain⟨u0,u1,g0,g1⟩:=V.box2 hf3
  obtain⟨Z,hZ⟩:∃Z,Z=((w3.setCell ⟨w1.heap.size,0,none⟩ (.int .i64 0)).setCell ⟨w1.heap.size,1,none⟩ (.int .i64 (a3:Int))).alloc (.cells #[.bool sc.has,.slice oo sc.only.length oc,.slice po sc.passes.length pc] 26):=⟨_,rfl⟩
  have hz0:((w3.setCell ⟨w1.heap.size,0,none⟩ (.int .i64 0)).setCell ⟨w1.heap.size,1,none⟩ (.int .i64 (a3:Int))).heap[w1.heap.size]?=some (.cells #[.int .i64 0,.int .i64 (a3:Int)] 33):=heap_setCell_same _ w1.heap.size 1 _ _ _ (heap_setCell_same w3 w1.heap.size 0 _ _ _ hf3)
  have hz1:((w3.setCell ⟨w1.heap.size,0,none⟩ (.int .i64 0)).setCell ⟨w1.heap.size,1,none⟩ (.int .i64 (a3:Int))).heap[w.heap.size]?=some (.cells #[.bool false,.slice none 0 0,.slice none 0 0] 26):=by
   rw[heap_setCell_other _ ⟨w1.heap.size,1,none⟩ w.heap.size _ (by simp;omega),heap_setCell_other _ ⟨w1.heap.size,0,none⟩ w.heap.size _ (by simp;omega)];exact hb3
  have k3:=K.one_box (w:=(w3.setCell ⟨w1.heap.size,0,none⟩ (.int .i64 0)).setCell ⟨w1.heap.size,1,none⟩ (.int .i64 (a3:Int))) (Below.refl _ (((w3.setCell ⟨w1.heap.size,0,none⟩ (.int .i64 0)).setCell ⟨w1.heap.size,1,none⟩ (.int .i64 (a3:Int))).alloc (.cells #[.bool sc.has,.slice oo sc.only.length oc,.slice po sc.passes.length pc] 26)))
  rw[<- hZ] at k3
  have hsz:((w3.setCell ⟨w1.heap.size,0,none⟩ (.int .i64 0)).setCell ⟨w1.heap.size,1,none⟩ (.int .i64 (a3:Int))).heap.size=w3.heap.size:=by simp
  have hzr:=K.blk_below hz1 k3.2.1
  have hzf:=K.blk_below hz0 k3.2.1
  have hzs:Z.heap[w3.heap.size]?=some (.cells #[.bool sc.has,.slice oo sc.only.length oc,.slice po sc.passes.length pc] 26):=by have:=k3.1;rw[hsz] at this;exact this
  have hZB:Below w.heap.size w Z:=((hB3.setCell (p:=⟨w1.heap.size,0,none⟩) (by simp;omega) _).setCell (p:=⟨w1.heap.size,1,none⟩) (by simp;omega) _).trans (k3.2.1.mono (by simp;omega))
  have hYs:=HY.out.2.2.2
  have HFz:Hid (V.Firm Y.heap.size Z (.agg #[.bool sc.has,.slice oo sc.only.length oc,.slice po sc.passes.length pc]) sc):=((hFm.store w1.heap.size 0 (.int .i64 0) (by omega)).store w1.heap.size 1 (.int .i64 (a3:Int)) (by omega)).below k3.2.1
  have HZ:Hid (Below w.heap.size w Z/\Z.heap[w.heap.size]?=some (.cells #[.bool false,.slice none 0 0,.slice none 0 0] 26)/\Z.heap[w1.heap.size]?=some (.cells #[.int .i64 0,.int .i64 (a3:Int)] 33)/\Z.heap[w3.heap.size]?=some (.cells #[.bool sc.has,.slice oo sc.only.length oc,.slice po sc.passes.length pc] 26)):=⟨hZB,hzr,hzf,hzs⟩
  obtain⟨zr0,zr1,zr2,zf0,zf1,zf2⟩:=V.box3 hzr
  obtain⟨zs0,zs1,zs2,_,_,_⟩:=V.box3 hzs
  have ze0:=K.at_box (i:=0) hzf rfl
  have n1:w1.heap.size≠w.heap.size:=by omega
  have n2:w3.heap.size≠w.heap.size:=by omega
  have zl0:w.heap.size<Z.heap.size:=lt_of_block hzr
  have zl1:w1.heap.size<Z.heap.size:=lt_of_block hzf
  have zl2:w3.heap.size<Z.heap.size:=lt_of_block hzs
  clear hFm b3 hb3 hf3 hB3 hz0 hz1 k3 hsz hzr hzf hzs hZB
  go_upto_region 5 with fail
  rw[<- hZ]
  clear hZ r0 r1 r2 f0 f1 f2 u0 u1 g0 g1
  refine wp_region_held_drew (S:=fun w'=>w'.cell? ⟨w3.heap.size,0,none⟩=some (.bool sc.has)/\w'.cell? ⟨w3.heap.size,1,none⟩=some (.slice oo sc.only.length oc)/\w'.cell? ⟨w3.heap.size,2,none⟩=some (.slice po sc.passes.length pc)/\w'.cell? ⟨w1.heap.size,0,none⟩=some (.int .i64 0)) (by kernel_rfl) ⟨zs0,zs1,zs2,ze0⟩ (fun hHeld=> ?_)
  refine V.take 0 21 (.agg #[.bool sc.has,.slice oo sc.only.length oc,.slice po sc.passes.length pc]) [true,false,false,false,false,false,false,false,false,false,false,false] rfl rfl (by kernel_rfl) (by kernel_rfl) (by kernel_rfl) (by kernel_rfl) (fun _ _ _ h=>h) (Or.inl ⟨by rfl,?_⟩) hHeld ?_
  ·intro wz hSw
   go_simp
  simp only[Act.put,List.setIfInBounds_toArray,List.set_cons_zero,List.set_cons_succ]
  refine V.take 1 22 (.pointer (some ⟨w1.heap.size,0,none⟩)) [true,true,false,false,false,false,false,false,false,false,false,false] rfl rfl (by kernel_rfl) (by kernel_rfl) (by kernel_rfl) (by kernel_rfl) (fun _ _ _ h=>h) (Or.inl ⟨by rfl,?_⟩) hHeld ?_
  ·intro wz hSw
   go_simp
  simp only[Act.put,List.setIfInBounds_toArray,List.set_cons_zero,List.set_cons_succ]
  refine V.take 2 23 (.int .i64 0) [true,true,true,false,false,false,false,false,false,false,false,false] rfl rfl (by kernel_rfl) (by kernel_rfl) (by kernel_rfl) (by kernel_rfl) (fun _ _ _ h=>h) (Or.inl ⟨by rfl,?_⟩) hHeld ?_
  ·intro wz hSw
   go_simp
  simp only[Act.put,List.setIfInBounds_toArray,List.set_cons_zero,List.set_cons_succ]
  refine V.take 3 24 (.bool true) [true,true,true,true,false,false,false,false,false,false,false,false] rfl rfl (by kernel_rfl) (by kernel_rfl) (by kernel_rfl) (by kernel_rfl) (fun _ _ _ h=>h) (Or.inl ⟨by rfl,?_⟩) hHeld ?_
  ·intro wz hSw
   go_simp
  simp only[Act.put,List.setIfInBounds_toArray,List.set_cons_zero,List.set_cons_succ]
  refine V.take 4 25 (.bool true) [true,true,true,true,true,false,false,false,false,false,false,false] rfl rfl (by kernel_rfl) (by kernel_rfl) (by kernel_rfl) (by kernel_rfl) (fun _ _ _ h=>h) (Or.inl ⟨by rfl,?_⟩) hHeld ?_
  ·intro wz hSw
   go_simp
  simp only[Act.put,List.setIfInBounds_toArray,List.set_cons_zero,List.set_cons_succ]
  refine V.take 5 26 (.agg #[.bool sc.has,.slice oo sc.only.length oc,.slice po sc.passes.length pc]) [true,true,true,true,true,true,false,false,false,false,false,false] rfl rfl (by kernel_rfl) (by kernel_rfl) (by kernel_rfl) (by kernel_rfl) (fun _ _ _ h=>h) (Or.inl ⟨by rfl,?_⟩) hHeld ?_
  ·intro wz hSw
   go_simp
  simp only[Act.put,List.setIfInBounds_toArray,List.set_cons_zero,List.set_cons_succ]
  refine wpAnyH_ready (rs:= [6]) (by kernel_rfl) (by simp) ?_
  refine AllReadyH.cons (o:=_) rfl (fun KK hK=> ?_) AllReadyH.nil
  go_simp
  refine(HWr.out Z.drew _ (HFz.out.below (Below.refl _ Z).drew).here).mono ?_
  rintro e w5 ⟨rfl,b5⟩
  have hb5:Below Z.heap.size Z w5:=(Below.refl _ Z).drew.trans b5
  have h5r:=K.blk_below HZ.out.2.1 hb5
  have h5s:=K.blk_below HZ.out.2.2.2 hb5
  have h5f:=K.blk_below HZ.out.2.2.1 hb5
  obtain⟨y0,y1,y2,yf0,yf1,yf2⟩:=V.box3 h5r
  obtain⟨t0,t1,t2,_,_,_⟩:=V.box3 h5s
  have te:=K.at_box (i:=0) h5f rfl
  have yl0:w.heap.size<w5.heap.size:=lt_of_block h5r
  have hB5:Below w.heap.size w w5:=HZ.out.1.trans (hb5.mono HZ.out.1.size)
  have HE:Hid (V.ScIs (((w5.setCell ⟨w.heap.size,0,none⟩ (.bool sc.has)).setCell ⟨w.heap.size,1,none⟩ (.slice oo sc.only.length oc)).setCell ⟨w.heap.size,2,none⟩ (.slice po sc.passes.length pc)) (.agg #[.bool sc.has,.slice oo sc.only.length oc,.slice po sc.passes.length pc]) sc/\Below w.heap.size w (((w5.setCell ⟨w.heap.size,0,none⟩ (.bool sc.has)).setCell ⟨w.heap.size,1,none⟩ (.slice oo sc.only.length oc)).setCell ⟨w.heap.size,2,none⟩ (.slice po sc.passes.length pc))/\(((w5.setCell ⟨w.heap.size,0,none⟩ (.bool sc.has)).setCell ⟨w.heap.size,1,none⟩ (.slice oo sc.only.length oc)).setCell ⟨w.heap.size,2,none⟩ (.slice po sc.passes.length pc)).heap[w.heap.size]?=some (.cells #[.bool sc.has,.slice oo sc.only.length oc,.slice po sc.passes.length pc] 26)):=⟨((((HFz.out.below hb5).store w.heap.size 0 _ (by omega)).store w.heap.size 1 _ (by omega)).store w.heap.size 2 _ (by omega)).here,((hB5.setCell (p:=⟨w.heap.size,0,none⟩) (Nat.le_refl _) _).setCell (p:=⟨w.heap.size,1,none⟩) (Nat.le_refl _) _).setCell (p:=⟨w.heap.size,2,none⟩) (Nat.le_refl _) _,Tp.set3 h5r _ _ _⟩
  have hfl:∀W:World,(Instr.field 33 (.agg #[.int .i64 we,.int .i64 wa]) 0).run Tryz.prog W= .ok (.int .i64 we) W:=fun _=>by kernel_rfl
  have hzz:=HZw.out
  clear b5 hb5 h5r h5s h5f hB5 HWr zr0 zr1 zr2 zf0 zf1 zf2 zs0 zs1 zs2 ze0
  refine hK.out _ _ ⟨t0,t1,t2,te⟩ (fun hHeld=> ?_)
  clear hK
  try simp only[Act.put,List.setIfInBounds_toArray,List.set_cons_zero,List.set_cons_succ]
  refine V.take 7 28 (.int .i64 we) [true,true,true,true,true,true,true,true,false,false,false,false] rfl rfl (by kernel_rfl) (by kernel_rfl) (by kernel_rfl) (by kernel_rfl) (fun _ _ _ h=>h) (Or.inl ⟨by rfl,?_⟩) hHeld ?_
  ·intro wz hSw
   go_simp
  simp only[Act.put,List.setIfInBounds_toArray,List.set_cons_zero,List.set_cons_succ]
  refine V.take 8 29 (.bool z) [true,true,true,true,true,true,true,true,true,false,false,false] rfl rfl (by kernel_rfl) (by kernel_rfl) (by kernel_rfl) (by kernel_rfl) (fun _ _ _ h=>h) (Or.inl ⟨by rfl,?_⟩) hHeld ?_
  ·intro wz hSw
   go_simp;rw[Bool.eq_iff_iff];simp
  simp only[Act.put,List.setIfInBounds_toArray,List.set_cons_zero,List.set_cons_succ]
  refine V.take 9 30 (.bool z) [true,true,true,true,true,true,true,true,true,true,false,false] rfl rfl (by kernel_rfl) (by kernel_rfl) (by kernel_rfl) (by kernel_rfl) (fun _ _ _ h=>h) (Or.inl ⟨by rfl,?_⟩) hHeld ?_
  ·intro wz hSw
   go_simp
  simp only[Act.put,List.setIfInBounds_toArray,List.set_cons_zero,List.set_cons_succ]
  refine wpAnyH_ready (rs:= [10]) (by kernel_rfl) (by simp) ?_
  refine AllReadyH.cons (o:=_) rfl (fun KK hK=> ?_) AllReadyH.nil
  go_simp
  generalize hV:((w5.setCell ⟨w.heap.size,0,none⟩ (.bool sc.has)).setCell ⟨w.heap.size,1,none⟩ (.slice oo sc.only.length oc)).setCell ⟨w.heap.size,2,none⟩ (.slice po sc.passes.length pc)=U at *
  have e0:U.cell? ⟨w3.heap.size,0,none⟩=some (.bool sc.has)/\U.cell? ⟨w3.heap.size,1,none⟩=some (.slice oo sc.only.length oc)/\U.cell? ⟨w3.heap.size,2,none⟩=some (.slice po sc.passes.length pc)/\U.cell? ⟨w1.heap.size,0,none⟩=some (.int .i64 0):=by
   have c3:∀i,U.cell? ⟨w3.heap.size,i,none⟩=w5.cell? ⟨w3.heap.size,i,none⟩:=fun i=>World.cell?_of_block (a:=⟨w3.heap.size,i,none⟩) (by rw[<- hV];exact Tp.oth3 w5 _ _ _ n2)
   have c1:∀i,U.cell? ⟨w1.heap.size,i,none⟩=w5.cell? ⟨w1.heap.size,i,none⟩:=fun i=>World.cell?_of_block (a:=⟨w1.heap.size,i,none⟩) (by rw[<- hV];exact Tp.oth3 w5 _ _ _ n1)
   rw[c3,c3,c3,c1];exact⟨t0,t1,t2,te⟩
  refine hK.out _ _ e0 (fun hHeld=> ?_)
  clear hK
  try simp only[Act.put,List.setIfInBounds_toArray,List.set_cons_zero,List.set_cons_succ]
  refine V.take 11 3 (.bool z) [true,true,true,true,true,true,true,true,true,true,true,true] rfl rfl (by kernel_rfl) (by kernel_rfl) (by kernel_rfl) (by kernel_rfl) (fun _ _ _ h=>h) (Or.inl ⟨by rfl,?_⟩) hHeld ?_
  ·intro wz hSw
   go_simp
  simp only[Act.put,List.setIfInBounds_toArray,List.set_cons_zero,List.set_cons_succ]
  refine wpAnyH_done (by kernel_rfl) ?_ _
  obtain⟨x0,x1,x2,_,_,_⟩:=V.box3 HE.out.2.2
  clear e0 hV t0 t1 t2 te y0 y1 y2 yf0 yf1 yf2
  go_wp2
  refine bodyPost_ret (v:= .tuple #[.agg #[.bool sc.has,.slice oo sc.only.length oc,.slice po sc.passes.length pc],.bool z]) (by simp[results,Tryz.results10,go_sem, *]) rfl ?_
  exact⟨_,rfl,HE.out.1,HE.out.2.1⟩
 ·rw[show (decide (e3=0)&&decide (we=0))=false from by rw[decide_eq_false h0];rfl]
  go_enter Tryz.func10,Tryz.ntmps10
  go_wp2_with fail
  rw[<- hX]
  refine HR.out.mono ?_
  clear hX HR
  rintro e w1 ⟨v1,rfl,hp1,b1⟩
  have hb1:=K.blk_below HX.out.1 b1
  have hB1:Below w.heap.size w w1:=HX.out.2.1.trans (b1.mono (by have:=HX.out.2.2;omega))
  have hlt:w.heap.size<w1.heap.size:=lt_of_block hb1
  obtain⟨Y,hY⟩:∃Y,Y=w1.alloc (.cells #[.int .i64 0,.int .i64 0] 33):=⟨_,rfl⟩
  have k2:=K.one_box (w:=w1) (Below.refl _ (w1.alloc (.cells #[.int .i64 0,.int .i64 0] 33)))
  rw[<- hY] at k2
  have hF:=HF.out Y v1 (hp1.below k2.2.1)
  have HY:Hid (Y.heap[w.heap.size]?=some (.cells #[.bool false,.slice none 0 0,.slice none 0 0] 26)/\Y.heap[w1.heap.size]?=some (.cells #[.int .i64 0,.int .i64 0] 33)/\Below w.heap.size w Y/\w1.heap.size+1<=Y.heap.size):=⟨K.blk_below hb1 k2.2.1,k2.1,hB1.trans (k2.2.1.mono (by omega)),k2.2.2⟩
  obtain⟨la,lc,rfl⟩:∃a c,v1= .slice a l.length c:=by obtain⟨a,c,h⟩:=hp1.len;exact⟨a,c,h⟩
  clear hp1 b1 hb1 hB1 k2 HF HX
  go_wp2_with fail
  rw[<- hY]
  refine hF.mono ?_
  clear hY hF
  rintro e w3 ⟨v3,rfl,hFm,b3⟩
  have hb3:=K.blk_below HY.out.1 b3
  have hf3:=K.blk_below HY.out.2.1 b3
  have hB3:Below w.heap.size w w3:=HY.out.2.2.1.trans (b3.mono HY.out.2.2.1.size)
  have hl3:w1.heap.size<w3.heap.size:=lt_of_block hf3
  obtain⟨oo,oc,po,pc,rfl,_⟩:=id hFm.here
  obtain⟨r0,r1,r2,f0,f1,f2⟩:=V.box3 hb3
  obtain⟨u0,u1,g0,g1⟩:=V.box2 hf3
  obtain⟨Z,hZ⟩:∃Z,Z=((w3.setCell ⟨w1.heap.size,0,none⟩ (.int .i64 e3)).setCell ⟨w1.heap.size,1,none⟩ (.int .i64 (a3:Int))).alloc (.cells #[.bool sc.has,.slice oo sc.only.length oc,.slice po sc.passes.length pc] 26):=⟨_,rfl⟩
  have hz0:((w3.setCell ⟨w1.heap.size,0,none⟩ (.int .i64 e3)).setCell ⟨w1.heap.size,1,none⟩ (.int .i64 (a3:Int))).heap[w1.heap.size]?=some (.cells #[.int .i64 e3,.int .i64 (a3:Int)] 33):=heap_setCell_same _ w1.heap.size 1 _ _ _ (heap_setCell_same w3 w1.heap.size 0 _ _ _ hf3)
  have hz1:((w3.setCell ⟨w1.heap.size,0,none⟩ (.int .i64 e3)).setCell ⟨w1.heap.size,1,none⟩ (.int .i64 (a3:Int))).heap[w.heap.size]?=some (.cells #[.bool false,.slice none 0 0,.slice none 0 0] 26):=by
   rw[heap_setCell_other _ ⟨w1.heap.size,1,none⟩ w.heap.size _ (by simp;omega),heap_setCell_other _ ⟨w1.heap.size,0,none⟩ w.heap.size _ (by simp;omega)];exact hb3
  have k3:=K.one_box (w:=(w3.setCell ⟨w1.heap.size,0,none⟩ (.int .i64 e3)).setCell ⟨w1.heap.size,1,none⟩ (.int .i64 (a3:Int))) (Below.refl _ (((w3.setCell ⟨w1.heap.size,0,none⟩ (.int .i64 e3)).setCell ⟨w1.heap.size,1,none⟩ (.int .i64 (a3:Int))).alloc (.cells #[.bool sc.has,.slice oo sc.only.length oc,.slice po sc.passes.length pc] 26)))
  rw[<- hZ] at k3
  have hsz:((w3.setCell ⟨w1.heap.size,0,none⟩ (.int .i64 e3)).setCell ⟨w1.heap.size,1,none⟩ (.int .i64 (a3:Int))).heap.size=w3.heap.size:=by simp
  have hzr:=K.blk_below hz1 k3.2.1
  have hzf:=K.blk_below hz0 k3.2.1
  have hzs:Z.heap[w3.heap.size]?=some (.cells #[.bool sc.has,.slice oo sc.only.length oc,.slice po sc.passes.length pc] 26):=by have:=k3.1;rw[hsz] at this;exact this
  have hZB:Below w.heap.size w Z:=((hB3.setCell (p:=⟨w1.heap.size,0,none⟩) (by simp;omega) _).setCell (p:=⟨w1.heap.size,1,none⟩) (by simp;omega) _).trans (k3.2.1.mono (by simp;omega))
  have hYs:=HY.out.2.2.2
  have HFz:Hid (V.Firm Y.heap.size Z (.agg #[.bool sc.has,.slice oo sc.only.length oc,.slice po sc.passes.length pc]) sc):=((hFm.store w1.heap.size 0 (.int .i64 e3) (by omega)).store w1.heap.size 1 (.int .i64 (a3:Int)) (by omega)).below k3.2.1
  have HZ:Hid (Below w.heap.size w Z/\Z.heap[w.heap.size]?=some (.cells #[.bool false,.slice none 0 0,.slice none 0 0] 26)/\Z.heap[w1.heap.size]?=some (.cells #[.int .i64 e3,.int .i64 (a3:Int)] 33)/\Z.heap[w3.heap.size]?=some (.cells #[.bool sc.has,.slice oo sc.only.length oc,.slice po sc.passes.length pc] 26)):=⟨hZB,hzr,hzf,hzs⟩
  obtain⟨zr0,zr1,zr2,zf0,zf1,zf2⟩:=V.box3 hzr
  obtain⟨zs0,zs1,zs2,_,_,_⟩:=V.box3 hzs
  have ze0:=K.at_box (i:=0) hzf rfl
  have n1:w1.heap.size≠w.heap.size:=by omega
  have n2:w3.heap.size≠w.heap.size:=by omega
  have zl0:w.heap.size<Z.heap.size:=lt_of_block hzr
  have zl1:w1.heap.size<Z.heap.size:=lt_of_block hzf
  have zl2:w3.heap.size<Z.heap.size:=lt_of_block hzs
  clear hFm b3 hb3 hf3 hB3 hz0 hz1 k3 hsz hzr hzf hzs hZB
  have hq1:(e3==0)=false:=beq_eq_false_iff_ne.2 h0
  have hq2:decide (e3=0)=false:=decide_eq_false h0
  go_upto_region 5 with fail
  rw[<- hZ]
  clear hZ r0 r1 r2 f0 f1 f2 u0 u1 g0 g1 HWr
  have HE:Hid (V.ScIs (((Z.setCell ⟨w.heap.size,0,none⟩ (.bool sc.has)).setCell ⟨w.heap.size,1,none⟩ (.slice oo sc.only.length oc)).setCell ⟨w.heap.size,2,none⟩ (.slice po sc.passes.length pc)) (.agg #[.bool sc.has,.slice oo sc.only.length oc,.slice po sc.passes.length pc]) sc/\Below w.heap.size w (((Z.setCell ⟨w.heap.size,0,none⟩ (.bool sc.has)).setCell ⟨w.heap.size,1,none⟩ (.slice oo sc.only.length oc)).setCell ⟨w.heap.size,2,none⟩ (.slice po sc.passes.length pc))/\(((Z.setCell ⟨w.heap.size,0,none⟩ (.bool sc.has)).setCell ⟨w.heap.size,1,none⟩ (.slice oo sc.only.length oc)).setCell ⟨w.heap.size,2,none⟩ (.slice po sc.passes.length pc)).heap[w.heap.size]?=some (.cells #[.bool sc.has,.slice oo sc.only.length oc,.slice po sc.passes.length pc] 26)):=⟨(((HFz.out.store w.heap.size 0 _ (by omega)).store w.heap.size 1 _ (by omega)).store w.heap.size 2 _ (by omega)).here,((HZ.out.1.setCell (p:=⟨w.heap.size,0,none⟩) (Nat.le_refl _) _).setCell (p:=⟨w.heap.size,1,none⟩) (Nat.le_refl _) _).setCell (p:=⟨w.heap.size,2,none⟩) (Nat.le_refl _) _,Tp.set3 HZ.out.2.1 _ _ _⟩
  obtain⟨x0,x1,x2,_,_,_⟩:=V.box3 HE.out.2.2
  go_region
  all_goals
   go_wp2
   refine bodyPost_ret (v:= .tuple #[.agg #[.bool sc.has,.slice oo sc.only.length oc,.slice po sc.passes.length pc],.bool false]) (by simp[results,Tryz.results10,go_sem, *]) rfl ?_
   first | exact⟨_,rfl,HE.out.1,HE.out.2.1⟩ | exact⟨_,rfl,HE.out.1.below (below_drewN (Below.refl _ _) _),below_drewN HE.out.2.1 _⟩ | exact⟨_,rfl,HE.out.1.below ((Below.refl _ _).drew),HE.out.2.1.drew⟩
theorem tScript_any (hK:T.ClassOk)(s:ByteArray)(hs:s.size<=1099511627776)(w:World) :
  Calls Tryz.prog 10 #[.string s] w fun e w'=>∃v',e= .returned (.tuple #[v',.bool (Tp.scriptF (M.rn s)).2])/\V.ScIs w' v' (Tp.scriptF (M.rn s)).1/\Below w.heap.size w w':=by
 cases h:R.read (M.rn s) with
 | ok l q =>
  have e:Tp.scriptF (M.rn s)=((V.forthF l).1,decide ((V.forthF l).2.1=0)&&decide ((Cn.wrongF (V.forthF l).1).1=0)):=by unfold Tp.scriptF;rw[h]
  rw[e]
  exact tScript_ok hK s hs w l q h
 | bad er q =>
  have e:Tp.scriptF (M.rn s)=(⟨false,[],[]⟩,false):=by unfold Tp.scriptF;rw[h]
  rw[e]
  exact tScript_bad hK s hs w er q h
end Go.Proofs.YtmcljejgbikbhaaGreatDoor
namespace Go.Proofs.YtmcljejgbikbhaaGreatDoor
open Go.RowKit
theorem Tryz.infoPass:(Tryz.prog.info? 141).map (fun i=>(i.zero,i.size,i.bytes))=some (some .nilFunc,1,8):=by kernel_rfl
namespace Cn
def FRow (w:World) (g:Nat) (cur:List Value):Prop:=w.heap[g]?=some (.cells cur.toArray 141 (0,0))
theorem FRow.cell {w:World}{g:Nat}{cur:List Value}(h:FRow w g cur)(j:Nat):w.cell? ⟨g,j,none⟩=cur[j]?:=by
 simp[World.cell?,show w.heap[g]?=_ from h]
theorem FRow.free {w:World}{g:Nat}{cur:List Value}(h:FRow w g cur)(j:Nat):w.frozen? ⟨g,j,none⟩=false:=frozen_of_row w g j _ _ h
theorem FRow.set {w:World}{g k:Nat}{cur:List Value}(h:FRow w g cur)(u:Value):FRow (w.setCell ⟨g,k,none⟩ u) g (cur.set k u):=by
 have:=heap_setCell_same w g k _ _ u h
 unfold FRow
 rw[this]
 simp
theorem make_fns (w:World)(n:Nat)(hn:n<=8000):∃W,(∀kl kc,(Instr.makeSlice 78 (.int kl (n:Int)) (.int kc (n:Int))).run Tryz.prog w= .ok (.slice (some ⟨w.heap.size,0,none⟩) n n) W)/\FRow W w.heap.size (List.replicate n .nilFunc)/\Below w.heap.size w W/\W.heap.size=w.heap.size+1:=by
 obtain⟨i0,hi,hz0,hz1,hz2⟩:=info_parts Tryz.infoPass
 have hr:=fun kl kc=>run_make (P:=Tryz.prog) w 78 141 i0 .nilFunc Tryz.underlying78 hi hz0 kl kc n n (by omega) (Int.le_refl _) (by rw[hz2];omega) (by omega)
 simp only[Int.toNat_natCast] at hr
 refine⟨_,hr,?_,(Below.refl _ w).alloc (Nat.le_refl _) _,by simp⟩
 have h1:=Go.heap_alloc_new w (.cells (madeCells (Value.nilFunc).cells (n*i0.size)) 141)
 unfold FRow
 rw[h1,hz1,Nat.mul_one]
 have e:madeCells (Value.nilFunc).cells n=(List.replicate n Value.nilFunc).toArray:=by
  have:=toList_madeCells_one Value.nilFunc n
  rw[<- this]
  simp[Value.cells]
 rw[e]
def Fns (w0:World) (B:Nat) (w:World) (v:Value) (Fs:List (List Int->List Int×Int)):Prop :=
 ∃b cap,v= .slice (some ⟨b,0,none⟩) Fs.length cap/\∀(j:Nat) F,Fs[j]?=some F->∃u,w.cell? ⟨b,j,none⟩=some u/\Acts w0 B w u F
theorem Fns.below {w0 w w':World}{B:Nat}{v:Value}{Fs:List (List Int->List Int×Int)}(h:Fns w0 B w v Fs)(hb:Below w.heap.size w w'):Fns w0 B w' v Fs:=by
 obtain⟨b,cap,hv,hc⟩:=h
 refine⟨b,cap,hv,fun j F hj=> ?_⟩
 obtain⟨u,h1,h2⟩:=hc j F hj
 exact⟨u,by rw[hb.cell (p:=⟨b,j,none⟩) (L.block_lt h1)];exact h1,h2.below hb⟩
def Mk (pl:Pl) (ps:List V.Pass) (w wr:World) (k:Nat) (cur:List Value):Prop :=
 FRow wr w.heap.size cur/\cur.length=ps.length/\Below w.heap.size w wr/\∀(j:Nat) p,j<k->ps[j]?=some p->∃u,cur[j]?=some u/\Acts w (w.heap.size+1) wr u (passF pl p)
theorem Mk.below {pl:Pl}{ps:List V.Pass}{w wr w':World}{k:Nat}{cur:List Value}(h:Mk pl ps w wr k cur)(hb:Below wr.heap.size wr w'):Mk pl ps w w' k cur:=by
 obtain⟨h1,h2,h3,h4⟩:=h
 refine⟨K.blk_below h1 hb,h2,h3.trans (hb.mono h3.size),fun j p hj hp=> ?_⟩
 obtain⟨u,g1,g2⟩:=h4 j p hj hp
 exact⟨u,g1,g2.below hb⟩
theorem Mk.put {pl:Pl}{ps:List V.Pass}{w wr:World}{k:Nat}{cur:List Value}(h:Mk pl ps w wr k cur){p:V.Pass}(hp:ps[k]?=some p){u:Value}(hu:Acts w (w.heap.size+1) wr u (passF pl p)):Mk pl ps w (wr.setCell ⟨w.heap.size,k,none⟩ u) (k+1) (cur.set k u):=by
 obtain⟨h1,h2,h3,h4⟩:=h
 have hk:∀b o,w.heap.size+1<=b->wr.heap[b]?=some o->(wr.setCell ⟨w.heap.size,k,none⟩ u).heap[b]?=some o:=fun b o hb ho=>by
  rw[heap_setCell_other _ ⟨w.heap.size,k,none⟩ b _ (by simp;omega)];exact ho
 refine⟨h1.set u,by simpa using h2,h3.setCell (p:=⟨w.heap.size,k,none⟩) (Nat.le_refl _) _,fun j q hj hq=> ?_⟩
 have hlt:=(List.getElem?_eq_some_iff.1 hp).1
 by_cases e:j=k
 ·subst e
  rw[hp] at hq
  cases hq
  exact⟨u,List.getElem?_set_self (by omega),hu.keep (Nat.le_refl _) hk⟩
 ·obtain⟨u',g1,g2⟩:=h4 j q (by omega) hq
  exact⟨u',by rw[List.getElem?_set_ne (fun h=>e h.symm)];exact g1,g2.keep (Nat.le_refl _) hk⟩
end Cn
set_option maxHeartbeats 2000000 in
theorem cnPasses_any (pl:Cn.Pl)(hpl:Cn.PlOk pl)(w:World)(v:Value)(ps:List V.Pass)(hP:V.Pas w v ps)(hl:ps.length<=60)(hE:∀p∈ps,Cn.passE p=0) :
  Calls Tryz.prog 31 #[v] w fun e w'=>∃v',e= .returned v'/\Cn.Fns w (w.heap.size+1) w' v' (ps.map (Cn.passF pl))/\Below w.heap.size w w':=by
 have HP:Hid (V.Pas w v ps/\(∀p∈ps,Cn.passE p=0)):=⟨hP,hE⟩
 have HPl:Hid (Cn.PlOk pl):=hpl
 obtain⟨ao,cap,rfl⟩:=hP.len
 obtain⟨W,hmk,hrow,hB,hs⟩:=Cn.make_fns w ps.length (by omega)
 have HW:Hid (Cn.Mk pl ps w W 0 (List.replicate ps.length .nilFunc)):=⟨hrow,by simp,hB,fun j p hj=>by omega⟩
 clear hP hE hpl hrow hB hs
 go_enter Tryz.func31,Tryz.ntmps31
 go_wp2
 go_loopw [11] (fun i wr=>∃(k:Nat) (cur:List Value),k<=ps.length/\i= .int .i64 k/\Hid (Cn.Mk pl ps w wr k cur)) (fun i _=>ps.length - (intOf i).toNat)
 case atStart=>exact⟨0,_,Nat.zero_le _,rfl,HW⟩
 case round =>
  obtain⟨k,cur,hk,rfl,HI⟩:=hrel
  by_cases hlt:k<ps.length
  ·obtain⟨p,hp⟩:∃x,ps[k]?=some x:=⟨ps[k],by simp[hlt]⟩
   obtain⟨ao',cap',e',_,hcs⟩:=HP.out.1
   cases e'
   obtain⟨b,off,rfl,hcell⟩:=hcs (by intro h;rw[h] at hlt;simp at hlt)
   obtain⟨c0,hn,ro,rc,c1,hr⟩:=hcell k p hp
   rw[<- HI.out.2.2.1.cell (p:=⟨b,off+k*2,none⟩) (L.block_lt c0)] at c0
   rw[<- HI.out.2.2.1.cell (p:=⟨b,off+k*2+1,none⟩) (L.block_lt c1)] at c1
   have HC:Hid (∀o,Calls Tryz.prog 66 #[.agg #[.string p.name,.slice ro p.rules.length rc]] (wr.alloc o) fun e w'=>∃v,e= .returned v/\Cn.Acts w (wr.alloc o).heap.size w' v (Cn.passF pl p)/\Below (wr.alloc o).heap.size (wr.alloc o) w'):=fun o=>ready_any pl HPl.out w _ p ro rc hr (HP.out.2 p (List.mem_of_getElem? hp))
   have HQ:Hid (ps[k]?=some p):=hp
   clear hcs hcell hr hp
   go_wp2_with fail
   refine(HC.out _).mono ?_
   rintro e w1 ⟨u,rfl,hA,b1⟩
   obtain⟨g,cb,bx,rfl,hA2⟩:=id hA
   obtain⟨_,B1,hl1⟩:=K.one_box b1
   have hM1:=HI.out.below B1
   have hsz:w.heap.size<wr.heap.size:=lt_of_block HI.out.1
   have HN:Hid (Cn.Mk pl ps w (w1.setCell ⟨w.heap.size,k,none⟩ (.func (.func g) #[] cb)) (k+1) (cur.set k (.func (.func g) #[] cb))):=hM1.put HQ.out (hA.keep (by simp;omega) fun _ _ _ h=>h)
   have hcl:k<cur.length:=by have:=HI.out.2.1;omega
   have k1:w1.cell? ⟨w.heap.size,k,none⟩=some (cur[k]):=by rw[hM1.1.cell k];simp[hcl]
   have fz:w1.frozen? ⟨w.heap.size,k,none⟩=false:=hM1.1.free k
   clear hA hA2 b1 B1 hM1 HC
   go_wp2
   go_roundw
   case rel=>exact⟨k+1,_,by omega,by go_num,HN⟩
   case measure=>simp[intOf];omega
  ·have hkl:k=ps.length:=by omega
   subst hkl
   go_wp2
   go_ret
   obtain⟨h1,h2,h3,h4⟩:=HI.out
   refine⟨_,rfl,⟨w.heap.size,_,by rw[List.length_map];rfl,fun j F hj=> ?_⟩,h3⟩
   rw[List.getElem?_map] at hj
   cases hp:ps[j]? with
   | none=>rw[hp] at hj;cases hj
   | some p =>
    rw[hp] at hj
    cases hj
    obtain⟨u,g1,g2⟩:=h4 j p (List.getElem?_eq_some_iff.1 hp).1 hp
    exact⟨u,by rw[h1.cell j];exact g1,g2⟩
set_option maxHeartbeats 2000000 in
theorem through_any (pl:Cn.Pl)(hpl:Cn.PlOk pl)(w0 w:World)(B:Nat)(v:Value)(ps:List V.Pass)(h0:Below w0.heap.size w0 w)(hF:Cn.Fns w0 B w v (ps.map (Cn.passF pl)))(hl:ps.length<=60)(vt:Value)(t:List Int)(Rt:L.Rd w vt .i32 t)(ht:Cn.Tx t) :
  Calls Tryz.prog 64 #[v,vt] w fun e w'=>∃v',e= .returned (.tuple #[v',.agg #[.int .i64 (Cn.thru pl 0 ps t).2.1,.int .i64 (Cn.thru pl 0 ps t).2.2]])/\L.Rd w' v' .i32 (Cn.thru pl 0 ps t).1/\Below w.heap.size w w':=by
 obtain⟨⟨o,o1,o2⟩,HO⟩:∃o,Hid (Cn.thru pl 0 ps t=o):=⟨_,rfl⟩
 rw[HO.out]
 have HF:Hid (Cn.Fns w0 B w v (ps.map (Cn.passF pl))/\Below w0.heap.size w0 w):=⟨hF,h0⟩
 have HPl:Hid (Cn.PlOk pl):=hpl
 obtain⟨b,cap,rfl,hcs⟩:=hF
 rw[List.length_map] at HF
 rw[List.length_map]
 have HCs:Hid (∀(j:Nat) F,(ps.map (Cn.passF pl))[j]?=some F->∃u,w.cell? ⟨b,j,none⟩=some u/\Cn.Acts w0 B w u F):=hcs
 obtain⟨xo,xc,rfl⟩:∃xo xc,vt= .slice xo t.length xc:=by obtain⟨a,c,h,_⟩:=Rt;exact⟨a,c,h⟩
 have HA:Hid (∀o,Below w.heap.size w (w.alloc o)):=fun o=>(Below.refl _ w).alloc (Nat.le_refl _) o
 have HT:Hid (L.Rd w (.slice xo t.length xc) .i32 t/\Cn.Tx t):=⟨Rt,ht⟩
 clear Rt ht h0 hpl hcs
 go_enter Tryz.func64,Tryz.ntmps64
 go_wp2
 go_loopw [1,12] (fun i1 i wr=>∃(k:Nat) (x:List Int) (yo:Option Addr) (yc:Nat),k<=ps.length/\i= .int .i64 k/\i1= .slice yo x.length yc/\Hid (Cn.thru pl k (ps.drop k) x=(o,o1,o2))/\Hid (L.Rd wr (.slice yo x.length yc) .i32 x/\Cn.Tx x)/\Hid (Below w.heap.size w wr)/\Hid (wr.heap[w.heap.size]?=some (.cells #[.int .i64 0,.int .i64 0] 33))) (fun _ i _=>ps.length - (intOf i).toNat)
 case atStart=>exact⟨0,t,xo,xc,Nat.zero_le _,rfl,rfl,HO,⟨HT.out.1.below (HA.out _) (Nat.le_refl _),HT.out.2⟩,HA.out _,heap_alloc_new w _⟩
 case round =>
  obtain⟨k,x,yo,yc,hk,rfl,rfl,HE,HX,HB,HY⟩:=hrel
  obtain⟨x0,x1,f0,f1⟩:=K.box2 HY.out
  by_cases hlt:k<ps.length
  ·obtain⟨p,hp⟩:∃x,ps[k]?=some x:=⟨ps[k],by simp[hlt]⟩
   obtain⟨u,hu,hA⟩:=HCs.out k (Cn.passF pl p) (by rw[List.getElem?_map,hp];rfl)
   rw[<- HB.out.cell (p:=⟨b,k,none⟩) (L.block_lt hu)] at hu
   obtain⟨g,cb,rfl,eg,hC⟩:=(hA.below HB.out).call (HF.out.2.trans (HB.out.mono HF.out.2.size))
   have hc:=hC _ x HX.out.1 HX.out.2
   have HE2:Hid (Cn.thru pl k (ps.drop k) x=if (Cn.passF pl p x).2=0 then Cn.thru pl (k+1) (ps.drop (k+1)) (Cn.passF pl p x).1 else ([],(Cn.passF pl p x).2,(k:Int))):=Cn.thru_drop hp
   have HTx:Hid (Cn.Tx (Cn.passF pl p x).1):=Cn.passF_tx HPl.out.2 HX.out.2
   obtain⟨⟨q,z⟩,hq⟩:∃q,Cn.passF pl p x=q:=⟨_,rfl⟩
   rw[hq] at hc HE2 HTx
   simp only at hc HE2 HTx
   have HCc:Hid (Calls Tryz.prog g (#[.slice yo x.length yc]++cb) wr fun e w'=>∃v',e= .returned (.tuple #[v',.int .i64 z])/\L.Rd w' v' .i32 q/\Below wr.heap.size wr w'):=hc
   have hsz:=HB.out.size
   clear hp hA hC hq hc
   go_wp2_with fail
   refine HCc.out.mono ?_
   rintro e w1 ⟨v1,rfl,d1,b1⟩
   obtain⟨va,vc,rfl⟩:∃va vc,v1= .slice va q.length vc:=by obtain⟨a,c,h,_⟩:=d1;exact⟨a,c,h⟩
   have HB1:Hid (Below w.heap.size w w1):=HB.out.trans (b1.mono hsz)
   have HY1:Hid (w1.heap[w.heap.size]?=some (.cells #[.int .i64 0,.int .i64 0] 33)):=K.blk_below HY.out b1
   have HD1:Hid (L.Rd w1 (.slice va q.length vc) .i32 q/\Cn.Tx q):=⟨d1,HTx.out⟩
   clear d1 b1 x0 x1 f0 f1 HCc hu
   obtain⟨x0,x1,f0,f1⟩:=K.box2 HY1.out
   by_cases hz:z=0
   ·subst hz
    go_wp2
    go_roundw
    case rel=>exact⟨k+1,q,va,vc,by omega,by go_num,rfl,by show _=_;rw[<- HE.out,HE2.out];simp,HD1,HB1,HY1⟩
    case measure=>simp[intOf];omega
   ·have h:=HE2.out
    rw[HE.out,if_neg hz] at h
    simp only[Prod.mk.injEq] at h
    obtain⟨rfl,rfl,rfl⟩:=h
    go_wp2
    refine bodyPost_ret (v:= .tuple #[.slice none 0 0,.agg #[.int .i64 o1,.int .i64 k]]) (by simp[results,Tryz.results64,go_sem, *]) rfl ?_
    exact⟨_,rfl,⟨none,0,rfl,fun _=>rfl,fun h=>absurd rfl h⟩,(HB1.out.setCell (p:=⟨w.heap.size,0,none⟩) (Nat.le_refl _) _).setCell (p:=⟨w.heap.size,1,none⟩) (Nat.le_refl _) _⟩
  ·have h:=HE.out
   rw[List.drop_eq_nil_of_le (by omega)] at h
   simp only[Cn.thru,Prod.mk.injEq] at h
   obtain⟨rfl,rfl,rfl⟩:=h
   go_wp2
   refine bodyPost_ret (v:= .tuple #[.slice yo x.length yc,.agg #[.int .i64 0,.int .i64 0]]) (by simp[results,Tryz.results64,go_sem, *]) rfl ?_
   refine⟨_,rfl,K.rd_block HX.out.1 fun hz q hq=> ?_,(HB.out.setCell (p:=⟨w.heap.size,0,none⟩) (Nat.le_refl _) _).setCell (p:=⟨w.heap.size,1,none⟩) (Nat.le_refl _) _⟩
   have hne:=K.rd_ne HX.out.1 HY.out hz q hq
   rw[heap_setCell_other _ ⟨w.heap.size,1,none⟩ q _ (by simpa using hne),heap_setCell_other _ ⟨w.heap.size,0,none⟩ q _ (by simpa using hne)]
end Go.Proofs.YtmcljejgbikbhaaGreatDoor
