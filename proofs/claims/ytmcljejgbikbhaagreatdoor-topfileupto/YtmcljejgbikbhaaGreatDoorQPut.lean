/-
 What slices.Replace makes of a text of the call's own, where there is no room.
-/
import Derived.Test.YtmcljejgbikbhaaGreatDoorQRepl3
import Derived.Test.YtmcljejgbikbhaaGreatDoorVSmall
import Derived.Deep.RegionHeld3
namespace Go.Proofs.YtmcljejgbikbhaaGreatDoor
open Go.RowKit Go.Lib
set_option maxRecDepth 20000
set_option linter.unusedSimpArgs false
set_option linter.unusedVariables false
set_option maxHeartbeats 8000000 in
theorem repl_grow (w:World)(B g:Nat)(hBg:B<=g)(cur:List Value)(h:K.Row w g cur)(T:List Int)(hT:T.length<=cur.length)(hcap:cur.length<=maxLen)(hcur:cur.take T.length=K.ints T)(h4:T.length<=4000)(i j D:Nat)(hi:i<j)(hN:T.length=j+D)(hD:0<D)(vr:Value)(R:List Int)(hR:∀w',w.grownBy w' (some g)->L.Rd w' vr .i32 R)(hR2:∀w',w.grownBy w' (some w.heap.size)->L.Rd w' vr .i32 R)(hfit:cur.length<i+R.length+D)(hm:R.length<=20) :
  Calls Tryz.prog 117 #[.slice (some ⟨g,0,none⟩) T.length cur.length,.int .i64 (i:Int),.int .i64 (j:Int),vr] w fun e w'=>∃g' cap',e= .returned (.slice (some ⟨g',0,none⟩) (i+R.length+D) cap')/\w.heap.size<=g'/\K.OwnT w' g' cap' (T.take i++R++T.drop j)/\w.grownBy w' (some g):=by
 have hgetT:∀k,k<T.length->cur[k]?=(K.ints T)[k]?:=fun k hk=>by rw[<- hcur,List.getElem?_take,if_pos hk]
 have hdl:(T.drop j).length=D:=by rw[List.length_drop];omega
 obtain⟨cap',cur',W0,hrun0,row0,hl0,hp0,hle0,hmax0,gr0⟩:=K.grow_zeros w.drew g cur h.drew i (R.length+D) (by omega) (by omega) (by omega) (by omega)
 have row0:K.Row W0 w.heap.size cur':=row0
 have hbl:∀X,w.grownBy X (some w.heap.size)->∀Y,X.grownBy Y (some w.heap.size)->w.grownBy Y (some w.heap.size):=fun X h1 Y h2=>S.grown_trans h1 h2
 have gw0:w.grownBy W0 (some w.heap.size):=⟨gr0.os,gr0.tape,gr0.output,gr0.size,fun k hk hne=>gr0.block k hk (by simp)⟩
 obtain⟨W1,hrun1,row1,gr1⟩:=row0.copyR i (i+R.length+D - i) (cap' - i) vr R (hR2 _ gw0) (by omega) (by omega)
 have hsp1:(K.spl cur' i (K.ints R)).length=cap':=by rw[K.spl_length (by rw[K.ints_length];omega)];exact hl0
 have gw1:w.grownBy W1 (some w.heap.size):=S.grown_trans gw0 gr1
 have hRow:K.Row W1.drew g cur:=h.block (gw1.block g h.lt (by have:=h.lt;simp;omega))
 obtain⟨W2,hrun2,row2,gr2⟩:=row1.drew.copyR (i+R.length) D (cap' - (i+R.length)) (.slice (some ⟨g,j,none⟩) D (cur.length - j)) (T.drop j) (hRow.rdBehind hN fun k hk=>hgetT _ (by omega)) (by rw[hdl];omega) (by rw[hdl,hsp1];omega)
 have gw2:w.grownBy W2 (some w.heap.size):=S.grown_trans gw1 (S.grown_trans (K.grown_drew _ _) gr2)
 have hsp2:(K.spl (K.spl cur' i (K.ints R)) (i+R.length) (K.ints (T.drop j))).length=cap':=by rw[K.spl_length (by rw[K.ints_length,hdl,hsp1];omega)];exact hsp1
 have htk:(K.spl (K.spl cur' i (K.ints R)) (i+R.length) (K.ints (T.drop j))).take (i+R.length+D)=K.ints (T.take i++R++T.drop j):=by
  have e1:=K.spl_upto (cur:=K.spl cur' i (K.ints R)) (o:=i+R.length) (vs:=K.ints (T.drop j)) (by rw[hsp1];omega)
  have e2:=K.spl_upto (cur:=cur') (o:=i) (vs:=K.ints R) (by omega)
  rw[K.ints_length,hdl] at e1
  rw[K.ints_length] at e2
  rw[e1,e2,hp0]
  have h2:cur.take i=(cur.take T.length).take i:=by rw[List.take_take,Nat.min_eq_left (by omega)]
  rw[h2,hcur]
  unfold K.ints
  rw[List.map_append,List.map_append,List.map_take]
 have hT':(T.take i++R++T.drop j).length=i+R.length+D:=by simp;omega
 rw[hdl] at hrun2
 have HF:Hid (w.heap.size<=w.heap.size/\K.OwnT W2 w.heap.size cap' (T.take i++R++T.drop j)/\w.grownBy W2 (some g)):=by
  refine⟨Nat.le_refl _,⟨_,row2,hsp2,by rw[hT'];omega,hmax0,by rw[hT'];exact htk⟩,gw2.os,gw2.tape,gw2.output,gw2.size,fun k hk _=>gw2.block k hk (by simp;omega)⟩
 have hs0:=K.slice_mid (some ⟨g,0,none⟩) T.length cur.length i j (by omega) (by omega)
 have hs1:=K.slice_upto (some ⟨g,0,none⟩) T.length cur.length i (by omega)
 have hsj:=K.slice_from (some ⟨g,0,none⟩) T.length cur.length j (by omega) hT
 rw[if_neg (by omega),Option.map_some,L.addr_add,Nat.zero_add,show T.length - j=D by omega] at hsj
 have hri:=K.slice_from (some ⟨w.heap.size,0,none⟩) (i+R.length+D) cap' i (by omega) (by omega)
 rw[if_neg (by omega),Option.map_some,L.addr_add,Nat.zero_add] at hri
 have hrim:=K.slice_from (some ⟨w.heap.size,0,none⟩) (i+R.length+D) cap' (i+R.length) (by omega) (by omega)
 rw[if_neg (by omega),Option.map_some,L.addr_add,Nat.zero_add,show i+R.length+D - (i+R.length)=D by omega] at hrim
 have hne:¬(i:Int)=j:=by omega
 have hne2:¬(j:Int)=T.length:=by omega
 obtain⟨ao,c,rfl,_⟩:=hR w ⟨rfl,rfl,rfl,Nat.le_refl _,fun _ _ _=>rfl⟩
 unfold maxLen at hcap hmax0
 have hN1:T.length<=j+D:=by omega
 have hN2:j+D<=T.length:=by omega
 clear hgetT row0 row1 row2 gr0 gw0 gr1 gw1 gr2 gw2 htk h hcur hR hR2 hdl hN hsp1 hsp2 hT' hRow hbl hp0 hl0
 rw[show w.drew.heap.size=w.heap.size from rfl] at hrun0
 have HX:Hid ((Builtin.append_ #[29,3] 29 #[.slice (some ⟨g,0,none⟩) i cur.length,.int .i64 ((i:Int)+R.length+D - i)]).run Tryz.prog w.drew= .ok (.slice (some ⟨w.heap.size,0,none⟩) (i+R.length+D) cap') W0):=by
  have:=hrun0 29
  rw[show (i:Int)+R.length+D - i=((R.length+D:Nat):Int) by omega,Nat.add_assoc]
  exact this
 go_enter Tryz.func117,Tryz.ntmps117
 go_wp2
 go_region
 go_wp2_with (at_builtin;first | refine Lib.wpList_append_run _ rfl _ _ _ _ rfl _ _ rfl rfl _ _ HX.out ?_ | refine K.wpl_copy _ rfl _ _ _ _ rfl _ _ rfl rfl (hrun1 _) ?_)
 clear hrun1 HX hrun0
 go_region
 clear hrun2
 go_wp2
 go_ret
 exact⟨_,_,rfl,HF.out⟩
set_option maxHeartbeats 4000000 in
theorem repl_any2 (w:World)(B g:Nat)(hBg:B<=g)(cap:Nat)(T:List Int)(hO:K.OwnT w g cap T)(h4:T.length<=4000)(i s:Nat)(hs:0<s)(his:i+s<=T.length)(vr:Value)(R:List Int)(hR:∀w',(∀b,b<B->w'.heap[b]?=w.heap[b]?)->L.Rd w' vr .i32 R)(hvb:R≠ []->vr.ownBlock≠some g)(hm:R.length<=20) :
  Calls Tryz.prog 117 #[.slice (some ⟨g,0,none⟩) T.length cap,.int .i64 (i:Int),.int .i64 ((i+s:Nat):Int),vr] w fun e w'=>∃g' cap',e= .returned (.slice (some ⟨g',0,none⟩) (T.take i++R++T.drop (i+s)).length cap')/\B<=g'/\K.OwnT w' g' cap' (T.take i++R++T.drop (i+s))/\w.grownBy w' (some g)/\(g'=g∨w.heap.size<=g'):=by
 obtain⟨cur,row,hcl,hfit,hmax,hcur⟩:=hO
 subst hcl
 have hlt:=row.lt
 have hRg:∀w',w.grownBy w' (some g)->L.Rd w' vr .i32 R:=fun w' h=>hR w' fun b hb=>h.block b (by omega) (by simp;omega)
 have hRn:∀w',w.grownBy w' (some w.heap.size)->L.Rd w' vr .i32 R:=fun w' h=>hR w' fun b hb=>h.block b (by omega) (by simp;omega)
 obtain⟨j,hj⟩:∃j,j=i+s:=⟨_,rfl⟩
 rw[<- hj]
 by_cases hend:j=T.length
 ·have hd:T.drop j= []:=List.drop_eq_nil_of_le (by omega)
  have hl:(T.take i++R++T.drop j).length=i+R.length:=by rw[hd];simp;omega
  rw[hl,hd,List.append_nil,hend]
  by_cases hf:i+R.length<=cur.length
  ·exact(repl_end w g cur row T hfit hmax hcur h4 i (by omega) vr R (hRg w ⟨rfl,rfl,rfl,Nat.le_refl _,fun _ _ _=>rfl⟩) hm hf).mono fun e w' ⟨h1,h2,h3⟩=>⟨g,cur.length,h1,hBg,h2,h3,.inl rfl⟩
  ·exact(repl_end2 w B g hBg cur row T hfit hmax hcur h4 i (by omega) vr R (hRg w ⟨rfl,rfl,rfl,Nat.le_refl _,fun _ _ _=>rfl⟩) hm (by omega)).mono fun e w' ⟨g',c',h1,h2,h3,h4⟩=>⟨g',c',h1,by omega,h3,h4,.inr h2⟩
 ·obtain⟨D,hD⟩:∃D,T.length=j+D:=⟨T.length - j,by omega⟩
  have hl:(T.take i++R++T.drop j).length=i+R.length+D:=by simp;omega
  rw[hl]
  by_cases hf:i+R.length+D<=cur.length
  ·by_cases hw:i+R.length<=j
   ·exact(repl_in w g cur row T hfit hmax hcur h4 i j D (by omega) hD (by omega) vr R hRg hw).mono fun e w' ⟨h1,h2,h3⟩=>⟨g,cur.length,h1,hBg,h2,h3,.inl rfl⟩
   ·exact(repl_wide w g cur row T hfit hmax hcur h4 i j D (by omega) hD (by omega) vr R hRg (hvb (by intro h;subst h;simp at hw;omega)) (by omega) hf hm).mono fun e w' ⟨h1,h2,h3⟩=>⟨g,cur.length,h1,hBg,h2,h3,.inl rfl⟩
  ·exact(repl_grow w B g hBg cur row T hfit hmax hcur h4 i j D (by omega) hD (by omega) vr R hRg hRn (by omega) hm).mono fun e w' ⟨g',c',h1,h2,h3,h4⟩=>⟨g',c',h1,by omega,h3,h4,.inr h2⟩
theorem repl_any (w:World)(B g:Nat)(hBg:B<=g)(cap:Nat)(T:List Int)(hO:K.OwnT w g cap T)(h4:T.length<=4000)(i s:Nat)(hs:0<s)(his:i+s<=T.length)(vr:Value)(R:List Int)(hR:∀w',(∀b,b<B->w'.heap[b]?=w.heap[b]?)->L.Rd w' vr .i32 R)(hvb:R≠ []->vr.ownBlock≠some g)(hm:R.length<=20) :
  Calls Tryz.prog 117 #[.slice (some ⟨g,0,none⟩) T.length cap,.int .i64 (i:Int),.int .i64 ((i+s:Nat):Int),vr] w fun e w'=>∃g' cap',e= .returned (.slice (some ⟨g',0,none⟩) (T.take i++R++T.drop (i+s)).length cap')/\B<=g'/\K.OwnT w' g' cap' (T.take i++R++T.drop (i+s))/\w.grownBy w' (some g) :=
 (repl_any2 w B g hBg cap T hO h4 i s hs his vr R hR hvb hm).mono fun e w' ⟨g',c',h1,h2,h3,h5,_⟩=>⟨g',c',h1,h2,h3,h5⟩
namespace K
def St (B bs:Nat) (w:World) (g cap:Nat) (T:List Int) (k:Int):Prop :=
 B<=bs/\w.heap[bs]?=some (.cells #[.slice (some ⟨g,0,none⟩) T.length cap,.int .i64 k] 84)/\B<=g/\OwnT w g cap T
end K
set_option maxHeartbeats 4000000 in
theorem qput_any (w:World)(B bs g cap:Nat)(T:List Int)(k:Nat)(hS:K.St B bs w g cap T k)(h4:T.length<=4000)(v:Value)(r:K.Rule)(R0:∀w',(∀b,b<B->w'.heap[b]?=w.heap[b]?)->K.RuIs w' v r)(hE:K.ruleE r=0)(hvb:∀g',B<=g'->∀bo bc so sc ao ac tgo tc,v= .agg #[.bool r.start,.bool r.fin,.slice bo r.before.length bc,.slice so r.source.length sc,.slice ao r.after.length ac,.slice tgo r.target.length tc,.int .i64 r.cursor]->r.target≠ []->(Value.slice tgo r.target.length tc).ownBlock≠some g')(hk:k+r.source.length<=T.length)(hlen:T.length - r.source.length+r.target.length<=4000) :
  Calls Tryz.prog 69 #[.pointer (some ⟨bs,0,none⟩),v] w fun e w'=>e= .returned (.int .i64 0)/\∃g' cap',K.St B bs w' g' cap' (T.take k++r.target++T.drop (k+r.source.length)) (k+r.cursor)/\Below B w w':=by
 obtain⟨T2,hT2⟩:∃T2,T2=T.take k++r.target++T.drop (k+r.source.length):=⟨_,rfl⟩
 rw[<- hT2]
 obtain⟨_,_,g2,hsrc,hta,_,hc0,hc1⟩:=K.ruleE_zero hE
 obtain⟨hBs,hbox,hBg,hO⟩:=hS
 have l2:=(K.ruleE_zero hE).2.1.1
 obtain⟨bo,bc,so,sc,ao,ac,tgo,tc,rfl,_⟩:=R0 w fun _ _=>rfl
 have hcap:=hO
 obtain⟨_,_,_,hTc,hcm,_⟩:=hcap
 have hcur:=hc1
 obtain⟨W0,hW0⟩:∃W0,W0=w.alloc (.cells #[.bool r.start,.bool r.fin,.slice bo r.before.length bc,.slice so r.source.length sc,.slice ao r.after.length ac,.slice tgo r.target.length tc,.int .i64 r.cursor] 62):=⟨_,rfl⟩
 have hbl0:∀b,b<w.heap.size->W0.heap[b]?=w.heap[b]?:=fun b hb=>by rw[hW0];exact Below.heap_alloc w _ b hb
 have hlt:bs<w.heap.size:=(Array.getElem?_eq_some_iff.1 hbox).1
 have hglt:g<w.heap.size:=by obtain⟨_,row,_⟩:=hO;exact row.lt
 have hbox0:W0.heap[bs]?=some (.cells #[.slice (some ⟨g,0,none⟩) T.length cap,.int .i64 k] 84):=by rw[hbl0 bs hlt];exact hbox
 have hO0:K.OwnT W0 g cap T:=by obtain⟨cur,row,h⟩:=hO;exact⟨cur,row.block (hbl0 g hglt),h⟩
 have hrb0:W0.heap[w.heap.size]?=some (.cells #[.bool r.start,.bool r.fin,.slice bo r.before.length bc,.slice so r.source.length sc,.slice ao r.after.length ac,.slice tgo r.target.length tc,.int .i64 r.cursor] 62):=by rw[hW0];exact heap_alloc_new w _
 have hB0:Below B w W0:=by rw[hW0];exact(Below.refl _ w).alloc (by omega) _
 obtain⟨x0,x1⟩:W0.cell? ⟨bs,0,none⟩=some (.slice (some ⟨g,0,none⟩) T.length cap)/\W0.cell? ⟨bs,1,none⟩=some (.int .i64 k):=⟨K.at_box hbox0 rfl,K.at_box hbox0 rfl⟩
 have r3:=K.at_box (i:=3) hrb0 rfl
 have r5:=K.at_box (i:=5) hrb0 rfl
 have r6:=K.at_box (i:=6) hrb0 rfl
 have hlong:(T.length:Int) - r.source.length+r.target.length<=4000:=by omega
 unfold maxLen at hcm
 go_enter Tryz.func69,Tryz.ntmps69
 go_wp2
 rw[<- hW0]
 clear hW0
 go_quiet (fail)
 obtain⟨W,hW⟩:∃W,W=W0.drewN nq:=⟨_,rfl⟩
 rw[<- hW]
 have yb:W.heap[bs]?=some (.cells #[.slice (some ⟨g,0,none⟩) T.length cap,.int .i64 k] 84):=by rw[hW];exact hbox0
 have yr:W.heap[w.heap.size]?=some (.cells #[.bool r.start,.bool r.fin,.slice bo r.before.length bc,.slice so r.source.length sc,.slice ao r.after.length ac,.slice tgo r.target.length tc,.int .i64 r.cursor] 62):=by rw[hW];exact hrb0
 have yO:K.OwnT W g cap T:=by rw[hW];exact hO0
 have yB:∀b,b<w.heap.size->W.heap[b]?=w.heap[b]?:=by rw[hW];exact hbl0
 have yw:Below B w W:=by rw[hW];exact below_drewN hB0 _
 have hgs:g≠bs:=fun e=>by
  obtain⟨_,row,_⟩:=yO
  rw[e] at row
  have:=row.symm.trans yb
  simp at this
 have HC:Hid (Calls Tryz.prog 117 #[.slice (some ⟨g,0,none⟩) T.length cap,.int .i64 (k:Int),.int .i64 ((k:Int)+r.source.length),.slice tgo r.target.length tc] W.drew fun e w'=>∃g' cap',e= .returned (.slice (some ⟨g',0,none⟩) T2.length cap')/\B<=g'/\K.OwnT w' g' cap' T2/\W.drew.grownBy w' (some g)):=by
  have h:=repl_any W.drew B g hBg cap T yO h4 k r.source.length hsrc hk (.slice tgo r.target.length tc) r.target (fun w' hw'=>(by
   have hR:=R0 w' fun b hb=>(hw' b hb).trans (yB b (by omega))
   obtain⟨_,_,_,_,_,_,_,_,he,_,_,_,h5,_⟩:=hR
   simp at he
   obtain⟨_,_,_,⟨e1,e2⟩⟩:=he
   subst e1 e2
   exact h5)) (hvb g hBg _ _ _ _ _ _ _ _ rfl) hta
  rw[Int.natCast_add,<- hT2] at h
  exact h
 have x1:=K.at_box (i:=1) yb rfl
 have x0:=K.at_box (i:=0) yb rfl
 have r3:=K.at_box (i:=3) yr rfl
 have r5:=K.at_box (i:=5) yr rfl
 have HY:Hid (W.heap[bs]?=some (.cells #[.slice (some ⟨g,0,none⟩) T.length cap,.int .i64 k] 84)/\W.heap[w.heap.size]?=some (.cells #[.bool r.start,.bool r.fin,.slice bo r.before.length bc,.slice so r.source.length sc,.slice ao r.after.length ac,.slice tgo r.target.length tc,.int .i64 r.cursor] 62)/\Below B w W):=⟨yb,yr,yw⟩
 have hwr:IntKind.i64.wrap ((k:Int)+r.source.length)=(k:Int)+r.source.length:=by rw[IntKind.wrap_i64];omega
 clear hT2 hW yb yr yO yB yw hbox0 hrb0 hO0 hbl0 R0 hvb hbox hO r6 hE
 go_wp2
 refine wp_region_held_drew (S:=fun w'=>w'.cell? ⟨bs,1,none⟩=some (.int .i64 k)/\w'.cell? ⟨w.heap.size,3,none⟩=some (.slice so r.source.length sc)/\w'.cell? ⟨w.heap.size,5,none⟩=some (.slice tgo r.target.length tc)) (by kernel_rfl) ⟨x1,r3,r5⟩ (fun hHeld=> ?_)
 refine wpAnyH_take (i:=0) (oi:=_) (v:= .pointer (some ⟨bs,0,none⟩)) rfl (by kernel_rfl) (by kernel_rfl) (by kernel_rfl) (fun _ _ _ h=>h) (Or.inl ⟨by rfl,?_⟩) hHeld ?_
 ·intro wz hSw
  go_simp
 simp only[Act.put,List.setIfInBounds_toArray,List.set_cons_zero,List.set_cons_succ]
 refine wpAnyH_take (i:=1) (oi:=_) (v:= .pointer (some ⟨bs,0,none⟩)) rfl (by kernel_rfl) (by kernel_rfl) (by kernel_rfl) (fun _ _ _ h=>h) (Or.inl ⟨by rfl,?_⟩) hHeld ?_
 ·intro wz hSw
  go_simp
 simp only[Act.put,List.setIfInBounds_toArray,List.set_cons_zero,List.set_cons_succ]
 refine wpAnyH_take (i:=2) (oi:=_) (v:= .pointer (some ⟨bs,0,none⟩)) rfl (by kernel_rfl) (by kernel_rfl) (by kernel_rfl) (fun _ _ _ h=>h) (Or.inl ⟨by rfl,?_⟩) hHeld ?_
 ·intro wz hSw
  go_simp
 simp only[Act.put,List.setIfInBounds_toArray,List.set_cons_zero,List.set_cons_succ]
 refine wpAnyH_take (i:=3) (oi:=_) (v:= .pointer (some ⟨bs,0,none⟩)) rfl (by kernel_rfl) (by kernel_rfl) (by kernel_rfl) (fun _ _ _ h=>h) (Or.inl ⟨by rfl,?_⟩) hHeld ?_
 ·intro wz hSw
  go_simp
 simp only[Act.put,List.setIfInBounds_toArray,List.set_cons_zero,List.set_cons_succ]
 refine wpAnyH_take (i:=5) (oi:=_) (v:= .pointer (some ⟨bs,0,none⟩)) rfl (by kernel_rfl) (by kernel_rfl) (by kernel_rfl) (fun _ _ _ h=>h) (Or.inl ⟨by rfl,?_⟩) hHeld ?_
 ·intro wz hSw
  go_simp
 simp only[Act.put,List.setIfInBounds_toArray,List.set_cons_zero,List.set_cons_succ]
 refine wpAnyH_take (i:=6) (oi:=_) (v:= .pointer (some ⟨bs,0,none⟩)) rfl (by kernel_rfl) (by kernel_rfl) (by kernel_rfl) (fun _ _ _ h=>h) (Or.inl ⟨by rfl,?_⟩) hHeld ?_
 ·intro wz hSw
  go_simp
 simp only[Act.put,List.setIfInBounds_toArray,List.set_cons_zero,List.set_cons_succ]
 refine wpAnyH_take (i:=7) (oi:=_) (v:= .pointer (some ⟨bs,1,none⟩)) rfl (by kernel_rfl) (by kernel_rfl) (by kernel_rfl) (fun _ _ _ h=>h) (Or.inl ⟨by rfl,?_⟩) hHeld ?_
 ·intro wz hSw
  go_simp
 simp only[Act.put,List.setIfInBounds_toArray,List.set_cons_zero,List.set_cons_succ]
 refine wpAnyH_take (i:=8) (oi:=_) (v:= .int .i64 k) rfl (by kernel_rfl) (by kernel_rfl) (by kernel_rfl) (fun _ _ _ h=>h) (Or.inl ⟨by rfl,?_⟩) hHeld ?_
 ·intro wz hSw
  go_simp
 simp only[Act.put,List.setIfInBounds_toArray,List.set_cons_zero,List.set_cons_succ]
 refine wpAnyH_take (i:=9) (oi:=_) (v:= .pointer (some ⟨bs,0,none⟩)) rfl (by kernel_rfl) (by kernel_rfl) (by kernel_rfl) (fun _ _ _ h=>h) (Or.inl ⟨by rfl,?_⟩) hHeld ?_
 ·intro wz hSw
  go_simp
 simp only[Act.put,List.setIfInBounds_toArray,List.set_cons_zero,List.set_cons_succ]
 refine wpAnyH_take (i:=10) (oi:=_) (v:= .pointer (some ⟨bs,0,none⟩)) rfl (by kernel_rfl) (by kernel_rfl) (by kernel_rfl) (fun _ _ _ h=>h) (Or.inl ⟨by rfl,?_⟩) hHeld ?_
 ·intro wz hSw
  go_simp
 simp only[Act.put,List.setIfInBounds_toArray,List.set_cons_zero,List.set_cons_succ]
 refine wpAnyH_take (i:=11) (oi:=_) (v:= .pointer (some ⟨bs,1,none⟩)) rfl (by kernel_rfl) (by kernel_rfl) (by kernel_rfl) (fun _ _ _ h=>h) (Or.inl ⟨by rfl,?_⟩) hHeld ?_
 ·intro wz hSw
  go_simp
 simp only[Act.put,List.setIfInBounds_toArray,List.set_cons_zero,List.set_cons_succ]
 refine wpAnyH_take (i:=12) (oi:=_) (v:= .int .i64 k) rfl (by kernel_rfl) (by kernel_rfl) (by kernel_rfl) (fun _ _ _ h=>h) (Or.inl ⟨by rfl,?_⟩) hHeld ?_
 ·intro wz hSw
  go_simp
 simp only[Act.put,List.setIfInBounds_toArray,List.set_cons_zero,List.set_cons_succ]
 refine wpAnyH_take (i:=13) (oi:=_) (v:= .pointer (some ⟨w.heap.size,3,none⟩)) rfl (by kernel_rfl) (by kernel_rfl) (by kernel_rfl) (fun _ _ _ h=>h) (Or.inl ⟨by rfl,?_⟩) hHeld ?_
 ·intro wz hSw
  go_simp
 simp only[Act.put,List.setIfInBounds_toArray,List.set_cons_zero,List.set_cons_succ]
 refine wpAnyH_take (i:=14) (oi:=_) (v:= .slice so r.source.length sc) rfl (by kernel_rfl) (by kernel_rfl) (by kernel_rfl) (fun _ _ _ h=>h) (Or.inl ⟨by rfl,?_⟩) hHeld ?_
 ·intro wz hSw
  go_simp
 simp only[Act.put,List.setIfInBounds_toArray,List.set_cons_zero,List.set_cons_succ]
 refine wpAnyH_take (i:=15) (oi:=_) (v:= .int .i64 r.source.length) rfl (by kernel_rfl) (by kernel_rfl) (by kernel_rfl) (fun _ _ _ h=>h) (Or.inl ⟨by rfl,?_⟩) hHeld ?_
 ·intro wz hSw
  go_simp
 simp only[Act.put,List.setIfInBounds_toArray,List.set_cons_zero,List.set_cons_succ]
 refine wpAnyH_take (i:=16) (oi:=_) (v:= .int .i64 ((k:Int)+r.source.length)) rfl (by kernel_rfl) (by kernel_rfl) (by kernel_rfl) (fun _ _ _ h=>h) (Or.inl ⟨by rfl,?_⟩) hHeld ?_
 ·intro wz hSw
  go_simp
 simp only[Act.put,List.setIfInBounds_toArray,List.set_cons_zero,List.set_cons_succ]
 refine wpAnyH_take (i:=17) (oi:=_) (v:= .pointer (some ⟨w.heap.size,5,none⟩)) rfl (by kernel_rfl) (by kernel_rfl) (by kernel_rfl) (fun _ _ _ h=>h) (Or.inl ⟨by rfl,?_⟩) hHeld ?_
 ·intro wz hSw
  go_simp
 simp only[Act.put,List.setIfInBounds_toArray,List.set_cons_zero,List.set_cons_succ]
 refine wpAnyH_take (i:=18) (oi:=_) (v:= .slice tgo r.target.length tc) rfl (by kernel_rfl) (by kernel_rfl) (by kernel_rfl) (fun _ _ _ h=>h) (Or.inl ⟨by rfl,?_⟩) hHeld ?_
 ·intro wz hSw
  go_simp
 simp only[Act.put,List.setIfInBounds_toArray,List.set_cons_zero,List.set_cons_succ]
 refine wpAnyH_ready (rs:= [4]) (by kernel_rfl) (by simp) ?_
 refine AllReadyH.cons (o:=_) rfl (fun KK hK=> ?_) AllReadyH.nil
 go_simp
 refine hK.out _ _ hHeld (fun hHeld=> ?_)
 clear hK
 try simp only[Act.put,List.setIfInBounds_toArray,List.set_cons_zero,List.set_cons_succ]
 refine wpAnyH_ready (rs:= [19]) (by kernel_rfl) (by simp) ?_
 refine AllReadyH.cons (o:=_) rfl (fun KK hK=> ?_) AllReadyH.nil
 go_simp
 refine HC.out.mono ?_
 rintro e w1 ⟨g',cap',rfl,hB',hO',hg'⟩
 have zb:w1.heap[bs]?=some (.cells #[.slice (some ⟨g,0,none⟩) T.length cap,.int .i64 k] 84):=(hg'.block bs (Array.getElem?_eq_some_iff.1 HY.out.1).1 (by simpa using hgs.symm)).trans HY.out.1
 have zr:w1.heap[w.heap.size]?=some (.cells #[.bool r.start,.bool r.fin,.slice bo r.before.length bc,.slice so r.source.length sc,.slice ao r.after.length ac,.slice tgo r.target.length tc,.int .i64 r.cursor] 62):=(hg'.block w.heap.size (Array.getElem?_eq_some_iff.1 HY.out.2.1).1 (by simp;omega)).trans HY.out.2.1
 have hgs':g'≠bs:=fun e=>by
  obtain⟨_,row,_⟩:=hO'
  rw[e] at row
  have:=row.symm.trans zb
  simp at this
 have zB:Below B w w1:=(HY.out.2.2.drew).grown hg' (by show B<=W.heap.size;have:=(Array.getElem?_eq_some_iff.1 HY.out.1).1;omega) (fun q hq=>by cases hq;exact hBg)
 obtain⟨W2,hW2⟩:∃W2,W2=w1.setCell ⟨bs,0,none⟩ (.slice (some ⟨g',0,none⟩) T2.length cap'):=⟨_,rfl⟩
 have yb2:W2.heap[bs]?=some (.cells #[.slice (some ⟨g',0,none⟩) T2.length cap',.int .i64 k] 84):=by rw[hW2];exact heap_setCell_same w1 bs 0 _ _ _ zb
 have yr2:W2.heap[w.heap.size]?=some (.cells #[.bool r.start,.bool r.fin,.slice bo r.before.length bc,.slice so r.source.length sc,.slice ao r.after.length ac,.slice tgo r.target.length tc,.int .i64 r.cursor] 62):=by rw[hW2];exact(heap_setCell_other w1 ⟨bs,0,none⟩ w.heap.size _ (by simp;omega)).trans zr
 have yO2:K.OwnT W2 g' cap' T2:=by
  obtain⟨cur,row,h⟩:=hO'
  exact⟨cur,by rw[hW2];exact row.block (heap_setCell_other w1 ⟨bs,0,none⟩ g' _ (by simpa using hgs')),h⟩
 have yB2:Below B w W2:=by rw[hW2];exact zB.setCell (p:=⟨bs,0,none⟩) hBs _
 have q0:=K.at_box (i:=0) zb rfl
 have q1:=K.at_box (i:=1) zb rfl
 have q3:=K.at_box (i:=3) zr rfl
 have q5:=K.at_box (i:=5) zr rfl
 have f0:w1.frozen? ⟨bs,0,none⟩=false:=frozen_of_row w1 bs 0 _ _ zb
 have u1:=K.at_box (i:=1) yb2 rfl
 have u3:=K.at_box (i:=3) yr2 rfl
 have u5:=K.at_box (i:=5) yr2 rfl
 have u6:=K.at_box (i:=6) yr2 rfl
 have fu:W2.frozen? ⟨bs,1,none⟩=false:=frozen_of_row W2 bs 1 _ _ yb2
 have HF:Hid (W2.heap[bs]?=some (.cells #[.slice (some ⟨g',0,none⟩) T2.length cap',.int .i64 k] 84)/\K.OwnT W2 g' cap' T2/\Below B w W2/\B<=g'/\g'≠bs):=⟨yb2,yO2,yB2,hB',hgs'⟩
 clear zb zr zB yb2 yr2 yO2 yB2 hO' hg' hB' hgs' HC HY x0 x1 r3 r5 hHeld
 refine hK.out _ _ ⟨q1,q3,q5⟩ (fun hHeld=> ?_)
 clear hK
 refine wpAnyH_take (i:=20) (oi:=_) (v:= .pointer (some ⟨bs,0,none⟩)) rfl (by kernel_rfl) (by kernel_rfl) (by kernel_rfl) (fun _ _ _ h=>h) (Or.inl ⟨by rfl,?_⟩) hHeld ?_
 ·intro wz hSw
  go_simp
 simp only[Act.put,List.setIfInBounds_toArray,List.set_cons_zero,List.set_cons_succ]
 refine wpAnyH_take (i:=21) (oi:=_) (v:= .pointer (some ⟨bs,0,none⟩)) rfl (by kernel_rfl) (by kernel_rfl) (by kernel_rfl) (fun _ _ _ h=>h) (Or.inl ⟨by rfl,?_⟩) hHeld ?_
 ·intro wz hSw
  go_simp
 simp only[Act.put,List.setIfInBounds_toArray,List.set_cons_zero,List.set_cons_succ]
 refine wpAnyH_ready (rs:= [22]) (by kernel_rfl) (by simp) ?_
 refine AllReadyH.cons (o:=_) rfl (fun KK hK=> ?_) AllReadyH.nil
 go_simp
 rw[<- hW2]
 refine hK.out _ _ ⟨u1,u3,u5⟩ (fun hHeld=> ?_)
 clear hK hHeld hW2 q0 q1 q3 q5 f0
 refine wpAnyH_done (by kernel_rfl) ?_ _
 have hwr2:IntKind.i64.wrap ((k:Int)+r.cursor)=(k:Int)+r.cursor:=by rw[IntKind.wrap_i64];omega
 go_wp2
 go_region
 go_wp2
 go_ret
 obtain⟨cur,row,hcu⟩:=HF.out.2.1
 exact⟨rfl,g',cap',⟨hBs,heap_setCell_same W2 bs 1 _ _ _ HF.out.1,HF.out.2.2.2.1,cur,row.block (heap_setCell_other W2 ⟨bs,1,none⟩ g' _ (by simpa using HF.out.2.2.2.2)),hcu⟩,(HF.out.2.2.1.setCell (p:=⟨bs,1,none⟩) hBs _).drew⟩
set_option maxHeartbeats 2000000 in
theorem put_much (w:World)(B bs g cap:Nat)(T:List Int)(k:Nat)(hS:K.St B bs w g cap T k)(h4:T.length<=4000)(v:Value)(r:K.Rule)(R0:K.RuIs w v r)(hE:K.ruleE r=0)(hk:k+r.source.length<=T.length)(hlen:4000<T.length - r.source.length+r.target.length) :
  Calls Tryz.prog 69 #[.pointer (some ⟨bs,0,none⟩),v] w fun e w'=>e= .returned (.int .i64 4)/\Below w.heap.size w w':=by
 obtain⟨_,_,g2,hsrc,hta,_,hc0,hc1⟩:=K.ruleE_zero hE
 obtain⟨hBs,hbox,hBg,hO⟩:=hS
 have l2:=(K.ruleE_zero hE).2.1.1
 obtain⟨bo,bc,so,sc,ao,ac,tgo,tc,rfl,_⟩:=R0
 obtain⟨W0,hW0⟩:∃W0,W0=w.alloc (.cells #[.bool r.start,.bool r.fin,.slice bo r.before.length bc,.slice so r.source.length sc,.slice ao r.after.length ac,.slice tgo r.target.length tc,.int .i64 r.cursor] 62):=⟨_,rfl⟩
 have hlt:bs<w.heap.size:=(Array.getElem?_eq_some_iff.1 hbox).1
 have hbox0:W0.heap[bs]?=some (.cells #[.slice (some ⟨g,0,none⟩) T.length cap,.int .i64 k] 84):=by rw[hW0,Below.heap_alloc w _ bs hlt];exact hbox
 have hrb0:W0.heap[w.heap.size]?=some (.cells #[.bool r.start,.bool r.fin,.slice bo r.before.length bc,.slice so r.source.length sc,.slice ao r.after.length ac,.slice tgo r.target.length tc,.int .i64 r.cursor] 62):=by rw[hW0];exact heap_alloc_new w _
 have HB0:Hid (Below w.heap.size w W0):=by rw[hW0];exact(Below.refl _ w).alloc (Nat.le_refl _) _
 have x0:=K.at_box (i:=0) hbox0 rfl
 have x1:=K.at_box (i:=1) hbox0 rfl
 have r3:=K.at_box (i:=3) hrb0 rfl
 have r5:=K.at_box (i:=5) hrb0 rfl
 have hlong:¬(T.length:Int) - r.source.length+r.target.length<=4000:=by omega
 clear hbox hbox0 hrb0 hO hE
 go_enter Tryz.func69,Tryz.ntmps69
 go_wp2
 rw[<- hW0]
 clear hW0
 go_quiet (fail)
 go_wp2
 go_ret
 exact⟨rfl,below_drewN HB0.out _⟩
end Go.Proofs.YtmcljejgbikbhaaGreatDoor
