/-
 What slices.Replace makes of a text of the call's own, where more comes than goes.
-/
import Derived.Test.YtmcljejgbikbhaaGreatDoorQRepl2
import Derived.Laws.Externs
namespace Go.Proofs.YtmcljejgbikbhaaGreatDoor
open Go.RowKit Go.Lib
set_option maxRecDepth 20000
set_option linter.unusedSimpArgs false
set_option linter.unusedVariables false
namespace K
theorem spl_from {cur:List Value}{o:Nat}{vs:List Value}(h:o<=cur.length):(spl cur o vs).drop o=vs++cur.drop (o+vs.length):=by
 unfold spl
 have e:(cur.take o).length=o:=by simp;omega
 rw[List.append_assoc,List.drop_append,e,Nat.sub_self,List.drop_zero,List.drop_eq_nil_of_le (by omega),List.nil_append]
theorem two_spl {cur:List Value}{i m:Nat}{A R:List Value}(hR:R.length=m)(h:i+m<=cur.length):(spl (spl cur (i+m) A) i R).take (i+m+A.length)=cur.take i++R++A:=by
 have e1:(spl cur (i+m) A).take i=cur.take i:=spl_take_le h (by omega)
 have e2:(spl cur (i+m) A).drop (i+m)=A++cur.drop (i+m+A.length):=spl_from h
 show ((spl cur (i+m) A).take i++R++(spl cur (i+m) A).drop (i+R.length)).take (i+m+A.length)=_
 rw[hR,e1,e2,<- List.append_assoc]
 have e3:(cur.take i++R++A).length=i+m+A.length:=by simp;omega
 rw[<- e3,List.take_left]
theorem shape_of_cell {w:World}{b o:Nat}{v:Value}(h:w.cell? ⟨b,o,none⟩=some v):∃t k,w.shape? b=some (t,k)/\k≠0:=by
 unfold World.cell? at h
 unfold World.shape?
 cases hb:w.heap[b]? with
 | none=>rw[show w.heap[(⟨b,o,none⟩:Addr).block]?=none from hb] at h;cases h
 | some x =>
  rw[show w.heap[(⟨b,o,none⟩:Addr).block]?=some x from hb] at h
  cases x with
  | cells c t f =>
   refine⟨t,c.size,rfl,fun h0=> ?_⟩
   have h1:c[o]?=some v:=by simpa using h
   have:=(Array.getElem?_eq_some_iff.1 h1).1
   omega
  | _=>cases h
end K
set_option maxHeartbeats 8000000 in
theorem repl_wide (w:World)(g:Nat)(cur:List Value)(h:K.Row w g cur)(T:List Int)(hT:T.length<=cur.length)(hcap:cur.length<=maxLen)(hcur:cur.take T.length=K.ints T)(h4:T.length<=4000)(i j D:Nat)(hi:i<j)(hN:T.length=j+D)(hD:0<D)(vr:Value)(R:List Int)(hR:∀w',w.grownBy w' (some g)->L.Rd w' vr .i32 R)(hne0:vr.ownBlock≠some g)(hwide:j<i+R.length)(hfit:i+R.length+D<=cur.length)(hm:R.length<=20) :
  Calls Tryz.prog 117 #[.slice (some ⟨g,0,none⟩) T.length cur.length,.int .i64 (i:Int),.int .i64 (j:Int),vr] w fun e w'=>e= .returned (.slice (some ⟨g,0,none⟩) (i+R.length+D) cur.length)/\K.OwnT w' g cur.length (T.take i++R++T.drop j)/\w.grownBy w' (some g):=by
 have hgetT:∀k,k<T.length->cur[k]?=(K.ints T)[k]?:=fun k hk=>by rw[<- hcur,List.getElem?_take,if_pos hk]
 have gr0:w.grownBy w.drew.drew (some g):=S.grown_trans (K.grown_drew w _) (K.grown_drew _ _)
 have hdl:(T.drop j).length=D:=by rw[List.length_drop];omega
 obtain⟨W1,hrun1,row1,gr1⟩:=h.drew.drew.copyR (i+R.length) D (cur.length - (i+R.length)) (.slice (some ⟨g,j,none⟩) D (cur.length - j)) (T.drop j) (h.drew.drew.rdBehind hN fun k hk=>hgetT _ (by omega)) (by rw[hdl];omega) (by rw[hdl];omega)
 have hsp1:(K.spl cur (i+R.length) (K.ints (T.drop j))).length=cur.length:=K.spl_length (by rw[K.ints_length,hdl];omega)
 have gr01:w.grownBy W1 (some g):=S.grown_trans gr0 gr1
 obtain⟨W2,hrun2,row2,gr2⟩:=row1.copyR i (i+R.length+D - i) (cur.length - i) vr R (hR _ gr01) (by omega) (by rw[hsp1];omega)
 have htk:=K.two_spl (cur:=cur) (i:=i) (m:=R.length) (A:=K.ints (T.drop j)) (R:=K.ints R) (K.ints_length R) (by omega)
 rw[K.ints_length,hdl] at htk
 rw[hdl] at hrun1
 have hT':(T.take i++R++T.drop j).length=i+R.length+D:=by simp;omega
 have HF:Hid (K.OwnT W2 g cur.length (T.take i++R++T.drop j)/\w.grownBy W2 (some g)):=by
  refine⟨⟨_,row2,by rw[K.spl_length (by rw[K.ints_length,hsp1];omega)];exact hsp1,by rw[hT'];omega,hcap,?_⟩,S.grown_trans gr01 gr2⟩
  rw[hT',htk]
  have h2:cur.take i=(cur.take T.length).take i:=by rw[List.take_take,Nat.min_eq_left (by omega)]
  rw[h2,hcur]
  unfold K.ints
  rw[List.map_append,List.map_append,List.map_take]
 obtain⟨ao,c,rfl,_,hc⟩:=hR w.drew (K.grown_drew _ _)
 obtain⟨b,off,rfl,hcell⟩:=hc (by intro h;subst h;simp at hwide;omega)
 have hbg:g≠b:=fun e=>hne0 (by rw[e];rfl)
 obtain⟨z,hz⟩:∃z,R[0]?=some z:=⟨R[0]'(by omega),by simp[show 0<R.length by omega]⟩
 obtain⟨tB,kB,hsb,hkB⟩:=K.shape_of_cell (hcell 0 z hz)
 have hsa:w.drew.shape? g=some (21,cur.length):=by
  have e:w.drew.heap[g]?=some (.cells cur.toArray 21 (0,0)):=h
  unfold World.shape?
  rw[e];simp
 obtain⟨i0,hi0,hz0,hz1,hz2⟩:=info_parts Tryz.infoI32
 have hov:(callFunc 167 #[.slice (some ⟨g,i+R.length,none⟩) D (cur.length - (i+R.length)),.slice (some ⟨b,off,none⟩) R.length c]).run Tryz.prog w.drew= .ok (.value (.bool false)) w.drew:=by
  rw[run_callFunc_extern Tryz.func167 (by kernel_rfl) (by kernel_rfl) (by kernel_rfl) (e:=Extern.SlicesOverlaps.overlaps #[29,29] #[4]) (by kernel_rfl),
   Lib.run_overlaps_apart w.drew 29 4 21 Tryz.underlying29 1 (fun w=>by simp[sizeOf,typeInfo,hi0,hz1]) ⟨g,i+R.length,none⟩ ⟨b,off,none⟩ D (cur.length - (i+R.length)) R.length c hbg 21 tB cur.length kB hsa hsb hkB (h.drew.free _) (h.drew.free _)]
  rfl
 have hs0:=K.slice_mid (some ⟨g,0,none⟩) T.length cur.length i j (by omega) (by omega)
 have hs1:=K.slice_upto (some ⟨g,0,none⟩) T.length cur.length i (by omega)
 have hsj:=K.slice_from (some ⟨g,0,none⟩) T.length cur.length j (by omega) hT
 rw[if_neg (by omega),Option.map_some,L.addr_add,Nat.zero_add,show T.length - j=D by omega] at hsj
 have hstot:=K.slice_upto (some ⟨g,0,none⟩) T.length cur.length (i+R.length+D) (by omega)
 have hri:=K.slice_from (some ⟨g,0,none⟩) (i+R.length+D) cur.length i (by omega) (by omega)
 rw[if_neg (by omega),Option.map_some,L.addr_add,Nat.zero_add] at hri
 have hrim:=K.slice_from (some ⟨g,0,none⟩) (i+R.length+D) cur.length (i+R.length) (by omega) (by omega)
 rw[if_neg (by omega),Option.map_some,L.addr_add,Nat.zero_add,show i+R.length+D - (i+R.length)=D by omega] at hrim
 have hne:¬(i:Int)=j:=by omega
 have hne2:¬(j:Int)=T.length:=by omega
 unfold maxLen at hcap
 have hN1:T.length<=j+D:=by omega
 have hN2:j+D<=T.length:=by omega
 clear hgetT row1 row2 gr0 gr1 gr01 gr2 htk h hcur hR hdl hN hsp1 hc hcell hsa hsb hz hT'
 go_enter Tryz.func117,Tryz.ntmps117
 go_wp2
 go_region
 go_wp2
 go_region
 clear hrun1 hov
 go_wp2_with (at_builtin;first | refine K.wpl_copy _ rfl _ _ _ _ rfl _ _ rfl rfl (hrun2 _) ?_)
 go_ret
 exact⟨rfl,HF.out⟩
namespace K
theorem grow_zeros (w:World)(g:Nat)(cur:List Value)(h:Row w g cur)(i k:Nat)(hi:i<=cur.length)(hk:0<k)(hg:cur.length<i+k)(hl:i+k<=8000) :
  ∃cap' cur' W,(∀ty,(Builtin.append_ #[29,3] ty #[.slice (some ⟨g,0,none⟩) i cur.length,.int .i64 (k:Int)]).run Tryz.prog w= .ok (.slice (some ⟨w.heap.size,0,none⟩) (i+k) cap') W)/\Row W w.heap.size cur'/\cur'.length=cap'/\cur'.take i=cur.take i/\i+k<=cap'/\cap'<=maxLen/\w.grownBy W none:=by
 obtain⟨i0,hi0,hz0,hz1,hz2⟩:=info_parts Tryz.infoI32
 have hG:=grownCap_ge w (i+k) cur.length 21
 have hG63:=grownCap_le_maxLen w (i+k) cur.length 21 (by unfold maxLen;omega)
 have hold:(Builtin.firstCells i0.size i (.slice (some ⟨g,0,none⟩) i cur.length)).run Tryz.prog w.drew= .ok (cur.take i).toArray w.drew:=by
  rw[hz1]
  refine run_firstCells_some w.drew 1 i ⟨g,0,none⟩ i cur.length (cur.take i) (by simp;omega) fun j u hj=> ?_
  rw[L.addr_add,Nat.zero_add]
  have:=h.drew.cell j
  rw[this]
  rw[List.getElem?_take] at hj
  split at hj
  ·exact hj
  ·cases hj
 refine⟨_,(cur.take i++List.replicate k (.int .i32 0)++List.replicate (grownCap w (i+k) cur.length 21 - (i+k)) (.int .i32 0)),_,fun ty=>Lib.run_append_grow_zeros w 29 3 ty 21 i0 (.int .i32 0) .i64 .i64 Tryz.underlying29 Tryz.underlying3 hi0 hz0 (some ⟨g,0,none⟩) i cur.length (cur.take i) hold k hk (by omega) hg (by omega) (by rw[hz2];omega) (by rw[hz2];exact growslice_fits (by omega) (by omega)),?_,?_,?_,hG,hG63,?_⟩
 ·unfold Row
  have:=heap_alloc_new w.drew (.cells ((cur.take i).toArray++Builtin.zeroCells (Value.int .i32 0).cells k++Builtin.zeroCells (Value.int .i32 0).cells (grownCap w (i+k) cur.length 21 - (i+k))) 21)
  rw[show w.heap.size=w.drew.heap.size from rfl,this]
  have hzc:∀n,(Builtin.zeroCells (Value.int .i32 0).cells n)=(List.replicate n (.int .i32 0)).toArray:=fun n=>by
   apply Array.ext
   ·simp[Builtin.zeroCells,Value.cells]
   ·intro j h1 h2
    simp[Builtin.zeroCells,Value.cells,Nat.mod_one]
  rw[hzc,hzc]
  simp
 ·simp;omega
 ·rw[List.append_assoc,List.take_append_of_le_length (by simp;omega),List.take_take,Nat.min_self]
 ·exact⟨rfl,rfl,rfl,by simp,fun k hk _=>Below.heap_alloc w.drew _ k hk⟩
end K
end Go.Proofs.YtmcljejgbikbhaaGreatDoor
