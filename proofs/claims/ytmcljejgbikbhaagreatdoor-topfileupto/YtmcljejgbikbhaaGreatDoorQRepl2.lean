/-
 What scriptref1.Same answers of two slices of runes: whether they read as the same list.
-/
import Derived.Test.YtmcljejgbikbhaaGreatDoorRows
import Derived.Test.YtmcljejgbikbhaaGreatDoorSLib
import Derived.Deep.QuietTactic
import Derived.BigQuiet
import Derived.Test.YtmcljejgbikbhaaGreatDoorQApp
import Derived.BigRegion
import Derived.RegionTactic
import Derived.Deep.Upon
import Derived.ArgAppend
set_option maxRecDepth 20000
set_option linter.unusedSimpArgs false
set_option linter.unusedVariables false
namespace Go.Proofs.YtmcljejgbikbhaaGreatDoor
open Go.RowKit
theorem take_eq_snoc {a b:List Int}{k:Nat}{x y:Int}(h:a.take k=b.take k)(hx:a[k]?=some x)(hy:b[k]?=some y)(e:x=y):a.take (k+1)=b.take (k+1):=by
 rw[List.take_add_one,List.take_add_one,h,hx,hy,e]
set_option maxHeartbeats 400000 in
theorem rsame_any (w:World)(va vb:Value)(za zb:List Int)(ha:L.Rd w va .i32 za)(hb:L.Rd w vb .i32 zb)(hla:za.length<=4611686018427387903)(hlb:zb.length<=4611686018427387903) :
  Calls Tryz.prog 17 #[va,vb] w fun e w'=>e= .returned (.bool (decide (za=zb)))/\Below w.heap.size w w':=by
 obtain⟨ao,ca,rfl,_,ha⟩:=ha
 obtain⟨bo,cb,rfl,_,hb⟩:=hb
 by_cases hl:za.length=zb.length
 ·go_enter Tryz.func17,Tryz.ntmps17
  go_wp2
  go_loopw [13] (fun i wr=>∃k n:Nat,k<=za.length/\i= .int .i64 k/\za.take k=zb.take k/\wr=w.drewN n) (fun i _=>za.length - (intOf i).toNat)
  case atStart=>exact⟨0,0,Nat.zero_le _,rfl,by simp,rfl⟩
  case round =>
   obtain⟨k,n,hk,rfl,ht,rfl⟩:=hrel
   by_cases hlt:k<za.length
   ·obtain⟨b1,o1,rfl,hc1⟩:=ha (by intro h;subst h;simp at hlt)
    obtain⟨b2,o2,rfl,hc2⟩:=hb (by intro h;subst h;simp at hl;rw[hl] at hlt;simp at hlt)
    obtain⟨x,hx⟩:∃x,za[k]?=some x:=⟨za[k],by simp[hlt]⟩
    obtain⟨y,hy⟩:∃y,zb[k]?=some y:=⟨zb[k]'(by omega),by simp[show k<zb.length by omega]⟩
    have c1:=hc1 k x hx
    have c2:=hc2 k y hy
    clear hc1 hc2 ha hb
    have HX:Hid (za[k]?=some x/\zb[k]?=some y/\za.take k=zb.take k):=⟨hx,hy,ht⟩
    clear hx hy ht
    by_cases hxy:x=y
    ·go_wp2
     go_quiet (fail)
     go_wp2
     go_roundw
     case rel=>exact⟨k+1,_,by omega,by go_num,take_eq_snoc HX.out.2.2 HX.out.1 HX.out.2.1 hxy,rfl⟩
     case measure=>simp[intOf];omega
    ·go_wp2
     go_quiet (fail)
     go_wp2
     go_ret
     refine⟨L.ret_bool ?_,below_drewN (below_drewN (Below.refl _ _) _) _⟩
     have:za≠zb:=by
      intro e
      rw[e] at HX
      have h1:=HX.out.1
      rw[HX.out.2.1] at h1
      exact hxy (Option.some.inj h1).symm
     simp[this]
   ·go_wp2
    go_ret
    refine⟨L.ret_bool ?_,below_drewN (Below.refl _ _) _⟩
    rw[List.take_of_length_le (by omega),List.take_of_length_le (by omega)] at ht
    simp[ht]
 ·go_enter Tryz.func17,Tryz.ntmps17
  go_wp2
  go_ret
  refine⟨L.ret_bool ?_,Below.refl _ _⟩
  have:za≠zb:=by intro e;exact hl (by rw[e])
  simp[this]
theorem Cn.app1 {w:World}{B:Nat}{vo:Value}{o:List Int}(own:w.ownsRow B 21 1 vo o.length (K.ints o))(hB:B<=w.heap.size)(hl:o.length<=50000000)(z:Int) :
  ∃ao' vc' w',(∀ty,(Builtin.append_ #[29,29] ty #[vo,.slice (some ⟨w.heap.size,0,none⟩) 1 1]).run Tryz.prog (w.alloc (.cells #[.int .i32 z] 21))= .ok (.slice ao' (o.length+1) vc') w')/\w'.ownsRow B 21 1 (.slice ao' (o.length+1) vc') (o++ [z]).length (K.ints (o++ [z]))/\(∀b,b<w.heap.size->vo.ownBlock≠some b->w'.heap[b]?=w.heap[b]?)/\w.heap.size<=w'.heap.size/\Below B w w':=by
 have hal:Below w.heap.size w (w.alloc (.cells #[.int .i32 z] 21)):=(Below.refl _ w).alloc (Nat.le_refl _) _
 have hnew:=heap_alloc_new w (.cells #[.int .i32 z] 21)
 have hrx:L.Rd (w.alloc (.cells #[.int .i32 z] 21)) (.slice (some ⟨w.heap.size,0,none⟩) 1 1) .i32 [z]:=⟨_,_,rfl,fun e=>by (cases e),fun _=>⟨_,0,rfl,fun j y hj=>by
  match j,hj with
  | 0,hj=>cases hj;exact K.at_box hnew rfl
  | n+1,hj=>simp at hj⟩⟩
 obtain⟨v',w',run,own',gr,_⟩:=K.app_rd _ B vo o (own.alloc _) _ [z] hrx (by simp;omega) (by simp;omega)
 have hlen:(o++ [z]).length=o.length+1:=by simp
 obtain⟨ao',vc',rfl⟩:∃ao cap,v'= .slice ao (o.length+1) cap:=by
  rw[<- hlen]
  rcases own'.2 with ⟨hv,h0⟩|⟨g,cap,cur,hv,_⟩
  ·exact⟨none,0,by rw[hv,h0]⟩
  ·exact⟨_,cap,hv⟩
 refine⟨ao',vc',w',run,own',fun b hb hne=> ?_,?_,(hal.mono hB).grown gr (by simp;omega) fun k hk=>(own.lt k hk).1⟩
 ·rw[gr.block b (by simp;omega) (fun e=>hne e.symm)]
  exact hal.block b hb
 ·have:=gr.size
  simp at this
  omega
end Go.Proofs.YtmcljejgbikbhaaGreatDoor
namespace Go.Proofs.YtmcljejgbikbhaaGreatDoor
open Go.RowKit Go.Lib
namespace K
def OwnT (w:World) (g cap:Nat) (T:List Int):Prop:=∃cur,Row w g cur/\cur.length=cap/\T.length<=cap/\cap<=maxLen/\cur.take T.length=ints T
theorem slice_mid (xo:Option Addr)(N xc i j:Nat)(h:i<=j)(hj:j<=xc)(w':World):(Instr.slice 29 (.slice xo N xc) (some (.int .i64 (i:Int))) (some (.int .i64 (j:Int))) none).run Tryz.prog w'= .ok (.slice (if xc=i then xo else Option.map (fun x=>x.add i) xo) (j - i) (xc - i)) w':=by
 have a1:(i:Int)<=j:=by omega
 have a2:(j:Int)<=xc:=by omega
 have a0:(0:Int)<=i:=by omega
 have a3:(0:Int)<=j:=by omega
 go_simp
theorem Row.app {w:World}{g:Nat}{cur:List Value}(h:Row w g cur)(i:Nat)(vr:Value)(R:List Int)(hR:L.Rd w vr .i32 R)(hfit:i+R.length<=cur.length) :
  ∃W,(∀ty,(Builtin.append_ #[29,29] ty #[.slice (some ⟨g,0,none⟩) i cur.length,vr]).run Tryz.prog w= .ok (.slice (some ⟨g,0,none⟩) (i+R.length) cur.length) W)/\Row W g (spl cur i (ints R))/\w.grownBy W (some g):=by
 obtain⟨i0,hi,hz0,hz1,hz2⟩:=info_parts Tryz.infoI32
 obtain⟨ao,c,rfl,hn,hc⟩:=hR
 by_cases h0:R= []
 ·subst h0
  refine⟨w,fun ty=> ?_,by simpa [spl,ints] using h,⟨rfl,rfl,rfl,Nat.le_refl _,fun _ _ _=>rfl⟩⟩
  have:=Go.run_append_nothing (P:=Tryz.prog) w _ _ ty 21 i0 Tryz.underlying29 hi (some ⟨g,0,none⟩) i cur.length (by simpa using hfit) (.slice ao 0 c) (by
   cases ao with
   | none=>exact Go.Src.ofNil w Tryz.underlying29 c
   | some ad=>exact Go.Src.ofSlice w Tryz.underlying29 ad 0 c [] (by simp) (fun j u h=>by simp at h) (fun u h=>by simp at h))
  simpa using this
 ·obtain⟨b,off,rfl,hcell⟩:=hc h0
  refine⟨_,fun ty=> ?_,h.set (spl cur i (ints R)),grown_set _ _ _⟩
  have:=run_append_room (P:=Tryz.prog) w 29 ty 21 i0 Tryz.underlying29 hi g i cur.length _ h ⟨b,off,none⟩ R.length c (ints R) (by rw[ints_length,hz1];omega) (fun j u hj=>by
   obtain⟨z,hz,rfl⟩:=ints_get hj
   rw[L.addr_add];exact hcell j z hz) (ints_one R) hfit (by rw[hz1,ints_length];simpa using hfit)
  simpa [hz1,spl] using this
end K
set_option maxHeartbeats 4000000 in
theorem repl_end (w:World)(g:Nat)(cur:List Value)(h:K.Row w g cur)(T:List Int)(hT:T.length<=cur.length)(hcap:cur.length<=maxLen)(hcur:cur.take T.length=K.ints T)(h4:T.length<=4000)(i:Nat)(hi:i<T.length)(vr:Value)(R:List Int)(hR:L.Rd w vr .i32 R)(hm:R.length<=20)(hfit:i+R.length<=cur.length) :
  Calls Tryz.prog 117 #[.slice (some ⟨g,0,none⟩) T.length cur.length,.int .i64 (i:Int),.int .i64 (T.length:Int),vr] w fun e w'=>e= .returned (.slice (some ⟨g,0,none⟩) (i+R.length) cur.length)/\K.OwnT w' g cur.length (T.take i++R)/\w.grownBy w' (some g):=by
 obtain⟨W1,hrun1,row1,gr1⟩:=h.app i vr R hR hfit
 have hsp:(K.spl cur i (K.ints R)).length=cur.length:=K.spl_length (by rw[K.ints_length];omega)
 have hT':(T.take i++R).length=i+R.length:=by simp;omega
 have hspt:(K.spl cur i (K.ints R)).take (i+R.length)=K.ints (T.take i++R):=by
  have h1:=K.spl_upto (cur:=cur) (o:=i) (vs:=K.ints R) (by omega)
  rw[K.ints_length] at h1
  rw[h1]
  unfold K.ints
  rw[List.map_append,List.map_take]
  have h2:cur.take i=(cur.take T.length).take i:=by rw[List.take_take,Nat.min_eq_left (by omega)]
  rw[h2,hcur];rfl
 have hs0:=K.slice_mid (some ⟨g,0,none⟩) T.length cur.length i T.length (by omega) hT
 have hs1:=K.slice_upto (some ⟨g,0,none⟩) T.length cur.length i (by omega)
 unfold maxLen at hcap
 obtain⟨ao,c,rfl,_⟩:=hR
 have HH:Hid (K.Row W1 g (K.spl cur i (K.ints R))/\w.grownBy W1 (some g)/\(K.spl cur i (K.ints R)).take (i+R.length)=K.ints (T.take i++R)/\(K.spl cur i (K.ints R)).length=cur.length):=⟨row1,gr1,hspt,hsp⟩
 by_cases hlt:i+R.length<T.length
 ·obtain⟨W2,hrun2,row2,gr2⟩:=row1.clear (i+R.length) (T.length - (i+R.length)) (cur.length - (i+R.length)) (by omega) (by rw[hsp];omega)
  have hs2:=K.slice_from (some ⟨g,0,none⟩) T.length cur.length (i+R.length) (by omega) hT
  rw[if_neg (by omega),Option.map_some,L.addr_add,Nat.zero_add] at hs2
  have hne:¬(i:Int)=T.length:=by omega
  have HF:Hid (K.OwnT W2 g cur.length (T.take i++R)/\w.grownBy W2 (some g)):=by
   refine⟨⟨_,row2,by rw[K.spl_length (by rw[hsp];simp;omega)];exact hsp,by rw[hT'];omega,by unfold maxLen;omega,?_⟩,S.grown_trans gr1 gr2⟩
   rw[hT',K.spl_take (by rw[hsp];omega)]
   exact hspt
  clear row1 gr1 hspt hsp row2 gr2 HH h hcur
  go_enter Tryz.func117,Tryz.ntmps117
  go_wp2_with (at_builtin;first | refine Lib.wpList_append_run _ rfl _ _ _ _ rfl _ _ rfl rfl _ _ (hrun1 _) ?_ | refine K.wpl_clear _ rfl _ _ rfl _ rfl (hrun2 _) ?_)
  go_ret
  exact⟨rfl,HF.out⟩
 ·have hne:¬(i:Int)=T.length:=by omega
  have HF:Hid (K.OwnT W1 g cur.length (T.take i++R)/\w.grownBy W1 (some g)):=⟨⟨_,row1,hsp,by rw[hT'];omega,by unfold maxLen;omega,by rw[hT'];exact hspt⟩,gr1⟩
  clear row1 gr1 hspt hsp HH h hcur
  go_enter Tryz.func117,Tryz.ntmps117
  go_wp2_with (at_builtin;first | refine Lib.wpList_append_run _ rfl _ _ _ _ rfl _ _ rfl rfl _ _ (hrun1 _) ?_)
  go_ret
  exact⟨rfl,HF.out⟩
set_option maxHeartbeats 4000000 in
theorem repl_end2 (w:World)(B g:Nat)(hBg:B<=g)(cur:List Value)(h:K.Row w g cur)(T:List Int)(hT:T.length<=cur.length)(hcap:cur.length<=maxLen)(hcur:cur.take T.length=K.ints T)(h4:T.length<=4000)(i:Nat)(hi:i<T.length)(vr:Value)(R:List Int)(hR:L.Rd w vr .i32 R)(hm:R.length<=20)(hfit:cur.length<i+R.length) :
  Calls Tryz.prog 117 #[.slice (some ⟨g,0,none⟩) T.length cur.length,.int .i64 (i:Int),.int .i64 (T.length:Int),vr] w fun e w'=>∃g' cap',e= .returned (.slice (some ⟨g',0,none⟩) (i+R.length) cap')/\w.heap.size<=g'/\K.OwnT w' g' cap' (T.take i++R)/\w.grownBy w' (some g):=by
 obtain⟨i0,hi0,hz0,hz1,hz2⟩:=info_parts Tryz.infoI32
 obtain⟨ao,c,rfl,_,hc⟩:=hR
 obtain⟨b,off,rfl,hcell⟩:=hc (by intro h;subst h;simp at hfit;omega)
 have hT':(T.take i++R).length=i+R.length:=by simp;omega
 obtain⟨v',W1,hrun1,own1,gr0⟩:=run_append_arg_grows (P:=Tryz.prog) w 29 0 21 i0 (.int .i32 0) 1 4 Tryz.underlying29 hi0 hz0 hz1 hz2 rfl (by decide) ⟨g,0,none⟩ i cur.length (K.ints (T.take i)) (by rw[K.ints_length,List.length_take];omega) (fun j u hj=>by
   obtain⟨z,hz,rfl⟩:=K.ints_get hj
   have hjl:j<i:=by have:=(List.getElem?_eq_some_iff.1 hz).1;rw[List.length_take] at this;omega
   rw[L.addr_add,Nat.zero_add,h.cell]
   have e:cur[j]?=(cur.take T.length)[j]?:=by rw[List.getElem?_take,if_pos (by omega)]
   rw[e,hcur]
   unfold K.ints
   rw[List.getElem?_take,if_pos hjl] at hz
   rw[List.getElem?_map,hz];rfl) ⟨b,off,none⟩ R.length c (K.ints R) (by rw[K.ints_length];omega) (fun j u hj=>by
   obtain⟨z,hz,rfl⟩:=K.ints_get hj
   rw[L.addr_add];exact hcell j z hz) (by omega) (by unfold maxLen;omega) (by omega)
 have gr1:w.grownBy W1 (some g):=⟨gr0.os,gr0.tape,gr0.output,gr0.size,fun k hk _=>gr0.block k hk (by simp)⟩
 obtain⟨g',cap',cur',rfl,hB',hg',hle,hmax,hsz,htk⟩:∃g' cap' cur',v'= .slice (some ⟨g',0,none⟩) (i+R.length) cap'/\w.heap.size<=g'/\W1.heap[g']?=some (.cells cur' 21 (0,0))/\i+R.length<=cap'/\cap'<=maxLen/\cur'.size=cap'*1/\cur'.toList.take ((i+R.length)*1)=K.ints (T.take i)++K.ints R:=by
  rcases own1.2 with ⟨_,h0⟩ | h
  ·omega
  ·exact h
 have hty:∀ty,(Builtin.append_ #[29,29] ty #[.slice (some ⟨g,0,none⟩) i cur.length,.slice (some ⟨b,off,none⟩) R.length c]).run Tryz.prog w= .ok (.slice (some ⟨g',0,none⟩) (i+R.length) cap') W1:=fun ty=>hrun1
 have HF:Hid (w.heap.size<=g'/\K.OwnT W1 g' cap' (T.take i++R)/\w.grownBy W1 (some g)):=by
  refine⟨hB',⟨cur'.toList,by simpa [K.Row] using hg',by simpa using hsz,by rw[hT'];exact hle,hmax,?_⟩,gr1⟩
  rw[hT',<- Nat.mul_one (i+R.length),htk]
  unfold K.ints
  rw[List.map_append]
 have hs0:=K.slice_mid (some ⟨g,0,none⟩) T.length cur.length i T.length (by omega) hT
 have hs1:=K.slice_upto (some ⟨g,0,none⟩) T.length cur.length i (by omega)
 have hne:¬(i:Int)=T.length:=by omega
 have hlt:¬(i:Int)+R.length<T.length:=by omega
 unfold maxLen at hcap
 clear hc hcell own1 gr1 hg' hsz htk hrun1 h hcur hB'
 go_enter Tryz.func117,Tryz.ntmps117
 go_wp2_with (at_builtin;first | refine Lib.wpList_append_run _ rfl _ _ _ _ rfl _ _ rfl rfl _ _ (hty _) ?_)
 go_ret
 exact⟨g',cap',rfl,HF.out⟩
namespace K
theorem Row.copyR {w:World}{g:Nat}{cur:List Value}(h:Row w g cur)(o dl dc:Nat)(vr:Value)(R:List Int)(hR:L.Rd w vr .i32 R)(hd:R.length<=dl)(hfit:o+R.length<=cur.length) :
  ∃W,(∀ty,(Builtin.copy_ #[29,29] ty #[.slice (some ⟨g,o,none⟩) dl dc,vr]).run Tryz.prog w= .ok (goInt R.length) W)/\Row W g (spl cur o (ints R))/\w.grownBy W (some g):=by
 obtain⟨ao,c,rfl,hn,hc⟩:=hR
 by_cases h0:R= []
 ·subst h0
  exact⟨w,fun ty=>copy_nothing w _ _ _ _ _ ty,by simpa [spl,ints] using h,⟨rfl,rfl,rfl,Nat.le_refl _,fun _ _ _=>rfl⟩⟩
 ·obtain⟨b,off,rfl,hcell⟩:=hc h0
  obtain⟨W,h1,h2,h3⟩:=h.copy o dl dc ⟨b,off,none⟩ R.length c (ints R) (by rw[ints_length,Nat.min_eq_left hd]) (fun j u hj=>by
   obtain⟨z,hz,rfl⟩:=ints_get hj
   rw[L.addr_add];exact hcell j z hz) (by rw[ints_length];exact hfit) (ints_one R)
  exact⟨W,fun ty=>by rw[h1 ty,ints_length],h2,h3⟩
theorem clear0 (w:World)(ao:Option Addr)(c:Nat)(ty:TypeId):(Builtin.clear_ #[29] ty #[.slice ao 0 c]).run Tryz.prog w= .ok (.tuple #[]) w:=by
 obtain⟨i0,hi,hz0,hz1,hz2⟩:=info_parts Tryz.infoI32
 have hv:∀w,(zeroValue 21).run Tryz.prog w= .ok (.int .i32 0) w:=fun w=>by simp[zeroValue,typeInfo,hi,hz0]
 cases ao <;> simp[Builtin.clear_,run_underlying Tryz.underlying29,hv,Builtin.zeroCells,storeCells]
theorem Row.rdBehind {w:World}{g:Nat}{cur:List Value}(h:Row w g cur){T:List Int}{j D c:Nat}(hN:T.length=j+D)(hd:∀k,k<D->cur[j+k]?=(ints T)[j+k]?):L.Rd w (.slice (some ⟨g,j,none⟩) D c) .i32 (T.drop j):=by
 refine⟨some ⟨g,j,none⟩,c,(by rw[List.length_drop,hN];congr 1;omega),(fun e=>by cases e),fun _=>⟨g,j,rfl,fun k z hk=> ?_⟩⟩
 have hlt:k<D:=by
  have:=(List.getElem?_eq_some_iff.1 hk).1
  rw[List.length_drop] at this;omega
 rw[h.cell,hd k hlt]
 rw[List.getElem?_drop] at hk
 unfold ints
 rw[List.getElem?_map,hk];rfl
theorem grown_drew (w:World)(r:Option Nat):w.grownBy w.drew r:=⟨rfl,rfl,rfl,Nat.le_refl _,fun _ _ _=>rfl⟩
end K
set_option maxHeartbeats 8000000 in
theorem repl_in (w:World)(g:Nat)(cur:List Value)(h:K.Row w g cur)(T:List Int)(hT:T.length<=cur.length)(hcap:cur.length<=maxLen)(hcur:cur.take T.length=K.ints T)(h4:T.length<=4000)(i j D:Nat)(hi:i<j)(hN:T.length=j+D)(hD:0<D)(vr:Value)(R:List Int)(hR:∀w',w.grownBy w' (some g)->L.Rd w' vr .i32 R)(hfit:i+R.length<=j) :
  Calls Tryz.prog 117 #[.slice (some ⟨g,0,none⟩) T.length cur.length,.int .i64 (i:Int),.int .i64 (j:Int),vr] w fun e w'=>e= .returned (.slice (some ⟨g,0,none⟩) (i+R.length+D) cur.length)/\K.OwnT w' g cur.length (T.take i++R++T.drop j)/\w.grownBy w' (some g):=by
 have hgetT:∀k,k<T.length->cur[k]?=(K.ints T)[k]?:=fun k hk=>by rw[<- hcur,List.getElem?_take,if_pos hk]
 have gr0:w.grownBy w.drew (some g):=K.grown_drew w _
 obtain⟨W1,hrun1,row1,gr1⟩:=h.drew.copyR i (i+R.length+D - i) (cur.length - i) vr R (hR _ gr0) (by omega) (by omega)
 have hsp1:(K.spl cur i (K.ints R)).length=cur.length:=K.spl_length (by rw[K.ints_length];omega)
 have hRd:L.Rd W1.drew (.slice (some ⟨g,j,none⟩) D (cur.length - j)) .i32 (T.drop j):=row1.drew.rdBehind hN fun k hk=>by
  have e:(K.spl cur i (K.ints R)).drop j=cur.drop j:=K.spl_drop (by omega) (by rw[K.ints_length];omega)
  have e2:=congrArg (fun l:List Value=>l[k]?) e
  simp only[List.getElem?_drop] at e2
  rw[e2]
  exact hgetT _ (by omega)
 obtain⟨W2,hrun2,row2,gr2⟩:=row1.drew.copyR (i+R.length) D (cur.length - (i+R.length)) _ (T.drop j) hRd (by rw[List.length_drop];omega) (by rw[List.length_drop,hsp1];omega)
 have hdl:(T.drop j).length=D:=by rw[List.length_drop];omega
 have hsp2:(K.spl (K.spl cur i (K.ints R)) (i+R.length) (K.ints (T.drop j))).length=cur.length:=by rw[K.spl_length (by rw[K.ints_length,hdl,hsp1];omega)];exact hsp1
 have htk:(K.spl (K.spl cur i (K.ints R)) (i+R.length) (K.ints (T.drop j))).take (i+R.length+D)=K.ints (T.take i++R++T.drop j):=by
  have e1:=K.spl_upto (cur:=K.spl cur i (K.ints R)) (o:=i+R.length) (vs:=K.ints (T.drop j)) (by rw[hsp1];omega)
  have e2:=K.spl_upto (cur:=cur) (o:=i) (vs:=K.ints R) (by omega)
  rw[K.ints_length,hdl] at e1
  rw[K.ints_length] at e2
  rw[e1,e2]
  have h2:cur.take i=(cur.take T.length).take i:=by rw[List.take_take,Nat.min_eq_left (by omega)]
  rw[h2,hcur]
  unfold K.ints
  rw[List.map_append,List.map_append,List.map_take]
 have hT':(T.take i++R++T.drop j).length=i+R.length+D:=by simp;omega
 rw[hdl] at hrun2
 have hs0:=K.slice_mid (some ⟨g,0,none⟩) T.length cur.length i j (by omega) (by omega)
 have hs1:=K.slice_upto (some ⟨g,0,none⟩) T.length cur.length i (by omega)
 have hsj:=K.slice_from (some ⟨g,0,none⟩) T.length cur.length j (by omega) hT
 rw[if_neg (by omega),Option.map_some,L.addr_add,Nat.zero_add,show T.length - j=D by omega] at hsj
 have hstot:=K.slice_upto (some ⟨g,0,none⟩) T.length cur.length (i+R.length+D) (by omega)
 have hri:=K.slice_from (some ⟨g,0,none⟩) (i+R.length+D) cur.length i (by omega) (by omega)
 rw[if_neg (by omega),Option.map_some,L.addr_add,Nat.zero_add] at hri
 have hrim:=K.slice_from (some ⟨g,0,none⟩) (i+R.length+D) cur.length (i+R.length) (by omega) (by omega)
 rw[if_neg (by omega),Option.map_some,L.addr_add,Nat.zero_add,show i+R.length+D - (i+R.length)=D by omega] at hrim
 have gr02:w.grownBy W2 (some g):=S.grown_trans (S.grown_trans gr0 gr1) (S.grown_trans (K.grown_drew _ _) gr2)
 have hne:¬(i:Int)=j:=by omega
 have hne2:¬(j:Int)=T.length:=by omega
 obtain⟨ao,c,rfl,_⟩:=hR w ⟨rfl,rfl,rfl,Nat.le_refl _,fun _ _ _=>rfl⟩
 unfold maxLen at hcap
 have HF0:Hid (K.Row W2 g (K.spl (K.spl cur i (K.ints R)) (i+R.length) (K.ints (T.drop j)))/\(K.spl (K.spl cur i (K.ints R)) (i+R.length) (K.ints (T.drop j))).take (i+R.length+D)=K.ints (T.take i++R++T.drop j)/\w.grownBy W2 (some g)):=⟨row2,htk,gr02⟩
 have hN1:T.length<=j+D:=by omega
 have hN2:j+D<=T.length:=by omega
 clear hgetT row1 gr0 gr1 gr2 gr02 htk h hcur hR hRd hdl hN
 by_cases hlt:i+R.length+D<T.length
 ·obtain⟨W3,hrun3,row3,gr3⟩:=row2.clear (i+R.length+D) (T.length - (i+R.length+D)) (cur.length - (i+R.length+D)) (by omega) (by rw[hsp2];omega)
  have hclr:=K.slice_from (some ⟨g,0,none⟩) T.length cur.length (i+R.length+D) (by omega) hT
  rw[if_neg (by omega),Option.map_some,L.addr_add,Nat.zero_add] at hclr
  have HF:Hid (K.OwnT W3 g cur.length (T.take i++R++T.drop j)/\w.grownBy W3 (some g)):=by
   refine⟨⟨_,row3,by rw[K.spl_length (by rw[hsp2];simp;omega)];exact hsp2,by rw[hT'];omega,by unfold maxLen;omega,?_⟩,S.grown_trans HF0.out.2.2 gr3⟩
   rw[hT',K.spl_take (by rw[hsp2];omega)]
   exact HF0.out.2.1
  clear row2 row3 gr3 hsp1 hsp2 HF0
  go_enter Tryz.func117,Tryz.ntmps117
  go_wp2
  go_region
  go_wp2_with (at_builtin;first | refine K.wpl_copy _ rfl _ _ _ _ rfl _ _ rfl rfl (hrun1 _) ?_)
  clear hrun1
  go_region
  clear hrun2
  go_wp2_with (at_builtin;first | refine K.wpl_clear _ rfl _ _ rfl _ rfl (hrun3 _) ?_)
  go_ret
  exact⟨rfl,HF.out⟩
 ·have hfull:i+R.length+D=T.length:=by omega
  have HF:Hid (K.OwnT W2 g cur.length (T.take i++R++T.drop j)/\w.grownBy W2 (some g)):=⟨⟨_,row2,hsp2,by rw[hT'];omega,by unfold maxLen;omega,by rw[hT'];exact HF0.out.2.1⟩,HF0.out.2.2⟩
  have hrun3:=K.clear0 W2
  have hf1:T.length<=i+R.length+D:=by omega
  have hf2:i+R.length+D<=T.length:=by omega
  clear row2 hsp1 hsp2 HF0 hfull hlt
  go_enter Tryz.func117,Tryz.ntmps117
  go_wp2
  go_region
  go_wp2_with (at_builtin;first | refine K.wpl_copy _ rfl _ _ _ _ rfl _ _ rfl rfl (hrun1 _) ?_)
  clear hrun1
  go_region
  clear hrun2
  go_wp2_with (at_builtin;first | refine K.wpl_clear _ rfl _ _ rfl _ rfl (hrun3 _ _ _) ?_)
  all_goals
   go_ret
   have hh:=HF.out
   first
    | exact⟨rfl,hh⟩
    | (simp only[List.append_assoc] at hh;exact⟨rfl,hh⟩)
    | (simp only[List.append_assoc] at hh;rw[show cur.length=i+R.length+D by assumption] at hh;exact⟨rfl,hh⟩)
end Go.Proofs.YtmcljejgbikbhaaGreatDoor
