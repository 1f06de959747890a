import Derived.Test.YthnmmmkeamcfkaaGreatDoorQRepl
import Derived.Laws.Externs
set_option maxHeartbeats 0
set_option maxRecDepth 20000
set_option linter.unusedSimpArgs false
set_option linter.unusedVariables false
namespace Go.Proofs.YthnmmmkeamcfkaaGreatDoor
open Go.Proofs.Tryz
section
open Go.RowKit Go.Lib
namespace K
theorem Row.copyR {w:World}{g:Nat}{cur:List Value}(h:Row w g cur)(o dl dc:Nat)(vr:Value)(R:List Int)(hR:L.Rd w vr .i32 R)(hd:R.length<=dl)(hfit:o+R.length<=cur.length) :
  ∃W,(∀ty,(Builtin.copy_ #[33,33] ty #[.slice (some ⟨g,o,none⟩) dl dc,vr]).run prog w= .ok (goInt R.length) W)/\Row W g (spl cur o (ints R))/\w.grownBy W (some g):=by
 obtain⟨ao,c,rfl,hn,hc⟩:=hR
 by_cases h0:R= []
 ·subst h0;exact⟨w,fun ty=>zi0 w _ _ _ _ _ ty,by simpa [spl,ints] using h,⟨rfl,rfl,rfl,qN,fun _ _ _=>rfl⟩⟩
 ·obtain⟨b,off,rfl,hcell⟩:=hc h0
  obtain⟨W,h1,h2,h3⟩:=h.copy o dl dc ⟨b,off,none⟩ R.length c (ints R) (by rw[zam,Nat.min_eq_left hd]) (fun j u hj=>by
   obtain⟨z,hz,rfl⟩:=zc2 hj
   rw[L.addr_add];exact hcell j z hz) (by rw[zam];exact hfit) (zd2 R)
  exact⟨W,fun ty=>by rw[h1 ty,zam],h2,h3⟩
theorem clear0 (w:World)(ao:Option Addr)(c:Nat)(ty:TypeId):(Builtin.clear_ #[33] ty #[.slice ao 0 c]).run prog w= .ok (.tuple #[]) w:=by
 obtain⟨i0,hi,hz0,hz1,hz2⟩:=info_parts Tryz.infoI32;have hv:∀w,(zeroValue 21).run prog w= .ok (.int .i32 0) w:=fun w=>by simp[zeroValue,typeInfo,hi,hz0]
 cases ao <;> simp[Builtin.clear_,run_underlying underlying33,hv,Builtin.zeroCells,storeCells]
theorem Row.rdBehind {w:World}{g:Nat}{cur:List Value}(h:Row w g cur){T:List Int}{j D c:Nat}(hN:T.length=j+D)(hd:∀k,k<D->cur[j+k]?=(ints T)[j+k]?):L.Rd w (.slice (some ⟨g,j,none⟩) D c) .i32 (T.drop j):=by
 refine⟨some ⟨g,j,none⟩,c,(by rw[List.length_drop,hN];congr 1;omega),(fun e=>by cases e),fun _=>⟨g,j,rfl,fun k z hk=> ?_⟩⟩
 have hlt:k<D:=by
  have:=(qL.1 hk).1;rw[List.length_drop] at this;omega
 rw[h.cell,hd k hlt];rw[List.getElem?_drop] at hk;unfold ints;rw[List.getElem?_map,hk];rfl
theorem zb0 (w:World)(r:Option Nat):w.grownBy w.drew r:=⟨rfl,rfl,rfl,qN,fun _ _ _=>rfl⟩
end K
theorem zt1 (w:World)(g:Nat)(cur:List Value)(h:K.Row w g cur)(T:List Int)(hT:T.length<=cur.length)(hcap:cur.length<=maxLen)(hcur:cur.take T.length=K.ints T)(h4:T.length<=4000)(i j D:Nat)(hi:i<j)(hN:T.length=j+D)(hD:0<D)(vr:Value)(R:List Int)(hR:∀w',w.grownBy w' (some g)->L.Rd w' vr .i32 R)(hfit:i+R.length<=j) :
  Calls prog 143 #[.slice (some ⟨g,0,none⟩) T.length cur.length,.int .i64 (i:Int),.int .i64 (j:Int),vr] w fun e w'=>e= .returned (.slice (some ⟨g,0,none⟩) (i+R.length+D) cur.length)/\K.OwnT w' g cur.length (T.take i++R++T.drop j)/\w.grownBy w' (some g):=by
 have hgetT:∀k,k<T.length->cur[k]?=(K.ints T)[k]?:=fun k hk=>by rw[<- hcur,List.getElem?_take,if_pos hk]
 have gr0:w.grownBy w.drew (some g):=K.zb0 w _;obtain⟨W1,hrun1,row1,gr1⟩:=h.drew.copyR i (i+R.length+D - i) (cur.length - i) vr R (hR _ gr0) (by omega) (by omega);have hsp1:(K.spl cur i (K.ints R)).length=cur.length:=K.za9 (by rw[K.zam];omega)
 have hRd:L.Rd W1.drew (.slice (some ⟨g,j,none⟩) D (cur.length - j)) .i32 (T.drop j):=row1.drew.rdBehind hN fun k hk=>by
  have e:(K.spl cur i (K.ints R)).drop j=cur.drop j:=K.zrh (by omega) (by rw[K.zam];omega);have e2:=congrArg (fun l:List Value=>l[k]?) e;simp only[List.getElem?_drop] at e2;rw[e2];exact hgetT _ (by omega)
 obtain⟨W2,hrun2,row2,gr2⟩:=row1.drew.copyR (i+R.length) D (cur.length - (i+R.length)) _ (T.drop j) hRd (by rw[List.length_drop];omega) (by rw[List.length_drop,hsp1];omega);have hdl:(T.drop j).length=D:=by rw[List.length_drop];omega
 have hsp2:(K.spl (K.spl cur i (K.ints R)) (i+R.length) (K.ints (T.drop j))).length=cur.length:=by rw[K.za9 (by rw[K.zam,hdl,hsp1];omega)];exact hsp1
 have htk:(K.spl (K.spl cur i (K.ints R)) (i+R.length) (K.ints (T.drop j))).take (i+R.length+D)=K.ints (T.take i++R++T.drop j):=by
  have e1:=K.zdp (cur:=K.spl cur i (K.ints R)) (o:=i+R.length) (vs:=K.ints (T.drop j)) (by rw[hsp1];omega);have e2:=K.zdp (cur:=cur) (o:=i) (vs:=K.ints R) (by omega);rw[K.zam,hdl] at e1;rw[K.zam] at e2;rw[e1,e2];have h2:cur.take i=(cur.take T.length).take i:=by rw[List.take_take,Nat.min_eq_left (by omega)]
  rw[h2,hcur];unfold K.ints;rw[List.map_append,List.map_append,List.map_take]
 have hT':(T.take i++R++T.drop j).length=i+R.length+D:=by simp;omega
 rw[hdl] at hrun2;have hs0:=K.zb1 (some ⟨g,0,none⟩) T.length cur.length i j (by omega) (by omega);have hs1:=K.za5 (some ⟨g,0,none⟩) T.length cur.length i (by omega);have hsj:=K.zau (some ⟨g,0,none⟩) T.length cur.length j (by omega) hT;rw[if_neg (by omega),Option.map_some,L.addr_add,Nat.zero_add,show T.length - j=D by omega] at hsj;have hstot:=K.za5 (some ⟨g,0,none⟩) T.length cur.length (i+R.length+D) (by omega);have hri:=K.zau (some ⟨g,0,none⟩) (i+R.length+D) cur.length i (by omega) (by omega);rw[if_neg (by omega),Option.map_some,L.addr_add,Nat.zero_add] at hri;have hrim:=K.zau (some ⟨g,0,none⟩) (i+R.length+D) cur.length (i+R.length) (by omega) (by omega);rw[if_neg (by omega),Option.map_some,L.addr_add,Nat.zero_add,show i+R.length+D - (i+R.length)=D by omega] at hrim;have gr02:=S.zaa (S.zaa gr0 gr1) (S.zaa (K.zb0 _ _) gr2);have hne:¬(i:Int)=j:=by omega
 have hne2:¬(j:Int)=T.length:=by omega
 obtain⟨ao,c,rfl,_⟩:=hR w ⟨rfl,rfl,rfl,qN,fun _ _ _=>rfl⟩;unfold maxLen at hcap;have HF0:Hid (K.Row W2 g (K.spl (K.spl cur i (K.ints R)) (i+R.length) (K.ints (T.drop j)))/\(K.spl (K.spl cur i (K.ints R)) (i+R.length) (K.ints (T.drop j))).take (i+R.length+D)=K.ints (T.take i++R++T.drop j)/\w.grownBy W2 (some g)):=⟨row2,htk,gr02⟩;have hN1:T.length<=j+D:=by omega
 have hN2:j+D<=T.length:=by omega
 clear hgetT row1 gr0 gr1 gr2 gr02 htk h hcur hR hRd hdl hN
 by_cases hlt:i+R.length+D<T.length
 ·obtain⟨W3,hrun3,row3,gr3⟩:=row2.clear (i+R.length+D) (T.length - (i+R.length+D)) (cur.length - (i+R.length+D)) (by omega) (by rw[hsp2];omega);have hclr:=K.zau (some ⟨g,0,none⟩) T.length cur.length (i+R.length+D) (by omega) hT;rw[if_neg (by omega),Option.map_some,L.addr_add,Nat.zero_add] at hclr
  have HF:Hid (K.OwnT W3 g cur.length (T.take i++R++T.drop j)/\w.grownBy W3 (some g)):=by
   refine⟨⟨_,row3,by rw[K.za9 (by rw[hsp2];simp;omega)];exact hsp2,by rw[hT'];omega,by unfold maxLen;omega,?_⟩,S.zaa HF0.out.2.2 gr3⟩;rw[hT',K.zg2 (by rw[hsp2];omega)];exact HF0.out.2.1
  clear row2 row3 gr3 hsp1 hsp2 HF0
  go_enter func143,ntmps143
  go_wp2
  go_region
  go_wp2_with (at_builtin;first | refine K.zet _ rfl _ _ _ _ rfl _ _ rfl rfl (hrun1 _) ?_)
  clear hrun1
  go_region
  clear hrun2
  go_wp2_with (at_builtin;first | refine K.zex _ rfl _ _ rfl _ rfl (hrun3 _) ?_)
  go_ret;exact⟨rfl,HF.out⟩
 ·have hfull:i+R.length+D=T.length:=by omega
  have HF:Hid (K.OwnT W2 g cur.length (T.take i++R++T.drop j)/\w.grownBy W2 (some g)):=⟨⟨_,row2,hsp2,by rw[hT'];omega,by unfold maxLen;omega,by rw[hT'];exact HF0.out.2.1⟩,HF0.out.2.2⟩;have hrun3:=K.clear0 W2;have hf1:T.length<=i+R.length+D:=by omega
  have hf2:i+R.length+D<=T.length:=by omega
  clear row2 hsp1 hsp2 HF0 hfull hlt
  go_enter func143,ntmps143
  go_wp2
  go_region
  go_wp2_with (at_builtin;first | refine K.zet _ rfl _ _ _ _ rfl _ _ rfl rfl (hrun1 _) ?_)
  clear hrun1
  go_region
  clear hrun2
  go_wp2_with (at_builtin;first | refine K.zex _ rfl _ _ rfl _ rfl (hrun3 _ _ _) ?_)
  all_goals
   go_ret;have hh:=HF.out
   first
    | exact⟨rfl,hh⟩
    | (simp only[List.append_assoc] at hh;exact⟨rfl,hh⟩)
    | (simp only[List.append_assoc] at hh;rw[show cur.length=i+R.length+D by assumption] at hh;exact⟨rfl,hh⟩)
end
section
open Go.RowKit Go.Lib
namespace K
theorem zrg {cur:List Value}{o:Nat}{vs:List Value}(h:o<=cur.length):(spl cur o vs).drop o=vs++cur.drop (o+vs.length):=by
 unfold spl;have e:(cur.take o).length=o:=by simp;omega
 rw[List.append_assoc,List.drop_append,e,Nat.sub_self,List.drop_zero,List.drop_eq_nil_of_le (by omega),List.nil_append]
theorem ztn {cur:List Value}{i m:Nat}{A R:List Value}(hR:R.length=m)(h:i+m<=cur.length):(spl (spl cur (i+m) A) i R).take (i+m+A.length)=cur.take i++R++A:=by
 have e1:(spl cur (i+m) A).take i=cur.take i:=zjm h (by omega);have e2:(spl cur (i+m) A).drop (i+m)=A++cur.drop (i+m+A.length):=zrg h;show ((spl cur (i+m) A).take i++R++(spl cur (i+m) A).drop (i+R.length)).take (i+m+A.length)=_;rw[hR,e1,e2,<- List.append_assoc];have e3:(cur.take i++R++A).length=i+m+A.length:=by simp;omega
 rw[<- e3,List.take_left]
theorem zg5 {w:World}{b o:Nat}{v:Value}(h:w.cell? ⟨b,o,none⟩=some v):∃t k,w.shape? b=some (t,k)/\k≠0:=by
 unfold World.cell? at h;unfold World.shape?;cases hb:w.heap[b]? with
 | none=>rw[show w.heap[(⟨b,o,none⟩:Addr).block]?=none from hb] at h;cases h
 | some x =>
  rw[show w.heap[(⟨b,o,none⟩:Addr).block]?=some x from hb] at h;cases x with
  | cells c t f =>
   refine⟨t,c.size,rfl,fun h0=> ?_⟩;have h1:c[o]?=some v:=by simpa using h
   have:=(qA.1 h1).1;omega
  | _=>cases h
end K
theorem zo5 (w:World)(g:Nat)(cur:List Value)(h:K.Row w g cur)(T:List Int)(hT:T.length<=cur.length)(hcap:cur.length<=maxLen)(hcur:cur.take T.length=K.ints T)(h4:T.length<=4000)(i j D:Nat)(hi:i<j)(hN:T.length=j+D)(hD:0<D)(vr:Value)(R:List Int)(hR:∀w',w.grownBy w' (some g)->L.Rd w' vr .i32 R)(hne0:vr.ownBlock≠some g)(hwide:j<i+R.length)(hfit:i+R.length+D<=cur.length)(hm:R.length<=20) :
  Calls prog 143 #[.slice (some ⟨g,0,none⟩) T.length cur.length,.int .i64 (i:Int),.int .i64 (j:Int),vr] w fun e w'=>e= .returned (.slice (some ⟨g,0,none⟩) (i+R.length+D) cur.length)/\K.OwnT w' g cur.length (T.take i++R++T.drop j)/\w.grownBy w' (some g):=by
 have hgetT:∀k,k<T.length->cur[k]?=(K.ints T)[k]?:=fun k hk=>by rw[<- hcur,List.getElem?_take,if_pos hk]
 have gr0:w.grownBy w.drew.drew (some g):=S.zaa (K.zb0 w _) (K.zb0 _ _);have hdl:(T.drop j).length=D:=by rw[List.length_drop];omega
 obtain⟨W1,hrun1,row1,gr1⟩:=h.drew.drew.copyR (i+R.length) D (cur.length - (i+R.length)) (.slice (some ⟨g,j,none⟩) D (cur.length - j)) (T.drop j) (h.drew.drew.rdBehind hN fun k hk=>hgetT _ (by omega)) (by rw[hdl];omega) (by rw[hdl];omega);have hsp1:(K.spl cur (i+R.length) (K.ints (T.drop j))).length=cur.length:=K.za9 (by rw[K.zam,hdl];omega);have gr01:=S.zaa gr0 gr1;obtain⟨W2,hrun2,row2,gr2⟩:=row1.copyR i (i+R.length+D - i) (cur.length - i) vr R (hR _ gr01) (by omega) (by rw[hsp1];omega);have htk:=K.ztn (cur:=cur) (i:=i) (m:=R.length) (A:=K.ints (T.drop j)) (R:=K.ints R) (K.zam R) (by omega);rw[K.zam,hdl] at htk;rw[hdl] at hrun1;have hT':(T.take i++R++T.drop j).length=i+R.length+D:=by simp;omega
 have HF:Hid (K.OwnT W2 g cur.length (T.take i++R++T.drop j)/\w.grownBy W2 (some g)):=by
  refine⟨⟨_,row2,by rw[K.za9 (by rw[K.zam,hsp1];omega)];exact hsp1,by rw[hT'];omega,hcap,?_⟩,S.zaa gr01 gr2⟩;rw[hT',htk];have h2:cur.take i=(cur.take T.length).take i:=by rw[List.take_take,Nat.min_eq_left (by omega)]
  rw[h2,hcur];unfold K.ints;rw[List.map_append,List.map_append,List.map_take]
 obtain⟨ao,c,rfl,_,hc⟩:=hR w.drew (K.zb0 _ _);obtain⟨b,off,rfl,hcell⟩:=hc (by intro h;subst h;simp at hwide;omega);have hbg:g≠b:=fun e=>hne0 (by rw[e];rfl)
 obtain⟨z,hz⟩:∃z,R[0]?=some z:=⟨R[0]'(by omega),by simp[show 0<R.length by omega]⟩;obtain⟨tB,kB,hsb,hkB⟩:=K.zg5 (hcell 0 z hz)
 have hsa:w.drew.shape? g=some (21,cur.length):=by
  have e:w.drew.heap[g]?=some (.cells cur.toArray 21 (0,0)):=h;unfold World.shape?;rw[e];simp
 obtain⟨i0,hi0,hz0,hz1,hz2⟩:=info_parts Tryz.infoI32
 have hov:(callFunc 182 #[.slice (some ⟨g,i+R.length,none⟩) D (cur.length - (i+R.length)),.slice (some ⟨b,off,none⟩) R.length c]).run prog w.drew= .ok (.value (.bool false)) w.drew:=by
  rw[run_callFunc_extern func182 (by kernel_rfl) (by kernel_rfl) (by kernel_rfl) (e:=Extern.SlicesOverlaps.overlaps #[33,33] #[4]) (by kernel_rfl),
   Lib.run_overlaps_apart w.drew 33 4 21 underlying33 1 (fun w=>by simp[sizeOf,typeInfo,hi0,hz1]) ⟨g,i+R.length,none⟩ ⟨b,off,none⟩ D (cur.length - (i+R.length)) R.length c hbg 21 tB cur.length kB hsa hsb hkB (h.drew.free _) (h.drew.free _)]
  rfl
 have hs0:=K.zb1 (some ⟨g,0,none⟩) T.length cur.length i j (by omega) (by omega);have hs1:=K.za5 (some ⟨g,0,none⟩) T.length cur.length i (by omega);have hsj:=K.zau (some ⟨g,0,none⟩) T.length cur.length j (by omega) hT;rw[if_neg (by omega),Option.map_some,L.addr_add,Nat.zero_add,show T.length - j=D by omega] at hsj;have hstot:=K.za5 (some ⟨g,0,none⟩) T.length cur.length (i+R.length+D) (by omega);have hri:=K.zau (some ⟨g,0,none⟩) (i+R.length+D) cur.length i (by omega) (by omega);rw[if_neg (by omega),Option.map_some,L.addr_add,Nat.zero_add] at hri;have hrim:=K.zau (some ⟨g,0,none⟩) (i+R.length+D) cur.length (i+R.length) (by omega) (by omega);rw[if_neg (by omega),Option.map_some,L.addr_add,Nat.zero_add,show i+R.length+D - (i+R.length)=D by omega] at hrim;have hne:¬(i:Int)=j:=by omega
 have hne2:¬(j:Int)=T.length:=by omega
 unfold maxLen at hcap;have hN1:T.length<=j+D:=by omega
 have hN2:j+D<=T.length:=by omega
 clear hgetT row1 row2 gr0 gr1 gr01 gr2 htk h hcur hR hdl hN hsp1 hc hcell hsa hsb hz hT'
 go_enter func143,ntmps143
 go_wp2
 go_region
 go_wp2
 go_region
 clear hrun1 hov
 go_wp2_with (at_builtin;first | refine K.zet _ rfl _ _ _ _ rfl _ _ rfl rfl (hrun2 _) ?_)
 go_ret;exact⟨rfl,HF.out⟩
namespace K
theorem zna (w:World)(g:Nat)(cur:List Value)(h:Row w g cur)(i k:Nat)(hi:i<=cur.length)(hk:0<k)(hg:cur.length<i+k)(hl:i+k<=8000) :
  ∃cap' cur' W,(∀ty,(Builtin.append_ #[33,3] ty #[.slice (some ⟨g,0,none⟩) i cur.length,.int .i64 (k:Int)]).run prog w= .ok (.slice (some ⟨w.heap.size,0,none⟩) (i+k) cap') W)/\Row W w.heap.size cur'/\cur'.length=cap'/\cur'.take i=cur.take i/\i+k<=cap'/\cap'<=maxLen/\w.grownBy W none:=by
 obtain⟨i0,hi0,hz0,hz1,hz2⟩:=info_parts Tryz.infoI32;have hG:=grownCap_ge w (i+k) cur.length 21;have hG63:=grownCap_le_maxLen w (i+k) cur.length 21 (by unfold maxLen;omega)
 have hold:(Builtin.firstCells i0.size i (.slice (some ⟨g,0,none⟩) i cur.length)).run prog w.drew= .ok (cur.take i).toArray w.drew:=by
  rw[hz1];refine run_firstCells_some w.drew 1 i ⟨g,0,none⟩ i cur.length (cur.take i) (by simp;omega) fun j u hj=> ?_
  rw[L.addr_add,Nat.zero_add];have:=h.drew.cell j;rw[this];rw[List.getElem?_take] at hj;split at hj
  ·exact hj
  ·cases hj
 refine⟨_,(cur.take i++List.replicate k (.int .i32 0)++List.replicate (grownCap w (i+k) cur.length 21 - (i+k)) (.int .i32 0)),_,fun ty=>Lib.run_append_grow_zeros w 33 3 ty 21 i0 (.int .i32 0) .i64 .i64 underlying33 underlying3 hi0 hz0 (some ⟨g,0,none⟩) i cur.length (cur.take i) hold k hk (by omega) hg (by omega) (by rw[hz2];omega) (by rw[hz2];exact growslice_fits (by omega) (by omega)),?_,?_,?_,hG,hG63,?_⟩
 ·unfold Row;have:=heap_alloc_new w.drew (.cells ((cur.take i).toArray++Builtin.zeroCells (Value.int .i32 0).cells k++Builtin.zeroCells (Value.int .i32 0).cells (grownCap w (i+k) cur.length 21 - (i+k))) 21);rw[show w.heap.size=w.drew.heap.size from rfl,this]
  have hzc:∀n,(Builtin.zeroCells (Value.int .i32 0).cells n)=(List.replicate n (.int .i32 0)).toArray:=fun n=>by
   apply Array.ext
   ·simp[Builtin.zeroCells,Value.cells]
   ·intro j h1 h2;simp[Builtin.zeroCells,Value.cells,Nat.mod_one]
  rw[hzc,hzc];simp
 ·simp;omega
 ·rw[List.append_assoc,List.take_append_of_le_length (by simp;omega),List.take_take,Nat.min_self]
 ·exact⟨rfl,rfl,rfl,by simp,fun k hk _=>Below.heap_alloc w.drew _ k hk⟩
end K
end
section
open Go.RowKit Go.Lib
theorem zo6 (w:World)(B g:Nat)(hBg:B<=g)(cur:List Value)(h:K.Row w g cur)(T:List Int)(hT:T.length<=cur.length)(hcap:cur.length<=maxLen)(hcur:cur.take T.length=K.ints T)(h4:T.length<=4000)(i j D:Nat)(hi:i<j)(hN:T.length=j+D)(hD:0<D)(vr:Value)(R:List Int)(hR:∀w',w.grownBy w' (some g)->L.Rd w' vr .i32 R)(hR2:∀w',w.grownBy w' (some w.heap.size)->L.Rd w' vr .i32 R)(hfit:cur.length<i+R.length+D)(hm:R.length<=20) :
  Calls prog 143 #[.slice (some ⟨g,0,none⟩) T.length cur.length,.int .i64 (i:Int),.int .i64 (j:Int),vr] w fun e w'=>∃g' cap',e= .returned (.slice (some ⟨g',0,none⟩) (i+R.length+D) cap')/\w.heap.size<=g'/\K.OwnT w' g' cap' (T.take i++R++T.drop j)/\w.grownBy w' (some g):=by
 have hgetT:∀k,k<T.length->cur[k]?=(K.ints T)[k]?:=fun k hk=>by rw[<- hcur,List.getElem?_take,if_pos hk]
 have hdl:(T.drop j).length=D:=by rw[List.length_drop];omega
 obtain⟨cap',cur',W0,hrun0,row0,hl0,hp0,hle0,hmax0,gr0⟩:=K.zna w.drew g cur h.drew i (R.length+D) (by omega) (by omega) (by omega) (by omega);have row0:K.Row W0 w.heap.size cur':=row0;have hbl:∀X,w.grownBy X (some w.heap.size)->∀Y,X.grownBy Y (some w.heap.size)->w.grownBy Y (some w.heap.size):=fun X h1 Y h2=>S.zaa h1 h2
 have gw0:w.grownBy W0 (some w.heap.size):=⟨gr0.os,gr0.tape,gr0.output,gr0.size,fun k hk hne=>gr0.block k hk (by simp)⟩;obtain⟨W1,hrun1,row1,gr1⟩:=row0.copyR i (i+R.length+D - i) (cap' - i) vr R (hR2 _ gw0) (by omega) (by omega);have hsp1:(K.spl cur' i (K.ints R)).length=cap':=by rw[K.za9 (by rw[K.zam];omega)];exact hl0
 have gw1:=S.zaa gw0 gr1;have hRow:K.Row W1.drew g cur:=h.block (gw1.block g h.lt (by have:=h.lt;simp;omega));obtain⟨W2,hrun2,row2,gr2⟩:=row1.drew.copyR (i+R.length) D (cap' - (i+R.length)) (.slice (some ⟨g,j,none⟩) D (cur.length - j)) (T.drop j) (hRow.rdBehind hN fun k hk=>hgetT _ (by omega)) (by rw[hdl];omega) (by rw[hdl,hsp1];omega);have gw2:=S.zaa gw1 (S.zaa (K.zb0 _ _) gr2);have hsp2:(K.spl (K.spl cur' i (K.ints R)) (i+R.length) (K.ints (T.drop j))).length=cap':=by rw[K.za9 (by rw[K.zam,hdl,hsp1];omega)];exact hsp1
 have htk:(K.spl (K.spl cur' i (K.ints R)) (i+R.length) (K.ints (T.drop j))).take (i+R.length+D)=K.ints (T.take i++R++T.drop j):=by
  have e1:=K.zdp (cur:=K.spl cur' i (K.ints R)) (o:=i+R.length) (vs:=K.ints (T.drop j)) (by rw[hsp1];omega);have e2:=K.zdp (cur:=cur') (o:=i) (vs:=K.ints R) (by omega);rw[K.zam,hdl] at e1;rw[K.zam] at e2;rw[e1,e2,hp0];have h2:cur.take i=(cur.take T.length).take i:=by rw[List.take_take,Nat.min_eq_left (by omega)]
  rw[h2,hcur];unfold K.ints;rw[List.map_append,List.map_append,List.map_take]
 have hT':(T.take i++R++T.drop j).length=i+R.length+D:=by simp;omega
 rw[hdl] at hrun2
 have HF:Hid (w.heap.size<=w.heap.size/\K.OwnT W2 w.heap.size cap' (T.take i++R++T.drop j)/\w.grownBy W2 (some g)):=by
  refine⟨qN,⟨_,row2,hsp2,by rw[hT'];omega,hmax0,by rw[hT'];exact htk⟩,gw2.os,gw2.tape,gw2.output,gw2.size,fun k hk _=>gw2.block k hk (by simp;omega)⟩
 have hs0:=K.zb1 (some ⟨g,0,none⟩) T.length cur.length i j (by omega) (by omega);have hs1:=K.za5 (some ⟨g,0,none⟩) T.length cur.length i (by omega);have hsj:=K.zau (some ⟨g,0,none⟩) T.length cur.length j (by omega) hT;rw[if_neg (by omega),Option.map_some,L.addr_add,Nat.zero_add,show T.length - j=D by omega] at hsj;have hri:=K.zau (some ⟨w.heap.size,0,none⟩) (i+R.length+D) cap' i (by omega) (by omega);rw[if_neg (by omega),Option.map_some,L.addr_add,Nat.zero_add] at hri;have hrim:=K.zau (some ⟨w.heap.size,0,none⟩) (i+R.length+D) cap' (i+R.length) (by omega) (by omega);rw[if_neg (by omega),Option.map_some,L.addr_add,Nat.zero_add,show i+R.length+D - (i+R.length)=D by omega] at hrim;have hne:¬(i:Int)=j:=by omega
 have hne2:¬(j:Int)=T.length:=by omega
 obtain⟨ao,c,rfl,_⟩:=hR w ⟨rfl,rfl,rfl,qN,fun _ _ _=>rfl⟩;unfold maxLen at hcap hmax0;have hN1:T.length<=j+D:=by omega
 have hN2:j+D<=T.length:=by omega
 clear hgetT row0 row1 row2 gr0 gw0 gr1 gw1 gr2 gw2 htk h hcur hR hR2 hdl hN hsp1 hsp2 hT' hRow hbl hp0 hl0;rw[show w.drew.heap.size=w.heap.size from rfl] at hrun0
 have HX:Hid ((Builtin.append_ #[33,3] 33 #[.slice (some ⟨g,0,none⟩) i cur.length,.int .i64 ((i:Int)+R.length+D - i)]).run prog w.drew= .ok (.slice (some ⟨w.heap.size,0,none⟩) (i+R.length+D) cap') W0):=by
  have:=hrun0 33;rw[show (i:Int)+R.length+D - i=((R.length+D:Nat):Int) by omega,Nat.add_assoc];exact this
 go_enter func143,ntmps143
 go_wp2
 go_region
 go_wp2_with (at_builtin;first | refine Lib.wpList_append_run _ rfl _ _ _ _ rfl _ _ rfl rfl _ _ HX.out ?_ | refine K.zet _ rfl _ _ _ _ rfl _ _ rfl rfl (hrun1 _) ?_)
 clear hrun1 HX hrun0
 go_region
 clear hrun2;go_wp2;go_ret;exact⟨_,_,rfl,HF.out⟩
end
section
open Go.RowKit Go.Lib
theorem zo9 (w:World)(B g:Nat)(hBg:B<=g)(cap:Nat)(T:List Int)(hO:K.OwnT w g cap T)(h4:T.length<=4000)(i s:Nat)(hs:0<s)(his:i+s<=T.length)(vr:Value)(R:List Int)(hR:∀w',(∀b,b<B->w'.heap[b]?=w.heap[b]?)->L.Rd w' vr .i32 R)(hvb:R≠ []->vr.ownBlock≠some g)(hm:R.length<=20) :
  Calls prog 143 #[.slice (some ⟨g,0,none⟩) T.length cap,.int .i64 (i:Int),.int .i64 ((i+s:Nat):Int),vr] w fun e w'=>∃g' cap',e= .returned (.slice (some ⟨g',0,none⟩) (T.take i++R++T.drop (i+s)).length cap')/\B<=g'/\K.OwnT w' g' cap' (T.take i++R++T.drop (i+s))/\w.grownBy w' (some g)/\(g'=g∨w.heap.size<=g'):=by
 obtain⟨cur,row,hcl,hfit,hmax,hcur⟩:=hO;subst hcl;have hlt:=row.lt;have hRg:∀w',w.grownBy w' (some g)->L.Rd w' vr .i32 R:=fun w' h=>hR w' fun b hb=>h.block b (by omega) (by simp;omega)
 have hRn:∀w',w.grownBy w' (some w.heap.size)->L.Rd w' vr .i32 R:=fun w' h=>hR w' fun b hb=>h.block b (by omega) (by simp;omega)
 obtain⟨j,hj⟩:∃j,j=i+s:=⟨_,rfl⟩;rw[<- hj]
 by_cases hend:j=T.length
 ·have hd:T.drop j= []:=List.drop_eq_nil_of_le (by omega);have hl:(T.take i++R++T.drop j).length=i+R.length:=by rw[hd];simp;omega
  rw[hl,hd,List.append_nil,hend]
  by_cases hf:i+R.length<=cur.length
  ·exact(zrr w g cur row T hfit hmax hcur h4 i (by omega) vr R (hRg w ⟨rfl,rfl,rfl,qN,fun _ _ _=>rfl⟩) hm hf).mono fun e w' ⟨h1,h2,h3⟩=>⟨g,cur.length,h1,hBg,h2,h3,.inl rfl⟩
  ·exact(zo7 w B g hBg cur row T hfit hmax hcur h4 i (by omega) vr R (hRg w ⟨rfl,rfl,rfl,qN,fun _ _ _=>rfl⟩) hm (by omega)).mono fun e w' ⟨g',c',h1,h2,h3,h4⟩=>⟨g',c',h1,by omega,h3,h4,.inr h2⟩
 ·obtain⟨D,hD⟩:∃D,T.length=j+D:=⟨T.length - j,by omega⟩;have hl:(T.take i++R++T.drop j).length=i+R.length+D:=by simp;omega
  rw[hl]
  by_cases hf:i+R.length+D<=cur.length
  ·by_cases hw:i+R.length<=j
   ·exact(zt1 w g cur row T hfit hmax hcur h4 i j D (by omega) hD (by omega) vr R hRg hw).mono fun e w' ⟨h1,h2,h3⟩=>⟨g,cur.length,h1,hBg,h2,h3,.inl rfl⟩
   ·exact(zo5 w g cur row T hfit hmax hcur h4 i j D (by omega) hD (by omega) vr R hRg (hvb (by intro h;subst h;simp at hw;omega)) (by omega) hf hm).mono fun e w' ⟨h1,h2,h3⟩=>⟨g,cur.length,h1,hBg,h2,h3,.inl rfl⟩
  ·exact(zo6 w B g hBg cur row T hfit hmax hcur h4 i j D (by omega) hD (by omega) vr R hRg hRn (by omega) hm).mono fun e w' ⟨g',c',h1,h2,h3,h4⟩=>⟨g',c',h1,by omega,h3,h4,.inr h2⟩
theorem zrs (w:World)(B g:Nat)(hBg:B<=g)(cap:Nat)(T:List Int)(hO:K.OwnT w g cap T)(h4:T.length<=4000)(i s:Nat)(hs:0<s)(his:i+s<=T.length)(vr:Value)(R:List Int)(hR:∀w',(∀b,b<B->w'.heap[b]?=w.heap[b]?)->L.Rd w' vr .i32 R)(hvb:R≠ []->vr.ownBlock≠some g)(hm:R.length<=20) :
  Calls prog 143 #[.slice (some ⟨g,0,none⟩) T.length cap,.int .i64 (i:Int),.int .i64 ((i+s:Nat):Int),vr] w fun e w'=>∃g' cap',e= .returned (.slice (some ⟨g',0,none⟩) (T.take i++R++T.drop (i+s)).length cap')/\B<=g'/\K.OwnT w' g' cap' (T.take i++R++T.drop (i+s))/\w.grownBy w' (some g) :=
 (zo9 w B g hBg cap T hO h4 i s hs his vr R hR hvb hm).mono fun e w' ⟨g',c',h1,h2,h3,h5,_⟩=>⟨g',c',h1,h2,h3,h5⟩
namespace K
def St (B bs:Nat) (w:World) (g cap:Nat) (T:List Int) (k:Int):Prop :=
 B<=bs/\w.heap[bs]?=some (.cells #[.slice (some ⟨g,0,none⟩) T.length cap,.int .i64 k] 89)/\B<=g/\OwnT w g cap T
end K
theorem zrx (w:World)(B bs g cap:Nat)(T:List Int)(k:Nat)(hS:K.St B bs w g cap T k)(h4:T.length<=4000)(v:Value)(r:K.Rule)(R0:∀w',(∀b,b<B->w'.heap[b]?=w.heap[b]?)->K.RuIs w' v r)(hE:K.ruleE r=0)(hvb:∀g',B<=g'->∀bo bc so sc ao ac tgo tc,v= .agg #[.bool r.start,.bool r.fin,.slice bo r.before.length bc,.slice so r.source.length sc,.slice ao r.after.length ac,.slice tgo r.target.length tc,.int .i64 r.cursor]->r.target≠ []->(Value.slice tgo r.target.length tc).ownBlock≠some g')(hk:k+r.source.length<=T.length)(hlen:T.length - r.source.length+r.target.length<=4000) :
  Calls prog 90 #[.pointer (some ⟨bs,0,none⟩),v] w fun e w'=>e= .returned (.int .i64 0)/\∃g' cap',K.St B bs w' g' cap' (T.take k++r.target++T.drop (k+r.source.length)) (k+r.cursor)/\Below B w w':=by
 obtain⟨T2,hT2⟩:∃T2,T2=T.take k++r.target++T.drop (k+r.source.length):=⟨_,rfl⟩;rw[<- hT2];obtain⟨_,_,g2,hsrc,hta,_,hc0,hc1⟩:=K.zao hE;obtain⟨hBs,hbox,hBg,hO⟩:=hS;have l2:=(K.zao hE).2.1.1;obtain⟨bo,bc,so,sc,ao,ac,tgo,tc,rfl,_⟩:=R0 w fun _ _=>rfl
 have hcap:=hO;obtain⟨_,_,_,hTc,hcm,_⟩:=hcap;have hcur:=hc1;obtain⟨W0,hW0⟩:∃W0,W0=w.alloc (.cells #[.bool r.start,.bool r.fin,.slice bo r.before.length bc,.slice so r.source.length sc,.slice ao r.after.length ac,.slice tgo r.target.length tc,.int .i64 r.cursor] 50):=⟨_,rfl⟩;have hbl0:∀b,b<w.heap.size->W0.heap[b]?=w.heap[b]?:=fun b hb=>by rw[hW0];exact Below.heap_alloc w _ b hb
 have hlt:=(qA.1 hbox).1;have hglt:g<w.heap.size:=by obtain⟨_,row,_⟩:=hO;exact row.lt
 have hbox0:W0.heap[bs]?=some (.cells #[.slice (some ⟨g,0,none⟩) T.length cap,.int .i64 k] 89):=by rw[hbl0 bs hlt];exact hbox
 have hO0:K.OwnT W0 g cap T:=by obtain⟨cur,row,h⟩:=hO;exact⟨cur,row.block (hbl0 g hglt),h⟩
 have hrb0:W0.heap[w.heap.size]?=some (.cells #[.bool r.start,.bool r.fin,.slice bo r.before.length bc,.slice so r.source.length sc,.slice ao r.after.length ac,.slice tgo r.target.length tc,.int .i64 r.cursor] 50):=by rw[hW0];exact heap_alloc_new w _
 have hB0:Below B w W0:=by rw[hW0];exact(qR w).alloc (by omega) _
 obtain⟨x0,x1⟩:W0.cell? ⟨bs,0,none⟩=some (.slice (some ⟨g,0,none⟩) T.length cap)/\W0.cell? ⟨bs,1,none⟩=some (.int .i64 k):=⟨K.zad hbox0 rfl,K.zad hbox0 rfl⟩;have r3:=K.zad (i:=3) hrb0 rfl;have r5:=K.zad (i:=5) hrb0 rfl;have r6:=K.zad (i:=6) hrb0 rfl;have hlong:(T.length:Int) - r.source.length+r.target.length<=4000:=by omega
 unfold maxLen at hcm
 go_enter func90,ntmps90
 go_wp2;rw[<- hW0]
 clear hW0
 go_quiet (fail)
 obtain⟨W,hW⟩:∃W,W=W0.drewN nq:=⟨_,rfl⟩;rw[<- hW];have yb:W.heap[bs]?=some (.cells #[.slice (some ⟨g,0,none⟩) T.length cap,.int .i64 k] 89):=by rw[hW];exact hbox0
 have yr:W.heap[w.heap.size]?=some (.cells #[.bool r.start,.bool r.fin,.slice bo r.before.length bc,.slice so r.source.length sc,.slice ao r.after.length ac,.slice tgo r.target.length tc,.int .i64 r.cursor] 50):=by rw[hW];exact hrb0
 have yO:K.OwnT W g cap T:=by rw[hW];exact hO0
 have yB:∀b,b<w.heap.size->W.heap[b]?=w.heap[b]?:=by rw[hW];exact hbl0
 have yw:Below B w W:=by rw[hW];exact below_drewN hB0 _
 have hgs:g≠bs:=fun e=>by
  obtain⟨_,row,_⟩:=yO;rw[e] at row;have:=row.symm.trans yb;simp at this
 have HC:Hid (Calls prog 143 #[.slice (some ⟨g,0,none⟩) T.length cap,.int .i64 (k:Int),.int .i64 ((k:Int)+r.source.length),.slice tgo r.target.length tc] W.drew fun e w'=>∃g' cap',e= .returned (.slice (some ⟨g',0,none⟩) T2.length cap')/\B<=g'/\K.OwnT w' g' cap' T2/\W.drew.grownBy w' (some g)):=by
  have h:=zrs W.drew B g hBg cap T yO h4 k r.source.length hsrc hk (.slice tgo r.target.length tc) r.target (fun w' hw'=>(by
   have hR:=R0 w' fun b hb=>(hw' b hb).trans (yB b (by omega))
   obtain⟨_,_,_,_,_,_,_,_,he,_,_,_,h5,_⟩:=hR;simp at he;obtain⟨_,_,_,⟨e1,e2⟩⟩:=he;subst e1 e2
   exact h5)) (hvb g hBg _ _ _ _ _ _ _ _ rfl) hta
  rw[Int.natCast_add,<- hT2] at h;exact h
 have x1:=K.zad (i:=1) yb rfl;have x0:=K.zad (i:=0) yb rfl;have r3:=K.zad (i:=3) yr rfl;have r5:=K.zad (i:=5) yr rfl;have HY:Hid (W.heap[bs]?=some (.cells #[.slice (some ⟨g,0,none⟩) T.length cap,.int .i64 k] 89)/\W.heap[w.heap.size]?=some (.cells #[.bool r.start,.bool r.fin,.slice bo r.before.length bc,.slice so r.source.length sc,.slice ao r.after.length ac,.slice tgo r.target.length tc,.int .i64 r.cursor] 50)/\Below B w W):=⟨yb,yr,yw⟩;have hwr:IntKind.i64.wrap ((k:Int)+r.source.length)=(k:Int)+r.source.length:=by rw[IntKind.wrap_i64];omega
 clear hT2 hW yb yr yO yB yw hbox0 hrb0 hO0 hbl0 R0 hvb hbox hO r6 hE;go_wp2;refine wp_region_held_drew (S:=fun w'=>w'.cell? ⟨bs,1,none⟩=some (.int .i64 k)/\w'.cell? ⟨w.heap.size,3,none⟩=some (.slice so r.source.length sc)/\w'.cell? ⟨w.heap.size,5,none⟩=some (.slice tgo r.target.length tc)) (by kernel_rfl) ⟨x1,r3,r5⟩ (fun hHeld=> ?_);refine wpAnyH_take (i:=0) (oi:=_) (v:= .pointer (some ⟨bs,0,none⟩)) rfl (by kernel_rfl) (by kernel_rfl) (by kernel_rfl) (fun _ _ _ h=>h) (Or.inl ⟨by rfl,?_⟩) hHeld ?_
 ·intro wz hSw
  go_simp
 simp only[Act.put,List.setIfInBounds_toArray,List.set_cons_zero,List.set_cons_succ];refine wpAnyH_take (i:=1) (oi:=_) (v:= .pointer (some ⟨bs,0,none⟩)) rfl (by kernel_rfl) (by kernel_rfl) (by kernel_rfl) (fun _ _ _ h=>h) (Or.inl ⟨by rfl,?_⟩) hHeld ?_
 ·intro wz hSw
  go_simp
 simp only[Act.put,List.setIfInBounds_toArray,List.set_cons_zero,List.set_cons_succ];refine wpAnyH_take (i:=2) (oi:=_) (v:= .pointer (some ⟨bs,0,none⟩)) rfl (by kernel_rfl) (by kernel_rfl) (by kernel_rfl) (fun _ _ _ h=>h) (Or.inl ⟨by rfl,?_⟩) hHeld ?_
 ·intro wz hSw
  go_simp
 simp only[Act.put,List.setIfInBounds_toArray,List.set_cons_zero,List.set_cons_succ];refine wpAnyH_take (i:=3) (oi:=_) (v:= .pointer (some ⟨bs,0,none⟩)) rfl (by kernel_rfl) (by kernel_rfl) (by kernel_rfl) (fun _ _ _ h=>h) (Or.inl ⟨by rfl,?_⟩) hHeld ?_
 ·intro wz hSw
  go_simp
 simp only[Act.put,List.setIfInBounds_toArray,List.set_cons_zero,List.set_cons_succ];refine wpAnyH_take (i:=5) (oi:=_) (v:= .pointer (some ⟨bs,0,none⟩)) rfl (by kernel_rfl) (by kernel_rfl) (by kernel_rfl) (fun _ _ _ h=>h) (Or.inl ⟨by rfl,?_⟩) hHeld ?_
 ·intro wz hSw
  go_simp
 simp only[Act.put,List.setIfInBounds_toArray,List.set_cons_zero,List.set_cons_succ];refine wpAnyH_take (i:=6) (oi:=_) (v:= .pointer (some ⟨bs,0,none⟩)) rfl (by kernel_rfl) (by kernel_rfl) (by kernel_rfl) (fun _ _ _ h=>h) (Or.inl ⟨by rfl,?_⟩) hHeld ?_
 ·intro wz hSw
  go_simp
 simp only[Act.put,List.setIfInBounds_toArray,List.set_cons_zero,List.set_cons_succ];refine wpAnyH_take (i:=7) (oi:=_) (v:= .pointer (some ⟨bs,1,none⟩)) rfl (by kernel_rfl) (by kernel_rfl) (by kernel_rfl) (fun _ _ _ h=>h) (Or.inl ⟨by rfl,?_⟩) hHeld ?_
 ·intro wz hSw
  go_simp
 simp only[Act.put,List.setIfInBounds_toArray,List.set_cons_zero,List.set_cons_succ];refine wpAnyH_take (i:=8) (oi:=_) (v:= .int .i64 k) rfl (by kernel_rfl) (by kernel_rfl) (by kernel_rfl) (fun _ _ _ h=>h) (Or.inl ⟨by rfl,?_⟩) hHeld ?_
 ·intro wz hSw
  go_simp
 simp only[Act.put,List.setIfInBounds_toArray,List.set_cons_zero,List.set_cons_succ];refine wpAnyH_take (i:=9) (oi:=_) (v:= .pointer (some ⟨bs,0,none⟩)) rfl (by kernel_rfl) (by kernel_rfl) (by kernel_rfl) (fun _ _ _ h=>h) (Or.inl ⟨by rfl,?_⟩) hHeld ?_
 ·intro wz hSw
  go_simp
 simp only[Act.put,List.setIfInBounds_toArray,List.set_cons_zero,List.set_cons_succ];refine wpAnyH_take (i:=10) (oi:=_) (v:= .pointer (some ⟨bs,0,none⟩)) rfl (by kernel_rfl) (by kernel_rfl) (by kernel_rfl) (fun _ _ _ h=>h) (Or.inl ⟨by rfl,?_⟩) hHeld ?_
 ·intro wz hSw
  go_simp
 simp only[Act.put,List.setIfInBounds_toArray,List.set_cons_zero,List.set_cons_succ];refine wpAnyH_take (i:=11) (oi:=_) (v:= .pointer (some ⟨bs,1,none⟩)) rfl (by kernel_rfl) (by kernel_rfl) (by kernel_rfl) (fun _ _ _ h=>h) (Or.inl ⟨by rfl,?_⟩) hHeld ?_
 ·intro wz hSw
  go_simp
 simp only[Act.put,List.setIfInBounds_toArray,List.set_cons_zero,List.set_cons_succ];refine wpAnyH_take (i:=12) (oi:=_) (v:= .int .i64 k) rfl (by kernel_rfl) (by kernel_rfl) (by kernel_rfl) (fun _ _ _ h=>h) (Or.inl ⟨by rfl,?_⟩) hHeld ?_
 ·intro wz hSw
  go_simp
 simp only[Act.put,List.setIfInBounds_toArray,List.set_cons_zero,List.set_cons_succ];refine wpAnyH_take (i:=13) (oi:=_) (v:= .pointer (some ⟨w.heap.size,3,none⟩)) rfl (by kernel_rfl) (by kernel_rfl) (by kernel_rfl) (fun _ _ _ h=>h) (Or.inl ⟨by rfl,?_⟩) hHeld ?_
 ·intro wz hSw
  go_simp
 simp only[Act.put,List.setIfInBounds_toArray,List.set_cons_zero,List.set_cons_succ];refine wpAnyH_take (i:=14) (oi:=_) (v:= .slice so r.source.length sc) rfl (by kernel_rfl) (by kernel_rfl) (by kernel_rfl) (fun _ _ _ h=>h) (Or.inl ⟨by rfl,?_⟩) hHeld ?_
 ·intro wz hSw
  go_simp
 simp only[Act.put,List.setIfInBounds_toArray,List.set_cons_zero,List.set_cons_succ];refine wpAnyH_take (i:=15) (oi:=_) (v:= .int .i64 r.source.length) rfl (by kernel_rfl) (by kernel_rfl) (by kernel_rfl) (fun _ _ _ h=>h) (Or.inl ⟨by rfl,?_⟩) hHeld ?_
 ·intro wz hSw
  go_simp
 simp only[Act.put,List.setIfInBounds_toArray,List.set_cons_zero,List.set_cons_succ];refine wpAnyH_take (i:=16) (oi:=_) (v:= .int .i64 ((k:Int)+r.source.length)) rfl (by kernel_rfl) (by kernel_rfl) (by kernel_rfl) (fun _ _ _ h=>h) (Or.inl ⟨by rfl,?_⟩) hHeld ?_
 ·intro wz hSw
  go_simp
 simp only[Act.put,List.setIfInBounds_toArray,List.set_cons_zero,List.set_cons_succ];refine wpAnyH_take (i:=17) (oi:=_) (v:= .pointer (some ⟨w.heap.size,5,none⟩)) rfl (by kernel_rfl) (by kernel_rfl) (by kernel_rfl) (fun _ _ _ h=>h) (Or.inl ⟨by rfl,?_⟩) hHeld ?_
 ·intro wz hSw
  go_simp
 simp only[Act.put,List.setIfInBounds_toArray,List.set_cons_zero,List.set_cons_succ];refine wpAnyH_take (i:=18) (oi:=_) (v:= .slice tgo r.target.length tc) rfl (by kernel_rfl) (by kernel_rfl) (by kernel_rfl) (fun _ _ _ h=>h) (Or.inl ⟨by rfl,?_⟩) hHeld ?_
 ·intro wz hSw
  go_simp
 simp only[Act.put,List.setIfInBounds_toArray,List.set_cons_zero,List.set_cons_succ];refine wpAnyH_ready (rs:= [4]) (by kernel_rfl) (by simp) ?_;refine AllReadyH.cons (o:=_) rfl (fun KK hK=> ?_) AllReadyH.nil
 go_simp
 refine hK.out _ _ hHeld (fun hHeld=> ?_);clear hK
 try simp only[Act.put,List.setIfInBounds_toArray,List.set_cons_zero,List.set_cons_succ]
 refine wpAnyH_ready (rs:= [19]) (by kernel_rfl) (by simp) ?_;refine AllReadyH.cons (o:=_) rfl (fun KK hK=> ?_) AllReadyH.nil
 go_simp
 refine HC.out.mono ?_;rintro e w1 ⟨g',cap',rfl,hB',hO',hg'⟩;have zb:=(hg'.block bs (qA.1 HY.out.1).1 (by simpa using hgs.symm)).trans HY.out.1;have zr:=(hg'.block w.heap.size (qA.1 HY.out.2.1).1 (by simp;omega)).trans HY.out.2.1
 have hgs':g'≠bs:=fun e=>by
  obtain⟨_,row,_⟩:=hO';rw[e] at row;have:=row.symm.trans zb;simp at this
 have zB:=(HY.out.2.2.drew).grown hg' (by show B<=W.heap.size;have:=(qA.1 HY.out.1).1;omega) (fun q hq=>by cases hq;exact hBg);obtain⟨W2,hW2⟩:∃W2,W2=w1.setCell ⟨bs,0,none⟩ (.slice (some ⟨g',0,none⟩) T2.length cap'):=⟨_,rfl⟩;have yb2:W2.heap[bs]?=some (.cells #[.slice (some ⟨g',0,none⟩) T2.length cap',.int .i64 k] 89):=by rw[hW2];exact heap_setCell_same w1 bs 0 _ _ _ zb
 have yr2:W2.heap[w.heap.size]?=some (.cells #[.bool r.start,.bool r.fin,.slice bo r.before.length bc,.slice so r.source.length sc,.slice ao r.after.length ac,.slice tgo r.target.length tc,.int .i64 r.cursor] 50):=by rw[hW2];exact(heap_setCell_other w1 ⟨bs,0,none⟩ w.heap.size _ (by simp;omega)).trans zr
 have yO2:K.OwnT W2 g' cap' T2:=by
  obtain⟨cur,row,h⟩:=hO';exact⟨cur,by rw[hW2];exact row.block (heap_setCell_other w1 ⟨bs,0,none⟩ g' _ (by simpa using hgs')),h⟩
 have yB2:Below B w W2:=by rw[hW2];exact zB.setCell (p:=⟨bs,0,none⟩) hBs _
 have q0:=K.zad (i:=0) zb rfl;have q1:=K.zad (i:=1) zb rfl;have q3:=K.zad (i:=3) zr rfl;have q5:=K.zad (i:=5) zr rfl;have f0:=frozen_of_row w1 bs 0 _ _ zb;have u1:=K.zad (i:=1) yb2 rfl;have u3:=K.zad (i:=3) yr2 rfl;have u5:=K.zad (i:=5) yr2 rfl;have u6:=K.zad (i:=6) yr2 rfl;have fu:=frozen_of_row W2 bs 1 _ _ yb2;have HF:Hid (W2.heap[bs]?=some (.cells #[.slice (some ⟨g',0,none⟩) T2.length cap',.int .i64 k] 89)/\K.OwnT W2 g' cap' T2/\Below B w W2/\B<=g'/\g'≠bs):=⟨yb2,yO2,yB2,hB',hgs'⟩;clear zb zr zB yb2 yr2 yO2 yB2 hO' hg' hB' hgs' HC HY x0 x1 r3 r5 hHeld;refine hK.out _ _ ⟨q1,q3,q5⟩ (fun hHeld=> ?_);clear hK;refine wpAnyH_take (i:=20) (oi:=_) (v:= .pointer (some ⟨bs,0,none⟩)) rfl (by kernel_rfl) (by kernel_rfl) (by kernel_rfl) (fun _ _ _ h=>h) (Or.inl ⟨by rfl,?_⟩) hHeld ?_
 ·intro wz hSw
  go_simp
 simp only[Act.put,List.setIfInBounds_toArray,List.set_cons_zero,List.set_cons_succ];refine wpAnyH_take (i:=21) (oi:=_) (v:= .pointer (some ⟨bs,0,none⟩)) rfl (by kernel_rfl) (by kernel_rfl) (by kernel_rfl) (fun _ _ _ h=>h) (Or.inl ⟨by rfl,?_⟩) hHeld ?_
 ·intro wz hSw
  go_simp
 simp only[Act.put,List.setIfInBounds_toArray,List.set_cons_zero,List.set_cons_succ];refine wpAnyH_ready (rs:= [22]) (by kernel_rfl) (by simp) ?_;refine AllReadyH.cons (o:=_) rfl (fun KK hK=> ?_) AllReadyH.nil
 go_simp
 rw[<- hW2];refine hK.out _ _ ⟨u1,u3,u5⟩ (fun hHeld=> ?_);clear hK hHeld hW2 q0 q1 q3 q5 f0;refine wpAnyH_done (by kernel_rfl) ?_ _;have hwr2:IntKind.i64.wrap ((k:Int)+r.cursor)=(k:Int)+r.cursor:=by rw[IntKind.wrap_i64];omega
 go_wp2
 go_region
 go_wp2;go_ret
 obtain⟨cur,row,hcu⟩:=HF.out.2.1;exact⟨rfl,g',cap',⟨hBs,heap_setCell_same W2 bs 1 _ _ _ HF.out.1,HF.out.2.2.2.1,cur,row.block (heap_setCell_other W2 ⟨bs,1,none⟩ g' _ (by simpa using HF.out.2.2.2.2)),hcu⟩,(HF.out.2.2.1.setCell (p:=⟨bs,1,none⟩) hBs _).drew⟩
theorem zrz (w:World)(B bs g cap:Nat)(T:List Int)(k:Nat)(hS:K.St B bs w g cap T k)(h4:T.length<=4000)(v:Value)(r:K.Rule)(R0:K.RuIs w v r)(hE:K.ruleE r=0)(hk:k+r.source.length<=T.length)(hlen:4000<T.length - r.source.length+r.target.length) :
  Calls prog 90 #[.pointer (some ⟨bs,0,none⟩),v] w fun e w'=>e= .returned (.int .i64 4)/\Below w.heap.size w w':=by
 obtain⟨_,_,g2,hsrc,hta,_,hc0,hc1⟩:=K.zao hE;obtain⟨hBs,hbox,hBg,hO⟩:=hS;have l2:=(K.zao hE).2.1.1;obtain⟨bo,bc,so,sc,ao,ac,tgo,tc,rfl,_⟩:=R0;obtain⟨W0,hW0⟩:∃W0,W0=w.alloc (.cells #[.bool r.start,.bool r.fin,.slice bo r.before.length bc,.slice so r.source.length sc,.slice ao r.after.length ac,.slice tgo r.target.length tc,.int .i64 r.cursor] 50):=⟨_,rfl⟩;have hlt:=(qA.1 hbox).1;have hbox0:W0.heap[bs]?=some (.cells #[.slice (some ⟨g,0,none⟩) T.length cap,.int .i64 k] 89):=by rw[hW0,Below.heap_alloc w _ bs hlt];exact hbox
 have hrb0:W0.heap[w.heap.size]?=some (.cells #[.bool r.start,.bool r.fin,.slice bo r.before.length bc,.slice so r.source.length sc,.slice ao r.after.length ac,.slice tgo r.target.length tc,.int .i64 r.cursor] 50):=by rw[hW0];exact heap_alloc_new w _
 have HB0:Hid (Below w.heap.size w W0):=by rw[hW0];exact(qR w).alloc qN _
 have x0:=K.zad (i:=0) hbox0 rfl;have x1:=K.zad (i:=1) hbox0 rfl;have r3:=K.zad (i:=3) hrb0 rfl;have r5:=K.zad (i:=5) hrb0 rfl;have hlong:¬(T.length:Int) - r.source.length+r.target.length<=4000:=by omega
 clear hbox hbox0 hrb0 hO hE
 go_enter func90,ntmps90
 go_wp2;rw[<- hW0]
 clear hW0
 go_quiet (fail)
 go_wp2;go_ret
 exact⟨rfl,below_drewN HB0.out _⟩
