/-
 append of runes to a slice of the call's own: where it lies behind it.
-/
import Derived.Test.YtamfgmaipajodaaGreatDoorRows
import Derived.Test.YtamfgmaipajodaaGreatDoorVLib
import Derived.ArgAppend
import Derived.Deep.Upon
import Derived.Laws.OwnMore
import Derived.Lib.AppendZerosOnto
import Derived.Lib.Walk
import Derived.Lib.Overlaps
import Derived.Lib.SliceRun
import Derived.Test.YtamfgmaipajodaaGreatDoorCnMath
import Derived.Test.YtamfgmaipajodaaGreatDoorJMath
import Derived.Test.YtamfgmaipajodaaGreatDoorVForth
namespace Go.Proofs.YtamfgmaipajodaaGreatDoor
open Go.RowKit
theorem Tryz.infoRune:(Tryz.prog.info? 21).map (fun i=>(i.zero,i.size,i.bytes))=some (some (.int .i32 0),1,4):=by kernel_rfl
end Go.Proofs.YtamfgmaipajodaaGreatDoor
namespace Go.Proofs.YtamfgmaipajodaaGreatDoor.K
open Go.RowKit
def ints (t:List Int):List Value:=t.map (Value.int .i32)
theorem zbu (t:List Int):(ints t).length=t.length:=by simp[ints]
theorem zg0 (t:List Int):∀v∈ints t,v.oneCell'=true:=fun v hv=>by obtain⟨z,_,rfl⟩:=List.mem_map.1 hv;rfl
theorem zk1 {t:List Int}{j:Nat}{v:Value}(h:(ints t)[j]?=some v):∃z,t[j]?=some z/\v= .int .i32 z:=by
 unfold ints at h;rw[List.getElem?_map] at h;cases hz:t[j]? with
 | none=>rw[hz] at h;cases h
 | some z=>rw[hz] at h;cases h;exact⟨z,rfl,rfl⟩
theorem zqq (w:World)(B:Nat)(v:Value)(t:List Int)(own:w.ownsRow B 21 1 v t.length (ints t))(vx:Value)(zs:List Int)(hx:L.Rd w vx .i32 zs)(hl:t.length+zs.length<=100000000)(hB:B<=w.heap.size) :
  ∃v' w',(∀ty,(Builtin.append_ #[33,33] ty #[v,vx]).run Tryz.prog w= .ok v' w')/\w'.ownsRow B 21 1 v' (t++zs).length (ints (t++zs))/\w.grownBy w' v.ownBlock/\(v'.ownBlock=v.ownBlock∨∃k,v'.ownBlock=some k/\w.heap.size<=k):=by
 obtain⟨i0,hi,hz0,hz1,hz2⟩:=info_parts Tryz.infoRune;have he:ints (t++zs)=ints t++ints zs:=by unfold ints;rw[List.map_append]
 have hle:(t++zs).length=t.length+zs.length:=List.length_append
 by_cases h0:zs= []
 ·subst h0;obtain⟨ao,cx,rfl,hn,hc⟩:=hx
  obtain⟨vo,vc,rfl,hvc⟩:∃vo vc,v= .slice vo t.length vc/\t.length<=vc:=by
   rcases own.2 with ⟨h,h1⟩|⟨g,cap,cur,h,_,_,h1,_⟩
   ·exact⟨none,0,by rw[h,h1],by omega⟩
   ·exact⟨_,cap,h,h1⟩
  refine⟨_,w,fun ty=> ?_,by simpa using own,⟨rfl,rfl,rfl,qN,fun _ _ _=>rfl⟩,.inl rfl⟩;refine Go.run_append_nothing (P:=Tryz.prog) w _ _ ty 21 i0 Tryz.underlying33 hi vo t.length vc hvc _ ?_;cases ao with
  | none=>exact Go.Src.ofNil w Tryz.underlying33 cx
  | some ad=>exact Go.Src.ofSlice w Tryz.underlying33 ad 0 cx [] (by simp) (fun j u h=>by simp at h) (fun u h=>by simp at h)
 ·obtain⟨ao,cx,rfl,_,hcx⟩:=hx;obtain⟨bx,offx,rfl,hcellx⟩:=hcx h0;have hp:=List.length_pos_iff.2 h0
  have hnews:∀j u,(ints zs)[j]?=some u->w.cell? ((⟨bx,offx,none⟩:Addr).add j)=some u:=fun j u hj=>by
   obtain⟨z,hz,rfl⟩:=zk1 hj;rw[L.addr_add];exact hcellx j z hz
  have blk:∀(v':Value) (w':World),w'.ownsRow w.heap.size 21 1 v' (t.length+zs.length) (ints t++ints zs)->∃k,v'.ownBlock=some k/\w.heap.size<=k:=fun v' w' h=>by
   rcases h.2 with ⟨_,h1⟩|⟨g,cap,cur,h,hg,_⟩
   ·omega
   ·exact⟨g,by rw[h];rfl,hg⟩
  rw[he,hle];rcases own.2 with ⟨hv,h1⟩|⟨g,cap,cur,hv,hBg,hg,hnc,hcm,hcs,htk⟩
  ·have ht:t= []:=List.eq_nil_of_length_eq_zero h1;subst ht hv;obtain⟨v',w',hrun,r1,r2,_⟩:=run_append_own (P:=Tryz.prog) w w.heap.size 33 0 21 i0 (.int .i32 0) 1 4 Tryz.underlying33 hi hz0 hz1 hz2 rfl (by decide) (.slice none 0 0) 0 [] (World.ownsRow_nil w _ _ _) ⟨bx,offx,none⟩ zs.length cx (ints zs) (by rw[zbu];omega) hnews (zg0 zs) (by unfold maxLen;simp at hl;omega) (by simp at hl;omega) qN;exact⟨v',w',fun ty=>hrun,L.zaw r1 hB,r2,.inr (blk v' w' r1)⟩
  ·subst hv
   by_cases hf:t.length+zs.length<=cap
   ·obtain⟨w',hrun,r1,r2⟩:=run_append_fits (P:=Tryz.prog) w B 33 0 21 i0 1 Tryz.underlying33 hi hz1 g t.length cap (ints t) own ⟨bx,offx,none⟩ zs.length cx (ints zs) (by rw[zbu];omega) hnews (zg0 zs) hf;exact⟨_,w',fun ty=>hrun,r1,r2,.inl rfl⟩
   ·obtain⟨v',w',hrun,r1,r2⟩:=run_append_arg_grows (P:=Tryz.prog) w 33 0 21 i0 (.int .i32 0) 1 4 Tryz.underlying33 hi hz0 hz1 hz2 rfl (by decide) ⟨g,0,none⟩ t.length cap (ints t) (by rw[zbu];omega) (fun j u hj=>World.ownsRow.cells own (g:=g) rfl j u hj) ⟨bx,offx,none⟩ zs.length cx (ints zs) (by rw[zbu];omega) hnews (by omega) (by unfold maxLen;omega) (by omega);exact⟨v',w',fun ty=>hrun,L.zaw r1 hB,⟨r2.os,r2.tape,r2.output,r2.size,fun k hk _=>r2.block k hk (by simp)⟩,.inr (blk v' w' r1)⟩
theorem zdj {w:World}{B:Nat}{v:Value}{t:List Int}(h:w.ownsRow B 21 1 v t.length (ints t)):∃ao cap,v= .slice ao t.length cap/\t.length<=cap/\cap<=maxLen:=by
 rcases h.2 with ⟨h,h1⟩|⟨g,cap,cur,h,_,_,h1,h2,_⟩
 ·exact⟨none,0,by rw[h,h1],by omega,by unfold maxLen;omega⟩
 ·exact⟨_,cap,h,h1,h2⟩
theorem zt2 {w:World}{B:Nat}{v:Value}{t:List Int}(h:w.ownsRow B 21 1 v t.length (ints t)):L.Rd w v .i32 t:=L.Rd.za1 h
end Go.Proofs.YtamfgmaipajodaaGreatDoor.K
namespace Go.Proofs.YtamfgmaipajodaaGreatDoor.K
open Go.RowKit
def spl (cur:List Value) (o:Nat) (vs:List Value):List Value:=cur.take o++vs++cur.drop (o+vs.length)
def Row (w:World) (g:Nat) (cur:List Value):Prop:=w.heap[g]?=some (.cells cur.toArray 21 (0,0))
theorem Row.lt {w:World}{g:Nat}{cur:List Value}(h:Row w g cur):g<w.heap.size:=(qA.1 h).1
theorem Row.cell {w:World}{g:Nat}{cur:List Value}(h:Row w g cur)(j:Nat):w.cell? ⟨g,j,none⟩=cur[j]?:=by
 simp[World.cell?,show w.heap[g]?=_ from h]
theorem Row.free {w:World}{g:Nat}{cur:List Value}(h:Row w g cur)(j:Nat):w.frozen? ⟨g,j,none⟩=false:=frozen_of_row w g j _ _ h
theorem Row.set {w:World}{g:Nat}{cur:List Value}(h:Row w g cur)(cur':List Value):Row (w.setRow g cur'.toArray) g cur':=setRow_heap w g _ _ _ _ h
theorem zaj (w:World)(g:Nat)(c:Array Value):w.grownBy (w.setRow g c) (some g):=⟨rfl,rfl,rfl,by simp,fun k _ hk=>setRow_other w g k c fun e=>hk (by rw[e])⟩
theorem Row.drew {w:World}{g:Nat}{cur:List Value}(h:Row w g cur):Row w.drew g cur:=h
theorem Row.block {w w':World}{g:Nat}{cur:List Value}(h:Row w g cur)(e:w'.heap[g]?=w.heap[g]?):Row w' g cur:=e.trans h
theorem Row.cells {g:Nat}:∀(vs:List Value) {w:World} {cur:List Value} {o:Nat},Row w g cur->o+vs.length<=cur.length->Row (w.setCells g o vs) g (spl cur o vs)/\w.grownBy (w.setCells g o vs) (some g)
 | [],w,cur,o,h,_=>⟨by rw[World.setCells];simpa [spl] using h,⟨rfl,rfl,rfl,qN,fun _ _ _=>rfl⟩⟩
 | v::r,w,cur,o,h,hl=>by
  rw[List.length_cons] at hl
  have h1:Row (w.setCell ⟨g,o,none⟩ v) g (cur.set o v):=by
   have:=heap_setCell_same w g o _ _ v h;unfold Row;rw[this];simp
  obtain⟨h2,h3⟩:=Row.cells r h1 (o:=o+1) (by simp;omega)
  have e:spl (cur.set o v) (o+1) r=spl cur o (v::r):=by
   unfold spl
   have e1:(cur.set o v).take (o+1)=cur.take o++ [v]:=by
    rw[List.take_add_one,List.take_set_of_le (Nat.le_refl o),List.getElem?_set_self (by omega)];rfl
   rw[e1,List.drop_set_of_lt (by omega),List.length_cons];simp[Nat.add_assoc,Nat.add_comm 1]
  rw[World.setCells];rw[e] at h2;refine⟨h2,h3.os,h3.tape,h3.output,by simpa using h3.size,fun k hk hne=> ?_⟩;rw[h3.block k (by simpa using hk) hne];exact heap_setCell_other _ ⟨g,o,none⟩ k _ fun e=>hne (by simp[e])
/-! copy and clear, by their runs, at a step of a walk -/
end Go.Proofs.YtamfgmaipajodaaGreatDoor.K
/-
 append of runes to a slice of the call's own: where it lies behind it.
-/
namespace Go.Proofs.YtamfgmaipajodaaGreatDoor.K
open Go.RowKit
theorem zbi {w w':World}{v:Value}{zs:List Int}(h:L.Rd w v .i32 zs)(hb:zs≠ []->∀k,v.ownBlock=some k->w'.heap[k]?=w.heap[k]?):L.Rd w' v .i32 zs:=by
 obtain⟨ao,cap,rfl,hn,hc⟩:=h;refine⟨ao,cap,rfl,hn,fun hz=> ?_⟩;obtain⟨b,off,rfl,hcell⟩:=hc hz;refine⟨b,off,rfl,fun j z hj=> ?_⟩;rw[World.cell?_of_block (a:=⟨b,off+j,none⟩) (hb hz b rfl)];exact hcell j z hj
theorem zo3 {w w':World}{B:Nat}{v:Value}{n:Nat}{xs:List Value}(h:w.ownsRow B 21 1 v n xs)(hb:∀k,v.ownBlock=some k->w'.heap[k]?=w.heap[k]?):w'.ownsRow B 21 1 v n xs:=by
 refine⟨h.1,?_⟩;rcases h.2 with h | ⟨g,cap,cur,hv,hB,hg,r⟩
 ·exact .inl h
 ·exact .inr ⟨g,cap,cur,hv,hB,by rw[hb g (by rw[hv];rfl)];exact hg,r⟩
structure Dr (wB wr:World) (b:Nat) (s p:Int) (vd vr:Value) (done rest:List Int):Prop where
 hb:b<wB.heap.size
 own:wr.ownsRow wB.heap.size 21 1 vd done.length (ints done)
 rd:L.Rd wr vr .i32 rest
 apart:rest≠ []->∀k,vd.ownBlock=some k->vr.ownBlock≠some k
 out:wr.heap[b]?=some (.cells #[.slice none 0 0,.int .i64 s,.int .i64 p] 58)
 grown:wB.grownBy wr (some b)
theorem Dr.ztz {wB wr:World}{b:Nat}{s p:Int}{vd vr:Value}{done rest:List Int}(h:Dr wB wr b s p vd vr done rest)(hz:rest≠ []):∀k,vr.ownBlock=some k->k≠b:=by
 obtain⟨ao,cap,rfl,hn,hc⟩:=h.rd;obtain⟨b',off,rfl,hcell⟩:=hc hz;intro k hk e;have:b'=k:=by simpa [Value.ownBlock] using hk
 subst this e;obtain⟨z,hz2⟩:∃z,rest[0]?=some z:=⟨rest[0]'(List.length_pos_iff.2 hz),by simp⟩;have hc0:=hcell 0 z hz2;rw[World.cell?] at hc0;simp only[show wr.heap[b']?=_ from h.out] at hc0;simp at hc0;have hlt:=(qL.1 hc0).1
 match off,hc0 with
 | 0,hc0=>simp at hc0
 | 1,hc0=>simp at hc0
 | 2,hc0=>simp at hc0
 | n+3,_=>simp at hlt;omega
theorem Dr.set2 {wB wr:World}{b:Nat}{s p:Int}{vd vr:Value}{done rest:List Int}(h:Dr wB wr b s p vd vr done rest)(n:Int):Dr wB (wr.setCell ⟨b,2,none⟩ (.int .i64 n)) b s n vd vr done rest:=by
 have oth:∀k,k≠b->(wr.setCell ⟨b,2,none⟩ (.int .i64 n)).heap[k]?=wr.heap[k]?:=fun k hk=>heap_setCell_other wr ⟨b,2,none⟩ k _ (by simpa using hk)
 refine⟨h.hb,zo3 h.own fun k hk=>oth k (by have:=(h.own.lt k hk).1;have:=h.hb;omega),zbi h.rd fun hz k hk=>oth k (h.ztz hz k hk),h.apart,heap_setCell_same wr b 2 _ _ _ h.out,S.zaa h.grown ⟨rfl,rfl,rfl,by simp,fun k _ hk=>oth k fun e=>hk (by rw[e])⟩⟩
theorem Dr.below {wB wr w':World}{b:Nat}{s p:Int}{vd vr:Value}{done rest:List Int}(h:Dr wB wr b s p vd vr done rest)(hb:Below wr.heap.size wr w'):Dr wB w' b s p vd vr done rest :=
 ⟨h.hb,L.zat h.own hb qN,h.rd.below hb qN,h.apart,zae h.out hb,S.zaa h.grown (S.zad hb)⟩
end Go.Proofs.YtamfgmaipajodaaGreatDoor.K
namespace Go.Proofs.YtamfgmaipajodaaGreatDoor
open Go.RowKit Go.Lib
set_option maxRecDepth 20000
set_option linter.unusedSimpArgs false
set_option linter.unusedVariables false
namespace K
def Boxes (w W:World):Prop:=W.heap[w.heap.size]?=some (.cells #[.slice none 0 0,.int .i64 0,.int .i64 0] 58)/\W.heap[w.heap.size+1]?=some (.cells #[.int .i64 0,.int .i64 0] 38)
end K
theorem K.five {w W:World}{B a b:Nat}(hb:Below B w W)(ha:B<=a)(hbb:B<=b)(v0 v1 v2 v3 v4:Value) :
  Below B w (((((W.setCell ⟨a,0,none⟩ v0).setCell ⟨a,1,none⟩ v1).setCell ⟨a,2,none⟩ v2).setCell ⟨b,0,none⟩ v3).setCell ⟨b,1,none⟩ v4) /\
  ∀g,g≠a->g≠b->(((((W.setCell ⟨a,0,none⟩ v0).setCell ⟨a,1,none⟩ v1).setCell ⟨a,2,none⟩ v2).setCell ⟨b,0,none⟩ v3).setCell ⟨b,1,none⟩ v4).heap[g]?=W.heap[g]?:=by
 refine⟨((((hb.setCell (p:=⟨a,0,none⟩) ha _).setCell (p:=⟨a,1,none⟩) ha _).setCell (p:=⟨a,2,none⟩) ha _).setCell (p:=⟨b,0,none⟩) hbb _).setCell (p:=⟨b,1,none⟩) hbb _,fun g h1 h2=> ?_⟩;rw[heap_setCell_other _ ⟨b,1,none⟩ g _ (by simpa using h2),heap_setCell_other _ ⟨b,0,none⟩ g _ (by simpa using h2),heap_setCell_other _ ⟨a,2,none⟩ g _ (by simpa using h1),heap_setCell_other _ ⟨a,1,none⟩ g _ (by simpa using h1),heap_setCell_other _ ⟨a,0,none⟩ g _ (by simpa using h1)]
end Go.Proofs.YtamfgmaipajodaaGreatDoor
