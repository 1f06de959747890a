/-
 A row of runes of the call's own: what is copied into it, and cleared in it.
-/
import Derived.Test.YteagjpnbiceafaaGreatDoorCnMath
import Derived.Test.YteagjpnbiceafaaGreatDoorMCut
import Derived.Lib.AppendZerosOnto
import Derived.Lib.Walk
import Derived.Laws.OwnMore
import Derived.Lib.Overlaps
import Derived.Lib.SliceRun
import Derived.Test.YteagjpnbiceafaaGreatDoorShText2
import Derived.ArgAppend
import Derived.Deep.Upon
import Derived.Test.YteagjpnbiceafaaGreatDoorQBox
import Derived.Test.YteagjpnbiceafaaGreatDoorXConcat
set_option maxHeartbeats 0
set_option maxRecDepth 20000
set_option linter.unusedSimpArgs false
set_option linter.unusedVariables false
namespace Go.Proofs.YteagjpnbiceafaaGreatDoor.K
open Go.RowKit
def ints (t:List Int):List Value:=t.map (Value.int .i32)
theorem zcd (t:List Int):(ints t).length=t.length:=by simp[ints]
theorem zki (t:List Int):∀v∈ints t,v.oneCell'=true:=fun v hv=>by obtain⟨z,_,rfl⟩:=List.mem_map.1 hv;rfl
theorem zqp {t:List Int}{j:Nat}{v:Value}(h:(ints t)[j]?=some v):∃z,t[j]?=some z/\v= .int .i32 z:=by
 unfold ints at h;rw[List.getElem?_map] at h;cases hz:t[j]? with
 | none=>rw[hz] at h;cases h
 | some z=>rw[hz] at h;cases h;exact⟨z,rfl,rfl⟩
def spl (cur:List Value) (o:Nat) (vs:List Value):List Value:=cur.take o++vs++cur.drop (o+vs.length)
def Row (w:World) (g:Nat) (cur:List Value):Prop:=w.heap[g]?=some (.cells cur.toArray 21 (0,0))
theorem Row.lt {w:World}{g:Nat}{cur:List Value}(h:Row w g cur):g<w.heap.size:=(qA.1 h).1
theorem Row.cell {w:World}{g:Nat}{cur:List Value}(h:Row w g cur)(j:Nat):w.cell? ⟨g,j,none⟩=cur[j]?:=by
 simp[World.cell?,show w.heap[g]?=_ from h]
theorem Row.free {w:World}{g:Nat}{cur:List Value}(h:Row w g cur)(j:Nat):w.frozen? ⟨g,j,none⟩=false:=frozen_of_row w g j _ _ h
theorem Row.set {w:World}{g:Nat}{cur:List Value}(h:Row w g cur)(cur':List Value):Row (w.setRow g cur'.toArray) g cur':=setRow_heap w g _ _ _ _ h
theorem zaj (w:World)(g:Nat)(c:Array Value):w.grownBy (w.setRow g c) (some g):=⟨rfl,rfl,rfl,by simp,fun k _ hk=>setRow_other w g k c fun e=>hk (by rw[e])⟩
theorem Row.drew {w:World}{g:Nat}{cur:List Value}(h:Row w g cur):Row w.drew g cur:=h
theorem Row.block {w w':World}{g:Nat}{cur:List Value}(h:Row w g cur)(e:w'.heap[g]?=w.heap[g]?):Row w' g cur:=e.trans h
theorem Row.cells {g:Nat}:∀(vs:List Value) {w:World} {cur:List Value} {o:Nat},Row w g cur->o+vs.length<=cur.length->Row (w.setCells g o vs) g (spl cur o vs)/\w.grownBy (w.setCells g o vs) (some g)
 | [],w,cur,o,h,_=>⟨by rw[World.setCells];simpa [spl] using h,⟨rfl,rfl,rfl,qN,fun _ _ _=>rfl⟩⟩
 | v::r,w,cur,o,h,hl=>by
  rw[List.length_cons] at hl
  have h1:Row (w.setCell ⟨g,o,none⟩ v) g (cur.set o v):=by
   have:=heap_setCell_same w g o _ _ v h;unfold Row;rw[this];simp
  obtain⟨h2,h3⟩:=Row.cells r h1 (o:=o+1) (by simp;omega)
  have e:spl (cur.set o v) (o+1) r=spl cur o (v::r):=by
   unfold spl
   have e1:(cur.set o v).take (o+1)=cur.take o++ [v]:=by
    rw[List.take_add_one,List.take_set_of_le (Nat.le_refl o),List.getElem?_set_self (by omega)];rfl
   rw[e1,List.drop_set_of_lt (by omega),List.length_cons];simp[Nat.add_assoc,Nat.add_comm 1]
  rw[World.setCells];rw[e] at h2;refine⟨h2,h3.os,h3.tape,h3.output,by simpa using h3.size,fun k hk hne=> ?_⟩;rw[h3.block k (by simpa using hk) hne];exact heap_setCell_other _ ⟨g,o,none⟩ k _ fun e=>hne (by simp[e])
theorem Row.copy {w:World}{g:Nat}{cur:List Value}(h:Row w g cur)(o dl dc:Nat)(a:Addr)(sl sc:Nat)(cs:List Value)(hn:cs.length=min sl dl)(hs:∀(j:Nat) v,cs[j]?=some v->w.cell? (a.add j)=some v)(hfit:o+cs.length<=cur.length)(h1:∀v∈cs,v.oneCell'=true) :
  ∃W,(∀ty,(Builtin.copy_ #[42,42] ty #[.slice (some ⟨g,o,none⟩) dl dc,.slice (some a) sl sc]).run Tryz.prog w= .ok (goInt cs.length) W)/\Row W g (spl cur o cs)/\w.grownBy W (some g):=by
 refine⟨_,fun ty=> ?_,h.set (spl cur o cs),zaj _ _ _⟩;obtain⟨i0,hi,hz0,hz1,hz2⟩:=info_parts Tryz.infoI32;exact run_copy_row (P:=Tryz.prog) w 42 42 ty 21 g o dl dc a sl sc _ _ cs Tryz.underlying42 (by rw[hi];simp[hz1]) h hn hs (by simpa using hfit) h1
theorem Row.clear {w:World}{g:Nat}{cur:List Value}(h:Row w g cur)(o n c:Nat)(hn:0<n)(hfit:o+n<=cur.length) :
  ∃W,(∀ty,(Builtin.clear_ #[42] ty #[.slice (some ⟨g,o,none⟩) n c]).run Tryz.prog w= .ok (.tuple #[]) W)/\Row W g (spl cur o (List.replicate n (.int .i32 0)))/\w.grownBy W (some g):=by
 obtain⟨i0,hi,hz0,hz1,hz2⟩:=info_parts Tryz.infoI32;have h2:=Row.cells (List.replicate n (.int .i32 0)) h (o:=o) (by simpa using hfit);refine⟨_,fun ty=> ?_,h2.1,h2.2⟩;exact Lib.run_clear_slice w 42 21 ty (.int .i32 0) Tryz.underlying42 (fun w=>by simp[zeroValue,typeInfo,hi,hz0]) rfl rfl g o n c hn (fun j hj=>by rw[h.cell,List.getElem?_eq_getElem (by omega)];rfl) (fun j _=>h.free _)
/-! copy and clear, by their runs, at a step of a walk -/
end Go.Proofs.YteagjpnbiceafaaGreatDoor.K
namespace Go.Proofs.YteagjpnbiceafaaGreatDoor.K
open Go.RowKit
theorem ztl (w:World)(B:Nat)(v:Value)(t:List Int)(own:w.ownsRow B 21 1 v t.length (ints t))(vx:Value)(zs:List Int)(hx:L.Rd w vx .i32 zs)(hl:t.length+zs.length<=100000000)(hB:B<=w.heap.size) :
  ∃v' w',(∀ty,(Builtin.append_ #[42,42] ty #[v,vx]).run Tryz.prog w= .ok v' w')/\w'.ownsRow B 21 1 v' (t++zs).length (ints (t++zs))/\w.grownBy w' v.ownBlock/\(v'.ownBlock=v.ownBlock∨∃k,v'.ownBlock=some k/\w.heap.size<=k):=by
 obtain⟨i0,hi,hz0,hz1,hz2⟩:=info_parts Tryz.infoI32;have he:ints (t++zs)=ints t++ints zs:=by unfold ints;rw[List.map_append]
 have hle:(t++zs).length=t.length+zs.length:=List.length_append
 by_cases h0:zs= []
 ·subst h0;obtain⟨ao,cx,rfl,hn,hc⟩:=hx
  obtain⟨vo,vc,rfl,hvc⟩:∃vo vc,v= .slice vo t.length vc/\t.length<=vc:=by
   rcases own.2 with ⟨h,h1⟩|⟨g,cap,cur,h,_,_,h1,_⟩
   ·exact⟨none,0,by rw[h,h1],by omega⟩
   ·exact⟨_,cap,h,h1⟩
  refine⟨_,w,fun ty=> ?_,by simpa using own,⟨rfl,rfl,rfl,qN,fun _ _ _=>rfl⟩,.inl rfl⟩;refine Go.run_append_nothing (P:=Tryz.prog) w _ _ ty 21 i0 Tryz.underlying42 hi vo t.length vc hvc _ ?_;cases ao with
  | none=>exact Go.Src.ofNil w Tryz.underlying42 cx
  | some ad=>exact Go.Src.ofSlice w Tryz.underlying42 ad 0 cx [] (by simp) (fun j u h=>by simp at h) (fun u h=>by simp at h)
 ·obtain⟨ao,cx,rfl,_,hcx⟩:=hx;obtain⟨bx,offx,rfl,hcellx⟩:=hcx h0;have hp:=List.length_pos_iff.2 h0
  have hnews:∀j u,(ints zs)[j]?=some u->w.cell? ((⟨bx,offx,none⟩:Addr).add j)=some u:=fun j u hj=>by
   obtain⟨z,hz,rfl⟩:=zqp hj;rw[L.addr_add];exact hcellx j z hz
  have blk:∀(v':Value) (w':World),w'.ownsRow w.heap.size 21 1 v' (t.length+zs.length) (ints t++ints zs)->∃k,v'.ownBlock=some k/\w.heap.size<=k:=fun v' w' h=>by
   rcases h.2 with ⟨_,h1⟩|⟨g,cap,cur,h,hg,_⟩
   ·omega
   ·exact⟨g,by rw[h];rfl,hg⟩
  rw[he,hle];rcases own.2 with ⟨hv,h1⟩|⟨g,cap,cur,hv,hBg,hg,hnc,hcm,hcs,htk⟩
  ·have ht:t= []:=List.eq_nil_of_length_eq_zero h1;subst ht hv;obtain⟨v',w',hrun,r1,r2,_⟩:=run_append_own (P:=Tryz.prog) w w.heap.size 42 0 21 i0 (.int .i32 0) 1 4 Tryz.underlying42 hi hz0 hz1 hz2 rfl (by decide) (.slice none 0 0) 0 [] (World.ownsRow_nil w _ _ _) ⟨bx,offx,none⟩ zs.length cx (ints zs) (by rw[zcd];omega) hnews (zki zs) (by unfold maxLen;simp at hl;omega) (by simp at hl;omega) qN;exact⟨v',w',fun ty=>hrun,L.zbq r1 hB,r2,.inr (blk v' w' r1)⟩
  ·subst hv
   by_cases hf:t.length+zs.length<=cap
   ·obtain⟨w',hrun,r1,r2⟩:=run_append_fits (P:=Tryz.prog) w B 42 0 21 i0 1 Tryz.underlying42 hi hz1 g t.length cap (ints t) own ⟨bx,offx,none⟩ zs.length cx (ints zs) (by rw[zcd];omega) hnews (zki zs) hf;exact⟨_,w',fun ty=>hrun,r1,r2,.inl rfl⟩
   ·obtain⟨v',w',hrun,r1,r2⟩:=run_append_arg_grows (P:=Tryz.prog) w 42 0 21 i0 (.int .i32 0) 1 4 Tryz.underlying42 hi hz0 hz1 hz2 rfl (by decide) ⟨g,0,none⟩ t.length cap (ints t) (by rw[zcd];omega) (fun j u hj=>World.ownsRow.cells own (g:=g) rfl j u hj) ⟨bx,offx,none⟩ zs.length cx (ints zs) (by rw[zcd];omega) hnews (by omega) (by unfold maxLen;omega) (by omega);exact⟨v',w',fun ty=>hrun,L.zbq r1 hB,⟨r2.os,r2.tape,r2.output,r2.size,fun k hk _=>r2.block k hk (by simp)⟩,.inr (blk v' w' r1)⟩
theorem za8 {w w':World}{v:Value}{zs:List Int}(h:L.Rd w v .i32 zs)(hb:zs≠ []->∀k,v.ownBlock=some k->w'.heap[k]?=w.heap[k]?):L.Rd w' v .i32 zs:=by
 obtain⟨ao,cap,rfl,hn,hc⟩:=h;refine⟨ao,cap,rfl,hn,fun hz=> ?_⟩;obtain⟨b,off,rfl,hcell⟩:=hc hz;refine⟨b,off,rfl,fun j z hj=> ?_⟩;rw[World.cell?_of_block (a:=⟨b,off+j,none⟩) (hb hz b rfl)];exact hcell j z hj
theorem zhg {w w':World}{B:Nat}{v:Value}{n:Nat}{xs:List Value}(h:w.ownsRow B 21 1 v n xs)(hb:∀k,v.ownBlock=some k->w'.heap[k]?=w.heap[k]?):w'.ownsRow B 21 1 v n xs:=by
 refine⟨h.1,?_⟩;rcases h.2 with h | ⟨g,cap,cur,hv,hB,hg,r⟩
 ·exact .inl h
 ·exact .inr ⟨g,cap,cur,hv,hB,by rw[hb g (by rw[hv];rfl)];exact hg,r⟩
structure Dr (wB wr:World) (b:Nat) (s p:Int) (vd vr:Value) (done rest:List Int):Prop where
 hb:b<wB.heap.size
 own:wr.ownsRow wB.heap.size 21 1 vd done.length (ints done)
 rd:L.Rd wr vr .i32 rest
 apart:rest≠ []->∀k,vd.ownBlock=some k->vr.ownBlock≠some k
 out:wr.heap[b]?=some (.cells #[.slice none 0 0,.int .i64 s,.int .i64 p] 130)
 grown:wB.grownBy wr (some b)
theorem Dr.zno {wB wr:World}{b:Nat}{s p:Int}{vd vr:Value}{done rest:List Int}(h:Dr wB wr b s p vd vr done rest)(hz:rest≠ []):∀k,vr.ownBlock=some k->k≠b:=by
 obtain⟨ao,cap,rfl,hn,hc⟩:=h.rd;obtain⟨b',off,rfl,hcell⟩:=hc hz;intro k hk e;have:b'=k:=by simpa [Value.ownBlock] using hk
 subst this e;obtain⟨z,hz2⟩:∃z,rest[0]?=some z:=⟨rest[0]'(List.length_pos_iff.2 hz),by simp⟩;have hc0:=hcell 0 z hz2;rw[World.cell?] at hc0;simp only[show wr.heap[b']?=_ from h.out] at hc0;simp at hc0;have hlt:=(qL.1 hc0).1
 match off,hc0 with
 | 0,hc0=>simp at hc0
 | 1,hc0=>simp at hc0
 | 2,hc0=>simp at hc0
 | n+3,_=>simp at hlt;omega
theorem Dr.set1 {wB wr:World}{b:Nat}{s p:Int}{vd vr:Value}{done rest:List Int}(h:Dr wB wr b s p vd vr done rest)(n:Int):Dr wB (wr.setCell ⟨b,1,none⟩ (.int .i64 n)) b n p vd vr done rest:=by
 have oth:∀k,k≠b->(wr.setCell ⟨b,1,none⟩ (.int .i64 n)).heap[k]?=wr.heap[k]?:=fun k hk=>heap_setCell_other wr ⟨b,1,none⟩ k _ (by simpa using hk)
 refine⟨h.hb,zhg h.own fun k hk=>oth k (by have:=(h.own.lt k hk).1;have:=h.hb;omega),za8 h.rd fun hz k hk=>oth k (h.zno hz k hk),h.apart,heap_setCell_same wr b 1 _ _ _ h.out,S.zaa h.grown ⟨rfl,rfl,rfl,by simp,fun k _ hk=>oth k fun e=>hk (by rw[e])⟩⟩
theorem Dr.set2 {wB wr:World}{b:Nat}{s p:Int}{vd vr:Value}{done rest:List Int}(h:Dr wB wr b s p vd vr done rest)(n:Int):Dr wB (wr.setCell ⟨b,2,none⟩ (.int .i64 n)) b s n vd vr done rest:=by
 have oth:∀k,k≠b->(wr.setCell ⟨b,2,none⟩ (.int .i64 n)).heap[k]?=wr.heap[k]?:=fun k hk=>heap_setCell_other wr ⟨b,2,none⟩ k _ (by simpa using hk)
 refine⟨h.hb,zhg h.own fun k hk=>oth k (by have:=(h.own.lt k hk).1;have:=h.hb;omega),za8 h.rd fun hz k hk=>oth k (h.zno hz k hk),h.apart,heap_setCell_same wr b 2 _ _ _ h.out,S.zaa h.grown ⟨rfl,rfl,rfl,by simp,fun k _ hk=>oth k fun e=>hk (by rw[e])⟩⟩
theorem Dr.below {wB wr w':World}{b:Nat}{s p:Int}{vd vr:Value}{done rest:List Int}(h:Dr wB wr b s p vd vr done rest)(hb:Below wr.heap.size wr w'):Dr wB w' b s p vd vr done rest :=
 ⟨h.hb,L.zcl h.own hb qN,h.rd.below hb qN,h.apart,zae h.out hb,S.zaa h.grown (S.zad hb)⟩
theorem Dr.other {wB wr:World}{b:Nat}{s p:Int}{vd vr vr':Value}{done rest rest':List Int}(h:Dr wB wr b s p vd vr done rest)(hr:L.Rd wr vr' .i32 rest')(ha:rest'≠ []->∀k,vd.ownBlock=some k->vr'.ownBlock≠some k):Dr wB wr b s p vd vr' done rest':=⟨h.hb,h.own,hr,ha,h.out,h.grown⟩
theorem Dr.push {wB wr w':World}{b:Nat}{s p:Int}{vd vr vd':Value}{done rest done':List Int}(h:Dr wB wr b s p vd vr done rest)(ho:w'.ownsRow wB.heap.size 21 1 vd' done'.length (ints done'))(hg:wr.grownBy w' vd.ownBlock)(hv:vd'.ownBlock=vd.ownBlock∨∃k,vd'.ownBlock=some k/\wr.heap.size<=k):Dr wB w' b s p vd' vr done' rest:=by
 have hin:∀k,rest≠ []->vr.ownBlock=some k->k<wr.heap.size:=fun k hz hk=>by
  obtain⟨ao,cap,e,_,hc⟩:=h.rd;obtain⟨b',off,e2,hcell⟩:=hc hz;subst e2;rw[e] at hk;have:b'=k:=by simpa [Value.ownBlock] using hk
  subst this;obtain⟨z,hz2⟩:∃z,rest[0]?=some z:=⟨rest[0]'(List.length_pos_iff.2 hz),by simp⟩;exact L.block_lt (hcell 0 z hz2)
 have hbl:b<wr.heap.size:=Nat.lt_of_lt_of_le h.hb h.grown.size;refine⟨h.hb,ho,za8 h.rd fun hz k hk=>hg.block k (hin k hz hk) fun e=>h.apart hz k e.symm hk,fun hz k hk e=> ?_,?_,h.grown.os▸hg.os▸rfl,h.grown.tape▸hg.tape▸rfl,h.grown.output▸hg.output▸rfl,Nat.le_trans h.grown.size hg.size,fun k hk hne=> ?_⟩
 ·rcases hv with hv | ⟨k',hv,hk'⟩
  ·exact h.apart hz k (hv▸hk) e
  ·rw[hv] at hk;cases hk;have:=hin _ hz e;omega
 ·rw[hg.block b hbl fun e=>by have:=(h.own.lt b e.symm).1;have:=h.hb;omega];exact h.out
 ·rw[hg.block k (Nat.lt_of_lt_of_le hk h.grown.size) fun e=>by have:=(h.own.lt k e.symm).1;omega];exact h.grown.block k hk hne
end Go.Proofs.YteagjpnbiceafaaGreatDoor.K
namespace Go.Proofs.YteagjpnbiceafaaGreatDoor
open Go.RowKit Go.Lib
namespace K
def Boxes (w W:World):Prop:=W.heap[w.heap.size]?=some (.cells #[.slice none 0 0,.int .i64 0,.int .i64 0] 130)/\W.heap[w.heap.size+1]?=some (.cells #[.int .i64 0,.int .i64 0] 36)
end K
theorem K.five {w W:World}{B a b:Nat}(hb:Below B w W)(ha:B<=a)(hbb:B<=b)(v0 v1 v2 v3 v4:Value) :
  Below B w (((((W.setCell ⟨a,0,none⟩ v0).setCell ⟨a,1,none⟩ v1).setCell ⟨a,2,none⟩ v2).setCell ⟨b,0,none⟩ v3).setCell ⟨b,1,none⟩ v4) /\
  ∀g,g≠a->g≠b->(((((W.setCell ⟨a,0,none⟩ v0).setCell ⟨a,1,none⟩ v1).setCell ⟨a,2,none⟩ v2).setCell ⟨b,0,none⟩ v3).setCell ⟨b,1,none⟩ v4).heap[g]?=W.heap[g]?:=by
 refine⟨((((hb.setCell (p:=⟨a,0,none⟩) ha _).setCell (p:=⟨a,1,none⟩) ha _).setCell (p:=⟨a,2,none⟩) ha _).setCell (p:=⟨b,0,none⟩) hbb _).setCell (p:=⟨b,1,none⟩) hbb _,fun g h1 h2=> ?_⟩;rw[heap_setCell_other _ ⟨b,1,none⟩ g _ (by simpa using h2),heap_setCell_other _ ⟨b,0,none⟩ g _ (by simpa using h2),heap_setCell_other _ ⟨a,2,none⟩ g _ (by simpa using h1),heap_setCell_other _ ⟨a,1,none⟩ g _ (by simpa using h1),heap_setCell_other _ ⟨a,0,none⟩ g _ (by simpa using h1)]
end Go.Proofs.YteagjpnbiceafaaGreatDoor
namespace Go.Proofs.YteagjpnbiceafaaGreatDoor
open Go.RowKit Go.Shelf
theorem K.zp6 {l:List K.Rule}:∀(left:Nat) (a b:List Int) (s p:Int),(K.play l left a b s p).1≠0->(K.play l left a b s p).2=([],0,0):=by
 intro left
 induction left with
 | zero =>
  intro a b s p h;rw[K.play] at h ⊢
  by_cases hz:b.length=0
  ·rw[if_pos hz] at h;exact absurd rfl h
  ·rw[if_neg hz]
 | succ n ih =>
  intro a b s p h;rw[K.play] at h ⊢
  by_cases hz:b.length=0
  ·rw[if_pos hz] at h;exact absurd rfl h
  ·rw[if_neg hz] at h ⊢
   by_cases hk:K.which l (a++b) a.length<0
   ·rw[if_pos hk] at h ⊢;exact ih _ _ _ _ h
   ·rw[if_neg hk] at h ⊢;simp only at h ⊢;split
    ·rfl
    ·rename_i h2;rw[if_neg h2] at h;exact ih _ _ _ _ h
def Gm.Ply (l:List K.Rule) (t:List Int) (x:List Int) (s p f1 f2:Int):Prop :=
 ∃o:List J.Hd×Int×Int,Gm.Chk l t o/\((o.2.1≠0/\x= []/\s=0/\p=0/\f1=o.2.1/\f2=o.2.2)∨(o.2.1=0/\K.play l (8*t.length+40) [] t 0 0=(f1,x,s,p)/\f2=0))
theorem Gm.Vm.bad {wb w':World}{v:Value}{l:List K.Rule}{t:List Int}{ob:Nat}{mp:Value}{f1 f2:Int}(h:Gm.Vm wb w' v l t ob mp f1 f2)(hf:f1≠0):mp= .pointer none/\Gm.Ply l t [] 0 0 f1 f2:=by
 obtain⟨o,hc,⟨h1,h2,h3,h4⟩|⟨h1,p1,p2,p3,p4,h2,h3,h4,⟨h5,h6⟩|⟨h5,_⟩⟩⟩:=h
 ·exact⟨h2,o,hc,.inl ⟨h1,rfl,rfl,rfl,h3,h4⟩⟩
 ·refine⟨h6,o,hc,.inr ⟨h1,?_,h4⟩⟩;have:=K.zp6 (l:=l) (8*t.length+40) [] t 0 0 (by rw[h2];exact h5);rw[h2] at this;simp only[Prod.mk.injEq] at this;rw[h2,h3,this.1,this.2.1,this.2.2]
 ·exact absurd (h3.trans h5) hf
theorem Gm.Vm.good {wb w':World}{v:Value}{l:List K.Rule}{t:List Int}{ob:Nat}{mp:Value}{f2:Int}(h:Gm.Vm wb w' v l t ob mp 0 f2):∃mb x s p,mp= .pointer (some ⟨mb,0,none⟩)/\f2=0/\Gm.Ply l t x s p 0 0/\w'.heap[ob]?=some (.cells #[.slice none 0 0,.int .i64 s,.int .i64 p] 130)/\∃b g vh c,ob<b/\mb≠ob/\Gm.Mx b [mb] mb wb w' g v vh l c x []:=by
 obtain⟨o,hc,⟨h1,h2,h3,h4⟩|⟨h1,p1,p2,p3,p4,h2,h3,h4,⟨h5,h6⟩|⟨h5,mb,h6,h7,h8⟩⟩⟩:=h
 ·exact absurd h3.symm h1
 ·exact absurd h3.symm h5
 ·subst h5;exact⟨mb,p2,p3,p4,h6,h4,⟨o,hc,.inr ⟨h1,h2,rfl⟩⟩,h7,h8⟩
theorem zia (w:World)(v:Value)(l:List K.Rule)(R0:V.Rus w v l)(vt:Value)(t:List Int)(Rt:L.Rd w vt .i32 t)(ht:t.length<=140737488355328) :
  Calls Tryz.prog 132 #[v,vt] w fun e w'=>∃(v':Value) (x:List Int) (s p f1 f2:Int),e= .returned (.tuple #[.agg #[v',.int .i64 s,.int .i64 p],.agg #[.int .i64 f1,.int .i64 f2]])/\L.Rd w' v' .i32 x/\Gm.Ply l t x s p f1 f2/\x.length<=4000/\Below w.heap.size w w':=by
 obtain⟨wb,hwb⟩:∃wb,wb=(w.alloc (.cells #[.slice none 0 0,.int .i64 0,.int .i64 0] 130)).alloc (.cells #[.int .i64 0,.int .i64 0] 36):=⟨_,rfl⟩;have hBb:Below w.heap.size w wb:=by rw[hwb];exact((qR w).alloc qN _).alloc (by simp) _
 have hbs:wb.heap.size=w.heap.size+2:=by rw[hwb];simp
 have hx0:wb.heap[w.heap.size]?=some (.cells #[.slice none 0 0,.int .i64 0,.int .i64 0] 130):=by
  rw[hwb];show (((w.heap.push _).push _))[w.heap.size]?=_;rw[Array.getElem?_push,if_neg (by simp),Array.getElem?_push,if_pos rfl]
 have hx1:wb.heap[w.heap.size+1]?=some (.cells #[.int .i64 0,.int .i64 0] 36):=by
  rw[hwb];show (((w.heap.push _).push _))[w.heap.size+1]?=_;rw[Array.getElem?_push,if_pos (by simp)]
 have HPl:Hid (∀Y,Y=wb->Calls Tryz.prog 149 #[v,vt,.func (.func 148) #[] #[.pointer (some ⟨w.heap.size+2,0,none⟩)]] (Y.alloc (.cells #[.slice none 0 0,.int .i64 0,.int .i64 0] 130)) fun e w'=>∃mp f1 f2,e= .returned (.tuple #[mp,.agg #[.int .i64 f1,.int .i64 f2]])/\Below wb.heap.size wb w'/\Gm.Vm wb w' v l t (w.heap.size+2) mp f1 f2):=fun Y hY=>by
  rw[hY];have hal:Below wb.heap.size wb (wb.alloc (.cells #[.slice none 0 0,.int .i64 0,.int .i64 0] 130)):=(qR wb).alloc qN _;exact zh9 wb _ v l hal (R0.below hBb) vt t ((Rt.below hBb qN).below hal qN) ht (w.heap.size+2) (by omega) (by rw[<- hbs];exact heap_alloc_new wb _)
 have HWB:Hid (wb=(w.alloc (.cells #[.slice none 0 0,.int .i64 0,.int .i64 0] 130)).alloc (.cells #[.int .i64 0,.int .i64 0] 36)):=hwb;have HBb:Hid (Below w.heap.size w wb):=hBb;have HX:Hid (wb.heap[w.heap.size]?=some (.cells #[.slice none 0 0,.int .i64 0,.int .i64 0] 130)/\wb.heap[w.heap.size+1]?=some (.cells #[.int .i64 0,.int .i64 0] 36)/\wb.heap.size=w.heap.size+2):=⟨hx0,hx1,hbs⟩;obtain⟨va,vc,rfl⟩:=R0.len;clear R0 Rt hwb hBb hbs hx0 hx1
 go_enter Tryz.func132,Tryz.ntmps132
 go_wp2_with fail
 go_at_call 149
 refine(HPl.out _ HWB.out.symm).mono ?_;rintro e w1 ⟨mp,f1,f2,rfl,b1,hV⟩;have HV:Hid (Gm.Vm wb w1 (.slice va l.length vc) l t (w.heap.size+2) mp f1 f2):=hV;have HB1:Hid (Below w.heap.size w w1):=HBb.out.trans (b1.mono (by have:=HX.out.2.2;omega));have h0:w1.heap[w.heap.size]?=some (.cells #[.slice none 0 0,.int .i64 0,.int .i64 0] 130):=K.zae HX.out.1 b1;have h1:w1.heap[w.heap.size+1]?=some (.cells #[.int .i64 0,.int .i64 0] 36):=K.zae HX.out.2.1 b1;have hs1:w.heap.size+2<=w1.heap.size:=by have:=b1.size;have:=HX.out.2.2;omega
 clear b1 hV HPl HWB HX HBb
 by_cases q:f1=0
 ·subst q;obtain⟨mb,x,s,p,rfl,rfl,hply,hob,b,g,vh,c,hbb,hmo,hM⟩:=HV.out.good;have hol:w.heap.size+2<w1.heap.size:=lt_of_block hob;obtain⟨W,hW⟩:∃W,W=w1.alloc (.cells #[.int .i64 0,.int .i64 0] 36):=⟨_,rfl⟩;have hal:Below w1.heap.size w1 W:=by rw[hW];exact(qR w1).alloc qN _
  have hM2:=hM.below hal;have kg:W.cell? ⟨mb,0,none⟩=some (.pointer (some ⟨g,0,none⟩)):=K.zaf (i:=0) hM2.box rfl;obtain⟨ao,cur,hT⟩:=hM2.tx
  have HRu:Hid (∀Y,Y=W->Calls Tryz.prog 150 #[.pointer (some ⟨g,0,none⟩)] Y fun e w'=>∃v,e= .returned v/\w'.ownsRow W.heap.size 21 1 v x.length (x.map (Value.int .i32))/\Below W.heap.size W w'):=fun Y hY=>by
   rw[hY];have:=zku W _ g ao cur x [] hT;rw[List.append_nil] at this;exact this
  have hxl:x.length<=4000:=by have:=hT.few;simpa using this
  have HW:Hid (W=w1.alloc (.cells #[.int .i64 0,.int .i64 0] 36)):=hW;have e0:=K.zae h0 hal;have e1:=K.zae h1 hal;have e2:=K.zae hob hal;have HE:Hid (W.heap[w.heap.size]?=some (.cells #[.slice none 0 0,.int .i64 0,.int .i64 0] 130)/\W.heap[w.heap.size+1]?=some (.cells #[.int .i64 0,.int .i64 0] 36)/\W.heap[w.heap.size+2]?=some (.cells #[.slice none 0 0,.int .i64 s,.int .i64 p] 130)/\Below w.heap.size w W):=⟨e0,e1,e2,HB1.out.trans (hal.mono (by omega))⟩;have HPy:Hid (Gm.Ply l t x s p 0 0):=hply;rw[hW] at kg;have hmw:mb<w1.heap.size:=hM.old mb (by simp);clear hW hal hM hM2 hT hob e0 e1 e2 h0 h1 HV hply
  go_wp2_with fail
  go_at_call 150
  refine(HRu.out _ HW.out.symm).mono ?_;rintro e w2 ⟨v,rfl,own,b2⟩;have e0:=K.zae HE.out.1 b2;have e1:=K.zae HE.out.2.1 b2;have e2:=K.zae HE.out.2.2.1 b2;have HOw:Hid (w2.ownsRow W.heap.size 21 1 v x.length (x.map (Value.int .i32))/\Below w.heap.size w w2/\w1.heap.size<W.heap.size/\W.heap.size<=w2.heap.size):=⟨own,HE.out.2.2.2.trans (b2.mono HE.out.2.2.2.size),by rw[HW.out];simp,b2.size⟩;have hs2:w.heap.size+2<w2.heap.size:=lt_of_block e2
  obtain⟨xo,xc,rfl⟩:∃xo xc,v= .slice xo x.length xc:=by
   rcases own.2 with ⟨hv,h0⟩|⟨g,cap,cur,hv,_⟩
   ·exact⟨none,0,by rw[hv,h0]⟩
   ·exact⟨_,_,hv⟩
  have k0:=K.zaf (i:=0) e0 rfl;have k1:=K.zaf (i:=1) e0 rfl;have k2:=K.zaf (i:=2) e0 rfl;have k3:=K.zaf (i:=0) e1 rfl;have k4:=K.zaf (i:=1) e1 rfl;have k5:=K.zaf (i:=0) e2 rfl;have k6:=K.zaf (i:=1) e2 rfl;have k7:=K.zaf (i:=2) e2 rfl;have g0:∀i,w2.frozen? ⟨w.heap.size,i,none⟩=false:=fun i=>frozen_of_row w2 _ i _ _ e0
  have g1:∀i,w2.frozen? ⟨w.heap.size+1,i,none⟩=false:=fun i=>frozen_of_row w2 _ i _ _ e1
  have g2:∀i,w2.frozen? ⟨w.heap.size+2,i,none⟩=false:=fun i=>frozen_of_row w2 _ i _ _ e2
  clear own b2 e0 e1 e2 HRu HW HE kg;go_wp2;refine bodyPost_ret (v:= .tuple #[.agg #[.slice xo x.length xc,.int .i64 s,.int .i64 p],.agg #[.int .i64 0,.int .i64 0]]) (by simp[results,Tryz.results132,go_sem, *]) rfl ?_;obtain⟨own,hB2,hl1,hl2⟩:=HOw.out;have hB3:Below w.heap.size w (w2.setCell ⟨w.heap.size+2,0,none⟩ (.slice xo x.length xc)):=hB2.setCell (p:=⟨w.heap.size+2,0,none⟩) (by simp) _;refine⟨_,x,s,p,0,0,rfl,K.za8 (L.Rd.za6 own) fun hz k hk=> ?_,HPy.out,hxl,(K.five hB3 qN (by omega) _ _ _ _ _).1⟩;have hk1:=(own.lt k hk).1;rw[(K.five hB3 qN (by omega) _ _ _ _ _).2 k (by omega) (by omega)];exact heap_setCell_other _ _ k _ (by simp;omega)
 ·obtain⟨rfl,hply⟩:=HV.out.bad q;have HPy:Hid (Gm.Ply l t [] 0 0 f1 f2):=hply;have k0:∀o,(w1.alloc o).cell? ⟨w.heap.size,0,none⟩=some (.slice none 0 0):=fun o=>K.zai (K.zaf h0 rfl) o
  have k1:∀o,(w1.alloc o).cell? ⟨w.heap.size,1,none⟩=some (.int .i64 0):=fun o=>K.zai (K.zaf h0 rfl) o
  have k2:∀o,(w1.alloc o).cell? ⟨w.heap.size,2,none⟩=some (.int .i64 0):=fun o=>K.zai (K.zaf h0 rfl) o
  have k3:∀o,(w1.alloc o).cell? ⟨w.heap.size+1,0,none⟩=some (.int .i64 0):=fun o=>K.zai (K.zaf h1 rfl) o
  have k4:∀o,(w1.alloc o).cell? ⟨w.heap.size+1,1,none⟩=some (.int .i64 0):=fun o=>K.zai (K.zaf h1 rfl) o
  have g0:∀o i,(w1.alloc o).frozen? ⟨w.heap.size,i,none⟩=false:=fun o i=>K.zao h0 o i
  have g1:∀o i,(w1.alloc o).frozen? ⟨w.heap.size+1,i,none⟩=false:=fun o i=>K.zao h1 o i
  have HB2:Hid (∀o,Below w.heap.size w (w1.alloc o)):=fun o=>HB1.out.alloc (by omega) o
  clear h0 h1 HV HB1 hply;go_wp2
  go_region
  go_wp2;refine bodyPost_ret (v:= .tuple #[.agg #[.slice none 0 0,.int .i64 0,.int .i64 0],.agg #[.int .i64 f1,.int .i64 f2]]) (by simp[results,Tryz.results132,go_sem, *]) rfl ?_
  exact⟨_,[],0,0,f1,f2,rfl,⟨none,0,rfl,fun _=>rfl,fun h=>absurd rfl h⟩,HPy.out,by simp,(K.five (HB2.out _) qN (by omega) _ _ _ _ _).1.drew⟩
end Go.Proofs.YteagjpnbiceafaaGreatDoor
