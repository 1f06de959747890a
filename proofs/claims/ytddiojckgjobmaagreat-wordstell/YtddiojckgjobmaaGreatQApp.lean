/-
 Slices of runes, cut.
-/
import Derived.Test.YtddiojckgjobmaaGreatUni2
import Derived.Test.YtddiojckgjobmaaGreatCnMath
import Derived.Lib.AppendZerosOnto
import Derived.Lib.Walk
import Derived.Laws.OwnMore
import Derived.Lib.Overlaps
import Derived.Lib.SliceRun
import Derived.ArgAppend
import Derived.Deep.Upon
namespace Go.Proofs.YtddiojckgjobmaaGreat
open Go.RowKit
set_option maxRecDepth 20000
set_option linter.unusedSimpArgs false
set_option linter.unusedVariables false
namespace K
theorem zfg {w:World}{xo:Option Addr}{xc:Nat}{t:List Int}(h:L.Rd w (.slice xo t.length xc) .i32 t){n:Nat}(hn:n<=t.length):L.Rd w (.slice xo n xc) .i32 (t.take n):=by
 obtain⟨ao,cap,he,hz,hc⟩:=h;cases he;refine⟨xo,xc,by rw[List.length_take,Nat.min_eq_left hn],hz,fun hne=> ?_⟩;obtain⟨b,off,rfl,hcell⟩:=hc (by intro h;subst h;simp at hne);refine⟨b,off,rfl,fun j z hj=>hcell j z ?_⟩;rw[List.getElem?_take] at hj;split at hj
 ·exact hj
 ·cases hj
theorem zcg {w:World}{xo:Option Addr}{xc:Nat}{t:List Int}(h:L.Rd w (.slice xo t.length xc) .i32 t){d:Nat}(hd:d<=t.length)(hcap:t.length<=xc):L.Rd w (.slice (if xc=d then xo else Option.map (fun x=>x.add d) xo) (t.length - d) (xc - d)) .i32 (t.drop d):=by
 obtain⟨ao,cap,he,hz,hc⟩:=h;cases he;refine⟨_,_,by rw[List.length_drop],fun e=> ?_,fun hne=> ?_⟩
 ·cases xo with
  | none=>rw[hz rfl];simp
  | some a=>split at e <;> cases e
 ·have hp:=List.length_pos_iff.2 hne;rw[List.length_drop] at hp;obtain⟨b,off,rfl,hcell⟩:=hc (by intro h;subst h;simp at hp);rw[if_neg (by omega)];refine⟨b,off+d,by rw[Option.map_some,L.addr_add],fun j z hj=> ?_⟩;rw[List.getElem?_drop] at hj;rw[Nat.add_assoc];exact hcell _ z hj
end K
theorem K.zba (xo:Option Addr)(N xc n:Nat)(h:n<=xc)(w':World):(Instr.slice 26 (.slice xo N xc) none (some (.int .i64 (n:Int))) none).run Tryz.prog w'= .ok (.slice xo n xc) w':=by
 have a1:(n:Int)<=xc:=by omega
 have a0:(0:Int)<=n:=by omega
 go_simp
theorem K.zax (xo:Option Addr)(N xc D:Nat)(h:D<=N)(hc:N<=xc)(w':World):(Instr.slice 26 (.slice xo N xc) (some (.int .i64 (D:Int))) none none).run Tryz.prog w'= .ok (.slice (if xc=D then xo else Option.map (fun x=>x.add D) xo) (N - D) (xc - D)) w':=by
 have a1:(D:Int)<=N:=by omega
 have a2:(N:Int)<=xc:=by omega
 have a0:(0:Int)<=D:=by omega
 go_simp
end Go.Proofs.YtddiojckgjobmaaGreat
namespace Go.Proofs.YtddiojckgjobmaaGreat.K
open Go.RowKit
def ints (t:List Int):List Value:=t.map (Value.int .i32)
theorem zaj (t:List Int):(ints t).length=t.length:=by simp[ints]
theorem zcq (t:List Int):∀v∈ints t,v.oneCell'=true:=fun v hv=>by obtain⟨z,_,rfl⟩:=List.mem_map.1 hv;rfl
theorem zb8 {t:List Int}{j:Nat}{v:Value}(h:(ints t)[j]?=some v):∃z,t[j]?=some z/\v= .int .i32 z:=by
 unfold ints at h;rw[List.getElem?_map] at h;cases hz:t[j]? with
 | none=>rw[hz] at h;cases h
 | some z=>rw[hz] at h;cases h;exact⟨z,rfl,rfl⟩
def spl (cur:List Value) (o:Nat) (vs:List Value):List Value:=cur.take o++vs++cur.drop (o+vs.length)
theorem zdd {cur:List Value}{o:Nat}{vs:List Value}(h:o+vs.length<=cur.length):(spl cur o vs).length=cur.length:=by
 unfold spl;simp;omega
theorem zf3 {cur:List Value}{o:Nat}{vs:List Value}(h:o<=cur.length):(spl cur o vs).take o=cur.take o:=by
 unfold spl;rw[List.append_assoc,List.take_append_of_le_length (by simp;omega),List.take_take,Nat.min_self]
theorem zjj {cur:List Value}{o:Nat}{vs:List Value}(h:o<=cur.length):(spl cur o vs).take (o+vs.length)=cur.take o++vs:=by
 unfold spl;have:(cur.take o++vs).length=o+vs.length:=by simp;omega
 rw[<- this,List.take_left]
theorem zla {cur:List Value}{o n:Nat}{vs:List Value}(h:o<=cur.length)(hn:o+vs.length<=n):(spl cur o vs).drop n=cur.drop n:=by
 unfold spl;have e:(cur.take o++vs).length=o+vs.length:=by simp;omega
 rw[List.drop_append,List.drop_eq_nil_of_le (by omega),List.nil_append,e,List.drop_drop];congr 1;omega
theorem zkf {cur:List Value}{o n:Nat}{vs:List Value}(h:o<=cur.length)(hn:n<=o):(spl cur o vs).take n=cur.take n:=by
 have:=congrArg (List.take n) (zf3 (vs:=vs) h)
 rwa [List.take_take,List.take_take,Nat.min_eq_left hn] at this
def Row (w:World) (g:Nat) (cur:List Value):Prop:=w.heap[g]?=some (.cells cur.toArray 21 (0,0))
theorem Row.lt {w:World}{g:Nat}{cur:List Value}(h:Row w g cur):g<w.heap.size:=(qA.1 h).1
theorem Row.cell {w:World}{g:Nat}{cur:List Value}(h:Row w g cur)(j:Nat):w.cell? ⟨g,j,none⟩=cur[j]?:=by
 simp[World.cell?,show w.heap[g]?=_ from h]
theorem Row.free {w:World}{g:Nat}{cur:List Value}(h:Row w g cur)(j:Nat):w.frozen? ⟨g,j,none⟩=false:=frozen_of_row w g j _ _ h
theorem Row.set {w:World}{g:Nat}{cur:List Value}(h:Row w g cur)(cur':List Value):Row (w.setRow g cur'.toArray) g cur':=setRow_heap w g _ _ _ _ h
theorem zeu (w:World)(g:Nat)(c:Array Value):w.grownBy (w.setRow g c) (some g):=⟨rfl,rfl,rfl,by simp,fun k _ hk=>setRow_other w g k c fun e=>hk (by rw[e])⟩
theorem Row.drew {w:World}{g:Nat}{cur:List Value}(h:Row w g cur):Row w.drew g cur:=h
theorem Row.block {w w':World}{g:Nat}{cur:List Value}(h:Row w g cur)(e:w'.heap[g]?=w.heap[g]?):Row w' g cur:=e.trans h
theorem Row.cells {g:Nat}:∀(vs:List Value) {w:World} {cur:List Value} {o:Nat},Row w g cur->o+vs.length<=cur.length->Row (w.setCells g o vs) g (spl cur o vs)/\w.grownBy (w.setCells g o vs) (some g)
 | [],w,cur,o,h,_=>⟨by rw[World.setCells];simpa [spl] using h,⟨rfl,rfl,rfl,qN,fun _ _ _=>rfl⟩⟩
 | v::r,w,cur,o,h,hl=>by
  rw[List.length_cons] at hl
  have h1:Row (w.setCell ⟨g,o,none⟩ v) g (cur.set o v):=by
   have:=heap_setCell_same w g o _ _ v h;unfold Row;rw[this];simp
  obtain⟨h2,h3⟩:=Row.cells r h1 (o:=o+1) (by simp;omega)
  have e:spl (cur.set o v) (o+1) r=spl cur o (v::r):=by
   unfold spl
   have e1:(cur.set o v).take (o+1)=cur.take o++ [v]:=by
    rw[List.take_add_one,List.take_set_of_le (Nat.le_refl o),List.getElem?_set_self (by omega)];rfl
   rw[e1,List.drop_set_of_lt (by omega),List.length_cons];simp[Nat.add_assoc,Nat.add_comm 1]
  rw[World.setCells];rw[e] at h2;refine⟨h2,h3.os,h3.tape,h3.output,by simpa using h3.size,fun k hk hne=> ?_⟩;rw[h3.block k (by simpa using hk) hne];exact heap_setCell_other _ ⟨g,o,none⟩ k _ fun e=>hne (by simp[e])
theorem Row.copy {w:World}{g:Nat}{cur:List Value}(h:Row w g cur)(o dl dc:Nat)(a:Addr)(sl sc:Nat)(cs:List Value)(hn:cs.length=min sl dl)(hs:∀(j:Nat) v,cs[j]?=some v->w.cell? (a.add j)=some v)(hfit:o+cs.length<=cur.length)(h1:∀v∈cs,v.oneCell'=true) :
  ∃W,(∀ty,(Builtin.copy_ #[26,26] ty #[.slice (some ⟨g,o,none⟩) dl dc,.slice (some a) sl sc]).run Tryz.prog w= .ok (goInt cs.length) W)/\Row W g (spl cur o cs)/\w.grownBy W (some g):=by
 refine⟨_,fun ty=> ?_,h.set (spl cur o cs),zeu _ _ _⟩;obtain⟨i0,hi,hz0,hz1,hz2⟩:=info_parts Tryz.infoI32;exact run_copy_row (P:=Tryz.prog) w 26 26 ty 21 g o dl dc a sl sc _ _ cs Tryz.underlying26 (by rw[hi];simp[hz1]) h hn hs (by simpa using hfit) h1
theorem zka (w:World)(dp sp:Option Addr)(dl c1 c2:Nat)(ty:TypeId):(Builtin.copy_ #[26,26] ty #[.slice dp dl c1,.slice sp 0 c2]).run Tryz.prog w= .ok (goInt 0) w:=by
 obtain⟨i0,hi,hz0,hz1,hz2⟩:=info_parts Tryz.infoI32;exact run_copy_none w _ _ _ 21 _ _ _ _ _ _ Tryz.underlying26 (by rw[hi];simp[hz1]) (by simp)
theorem Row.clear {w:World}{g:Nat}{cur:List Value}(h:Row w g cur)(o n c:Nat)(hn:0<n)(hfit:o+n<=cur.length) :
  ∃W,(∀ty,(Builtin.clear_ #[26] ty #[.slice (some ⟨g,o,none⟩) n c]).run Tryz.prog w= .ok (.tuple #[]) W)/\Row W g (spl cur o (List.replicate n (.int .i32 0)))/\w.grownBy W (some g):=by
 obtain⟨i0,hi,hz0,hz1,hz2⟩:=info_parts Tryz.infoI32;have h2:=Row.cells (List.replicate n (.int .i32 0)) h (o:=o) (by simpa using hfit);refine⟨_,fun ty=> ?_,h2.1,h2.2⟩;exact Lib.run_clear_slice w 26 21 ty (.int .i32 0) Tryz.underlying26 (fun w=>by simp[zeroValue,typeInfo,hi,hz0]) rfl rfl g o n c hn (fun j hj=>by rw[h.cell,List.getElem?_eq_getElem (by omega)];rfl) (fun j _=>h.free _)
/-! copy and clear, by their runs, at a step of a walk -/
theorem wp_copy_run {P:Program}(w:World){o:Oper}{a:Act}{K:Act->World->Prop}{Q:Exit->Act->World->Prop}(d s:Operand)(t t':TypeId)
  (ho:o.op= .call { callee:= .builtin .copy,args:=#[d,s],argTypes:=#[t,t'] }) (v u:Value) (hd:a.eval d=v) (hs:a.eval s=u) {v':Value} {w':World}
  (hr:(Builtin.copy_ #[t,t'] o.type #[v,u]).run P w= .ok v' w') (h:K (a.put o.dst v') w'):o.wp P a w K Q:=by
 unfold Oper.wp execOp;simp only[ho,resolve,invoke,builtin,Sem.run_bind,Sem.run_pure,Result.andThen_ok,List.map_toArray,List.map_cons,List.map_nil,hd,hs,hr];exact h
theorem zk9 {P:Program}(w:World){ops:Array Oper}{rest:List Oper}{o:Oper}{a:Act}{Q:Exit->Act->World->Prop}(hgd:o.guard=none)(d s:Operand)(t t':TypeId)
  (ho:o.op= .call { callee:= .builtin .copy,args:=#[d,s],argTypes:=#[t,t'] }) (v u:Value) (hd:a.eval d=v) (hs:a.eval s=u) {v':Value} {w':World}
  (hr:(Builtin.copy_ #[t,t'] o.type #[v,u]).run P w= .ok v' w') (h:wpList P ops Q rest (a.put o.dst v') w'):wpList P ops Q (o::rest) a w :=
 wpList_plain hgd fun _ hK=>wp_copy_run w d s t t' ho v u hd hs hr (hK _ _ h)
theorem zd7 {P:Program}(w:World){o:Oper}{a:Act}{K:Act->World->Prop}{Q:Exit->Act->World->Prop}(s:Operand)(t:TypeId)
  (ho:o.op= .call { callee:= .builtin .clear,args:=#[s],argTypes:=#[t] }) (v:Value) (hs:a.eval s=v) {v':Value} {w':World}
  (hr:(Builtin.clear_ #[t] o.type #[v]).run P w= .ok v' w') (h:K (a.put o.dst v') w'):o.wp P a w K Q:=by
 unfold Oper.wp execOp;simp only[ho,resolve,invoke,builtin,Sem.run_bind,Sem.run_pure,Result.andThen_ok,List.map_toArray,List.map_cons,List.map_nil,hs,hr];exact h
theorem zh1 {P:Program}(w:World){ops:Array Oper}{rest:List Oper}{o:Oper}{a:Act}{Q:Exit->Act->World->Prop}(hgd:o.guard=none)(s:Operand)(t:TypeId)
  (ho:o.op= .call { callee:= .builtin .clear,args:=#[s],argTypes:=#[t] }) (v:Value) (hs:a.eval s=v) {v':Value} {w':World}
  (hr:(Builtin.clear_ #[t] o.type #[v]).run P w= .ok v' w') (h:wpList P ops Q rest (a.put o.dst v') w'):wpList P ops Q (o::rest) a w :=
 wpList_plain hgd fun _ hK=>zd7 w s t ho v hs hr (hK _ _ h)
end Go.Proofs.YtddiojckgjobmaaGreat.K
namespace Go.Proofs.YtddiojckgjobmaaGreat.K
open Go.RowKit
theorem zb9 (w:World)(B:Nat)(v:Value)(t:List Int)(own:w.ownsRow B 21 1 v t.length (ints t))(vx:Value)(zs:List Int)(hx:L.Rd w vx .i32 zs)(hl:t.length+zs.length<=100000000)(hB:B<=w.heap.size) :
  ∃v' w',(∀ty,(Builtin.append_ #[26,26] ty #[v,vx]).run Tryz.prog w= .ok v' w')/\w'.ownsRow B 21 1 v' (t++zs).length (ints (t++zs))/\w.grownBy w' v.ownBlock/\(v'.ownBlock=v.ownBlock∨∃k,v'.ownBlock=some k/\w.heap.size<=k):=by
 obtain⟨i0,hi,hz0,hz1,hz2⟩:=info_parts Tryz.infoI32;have he:ints (t++zs)=ints t++ints zs:=by unfold ints;rw[List.map_append]
 have hle:(t++zs).length=t.length+zs.length:=List.length_append
 by_cases h0:zs= []
 ·subst h0;obtain⟨ao,cx,rfl,hn,hc⟩:=hx
  obtain⟨vo,vc,rfl,hvc⟩:∃vo vc,v= .slice vo t.length vc/\t.length<=vc:=by
   rcases own.2 with ⟨h,h1⟩|⟨g,cap,cur,h,_,_,h1,_⟩
   ·exact⟨none,0,by rw[h,h1],by omega⟩
   ·exact⟨_,cap,h,h1⟩
  refine⟨_,w,fun ty=> ?_,by simpa using own,⟨rfl,rfl,rfl,qN,fun _ _ _=>rfl⟩,.inl rfl⟩;refine Go.run_append_nothing (P:=Tryz.prog) w _ _ ty 21 i0 Tryz.underlying26 hi vo t.length vc hvc _ ?_;cases ao with
  | none=>exact Go.Src.ofNil w Tryz.underlying26 cx
  | some ad=>exact Go.Src.ofSlice w Tryz.underlying26 ad 0 cx [] (by simp) (fun j u h=>by simp at h) (fun u h=>by simp at h)
 ·obtain⟨ao,cx,rfl,_,hcx⟩:=hx;obtain⟨bx,offx,rfl,hcellx⟩:=hcx h0;have hp:=List.length_pos_iff.2 h0
  have hnews:∀j u,(ints zs)[j]?=some u->w.cell? ((⟨bx,offx,none⟩:Addr).add j)=some u:=fun j u hj=>by
   obtain⟨z,hz,rfl⟩:=zb8 hj;rw[L.addr_add];exact hcellx j z hz
  have blk:∀(v':Value) (w':World),w'.ownsRow w.heap.size 21 1 v' (t.length+zs.length) (ints t++ints zs)->∃k,v'.ownBlock=some k/\w.heap.size<=k:=fun v' w' h=>by
   rcases h.2 with ⟨_,h1⟩|⟨g,cap,cur,h,hg,_⟩
   ·omega
   ·exact⟨g,by rw[h];rfl,hg⟩
  rw[he,hle];rcases own.2 with ⟨hv,h1⟩|⟨g,cap,cur,hv,hBg,hg,hnc,hcm,hcs,htk⟩
  ·have ht:t= []:=List.eq_nil_of_length_eq_zero h1;subst ht hv;obtain⟨v',w',hrun,r1,r2,_⟩:=run_append_own (P:=Tryz.prog) w w.heap.size 26 0 21 i0 (.int .i32 0) 1 4 Tryz.underlying26 hi hz0 hz1 hz2 rfl (by decide) (.slice none 0 0) 0 [] (World.ownsRow_nil w _ _ _) ⟨bx,offx,none⟩ zs.length cx (ints zs) (by rw[zaj];omega) hnews (zcq zs) (by unfold maxLen;simp at hl;omega) (by simp at hl;omega) qN;exact⟨v',w',fun ty=>hrun,L.za1 r1 hB,r2,.inr (blk v' w' r1)⟩
  ·subst hv
   by_cases hf:t.length+zs.length<=cap
   ·obtain⟨w',hrun,r1,r2⟩:=run_append_fits (P:=Tryz.prog) w B 26 0 21 i0 1 Tryz.underlying26 hi hz1 g t.length cap (ints t) own ⟨bx,offx,none⟩ zs.length cx (ints zs) (by rw[zaj];omega) hnews (zcq zs) hf;exact⟨_,w',fun ty=>hrun,r1,r2,.inl rfl⟩
   ·obtain⟨v',w',hrun,r1,r2⟩:=run_append_arg_grows (P:=Tryz.prog) w 26 0 21 i0 (.int .i32 0) 1 4 Tryz.underlying26 hi hz0 hz1 hz2 rfl (by decide) ⟨g,0,none⟩ t.length cap (ints t) (by rw[zaj];omega) (fun j u hj=>World.ownsRow.cells own (g:=g) rfl j u hj) ⟨bx,offx,none⟩ zs.length cx (ints zs) (by rw[zaj];omega) hnews (by omega) (by unfold maxLen;omega) (by omega);exact⟨v',w',fun ty=>hrun,L.za1 r1 hB,⟨r2.os,r2.tape,r2.output,r2.size,fun k hk _=>r2.block k hk (by simp)⟩,.inr (blk v' w' r1)⟩
theorem zaz {w w':World}{v:Value}{zs:List Int}(h:L.Rd w v .i32 zs)(hb:zs≠ []->∀k,v.ownBlock=some k->w'.heap[k]?=w.heap[k]?):L.Rd w' v .i32 zs:=by
 obtain⟨ao,cap,rfl,hn,hc⟩:=h;refine⟨ao,cap,rfl,hn,fun hz=> ?_⟩;obtain⟨b,off,rfl,hcell⟩:=hc hz;refine⟨b,off,rfl,fun j z hj=> ?_⟩;rw[World.cell?_of_block (a:=⟨b,off+j,none⟩) (hb hz b rfl)];exact hcell j z hj
theorem zeo {w w':World}{B:Nat}{v:Value}{n:Nat}{xs:List Value}(h:w.ownsRow B 21 1 v n xs)(hb:∀k,v.ownBlock=some k->w'.heap[k]?=w.heap[k]?):w'.ownsRow B 21 1 v n xs:=by
 refine⟨h.1,?_⟩;rcases h.2 with h | ⟨g,cap,cur,hv,hB,hg,r⟩
 ·exact .inl h
 ·exact .inr ⟨g,cap,cur,hv,hB,by rw[hb g (by rw[hv];rfl)];exact hg,r⟩
structure Dr (wB wr:World) (b:Nat) (s p:Int) (vd vr:Value) (done rest:List Int):Prop where
 hb:b<wB.heap.size
 own:wr.ownsRow wB.heap.size 21 1 vd done.length (ints done)
 rd:L.Rd wr vr .i32 rest
 apart:rest≠ []->∀k,vd.ownBlock=some k->vr.ownBlock≠some k
 out:wr.heap[b]?=some (.cells #[.slice none 0 0,.int .i64 s,.int .i64 p] 86)
 grown:wB.grownBy wr (some b)
theorem Dr.zif {wB wr:World}{b:Nat}{s p:Int}{vd vr:Value}{done rest:List Int}(h:Dr wB wr b s p vd vr done rest)(hz:rest≠ []):∀k,vr.ownBlock=some k->k≠b:=by
 obtain⟨ao,cap,rfl,hn,hc⟩:=h.rd;obtain⟨b',off,rfl,hcell⟩:=hc hz;intro k hk e;have:b'=k:=by simpa [Value.ownBlock] using hk
 subst this e;obtain⟨z,hz2⟩:∃z,rest[0]?=some z:=⟨rest[0]'(List.length_pos_iff.2 hz),by simp⟩;have hc0:=hcell 0 z hz2;rw[World.cell?] at hc0;simp only[show wr.heap[b']?=_ from h.out] at hc0;simp at hc0;have hlt:=(qL.1 hc0).1
 match off,hc0 with
 | 0,hc0=>simp at hc0
 | 1,hc0=>simp at hc0
 | 2,hc0=>simp at hc0
 | n+3,_=>simp at hlt;omega
theorem Dr.set1 {wB wr:World}{b:Nat}{s p:Int}{vd vr:Value}{done rest:List Int}(h:Dr wB wr b s p vd vr done rest)(n:Int):Dr wB (wr.setCell ⟨b,1,none⟩ (.int .i64 n)) b n p vd vr done rest:=by
 have oth:∀k,k≠b->(wr.setCell ⟨b,1,none⟩ (.int .i64 n)).heap[k]?=wr.heap[k]?:=fun k hk=>heap_setCell_other wr ⟨b,1,none⟩ k _ (by simpa using hk)
 refine⟨h.hb,zeo h.own fun k hk=>oth k (by have:=(h.own.lt k hk).1;have:=h.hb;omega),zaz h.rd fun hz k hk=>oth k (h.zif hz k hk),h.apart,heap_setCell_same wr b 1 _ _ _ h.out,S.zam h.grown ⟨rfl,rfl,rfl,by simp,fun k _ hk=>oth k fun e=>hk (by rw[e])⟩⟩
theorem Dr.set2 {wB wr:World}{b:Nat}{s p:Int}{vd vr:Value}{done rest:List Int}(h:Dr wB wr b s p vd vr done rest)(n:Int):Dr wB (wr.setCell ⟨b,2,none⟩ (.int .i64 n)) b s n vd vr done rest:=by
 have oth:∀k,k≠b->(wr.setCell ⟨b,2,none⟩ (.int .i64 n)).heap[k]?=wr.heap[k]?:=fun k hk=>heap_setCell_other wr ⟨b,2,none⟩ k _ (by simpa using hk)
 refine⟨h.hb,zeo h.own fun k hk=>oth k (by have:=(h.own.lt k hk).1;have:=h.hb;omega),zaz h.rd fun hz k hk=>oth k (h.zif hz k hk),h.apart,heap_setCell_same wr b 2 _ _ _ h.out,S.zam h.grown ⟨rfl,rfl,rfl,by simp,fun k _ hk=>oth k fun e=>hk (by rw[e])⟩⟩
theorem Dr.below {wB wr w':World}{b:Nat}{s p:Int}{vd vr:Value}{done rest:List Int}(h:Dr wB wr b s p vd vr done rest)(hb:Below wr.heap.size wr w'):Dr wB w' b s p vd vr done rest :=
 ⟨h.hb,L.zat h.own hb qN,h.rd.below hb qN,h.apart,zab h.out hb,S.zam h.grown (S.zbi hb)⟩
theorem Dr.other {wB wr:World}{b:Nat}{s p:Int}{vd vr vr':Value}{done rest rest':List Int}(h:Dr wB wr b s p vd vr done rest)(hr:L.Rd wr vr' .i32 rest')(ha:rest'≠ []->∀k,vd.ownBlock=some k->vr'.ownBlock≠some k):Dr wB wr b s p vd vr' done rest':=⟨h.hb,h.own,hr,ha,h.out,h.grown⟩
theorem Dr.push {wB wr w':World}{b:Nat}{s p:Int}{vd vr vd':Value}{done rest done':List Int}(h:Dr wB wr b s p vd vr done rest)(ho:w'.ownsRow wB.heap.size 21 1 vd' done'.length (ints done'))(hg:wr.grownBy w' vd.ownBlock)(hv:vd'.ownBlock=vd.ownBlock∨∃k,vd'.ownBlock=some k/\wr.heap.size<=k):Dr wB w' b s p vd' vr done' rest:=by
 have hin:∀k,rest≠ []->vr.ownBlock=some k->k<wr.heap.size:=fun k hz hk=>by
  obtain⟨ao,cap,e,_,hc⟩:=h.rd;obtain⟨b',off,e2,hcell⟩:=hc hz;subst e2;rw[e] at hk;have:b'=k:=by simpa [Value.ownBlock] using hk
  subst this;obtain⟨z,hz2⟩:∃z,rest[0]?=some z:=⟨rest[0]'(List.length_pos_iff.2 hz),by simp⟩;exact L.block_lt (hcell 0 z hz2)
 have hbl:b<wr.heap.size:=Nat.lt_of_lt_of_le h.hb h.grown.size;refine⟨h.hb,ho,zaz h.rd fun hz k hk=>hg.block k (hin k hz hk) fun e=>h.apart hz k e.symm hk,fun hz k hk e=> ?_,?_,h.grown.os▸hg.os▸rfl,h.grown.tape▸hg.tape▸rfl,h.grown.output▸hg.output▸rfl,Nat.le_trans h.grown.size hg.size,fun k hk hne=> ?_⟩
 ·rcases hv with hv | ⟨k',hv,hk'⟩
  ·exact h.apart hz k (hv▸hk) e
  ·rw[hv] at hk;cases hk;have:=hin _ hz e;omega
 ·rw[hg.block b hbl fun e=>by have:=(h.own.lt b e.symm).1;have:=h.hb;omega];exact h.out
 ·rw[hg.block k (Nat.lt_of_lt_of_le hk h.grown.size) fun e=>by have:=(h.own.lt k e.symm).1;omega];exact h.grown.block k hk hne
end Go.Proofs.YtddiojckgjobmaaGreat.K
