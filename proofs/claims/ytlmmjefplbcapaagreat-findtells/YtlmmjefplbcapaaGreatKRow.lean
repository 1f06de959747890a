/-
  Rows of structs of numbers that are being made: one more.
-/
import Derived.Test.YtlmmjefplbcapaaGreatXReady
import Derived.Test.YtlmmjefplbcapaaGreatAlPlay
import Derived.Test.YtlmmjefplbcapaaGreatAlApp
import Derived.Lib.AppendZeros
import Derived.Lib.AppendZerosOnto
import Derived.Lib.Walk
import Derived.Laws.OwnMore
import Derived.Lib.Overlaps
import Derived.Lib.SliceRun
namespace Go.Proofs.YtlmmjefplbcapaaGreat
open Go.RowKit Go.Shelf
set_option maxRecDepth 20000
set_option linter.unusedSimpArgs false
set_option linter.unusedVariables false

theorem Tryz.infoShot : (Tryz.prog.info? 51).map (fun i => (i.zero, i.size, i.bytes)) = some (some (.agg #[.int .i64 0, .int .i64 0]), 2, 16) := by kernel_rfl
theorem Tryz.infoLink : (Tryz.prog.info? 44).map (fun i => (i.zero, i.size, i.bytes)) = some (some (.agg #[.int .i64 0, .int .i64 0, .int .i64 0, .int .i64 0, .int .i64 0]), 5, 40) := by kernel_rfl

namespace Al
def scells (sh : List (Int × Int)) : List Value := sh.flatMap fun x => [.int .i64 x.1, .int .i64 x.2]
theorem scells_append (a b : List (Int × Int)) : scells (a ++ b) = scells a ++ scells b := by simp [scells]
def lcells (sh : List Lk) : List Value := sh.flatMap fun x => [.int .i64 x.fr, .int .i64 x.up, .int .i64 x.beg, .int .i64 x.fin, .int .i64 x.rule]
theorem lcells_append (a b : List Lk) : lcells (a ++ b) = lcells a ++ lcells b := by simp [lcells]

end Al
end Go.Proofs.YtlmmjefplbcapaaGreat

/-
  Trace's function: each step is told to its row, whose box lies below the machine.
-/
namespace Go.Proofs.YtlmmjefplbcapaaGreat
open Go.RowKit Go.Shelf
set_option maxRecDepth 20000
set_option linter.unusedSimpArgs false
set_option linter.unusedVariables false

/-- Trace's box, its row, and that heads hang on neither -/
def Al.Tr (b ob : Nat) (vh : Value) (l : List K.Rule) (c : List Int) (W : World) (ms : List Nat) (sh : List (Int × Int)) : Prop :=
  (∃ v, W.heap[ob]? = some (.cells #[v] 46) ∧ W.ownsRow b 51 2 v sh.length (Al.scells sh) ∧ ∀ q, v.ownBlock = some q → q ∈ ms) ∧ (∀ q ∈ ms, ∃ cs p, W.heap[q]? = some (.cells cs 51 p)) ∧ ∀ W', (∀ j, j < b → j ≠ ob → W'.heap[j]? = W.heap[j]?) → J.Rd W' vh (J.heads (J.begins l) c (c.length - 1))

theorem Al.Tr.keep {b ob mb : Nat} {vh : Value} {l : List K.Rule} {c : List Int} {W W' : World} {ms : List Nat} {sh : List (Int × Int)} (h : Al.Tr b ob vh l c W ms sh) (hob : ob < b) (hb : Gm.Fr ⟨b, mb :: ms⟩ W W') : Al.Tr b ob vh l c W' ms sh := by
  obtain ⟨⟨v, h1, h2, h3⟩, h4, h5⟩ := h
  have hk : ∀ q ∈ ms, q < W.heap.size → W'.heap[q]? = W.heap[q]? := fun q hq hl => hb.2 q (List.mem_cons_of_mem _ hq) hl
  refine ⟨⟨v, (hb.1.block ob hob).trans h1, Al.held h2 fun q hq hl => hk q (h3 q hq) hl, h3⟩, fun q hq => ?_, fun W2 e => h5 W2 fun j hj hne => (e j hj hne).trans (hb.1.block j hj)⟩
  obtain ⟨cs, p, hx⟩ := h4 q hq
  exact ⟨cs, p, (hk q hq (lt_of_block hx)).trans hx⟩

/-- the machine stays where Trace's box and row alone are changed -/
theorem Gm.Mx.tells {b ob mb : Nat} {ms ns : List Nat} {wb w w' : World} {g : Nat} {vr vh : Value} {l : List K.Rule} {c A Z : List Int} (M : Gm.Mx b (mb :: ms) mb wb w g vr vh l c A Z) (hb : ob < b) (hmb : mb ≠ ob)
    (hm : ∀ q ∈ ms, ∃ cs p, w.heap[q]? = some (.cells cs 51 p)) (hn : ∀ q ∈ ns, ∃ cs p, w'.heap[q]? = some (.cells cs 51 p))
    (hs : w.heap.size ≤ w'.heap.size) (hbel : Below wb.heap.size wb w') (e : ∀ j, j < w.heap.size → j ≠ ob → j ∉ ms → w'.heap[j]? = w.heap[j]?) (hd : ∀ W', (∀ j, j < b → j ≠ ob → W'.heap[j]? = w.heap[j]?) → J.Rd W' vh (J.heads (J.begins l) c (c.length - 1))) (hms : ∀ q ∈ ms, b ≤ q) : Gm.Mx b (mb :: ns) mb wb w' g vr vh l c A Z := by
  obtain ⟨ao, cur, hT⟩ := M.tx
  have hg : b ≤ g := hT.hB.1
  have htop := M.top
  have hml : mb < w.heap.size := lt_of_block M.box
  have hmm : mb ∉ ms := fun h => by
    obtain ⟨cs, p, hx⟩ := hm mb h
    have := hx.symm.trans M.box
    simp at this
  have hgm : g ∉ ms := fun h => hT.hB.2 (List.mem_cons_of_mem _ h)
  have ebox := (e mb hml hmb hmm).trans M.box
  have eg := hT.box.block (e g hT.box.lt (by omega) hgm)
  have er : ∀ r, ao = some ⟨r, 0, none⟩ → w'.heap[r]? = w.heap[r]? := fun r hr => by
    have h1 := hT.room.lt r hr
    have h2 : b ≤ r := h1.1.1
    exact e r h1.2 (by omega) fun h => h1.1.2 (List.mem_cons_of_mem _ h)
  have hroom := hT.room.block er
  have h2 : Gm.Tx ⟨b, mb :: ms⟩ g ao cur A Z w' := ⟨hT.hB, eg, hroom, hT.ne, hT.fit, hT.most, hT.few, hT.ahead, hT.behind⟩
  refine ⟨M.base, hbel, ebox, by simp, fun j hj => ?_, ⟨ao, cur, h2.re ⟨hg, fun h => ?_⟩ fun q hq => ?_⟩, M.rus, fun W hW => ?_⟩
  · rcases List.mem_cons.1 hj with rfl | hj
    · omega
    · obtain ⟨cs, p, hx⟩ := hn j hj
      exact lt_of_block hx
  · rcases List.mem_cons.1 h with h | h
    · exact hT.hB.2 (by rw [h]; simp)
    · obtain ⟨cs, p, hx⟩ := hn g h
      have := hx.symm.trans eg
      simp at this
  · have h1 := hT.room.lt q hq
    refine ⟨h1.1.1, fun h => ?_⟩
    rcases List.mem_cons.1 h with h | h
    · exact h1.1.2 (by rw [h]; simp)
    · obtain ⟨cs, p, hx⟩ := hn q h
      rcases hroom with ⟨h0, _⟩ | ⟨r, hr, _, hx2⟩
      · rw [h0] at hq; cases hq
      · rw [hr] at hq
        cases hq
        have := hx.symm.trans hx2
        simp at this
  · refine hd W fun j hj hne => (hW.block j hj).trans (e j (by omega) hne fun h => ?_)
    have := hms j h
    omega

set_option maxHeartbeats 4000000 in
theorem xtell_any (W : World) (b ob : Nat) (v : Value) (sh : List (Int × Int)) (at_ k : Int) (h : W.heap[ob]? = some (.cells #[v] 46)) (own : W.ownsRow b 51 2 v sh.length (Al.scells sh)) (hob : ob < b) (hb : b ≤ W.heap.size) (hl : sh.length ≤ 100000) :
    Calls Tryz.prog 26 #[.agg #[.int .i64 at_, .int .i64 k], .pointer (some ⟨ob, 0, none⟩)] W fun e w' => e = .returned (.tuple #[]) ∧ ∃ v', w'.heap[ob]? = some (.cells #[v'] 46) ∧ w'.ownsRow b 51 2 v' (sh.length + 1) (Al.scells (sh ++ [(at_, k)])) ∧ W.heap.size ≤ w'.heap.size ∧ (∀ B, B ≤ ob → Below B W w') ∧ (∀ j, j < W.heap.size → j ≠ ob → v.ownBlock ≠ some j → w'.heap[j]? = W.heap[j]?) := by
  obtain ⟨vo, vc, rfl⟩ : ∃ vo vc, v = .slice vo sh.length vc := by
    rcases own.2 with ⟨hv, h0⟩ | ⟨g, cap, cur, hv, _⟩
    · exact ⟨none, 0, by rw [hv, h0]⟩
    · exact ⟨_, cap, hv⟩
  generalize hv : Value.slice vo sh.length vc = v at *
  obtain ⟨X, hX⟩ : ∃ X, X = W.alloc (.cells #[.int .i64 at_, .int .i64 k] 51) := ⟨_, rfl⟩
  have hbX : Below W.heap.size W X := by rw [hX]; exact (Below.refl _ W).alloc (Nat.le_refl _) _
  have hXs : X.heap.size = W.heap.size + 1 := by rw [hX]; simp
  have ownX : X.ownsRow b 51 2 v sh.length (Al.scells sh) := by rw [hX]; exact own.alloc _
  have hnew : X.heap[W.heap.size]? = some (.cells #[.int .i64 at_, .int .i64 k] 51) := by rw [hX]; exact heap_alloc_new W _
  have hbo : X.heap[ob]? = some (.cells #[v] 46) := (hbX.block ob (by omega)).trans h
  obtain ⟨ao1, vc1, w1, run1, own1, kp1, sz1, be1⟩ := Al.app (sl := 46) Tryz.underlying46 Tryz.infoShot rfl (by decide) (by decide) ownX (by omega) (by omega) [.int .i64 at_, .int .i64 k] rfl (fun u hu => by simp at hu; rcases hu with rfl | rfl <;> rfl)
  have hvo : v.ownBlock ≠ some ob := fun e => by have := (Al.block own e).1; omega
  have ho1 : w1.heap[ob]? = some (.cells #[v] 46) := (kp1 ob (by omega) hvo).trans hbo
  have HQ : Hid (∀ y, y = Value.slice ao1 (sh.length + 1) vc1 → ∃ v', (w1.setCell ⟨ob, 0, none⟩ y).heap[ob]? = some (.cells #[v'] 46) ∧ (w1.setCell ⟨ob, 0, none⟩ y).ownsRow b 51 2 v' (sh.length + 1) (Al.scells (sh ++ [(at_, k)])) ∧ W.heap.size ≤ (w1.setCell ⟨ob, 0, none⟩ y).heap.size ∧ (∀ B, B ≤ ob → Below B W (w1.setCell ⟨ob, 0, none⟩ y)) ∧ (∀ j, j < W.heap.size → j ≠ ob → v.ownBlock ≠ some j → (w1.setCell ⟨ob, 0, none⟩ y).heap[j]? = W.heap[j]?)) := by
    rintro y rfl
    refine ⟨_, heap_setCell_same w1 ob 0 _ _ _ ho1, ?_, by simp; omega, fun B hB => ((hbX.mono (by omega)).trans (be1.mono (by omega))).setCell (p := ⟨ob, 0, none⟩) hB _, fun j hj hne hv => ?_⟩
    · rw [Al.scells_append]
      exact Al.held own1 fun q hq _ => heap_setCell_other w1 _ q _ (by have := (Al.block own1 hq).1; simp; omega)
    · rw [heap_setCell_other w1 ⟨ob, 0, none⟩ j _ (by simpa using hne), kp1 j (by omega) hv]
      exact hbX.block j hj
  have c1 : W.cell? ⟨ob, 0, none⟩ = some v := K.at_box (i := 0) h rfl
  have hobl : ob < W.heap.size := by omega
  have hne : ob ≠ W.heap.size := by omega
  have fr : w1.frozen? ⟨ob, 0, none⟩ = false := frozen_of_row w1 _ 0 _ _ ho1
  have d1 : w1.cell? ⟨ob, 0, none⟩ = some v := K.at_box (i := 0) ho1 rfl
  rw [hXs] at run1
  rw [hX] at run1
  subst hv
  have hlen : sh.length ≤ 100000 := hl
  clear hbX hX hXs ownX hnew hbo own1 kp1 be1 ho1 hvo own h sz1
  go_enter Tryz.func26, Tryz.ntmps26
  go_wp2_with (at_builtin; refine Lib.wpList_append_run _ rfl _ _ _ _ rfl _ _ rfl rfl _ _ (run1 _) ?_; clear run1)
  refine bodyPost_end (results_none rfl _ _ _) rfl ?_
  exact ⟨rfl, HQ.out _ rfl⟩
end Go.Proofs.YtlmmjefplbcapaaGreat

/-
  A row of runes of the call's own: what is copied into it, and cleared in it.
-/
namespace Go.Proofs.YtlmmjefplbcapaaGreat.K
open Go.RowKit

def spl (cur : List Value) (o : Nat) (vs : List Value) : List Value := cur.take o ++ vs ++ cur.drop (o + vs.length)
theorem spl_length {cur : List Value} {o : Nat} {vs : List Value} (h : o + vs.length ≤ cur.length) : (spl cur o vs).length = cur.length := by
  unfold spl; simp; omega
theorem spl_take {cur : List Value} {o : Nat} {vs : List Value} (h : o ≤ cur.length) : (spl cur o vs).take o = cur.take o := by
  unfold spl
  rw [List.append_assoc, List.take_append_of_le_length (by simp; omega), List.take_take, Nat.min_self]
theorem spl_upto {cur : List Value} {o : Nat} {vs : List Value} (h : o ≤ cur.length) : (spl cur o vs).take (o + vs.length) = cur.take o ++ vs := by
  unfold spl
  have : (cur.take o ++ vs).length = o + vs.length := by simp; omega
  rw [← this, List.take_left]
theorem spl_drop {cur : List Value} {o n : Nat} {vs : List Value} (h : o ≤ cur.length) (hn : o + vs.length ≤ n) : (spl cur o vs).drop n = cur.drop n := by
  unfold spl
  have e : (cur.take o ++ vs).length = o + vs.length := by simp; omega
  rw [List.drop_append, List.drop_eq_nil_of_le (by omega), List.nil_append, e, List.drop_drop]
  congr 1
  omega
theorem spl_take_le {cur : List Value} {o n : Nat} {vs : List Value} (h : o ≤ cur.length) (hn : n ≤ o) : (spl cur o vs).take n = cur.take n := by
  have := congrArg (List.take n) (spl_take (vs := vs) h)
  rwa [List.take_take, List.take_take, Nat.min_eq_left hn] at this

/-- block g holds these cells, and nothing of it is frozen -/
def Row (w : World) (g : Nat) (cur : List Value) : Prop := w.heap[g]? = some (.cells cur.toArray 21 (0, 0))
theorem Row.lt {w : World} {g : Nat} {cur : List Value} (h : Row w g cur) : g < w.heap.size := (Array.getElem?_eq_some_iff.1 h).1
theorem Row.cell {w : World} {g : Nat} {cur : List Value} (h : Row w g cur) (j : Nat) : w.cell? ⟨g, j, none⟩ = cur[j]? := by
  simp [World.cell?, show w.heap[g]? = _ from h]
theorem Row.free {w : World} {g : Nat} {cur : List Value} (h : Row w g cur) (j : Nat) : w.frozen? ⟨g, j, none⟩ = false := frozen_of_row w g j _ _ h
theorem Row.set {w : World} {g : Nat} {cur : List Value} (h : Row w g cur) (cur' : List Value) : Row (w.setRow g cur'.toArray) g cur' := setRow_heap w g _ _ _ _ h
theorem grown_set (w : World) (g : Nat) (c : Array Value) : w.grownBy (w.setRow g c) (some g) := ⟨rfl, rfl, rfl, by simp, fun k _ hk => setRow_other w g k c fun e => hk (by rw [e])⟩
theorem Row.drew {w : World} {g : Nat} {cur : List Value} (h : Row w g cur) : Row w.drew g cur := h
theorem Row.block {w w' : World} {g : Nat} {cur : List Value} (h : Row w g cur) (e : w'.heap[g]? = w.heap[g]?) : Row w' g cur := e.trans h

theorem Row.cells {g : Nat} : ∀ (vs : List Value) {w : World} {cur : List Value} {o : Nat}, Row w g cur → o + vs.length ≤ cur.length → Row (w.setCells g o vs) g (spl cur o vs) ∧ w.grownBy (w.setCells g o vs) (some g)
  | [], w, cur, o, h, _ => ⟨by rw [World.setCells]; simpa [spl] using h, ⟨rfl, rfl, rfl, Nat.le_refl _, fun _ _ _ => rfl⟩⟩
  | v :: r, w, cur, o, h, hl => by
    rw [List.length_cons] at hl
    have h1 : Row (w.setCell ⟨g, o, none⟩ v) g (cur.set o v) := by
      have := heap_setCell_same w g o _ _ v h
      unfold Row
      rw [this]
      simp
    obtain ⟨h2, h3⟩ := Row.cells r h1 (o := o + 1) (by simp; omega)
    have e : spl (cur.set o v) (o + 1) r = spl cur o (v :: r) := by
      unfold spl
      have e1 : (cur.set o v).take (o + 1) = cur.take o ++ [v] := by
        rw [List.take_add_one, List.take_set_of_le (Nat.le_refl o), List.getElem?_set_self (by omega)]
        rfl
      rw [e1, List.drop_set_of_lt (by omega), List.length_cons]
      simp [Nat.add_assoc, Nat.add_comm 1]
    rw [World.setCells]
    rw [e] at h2
    refine ⟨h2, h3.os, h3.tape, h3.output, by simpa using h3.size, fun k hk hne => ?_⟩
    rw [h3.block k (by simpa using hk) hne]
    exact heap_setCell_other _ ⟨g, o, none⟩ k _ fun e => hne (by simp [e])

/-- copy into the row -/
theorem Row.copy {w : World} {g : Nat} {cur : List Value} (h : Row w g cur) (o dl dc : Nat) (a : Addr) (sl sc : Nat) (cs : List Value) (hn : cs.length = min sl dl) (hs : ∀ (j : Nat) v, cs[j]? = some v → w.cell? (a.add j) = some v) (hfit : o + cs.length ≤ cur.length) (h1 : ∀ v ∈ cs, v.oneCell' = true) :
    ∃ W, (∀ ty, (Builtin.copy_ #[23, 23] ty #[.slice (some ⟨g, o, none⟩) dl dc, .slice (some a) sl sc]).run Tryz.prog w = .ok (goInt cs.length) W) ∧ Row W g (spl cur o cs) ∧ w.grownBy W (some g) := by
  refine ⟨_, fun ty => ?_, h.set (spl cur o cs), grown_set _ _ _⟩
  obtain ⟨i0, hi, hz0, hz1, hz2⟩ := info_parts Tryz.infoRune
  exact run_copy_row (P := Tryz.prog) w 23 23 ty 21 g o dl dc a sl sc _ _ cs Tryz.underlying23 (by rw [hi]; simp [hz1]) h hn hs (by simpa using hfit) h1

theorem copy_nothing (w : World) (dp sp : Option Addr) (dl c1 c2 : Nat) (ty : TypeId) : (Builtin.copy_ #[23, 23] ty #[.slice dp dl c1, .slice sp 0 c2]).run Tryz.prog w = .ok (goInt 0) w := by
  obtain ⟨i0, hi, hz0, hz1, hz2⟩ := info_parts Tryz.infoRune
  exact run_copy_none w _ _ _ 21 _ _ _ _ _ _ Tryz.underlying23 (by rw [hi]; simp [hz1]) (by simp)

/-- clear a stretch of the row -/
theorem Row.clear {w : World} {g : Nat} {cur : List Value} (h : Row w g cur) (o n c : Nat) (hn : 0 < n) (hfit : o + n ≤ cur.length) :
    ∃ W, (∀ ty, (Builtin.clear_ #[23] ty #[.slice (some ⟨g, o, none⟩) n c]).run Tryz.prog w = .ok (.tuple #[]) W) ∧ Row W g (spl cur o (List.replicate n (.int .i32 0))) ∧ w.grownBy W (some g) := by
  obtain ⟨i0, hi, hz0, hz1, hz2⟩ := info_parts Tryz.infoRune
  have h2 := Row.cells (List.replicate n (.int .i32 0)) h (o := o) (by simpa using hfit)
  refine ⟨_, fun ty => ?_, h2.1, h2.2⟩
  exact Lib.run_clear_slice w 23 21 ty (.int .i32 0) Tryz.underlying23 (fun w => by simp [zeroValue, typeInfo, hi, hz0]) rfl rfl g o n c hn (fun j hj => by rw [h.cell, List.getElem?_eq_getElem (by omega)]; rfl) (fun j _ => h.free _)

/-! copy and clear, by their runs, at a step of a walk -/
theorem wp_copy_run {P : Program} (w : World) {o : Oper} {a : Act} {K : Act → World → Prop} {Q : Exit → Act → World → Prop} (d s : Operand) (t t' : TypeId)
    (ho : o.op = .call { callee := .builtin .copy, args := #[d, s], argTypes := #[t, t'] }) (v u : Value) (hd : a.eval d = v) (hs : a.eval s = u) {v' : Value} {w' : World}
    (hr : (Builtin.copy_ #[t, t'] o.type #[v, u]).run P w = .ok v' w') (h : K (a.put o.dst v') w') : o.wp P a w K Q := by
  unfold Oper.wp execOp
  simp only [ho, resolve, invoke, builtin, Sem.run_bind, Sem.run_pure, Result.andThen_ok, List.map_toArray, List.map_cons, List.map_nil, hd, hs, hr]
  exact h
theorem wpl_copy {P : Program} (w : World) {ops : Array Oper} {rest : List Oper} {o : Oper} {a : Act} {Q : Exit → Act → World → Prop} (hgd : o.guard = none) (d s : Operand) (t t' : TypeId)
    (ho : o.op = .call { callee := .builtin .copy, args := #[d, s], argTypes := #[t, t'] }) (v u : Value) (hd : a.eval d = v) (hs : a.eval s = u) {v' : Value} {w' : World}
    (hr : (Builtin.copy_ #[t, t'] o.type #[v, u]).run P w = .ok v' w') (h : wpList P ops Q rest (a.put o.dst v') w') : wpList P ops Q (o :: rest) a w :=
  wpList_plain hgd fun _ hK => wp_copy_run w d s t t' ho v u hd hs hr (hK _ _ h)
theorem wp_clear_run {P : Program} (w : World) {o : Oper} {a : Act} {K : Act → World → Prop} {Q : Exit → Act → World → Prop} (s : Operand) (t : TypeId)
    (ho : o.op = .call { callee := .builtin .clear, args := #[s], argTypes := #[t] }) (v : Value) (hs : a.eval s = v) {v' : Value} {w' : World}
    (hr : (Builtin.clear_ #[t] o.type #[v]).run P w = .ok v' w') (h : K (a.put o.dst v') w') : o.wp P a w K Q := by
  unfold Oper.wp execOp
  simp only [ho, resolve, invoke, builtin, Sem.run_bind, Sem.run_pure, Result.andThen_ok, List.map_toArray, List.map_cons, List.map_nil, hs, hr]
  exact h
theorem wpl_clear {P : Program} (w : World) {ops : Array Oper} {rest : List Oper} {o : Oper} {a : Act} {Q : Exit → Act → World → Prop} (hgd : o.guard = none) (s : Operand) (t : TypeId)
    (ho : o.op = .call { callee := .builtin .clear, args := #[s], argTypes := #[t] }) (v : Value) (hs : a.eval s = v) {v' : Value} {w' : World}
    (hr : (Builtin.clear_ #[t] o.type #[v]).run P w = .ok v' w') (h : wpList P ops Q rest (a.put o.dst v') w') : wpList P ops Q (o :: rest) a w :=
  wpList_plain hgd fun _ hK => wp_clear_run w s t ho v hs hr (hK _ _ h)

end Go.Proofs.YtlmmjefplbcapaaGreat.K
