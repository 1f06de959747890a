/-
  Trace's function: each step is told to its row, whose box lies below the machine.
-/
import Derived.Test.YtfhgenllefhgkaaAlRow
import Derived.Test.YtfhgenllefhgkaaSWrong
import Derived.Test.YtfhgenllefhgkaaMCut
import Derived.Lib.AppendZerosOnto
import Derived.Lib.Walk
import Derived.Laws.OwnMore
import Derived.Lib.Overlaps
import Derived.Lib.SliceRun
import Derived.Test.YtfhgenllefhgkaaMFrame
import Derived.ArgAppend
import Derived.Deep.Upon
namespace Go.Proofs.Ytfhgenllefhgkaa
open Go.RowKit Go.Shelf
set_option maxRecDepth 20000
set_option linter.unusedSimpArgs false
set_option linter.unusedVariables false

/-- Trace's box, its row, and that heads hang on neither -/
def Al.Tr (b ob : Nat) (vh : Value) (l : List K.Rule) (c : List Int) (W : World) (ms : List Nat) (sh : List (Int × Int)) : Prop :=
  (∃ v, W.heap[ob]? = some (.cells #[v] 33) ∧ W.ownsRow b 38 2 v sh.length (Al.scells sh) ∧ ∀ q, v.ownBlock = some q → q ∈ ms) ∧ (∀ q ∈ ms, ∃ cs p, W.heap[q]? = some (.cells cs 38 p)) ∧ ∀ W', (∀ j, j < b → j ≠ ob → W'.heap[j]? = W.heap[j]?) → J.Rd W' vh (J.heads (J.begins l) c (c.length - 1))

theorem Al.Tr.keep {b ob mb : Nat} {vh : Value} {l : List K.Rule} {c : List Int} {W W' : World} {ms : List Nat} {sh : List (Int × Int)} (h : Al.Tr b ob vh l c W ms sh) (hob : ob < b) (hb : Gm.Fr ⟨b, mb :: ms⟩ W W') : Al.Tr b ob vh l c W' ms sh := by
  obtain ⟨⟨v, h1, h2, h3⟩, h4, h5⟩ := h
  have hk : ∀ q ∈ ms, q < W.heap.size → W'.heap[q]? = W.heap[q]? := fun q hq hl => hb.2 q (List.mem_cons_of_mem _ hq) hl
  refine ⟨⟨v, (hb.1.block ob hob).trans h1, Al.held h2 fun q hq hl => hk q (h3 q hq) hl, h3⟩, fun q hq => ?_, fun W2 e => h5 W2 fun j hj hne => (e j hj hne).trans (hb.1.block j hj)⟩
  obtain ⟨cs, p, hx⟩ := h4 q hq
  exact ⟨cs, p, (hk q hq (lt_of_block hx)).trans hx⟩

/-- the machine stays where Trace's box and row alone are changed -/
theorem Gm.Mx.tells {b ob mb : Nat} {ms ns : List Nat} {wb w w' : World} {g : Nat} {vr vh : Value} {l : List K.Rule} {c A Z : List Int} (M : Gm.Mx b (mb :: ms) mb wb w g vr vh l c A Z) (hb : ob < b) (hmb : mb ≠ ob)
    (hm : ∀ q ∈ ms, ∃ cs p, w.heap[q]? = some (.cells cs 38 p)) (hn : ∀ q ∈ ns, ∃ cs p, w'.heap[q]? = some (.cells cs 38 p))
    (hs : w.heap.size ≤ w'.heap.size) (hbel : Below wb.heap.size wb w') (e : ∀ j, j < w.heap.size → j ≠ ob → j ∉ ms → w'.heap[j]? = w.heap[j]?) (hd : ∀ W', (∀ j, j < b → j ≠ ob → W'.heap[j]? = w.heap[j]?) → J.Rd W' vh (J.heads (J.begins l) c (c.length - 1))) (hms : ∀ q ∈ ms, b ≤ q) : Gm.Mx b (mb :: ns) mb wb w' g vr vh l c A Z := by
  obtain ⟨ao, cur, hT⟩ := M.tx
  have hg : b ≤ g := hT.hB.1
  have htop := M.top
  have hml : mb < w.heap.size := lt_of_block M.box
  have hmm : mb ∉ ms := fun h => by
    obtain ⟨cs, p, hx⟩ := hm mb h
    have := hx.symm.trans M.box
    simp at this
  have hgm : g ∉ ms := fun h => hT.hB.2 (List.mem_cons_of_mem _ h)
  have ebox := (e mb hml hmb hmm).trans M.box
  have eg := hT.box.block (e g hT.box.lt (by omega) hgm)
  have er : ∀ r, ao = some ⟨r, 0, none⟩ → w'.heap[r]? = w.heap[r]? := fun r hr => by
    have h1 := hT.room.lt r hr
    have h2 : b ≤ r := h1.1.1
    exact e r h1.2 (by omega) fun h => h1.1.2 (List.mem_cons_of_mem _ h)
  have hroom := hT.room.block er
  have h2 : Gm.Tx ⟨b, mb :: ms⟩ g ao cur A Z w' := ⟨hT.hB, eg, hroom, hT.ne, hT.fit, hT.most, hT.few, hT.ahead, hT.behind⟩
  refine ⟨M.base, hbel, ebox, by simp, fun j hj => ?_, ⟨ao, cur, h2.re ⟨hg, fun h => ?_⟩ fun q hq => ?_⟩, M.rus, fun W hW => ?_⟩
  · rcases List.mem_cons.1 hj with rfl | hj
    · omega
    · obtain ⟨cs, p, hx⟩ := hn j hj
      exact lt_of_block hx
  · rcases List.mem_cons.1 h with h | h
    · exact hT.hB.2 (by rw [h]; simp)
    · obtain ⟨cs, p, hx⟩ := hn g h
      have := hx.symm.trans eg
      simp at this
  · have h1 := hT.room.lt q hq
    refine ⟨h1.1.1, fun h => ?_⟩
    rcases List.mem_cons.1 h with h | h
    · exact h1.1.2 (by rw [h]; simp)
    · obtain ⟨cs, p, hx⟩ := hn q h
      rcases hroom with ⟨h0, _⟩ | ⟨r, hr, _, hx2⟩
      · rw [h0] at hq; cases hq
      · rw [hr] at hq
        cases hq
        have := hx.symm.trans hx2
        simp at this
  · refine hd W fun j hj hne => (hW.block j hj).trans (e j (by omega) hne fun h => ?_)
    have := hms j h
    omega

set_option maxHeartbeats 4000000 in
theorem xtell_any (W : World) (b ob : Nat) (v : Value) (sh : List (Int × Int)) (at_ k : Int) (h : W.heap[ob]? = some (.cells #[v] 33)) (own : W.ownsRow b 38 2 v sh.length (Al.scells sh)) (hob : ob < b) (hb : b ≤ W.heap.size) (hl : sh.length ≤ 100000) :
    Calls Try.prog 16 #[.agg #[.int .i64 at_, .int .i64 k], .pointer (some ⟨ob, 0, none⟩)] W fun e w' => e = .returned (.tuple #[]) ∧ ∃ v', w'.heap[ob]? = some (.cells #[v'] 33) ∧ w'.ownsRow b 38 2 v' (sh.length + 1) (Al.scells (sh ++ [(at_, k)])) ∧ W.heap.size ≤ w'.heap.size ∧ (∀ B, B ≤ ob → Below B W w') ∧ (∀ j, j < W.heap.size → j ≠ ob → v.ownBlock ≠ some j → w'.heap[j]? = W.heap[j]?) := by
  obtain ⟨vo, vc, rfl⟩ : ∃ vo vc, v = .slice vo sh.length vc := by
    rcases own.2 with ⟨hv, h0⟩ | ⟨g, cap, cur, hv, _⟩
    · exact ⟨none, 0, by rw [hv, h0]⟩
    · exact ⟨_, cap, hv⟩
  generalize hv : Value.slice vo sh.length vc = v at *
  obtain ⟨X, hX⟩ : ∃ X, X = W.alloc (.cells #[.int .i64 at_, .int .i64 k] 38) := ⟨_, rfl⟩
  have hbX : Below W.heap.size W X := by rw [hX]; exact (Below.refl _ W).alloc (Nat.le_refl _) _
  have hXs : X.heap.size = W.heap.size + 1 := by rw [hX]; simp
  have ownX : X.ownsRow b 38 2 v sh.length (Al.scells sh) := by rw [hX]; exact own.alloc _
  have hnew : X.heap[W.heap.size]? = some (.cells #[.int .i64 at_, .int .i64 k] 38) := by rw [hX]; exact heap_alloc_new W _
  have hbo : X.heap[ob]? = some (.cells #[v] 33) := (hbX.block ob (by omega)).trans h
  obtain ⟨ao1, vc1, w1, run1, own1, kp1, sz1, be1⟩ := Al.app (sl := 33) Try.underlying33 Try.infoShot rfl (by decide) (by decide) ownX (by omega) (by omega) [.int .i64 at_, .int .i64 k] rfl (fun u hu => by simp at hu; rcases hu with rfl | rfl <;> rfl)
  have hvo : v.ownBlock ≠ some ob := fun e => by have := (Al.block own e).1; omega
  have ho1 : w1.heap[ob]? = some (.cells #[v] 33) := (kp1 ob (by omega) hvo).trans hbo
  have HQ : Hid (∀ y, y = Value.slice ao1 (sh.length + 1) vc1 → ∃ v', (w1.setCell ⟨ob, 0, none⟩ y).heap[ob]? = some (.cells #[v'] 33) ∧ (w1.setCell ⟨ob, 0, none⟩ y).ownsRow b 38 2 v' (sh.length + 1) (Al.scells (sh ++ [(at_, k)])) ∧ W.heap.size ≤ (w1.setCell ⟨ob, 0, none⟩ y).heap.size ∧ (∀ B, B ≤ ob → Below B W (w1.setCell ⟨ob, 0, none⟩ y)) ∧ (∀ j, j < W.heap.size → j ≠ ob → v.ownBlock ≠ some j → (w1.setCell ⟨ob, 0, none⟩ y).heap[j]? = W.heap[j]?)) := by
    rintro y rfl
    refine ⟨_, heap_setCell_same w1 ob 0 _ _ _ ho1, ?_, by simp; omega, fun B hB => ((hbX.mono (by omega)).trans (be1.mono (by omega))).setCell (p := ⟨ob, 0, none⟩) hB _, fun j hj hne hv => ?_⟩
    · rw [Al.scells_append]
      exact Al.held own1 fun q hq _ => heap_setCell_other w1 _ q _ (by have := (Al.block own1 hq).1; simp; omega)
    · rw [heap_setCell_other w1 ⟨ob, 0, none⟩ j _ (by simpa using hne), kp1 j (by omega) hv]
      exact hbX.block j hj
  have c1 : W.cell? ⟨ob, 0, none⟩ = some v := K.at_box (i := 0) h rfl
  have hobl : ob < W.heap.size := by omega
  have hne : ob ≠ W.heap.size := by omega
  have fr : w1.frozen? ⟨ob, 0, none⟩ = false := frozen_of_row w1 _ 0 _ _ ho1
  have d1 : w1.cell? ⟨ob, 0, none⟩ = some v := K.at_box (i := 0) ho1 rfl
  rw [hXs] at run1
  rw [hX] at run1
  subst hv
  have hlen : sh.length ≤ 100000 := hl
  clear hbX hX hXs ownX hnew hbo own1 kp1 be1 ho1 hvo own h sz1
  go_enter Try.func16, Try.ntmps16
  go_wp2_with (at_builtin; refine Lib.wpList_append_run _ rfl _ _ _ _ rfl _ _ rfl rfl _ _ (run1 _) ?_; clear run1)
  refine bodyPost_end (results_none rfl _ _ _) rfl ?_
  exact ⟨rfl, HQ.out _ rfl⟩
end Go.Proofs.Ytfhgenllefhgkaa

/-
  A row of runes of the call's own: what is copied into it, and cleared in it.
-/
namespace Go.Proofs.Ytfhgenllefhgkaa.K
open Go.RowKit

def ints (t : List Int) : List Value := t.map (Value.int .i32)
theorem ints_length (t : List Int) : (ints t).length = t.length := by simp [ints]
theorem ints_one (t : List Int) : ∀ v ∈ ints t, v.oneCell' = true := fun v hv => by obtain ⟨z, _, rfl⟩ := List.mem_map.1 hv; rfl
theorem ints_get {t : List Int} {j : Nat} {v : Value} (h : (ints t)[j]? = some v) : ∃ z, t[j]? = some z ∧ v = .int .i32 z := by
  unfold ints at h
  rw [List.getElem?_map] at h
  cases hz : t[j]? with
  | none => rw [hz] at h; cases h
  | some z => rw [hz] at h; cases h; exact ⟨z, rfl, rfl⟩
def spl (cur : List Value) (o : Nat) (vs : List Value) : List Value := cur.take o ++ vs ++ cur.drop (o + vs.length)
theorem spl_length {cur : List Value} {o : Nat} {vs : List Value} (h : o + vs.length ≤ cur.length) : (spl cur o vs).length = cur.length := by
  unfold spl; simp; omega
theorem spl_take {cur : List Value} {o : Nat} {vs : List Value} (h : o ≤ cur.length) : (spl cur o vs).take o = cur.take o := by
  unfold spl
  rw [List.append_assoc, List.take_append_of_le_length (by simp; omega), List.take_take, Nat.min_self]
theorem spl_upto {cur : List Value} {o : Nat} {vs : List Value} (h : o ≤ cur.length) : (spl cur o vs).take (o + vs.length) = cur.take o ++ vs := by
  unfold spl
  have : (cur.take o ++ vs).length = o + vs.length := by simp; omega
  rw [← this, List.take_left]
theorem spl_drop {cur : List Value} {o n : Nat} {vs : List Value} (h : o ≤ cur.length) (hn : o + vs.length ≤ n) : (spl cur o vs).drop n = cur.drop n := by
  unfold spl
  have e : (cur.take o ++ vs).length = o + vs.length := by simp; omega
  rw [List.drop_append, List.drop_eq_nil_of_le (by omega), List.nil_append, e, List.drop_drop]
  congr 1
  omega
theorem spl_take_le {cur : List Value} {o n : Nat} {vs : List Value} (h : o ≤ cur.length) (hn : n ≤ o) : (spl cur o vs).take n = cur.take n := by
  have := congrArg (List.take n) (spl_take (vs := vs) h)
  rwa [List.take_take, List.take_take, Nat.min_eq_left hn] at this

/-- block g holds these cells, and nothing of it is frozen -/
def Row (w : World) (g : Nat) (cur : List Value) : Prop := w.heap[g]? = some (.cells cur.toArray 21 (0, 0))
theorem Row.lt {w : World} {g : Nat} {cur : List Value} (h : Row w g cur) : g < w.heap.size := (Array.getElem?_eq_some_iff.1 h).1
theorem Row.cell {w : World} {g : Nat} {cur : List Value} (h : Row w g cur) (j : Nat) : w.cell? ⟨g, j, none⟩ = cur[j]? := by
  simp [World.cell?, show w.heap[g]? = _ from h]
theorem Row.free {w : World} {g : Nat} {cur : List Value} (h : Row w g cur) (j : Nat) : w.frozen? ⟨g, j, none⟩ = false := frozen_of_row w g j _ _ h
theorem Row.set {w : World} {g : Nat} {cur : List Value} (h : Row w g cur) (cur' : List Value) : Row (w.setRow g cur'.toArray) g cur' := setRow_heap w g _ _ _ _ h
theorem grown_set (w : World) (g : Nat) (c : Array Value) : w.grownBy (w.setRow g c) (some g) := ⟨rfl, rfl, rfl, by simp, fun k _ hk => setRow_other w g k c fun e => hk (by rw [e])⟩
theorem Row.drew {w : World} {g : Nat} {cur : List Value} (h : Row w g cur) : Row w.drew g cur := h
theorem Row.block {w w' : World} {g : Nat} {cur : List Value} (h : Row w g cur) (e : w'.heap[g]? = w.heap[g]?) : Row w' g cur := e.trans h

theorem Row.cells {g : Nat} : ∀ (vs : List Value) {w : World} {cur : List Value} {o : Nat}, Row w g cur → o + vs.length ≤ cur.length → Row (w.setCells g o vs) g (spl cur o vs) ∧ w.grownBy (w.setCells g o vs) (some g)
  | [], w, cur, o, h, _ => ⟨by rw [World.setCells]; simpa [spl] using h, ⟨rfl, rfl, rfl, Nat.le_refl _, fun _ _ _ => rfl⟩⟩
  | v :: r, w, cur, o, h, hl => by
    rw [List.length_cons] at hl
    have h1 : Row (w.setCell ⟨g, o, none⟩ v) g (cur.set o v) := by
      have := heap_setCell_same w g o _ _ v h
      unfold Row
      rw [this]
      simp
    obtain ⟨h2, h3⟩ := Row.cells r h1 (o := o + 1) (by simp; omega)
    have e : spl (cur.set o v) (o + 1) r = spl cur o (v :: r) := by
      unfold spl
      have e1 : (cur.set o v).take (o + 1) = cur.take o ++ [v] := by
        rw [List.take_add_one, List.take_set_of_le (Nat.le_refl o), List.getElem?_set_self (by omega)]
        rfl
      rw [e1, List.drop_set_of_lt (by omega), List.length_cons]
      simp [Nat.add_assoc, Nat.add_comm 1]
    rw [World.setCells]
    rw [e] at h2
    refine ⟨h2, h3.os, h3.tape, h3.output, by simpa using h3.size, fun k hk hne => ?_⟩
    rw [h3.block k (by simpa using hk) hne]
    exact heap_setCell_other _ ⟨g, o, none⟩ k _ fun e => hne (by simp [e])

/-- copy into the row -/
theorem Row.copy {w : World} {g : Nat} {cur : List Value} (h : Row w g cur) (o dl dc : Nat) (a : Addr) (sl sc : Nat) (cs : List Value) (hn : cs.length = min sl dl) (hs : ∀ (j : Nat) v, cs[j]? = some v → w.cell? (a.add j) = some v) (hfit : o + cs.length ≤ cur.length) (h1 : ∀ v ∈ cs, v.oneCell' = true) :
    ∃ W, (∀ ty, (Builtin.copy_ #[23, 23] ty #[.slice (some ⟨g, o, none⟩) dl dc, .slice (some a) sl sc]).run Try.prog w = .ok (goInt cs.length) W) ∧ Row W g (spl cur o cs) ∧ w.grownBy W (some g) := by
  refine ⟨_, fun ty => ?_, h.set (spl cur o cs), grown_set _ _ _⟩
  obtain ⟨i0, hi, hz0, hz1, hz2⟩ := info_parts Try.infoI32
  exact run_copy_row (P := Try.prog) w 23 23 ty 21 g o dl dc a sl sc _ _ cs Try.underlying23 (by rw [hi]; simp [hz1]) h hn hs (by simpa using hfit) h1

theorem copy_nothing (w : World) (dp sp : Option Addr) (dl c1 c2 : Nat) (ty : TypeId) : (Builtin.copy_ #[23, 23] ty #[.slice dp dl c1, .slice sp 0 c2]).run Try.prog w = .ok (goInt 0) w := by
  obtain ⟨i0, hi, hz0, hz1, hz2⟩ := info_parts Try.infoI32
  exact run_copy_none w _ _ _ 21 _ _ _ _ _ _ Try.underlying23 (by rw [hi]; simp [hz1]) (by simp)

/-- clear a stretch of the row -/
theorem Row.clear {w : World} {g : Nat} {cur : List Value} (h : Row w g cur) (o n c : Nat) (hn : 0 < n) (hfit : o + n ≤ cur.length) :
    ∃ W, (∀ ty, (Builtin.clear_ #[23] ty #[.slice (some ⟨g, o, none⟩) n c]).run Try.prog w = .ok (.tuple #[]) W) ∧ Row W g (spl cur o (List.replicate n (.int .i32 0))) ∧ w.grownBy W (some g) := by
  obtain ⟨i0, hi, hz0, hz1, hz2⟩ := info_parts Try.infoI32
  have h2 := Row.cells (List.replicate n (.int .i32 0)) h (o := o) (by simpa using hfit)
  refine ⟨_, fun ty => ?_, h2.1, h2.2⟩
  exact Lib.run_clear_slice w 23 21 ty (.int .i32 0) Try.underlying23 (fun w => by simp [zeroValue, typeInfo, hi, hz0]) rfl rfl g o n c hn (fun j hj => by rw [h.cell, List.getElem?_eq_getElem (by omega)]; rfl) (fun j _ => h.free _)

/-! copy and clear, by their runs, at a step of a walk -/
theorem wp_copy_run {P : Program} (w : World) {o : Oper} {a : Act} {K : Act → World → Prop} {Q : Exit → Act → World → Prop} (d s : Operand) (t t' : TypeId)
    (ho : o.op = .call { callee := .builtin .copy, args := #[d, s], argTypes := #[t, t'] }) (v u : Value) (hd : a.eval d = v) (hs : a.eval s = u) {v' : Value} {w' : World}
    (hr : (Builtin.copy_ #[t, t'] o.type #[v, u]).run P w = .ok v' w') (h : K (a.put o.dst v') w') : o.wp P a w K Q := by
  unfold Oper.wp execOp
  simp only [ho, resolve, invoke, builtin, Sem.run_bind, Sem.run_pure, Result.andThen_ok, List.map_toArray, List.map_cons, List.map_nil, hd, hs, hr]
  exact h
theorem wpl_copy {P : Program} (w : World) {ops : Array Oper} {rest : List Oper} {o : Oper} {a : Act} {Q : Exit → Act → World → Prop} (hgd : o.guard = none) (d s : Operand) (t t' : TypeId)
    (ho : o.op = .call { callee := .builtin .copy, args := #[d, s], argTypes := #[t, t'] }) (v u : Value) (hd : a.eval d = v) (hs : a.eval s = u) {v' : Value} {w' : World}
    (hr : (Builtin.copy_ #[t, t'] o.type #[v, u]).run P w = .ok v' w') (h : wpList P ops Q rest (a.put o.dst v') w') : wpList P ops Q (o :: rest) a w :=
  wpList_plain hgd fun _ hK => wp_copy_run w d s t t' ho v u hd hs hr (hK _ _ h)
theorem wp_clear_run {P : Program} (w : World) {o : Oper} {a : Act} {K : Act → World → Prop} {Q : Exit → Act → World → Prop} (s : Operand) (t : TypeId)
    (ho : o.op = .call { callee := .builtin .clear, args := #[s], argTypes := #[t] }) (v : Value) (hs : a.eval s = v) {v' : Value} {w' : World}
    (hr : (Builtin.clear_ #[t] o.type #[v]).run P w = .ok v' w') (h : K (a.put o.dst v') w') : o.wp P a w K Q := by
  unfold Oper.wp execOp
  simp only [ho, resolve, invoke, builtin, Sem.run_bind, Sem.run_pure, Result.andThen_ok, List.map_toArray, List.map_cons, List.map_nil, hs, hr]
  exact h
theorem wpl_clear {P : Program} (w : World) {ops : Array Oper} {rest : List Oper} {o : Oper} {a : Act} {Q : Exit → Act → World → Prop} (hgd : o.guard = none) (s : Operand) (t : TypeId)
    (ho : o.op = .call { callee := .builtin .clear, args := #[s], argTypes := #[t] }) (v : Value) (hs : a.eval s = v) {v' : Value} {w' : World}
    (hr : (Builtin.clear_ #[t] o.type #[v]).run P w = .ok v' w') (h : wpList P ops Q rest (a.put o.dst v') w') : wpList P ops Q (o :: rest) a w :=
  wpList_plain hgd fun _ hK => wp_clear_run w s t ho v hs hr (hK _ _ h)

end Go.Proofs.Ytfhgenllefhgkaa.K

/-
  append of runes to a slice of the call's own: where it lies behind it.
-/
namespace Go.Proofs.Ytfhgenllefhgkaa.K
open Go.RowKit

theorem app_rd (w : World) (B : Nat) (v : Value) (t : List Int) (own : w.ownsRow B 21 1 v t.length (ints t)) (vx : Value) (zs : List Int) (hx : L.Rd w vx .i32 zs) (hl : t.length + zs.length ≤ 100000000) (hB : B ≤ w.heap.size) :
    ∃ v' w', (∀ ty, (Builtin.append_ #[23, 23] ty #[v, vx]).run Try.prog w = .ok v' w') ∧ w'.ownsRow B 21 1 v' (t ++ zs).length (ints (t ++ zs)) ∧ w.grownBy w' v.ownBlock ∧ (v'.ownBlock = v.ownBlock ∨ ∃ k, v'.ownBlock = some k ∧ w.heap.size ≤ k) := by
  obtain ⟨i0, hi, hz0, hz1, hz2⟩ := info_parts Try.infoI32
  have he : ints (t ++ zs) = ints t ++ ints zs := by unfold ints; rw [List.map_append]
  have hle : (t ++ zs).length = t.length + zs.length := List.length_append
  by_cases h0 : zs = []
  · subst h0
    obtain ⟨ao, cx, rfl, hn, hc⟩ := hx
    obtain ⟨vo, vc, rfl, hvc⟩ : ∃ vo vc, v = .slice vo t.length vc ∧ t.length ≤ vc := by
      rcases own.2 with ⟨h, h1⟩ | ⟨g, cap, cur, h, _, _, h1, _⟩
      · exact ⟨none, 0, by rw [h, h1], by omega⟩
      · exact ⟨_, cap, h, h1⟩
    refine ⟨_, w, fun ty => ?_, by simpa using own, ⟨rfl, rfl, rfl, Nat.le_refl _, fun _ _ _ => rfl⟩, .inl rfl⟩
    refine Go.run_append_nothing (P := Try.prog) w _ _ ty 21 i0 Try.underlying23 hi vo t.length vc hvc _ ?_
    cases ao with
    | none => exact Go.Src.ofNil w Try.underlying23 cx
    | some ad => exact Go.Src.ofSlice w Try.underlying23 ad 0 cx [] (by simp) (fun j u h => by simp at h) (fun u h => by simp at h)
  · obtain ⟨ao, cx, rfl, _, hcx⟩ := hx
    obtain ⟨bx, offx, rfl, hcellx⟩ := hcx h0
    have hp := List.length_pos_iff.2 h0
    have hnews : ∀ j u, (ints zs)[j]? = some u → w.cell? ((⟨bx, offx, none⟩ : Addr).add j) = some u := fun j u hj => by
      obtain ⟨z, hz, rfl⟩ := ints_get hj
      rw [L.addr_add]; exact hcellx j z hz
    have blk : ∀ (v' : Value) (w' : World), w'.ownsRow w.heap.size 21 1 v' (t.length + zs.length) (ints t ++ ints zs) → ∃ k, v'.ownBlock = some k ∧ w.heap.size ≤ k := fun v' w' h => by
      rcases h.2 with ⟨_, h1⟩ | ⟨g, cap, cur, h, hg, _⟩
      · omega
      · exact ⟨g, by rw [h]; rfl, hg⟩
    rw [he, hle]
    rcases own.2 with ⟨hv, h1⟩ | ⟨g, cap, cur, hv, hBg, hg, hnc, hcm, hcs, htk⟩
    · have ht : t = [] := List.eq_nil_of_length_eq_zero h1
      subst ht hv
      obtain ⟨v', w', hrun, r1, r2, _⟩ := run_append_own (P := Try.prog) w w.heap.size 23 0 21 i0 (.int .i32 0) 1 4 Try.underlying23 hi hz0 hz1 hz2 rfl (by decide) (.slice none 0 0) 0 [] (World.ownsRow_nil w _ _ _) ⟨bx, offx, none⟩ zs.length cx (ints zs) (by rw [ints_length]; omega) hnews (ints_one zs) (by unfold maxLen; simp at hl; omega) (by simp at hl; omega) (Nat.le_refl _)
      exact ⟨v', w', fun ty => hrun, L.owns_base r1 hB, r2, .inr (blk v' w' r1)⟩
    · subst hv
      by_cases hf : t.length + zs.length ≤ cap
      · obtain ⟨w', hrun, r1, r2⟩ := run_append_fits (P := Try.prog) w B 23 0 21 i0 1 Try.underlying23 hi hz1 g t.length cap (ints t) own ⟨bx, offx, none⟩ zs.length cx (ints zs) (by rw [ints_length]; omega) hnews (ints_one zs) hf
        exact ⟨_, w', fun ty => hrun, r1, r2, .inl rfl⟩
      · obtain ⟨v', w', hrun, r1, r2⟩ := run_append_arg_grows (P := Try.prog) w 23 0 21 i0 (.int .i32 0) 1 4 Try.underlying23 hi hz0 hz1 hz2 rfl (by decide) ⟨g, 0, none⟩ t.length cap (ints t) (by rw [ints_length]; omega) (fun j u hj => World.ownsRow.cells own (g := g) rfl j u hj) ⟨bx, offx, none⟩ zs.length cx (ints zs) (by rw [ints_length]; omega) hnews (by omega) (by unfold maxLen; omega) (by omega)
        exact ⟨v', w', fun ty => hrun, L.owns_base r1 hB, ⟨r2.os, r2.tape, r2.output, r2.size, fun k hk _ => r2.block k hk (by simp)⟩, .inr (blk v' w' r1)⟩

/-- a slice reads the same where its block is kept -/
theorem rd_block {w w' : World} {v : Value} {zs : List Int} (h : L.Rd w v .i32 zs) (hb : zs ≠ [] → ∀ k, v.ownBlock = some k → w'.heap[k]? = w.heap[k]?) : L.Rd w' v .i32 zs := by
  obtain ⟨ao, cap, rfl, hn, hc⟩ := h
  refine ⟨ao, cap, rfl, hn, fun hz => ?_⟩
  obtain ⟨b, off, rfl, hcell⟩ := hc hz
  refine ⟨b, off, rfl, fun j z hj => ?_⟩
  rw [World.cell?_of_block (a := ⟨b, off + j, none⟩) (hb hz b rfl)]
  exact hcell j z hj
theorem own_block {w w' : World} {B : Nat} {v : Value} {n : Nat} {xs : List Value} (h : w.ownsRow B 21 1 v n xs) (hb : ∀ k, v.ownBlock = some k → w'.heap[k]? = w.heap[k]?) : w'.ownsRow B 21 1 v n xs := by
  refine ⟨h.1, ?_⟩
  rcases h.2 with h | ⟨g, cap, cur, hv, hB, hg, r⟩
  · exact .inl h
  · exact .inr ⟨g, cap, cur, hv, hB, by rw [hb g (by rw [hv]; rfl)]; exact hg, r⟩

/-- the run's state in the document's text: what is done, the rest, what was counted -/
structure Dr (wB wr : World) (b : Nat) (s p : Int) (vd vr : Value) (done rest : List Int) : Prop where
  hb : b < wB.heap.size
  own : wr.ownsRow wB.heap.size 21 1 vd done.length (ints done)
  rd : L.Rd wr vr .i32 rest
  apart : rest ≠ [] → ∀ k, vd.ownBlock = some k → vr.ownBlock ≠ some k
  out : wr.heap[b]? = some (.cells #[.slice none 0 0, .int .i64 s, .int .i64 p] 45)
  grown : wB.grownBy wr (some b)

/-- the rest doesn't lie in the counters' box -/
theorem Dr.rest_ne {wB wr : World} {b : Nat} {s p : Int} {vd vr : Value} {done rest : List Int} (h : Dr wB wr b s p vd vr done rest) (hz : rest ≠ []) : ∀ k, vr.ownBlock = some k → k ≠ b := by
  obtain ⟨ao, cap, rfl, hn, hc⟩ := h.rd
  obtain ⟨b', off, rfl, hcell⟩ := hc hz
  intro k hk e
  have : b' = k := by simpa [Value.ownBlock] using hk
  subst this e
  obtain ⟨z, hz2⟩ : ∃ z, rest[0]? = some z := ⟨rest[0]'(List.length_pos_iff.2 hz), by simp⟩
  have hc0 := hcell 0 z hz2
  rw [World.cell?] at hc0
  simp only [show wr.heap[b']? = _ from h.out] at hc0
  simp at hc0
  have hlt := (List.getElem?_eq_some_iff.1 hc0).1
  match off, hc0 with
  | 0, hc0 => simp at hc0
  | 1, hc0 => simp at hc0
  | 2, hc0 => simp at hc0
  | n + 3, _ => simp at hlt; omega
theorem Dr.set1 {wB wr : World} {b : Nat} {s p : Int} {vd vr : Value} {done rest : List Int} (h : Dr wB wr b s p vd vr done rest) (n : Int) : Dr wB (wr.setCell ⟨b, 1, none⟩ (.int .i64 n)) b n p vd vr done rest := by
  have oth : ∀ k, k ≠ b → (wr.setCell ⟨b, 1, none⟩ (.int .i64 n)).heap[k]? = wr.heap[k]? := fun k hk => heap_setCell_other wr ⟨b, 1, none⟩ k _ (by simpa using hk)
  refine ⟨h.hb, own_block h.own fun k hk => oth k (by have := (h.own.lt k hk).1; have := h.hb; omega), rd_block h.rd fun hz k hk => oth k (h.rest_ne hz k hk), h.apart, heap_setCell_same wr b 1 _ _ _ h.out, S.grown_trans h.grown ⟨rfl, rfl, rfl, by simp, fun k _ hk => oth k fun e => hk (by rw [e])⟩⟩
theorem Dr.set2 {wB wr : World} {b : Nat} {s p : Int} {vd vr : Value} {done rest : List Int} (h : Dr wB wr b s p vd vr done rest) (n : Int) : Dr wB (wr.setCell ⟨b, 2, none⟩ (.int .i64 n)) b s n vd vr done rest := by
  have oth : ∀ k, k ≠ b → (wr.setCell ⟨b, 2, none⟩ (.int .i64 n)).heap[k]? = wr.heap[k]? := fun k hk => heap_setCell_other wr ⟨b, 2, none⟩ k _ (by simpa using hk)
  refine ⟨h.hb, own_block h.own fun k hk => oth k (by have := (h.own.lt k hk).1; have := h.hb; omega), rd_block h.rd fun hz k hk => oth k (h.rest_ne hz k hk), h.apart, heap_setCell_same wr b 2 _ _ _ h.out, S.grown_trans h.grown ⟨rfl, rfl, rfl, by simp, fun k _ hk => oth k fun e => hk (by rw [e])⟩⟩
theorem Dr.below {wB wr w' : World} {b : Nat} {s p : Int} {vd vr : Value} {done rest : List Int} (h : Dr wB wr b s p vd vr done rest) (hb : Below wr.heap.size wr w') : Dr wB w' b s p vd vr done rest :=
  ⟨h.hb, L.owns_below h.own hb (Nat.le_refl _), h.rd.below hb (Nat.le_refl _), h.apart, blk_below h.out hb, S.grown_trans h.grown (S.grown_below hb)⟩
/-- another rest, in a new block or in the same one -/
theorem Dr.other {wB wr : World} {b : Nat} {s p : Int} {vd vr vr' : Value} {done rest rest' : List Int} (h : Dr wB wr b s p vd vr done rest) (hr : L.Rd wr vr' .i32 rest') (ha : rest' ≠ [] → ∀ k, vd.ownBlock = some k → vr'.ownBlock ≠ some k) : Dr wB wr b s p vd vr' done rest' := ⟨h.hb, h.own, hr, ha, h.out, h.grown⟩
/-- something is put behind what is done -/
theorem Dr.push {wB wr w' : World} {b : Nat} {s p : Int} {vd vr vd' : Value} {done rest done' : List Int} (h : Dr wB wr b s p vd vr done rest) (ho : w'.ownsRow wB.heap.size 21 1 vd' done'.length (ints done')) (hg : wr.grownBy w' vd.ownBlock) (hv : vd'.ownBlock = vd.ownBlock ∨ ∃ k, vd'.ownBlock = some k ∧ wr.heap.size ≤ k) : Dr wB w' b s p vd' vr done' rest := by
  have hin : ∀ k, rest ≠ [] → vr.ownBlock = some k → k < wr.heap.size := fun k hz hk => by
    obtain ⟨ao, cap, e, _, hc⟩ := h.rd
    obtain ⟨b', off, e2, hcell⟩ := hc hz
    subst e2
    rw [e] at hk
    have : b' = k := by simpa [Value.ownBlock] using hk
    subst this
    obtain ⟨z, hz2⟩ : ∃ z, rest[0]? = some z := ⟨rest[0]'(List.length_pos_iff.2 hz), by simp⟩
    exact L.block_lt (hcell 0 z hz2)
  have hbl : b < wr.heap.size := Nat.lt_of_lt_of_le h.hb h.grown.size
  refine ⟨h.hb, ho, rd_block h.rd fun hz k hk => hg.block k (hin k hz hk) fun e => h.apart hz k e.symm hk, fun hz k hk e => ?_, ?_, h.grown.os ▸ hg.os ▸ rfl, h.grown.tape ▸ hg.tape ▸ rfl, h.grown.output ▸ hg.output ▸ rfl, Nat.le_trans h.grown.size hg.size, fun k hk hne => ?_⟩
  · rcases hv with hv | ⟨k', hv, hk'⟩
    · exact h.apart hz k (hv ▸ hk) e
    · rw [hv] at hk
      cases hk
      have := hin _ hz e
      omega
  · rw [hg.block b hbl fun e => by have := (h.own.lt b e.symm).1; have := h.hb; omega]
    exact h.out
  · rw [hg.block k (Nat.lt_of_lt_of_le hk h.grown.size) fun e => by have := (h.own.lt k e.symm).1; omega]
    exact h.grown.block k hk hne

end Go.Proofs.Ytfhgenllefhgkaa.K
