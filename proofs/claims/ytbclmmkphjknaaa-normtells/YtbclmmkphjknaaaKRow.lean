/-
  A row of runes of the call's own: what is copied into it, and cleared in it.
-/
import Derived.Test.YtbclmmkphjknaaaKInts
import Derived.Lib.AppendZerosOnto
import Derived.Lib.Walk
import Derived.Laws.OwnMore
import Derived.Lib.Overlaps
import Derived.Lib.SliceRun
namespace Go.Proofs.Ytbclmmkphjknaaa.K
open Go.RowKit

def spl (cur : List Value) (o : Nat) (vs : List Value) : List Value := cur.take o ++ vs ++ cur.drop (o + vs.length)
theorem spl_length {cur : List Value} {o : Nat} {vs : List Value} (h : o + vs.length ≤ cur.length) : (spl cur o vs).length = cur.length := by
  unfold spl; simp; omega
theorem spl_take {cur : List Value} {o : Nat} {vs : List Value} (h : o ≤ cur.length) : (spl cur o vs).take o = cur.take o := by
  unfold spl
  rw [List.append_assoc, List.take_append_of_le_length (by simp; omega), List.take_take, Nat.min_self]
theorem spl_upto {cur : List Value} {o : Nat} {vs : List Value} (h : o ≤ cur.length) : (spl cur o vs).take (o + vs.length) = cur.take o ++ vs := by
  unfold spl
  have : (cur.take o ++ vs).length = o + vs.length := by simp; omega
  rw [← this, List.take_left]
theorem spl_drop {cur : List Value} {o n : Nat} {vs : List Value} (h : o ≤ cur.length) (hn : o + vs.length ≤ n) : (spl cur o vs).drop n = cur.drop n := by
  unfold spl
  have e : (cur.take o ++ vs).length = o + vs.length := by simp; omega
  rw [List.drop_append, List.drop_eq_nil_of_le (by omega), List.nil_append, e, List.drop_drop]
  congr 1
  omega
theorem spl_take_le {cur : List Value} {o n : Nat} {vs : List Value} (h : o ≤ cur.length) (hn : n ≤ o) : (spl cur o vs).take n = cur.take n := by
  have := congrArg (List.take n) (spl_take (vs := vs) h)
  rwa [List.take_take, List.take_take, Nat.min_eq_left hn] at this

/-- block g holds these cells, and nothing of it is frozen -/
def Row (w : World) (g : Nat) (cur : List Value) : Prop := w.heap[g]? = some (.cells cur.toArray 21 (0, 0))
theorem Row.lt {w : World} {g : Nat} {cur : List Value} (h : Row w g cur) : g < w.heap.size := (Array.getElem?_eq_some_iff.1 h).1
theorem Row.cell {w : World} {g : Nat} {cur : List Value} (h : Row w g cur) (j : Nat) : w.cell? ⟨g, j, none⟩ = cur[j]? := by
  simp [World.cell?, show w.heap[g]? = _ from h]
theorem Row.free {w : World} {g : Nat} {cur : List Value} (h : Row w g cur) (j : Nat) : w.frozen? ⟨g, j, none⟩ = false := frozen_of_row w g j _ _ h
theorem Row.set {w : World} {g : Nat} {cur : List Value} (h : Row w g cur) (cur' : List Value) : Row (w.setRow g cur'.toArray) g cur' := setRow_heap w g _ _ _ _ h
theorem grown_set (w : World) (g : Nat) (c : Array Value) : w.grownBy (w.setRow g c) (some g) := ⟨rfl, rfl, rfl, by simp, fun k _ hk => setRow_other w g k c fun e => hk (by rw [e])⟩
theorem Row.drew {w : World} {g : Nat} {cur : List Value} (h : Row w g cur) : Row w.drew g cur := h
theorem Row.block {w w' : World} {g : Nat} {cur : List Value} (h : Row w g cur) (e : w'.heap[g]? = w.heap[g]?) : Row w' g cur := e.trans h

theorem Row.cells {g : Nat} : ∀ (vs : List Value) {w : World} {cur : List Value} {o : Nat}, Row w g cur → o + vs.length ≤ cur.length → Row (w.setCells g o vs) g (spl cur o vs) ∧ w.grownBy (w.setCells g o vs) (some g)
  | [], w, cur, o, h, _ => ⟨by rw [World.setCells]; simpa [spl] using h, ⟨rfl, rfl, rfl, Nat.le_refl _, fun _ _ _ => rfl⟩⟩
  | v :: r, w, cur, o, h, hl => by
    rw [List.length_cons] at hl
    have h1 : Row (w.setCell ⟨g, o, none⟩ v) g (cur.set o v) := by
      have := heap_setCell_same w g o _ _ v h
      unfold Row
      rw [this]
      simp
    obtain ⟨h2, h3⟩ := Row.cells r h1 (o := o + 1) (by simp; omega)
    have e : spl (cur.set o v) (o + 1) r = spl cur o (v :: r) := by
      unfold spl
      have e1 : (cur.set o v).take (o + 1) = cur.take o ++ [v] := by
        rw [List.take_add_one, List.take_set_of_le (Nat.le_refl o), List.getElem?_set_self (by omega)]
        rfl
      rw [e1, List.drop_set_of_lt (by omega), List.length_cons]
      simp [Nat.add_assoc, Nat.add_comm 1]
    rw [World.setCells]
    rw [e] at h2
    refine ⟨h2, h3.os, h3.tape, h3.output, by simpa using h3.size, fun k hk hne => ?_⟩
    rw [h3.block k (by simpa using hk) hne]
    exact heap_setCell_other _ ⟨g, o, none⟩ k _ fun e => hne (by simp [e])

/-- copy into the row -/
theorem Row.copy {w : World} {g : Nat} {cur : List Value} (h : Row w g cur) (o dl dc : Nat) (a : Addr) (sl sc : Nat) (cs : List Value) (hn : cs.length = min sl dl) (hs : ∀ (j : Nat) v, cs[j]? = some v → w.cell? (a.add j) = some v) (hfit : o + cs.length ≤ cur.length) (h1 : ∀ v ∈ cs, v.oneCell' = true) :
    ∃ W, (∀ ty, (Builtin.copy_ #[22, 22] ty #[.slice (some ⟨g, o, none⟩) dl dc, .slice (some a) sl sc]).run Try.prog w = .ok (goInt cs.length) W) ∧ Row W g (spl cur o cs) ∧ w.grownBy W (some g) := by
  refine ⟨_, fun ty => ?_, h.set (spl cur o cs), grown_set _ _ _⟩
  obtain ⟨i0, hi, hz0, hz1, hz2⟩ := info_parts Try.infoRune
  exact run_copy_row (P := Try.prog) w 22 22 ty 21 g o dl dc a sl sc _ _ cs Try.underlying22 (by rw [hi]; simp [hz1]) h hn hs (by simpa using hfit) h1

theorem copy_nothing (w : World) (dp sp : Option Addr) (dl c1 c2 : Nat) (ty : TypeId) : (Builtin.copy_ #[22, 22] ty #[.slice dp dl c1, .slice sp 0 c2]).run Try.prog w = .ok (goInt 0) w := by
  obtain ⟨i0, hi, hz0, hz1, hz2⟩ := info_parts Try.infoRune
  exact run_copy_none w _ _ _ 21 _ _ _ _ _ _ Try.underlying22 (by rw [hi]; simp [hz1]) (by simp)

/-- clear a stretch of the row -/
theorem Row.clear {w : World} {g : Nat} {cur : List Value} (h : Row w g cur) (o n c : Nat) (hn : 0 < n) (hfit : o + n ≤ cur.length) :
    ∃ W, (∀ ty, (Builtin.clear_ #[22] ty #[.slice (some ⟨g, o, none⟩) n c]).run Try.prog w = .ok (.tuple #[]) W) ∧ Row W g (spl cur o (List.replicate n (.int .i32 0))) ∧ w.grownBy W (some g) := by
  obtain ⟨i0, hi, hz0, hz1, hz2⟩ := info_parts Try.infoRune
  have h2 := Row.cells (List.replicate n (.int .i32 0)) h (o := o) (by simpa using hfit)
  refine ⟨_, fun ty => ?_, h2.1, h2.2⟩
  exact Lib.run_clear_slice w 22 21 ty (.int .i32 0) Try.underlying22 (fun w => by simp [zeroValue, typeInfo, hi, hz0]) rfl rfl g o n c hn (fun j hj => by rw [h.cell, List.getElem?_eq_getElem (by omega)]; rfl) (fun j _ => h.free _)

/-! copy and clear, by their runs, at a step of a walk -/
theorem wp_copy_run {P : Program} (w : World) {o : Oper} {a : Act} {K : Act → World → Prop} {Q : Exit → Act → World → Prop} (d s : Operand) (t t' : TypeId)
    (ho : o.op = .call { callee := .builtin .copy, args := #[d, s], argTypes := #[t, t'] }) (v u : Value) (hd : a.eval d = v) (hs : a.eval s = u) {v' : Value} {w' : World}
    (hr : (Builtin.copy_ #[t, t'] o.type #[v, u]).run P w = .ok v' w') (h : K (a.put o.dst v') w') : o.wp P a w K Q := by
  unfold Oper.wp execOp
  simp only [ho, resolve, invoke, builtin, Sem.run_bind, Sem.run_pure, Result.andThen_ok, List.map_toArray, List.map_cons, List.map_nil, hd, hs, hr]
  exact h
theorem wpl_copy {P : Program} (w : World) {ops : Array Oper} {rest : List Oper} {o : Oper} {a : Act} {Q : Exit → Act → World → Prop} (hgd : o.guard = none) (d s : Operand) (t t' : TypeId)
    (ho : o.op = .call { callee := .builtin .copy, args := #[d, s], argTypes := #[t, t'] }) (v u : Value) (hd : a.eval d = v) (hs : a.eval s = u) {v' : Value} {w' : World}
    (hr : (Builtin.copy_ #[t, t'] o.type #[v, u]).run P w = .ok v' w') (h : wpList P ops Q rest (a.put o.dst v') w') : wpList P ops Q (o :: rest) a w :=
  wpList_plain hgd fun _ hK => wp_copy_run w d s t t' ho v u hd hs hr (hK _ _ h)
theorem wp_clear_run {P : Program} (w : World) {o : Oper} {a : Act} {K : Act → World → Prop} {Q : Exit → Act → World → Prop} (s : Operand) (t : TypeId)
    (ho : o.op = .call { callee := .builtin .clear, args := #[s], argTypes := #[t] }) (v : Value) (hs : a.eval s = v) {v' : Value} {w' : World}
    (hr : (Builtin.clear_ #[t] o.type #[v]).run P w = .ok v' w') (h : K (a.put o.dst v') w') : o.wp P a w K Q := by
  unfold Oper.wp execOp
  simp only [ho, resolve, invoke, builtin, Sem.run_bind, Sem.run_pure, Result.andThen_ok, List.map_toArray, List.map_cons, List.map_nil, hs, hr]
  exact h
theorem wpl_clear {P : Program} (w : World) {ops : Array Oper} {rest : List Oper} {o : Oper} {a : Act} {Q : Exit → Act → World → Prop} (hgd : o.guard = none) (s : Operand) (t : TypeId)
    (ho : o.op = .call { callee := .builtin .clear, args := #[s], argTypes := #[t] }) (v : Value) (hs : a.eval s = v) {v' : Value} {w' : World}
    (hr : (Builtin.clear_ #[t] o.type #[v]).run P w = .ok v' w') (h : wpList P ops Q rest (a.put o.dst v') w') : wpList P ops Q (o :: rest) a w :=
  wpList_plain hgd fun _ hK => wp_clear_run w s t ho v hs hr (hK _ _ h)

end Go.Proofs.Ytbclmmkphjknaaa.K
