/-
  Runes, and boxes of two numbers.
-/
import Derived.Test.YtkkocnkfdepoiaaQBox
namespace Go.Proofs.Ytkkocnkfdepoiaa
open Go.RowKit
set_option maxRecDepth 20000
set_option linter.unusedSimpArgs false
set_option linter.unusedVariables false

namespace K
/-- runes don't lie in a box of two numbers -/
theorem rd_ne {w : World} {v : Value} {zs : List Int} {b : Nat} {x y : Int} {ty : TypeId} (h : L.Rd w v .i32 zs) (hb : w.heap[b]? = some (.cells #[.int .i64 x, .int .i64 y] ty)) (hz : zs ≠ []) : ∀ k, v.ownBlock = some k → k ≠ b := by
  obtain ⟨ao, cap, rfl, hn, hc⟩ := h
  obtain ⟨b', off, rfl, hcell⟩ := hc hz
  intro k hk e
  have : b' = k := by simpa [Value.ownBlock] using hk
  subst this e
  obtain ⟨z, hz2⟩ : ∃ z, zs[0]? = some z := ⟨zs[0]'(List.length_pos_iff.2 hz), by simp⟩
  have hc0 := hcell 0 z hz2
  rw [World.cell?] at hc0
  simp only [show w.heap[b']? = _ from hb] at hc0
  simp at hc0
  have hlt := (List.getElem?_eq_some_iff.1 hc0).1
  match off, hc0 with
  | 0, hc0 => simp at hc0
  | 1, hc0 => simp at hc0
  | n + 2, _ => simp at hlt; omega
theorem set2 {w : World} {b : Nat} {x y : Value} {ty : TypeId} (hb : w.heap[b]? = some (.cells #[x, y] ty)) (x' y' : Value) : ((w.setCell ⟨b, 0, none⟩ x').setCell ⟨b, 1, none⟩ y').heap[b]? = some (.cells #[x', y'] ty) := heap_setCell_same _ b 1 _ _ y' (heap_setCell_same w b 0 _ _ x' hb)
end K

end Go.Proofs.Ytkkocnkfdepoiaa

/-
  What is left behind a run: the fault's box is written, the run's box is new.
-/
namespace Go.Proofs.Ytkkocnkfdepoiaa
open Go.RowKit
set_option maxRecDepth 20000
set_option linter.unusedSimpArgs false
set_option linter.unusedVariables false

namespace K
/-- what is left behind a run: the fault's box is written, the run's box is new -/
theorem after_run {x1 Y1 : World} {b : Nat} {u0 u1 : Int} {va : Option Addr} {vc : Nat} {rt : List Int} {re ra rs rp : Int} {ty : TypeId}
    (hY : Y1 = ((x1.setCell ⟨b, 0, none⟩ (.int .i64 re)).setCell ⟨b, 1, none⟩ (.int .i64 ra)).alloc (.cells #[(.slice va rt.length vc), .int .i64 rs, .int .i64 rp] ty))
    (hb : x1.heap[b]? = some (.cells #[.int .i64 u0, .int .i64 u1] 34)) (w : World) (hw : Below w.heap.size w x1) (hwb : w.heap.size ≤ b) :
    Y1.heap[b]? = some (.cells #[.int .i64 re, .int .i64 ra] 34) ∧ Y1.heap[x1.heap.size]? = some (.cells #[(.slice va rt.length vc), .int .i64 rs, .int .i64 rp] ty) ∧ Below w.heap.size w Y1 ∧
      ∀ v zs, L.Rd x1 v .i32 zs → L.Rd Y1 v .i32 zs := by
  obtain ⟨Y0, hY0⟩ : ∃ Y0, Y0 = (x1.setCell ⟨b, 0, none⟩ (.int .i64 re)).setCell ⟨b, 1, none⟩ (.int .i64 ra) := ⟨_, rfl⟩
  have hY' : Y1 = Y0.alloc (.cells #[(.slice va rt.length vc), .int .i64 rs, .int .i64 rp] ty) := by rw [hY, hY0]
  have e0 : Y0.heap[b]? = some (.cells #[.int .i64 re, .int .i64 ra] 34) := by rw [hY0]; exact K.set2 hb _ _
  have hal : Below Y0.heap.size Y0 Y1 := by rw [hY']; exact (Below.refl _ Y0).alloc (Nat.le_refl _) _
  have hsz : Y0.heap.size = x1.heap.size := by rw [hY0]; simp
  refine ⟨K.blk_below e0 hal, by rw [← hsz, hY']; exact heap_alloc_new Y0 _, ?_, fun v zs d => ?_⟩
  · rw [hY]
    exact ((hw.setCell (p := ⟨b, 0, none⟩) hwb _).setCell (p := ⟨b, 1, none⟩) hwb _).alloc (by simp; exact hw.size) _
  · refine (K.rd_block d (w' := Y0) fun hz q hq => ?_).below hal (Nat.le_refl _)
    have hne := K.rd_ne d hb hz q hq
    rw [hY0, heap_setCell_other _ ⟨b, 1, none⟩ q _ (by simpa using hne), heap_setCell_other _ ⟨b, 0, none⟩ q _ (by simpa using hne)]
end K

end Go.Proofs.Ytkkocnkfdepoiaa
