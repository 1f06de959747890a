/-
  Runes, and boxes of two numbers.
-/
import Derived.Test.YtdmpmkcigjkilabQApp
namespace Go.Proofs.Ytdmpmkcigjkilab
open Go.RowKit
set_option maxRecDepth 20000
set_option linter.unusedSimpArgs false
set_option linter.unusedVariables false

namespace K
/-- runes don't lie in a box of two numbers -/
theorem rd_ne {w : World} {v : Value} {zs : List Int} {b : Nat} {x y : Int} {ty : TypeId} (h : L.Rd w v .i32 zs) (hb : w.heap[b]? = some (.cells #[.int .i64 x, .int .i64 y] ty)) (hz : zs ≠ []) : ∀ k, v.ownBlock = some k → k ≠ b := by
  obtain ⟨ao, cap, rfl, hn, hc⟩ := h
  obtain ⟨b', off, rfl, hcell⟩ := hc hz
  intro k hk e
  have : b' = k := by simpa [Value.ownBlock] using hk
  subst this e
  obtain ⟨z, hz2⟩ : ∃ z, zs[0]? = some z := ⟨zs[0]'(List.length_pos_iff.2 hz), by simp⟩
  have hc0 := hcell 0 z hz2
  rw [World.cell?] at hc0
  simp only [show w.heap[b']? = _ from hb] at hc0
  simp at hc0
  have hlt := (List.getElem?_eq_some_iff.1 hc0).1
  match off, hc0 with
  | 0, hc0 => simp at hc0
  | 1, hc0 => simp at hc0
  | n + 2, _ => simp at hlt; omega
theorem set2 {w : World} {b : Nat} {x y : Value} {ty : TypeId} (hb : w.heap[b]? = some (.cells #[x, y] ty)) (x' y' : Value) : ((w.setCell ⟨b, 0, none⟩ x').setCell ⟨b, 1, none⟩ y').heap[b]? = some (.cells #[x', y'] ty) := heap_setCell_same _ b 1 _ _ y' (heap_setCell_same w b 0 _ _ x' hb)
end K

end Go.Proofs.Ytdmpmkcigjkilab
