/-
  resolve.lookup and resolve.order: the functions that they hand back, and their boxes.
-/
import Derived.Test.YtchkcjaahjhbcaaVNext
import Derived.Laws.EntriesVeiled
namespace Go.Proofs.Ytchkcjaahjhbcaa
open Go.RowKit Go.Lib
set_option maxRecDepth 20000
set_option linter.unusedSimpArgs false
set_option linter.unusedVariables false

set_option maxHeartbeats 400000 in
theorem lookup_any (w : World) (B : Nat) : Calls Try.prog 54 #[.map (some B)] w fun e w' => e = .returned (.func (.func 77) #[] #[.pointer (some ⟨w.heap.size, 0, none⟩)]) ∧ w' = w.alloc (.cells #[.map (some B)] 54) := by
  go_enter Try.func54, Try.ntmps54
  go_wp2
  go_ret
  exact ⟨rfl, rfl⟩

set_option maxHeartbeats 1000000 in
theorem order_any (w : World) (B n : Nat) (f : ByteArray → Option Value) (HM : V.MapIs w B n f) :
    Calls Try.prog 53 #[.map (some B)] w fun e w' => e = .returned (.func (.func 75) #[] #[.pointer (some ⟨w.heap.size, 0, none⟩), .pointer (some ⟨w.heap.size + 1, 0, none⟩), .pointer (some ⟨w.heap.size + 2, 0, none⟩)]) ∧
      V.Env w' w.heap.size (w.heap.size + 1) (w.heap.size + 2) B n f false ∧ Below w.heap.size w w' ∧ w'.heap.size = w.heap.size + 3 := by
  have HMs : Hid (V.MapIs w B n f) := HM
  clear HM
  go_enter Try.func53, Try.ntmps53
  go_wp2
  go_ret
  have hlt := HMs.out.lt
  have b1 : Below w.heap.size w (w.alloc (.cells #[.map (some B)] 54)) := (Below.refl _ w).alloc (Nat.le_refl _) _
  have x := K.two_boxes (Below.refl _ (((w.alloc (.cells #[.map (some B)] 54)).alloc (.cells #[.bool false] 4)).alloc (.cells #[.func (.func 74) #[] #[.pointer (some ⟨w.heap.size, 0, none⟩)]] 116)))
  have hs1 : (w.alloc (.cells #[.map (some B)] 54)).heap.size = w.heap.size + 1 := by simp
  rw [hs1] at x
  have hbb : Below w.heap.size w (((w.alloc (.cells #[.map (some B)] 54)).alloc (.cells #[.bool false] 4)).alloc (.cells #[.func (.func 74) #[] #[.pointer (some ⟨w.heap.size, 0, none⟩)]] 116)) := b1.trans (x.2.2.1.mono (by omega))
  have h0 := (x.2.2.1.block w.heap.size (by omega)).trans (heap_alloc_new w (.cells #[.map (some B)] 54))
  refine ⟨rfl, ⟨K.at_box (i := 0) h0 rfl, x.1, K.at_box (i := 0) x.2.1 rfl, HMs.out.below hbb hlt, by omega, by omega, by omega, by omega, by omega⟩, hbb, by simp⟩

end Go.Proofs.Ytchkcjaahjhbcaa
