/-
  Runes that are sorted: the next number drawn at will, and how many.
-/
import Derived.Test.YtnalcmlhfmgfdaaZPivot3
import Derived.Sort.Walk7a
namespace Go.Proofs.Ytnalcmlhfmgfdaa
open Go.RowKit Go.Sort
set_option maxRecDepth 20000
set_option linter.unusedSimpArgs false
set_option linter.unusedVariables false

theorem Z.mix (x : Nat) (y : Int) (hx : x < 18446744073709551616) (h0 : 0 ≤ y) (h1 : y < 18446744073709551616) : ∃ v : Nat, v < 18446744073709551616 ∧ bits .xor .u64 (x : Int) y = (v : Int) := by
  obtain ⟨n, rfl⟩ := Int.eq_ofNat_of_zero_le h0
  exact ⟨_, Nat.xor_lt_two_pow (n := 64) (by omega) (by omega), bits_xor_u64_nat x n hx (by omega)⟩

set_option maxHeartbeats 1000000 in
theorem znext_any (w : World) (rb X : Nat) (hX : X < 18446744073709551616) (hs : w.heap[rb]? = some (.cells #[.int .u64 X] 127)) :
    Calls Try.prog 91 #[.pointer (some ⟨rb, 0, none⟩)] w fun e w' => ∃ v : Nat, v < 18446744073709551616 ∧ e = .returned (.int .u64 v) ∧ ∃ k, w' = (w.setCell ⟨rb, 0, none⟩ (.int .u64 v)).drewN k := by
  have c0 : w.cell? ⟨rb, 0, none⟩ = some (.int .u64 X) := K.at_box (i := 0) hs rfl
  have f0 : w.frozen? ⟨rb, 0, none⟩ = false := frozen_of_row w _ _ _ _ hs
  clear hs
  obtain ⟨p, hp, e1⟩ := Z.mix X (IntKind.u64.wrap ((X : Int) * 8192)) hX (by rw [IntKind.wrap_u64]; omega) (by rw [IntKind.wrap_u64]; omega)
  obtain ⟨q, hq, e2⟩ := Z.mix p ((p : Int) / 128) hp (by omega) (by omega)
  obtain ⟨v, hv, e3⟩ := Z.mix q (IntKind.u64.wrap ((q : Int) * 131072)) hq (by rw [IntKind.wrap_u64]; omega) (by rw [IntKind.wrap_u64]; omega)
  have ss : ∀ x y, (w.setCell ⟨rb, 0, none⟩ x).setCell ⟨rb, 0, none⟩ y = w.setCell ⟨rb, 0, none⟩ y := setCell_setCell w rb 0
  go_enter Try.func91, Try.ntmps91
  go_wp2
  go_region
  all_goals go_wp2
  all_goals go_region
  all_goals go_wp2
  all_goals go_region
  all_goals go_wp2
  all_goals go_ret
  all_goals exact ⟨v, hv, rfl, 3, rfl⟩

end Go.Proofs.Ytnalcmlhfmgfdaa
