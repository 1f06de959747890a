/-
  Runes that are sorted: the power of two above a length.
-/
import Derived.Test.YtnalcmlhfmgfdaaZNext
import Derived.Shelf.Lay
import Derived.Shelf.Small.Bits
import Derived.Sort.WalkA14
import Derived.Sort.LotD1
namespace Go.Proofs.Ytnalcmlhfmgfdaa
open Go.Shelf Go.RowKit Go.Sort
set_option maxRecDepth 20000
set_option linter.unusedSimpArgs false
set_option linter.unusedVariables false

shelf_lay Lays.n125 Nm 125 at Try as Try.lays125

theorem Z.above (n : Nat) (h0 : 0 < n) : n < 2 ^ bitsLen n ∧ 2 ^ bitsLen n ≤ 2 * n := by
  refine ⟨(bitsLen_le_iff n _).1 (Nat.le_refl _), ?_⟩
  cases hk : bitsLen n with
  | zero => simp; omega
  | succ k =>
    have h : ¬ n < 2 ^ k := fun h => by
      have := (bitsLen_le_iff n k).2 h
      omega
    rw [Nat.pow_succ]
    omega

set_option maxHeartbeats 1000000 in
theorem zpower_any (n : Nat) (h0 : 0 < n) (hn : n < 1152921504606846976) (w : World) :
    Calls Try.prog 90 #[.int .i64 n] w fun e w' => ∃ k : Nat, n < 2 ^ k ∧ 2 ^ k ≤ 2 * n ∧ e = .returned (.int .u64 ((2 ^ k : Nat) : Int)) ∧ w' = w := by
  have hl := Z.above n h0
  have e0 : Lib.bitLen n = bitsLen n := bitLen_eq n (by omega)
  generalize bitsLen n = k at hl e0
  have hk : k ≤ 62 := by
    refine Nat.le_of_not_lt fun h => ?_
    have : (2 : Nat) ^ 63 ≤ 2 ^ k := Nat.pow_le_pow_right (by decide) h
    omega
  have hL : Hid (∀ w, Calls Try.prog 58 #[.int .u64 (n : Int)] w fun e w' => e = .returned (.int .i64 (k : Int)) ∧ w' = w) := fun w => by
    have h := Any.bits_Len Try.lays125 (n : Int) w (by omega) (by omega)
    rw [Int.toNat_natCast, e0] at h
    exact h
  have hp := wrap_two_pow k hk
  have HE : Hid (n < 2 ^ k ∧ 2 ^ k ≤ 2 * n) := hl
  have hsh : ((1 <<< k : Nat) : Int) = ((2 ^ k : Nat) : Int) := by rw [Nat.one_shiftLeft]
  clear hl e0
  go_enter Try.func90, Try.ntmps90
  go_wp2_with (first | (go_at_call 58; refine (hL.out _).mono ?_; rintro e w' ⟨rfl, rfl⟩))
  go_ret
  exact ⟨k, HE.out.1, HE.out.2, (by show Ending.returned (.int .u64 ((2 : Int) ^ k)) = _; rw [show (((2 ^ k : Nat)) : Int) = (2 : Int) ^ k by push_cast; rfl]), rfl⟩

end Go.Proofs.Ytnalcmlhfmgfdaa
