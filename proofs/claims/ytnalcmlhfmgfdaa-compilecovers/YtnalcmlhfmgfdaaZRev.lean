/-
  A stretch of runes turned round.
-/
import Derived.Test.YtnalcmlhfmgfdaaZLess
import Derived.BigRegion
namespace Go.Proofs.Ytnalcmlhfmgfdaa
open Go.RowKit Go.Sort
set_option maxRecDepth 20000
set_option linter.unusedSimpArgs false
set_option linter.unusedVariables false

set_option maxHeartbeats 4000000 in
theorem zrev_any (w : World) (blk off cap a b : Nat) (d : Array Int) (h0 : Holds Z.en w blk off d) (hab : a < b) (hb : b ≤ d.size) (hsz : d.size < 4611686018427387904) :
    Calls Try.prog 77 #[.slice (some ⟨blk, off, none⟩) d.size cap, .int .i64 a, .int .i64 b] w fun e w' => e = .returned (.tuple #[]) ∧ Z.At w blk off d.size (reverseRange d a b) w' := by
  have H0 : Hid (Holds Z.en w blk off d) := h0
  have HS : Hid (Z.At w blk off d.size d w) := Z.At.start h0
  clear h0
  go_enter Try.func77, Try.ntmps77
  go_wp2
  go_loopw [6, 7] (fun vi vj wr => ∃ (i j : Nat) (e : Array Int), vi = .int .i64 i ∧ vj = .int .i64 j ∧ a ≤ i ∧ i ≤ j + 1 ∧ j < b ∧ Hid (Z.At w blk off d.size e wr ∧ reverseLoop i j e = reverseLoop a (b - 1) d)) (fun vi _ _ => b - (RowKit.intOf vi).toNat)
  case atStart => exact ⟨a, b - 1, d, rfl, by congr 1; omega, Nat.le_refl _, by omega, by omega, HS.out, rfl⟩
  case round =>
    obtain ⟨i, j, e, rfl, rfl, hai, hij, hjb, HE⟩ := hrel
    clear HS
    by_cases hlt : i < j
    · have ci := HE.out.1.cell H0.out rfl (j := i) (by omega)
      have cj := HE.out.1.cell H0.out rfl (j := j) (by omega)
      have fi := HE.out.1.free H0.out rfl (j := i) (by omega)
      have fj := HE.out.1.free H0.out rfl (j := j) (by omega)
      have hsw := HE.out.1.swap (i := i) (j := j) (by omega) (by omega) 1
      generalize hx : e[i]! = x at ci hsw
      generalize hy : e[j]! = y at cj hsw
      have HW : Hid (Z.At w blk off d.size (swp e i j) ((((wr.drewN 1)).setCell ⟨blk, off + i, none⟩ (.int .i32 y)).setCell ⟨blk, off + j, none⟩ (.int .i32 x))) := hsw
      clear hsw hx hy H0
      go_wp2_with fail
      go_region
      go_wp2
      go_roundw
      case rel =>
        refine ⟨i + 1, j - 1, swp e i j, by go_num, by congr 1; omega, by omega, by omega, by omega, HW.out, ?_⟩
        have h := HE.out.2
        rw [reverseLoop, if_pos hlt] at h
        exact h
      case measure => simp [RowKit.intOf]; omega
    · go_wp2
      go_end0
      refine ⟨rfl, ?_⟩
      have h := HE.out.2
      rw [reverseLoop, if_neg hlt] at h
      unfold reverseRange
      rw [← h]
      exact HE.out.1

end Go.Proofs.Ytnalcmlhfmgfdaa
