/-
  The closed fact of the statements' package is true.
-/
import Derived.Test.YtajbcgobfkaahaaGreatDoorRRead
import Derived.Test.YtajbcgobfkaahaaGreatDoorTText
namespace Go.Proofs.YtajbcgobfkaahaaGreatDoor
open Go.RowKit
set_option maxRecDepth 20000
set_option linter.unusedSimpArgs false

theorem ralive_text : M.rn { data := #[97, 32, 123, 32, 98, 32, 125, 32, 99, 32, 62, 32, 120, 32, 124, 32, 121, 32, 59] } = [97, 32, 123, 32, 98, 32, 125, 32, 99, 32, 62, 32, 120, 32, 124, 32, 121, 32, 59] := by
  have h := T.rn_bytes (l := [97, 32, 123, 32, 98, 32, 125, 32, 99, 32, 62, 32, 120, 32, 124, 32, 121, 32, 59]) (by unfold T.rightL; decide)
  have e : T.bytesR [97, 32, 123, 32, 98, 32, 125, 32, 99, 32, 62, 32, 120, 32, 124, 32, 121, 32, 59] = [97, 32, 123, 32, 98, 32, 125, 32, 99, 32, 62, 32, 120, 32, 124, 32, 121, 32, 59] := by decide +kernel
  rw [e] at h
  exact h
def ralivePart : R.Part := ⟨2, ⟨#[]⟩, [], 1, ⟨false, false, [R.runeI 97], [R.runeI 98], [R.runeI 99], -1⟩, ⟨false, false, [], [R.runeI 120, R.runeI 121], [], 1⟩⟩
theorem ralive_read : R.read [97, 32, 123, 32, 98, 32, 125, 32, 99, 32, 62, 32, 120, 32, 124, 32, 121, 32, 59] = .ok [ralivePart] 19 := by kernel_rfl

set_option maxHeartbeats 4000000 in
theorem ralive_any (hK : T.ClassOk) (w : World) : Calls Tryz.prog 6 #[] w fun e w' => e = .returned (.bool true) ∧ Below w.heap.size w w' := by
  have h := rread_any hK { data := #[97, 32, 123, 32, 98, 32, 125, 32, 99, 32, 62, 32, 120, 32, 124, 32, 121, 32, 59] } (by decide) w
  rw [ralive_text, ralive_read] at h
  go_enter Tryz.func6, Tryz.ntmps6
  go_wp2_with fail
  refine h.mono ?_
  clear h
  rintro e w1 ⟨v, rfl, hr, _, b1⟩
  obtain ⟨ao, cap, hv, hc⟩ := (R.RowP.pts hr).here
  obtain ⟨b, off, hao, hcell⟩ := hc (by simp)
  obtain ⟨so, sc, lbo, lbc, lso, lsc, lao, lac, rbo, rbc, rso, rsc, rao, rac, c0, c1, c2, c3, c4, c5, c6, c7, c8, c9, c10, c11, c12, c13, c14, c15, _⟩ := hcell 0 ralivePart rfl
  subst hao
  subst hv
  have HB1 : Hid (Below w.heap.size w w1) := b1
  have hlt := L.block_lt c3
  simp only [ralivePart, Nat.zero_mul, Nat.add_zero, List.length_cons, List.length_nil] at c3 c6 c15
  have hn : ¬ w1.heap.size = b := by omega
  have hn' : ¬ b = w1.heap.size := by omega
  clear hr b1 hc hcell c0 c1 c2 c4 c5 c7 c8 c9 c10 c11 c12 c13 c14
  go_wp2
  go_ret
  exact ⟨rfl, HB1.out.alloc HB1.out.size _⟩

end Go.Proofs.YtajbcgobfkaahaaGreatDoor
