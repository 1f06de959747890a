/-
  What scriptlaw1.alive answers: true.
-/
import Derived.Test.YtefnjdgjbgmmeaaDecode
import Derived.Test.YtefnjdgjbgmmeaaRight
namespace Go.Proofs.Ytefnjdgjbgmmeaa
open Go.RowKit

theorem rn_alive : M.rn ⟨#[97, 195, 169, 255]⟩ = [97, 233, 65533] := by decide +kernel

theorem alive_rd {w : World} {B : Nat} {e : TypeId} {v : Value} (h : w.ownsRow B e 1 v (M.rn ⟨#[97, 195, 169, 255]⟩).length ((M.rn ⟨#[97, 195, 169, 255]⟩).map (Value.int .i32))) :
    ∃ b off cap, v = .slice (some ⟨b, off, none⟩) 3 cap ∧ w.cell? ⟨b, off + 1, none⟩ = some (.int .i32 233) ∧ w.cell? ⟨b, off + 2, none⟩ = some (.int .i32 65533) := by
  rw [rn_alive] at h
  obtain ⟨ao, cap, rfl, _, hd⟩ := L.Rd.of_owns h
  obtain ⟨b, off, rfl, hc⟩ := hd (by simp)
  exact ⟨b, off, cap, rfl, hc 1 233 rfl, hc 2 65533 rfl⟩

theorem right_97 : M.right 97 = true := by decide

set_option maxHeartbeats 400000 in
theorem alive_any (w : World) : Calls Try.prog 16 #[] w fun e w' => e = .returned (.bool true) ∧ Below w.heap.size w w' := by
  go_enter Try.func16, Try.ntmps16
  go_wp2_with (first
    | (go_at_call 10; go_must (refine (decode_any _ _ (by decide)).mono ?_; rintro e w' ⟨v, rfl, hown, hb⟩; obtain ⟨b, off, cap, rfl, c1, c2⟩ := alive_rd hown; clear hown))
    | (go_at_call 12; go_must (refine (right_any _ _).mono ?_; rintro e w' ⟨rfl, rfl⟩; rw [right_97])))
  go_ret
  exact ⟨rfl, hb⟩

end Go.Proofs.Ytefnjdgjbgmmeaa
