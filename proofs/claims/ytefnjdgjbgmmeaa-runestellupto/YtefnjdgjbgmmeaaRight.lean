/-
  What runes.Right and scriptref1.Right answer, and strings.HasPrefix, for every argument.
-/
import Derived.Test.YtefnjdgjbgmmeaaRows
import Derived.Test.YtefnjdgjbgmmeaaMath
import Derived.Test.YtefnjdgjbgmmeaaLib
namespace Go.Proofs.Ytefnjdgjbgmmeaa
open Go.RowKit

set_option maxHeartbeats 400000 in
theorem right_any (r : Int) (w : World) :
    Calls Try.prog 12 #[.int .i32 r] w fun e w' => e = .returned (.bool (M.right r)) ∧ w' = w := by
  go_enter Try.func12, Try.ntmps12
  go_wp2
  all_goals go_ret
  all_goals refine ⟨L.ret_bool ?_, rfl⟩
  all_goals (unfold M.right; rw [Bool.eq_iff_iff]; simp; try omega)

set_option maxHeartbeats 400000 in
theorem pre_slite (s p : ByteArray) (w : World) :
    Calls Try.prog 20 #[.string s, .string p] w fun e w' => e = .returned (.bool (M.pre s p)) ∧ w' = w := by
  by_cases h : p.size ≤ s.size
  · go_enter Try.func20, Try.ntmps20
    go_wp2
    all_goals go_ret
    all_goals refine ⟨L.ret_bool ?_, rfl⟩
    all_goals (unfold M.pre; simp [h, ByteArray.toList_eq])
  · go_enter Try.func20, Try.ntmps20
    go_wp2
    all_goals go_ret
    all_goals refine ⟨L.ret_bool ?_, rfl⟩
    all_goals (unfold M.pre; simp [h])

set_option maxHeartbeats 400000 in
theorem pre_any (s p : ByteArray) (w : World) :
    Calls Try.prog 18 #[.string s, .string p] w fun e w' => e = .returned (.bool (M.pre s p)) ∧ w' = w := by
  go_enter Try.func18, Try.ntmps18
  go_wp2_with (go_at_call 20; refine (pre_slite s p _).mono ?_; rintro e w' ⟨rfl, rfl⟩)
  go_ret
  exact ⟨rfl, rfl⟩

end Go.Proofs.Ytefnjdgjbgmmeaa
