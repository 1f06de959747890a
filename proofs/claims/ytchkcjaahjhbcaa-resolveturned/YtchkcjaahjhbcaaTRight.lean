/-
  Which runes are right: what the program answers.
-/
import Derived.Test.YtchkcjaahjhbcaaTMath
import Derived.Test.YtchkcjaahjhbcaaSWrong
namespace Go.Proofs.Ytchkcjaahjhbcaa
open Go.RowKit

set_option maxHeartbeats 400000 in
theorem right_any (r : Int) (w : World) :
    Calls Try.prog 89 #[.int .i32 r] w fun e w' => e = .returned (.bool (M.right r)) ∧ w' = w := by
  go_enter Try.func89, Try.ntmps89
  go_wp2
  all_goals go_ret
  all_goals refine ⟨L.ret_bool ?_, rfl⟩
  all_goals (unfold M.right; rw [Bool.eq_iff_iff]; simp; try omega)

end Go.Proofs.Ytchkcjaahjhbcaa
