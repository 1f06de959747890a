/-
  A text taken apart, and what is wrong with it. Plain lists.
-/
import Derived.Test.YtbclmmkphjknaaaNmTab
import Derived.Test.YtbclmmkphjknaaaKRight
import Derived.Test.YtbclmmkphjknaaaRows
namespace Go.Proofs.Ytbclmmkphjknaaa
set_option linter.unusedSimpArgs false
set_option linter.unusedVariables false

namespace Nm
/-- a text taken apart, and what is wrong -/
def apartF (l : List Int) : List Int × Int := if K.textE l ≠ 0 then ([], K.textE l) else if 4000 < (l.flatMap fl).length then ([], 4) else ((l.flatMap fl).foldl insR [], 0)
theorem flat_len (l : List Int) : (l.flatMap fl).length ≤ 3 * l.length := by
  induction l with
  | nil => simp
  | cons r l ih => have := fl_len r; rw [List.flatMap_cons, List.length_append, List.length_cons]; omega
theorem text_ok {l : List Int} (h : K.textE l = 0) : l.length ≤ 4000 ∧ ∀ r ∈ l, 0 ≤ r ∧ r ≤ 1114111 := by
  unfold K.textE at h
  split at h
  · cases h
  · split at h
    · rename_i h1 h2
      refine ⟨by omega, fun r hr => ?_⟩
      have h3 := List.all_eq_true.1 h2 r hr
      unfold M.right at h3
      have := of_decide_eq_true h3
      omega
    · cases h
end Nm

end Go.Proofs.Ytbclmmkphjknaaa

/-
  Great letters and small ones. Plain.
-/
namespace Go.Proofs.Ytbclmmkphjknaaa.Cn

/-- by how much the great letter is less -/
def lessF (r : Int) : Int :=
  if (97 ≤ r ∧ r ≤ 122 ∨ 224 ≤ r ∧ r ≤ 246) ∨ 248 ≤ r ∧ r ≤ 254 then 32
  else if (945 ≤ r ∧ r ≤ 961 ∨ 963 ≤ r ∧ r ≤ 969) ∨ 1072 ≤ r ∧ r ≤ 1103 then 32
  else if 1104 ≤ r ∧ r ≤ 1119 then 80 else 0
def up (r : Int) : Int := r - lessF r
def low (r : Int) : Int := if lessF (r + 32) = 32 then r + 32 else if lessF (r + 80) = 80 then r + 80 else r

theorem less_cases (r : Int) : lessF r = 0 ∨ (lessF r = 32 ∧ 97 ≤ r ∧ r ≤ 1103) ∨ (lessF r = 80 ∧ 1104 ≤ r ∧ r ≤ 1119) := by
  unfold lessF; repeat' split
  all_goals omega
end Go.Proofs.Ytbclmmkphjknaaa.Cn
