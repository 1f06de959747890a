/-
  How long a text gets.
-/
import Derived.Test.YtkkocnkfdepoiaaQMath
namespace Go.Proofs.Ytkkocnkfdepoiaa.K

theorem play_len {l : List Rule} : ∀ {left : Nat} {done rest : List Int} {s p : Int}, done.length + rest.length ≤ 4000 → (play l left done rest s p).2.1.length ≤ 4000 := by
  intro left
  induction left with
  | zero =>
    intro done rest s p h
    rw [play]
    split
    · show done.length ≤ 4000; omega
    · show 0 ≤ 4000; omega
  | succ left ih =>
    intro done rest s p h
    rw [play]
    split
    · show done.length ≤ 4000; omega
    · split
      · exact ih (by simp; omega)
      · simp only
        split
        · show 0 ≤ 4000; omega
        · exact ih (by simp; omega)
theorem runF_len {l : List Rule} {t : List Int} : (runF l t).1.1.length ≤ 4000 := by
  unfold runF
  split
  · rename_i h
    have ht := textE_zero (checkF_zero h).2.1
    exact play_len (by simpa using ht)
  · show 0 ≤ 4000; omega

end Go.Proofs.Ytkkocnkfdepoiaa.K

/-
  The set with which a rule begins.
-/
namespace Go.Proofs.Ytkkocnkfdepoiaa.K
open Go.Proofs.Ytkkocnkfdepoiaa.S
def headS (r : Rule) : List Sp := r.source.headD []
def firstsL (l : List Rule) : List Sp := l.flatMap headS
end Go.Proofs.Ytkkocnkfdepoiaa.K
