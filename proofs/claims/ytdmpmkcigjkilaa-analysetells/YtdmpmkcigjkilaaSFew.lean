/-
  What a call tells that tells a set, or that it is too large.
-/
import Derived.Test.YtdmpmkcigjkilaaSWrong
namespace Go.Proofs.Ytdmpmkcigjkilaa
open Go.RowKit

theorem few_any (w : World) (v : Value) (s : List S.Sp) (R : S.Rd w v s) (hl : s.length ≤ 4611686018427387903) :
    Calls Try.prog 89 #[v] w fun e w' => ∃ v', e = .returned (.tuple #[v', .int .i64 (S.fewE s)]) ∧ S.Rd w' v' (S.fewL s) ∧ w' = w := by
  have R0 := R
  obtain ⟨ao, cap, rfl, hn, hc⟩ := R
  have HR : Hid _ := R0
  clear hc R0
  unfold S.fewE S.fewL
  by_cases hbig : 200 < s.length
  · rw [if_pos hbig, if_pos hbig]
    go_enter Try.func89, Try.ntmps89
    go_wp2
    go_ret2
    exact ⟨_, rfl, S.Rd.nil w, rfl⟩
  · rw [if_neg hbig, if_neg hbig]
    go_enter Try.func89, Try.ntmps89
    go_wp2
    go_ret2
    exact ⟨_, rfl, HR.out, rfl⟩

/-- what a call tells: what is wrong, or the set -/
def Tells (w : World) (ea eb : Int) (P : Int → Bool) (e : Ending) (w' : World) : Prop :=
  ∃ v, e = .returned (.tuple #[v, .int .i64 (S.resE ea eb P)]) ∧ S.Rd w' v (S.resL ea eb P) ∧ Below w.heap.size w w' ∧ (ea = 0 → eb = 0 → ∃ s, S.Is P s)

end Go.Proofs.Ytdmpmkcigjkilaa
