/-
  The first rune of a text of which a function says yes: slices.IndexFunc.
-/
import Derived.Test.YtbclmmkphjknaaaRows
import Derived.Test.YtbclmmkphjknaaaLib
import Derived.Shelf.Abstract
namespace Go.Proofs.Ytbclmmkphjknaaa
open Go.RowKit Go.Lib Go.Shelf
set_option maxRecDepth 20000
set_option linter.unusedSimpArgs false
set_option linter.unusedVariables false

/-- the first place where a function says yes -/
def Cn.Idx (l : List Int) (P : Int → Bool) (i : Int) : Prop :=
  (i = -1 ∧ ∀ r ∈ l, P r = false) ∨ ∃ (j : Nat) (x : Int), i = (j : Int) ∧ l[j]? = some x ∧ P x = true ∧ ∀ r ∈ l.take j, P r = false

set_option maxHeartbeats 2000000 in
theorem rnFirst_any (w : World) (v : Value) (l : List Int) (R0 : L.Rd w v .i32 l) (hl : l.length ≤ 140737488355328) (g : Nat) (cb : Array Value) (P : Int → Bool) (eg : ∀ args w, (callFunc g args).run Try.prog w = .ok (.enter g args) w)
    (hh : ∀ W r, Below w.heap.size w W → r ∈ l → Calls Try.prog g (#[.int .i32 r] ++ cb) W fun e w' => e = .returned (.bool (P r)) ∧ Below W.heap.size W w') :
    Calls Try.prog 51 #[v, .func (.func g) #[] cb] w fun e w' => ∃ i : Int, e = .returned (.int .i64 i) ∧ Cn.Idx l P i ∧ Below w.heap.size w w' := by
  have HH : Hid (∀ W r, Below w.heap.size w W → r ∈ l → Calls Try.prog g (#[.int .i32 r] ++ cb) W fun e w' => e = .returned (.bool (P r)) ∧ Below W.heap.size W w') := hh
  obtain ⟨lao, lcap, rfl, _, hcs⟩ := R0
  have HC : Hid (l ≠ [] → ∃ b off, lao = some ⟨b, off, none⟩ ∧ ∀ j z, l[j]? = some z → w.cell? ⟨b, off + j, none⟩ = some (.int .i32 z)) := hcs
  clear hh hcs
  go_enter Try.func51, Try.ntmps51
  go_wp2
  go_loopw [8] (fun i wr => ∃ j : Nat, j ≤ l.length ∧ i = .int .i64 j ∧ Hid (∀ r ∈ l.take j, P r = false) ∧ Hid (Below w.heap.size w wr)) (fun i _ => l.length - (intOf i).toNat)
  case atStart => exact ⟨0, Nat.zero_le _, rfl, fun r hr => by simp at hr, Below.refl _ w⟩
  case round =>
    obtain ⟨j, hj, rfl, HW, HB⟩ := hrel
    by_cases hlt : j < l.length
    · obtain ⟨p, hp⟩ : ∃ x, l[j]? = some x := ⟨l[j], by simp [hlt]⟩
      obtain ⟨b, off, rfl, hcell⟩ := HC.out (by intro h; subst h; simp at hlt)
      have c0 := hcell j p hp
      rw [← HB.out.cell (p := ⟨b, off + j, none⟩) (L.block_lt c0)] at c0
      have hsz := HB.out.size
      have HW2 : Hid (Calls Try.prog g (#[.int .i32 p] ++ cb) wr fun e w' => e = .returned (.bool (P p)) ∧ Below wr.heap.size wr w') := HH.out wr p HB.out (List.mem_of_getElem? hp)
      have HP : Hid (l[j]? = some p) := hp
      obtain ⟨z, HZ⟩ : ∃ z, Hid (P p = z) := ⟨_, rfl⟩
      rw [HZ.out] at HW2
      clear hp hcell
      go_wp2_with fail
      refine HW2.out.mono ?_
      rintro e w1 ⟨rfl, B1⟩
      have HB1 : Hid (Below w.heap.size w w1) := HB.out.trans (B1.mono hsz)
      clear B1
      cases z with
      | false =>
        have HT : Hid (∀ r ∈ l.take (j + 1), P r = false) := fun r hr => by
          rw [List.take_add_one, HP.out, List.mem_append] at hr
          rcases hr with hr | hr
          · exact HW.out r hr
          · simp at hr; rw [hr]; exact HZ.out
        go_wp2
        go_roundw
        case rel => exact ⟨j + 1, by omega, by go_num, HT, HB1⟩
        case measure => simp [intOf]; omega
      | true =>
        go_wp2
        go_ret
        exact ⟨j, rfl, .inr ⟨j, p, rfl, HP.out, HZ.out, HW.out⟩, HB1.out⟩
    · have hkl : j = l.length := by omega
      subst hkl
      go_wp2
      go_ret
      exact ⟨-1, rfl, .inl ⟨rfl, fun r hr => HW.out r (by rw [List.take_length]; exact hr)⟩, HB.out⟩


end Go.Proofs.Ytbclmmkphjknaaa
