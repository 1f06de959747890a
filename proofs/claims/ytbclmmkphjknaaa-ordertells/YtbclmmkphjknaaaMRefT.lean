/-
  Whether all runes are right: what the document's text answers.
-/
import Derived.Test.YtbclmmkphjknaaaRows
import Derived.Test.YtbclmmkphjknaaaKRight
import Derived.Test.YtbclmmkphjknaaaFrame
namespace Go.Proofs.Ytbclmmkphjknaaa
open Go.RowKit
set_option maxRecDepth 20000
set_option linter.unusedSimpArgs false
set_option linter.unusedVariables false

set_option maxHeartbeats 400000 in
theorem refright_any (r : Int) (w : World) :
    Calls Try.prog 62 #[.int .i32 r] w fun e w' => e = .returned (.bool (M.right r)) ∧ w' = w := by
  go_enter Try.func62, Try.ntmps62
  go_wp2
  all_goals go_ret
  all_goals refine ⟨L.ret_bool ?_, rfl⟩
  all_goals (unfold M.right; rw [Bool.eq_iff_iff]; simp; try omega)

set_option maxHeartbeats 1000000 in
theorem refall_any (w : World) (v : Value) (l : List Int) (R : L.Rd w v .i32 l) (hl : l.length ≤ 4000) :
    Calls Try.prog 49 #[v] w fun e w' => e = .returned (.bool (K.allR l)) ∧ Below w.heap.size w w' := by
  obtain ⟨ao, cap, rfl, hn, hc⟩ := R
  go_enter Try.func49, Try.ntmps49
  go_wp2
  go_loopw [7] (fun i wr => ∃ k : Nat, k ≤ l.length ∧ i = .int .i64 k ∧ Hid (K.allR (l.take k) = true) ∧ Hid (Below w.heap.size w wr)) (fun i _ => l.length - (intOf i).toNat)
  case atStart => exact ⟨0, Nat.zero_le _, rfl, by show K.allR (l.take 0) = true; simp [K.allR], Below.refl _ w⟩
  case round =>
    obtain ⟨k, hk, rfl, HW, HB⟩ := hrel
    by_cases hlt : k < l.length
    · obtain ⟨b, off, rfl, hcell⟩ := hc (by intro h; subst h; simp at hlt)
      obtain ⟨x, hx⟩ : ∃ x, l[k]? = some x := ⟨l[k], by simp [hlt]⟩
      have c1 := hcell k x hx
      have hb := L.block_lt c1
      rw [← HB.out.cell (p := ⟨b, _, none⟩) hb] at c1
      have HX : Hid (l[k]? = some x) := hx
      have hsz := HB.out.size
      have hob := refright_any x wr
      clear hx hcell hc
      cases hbad : M.right x with
      | false =>
        rw [hbad] at hob
        have HR : Hid (M.right x = false) := hbad
        clear hbad
        go_wp2_with fail
        refine hob.mono ?_
        rintro e w1 ⟨rfl, rfl⟩
        go_wp2
        go_ret
        refine ⟨L.ret_bool ?_, HB.out⟩
        symm
        exact List.all_eq_false.2 ⟨_, List.mem_of_getElem? HX.out, by rw [HR.out]; simp⟩
      | true =>
        rw [hbad] at hob
        have HR : Hid (M.right x = true) := hbad
        clear hbad
        go_wp2_with fail
        refine hob.mono ?_
        rintro e w1 ⟨rfl, rfl⟩
        go_wp2
        go_roundw
        case rel =>
          refine ⟨k + 1, by omega, by go_num, ?_, HB.out⟩
          show K.allR (l.take (k + 1)) = true
          have h := HW.out
          unfold K.allR at h ⊢
          rw [List.take_add_one, HX.out, List.all_append, h]
          simp [HR.out]
        case measure => simp [intOf]; omega
    · go_wp2
      go_ret
      refine ⟨L.ret_bool ?_, HB.out⟩
      have h := HW.out
      rw [List.take_of_length_le (by omega)] at h
      rw [h]

theorem K.first3 {e1 e2 e3 o t : Int} (h : (if e1 ≠ 0 then e1 else if e2 ≠ 0 then e2 else if e3 ≠ 0 then e3 else t) = o) : ∀ (k : Nat) e, [e1, e2, e3][k]? = some e → (∀ (j : Nat) e', j < k → [e1, e2, e3][j]? = some e' → e' = 0) → e ≠ 0 → e = o := by
  intro k e hk hj he
  match k, hk with
  | 0, hk =>
    simp at hk
    subst hk
    rw [if_pos he] at h
    exact h
  | 1, hk =>
    simp at hk
    subst hk
    have h0 := hj 0 e1 (by omega) rfl
    rw [if_neg (by simp [h0]), if_pos he] at h
    exact h
  | 2, hk =>
    simp at hk
    subst hk
    have h0 := hj 0 e1 (by omega) rfl
    have h1 := hj 1 e2 (by omega) rfl
    rw [if_neg (by simp [h0]), if_neg (by simp [h1]), if_pos he] at h
    exact h
  | k + 3, hk => simp at hk


end Go.Proofs.Ytbclmmkphjknaaa

/-
  What is wrong with a text: what the document answers.
-/
namespace Go.Proofs.Ytbclmmkphjknaaa
open Go.RowKit
set_option maxRecDepth 20000
set_option linter.unusedSimpArgs false
set_option linter.unusedVariables false

set_option maxHeartbeats 400000 in
theorem rText_any (w : World) (v : Value) (l : List Int) (R : L.Rd w v .i32 l) (hl : l.length ≤ 140737488355328) :
    Calls Try.prog 29 #[v] w fun e w' => e = .returned (.int .i64 (K.textE l)) ∧ Below w.heap.size w w' := by
  have h := refall_any w v l R
  obtain ⟨ao, cap, rfl, hn, hc⟩ := R
  clear hc
  unfold K.textE
  by_cases h4 : 4000 < l.length
  · rw [if_pos h4]
    go_enter Try.func29, Try.ntmps29
    go_wp2
    go_ret
    exact ⟨rfl, Below.refl _ w⟩
  · rw [if_neg h4]
    have h' := h (by omega)
    clear h
    generalize K.allR l = bb at h' ⊢
    cases bb with
    | true =>
      go_enter Try.func29, Try.ntmps29
      go_wp2_with fail
      refine h'.mono ?_
      rintro e w1 ⟨rfl, hb⟩
      go_wp2
      go_ret
      exact ⟨rfl, hb⟩
    | false =>
      go_enter Try.func29, Try.ntmps29
      go_wp2_with fail
      refine h'.mono ?_
      rintro e w1 ⟨rfl, hb⟩
      go_wp2
      go_ret
      exact ⟨rfl, hb⟩


end Go.Proofs.Ytbclmmkphjknaaa
