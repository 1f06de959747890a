/-
  What is wrong with a text: what the program answers.
-/
import Derived.Test.YtbclmmkphjknaaaRows
import Derived.Test.YtbclmmkphjknaaaKRight
import Derived.Test.YtbclmmkphjknaaaLib
import Derived.Shelf.Abstract
namespace Go.Proofs.Ytbclmmkphjknaaa
open Go.RowKit Go.Shelf
set_option maxRecDepth 20000
set_option linter.unusedSimpArgs false
set_option linter.unusedVariables false

set_option maxHeartbeats 400000 in
theorem mright_any (r : Int) (w : World) :
    Calls Try.prog 59 #[.int .i32 r] w fun e w' => e = .returned (.bool (M.right r)) ∧ w' = w := by
  go_enter Try.func59, Try.ntmps59
  go_wp2
  all_goals go_ret
  all_goals refine ⟨L.ret_bool ?_, rfl⟩
  all_goals (unfold M.right; rw [Bool.eq_iff_iff]; simp; try omega)

set_option maxHeartbeats 400000 in
theorem mright1_any (r : Int) (w : World) :
    Calls Try.prog 58 #[.int .i32 r] w fun e w' => e = .returned (.bool (!M.right r)) ∧ w' = w := by
  go_enter Try.func58, Try.ntmps58
  go_wp2_with (go_at_call 59; refine (mright_any r _).mono ?_; rintro e w' ⟨rfl, rfl⟩)
  go_ret
  exact ⟨rfl, rfl⟩

set_option maxHeartbeats 1000000 in
theorem mindex_any (w : World) (v : Value) (l : List Int) (R : L.Rd w v .i32 l) (hl : l.length ≤ 4000) :
    Calls Try.prog 51 #[v, .func (.func 58) #[] #[]] w fun e w' => ∃ i : Int, e = .returned (.int .i64 i) ∧ decide (0 ≤ i) = !K.allR l ∧ Below w.heap.size w w' := by
  obtain ⟨ao, cap, rfl, hn, hc⟩ := R
  have eg : ∀ args w, (callFunc 58 args).run Try.prog w = .ok (.enter 58 args) w := enters_of Try.func58 (by kernel_rfl) rfl
  go_enter Try.func51, Try.ntmps51
  go_wp2
  go_loopw [8] (fun i wr => ∃ k : Nat, k ≤ l.length ∧ i = .int .i64 k ∧ Hid (K.allR (l.take k) = true) ∧ Hid (Below w.heap.size w wr)) (fun i _ => l.length - (intOf i).toNat)
  case atStart => exact ⟨0, Nat.zero_le _, rfl, by show K.allR (l.take 0) = true; simp [K.allR], Below.refl _ w⟩
  case round =>
    obtain ⟨k, hk, rfl, HW, HB⟩ := hrel
    by_cases hlt : k < l.length
    · obtain ⟨b, off, rfl, hcell⟩ := hc (by intro h; subst h; simp at hlt)
      obtain ⟨x, hx⟩ : ∃ x, l[k]? = some x := ⟨l[k], by simp [hlt]⟩
      have c1 := hcell k x hx
      have hb := L.block_lt c1
      rw [← HB.out.cell (p := ⟨b, _, none⟩) hb] at c1
      have HX : Hid (l[k]? = some x) := hx
      have hsz := HB.out.size
      have hob := mright1_any x wr
      clear hx hcell hc
      cases hbad : M.right x with
      | false =>
        rw [hbad] at hob
        have HR : Hid (M.right x = false) := hbad
        clear hbad
        go_wp2_with fail
        refine hob.mono ?_
        rintro e w1 ⟨rfl, rfl⟩
        go_wp2
        go_ret
        refine ⟨k, rfl, ?_, HB.out⟩
        have : K.allR l = false := List.all_eq_false.2 ⟨_, List.mem_of_getElem? HX.out, by rw [HR.out]; simp⟩
        rw [this]; simp
      | true =>
        rw [hbad] at hob
        have HR : Hid (M.right x = true) := hbad
        clear hbad
        go_wp2_with fail
        refine hob.mono ?_
        rintro e w1 ⟨rfl, rfl⟩
        go_wp2
        go_roundw
        case rel =>
          refine ⟨k + 1, by omega, by go_num, ?_, HB.out⟩
          show K.allR (l.take (k + 1)) = true
          have h := HW.out
          unfold K.allR at h ⊢
          rw [List.take_add_one, HX.out, List.all_append, h]
          simp [HR.out]
        case measure => simp [intOf]; omega
    · go_wp2
      go_ret
      refine ⟨-1, rfl, ?_, HB.out⟩
      have h := HW.out
      rw [List.take_of_length_le (by omega)] at h
      rw [h]
      rfl

set_option maxHeartbeats 400000 in
theorem mcontains_any (w : World) (v : Value) (l : List Int) (R : L.Rd w v .i32 l) (hl : l.length ≤ 4000) :
    Calls Try.prog 57 #[v, .func (.func 58) #[] #[]] w fun e w' => e = .returned (.bool (!K.allR l)) ∧ Below w.heap.size w w' := by
  have h := mindex_any w v l R hl
  obtain ⟨ao, cap, rfl, hn, hc⟩ := R
  clear hc
  go_enter Try.func57, Try.ntmps57
  go_wp2_with fail
  refine h.mono ?_
  rintro e w1 ⟨i, rfl, hi, hb⟩
  have HI : Hid _ := hi
  clear hi
  go_wp2
  go_ret
  exact ⟨L.ret_bool HI.out, hb⟩

set_option maxHeartbeats 400000 in
theorem mallRight_any (w : World) (v : Value) (l : List Int) (R : L.Rd w v .i32 l) (hl : l.length ≤ 4000) :
    Calls Try.prog 44 #[v] w fun e w' => e = .returned (.bool (K.allR l)) ∧ Below w.heap.size w w' := by
  have h := mcontains_any w v l R hl
  obtain ⟨ao, cap, rfl, hn, hc⟩ := R
  clear hc
  go_enter Try.func44, Try.ntmps44
  go_wp2_with fail
  refine h.mono ?_
  rintro e w1 ⟨rfl, hb⟩
  go_wp2
  go_ret
  exact ⟨by simp, hb⟩

set_option maxHeartbeats 400000 in
theorem mText_any (w : World) (v : Value) (l : List Int) (R : L.Rd w v .i32 l) (hl : l.length ≤ 140737488355328) :
    Calls Try.prog 26 #[v] w fun e w' => e = .returned (.int .i64 (K.textE l)) ∧ Below w.heap.size w w' := by
  have h := mallRight_any w v l R
  obtain ⟨ao, cap, rfl, hn, hc⟩ := R
  clear hc
  unfold K.textE
  by_cases h4 : 4000 < l.length
  · rw [if_pos h4]
    go_enter Try.func26, Try.ntmps26
    go_wp2
    go_ret
    exact ⟨rfl, Below.refl _ w⟩
  · rw [if_neg h4]
    have h' := h (by omega)
    clear h
    generalize K.allR l = bb at h' ⊢
    cases bb with
    | true =>
      go_enter Try.func26, Try.ntmps26
      go_wp2_with fail
      refine h'.mono ?_
      rintro e w1 ⟨rfl, hb⟩
      go_wp2
      go_ret
      exact ⟨rfl, hb⟩
    | false =>
      go_enter Try.func26, Try.ntmps26
      go_wp2_with fail
      refine h'.mono ?_
      rintro e w1 ⟨rfl, hb⟩
      go_wp2
      go_ret
      exact ⟨rfl, hb⟩


end Go.Proofs.Ytbclmmkphjknaaa
