/-
  The first rune of a text of which a function says yes: slices.IndexFunc.
-/
import Derived.Test.YtbclmmkphjknaaaRows
import Derived.Test.YtbclmmkphjknaaaFrame
import Derived.Shelf.Abstract
import Derived.Test.YtbclmmkphjknaaaNmIn
namespace Go.Proofs.Ytbclmmkphjknaaa
open Go.RowKit Go.Lib Go.Shelf
set_option maxRecDepth 20000
set_option linter.unusedSimpArgs false
set_option linter.unusedVariables false

/-- the first place where a function says yes -/
def Cn.Idx (l : List Int) (P : Int → Bool) (i : Int) : Prop :=
  (i = -1 ∧ ∀ r ∈ l, P r = false) ∨ ∃ (j : Nat) (x : Int), i = (j : Int) ∧ l[j]? = some x ∧ P x = true ∧ ∀ r ∈ l.take j, P r = false

set_option maxHeartbeats 2000000 in
theorem rnFirst_any (w : World) (v : Value) (l : List Int) (R0 : L.Rd w v .i32 l) (hl : l.length ≤ 140737488355328) (g : Nat) (cb : Array Value) (P : Int → Bool) (eg : ∀ args w, (callFunc g args).run Try.prog w = .ok (.enter g args) w)
    (hh : ∀ W r, Below w.heap.size w W → r ∈ l → Calls Try.prog g (#[.int .i32 r] ++ cb) W fun e w' => e = .returned (.bool (P r)) ∧ Below W.heap.size W w') :
    Calls Try.prog 51 #[v, .func (.func g) #[] cb] w fun e w' => ∃ i : Int, e = .returned (.int .i64 i) ∧ Cn.Idx l P i ∧ Below w.heap.size w w' := by
  have HH : Hid (∀ W r, Below w.heap.size w W → r ∈ l → Calls Try.prog g (#[.int .i32 r] ++ cb) W fun e w' => e = .returned (.bool (P r)) ∧ Below W.heap.size W w') := hh
  obtain ⟨lao, lcap, rfl, _, hcs⟩ := R0
  have HC : Hid (l ≠ [] → ∃ b off, lao = some ⟨b, off, none⟩ ∧ ∀ j z, l[j]? = some z → w.cell? ⟨b, off + j, none⟩ = some (.int .i32 z)) := hcs
  clear hh hcs
  go_enter Try.func51, Try.ntmps51
  go_wp2
  go_loopw [8] (fun i wr => ∃ j : Nat, j ≤ l.length ∧ i = .int .i64 j ∧ Hid (∀ r ∈ l.take j, P r = false) ∧ Hid (Below w.heap.size w wr)) (fun i _ => l.length - (intOf i).toNat)
  case atStart => exact ⟨0, Nat.zero_le _, rfl, fun r hr => by simp at hr, Below.refl _ w⟩
  case round =>
    obtain ⟨j, hj, rfl, HW, HB⟩ := hrel
    by_cases hlt : j < l.length
    · obtain ⟨p, hp⟩ : ∃ x, l[j]? = some x := ⟨l[j], by simp [hlt]⟩
      obtain ⟨b, off, rfl, hcell⟩ := HC.out (by intro h; subst h; simp at hlt)
      have c0 := hcell j p hp
      rw [← HB.out.cell (p := ⟨b, off + j, none⟩) (L.block_lt c0)] at c0
      have hsz := HB.out.size
      have HW2 : Hid (Calls Try.prog g (#[.int .i32 p] ++ cb) wr fun e w' => e = .returned (.bool (P p)) ∧ Below wr.heap.size wr w') := HH.out wr p HB.out (List.mem_of_getElem? hp)
      have HP : Hid (l[j]? = some p) := hp
      obtain ⟨z, HZ⟩ : ∃ z, Hid (P p = z) := ⟨_, rfl⟩
      rw [HZ.out] at HW2
      clear hp hcell
      go_wp2_with fail
      refine HW2.out.mono ?_
      rintro e w1 ⟨rfl, B1⟩
      have HB1 : Hid (Below w.heap.size w w1) := HB.out.trans (B1.mono hsz)
      clear B1
      cases z with
      | false =>
        have HT : Hid (∀ r ∈ l.take (j + 1), P r = false) := fun r hr => by
          rw [List.take_add_one, HP.out, List.mem_append] at hr
          rcases hr with hr | hr
          · exact HW.out r hr
          · simp at hr; rw [hr]; exact HZ.out
        go_wp2
        go_roundw
        case rel => exact ⟨j + 1, by omega, by go_num, HT, HB1⟩
        case measure => simp [intOf]; omega
      | true =>
        go_wp2
        go_ret
        exact ⟨j, rfl, .inr ⟨j, p, rfl, HP.out, HZ.out, HW.out⟩, HB1.out⟩
    · have hkl : j = l.length := by omega
      subst hkl
      go_wp2
      go_ret
      exact ⟨-1, rfl, .inl ⟨rfl, fun r hr => HW.out r (by rw [List.take_length]; exact hr)⟩, HB.out⟩


end Go.Proofs.Ytbclmmkphjknaaa

/-
  With how many marks a text begins: norm.marks.
-/
namespace Go.Proofs.Ytbclmmkphjknaaa
open Go.RowKit Go.Shelf
set_option maxRecDepth 20000
set_option linter.unusedSimpArgs false
set_option linter.unusedVariables false

namespace Nm
def isM (r : Int) : Bool := !decide (cls r = 0)
/-- with how many marks l begins -/
def lead (l : List Int) : Nat := (l.takeWhile isM).length
theorem lead_le (l : List Int) : lead l ≤ l.length := (List.takeWhile_prefix isM).length_le
theorem lead_all {l : List Int} (h : ∀ r ∈ l, isM r = true) : lead l = l.length := by
  unfold lead
  have e : ∀ k : List Int, (∀ r ∈ k, isM r = true) → k.takeWhile isM = k := by
    intro k
    induction k with
    | nil => intro _; rfl
    | cons x k ih => intro hk; rw [List.takeWhile_cons_of_pos (hk x List.mem_cons_self), ih fun r hr => hk r (List.mem_cons_of_mem _ hr)]
  rw [e l h]
theorem lead_at {l : List Int} {j : Nat} {x : Int} (hx : l[j]? = some x) (h : ∀ r ∈ l.take j, isM r = true) (h0 : isM x = false) : lead l = j := by
  have hj := (List.getElem?_eq_some_iff.1 hx).1
  have e : l = l.take j ++ x :: l.drop (j + 1) := by
    have h2 := (List.getElem?_eq_some_iff.1 hx).2
    rw [← h2, ← List.drop_eq_getElem_cons hj, List.take_append_drop]
  unfold lead
  rw [e, List.takeWhile_append_of_pos h, List.takeWhile_cons_of_neg (by simp [h0]), List.append_nil, List.length_take]
  omega
theorem lead_take (l : List Int) : l.take (lead l) = l.takeWhile isM := by
  have h := List.takeWhile_append_dropWhile (p := isM) (l := l)
  unfold lead
  generalize l.takeWhile isM = a at h ⊢
  rw [← h, List.take_left]
theorem lead_drop (l : List Int) : l.drop (lead l) = l.dropWhile isM := by
  have h := List.takeWhile_append_dropWhile (p := isM) (l := l)
  unfold lead
  generalize l.dropWhile isM = b at h ⊢
  generalize l.takeWhile isM = a at h ⊢
  rw [← h, List.drop_left]
end Nm

set_option maxHeartbeats 400000 in
theorem nmMark_any (r : Int) (w : World) : Calls Try.prog 36 #[.int .i32 r] w fun e w' => e = .returned (.bool (Nm.isM r)) ∧ w' = w := by
  have H1 : Hid (∀ r X, Calls Try.prog 7 #[.int .i32 r] X fun e w' => e = .returned (.int .i64 (Nm.cls r)) ∧ w' = X) := fun r X => nmClass_any r X
  have HM : Hid (Nm.isM r = !decide (Nm.cls r = 0)) := (rfl : Nm.isM r = _)
  generalize Nm.isM r = b at HM ⊢
  generalize Nm.cls = f at H1 HM
  go_enter Try.func36, Try.ntmps36
  go_wp2_with fail
  refine (H1.out r _).mono ?_
  rintro e w1 ⟨rfl, rfl⟩
  go_wp2
  go_ret
  exact ⟨L.ret_bool (by rw [HM.out, Bool.eq_iff_iff]; simp), rfl⟩

set_option maxHeartbeats 400000 in
theorem nmMarks1_any (r : Int) (w : World) : Calls Try.prog 52 #[.int .i32 r] w fun e w' => e = .returned (.bool (!Nm.isM r)) ∧ w' = w := by
  have H1 : Hid (∀ r X, Calls Try.prog 36 #[.int .i32 r] X fun e w' => e = .returned (.bool (Nm.isM r)) ∧ w' = X) := fun r X => nmMark_any r X
  generalize Nm.isM = f at H1
  go_enter Try.func52, Try.ntmps52
  go_wp2_with fail
  refine (H1.out r _).mono ?_
  rintro e w1 ⟨rfl, rfl⟩
  go_wp2
  go_ret
  exact ⟨rfl, rfl⟩

set_option maxHeartbeats 1000000 in
theorem nmMarks_any (w : World) (v : Value) (l : List Int) (R : L.Rd w v .i32 l) (hl : l.length ≤ 1000000) :
    Calls Try.prog 32 #[v] w fun e w' => e = .returned (.int .i64 (Nm.lead l)) ∧ Below w.heap.size w w' := by
  have eg : ∀ args w, (callFunc 52 args).run Try.prog w = .ok (.enter 52 args) w := enters_of Try.func52 (by kernel_rfl) rfl
  have HC : Hid (Calls Try.prog 51 #[v, .func (.func 52) #[] #[]] w fun e w' => ∃ i : Int, e = .returned (.int .i64 i) ∧ Cn.Idx l (fun r => !Nm.isM r) i ∧ Below w.heap.size w w') :=
    rnFirst_any w v l R (by omega) _ #[] _ eg fun W r _ _ => (nmMarks1_any r W).mono fun e w' ⟨h1, h2⟩ => ⟨h1, h2 ▸ Below.refl _ _⟩
  obtain ⟨ao, cap, rfl, _, _⟩ := R
  go_enter Try.func32, Try.ntmps32
  go_wp2_with fail
  refine HC.out.mono ?_
  rintro e w1 ⟨i, rfl, hi, b1⟩
  have HB : Hid (Below w.heap.size w w1) := b1
  clear b1 HC
  rcases hi with ⟨rfl, h⟩ | ⟨j, x, rfl, hx, h1, h2⟩
  · have HL : Hid (Nm.lead l = l.length) := Nm.lead_all fun r hr => by have := h r hr; simpa using this
    clear h
    go_wp2
    go_ret
    exact ⟨by rw [HL.out]; rfl, HB.out⟩
  · have HL : Hid (Nm.lead l = j) := Nm.lead_at hx (fun r hr => by have := h2 r hr; simpa using this) (by simpa using h1)
    clear h1 h2 hx
    go_wp2
    go_ret
    exact ⟨by rw [HL.out]; rfl, HB.out⟩

end Go.Proofs.Ytbclmmkphjknaaa
