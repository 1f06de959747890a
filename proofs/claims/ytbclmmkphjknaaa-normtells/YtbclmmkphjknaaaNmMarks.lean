/-
  With how many marks a text begins: norm.marks.
-/
import Derived.Test.YtbclmmkphjknaaaNmIn
import Derived.Test.YtbclmmkphjknaaaKFirst
namespace Go.Proofs.Ytbclmmkphjknaaa
open Go.RowKit Go.Shelf
set_option maxRecDepth 20000
set_option linter.unusedSimpArgs false
set_option linter.unusedVariables false

namespace Nm
def isM (r : Int) : Bool := !decide (cls r = 0)
/-- with how many marks l begins -/
def lead (l : List Int) : Nat := (l.takeWhile isM).length
theorem lead_le (l : List Int) : lead l ≤ l.length := (List.takeWhile_prefix isM).length_le
theorem lead_all {l : List Int} (h : ∀ r ∈ l, isM r = true) : lead l = l.length := by
  unfold lead
  have e : ∀ k : List Int, (∀ r ∈ k, isM r = true) → k.takeWhile isM = k := by
    intro k
    induction k with
    | nil => intro _; rfl
    | cons x k ih => intro hk; rw [List.takeWhile_cons_of_pos (hk x List.mem_cons_self), ih fun r hr => hk r (List.mem_cons_of_mem _ hr)]
  rw [e l h]
theorem lead_at {l : List Int} {j : Nat} {x : Int} (hx : l[j]? = some x) (h : ∀ r ∈ l.take j, isM r = true) (h0 : isM x = false) : lead l = j := by
  have hj := (List.getElem?_eq_some_iff.1 hx).1
  have e : l = l.take j ++ x :: l.drop (j + 1) := by
    have h2 := (List.getElem?_eq_some_iff.1 hx).2
    rw [← h2, ← List.drop_eq_getElem_cons hj, List.take_append_drop]
  unfold lead
  rw [e, List.takeWhile_append_of_pos h, List.takeWhile_cons_of_neg (by simp [h0]), List.append_nil, List.length_take]
  omega
theorem lead_take (l : List Int) : l.take (lead l) = l.takeWhile isM := by
  have h := List.takeWhile_append_dropWhile (p := isM) (l := l)
  unfold lead
  generalize l.takeWhile isM = a at h ⊢
  rw [← h, List.take_left]
theorem lead_drop (l : List Int) : l.drop (lead l) = l.dropWhile isM := by
  have h := List.takeWhile_append_dropWhile (p := isM) (l := l)
  unfold lead
  generalize l.dropWhile isM = b at h ⊢
  generalize l.takeWhile isM = a at h ⊢
  rw [← h, List.drop_left]
end Nm

set_option maxHeartbeats 400000 in
theorem nmMark_any (r : Int) (w : World) : Calls Try.prog 36 #[.int .i32 r] w fun e w' => e = .returned (.bool (Nm.isM r)) ∧ w' = w := by
  have H1 : Hid (∀ r X, Calls Try.prog 7 #[.int .i32 r] X fun e w' => e = .returned (.int .i64 (Nm.cls r)) ∧ w' = X) := fun r X => nmClass_any r X
  have HM : Hid (Nm.isM r = !decide (Nm.cls r = 0)) := (rfl : Nm.isM r = _)
  generalize Nm.isM r = b at HM ⊢
  generalize Nm.cls = f at H1 HM
  go_enter Try.func36, Try.ntmps36
  go_wp2_with fail
  refine (H1.out r _).mono ?_
  rintro e w1 ⟨rfl, rfl⟩
  go_wp2
  go_ret
  exact ⟨L.ret_bool (by rw [HM.out, Bool.eq_iff_iff]; simp), rfl⟩

set_option maxHeartbeats 400000 in
theorem nmMarks1_any (r : Int) (w : World) : Calls Try.prog 52 #[.int .i32 r] w fun e w' => e = .returned (.bool (!Nm.isM r)) ∧ w' = w := by
  have H1 : Hid (∀ r X, Calls Try.prog 36 #[.int .i32 r] X fun e w' => e = .returned (.bool (Nm.isM r)) ∧ w' = X) := fun r X => nmMark_any r X
  generalize Nm.isM = f at H1
  go_enter Try.func52, Try.ntmps52
  go_wp2_with fail
  refine (H1.out r _).mono ?_
  rintro e w1 ⟨rfl, rfl⟩
  go_wp2
  go_ret
  exact ⟨rfl, rfl⟩

set_option maxHeartbeats 1000000 in
theorem nmMarks_any (w : World) (v : Value) (l : List Int) (R : L.Rd w v .i32 l) (hl : l.length ≤ 1000000) :
    Calls Try.prog 32 #[v] w fun e w' => e = .returned (.int .i64 (Nm.lead l)) ∧ Below w.heap.size w w' := by
  have eg : ∀ args w, (callFunc 52 args).run Try.prog w = .ok (.enter 52 args) w := enters_of Try.func52 (by kernel_rfl) rfl
  have HC : Hid (Calls Try.prog 51 #[v, .func (.func 52) #[] #[]] w fun e w' => ∃ i : Int, e = .returned (.int .i64 i) ∧ Cn.Idx l (fun r => !Nm.isM r) i ∧ Below w.heap.size w w') :=
    rnFirst_any w v l R (by omega) _ #[] _ eg fun W r _ _ => (nmMarks1_any r W).mono fun e w' ⟨h1, h2⟩ => ⟨h1, h2 ▸ Below.refl _ _⟩
  obtain ⟨ao, cap, rfl, _, _⟩ := R
  go_enter Try.func32, Try.ntmps32
  go_wp2_with fail
  refine HC.out.mono ?_
  rintro e w1 ⟨i, rfl, hi, b1⟩
  have HB : Hid (Below w.heap.size w w1) := b1
  clear b1 HC
  rcases hi with ⟨rfl, h⟩ | ⟨j, x, rfl, hx, h1, h2⟩
  · have HL : Hid (Nm.lead l = l.length) := Nm.lead_all fun r hr => by have := h r hr; simpa using this
    clear h
    go_wp2
    go_ret
    exact ⟨by rw [HL.out]; rfl, HB.out⟩
  · have HL : Hid (Nm.lead l = j) := Nm.lead_at hx (fun r hr => by have := h2 r hr; simpa using this) (by simpa using h1)
    clear h1 h2 hx
    go_wp2
    go_ret
    exact ⟨by rw [HL.out]; rfl, HB.out⟩

end Go.Proofs.Ytbclmmkphjknaaa
