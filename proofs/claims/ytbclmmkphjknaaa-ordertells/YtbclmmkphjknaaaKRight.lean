/-
  Runs of marks in the order of their classes: one mark after the other put into its place. Plain lists.
-/
import Derived.Test.YtbclmmkphjknaaaNmIns
import Derived.Test.YtbclmmkphjknaaaNmMarks
import Derived.Test.YtbclmmkphjknaaaNmTab
namespace Go.Proofs.Ytbclmmkphjknaaa.Nm
set_option linter.unusedSimpArgs false
set_option linter.unusedVariables false

theorem cls_pos (r : Int) : 0 ≤ cls r := by
  unfold cls
  repeat' split
  all_goals omega
theorem isM_pos {r : Int} : isM r = true ↔ 0 < cls r := by
  unfold isM
  have := cls_pos r
  simp
  omega
/-- into its place, from the end on (the row turned round) -/
def insV : List Int → Int → List Int
  | [], x => [x]
  | y :: r, x => if 0 < cls x ∧ cls x < cls y then y :: insV r x else x :: y :: r
def insR (out : List Int) (x : Int) : List Int := (insV out.reverse x).reverse
def ssort (M : List Int) : List Int := M.foldl insR []
theorem insV_len : ∀ (r : List Int) (x : Int), (insV r x).length = r.length + 1
  | [], x => rfl
  | y :: r, x => by rw [insV]; split <;> simp [insV_len r x]
theorem insR_len (out : List Int) (x : Int) : (insR out x).length = out.length + 1 := by unfold insR; rw [List.length_reverse, insV_len, List.length_reverse]
theorem fold_len : ∀ (M out : List Int), (M.foldl insR out).length = out.length + M.length
  | [], out => by simp
  | x :: M, out => by rw [List.foldl_cons, fold_len M, insR_len, List.length_cons]; omega
theorem insV_zero {x : Int} (h : cls x = 0) : ∀ r : List Int, insV r x = x :: r
  | [] => rfl
  | y :: r => by rw [insV, if_neg (by omega)]
theorem insR_zero {x : Int} (h : cls x = 0) (A : List Int) : insR A x = A ++ [x] := by unfold insR; rw [insV_zero h]; simp
theorem insV_app {c x : Int} (hc : cls c = 0) (P : List Int) : ∀ B : List Int, insV (B ++ c :: P) x = insV B x ++ c :: P
  | [] => by
    rw [List.nil_append]
    show (if 0 < cls x ∧ cls x < cls c then c :: insV P x else x :: c :: P) = _
    rw [if_neg (by have := cls_pos x; omega)]
    rfl
  | y :: B => by
    rw [List.cons_append, insV, insV]
    split
    · rw [insV_app hc P B]; rfl
    · rfl
/-- nothing stands there, or no mark at the end -/
def Ends (A : List Int) : Prop := A = [] ∨ ∃ A0 c, A = A0 ++ [c] ∧ cls c = 0
theorem insR_app {A : List Int} (h : Ends A) (B : List Int) (x : Int) : insR (A ++ B) x = A ++ insR B x := by
  rcases h with rfl | ⟨A0, c, rfl, hc⟩
  · simp
  · unfold insR
    have e : (A0 ++ [c] ++ B).reverse = B.reverse ++ c :: A0.reverse := by simp
    rw [e, insV_app hc]
    simp
theorem fold_app {A : List Int} (h : Ends A) : ∀ (M B : List Int), M.foldl insR (A ++ B) = A ++ M.foldl insR B
  | [], B => rfl
  | x :: M, B => by rw [List.foldl_cons, List.foldl_cons, insR_app h, fold_app h M]
theorem fold_run {A : List Int} (h : Ends A) (M : List Int) : M.foldl insR A = A ++ ssort M := by
  have := fold_app h M []
  rwa [List.append_nil] at this
theorem insV_split (x : Int) : ∀ r : List Int, ∃ B A, r = B ++ A ∧ insV r x = B ++ x :: A ∧ (∀ y ∈ B, 0 < cls x ∧ cls x < cls y) ∧ (A = [] ∨ ∃ z A0, A = z :: A0 ∧ ¬ (0 < cls x ∧ cls x < cls z))
  | [] => ⟨[], [], rfl, rfl, fun y hy => (by (cases hy)), .inl rfl⟩
  | y :: r => by
    by_cases h : 0 < cls x ∧ cls x < cls y
    · obtain ⟨B, A, h1, h2, h3, h4⟩ := insV_split x r
      refine ⟨y :: B, A, by rw [h1]; rfl, by rw [insV, if_pos h, h2]; rfl, fun z hz => ?_, h4⟩
      rcases List.mem_cons.1 hz with rfl | hz
      · exact h
      · exact h3 z hz
    · exact ⟨[], y :: r, rfl, by rw [insV, if_neg h]; rfl, fun y hy => by (cases hy), .inr ⟨y, r, rfl, h⟩⟩
theorem insR_split (out : List Int) (x : Int) : ∃ A B, out = A ++ B ∧ insR out x = A ++ x :: B ∧ (∀ y ∈ B, 0 < cls x ∧ cls x < cls y) ∧ (A = [] ∨ ∃ A0 z, A = A0 ++ [z] ∧ ¬ (0 < cls x ∧ cls x < cls z)) := by
  obtain ⟨B, A, h1, h2, h3, h4⟩ := insV_split x out.reverse
  refine ⟨A.reverse, B.reverse, ?_, ?_, fun y hy => h3 y (List.mem_reverse.1 hy), ?_⟩
  · have := congrArg List.reverse h1
    simpa using this
  · unfold insR
    rw [h2]
    simp
  · rcases h4 with rfl | ⟨z, A0, rfl, h⟩
    · exact .inl rfl
    · exact .inr ⟨A0.reverse, z, by simp, h⟩
/-- where it stands is told -/
theorem insR_at {A B : List Int} {x : Int} (hB : ∀ y ∈ B, 0 < cls x ∧ cls x < cls y) (hA : A = [] ∨ ∃ A0 z, A = A0 ++ [z] ∧ ¬ (0 < cls x ∧ cls x < cls z)) : insR (A ++ B) x = A ++ x :: B := by
  have h : ∀ (B A : List Int), (∀ y ∈ B, 0 < cls x ∧ cls x < cls y) → (A = [] ∨ ∃ z A0, A = z :: A0 ∧ ¬ (0 < cls x ∧ cls x < cls z)) → insV (B ++ A) x = B ++ x :: A := by
    intro B
    induction B with
    | nil =>
      intro A _ hA
      rcases hA with rfl | ⟨z, A0, rfl, h⟩
      · rfl
      · show insV (z :: A0) x = _; rw [insV, if_neg h]; rfl
    | cons y B ih =>
      intro A hB hA
      rw [List.cons_append, insV, if_pos (hB y List.mem_cons_self), ih A (fun z hz => hB z (List.mem_cons_of_mem _ hz)) hA]
      rfl
  unfold insR
  rw [List.reverse_append, h B.reverse A.reverse (fun y hy => hB y (List.mem_reverse.1 hy)) (by
    rcases hA with rfl | ⟨A0, z, rfl, h⟩
    · exact .inl rfl
    · exact .inr ⟨z, A0.reverse, by simp, h⟩)]
  simp
theorem insR_good {out : List Int} {x : Int} (hx : 0 < cls x) (h : Srt out) : Srt (insR out x) ∧ Eqv (out ++ [x]) (insR out x) := by
  obtain ⟨A, B, rfl, e, h3, h4⟩ := insR_split out x
  rw [e]
  refine ⟨put_srt h (fun u hu => ?_) fun u hu => (h3 u hu).2, put_eqv fun u hu => (h3 u hu).2⟩
  rcases h4 with rfl | ⟨A0, z, rfl, h5⟩
  · cases hu
  · rcases List.mem_append.1 hu with h6 | h6
    · have := h.parts.1.ahead h6
      omega
    · simp at h6; subst h6; omega
theorem fold_good : ∀ (M out : List Int), (∀ x ∈ M, 0 < cls x) → Srt out → Srt (M.foldl insR out) ∧ Eqv (out ++ M) (M.foldl insR out)
  | [], out, _, h => ⟨h, by rw [List.append_nil]; exact Eqv.refl _⟩
  | x :: M, out, hM, h => by
    obtain ⟨h1, h2⟩ := insR_good (hM x List.mem_cons_self) h
    obtain ⟨h3, h4⟩ := fold_good M (insR out x) (fun y hy => hM y (List.mem_cons_of_mem _ hy)) h1
    refine ⟨h3, ?_⟩
    have e : out ++ x :: M = (out ++ [x]) ++ M := by simp
    rw [e, List.foldl_cons]
    exact (h2.app (Eqv.refl M)).trans h4
/-- marks in order, as they stood: there is one such row alone -/
theorem ssort_is {M S : List Int} (hM : ∀ x ∈ M, isM x = true) (h1 : Srt S) (h2 : Eqv M S) : S = ssort M := by
  obtain ⟨h3, h4⟩ := fold_good M [] (fun x hx => isM_pos.1 (hM x hx)) Srt.nil
  rw [List.nil_append] at h4
  exact uniq h1 h3 (h2.symm.trans h4)
theorem take_marks (l : List Int) : ∀ x ∈ l.takeWhile isM, isM x = true := by
  intro x hx
  induction l with
  | nil => cases hx
  | cons y l ih =>
    rw [List.takeWhile_cons] at hx
    split at hx
    · rcases List.mem_cons.1 hx with rfl | hx
      · assumption
      · exact ih hx
    · cases hx
theorem drop_none {l t : List Int} {c : Int} (h : l.dropWhile isM = c :: t) : cls c = 0 := by
  induction l with
  | nil => cases h
  | cons y l ih =>
    rw [List.dropWhile_cons] at h
    split at h
    · exact ih h
    · rename_i hy
      cases h
      unfold isM at hy
      simpa using hy
end Go.Proofs.Ytbclmmkphjknaaa.Nm

/-
  Whether all runes are right; what is wrong with a text.
-/
namespace Go.Proofs.Ytbclmmkphjknaaa.K

def allR (l : List Int) : Bool := l.all M.right
def textE (l : List Int) : Int := if 4000 < l.length then 4 else if allR l = true then 0 else 3

end Go.Proofs.Ytbclmmkphjknaaa.K
