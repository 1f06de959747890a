/-
  Rules of one rune each with nothing around: what each rune becomes hangs on itself alone. Plain lists.
-/
import Derived.Test.YtgbhkkojkpndmaaGreatDoorShPlay
namespace Go.Proofs.YtgbhkkojkpndmaaGreatDoor.Sh
set_option linter.unusedSimpArgs false

def r1 (x : List S.Sp × List Int) : K.Rule := ⟨false, false, [], [x.1], [], x.2, x.2.length⟩
def look : List (List S.Sp × List Int) → Int → Option (List Int)
  | [], _ => none
  | x :: l, r => if S.memb x.1 r = true then some x.2 else look l r
def by1 (l : List (List S.Sp × List Int)) (r : Int) : List Int := (look l r).getD [r]
theorem match_1 (x : List S.Sp × List Int) (done : List Int) (r : Int) (rest : List Int) : K.matchB (r1 x) (done ++ r :: rest) done.length = S.memb x.1 r := by
  have e1 := zsf done r rest
  have e0 : (done.length : Int) - ((([] : List (List S.Sp)).length : Nat) : Int) = (done.length : Int) := by simp
  simp only [K.matchB, r1, e0, List.nil_append, List.append_nil, K.runAt, Bool.and_true, Bool.false_and, Bool.not_false, e1]
  have h1 : decide ((0 : Int) ≤ (done.length : Int)) = true := by simp
  have h2 : decide ((done.length : Int) < ((done ++ r :: rest).length : Int)) = true := by first | (simp; done) | (simp; omega)
  rw [h1, h2, Bool.true_and, Bool.true_and]
theorem which_1 (done : List Int) (r : Int) (rest : List Int) : ∀ (l : List (List S.Sp × List Int)) (i : Nat), (K.whichN (done ++ r :: rest) done.length i (l.map r1) = -1 ∧ look l r = none) ∨ ∃ (j : Nat) (x : List S.Sp × List Int), K.whichN (done ++ r :: rest) done.length i (l.map r1) = ((i + j : Nat) : Int) ∧ l[j]? = some x ∧ look l r = some x.2 := by
  intro l
  induction l with
  | nil => intro i; exact .inl ⟨rfl, rfl⟩
  | cons x l ih =>
    intro i
    rw [List.map_cons, K.whichN, match_1, look]
    by_cases h : S.memb x.1 r = true
    · rw [if_pos h, if_pos h]
      exact .inr ⟨0, x, rfl, rfl, rfl⟩
    · rw [if_neg h, if_neg h]
      rcases ih (i + 1) with ⟨h1, h2⟩ | ⟨j, y, h1, h2, h3⟩
      · exact .inl ⟨h1, h2⟩
      · exact .inr ⟨j + 1, y, by rw [h1]; congr 1; omega, by simpa using h2, h3⟩
theorem by_em (f : Int → List Int) : ∀ (rest done : List Int), em (fun _ r _ => f r) done rest = done ++ rest.flatMap f := by
  intro rest
  induction rest with
  | nil => intro done; simp [em]
  | cons r rest ih => intro done; rw [em, ih, List.flatMap_cons, List.append_assoc]
theorem go_by {pl : Cn.Pl} (hpl : Cn.PlOk pl) {l : List (List S.Sp × List Int)} (hr : (K.rulesF (l.map r1)).1 = 0) (hed : (J.edgesL (l.map r1)).length ≤ 400) (hl : ∀ x ∈ l, x.2.length ≤ 4)
    {t : List Int} (ht : t.length ≤ 1000) (hR : ∀ z ∈ t, M.right z = true) : Cn.goF pl (oneS (l.map r1)) t = (t.flatMap (by1 l), 0, 0) := by
  have h := zs6 hpl (l := l.map r1) (f := fun _ r _ => by1 l r) (m := 4) (by omega) (by omega) hr hed (fun done r rest => ?_) ht hR
  · rw [h, by_em]; rfl
  · rcases which_1 done r rest l 0 with ⟨h1, h2⟩ | ⟨j, x, h1, h2, h3⟩
    · exact .inl ⟨h1, by unfold by1; rw [h2]; rfl⟩
    · refine .inr ⟨j, r1 x, by unfold K.which; rw [h1, Nat.zero_add], by rw [List.getElem?_map, h2]; rfl, rfl, rfl, hl x (List.mem_of_getElem? h2), by unfold by1; rw [h3]; rfl⟩
theorem memb1 (a z : Int) : S.memb [(a, a)] z = decide (z = a) := by simp [S.memb]; rw [Bool.eq_iff_iff]; simp; omega

/- german -/
def gmL : List (List S.Sp × List Int) := [([(228, 228)], [97, 101]), ([(246, 246)], [111, 101]), ([(252, 252)], [117, 101]), ([(223, 223)], [115, 115]), ([(196, 196)], [65, 101]), ([(214, 214)], [79, 101]), ([(220, 220)], [85, 101])]
/- rovar -/
def rvC : List Int := [98, 99, 100, 102, 103, 104, 106, 107, 108, 109, 110, 112, 113, 114, 115, 116, 118, 119, 120, 122]
def rvL : List (List S.Sp × List Int) := rvC.map fun c => ([(c, c)], [c, 111, c])
theorem look_rv (r : Int) : ∀ l : List Int, look (l.map fun c => (([(c, c)], [c, 111, c]) : List S.Sp × List Int)) r = if r ∈ l then some [r, 111, r] else none := by
  intro l
  induction l with
  | nil => rfl
  | cons c l ih =>
    rw [List.map_cons, look, memb1, ih]
    by_cases h : r = c
    · subst h; simp
    · simp [h]
/- vowels -/
def vwS : List S.Sp := [(65, 65), (69, 69), (73, 73), (79, 79), (85, 85), (97, 97), (101, 101), (105, 105), (111, 111), (117, 117)]
def vwC : List Int := [65, 69, 73, 79, 85, 97, 101, 105, 111, 117]
def vwL : List (List S.Sp × List Int) := [(vwS, [])]
theorem memb_vw (r : Int) : S.memb vwS r = decide (r ∈ vwC) := by
  unfold vwS vwC; simp [S.memb]; rw [Bool.eq_iff_iff]; simp; omega
theorem by_vw (r : Int) : by1 vwL r = if r ∈ vwC then [] else [r] := by
  unfold by1 vwL
  rw [look, look, memb_vw]
  by_cases h : r ∈ vwC
  · simp [h]
  · simp [h]
theorem by_rv (r : Int) : by1 rvL r = if r ∈ rvC then [r, 111, r] else [r] := by
  unfold by1 rvL
  rw [look_rv]
  by_cases h : r ∈ rvC
  · simp [h]
  · simp [h]
theorem by_right {l : List (List S.Sp × List Int)} (hl : ∀ x ∈ l, ∀ z ∈ x.2, M.right z = true) {r : Int} (hr : M.right r = true) : ∀ z ∈ by1 l r, M.right z = true := by
  have h : ∀ (k : List (List S.Sp × List Int)), (∀ x ∈ k, ∀ z ∈ x.2, M.right z = true) → ∀ y, look k r = some y → ∀ z ∈ y, M.right z = true := by
    intro k
    induction k with
    | nil => intro _ y hy; cases hy
    | cons x k ih =>
      intro hk y hy
      rw [look] at hy
      split at hy
      · cases hy; exact hk x List.mem_cons_self
      · exact ih (fun x hx => hk x (List.mem_cons_of_mem _ hx)) y hy
  intro z hz
  unfold by1 at hz
  cases hk : look l r with
  | none => rw [hk] at hz; simp at hz; subst hz; exact hr
  | some y => rw [hk] at hz; exact h l hl y hk z hz
theorem flat_right {l : List (List S.Sp × List Int)} (hl : ∀ x ∈ l, ∀ z ∈ x.2, M.right z = true) {t : List Int} (ht : ∀ z ∈ t, M.right z = true) : ∀ z ∈ t.flatMap (by1 l), M.right z = true := by
  intro z hz
  obtain ⟨r, h1, h2⟩ := List.mem_flatMap.1 hz
  exact by_right hl (ht r h1) z h2
theorem vw_twice (t : List Int) : (t.flatMap (by1 vwL)).flatMap (by1 vwL) = t.flatMap (by1 vwL) := by
  induction t with
  | nil => rfl
  | cons r t ih =>
    rw [List.flatMap_cons, List.flatMap_append, ih]
    congr 1
    rw [by_vw]
    by_cases h : r ∈ vwC
    · simp [h]
    · simp [h, by_vw]
theorem by_len {l : List (List S.Sp × List Int)} (hl : ∀ x ∈ l, x.2.length ≤ 4) (r : Int) : (by1 l r).length ≤ 4 := by
  have h : ∀ (k : List (List S.Sp × List Int)), (∀ x ∈ k, x.2.length ≤ 4) → ∀ y, look k r = some y → y.length ≤ 4 := by
    intro k
    induction k with
    | nil => intro _ y hy; cases hy
    | cons x k ih =>
      intro hk y hy
      rw [look] at hy
      split at hy
      · cases hy; exact hk x List.mem_cons_self
      · exact ih (fun x hx => hk x (List.mem_cons_of_mem _ hx)) y hy
  unfold by1
  cases hk : look l r with
  | none => simp
  | some y => exact h l hl y hk
theorem vw_len : ∀ t : List Int, (t.flatMap (by1 vwL)).length ≤ t.length
  | [] => by simp
  | r :: t => by
    have h := vw_len t
    rw [List.flatMap_cons, List.length_append, List.length_cons, by_vw]
    generalize (t.flatMap (by1 vwL)).length = n at *
    split
    · rw [List.length_nil]; omega
    · rw [List.length_singleton]; omega
theorem go_g {pl : Cn.Pl} (hpl : Cn.PlOk pl) {t : List Int} (ht : t.length ≤ 1000) (hR : ∀ z ∈ t, M.right z = true) : Cn.goF pl (oneS (gmL.map r1)) t = (t.flatMap (by1 gmL), 0, 0) := go_by hpl (by decide +kernel) (by decide +kernel) (by decide) ht hR
theorem go_r {pl : Cn.Pl} (hpl : Cn.PlOk pl) {t : List Int} (ht : t.length ≤ 1000) (hR : ∀ z ∈ t, M.right z = true) : Cn.goF pl (oneS (rvL.map r1)) t = (t.flatMap (by1 rvL), 0, 0) := go_by hpl (by decide +kernel) (by decide +kernel) (by decide) ht hR
theorem go_v {pl : Cn.Pl} (hpl : Cn.PlOk pl) {t : List Int} (ht : t.length ≤ 1000) (hR : ∀ z ∈ t, M.right z = true) : Cn.goF pl (oneS (vwL.map r1)) t = (t.flatMap (by1 vwL), 0, 0) := go_by hpl (by decide +kernel) (by decide +kernel) (by decide) ht hR
end Go.Proofs.YtgbhkkojkpndmaaGreatDoor.Sh
