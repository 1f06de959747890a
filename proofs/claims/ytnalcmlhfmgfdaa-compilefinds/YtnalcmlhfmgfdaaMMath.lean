/-
  One rule at one place: what is wrong with it, whether it matches, and what comes in its place: plain functions.
-/
import Derived.Test.YtnalcmlhfmgfdaaSMath
import Derived.Test.YtnalcmlhfmgfdaaMath
namespace Go.Proofs.Ytnalcmlhfmgfdaa.K
open S (Sp)

structure Rule where
  start : Bool
  fin : Bool
  before : List (List Sp)
  source : List (List Sp)
  after : List (List Sp)
  target : List Int
  cursor : Int

/-- the first set with which something is wrong -/
def firstE : List (List Sp) → Int
  | [] => 0
  | s :: l => if S.wrongE s = 0 then firstE l else S.wrongE s
def setsE (l : List (List Sp)) : Int := if 20 < l.length then 5 else firstE l
def allR (l : List Int) : Bool := l.all M.right
def tailE (r : Rule) : Int :=
  if r.source.length = 0 then 6 else if 20 < r.target.length then 5
  else if allR r.target = false then 3 else if r.cursor < 0 then 3 else if (r.target.length : Int) < r.cursor then 3 else 0
def ruleE (r : Rule) : Int :=
  if setsE r.before ≠ 0 then setsE r.before else if setsE r.source ≠ 0 then setsE r.source else if setsE r.after ≠ 0 then setsE r.after else tailE r
def textE (l : List Int) : Int := if 4000 < l.length then 4 else if allR l = true then 0 else 3

theorem firstE_drop {l : List (List Sp)} {k : Nat} {s : List Sp} (h : l[k]? = some s) : firstE (l.drop k) = if S.wrongE s = 0 then firstE (l.drop (k + 1)) else S.wrongE s := by
  have hlt := (List.getElem?_eq_some_iff.1 h).1
  rw [List.drop_eq_getElem_cons hlt]
  have : l[k] = s := by rw [List.getElem?_eq_getElem hlt] at h; exact Option.some.inj h
  rw [this]; rfl
theorem firstE_zero {l : List (List Sp)} : firstE l = 0 ↔ ∀ s ∈ l, S.wrongE s = 0 := by
  induction l with
  | nil => simp [firstE]
  | cons s l ih =>
    rw [firstE]
    by_cases h : S.wrongE s = 0
    · simp [h, ih]
    · simp [h]
/-- sets with which nothing is wrong -/
def Good (l : List (List Sp)) : Prop := l.length ≤ 20 ∧ ∀ s ∈ l, S.Nf 0 s ∧ s.length ≤ 200
theorem setsE_zero {l : List (List Sp)} : setsE l = 0 ↔ Good l := by
  unfold setsE Good
  by_cases h : 20 < l.length
  · rw [if_pos h]
    exact ⟨fun h => absurd h (by decide), fun h => by omega⟩
  · rw [if_neg h, firstE_zero]
    exact ⟨fun h' => ⟨by omega, fun s hs => ⟨(S.wrongE_zero.1 (h' s hs)).2, (S.wrongE_zero.1 (h' s hs)).1⟩⟩, fun h' s hs => S.wrongE_zero.2 ⟨(h'.2 s hs).2, (h'.2 s hs).1⟩⟩
theorem ruleE_zero {r : Rule} (h : ruleE r = 0) : Good r.before ∧ Good r.source ∧ Good r.after ∧ 0 < r.source.length ∧ r.target.length ≤ 20 ∧ allR r.target = true ∧ 0 ≤ r.cursor ∧ r.cursor ≤ r.target.length := by
  unfold ruleE at h
  by_cases h1 : setsE r.before = 0
  · rw [if_neg (by simp [h1])] at h
    by_cases h2 : setsE r.source = 0
    · rw [if_neg (by simp [h2])] at h
      by_cases h3 : setsE r.after = 0
      · rw [if_neg (by simp [h3])] at h
        refine ⟨setsE_zero.1 h1, setsE_zero.1 h2, setsE_zero.1 h3, ?_⟩
        unfold tailE at h
        by_cases h4 : r.source.length = 0
        · rw [if_pos h4] at h; exact absurd h (by decide)
        · rw [if_neg h4] at h
          by_cases h5 : 20 < r.target.length
          · rw [if_pos h5] at h; exact absurd h (by decide)
          · rw [if_neg h5] at h
            by_cases h6 : allR r.target = false
            · rw [if_pos h6] at h; exact absurd h (by decide)
            · rw [if_neg h6] at h
              by_cases h7 : r.cursor < 0
              · rw [if_pos h7] at h; exact absurd h (by decide)
              · rw [if_neg h7] at h
                by_cases h8 : (r.target.length : Int) < r.cursor
                · rw [if_pos h8] at h; exact absurd h (by decide)
                · exact ⟨by omega, by omega, by simpa using h6, by omega, by omega⟩
      · rw [if_pos h3] at h; exact absurd h h3
    · rw [if_pos h2] at h; exact absurd h h2
  · rw [if_pos h1] at h; exact absurd h h1
theorem textE_zero {l : List Int} (h : textE l = 0) : l.length ≤ 4000 := by
  unfold textE at h
  by_cases h1 : 4000 < l.length
  · rw [if_pos h1] at h; exact absurd h (by decide)
  · omega

/-- the sets have the runes from k on, one by one, and these are there -/
def runAt (t : List Int) : Int → List (List Sp) → Bool
  | _, [] => true
  | k, s :: l => (decide (0 ≤ k) && decide (k < t.length) && S.memb s (t.getD k.toNat 0)) && runAt t (k + 1) l
def matchB (r : Rule) (t : List Int) (at_ : Int) : Bool :=
  runAt t (at_ - r.before.length) (r.before ++ r.source ++ r.after) && !(r.start && decide (0 < at_ - r.before.length)) && !(r.fin && decide (at_ + r.source.length + r.after.length < t.length))
def putL (r : Rule) (t : List Int) (at_ : Int) : List Int := t.take at_.toNat ++ r.target ++ t.drop (at_.toNat + r.source.length)

theorem runAt_append (t : List Int) (a b : List (List Sp)) : ∀ k, runAt t k (a ++ b) = (runAt t k a && runAt t (k + a.length) b) := by
  induction a with
  | nil => intro k; simp [runAt]
  | cons s a ih =>
    intro k
    rw [List.cons_append, runAt, runAt, ih, List.length_cons]
    rw [show k + 1 + (a.length : Int) = k + ((a.length + 1 : Nat) : Int) by omega]
    simp only [Bool.and_assoc]
theorem runAt_room {t : List Int} {l : List (List Sp)} : ∀ {k}, runAt t k l = true → l ≠ [] → 0 ≤ k ∧ k + l.length ≤ t.length := by
  induction l with
  | nil => intro k _ h; exact absurd rfl h
  | cons s l ih =>
    intro k h _
    rw [runAt] at h
    simp only [Bool.and_eq_true, decide_eq_true_eq] at h
    by_cases hl : l = []
    · subst hl; simp only [List.length_cons, List.length_nil]; omega
    · have := ih h.2 hl
      simp only [List.length_cons]
      omega
theorem runAt_drop {t : List Int} {l : List (List Sp)} {i : Nat} {s : List Sp} {k : Int} (h : l[i]? = some s) : runAt t (k + i) (l.drop i) = ((decide (0 ≤ k + i) && decide (k + i < t.length) && S.memb s (t.getD (k + i).toNat 0)) && runAt t (k + (i + 1 : Nat)) (l.drop (i + 1))) := by
  have hlt := (List.getElem?_eq_some_iff.1 h).1
  rw [List.drop_eq_getElem_cons hlt]
  have : l[i] = s := by rw [List.getElem?_eq_getElem hlt] at h; exact Option.some.inj h
  rw [this, runAt]
  rw [show k + (i : Int) + 1 = k + ((i + 1 : Nat) : Int) by omega]

/-- as the program reckons it: first the room, then the sets -/
theorem match_no {r : Rule} {t : List Int} {at_ : Int} (hs : 0 < r.source.length)
    (h : at_ - r.before.length < 0 ∨ (t.length : Int) - at_ - r.source.length - r.after.length < 0 ∨ (r.start = true ∧ 0 < at_ - r.before.length) ∨ (r.fin = true ∧ 0 < (t.length : Int) - at_ - r.source.length - r.after.length)) : matchB r t at_ = false := by
  unfold matchB
  cases hr : runAt t (at_ - r.before.length) (r.before ++ r.source ++ r.after) with
  | false => simp
  | true =>
    have hne : r.before ++ r.source ++ r.after ≠ [] := by
      intro he
      have := congrArg List.length he
      simp only [List.length_append, List.length_nil] at this
      omega
    have hm := runAt_room hr hne
    simp only [List.length_append] at hm
    rcases h with h | h | ⟨h1, h2⟩ | ⟨h1, h2⟩
    · omega
    · omega
    · simp [h1]; omega
    · simp [h1]; intro _; omega
theorem match_room {r : Rule} {t : List Int} {at_ : Int}
    (h3 : ¬ (r.start = true ∧ 0 < at_ - r.before.length)) (h4 : ¬ (r.fin = true ∧ 0 < (t.length : Int) - at_ - r.source.length - r.after.length)) :
    matchB r t at_ = (runAt t (at_ - r.before.length) r.before && runAt t at_ r.source && runAt t (at_ + r.source.length) r.after) := by
  unfold matchB
  rw [runAt_append, runAt_append]
  have e1 : at_ - (r.before.length : Int) + r.before.length = at_ := by omega
  have e2 : at_ - (r.before.length : Int) + ((r.before ++ r.source).length : Nat) = at_ + r.source.length := by rw [List.length_append]; omega
  rw [e1, e2]
  have e3 : (!(r.start && decide (0 < at_ - (r.before.length : Int)))) = true := by
    cases hs : r.start with
    | false => rfl
    | true => have : ¬ (0 < at_ - (r.before.length : Int)) := fun h => h3 ⟨hs, h⟩; simp; omega
  have e4 : (!(r.fin && decide (at_ + r.source.length + r.after.length < (t.length : Int)))) = true := by
    cases hs : r.fin with
    | false => rfl
    | true => have : ¬ (0 < (t.length : Int) - at_ - r.source.length - r.after.length) := fun h => h4 ⟨hs, h⟩; simp; omega
  rw [e3, e4]
  simp
/-- where it matches there is room -/
theorem match_in {r : Rule} {t : List Int} {at_ : Int} (hs : 0 < r.source.length) (h : matchB r t at_ = true) : 0 ≤ at_ - r.before.length ∧ at_ + r.source.length + r.after.length ≤ t.length := by
  unfold matchB at h
  simp only [Bool.and_eq_true] at h
  have hne : r.before ++ r.source ++ r.after ≠ [] := by
    intro he
    have := congrArg List.length he
    simp only [List.length_append, List.length_nil] at this
    omega
  have hm := runAt_room h.1.1 hne
  simp only [List.length_append] at hm
  omega
theorem put_length {r : Rule} {t : List Int} {at_ : Int} (h0 : 0 ≤ at_) (h1 : at_ + r.source.length ≤ t.length) : ((putL r t at_).length : Int) = t.length - r.source.length + r.target.length := by
  unfold putL
  simp only [List.length_append, List.length_take, List.length_drop]
  omega

end Go.Proofs.Ytnalcmlhfmgfdaa.K
