/-
  Rules that are handed in: their room.
-/
import Derived.Test.YtlmmjefplbcapaaGreatQFrame
import Derived.Test.YtlmmjefplbcapaaGreatRuFrame
namespace Go.Proofs.YtlmmjefplbcapaaGreat
open Go.ChangeShapes Go.WideShapes Go.ChangeAt Go.RowKit
set_option linter.unusedVariables false
set_option linter.unusedSimpArgs false

set_option maxRecDepth 100000 in
theorem rules_cap {H : Type} {enc : TypeId × Value → H} {W : World} {base : Nat} {v : Value} {d : DataW H} {p : List MemPlace}
    (hv : Value.okWide Tryz.prog W .any base 22 v) (h : DataW.Trod enc Tryz.prog W 0 (fun _ => true) true 22 v d p) : ∀ ao n c, v = .slice ao n c → n ≤ c := by
  obtain ⟨a0, len0, cap0, rfl⟩ := okWide_slice Tryz.underlying22 hv
  obtain ⟨fuel, hf⟩ := h
  intro ao n c he
  cases he
  rcases Go.Deep.open_slice Tryz.underlying22 hf with ⟨hcs, hx⟩ | ⟨a, len, cap, m, k, D, Pl, hcs, _, hl, _⟩
  · simp [Value.cells] at hcs
    obtain ⟨rfl, rfl, rfl⟩ := hcs
    exact Nat.le_refl _
  · simp [Value.cells] at hcs
    obtain ⟨rfl, rfl, rfl⟩ := hcs
    exact hl

end Go.Proofs.YtlmmjefplbcapaaGreat

/-
  What rules make of a text, in plain lists.
-/
namespace Go.Proofs.YtlmmjefplbcapaaGreat.K

def firstR : Nat → List Rule → Int × Int
  | _, [] => (0, 0)
  | k, r :: l => if ruleE r = 0 then firstR (k + 1) l else (ruleE r, (k : Int))
/-- what is wrong with rules, and at which one -/
def rulesF (l : List Rule) : Int × Int := if 200 < l.length then (5, 0) else firstR 0 l
def checkF (l : List Rule) (t : List Int) : Int × Int := if (rulesF l).1 = 0 then (textE t, 0) else rulesF l

theorem firstR_drop {l : List Rule} {k : Nat} {r : Rule} (h : l[k]? = some r) : firstR k (l.drop k) = if ruleE r = 0 then firstR (k + 1) (l.drop (k + 1)) else (ruleE r, (k : Int)) := by
  have hlt := (List.getElem?_eq_some_iff.1 h).1
  rw [List.drop_eq_getElem_cons hlt]
  have : l[k] = r := by rw [List.getElem?_eq_getElem hlt] at h; exact Option.some.inj h
  rw [this]; rfl
theorem firstR_zero {l : List Rule} : ∀ {k : Nat}, (firstR k l).1 = 0 → ∀ r ∈ l, ruleE r = 0 := by
  induction l with
  | nil => intro k _ r hr; cases hr
  | cons x l ih =>
    intro k h r hr
    rw [firstR] at h
    by_cases hx : ruleE x = 0
    · rw [if_pos hx] at h
      rcases List.mem_cons.1 hr with rfl | hr
      · exact hx
      · exact ih h r hr
    · rw [if_neg hx] at h; exact absurd h hx
theorem firstR_at {l : List Rule} : ∀ {k : Nat}, (firstR k l).1 = 0 → firstR k l = (0, 0) := by
  induction l with
  | nil => intro k _; rfl
  | cons x l ih =>
    intro k h
    rw [firstR] at h ⊢
    by_cases hx : ruleE x = 0
    · rw [if_pos hx] at h ⊢; exact ih h
    · rw [if_neg hx] at h; exact absurd h hx
theorem rulesF_zero {l : List Rule} (h : (rulesF l).1 = 0) : l.length ≤ 200 ∧ (∀ r ∈ l, ruleE r = 0) ∧ rulesF l = (0, 0) := by
  unfold rulesF at h ⊢
  by_cases h1 : 200 < l.length
  · rw [if_pos h1] at h; exact absurd h (by decide)
  · rw [if_neg h1] at h ⊢; exact ⟨by omega, firstR_zero h, firstR_at h⟩
theorem checkF_zero {l : List Rule} {t : List Int} (h : (checkF l t).1 = 0) : (rulesF l).1 = 0 ∧ textE t = 0 ∧ checkF l t = (0, 0) := by
  unfold checkF at h ⊢
  by_cases h1 : (rulesF l).1 = 0
  · rw [if_pos h1] at h ⊢; exact ⟨h1, h, by rw [show textE t = 0 from h]⟩
  · rw [if_neg h1] at h; exact absurd h h1

/-- the first rule that matches -/
def whichN (t : List Int) (k : Int) : Nat → List Rule → Int
  | _, [] => -1
  | i, r :: l => if matchB r t k = true then (i : Int) else whichN t k (i + 1) l
def which (l : List Rule) (t : List Int) (k : Int) : Int := whichN t k 0 l
theorem whichN_drop {t : List Int} {k : Int} {l : List Rule} {i : Nat} {r : Rule} (h : l[i]? = some r) : whichN t k i (l.drop i) = if matchB r t k = true then (i : Int) else whichN t k (i + 1) (l.drop (i + 1)) := by
  have hlt := (List.getElem?_eq_some_iff.1 h).1
  rw [List.drop_eq_getElem_cons hlt]
  have : l[i] = r := by rw [List.getElem?_eq_getElem hlt] at h; exact Option.some.inj h
  rw [this]; rfl
theorem whichN_is {t : List Int} {k : Int} {l : List Rule} : ∀ {i : Nat}, whichN t k i l = -1 ∨ ∃ (j : Nat) (r : Rule), l[j]? = some r ∧ matchB r t k = true ∧ whichN t k i l = ((i + j : Nat) : Int) := by
  induction l with
  | nil => intro i; exact .inl rfl
  | cons x l ih =>
    intro i
    rw [whichN]
    by_cases hx : matchB x t k = true
    · rw [if_pos hx]; exact .inr ⟨0, x, rfl, hx, by simp⟩
    · rw [if_neg hx]
      rcases ih (i := i + 1) with h | ⟨j, r, h1, h2, h3⟩
      · exact .inl h
      · exact .inr ⟨j + 1, r, by simpa using h1, h2, by rw [h3]; omega⟩
theorem which_is {l : List Rule} {t : List Int} {k : Int} : which l t k = -1 ∨ ∃ (j : Nat) (r : Rule), l[j]? = some r ∧ matchB r t k = true ∧ which l t k = (j : Int) := by
  rcases whichN_is (t := t) (k := k) (l := l) (i := 0) with h | ⟨j, r, h1, h2, h3⟩
  · exact .inl h
  · exact .inr ⟨j, r, h1, h2, by unfold which; rw [h3]; omega⟩

def noRule : Rule := ⟨false, false, [], [], [], [], 0⟩
def restOf (r : Rule) (rest : List Int) : List Int := r.target ++ rest.drop r.source.length
/-- the run: what is wrong, the text, the steps, how often something was put -/
def play (l : List Rule) : Nat → List Int → List Int → Int → Int → Int × List Int × Int × Int
  | 0, done, rest, s, p => if rest.length = 0 then (0, done, s, p) else (9, [], 0, 0)
  | left + 1, done, rest, s, p =>
    if rest.length = 0 then (0, done, s, p)
    else if which l (done ++ rest) done.length < 0 then play l left (done ++ rest.take 1) (rest.drop 1) (s + 1) p
    else
      let r := (l[(which l (done ++ rest) done.length).toNat]?).getD noRule
      if 4000 < done.length + (restOf r rest).length then (4, [], 0, 0)
      else play l left (done ++ (restOf r rest).take r.cursor.toNat) ((restOf r rest).drop r.cursor.toNat) (s + 1) (p + 1)
theorem play_end {l : List Rule} {left : Nat} {done rest : List Int} {s p : Int} (h : rest.length = 0) : play l left done rest s p = (0, done, s, p) := by
  cases left <;> rw [play, if_pos h]
theorem play_out {l : List Rule} {done rest : List Int} {s p : Int} (h : ¬ rest.length = 0) : play l 0 done rest s p = (9, [], 0, 0) := by
  rw [play, if_neg h]
theorem play_on {l : List Rule} {left : Nat} {done rest : List Int} {s p : Int} (h : ¬ rest.length = 0) (hk : which l (done ++ rest) done.length = -1) : play l (left + 1) done rest s p = play l left (done ++ rest.take 1) (rest.drop 1) (s + 1) p := by
  rw [play, if_neg h, if_pos (by rw [hk]; decide)]
theorem play_much {l : List Rule} {left : Nat} {done rest : List Int} {s p : Int} {j : Nat} {r : Rule} (h : ¬ rest.length = 0) (hk : which l (done ++ rest) done.length = (j : Int)) (hr : l[j]? = some r) (hm : 4000 < done.length + (restOf r rest).length) : play l (left + 1) done rest s p = (4, [], 0, 0) := by
  rw [play, if_neg h, if_neg (by rw [hk]; omega), hk, Int.toNat_natCast, hr]
  simp only [Option.getD_some]
  rw [if_pos hm]
theorem play_put {l : List Rule} {left : Nat} {done rest : List Int} {s p : Int} {j : Nat} {r : Rule} (h : ¬ rest.length = 0) (hk : which l (done ++ rest) done.length = (j : Int)) (hr : l[j]? = some r) (hm : ¬ 4000 < done.length + (restOf r rest).length) : play l (left + 1) done rest s p = play l left (done ++ (restOf r rest).take r.cursor.toNat) ((restOf r rest).drop r.cursor.toNat) (s + 1) (p + 1) := by
  rw [play, if_neg h, if_neg (by rw [hk]; omega), hk, Int.toNat_natCast, hr]
  simp only [Option.getD_some]
  rw [if_neg hm]
/-- a rule that matches where the rest begins: its source is there -/
theorem fits {r : Rule} {done rest : List Int} (hE : ruleE r = 0) (hm : matchB r (done ++ rest) done.length = true) : r.source.length ≤ rest.length := by
  have h := match_in (ruleE_zero hE).2.2.2.1 hm
  rw [List.length_append] at h
  omega
theorem restOf_length {r : Rule} {rest : List Int} : (restOf r rest).length = r.target.length + (rest.length - r.source.length) := by
  unfold restOf; simp
theorem putL_rest {r : Rule} {done rest : List Int} : putL r (done ++ rest) done.length = done ++ restOf r rest := by
  unfold putL restOf
  rw [Int.toNat_natCast, List.take_left, List.drop_append, List.append_assoc]
  simp
/-- all that Run answers -/
def runF (l : List Rule) (t : List Int) : (List Int × Int × Int) × Int × Int :=
  if (checkF l t).1 = 0 then ((play l (8 * t.length + 40) [] t 0 0).2, (play l (8 * t.length + 40) [] t 0 0).1, 0) else (([], 0, 0), checkF l t)

end Go.Proofs.YtlmmjefplbcapaaGreat.K

/-
  The set with which a rule begins.
-/
namespace Go.Proofs.YtlmmjefplbcapaaGreat.K
open Go.Proofs.YtlmmjefplbcapaaGreat.S
def headS (r : Rule) : List Sp := r.source.headD []
def firstsL (l : List Rule) : List Sp := l.flatMap headS
end Go.Proofs.YtlmmjefplbcapaaGreat.K
