/-
  Numbers in the order of what they stand for, those that are alike as they stood: what that is of lists, and what keeps it.
-/
import Derived.Test.YtbclmmkphjknaaaRows
import Derived.Sort.Lot0
import Derived.Test.YtbclmmkphjknaaaCnLess
namespace Go.Proofs.Ytbclmmkphjknaaa.Od
open Go.Sort
set_option linter.unusedSimpArgs false
set_option linter.unusedVariables false

/-- a number's rank; which numbers may be asked; the comparing function's box -/
class Ck where
  cls : Int → Int
  ok : Int → Prop
  kb : Nat
export Ck (cls ok)
variable [Ck]
/-- two classes held against each other -/
def cmp (x y : Int) : Int := if cls x < cls y then -1 else if cls y < cls x then 1 else 0
theorem cmp_lt {x y : Int} : cmp x y < 0 ↔ cls x < cls y := by
  unfold cmp
  by_cases h : cls x < cls y
  · simp [h]
  · rw [if_neg h]; split <;> simp [h]
def Srt (l : List Int) : Prop := l.Pairwise fun a b => cls a ≤ cls b
def Eqv (a b : List Int) : Prop := ∀ c, a.filter (fun x => cls x == c) = b.filter (fun x => cls x == c)
theorem Eqv.refl (a : List Int) : Eqv a a := fun _ => rfl
theorem Eqv.symm {a b : List Int} (h : Eqv a b) : Eqv b a := fun c => (h c).symm
theorem Eqv.trans {a b c : List Int} (h : Eqv a b) (h' : Eqv b c) : Eqv a c := fun z => (h z).trans (h' z)
theorem Eqv.app {a b c d : List Int} (h : Eqv a b) (h' : Eqv c d) : Eqv (a ++ c) (b ++ d) := fun z => by rw [List.filter_append, List.filter_append, h z, h' z]
theorem Eqv.rot {U V : List Int} (h : ∀ x ∈ U, ∀ y ∈ V, cls y < cls x) : Eqv (U ++ V) (V ++ U) := fun c => by
  rw [List.filter_append, List.filter_append]
  by_cases hu : ∃ x ∈ U, cls x = c
  · obtain ⟨x, hx, rfl⟩ := hu
    have : V.filter (fun y => cls y == cls x) = [] := List.filter_eq_nil_iff.2 fun y hy => by have := h x hx y hy; simp; omega
    rw [this]; simp
  · have : U.filter (fun y => cls y == c) = [] := List.filter_eq_nil_iff.2 fun y hy => by simp; intro e; exact hu ⟨y, hy, e⟩
    rw [this]; simp
theorem Eqv.mem {a b : List Int} (h : Eqv a b) {x : Int} (hx : x ∈ a) : x ∈ b := by
  have h1 : x ∈ a.filter (fun y => cls y == cls x) := List.mem_filter.2 ⟨hx, by simp⟩
  rw [h] at h1
  exact (List.mem_filter.1 h1).1
theorem uniq : ∀ {a b : List Int}, Srt a → Srt b → Eqv a b → a = b
  | [], b, _, _, h => by
    cases b with
    | nil => rfl
    | cons y b => exact absurd (h.symm.mem (List.mem_cons_self ..)) (by simp)
  | x :: a, [], _, _, h => absurd (h.mem (List.mem_cons_self ..)) (by simp)
  | x :: a, y :: b, ha, hb, h => by
    have ha' := List.pairwise_cons.1 ha
    have hb' := List.pairwise_cons.1 hb
    have h1 : cls y ≤ cls x := by
      rcases List.mem_cons.1 (h.mem (List.mem_cons_self ..)) with e | e
      · rw [e]; exact Int.le_refl _
      · exact hb'.1 x e
    have h2 : cls x ≤ cls y := by
      rcases List.mem_cons.1 (h.symm.mem (List.mem_cons_self ..)) with e | e
      · rw [e]; exact Int.le_refl _
      · exact ha'.1 y e
    have e : cls x = cls y := by omega
    have h3 := h (cls x)
    rw [List.filter_cons_of_pos (by simp), List.filter_cons_of_pos (by simp [e])] at h3
    obtain ⟨rfl, _⟩ := List.cons.inj h3
    congr 1
    refine uniq ha'.2 hb'.2 fun c => ?_
    have h4 := h c
    by_cases hc : cls x = c
    · rw [List.filter_cons_of_pos (by simp [hc]), List.filter_cons_of_pos (by simp [hc])] at h4
      exact (List.cons.inj h4).2
    · rw [List.filter_cons_of_neg (by simp [hc]), List.filter_cons_of_neg (by simp [hc])] at h4
      exact h4
theorem Srt.app {a b : List Int} (ha : Srt a) (hb : Srt b) (h : ∀ x ∈ a, ∀ y ∈ b, cls x ≤ cls y) : Srt (a ++ b) := List.pairwise_append.2 ⟨ha, hb, h⟩
theorem Srt.parts {a b : List Int} (h : Srt (a ++ b)) : Srt a ∧ Srt b ∧ ∀ x ∈ a, ∀ y ∈ b, cls x ≤ cls y := List.pairwise_append.1 h
theorem Srt.one (x : Int) : Srt [x] := List.pairwise_singleton _ _
theorem Srt.nil : Srt [] := List.Pairwise.nil
/-- all of what stands ahead of a place is at most what stands there -/
theorem Srt.ahead {a b : List Int} {y : Int} (h : Srt (a ++ y :: b)) {x : Int} (hx : x ∈ a) : cls x ≤ cls y := h.parts.2.2 x hx y (List.mem_cons_self ..)
theorem Srt.behind {a b : List Int} {y : Int} (h : Srt (a ++ y :: b)) {x : Int} (hx : x ∈ b) : cls y ≤ cls x := (List.pairwise_cons.1 h.parts.2.1).1 x hx

end Go.Proofs.Ytbclmmkphjknaaa.Od

/-
  Texts in order: their rows, and what is less. Plain lists.
-/
namespace Go.Proofs.Ytbclmmkphjknaaa.Od
set_option linter.unusedSimpArgs false
set_option linter.unusedVariables false

/-- letters, marks, great -/
abbrev K3 := List Int × List Int × List Int
def g01 (r : Int) : Int := if Cn.low r = r then 0 else 1
def kstep (k : K3) (r : Int) : K3 := if 0 < Nm.cls r then (k.1, k.2.1 ++ [r], k.2.2) else (k.1 ++ [Cn.low r], k.2.1 ++ [0], k.2.2 ++ [g01 r])
def keyL (t : List Int) : K3 := t.foldl kstep ([], [], [])
def keyF (l : List Int) : K3 × Int := if (Nm.apartF l).2 ≠ 0 then (([], [], []), (Nm.apartF l).2) else (keyL (Nm.apartF l).1, 0)
theorem kstep_len (k : K3) (r : Int) : (kstep k r).1.length ≤ k.1.length + 1 ∧ (kstep k r).2.1.length ≤ k.2.1.length + 1 ∧ (kstep k r).2.2.length ≤ k.2.2.length + 1 := by
  unfold kstep
  split <;> simp
theorem kfold_len : ∀ (t : List Int) (k : K3), (t.foldl kstep k).1.length ≤ k.1.length + t.length ∧ (t.foldl kstep k).2.1.length ≤ k.2.1.length + t.length ∧ (t.foldl kstep k).2.2.length ≤ k.2.2.length + t.length
  | [], k => by simp
  | r :: t, k => by
    have h1 := kfold_len t (kstep k r)
    have h2 := kstep_len k r
    simp only [List.foldl_cons, List.length_cons]
    omega
theorem key_len (l : List Int) (h : (Nm.apartF l).1.length ≤ 4000) : (keyF l).1.1.length ≤ 4000 ∧ (keyF l).1.2.1.length ≤ 4000 ∧ (keyF l).1.2.2.length ≤ 4000 := by
  unfold keyF
  split
  · simp
  · have := kfold_len (Nm.apartF l).1 ([], [], [])
    unfold keyL
    simp only [List.length_nil] at this ⊢
    omega
/-- row against row -/
def cmpL : List Int → List Int → Int
  | [], [] => 0
  | [], _ :: _ => -1
  | _ :: _, [] => 1
  | x :: a, y :: b => if x < y then -1 else if y < x then 1 else cmpL a b
theorem cmpL_rng : ∀ a b : List Int, cmpL a b = -1 ∨ cmpL a b = 0 ∨ cmpL a b = 1
  | [], [] => by simp [cmpL]
  | [], _ :: _ => by simp [cmpL]
  | _ :: _, [] => by simp [cmpL]
  | x :: a, y :: b => by
    rw [cmpL]
    split
    · simp
    · split
      · simp
      · exact cmpL_rng a b
theorem cmpL_neg : ∀ a b : List Int, cmpL b a = -cmpL a b
  | [], [] => by simp [cmpL]
  | [], _ :: _ => by simp [cmpL]
  | _ :: _, [] => by simp [cmpL]
  | x :: a, y :: b => by
    rw [cmpL, cmpL]
    have := cmpL_neg a b
    repeat' split
    all_goals omega
theorem cmpL_eq : ∀ {a b : List Int}, cmpL a b = 0 → a = b
  | [], [], _ => rfl
  | [], _ :: _, h => by simp [cmpL] at h
  | _ :: _, [], h => by simp [cmpL] at h
  | x :: a, y :: b, h => by
    rw [cmpL] at h
    split at h
    · cases h
    · split at h
      · cases h
      · rw [cmpL_eq h, show x = y by omega]
theorem cmpL_self (a : List Int) : cmpL a a = 0 := by
  induction a with
  | nil => rfl
  | cons x a ih => rw [cmpL, if_neg (Int.lt_irrefl _), if_neg (Int.lt_irrefl _), ih]
theorem cmpL_trans : ∀ {a b c : List Int}, cmpL a b < 0 → cmpL b c < 0 → cmpL a c < 0
  | [], [], c, h, _ => by simp [cmpL] at h
  | [], _ :: _, [], _, h => by simp [cmpL] at h
  | [], _ :: _, _ :: _, _, _ => by simp [cmpL]
  | _ :: _, [], c, h, _ => by simp [cmpL] at h
  | _ :: _, _ :: _, [], _, h => by simp [cmpL] at h
  | x :: a, y :: b, z :: c, h1, h2 => by
    rw [cmpL] at h1 h2 ⊢
    by_cases e1 : x < y
    · by_cases e2 : y < z
      · rw [if_pos (by omega)]; decide
      · rw [if_neg e2] at h2
        by_cases e3 : z < y
        · rw [if_pos e3] at h2; omega
        · rw [if_pos (by omega)]; decide
    · rw [if_neg e1] at h1
      by_cases e3 : y < x
      · rw [if_pos e3] at h1; omega
      · rw [if_neg e3] at h1
        have e : x = y := by omega
        subst e
        by_cases e2 : x < z
        · rw [if_pos e2]; decide
        · rw [if_neg e2] at h2 ⊢
          by_cases e4 : z < x
          · rw [if_pos e4] at h2; omega
          · rw [if_neg e4] at h2 ⊢
            exact cmpL_trans h1 h2
/-- key against key -/
def cmpK (a b : K3) : Int := if cmpL a.1 b.1 ≠ 0 then cmpL a.1 b.1 else if cmpL a.2.1 b.2.1 ≠ 0 then cmpL a.2.1 b.2.1 else cmpL a.2.2 b.2.2
theorem cmpK_rng (a b : K3) : cmpK a b = -1 ∨ cmpK a b = 0 ∨ cmpK a b = 1 := by
  unfold cmpK
  split
  · exact cmpL_rng _ _
  · split <;> exact cmpL_rng _ _
theorem cmpK_neg (a b : K3) : cmpK b a = -cmpK a b := by
  unfold cmpK
  rw [cmpL_neg a.1, cmpL_neg a.2.1, cmpL_neg a.2.2]
  repeat' split
  all_goals omega
theorem cmpK_eq {a b : K3} (h : cmpK a b = 0) : a = b := by
  unfold cmpK at h
  split at h
  · contradiction
  · rename_i h1
    split at h
    · contradiction
    · rename_i h2
      exact Prod.ext (cmpL_eq (by omega)) (Prod.ext (cmpL_eq (by omega)) (cmpL_eq h))
theorem cmpK_trans {a b c : K3} (h1 : cmpK a b < 0) (h2 : cmpK b c < 0) : cmpK a c < 0 := by
  unfold cmpK at h1 h2 ⊢
  by_cases x1 : cmpL a.1 b.1 = 0
  · rw [cmpL_eq x1]
    rw [if_neg (by omega)] at h1
    by_cases y1 : cmpL b.1 c.1 = 0
    · rw [if_neg (by omega)] at h2 ⊢
      by_cases x2 : cmpL a.2.1 b.2.1 = 0
      · rw [cmpL_eq x2]
        rw [if_neg (by omega)] at h1
        by_cases y2 : cmpL b.2.1 c.2.1 = 0
        · rw [if_neg (by omega)] at h2 ⊢
          exact cmpL_trans h1 h2
        · rw [if_pos y2] at h2 ⊢; exact h2
      · rw [if_pos x2] at h1
        by_cases y2 : cmpL b.2.1 c.2.1 = 0
        · rw [← cmpL_eq y2, if_pos x2]; exact h1
        · rw [if_pos y2] at h2
          have := cmpL_trans h1 h2
          rw [if_pos (by omega)]; exact this
    · rw [if_pos y1] at h2 ⊢; exact h2
  · rw [if_pos x1] at h1
    by_cases y1 : cmpL b.1 c.1 = 0
    · rw [← cmpL_eq y1, if_pos x1]; exact h1
    · rw [if_pos y1] at h2
      have := cmpL_trans h1 h2
      rw [if_pos (by omega)]; exact this
/-- how many keys are less -/
def rank (ks : List K3) (x : K3) : Int := (ks.countP fun k => decide (cmpK k x < 0) : Nat)
theorem countP_lt {α : Type} {p q : α → Bool} : ∀ {l : List α}, (∀ x ∈ l, p x = true → q x = true) → (∃ x ∈ l, q x = true ∧ p x = false) → l.countP p < l.countP q
  | [], _, h => by obtain ⟨x, hx, _⟩ := h; cases hx
  | y :: l, h1, ⟨x, hx, h2, h3⟩ => by
    have hm : l.countP p ≤ l.countP q := List.countP_mono_left fun z hz => h1 z (List.mem_cons_of_mem _ hz)
    rcases List.mem_cons.1 hx with rfl | hx
    · rw [List.countP_cons_of_pos h2, List.countP_cons_of_neg (by simp [h3])]; omega
    · have ih := countP_lt (fun z hz => h1 z (List.mem_cons_of_mem _ hz)) ⟨x, hx, h2, h3⟩
      by_cases hp : p y = true
      · rw [List.countP_cons_of_pos hp, List.countP_cons_of_pos (h1 y List.mem_cons_self hp)]; omega
      · rw [List.countP_cons_of_neg hp]
        have := List.countP_le_length (p := q) (l := [y])
        by_cases hq : q y = true
        · rw [List.countP_cons_of_pos hq]; omega
        · rw [List.countP_cons_of_neg hq]; omega
theorem rank_lt {ks : List K3} {x y : K3} (hx : x ∈ ks) (h : cmpK x y < 0) : rank ks x < rank ks y := by
  unfold rank
  have := countP_lt (l := ks) (p := fun k => decide (cmpK k x < 0)) (q := fun k => decide (cmpK k y < 0)) (fun k _ hk => by
    have := of_decide_eq_true hk
    exact decide_eq_true (cmpK_trans this h)) ⟨x, hx, decide_eq_true h, by
    have : cmpK x x = 0 := by unfold cmpK; simp [cmpL_self]
    simp [this]⟩
  omega
theorem rank_cmp {ks : List K3} {x y : K3} (hx : x ∈ ks) (hy : y ∈ ks) : (if rank ks x < rank ks y then -1 else if rank ks y < rank ks x then 1 else 0) = cmpK x y := by
  have hn := cmpK_neg x y
  rcases cmpK_rng x y with h | h | h
  · rw [if_pos (rank_lt hx (by omega)), h]
  · rw [cmpK_eq h, if_neg (Int.lt_irrefl _), if_neg (Int.lt_irrefl _)]
    unfold cmpK; simp [cmpL_self]
  · have := rank_lt (ks := ks) hy (show cmpK y x < 0 by omega)
    rw [if_neg (by omega), if_pos this, h]
/-- which places are asked, and what they stand for -/
abbrev ckOf (ks : List K3) (kb : Nat) : Ck := ⟨fun x => match ks[x.toNat]? with | some k => rank ks k | none => 0, fun x => 0 ≤ x ∧ x < ks.length, kb⟩
theorem ck_at {ks : List K3} {kb : Nat} {x : Int} (h : (ckOf ks kb).ok x) : ∃ k, ks[x.toNat]? = some k ∧ k ∈ ks ∧ (ckOf ks kb).cls x = rank ks k := by
  have h' : 0 ≤ x ∧ x < ks.length := h
  have hl : x.toNat < ks.length := by omega
  refine ⟨ks[x.toNat], by simp [hl], List.getElem_mem _, ?_⟩
  show (match ks[x.toNat]? with | some k => rank ks k | none => 0) = _
  rw [List.getElem?_eq_getElem hl]
theorem ck_cmp {ks : List K3} {kb : Nat} {x y : Int} {k1 k2 : K3} (h1 : ks[x.toNat]? = some k1) (h2 : ks[y.toNat]? = some k2) : @cmp (ckOf ks kb) x y = cmpK k1 k2 := by
  have e1 : (ckOf ks kb).cls x = rank ks k1 := by show (match ks[x.toNat]? with | some k => rank ks k | none => 0) = _; rw [h1]
  have e2 : (ckOf ks kb).cls y = rank ks k2 := by show (match ks[y.toNat]? with | some k => rank ks k | none => 0) = _; rw [h2]
  have h := rank_cmp (List.mem_of_getElem? h1) (List.mem_of_getElem? h2)
  rw [← e1, ← e2] at h
  exact h
/-- all places -/
def places (n : Nat) : List Int := (List.range n).map fun k : Nat => (k : Int)
theorem places_len (n : Nat) : (places n).length = n := by simp [places]
theorem places_succ (n : Nat) : places (n + 1) = places n ++ [(n : Int)] := by simp [places, List.range_succ]
theorem places_mem {n : Nat} {x : Int} (h : x ∈ places n) : 0 ≤ x ∧ x < n := by
  obtain ⟨k, hk, rfl⟩ := List.mem_map.1 h
  have := List.mem_range.1 hk
  omega
/-- what is wrong with the first text that has something wrong, and where it stands -/
def badN : Nat → List (List Int) → Int × Int
  | _, [] => (0, 0)
  | k, t :: r => if (keyF t).2 ≠ 0 then ((keyF t).2, (k : Int)) else badN (k + 1) r
theorem bad_none : ∀ (l : List (List Int)) (k : Nat), (∀ u ∈ l, (keyF u).2 = 0) → badN k l = (0, 0)
  | [], k, _ => rfl
  | t :: r, k, h => by
    rw [badN, if_neg (by rw [h t List.mem_cons_self]; simp), bad_none r (k + 1) fun u hu => h u (List.mem_cons_of_mem _ hu)]
theorem bad_at : ∀ (l : List (List Int)) (k j : Nat) (t : List Int), (∀ i u, i < j → l[i]? = some u → (keyF u).2 = 0) → l[j]? = some t → (keyF t).2 ≠ 0 → badN k l = ((keyF t).2, ((k + j : Nat) : Int))
  | [], k, j, t, _, h, _ => by simp at h
  | u :: r, k, 0, t, _, h, h2 => by
    simp at h
    subst h
    rw [badN, if_pos h2]; rfl
  | u :: r, k, j + 1, t, h1, h, h2 => by
    rw [badN, if_neg (by rw [h1 0 u (by omega) rfl]; simp), bad_at r (k + 1) j t (fun i v hi hv => h1 (i + 1) v (by omega) (by simpa using hv)) (by simpa using h) h2]
    congr 2; omega
def keysL (l : List (List Int)) : List K3 := l.map fun t => (keyF t).1
/-- two texts -/
def cmpF (a b : List Int) : Int × Int := if (keyF a).2 ≠ 0 then (0, (keyF a).2) else if (keyF b).2 ≠ 0 then (0, (keyF b).2) else (cmpK (keyF a).1 (keyF b).1, 0)
/-- what sorting tells -/
def wrongS (l : List (List Int)) : Int × Int := if 100 < l.length then (5, 0) else badN 0 l
end Go.Proofs.Ytbclmmkphjknaaa.Od
