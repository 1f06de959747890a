/-
  What follows for whole runs: plain lists.
-/
import Derived.Test.YtdmpmkcigjkilabYMath
namespace Go.Proofs.Ytdmpmkcigjkilab.K
open S (Sp)

theorem wgo_ne {l : List Sp} : ∀ {b : Int}, S.wgo b l ≠ 9 := by
  induction l with
  | nil => intro b; show (0 : Int) ≠ 9; decide
  | cons x l ih =>
    intro b
    rw [S.wgo]
    split
    · decide
    · split
      · decide
      · exact ih
theorem wrongE_ne (l : List Sp) : S.wrongE l ≠ 9 := by
  unfold S.wrongE
  split
  · decide
  · exact wgo_ne
theorem firstE_ne (l : List (List Sp)) : firstE l ≠ 9 := by
  induction l with
  | nil => show (0 : Int) ≠ 9; decide
  | cons x l ih =>
    rw [firstE]
    split
    · exact ih
    · exact wrongE_ne x
theorem setsE_ne (l : List (List Sp)) : setsE l ≠ 9 := by
  unfold setsE
  split
  · decide
  · exact firstE_ne l
theorem ruleE_ne (r : Rule) : ruleE r ≠ 9 := by
  unfold ruleE
  split
  · exact setsE_ne _
  · split
    · exact setsE_ne _
    · split
      · exact setsE_ne _
      · unfold tailE
        repeat' split
        all_goals decide
theorem firstR_ne {l : List Rule} : ∀ {k : Nat}, (firstR k l).1 ≠ 9 := by
  induction l with
  | nil => intro k; show (0 : Int) ≠ 9; decide
  | cons x l ih =>
    intro k
    rw [firstR]
    split
    · exact ih
    · exact ruleE_ne x
theorem checkF_ne (l : List Rule) (t : List Int) : (checkF l t).1 ≠ 9 := by
  unfold checkF
  split
  · show textE t ≠ 9
    unfold textE
    repeat' split
    all_goals decide
  · unfold rulesF
    split
    · show (5 : Int) ≠ 9; decide
    · exact firstR_ne
theorem runF_sure {l : List Rule} {t : List Int} (h : sureB l = true) : (runF l t).2.1 ≠ 9 ∧ ((runF l t).2.1 = 0 → (runF l t).1.2.1 ≤ t.length) := by
  unfold runF
  by_cases h0 : (checkF l t).1 = 0
  · rw [if_pos h0]
    have hE := (rulesF_zero (checkF_zero h0).1).2.1
    have := play_sure h hE (8 * t.length + 40) [] t 0 0 (by omega)
    refine ⟨this.1, fun h1 => ?_⟩
    have h2 := this.2 h1
    show (play l (8 * t.length + 40) [] t 0 0).2.2.1 ≤ _
    omega
  · rw [if_neg h0]
    exact ⟨checkF_ne l t, fun h1 => absurd h1 h0⟩
/-- where no rule matches anywhere a text comes out as it went in -/
theorem runF_still {l : List Rule} {t : List Int} (h0 : (checkF l t).1 = 0) (h : ∀ k : Nat, k < t.length → which l t k = -1) : runF l t = ((t, (t.length : Int), 0), 0, 0) := by
  unfold runF
  rw [if_pos h0, play_still (8 * t.length + 40) [] t 0 0 (fun k _ hk => h k (by simpa using hk)) (by omega)]
  simp
theorem checkF_ok {l : List Rule} {t : List Int} (h : (rulesF l).1 = 0) (ht : textE t = 0) : checkF l t = (0, 0) := by
  unfold checkF; rw [if_pos h, ht]
/-- WHERE NO RULE BEGINS NOTHING CHANGES -/
theorem runF_firsts {l : List Rule} {t : List Int} (h : (rulesF l).1 = 0) (ht : textE t = 0) : runF l (t.filter fun r => !S.memb (firstsL l) r) = ((t.filter fun r => !S.memb (firstsL l) r, ((t.filter fun r => !S.memb (firstsL l) r).length : Int), 0), 0, 0) := by
  have hE := (rulesF_zero h).2.1
  obtain ⟨h1, h2⟩ := textE_ok.1 ht
  refine runF_still (by rw [checkF_ok h (textE_ok.2 ⟨Nat.le_trans (List.length_filter_le _ _) h1, allR_sub h2 fun x hx => (List.mem_filter.1 hx).1⟩)]) fun k hk => which_firsts hE fun _ => ?_
  have hm := List.getElem_mem hk
  have := (List.mem_filter.1 hm).2
  rw [List.getD_eq_getElem?_getD, List.getElem?_eq_getElem hk]
  simpa using this
/-- WHAT IS STEADY STAYS -/
theorem runF_steady {l : List Rule} {t : List Int} (hS : steadyB l = true) (h0 : (runF l t).2.1 = 0) : runF l (runF l t).1.1 = (((runF l t).1.1, ((runF l t).1.1.length : Int), 0), 0, 0) := by
  have hlen := runF_len (l := l) (t := t)
  unfold runF at h0
  by_cases hc : (checkF l t).1 = 0
  · rw [if_pos hc] at h0
    obtain ⟨c1, c2, _⟩ := checkF_zero hc
    have hE := (rulesF_zero c1).2.1
    have hst := play_steady hS hE (8 * t.length + 40) [] t 0 0 (fun k tail hk => absurd hk (Nat.not_lt_zero _)) rfl (textE_ok.1 c2).2 h0
    have e : (runF l t).1.1 = (play l (8 * t.length + 40) [] t 0 0).2.1 := by unfold runF; rw [if_pos hc]
    rw [e] at hlen ⊢
    exact runF_still (by rw [checkF_ok c1 (textE_ok.2 ⟨hlen, hst.2⟩)]) hst.1
  · rw [if_neg hc] at h0
    exact absurd h0 hc

theorem foldmax_le {f : Rule → Nat} {n : Nat} {l : List Rule} (h : ∀ r ∈ l, f r ≤ n) : ∀ m, m ≤ n → l.foldl (fun m r => max m (f r)) m ≤ n := by
  induction l with
  | nil => intro m hm; exact hm
  | cons x l ih =>
    intro m hm
    rw [List.foldl_cons]
    have := h x (List.mem_cons_self ..)
    exact ih (fun r hr => h r (List.mem_cons_of_mem _ hr)) _ (by omega)
theorem behind_le {l : List Rule} (hE : ∀ r ∈ l, ruleE r = 0) : behind l ≤ 20 := foldmax_le (fun r hr => (ruleE_zero (hE r hr)).1.1) 0 (by omega)
theorem ahead_le {l : List Rule} (hE : ∀ r ∈ l, ruleE r = 0) : ahead l ≤ 40 := foldmax_le (fun r hr => by have h1 := (ruleE_zero (hE r hr)).2.1.1; have h2 := (ruleE_zero (hE r hr)).2.2.1.1; omega) 0 (by omega)
theorem textE_part {t : List Int} (h : textE t = 0) (a b : Nat) : textE ((t.take b).drop a) = 0 := by
  obtain ⟨h1, h2⟩ := textE_ok.1 h
  exact textE_ok.2 ⟨by rw [List.length_drop, List.length_take]; omega, allR_sub h2 fun x hx => List.mem_of_mem_take (List.mem_of_mem_drop hx)⟩

end Go.Proofs.Ytdmpmkcigjkilab.K
