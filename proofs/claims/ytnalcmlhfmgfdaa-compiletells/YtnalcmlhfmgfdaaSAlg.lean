/-
  Each property of numbers in range has its set; and what union, meeting, turning over and taking away make.
-/
import Derived.Test.YtnalcmlhfmgfdaaSMath
namespace Go.Proofs.Ytnalcmlhfmgfdaa.S

theorem exists_upto (P : Int → Bool) (n : Nat) (hn : n ≤ 1114112) : ∃ s, Nf 0 s ∧ (∀ q, memb s q = (decide (0 ≤ q) && decide (q < n) && P q)) := by
  induction n with
  | zero => exact ⟨[], trivial, fun q => by
      have : (decide (0 ≤ q) && decide (q < ((0 : Nat) : Int))) = false := by simp
      rw [this, memb_nil]; simp⟩
  | succ n ih =>
    obtain ⟨s, h1, h2⟩ := ih (by omega)
    have ends : ∀ p ∈ s, p.1 ≤ p.2 ∧ p.2 < n := fun p hp => by
      have h3 := h1.mem hp
      have h4 : memb s p.2 = true := memb_iff.2 ⟨p, hp, by omega, by omega⟩
      rw [h2] at h4
      simp at h4
      omega
    cases hP : P n with
    | true =>
      have hj := joinF_nf (x := ((n : Int), (n : Int))) h1 (by simp only; omega) (by simp only; omega) (by simp only; omega) fun p hp => by
        have := ends p (List.mem_of_getLast? hp)
        simp only; omega
      refine ⟨_, hj.1, fun q => ?_⟩
      rw [hj.2, h2]
      simp only
      by_cases hq : q = n
      · subst hq; simp [hP]; omega
      · have e1 : (decide ((n : Int) ≤ q) && decide (q ≤ (n : Int))) = false := by simp; omega
        have e2 : decide (q < (n : Int)) = decide (q < ((n + 1 : Nat) : Int)) := by apply bool_eq; simp; omega
        rw [e1, e2, Bool.or_false]
    | false =>
      refine ⟨s, h1, fun q => ?_⟩
      rw [h2]
      by_cases hq : q = n
      · subst hq; simp [hP]
      · have e2 : decide (q < (n : Int)) = decide (q < ((n + 1 : Nat) : Int)) := by apply bool_eq; simp; omega
        rw [e2]

theorem exists_is {P : Int → Bool} (h : ∀ q, P q = (inR q && P q)) : ∃ s, Is P s := by
  obtain ⟨s, h1, h2⟩ := exists_upto P 1114112 (by omega)
  refine ⟨s, h1, fun q => ?_⟩
  rw [h2, h q]
  have : (decide (0 ≤ q) && decide (q < ((1114112 : Nat) : Int))) = inR q := by
    apply bool_eq; simp [inR]; omega
  rw [this]
  cases inR q <;> simp

theorem nf_ok {P : Int → Bool} (h : ∀ q, P q = (inR q && P q)) : Nf 0 (nf P) ∧ memb (nf P) = P := by
  have := nf_is (exists_is h)
  exact ⟨this.1, funext this.2⟩

theorem orP_in (a b : List Sp) (q : Int) : orP a b q = (inR q && orP a b q) := by unfold orP; cases inR q <;> simp
theorem andP_in (a b : List Sp) (q : Int) : andP a b q = (inR q && andP a b q) := by unfold andP; cases inR q <;> simp
theorem minP_in (a b : List Sp) (q : Int) : minP a b q = (inR q && minP a b q) := by unfold minP; cases inR q <;> simp
theorem notP_in (a : List Sp) (q : Int) : notP a q = (inR q && notP a q) := by unfold notP; cases inR q <;> simp
theorem memb_in {a : List Sp} (h : Nf 0 a) (q : Int) : memb a q = (inR q && memb a q) := h.inR q

noncomputable def U (a b : List Sp) : List Sp := nf (orP a b)
noncomputable def I (a b : List Sp) : List Sp := nf (andP a b)
noncomputable def D (a b : List Sp) : List Sp := nf (minP a b)
noncomputable def C (a : List Sp) : List Sp := nf (notP a)

theorem U_nf (a b : List Sp) : Nf 0 (U a b) := (nf_ok (orP_in a b)).1
theorem I_nf (a b : List Sp) : Nf 0 (I a b) := (nf_ok (andP_in a b)).1
theorem D_nf (a b : List Sp) : Nf 0 (D a b) := (nf_ok (minP_in a b)).1
theorem C_nf (a : List Sp) : Nf 0 (C a) := (nf_ok (notP_in a)).1
theorem U_mem (a b : List Sp) (q : Int) : memb (U a b) q = orP a b q := congrFun (nf_ok (orP_in a b)).2 q
theorem I_mem (a b : List Sp) (q : Int) : memb (I a b) q = andP a b q := congrFun (nf_ok (andP_in a b)).2 q
theorem D_mem (a b : List Sp) (q : Int) : memb (D a b) q = minP a b q := congrFun (nf_ok (minP_in a b)).2 q
theorem C_mem (a : List Sp) (q : Int) : memb (C a) q = notP a q := congrFun (nf_ok (notP_in a)).2 q
theorem U_len {a b : List Sp} (ha : Nf 0 a) (hb : Nf 0 b) : (U a b).length ≤ a.length + b.length := or_length ha hb ⟨U_nf a b, U_mem a b⟩
theorem I_len {a b : List Sp} (ha : Nf 0 a) : (I a b).length ≤ a.length + b.length := and_length ha ⟨I_nf a b, I_mem a b⟩
theorem C_len (a : List Sp) : (C a).length ≤ a.length + 1 := not_length ⟨C_nf a, C_mem a⟩

theorem eq_of {s t : List Sp} (hs : Nf 0 s) (ht : Nf 0 t) (h : ∀ q, memb s q = memb t q) : s = t := hs.unique ht h

/-- BOOLE'S ALGEBRA, DE MORGAN -/
theorem U_comm (a b : List Sp) : U a b = U b a := eq_of (U_nf _ _) (U_nf _ _) fun q => by
  simp only [U_mem, orP]; cases inR q <;> cases memb a q <;> cases memb b q <;> rfl
theorem I_comm (a b : List Sp) : I a b = I b a := eq_of (I_nf _ _) (I_nf _ _) fun q => by
  simp only [I_mem, andP]; cases inR q <;> cases memb a q <;> cases memb b q <;> rfl
theorem U_assoc (a b c : List Sp) : U (U a b) c = U a (U b c) := eq_of (U_nf _ _) (U_nf _ _) fun q => by
  simp only [U_mem, orP]; cases inR q <;> cases memb a q <;> cases memb b q <;> cases memb c q <;> rfl
theorem I_assoc (a b c : List Sp) : I (I a b) c = I a (I b c) := eq_of (I_nf _ _) (I_nf _ _) fun q => by
  simp only [I_mem, andP]; cases inR q <;> cases memb a q <;> cases memb b q <;> cases memb c q <;> rfl
theorem I_over (a b c : List Sp) : I a (U b c) = U (I a b) (I a c) := eq_of (I_nf _ _) (U_nf _ _) fun q => by
  simp only [U_mem, orP, I_mem, andP]; cases inR q <;> cases memb a q <;> cases memb b q <;> cases memb c q <;> rfl
theorem U_over (a b c : List Sp) : U a (I b c) = I (U a b) (U a c) := eq_of (U_nf _ _) (I_nf _ _) fun q => by
  simp only [U_mem, orP, I_mem, andP]; cases inR q <;> cases memb a q <;> cases memb b q <;> cases memb c q <;> rfl
theorem C_U (a b : List Sp) : C (U a b) = I (C a) (C b) := eq_of (C_nf _) (I_nf _ _) fun q => by
  simp only [U_mem, orP, I_mem, andP, C_mem, notP]; cases inR q <;> cases memb a q <;> cases memb b q <;> rfl
theorem C_C {a : List Sp} (h : Nf 0 a) : C (C a) = a := eq_of (C_nf _) h fun q => by
  rw [h.inR q]; simp only [C_mem, notP]; cases inR q <;> cases memb a q <;> rfl
theorem U_self {a : List Sp} (h : Nf 0 a) : U a a = a := eq_of (U_nf _ _) h fun q => by
  rw [h.inR q]; simp only [U_mem, orP]; cases inR q <;> cases memb a q <;> rfl
theorem I_C (a : List Sp) : I a (C a) = [] := eq_of (I_nf _ _) trivial fun q => by
  rw [memb_nil]; simp only [I_mem, andP, C_mem, notP]; cases inR q <;> cases memb a q <;> rfl
theorem D_C (a b : List Sp) : D a b = I a (C b) := eq_of (D_nf _ _) (I_nf _ _) fun q => by
  simp only [I_mem, andP, C_mem, notP, D_mem, minP]; cases inR q <;> cases memb a q <;> cases memb b q <;> rfl

/-- right sets that make none too large -/
theorem wrong_ok {a : List Sp} (h : Nf 0 a) (hl : a.length ≤ 200) : wrongE a = 0 := wrongE_zero.2 ⟨hl, h⟩
theorem resL_ok {P : Int → Bool} (h : (nf P).length ≤ 200) : resL 0 0 P = nf P := by
  unfold resL fewL; simp; omega
theorem resE_ok {P : Int → Bool} (h : (nf P).length ≤ 200) : resE 0 0 P = 0 := by
  unfold resE fewE; simp; omega

/-- HOW MANY: numbers from 0 on, below n, of which something holds -/
def cnt (P : Int → Bool) : Nat → Nat
  | 0 => 0
  | n + 1 => cnt P n + if P n = true then 1 else 0

theorem cnt_congr {P Q : Int → Bool} {n : Nat} (h : ∀ q : Int, 0 ≤ q → q < (n : Int) → P q = Q q) : cnt P n = cnt Q n := by
  induction n with
  | zero => rfl
  | succ n ih => rw [cnt, cnt, ih fun q h1 h2 => h q h1 (by omega), h n (by omega) (by omega)]
theorem cnt_add (P Q : Int → Bool) (n : Nat) : cnt (fun q => P q || Q q) n + cnt (fun q => P q && Q q) n = cnt P n + cnt Q n := by
  induction n with
  | zero => rfl
  | succ n ih => simp only [cnt]; by_cases hP : P n = true <;> by_cases hQ : Q n = true <;> simp [hP, hQ] <;> omega
theorem cnt_not (P : Int → Bool) (n : Nat) : cnt P n + cnt (fun q => !P q) n = n := by
  induction n with
  | zero => rfl
  | succ n ih => simp only [cnt]; by_cases hP : P n = true <;> simp [hP] <;> omega
theorem cnt_le (P : Int → Bool) (n : Nat) : cnt P n ≤ n := by
  induction n with
  | zero => exact Nat.le_refl _
  | succ n ih => simp only [cnt]; by_cases hP : P n = true <;> simp [hP] <;> omega
theorem cnt_mono {P Q : Int → Bool} {n : Nat} (h : ∀ q : Int, 0 ≤ q → q < (n : Int) → P q = true → Q q = true) : cnt P n ≤ cnt Q n := by
  induction n with
  | zero => exact Nat.le_refl _
  | succ n ih =>
    have := ih fun q h1 h2 => h q h1 (by omega)
    have h2 := h n (by omega) (by omega)
    simp only [cnt]
    by_cases hP : P n = true
    · rw [if_pos hP, if_pos (h2 hP)]; omega
    · rw [if_neg hP]; split <;> omega
/-- who has as many of the same has them all -/
theorem cnt_eq {P Q : Int → Bool} {n : Nat} (h : ∀ q : Int, 0 ≤ q → q < (n : Int) → P q = true → Q q = true) (he : cnt P n = cnt Q n) : ∀ q : Int, 0 ≤ q → q < (n : Int) → Q q = true → P q = true := by
  induction n with
  | zero => intro q h1 h2; omega
  | succ n ih =>
    have hm := cnt_mono (n := n) fun q h1 h2 => h q h1 (by omega)
    have h2 := h n (by omega) (by omega)
    simp only [cnt] at he
    intro q h3 h4 h5
    by_cases e : q = n
    · subst e
      rw [h5] at he
      cases hP : P (n : Int) with
      | true => rfl
      | false => rw [hP] at he; simp at he; omega
    · refine ih (fun q h1 h2 => h q h1 (by omega)) ?_ q h3 (by omega) h5
      cases hP : P (n : Int) with
      | true => rw [hP, h2 hP] at he; omega
      | false => rw [hP] at he; cases hQ : Q (n : Int) <;> rw [hQ] at he <;> simp at he <;> omega

theorem cnt_span (lo hi : Int) (n : Nat) (h0 : 0 ≤ lo) (h1 : lo ≤ hi + 1) : (cnt (fun q => decide (lo ≤ q) && decide (q ≤ hi)) n : Int) = (if (n : Int) ≤ lo then 0 else if (n : Int) ≤ hi + 1 then (n : Int) - lo else hi - lo + 1) := by
  induction n with
  | zero => simp [cnt, h0]
  | succ n ih =>
    simp only [cnt]
    rw [Int.natCast_add, ih]
    by_cases c1 : lo ≤ (n : Int)
    · by_cases c2 : (n : Int) ≤ hi
      · simp [c1, c2]; split <;> split <;> (try split) <;> (try split) <;> omega
      · simp [c1, c2]; split <;> split <;> (try split) <;> (try split) <;> omega
    · simp [c1]; split <;> split <;> (try split) <;> (try split) <;> omega

/-- the sum of the spans' sizes -/
def total : List Sp → Int
  | [] => 0
  | x :: l => (x.2 - x.1 + 1) + total l

theorem cnt_or_apart (P Q : Int → Bool) (n : Nat) (h : ∀ q, (P q && Q q) = false) : cnt (fun q => P q || Q q) n = cnt P n + cnt Q n := by
  have := cnt_add P Q n
  have e : cnt (fun q => P q && Q q) n = 0 := by
    have h1 : cnt (fun q => P q && Q q) n = cnt (fun _ => false) n := cnt_congr fun q _ _ => h q
    rw [h1]
    clear this h1
    induction n with
    | zero => rfl
    | succ n ih => simp only [cnt]; simp [ih]
  omega

theorem total_cnt {b : Int} {l : List Sp} (h : Nf b l) (hb : 0 ≤ b) : total l = cnt (memb l) 1114112 := by
  induction l generalizing b with
  | nil =>
    have : cnt (memb []) 1114112 = 0 := by
      have h1 : ∀ n, cnt (memb []) n = 0 := fun n => by
        induction n with
        | zero => rfl
        | succ n ih => simp only [cnt, ih, memb_nil]; rfl
      exact h1 _
    rw [this]; rfl
  | cons x l ih =>
    obtain ⟨h1, h2, h3, h4⟩ := h
    have e : cnt (memb (x :: l)) 1114112 = cnt (fun q => decide (x.1 ≤ q) && decide (q ≤ x.2)) 1114112 + cnt (memb l) 1114112 := by
      rw [← cnt_or_apart]
      · rfl
      · intro q
        cases hm : memb l q with
        | false => simp
        | true => have := (h4.low hm).1; simp; omega
    rw [total, e, ih h4 (by omega), Int.natCast_add, cnt_span x.1 x.2 1114112 (by omega) (by omega)]
    rw [if_neg (by omega)]
    split <;> omega

theorem total_nonneg {b : Int} {l : List Sp} (h : Nf b l) : 0 ≤ total l := by
  induction l generalizing b with
  | nil => exact Int.le_refl _
  | cons x l ih => have := ih h.2.2.2; have := h.2.1; simp only [total]; omega

/-- the k-th number -/
def nthF : List Sp → Int → Option Int
  | [], _ => none
  | x :: l, k => if k < x.2 - x.1 + 1 then some (x.1 + k) else nthF l (k - (x.2 - x.1 + 1))

theorem nthF_some {b : Int} {l : List Sp} {k : Int} (h : Nf b l) (h0 : 0 ≤ k) : (∃ r, nthF l k = some r) ↔ k < total l := by
  induction l generalizing b k with
  | nil => simp [nthF, total]; omega
  | cons x l ih =>
    obtain ⟨h1, h2, h3, h4⟩ := h
    have ht := total_nonneg h4
    simp only [nthF, total]
    by_cases c : k < x.2 - x.1 + 1
    · simp [c]; omega
    · rw [if_neg c, ih h4 (by omega)]; omega

theorem cnt_memb_upto {b : Int} {l : List Sp} {k r : Int} (h : Nf b l) (hb : 0 ≤ b) (h0 : 0 ≤ k) (hr : nthF l k = some r) : memb l r = true ∧ (cnt (fun q => memb l q && decide (q ≤ r)) 1114112 : Int) = k + 1 := by
  induction l generalizing b k with
  | nil => simp [nthF] at hr
  | cons x l ih =>
    obtain ⟨h1, h2, h3, h4⟩ := h
    have e : cnt (fun q => memb (x :: l) q && decide (q ≤ r)) 1114112 = cnt (fun q => decide (x.1 ≤ q) && decide (q ≤ (if x.2 ≤ r then x.2 else r))) 1114112 + cnt (fun q => memb l q && decide (q ≤ r)) 1114112 := by
      rw [← cnt_or_apart]
      · refine cnt_congr fun q _ _ => ?_
        rw [memb_cons]
        apply bool_eq
        cases memb l q <;> by_cases c : x.2 ≤ r <;> simp [c] <;> omega
      · intro q
        cases hm : memb l q with
        | false => simp
        | true =>
          have := (h4.low hm).1
          by_cases c : x.2 ≤ r
          · simp [c]; omega
          · simp [c]; omega
    simp only [nthF] at hr
    by_cases c : k < x.2 - x.1 + 1
    · rw [if_pos c] at hr
      cases hr
      refine ⟨by rw [memb_cons]; simp; omega, ?_⟩
      have e2 : cnt (fun q => memb l q && decide (q ≤ x.1 + k)) 1114112 = 0 := by
        have h1 : cnt (fun q => memb l q && decide (q ≤ x.1 + k)) 1114112 = cnt (memb []) 1114112 := cnt_congr fun q _ _ => by
          rw [memb_nil]
          cases hm : memb l q with
          | false => rfl
          | true => have := (h4.low hm).1; simp; omega
        rw [h1]
        have := total_cnt (b := 0) (l := []) trivial (by omega)
        simp [total] at this
        omega
      rw [e, e2, Int.natCast_add, cnt_span _ _ 1114112 (by omega) (by split <;> omega)]
      split <;> (try split) <;> (try split) <;> omega
    · rw [if_neg c] at hr
      obtain ⟨i1, i2⟩ := ih h4 (by omega) (k := k - (x.2 - x.1 + 1)) (by omega) hr
      have hlow := (h4.low i1).1
      refine ⟨by rw [memb_cons, i1]; simp, ?_⟩
      rw [e, Int.natCast_add, i2, if_pos (by omega), cnt_span _ _ 1114112 (by omega) (by omega)]
      split <;> (try split) <;> omega

end Go.Proofs.Ytnalcmlhfmgfdaa.S
