/-
  Sets in texts: what Print writes Read reads.
-/
import Derived.Test.YtchkcjaahjhbcaaTMath
namespace Go.Proofs.Ytchkcjaahjhbcaa.T
open S (Sp)

/-- the runes of what Print writes -/
def hexR (n : Nat) : List Int := (hexL n).map fun b => (b.toNat : Int)
def quoR (r : Int) : List Int := if plain r = true then [r] else [92, 117, 123] ++ hexR r.toNat ++ [125]
def oneR (x : Sp) : List Int := quoR x.1 ++ if x.1 < x.2 then [45] ++ quoR x.2 else []
def innerR (s : List Sp) : List Int := s.flatMap oneR
def prtR (s : List Sp) : List Int := [91] ++ innerR s ++ [93]

theorem sits_see {l m r : List Int} {p : Nat} (h : l.drop p = m ++ r) {i : Nat} (hi : i < m.length) : see l (p + i) = see m i := by
  unfold see
  have : l[p + i]? = m[i]? := by
    rw [← List.getElem?_drop, h, List.getElem?_append_left hi]
  rw [this]
theorem sits_next {l m r : List Int} {p : Nat} (h : l.drop p = m ++ r) : l.drop (p + m.length) = r := by
  rw [← List.drop_drop, h, List.drop_left]
theorem sits_len {l m r : List Int} {p : Nat} (h : l.drop p = m ++ r) (hp : p ≤ l.length) : p + m.length + r.length = l.length := by
  have := congrArg List.length h
  rw [List.length_drop, List.length_append] at this
  omega
theorem sits_head {l r : List Int} {p : Nat} {a : Int} (h : l.drop p = a :: r) : see l p = a := by
  have := sits_see (m := [a]) (r := r) (p := p) (l := l) (by simpa using h) (i := 0) (by simp)
  simpa [see] using this
theorem sits_tail {l r : List Int} {p : Nat} {a : Int} (h : l.drop p = a :: r) : l.drop (p + 1) = r := by
  have := sits_next (m := [a]) (r := r) (p := p) (l := l) (by simpa using h)
  simpa using this
theorem sits_lt {l r : List Int} {p : Nat} {a : Int} (h : l.drop p = a :: r) : p < l.length := by
  apply Classical.byContradiction
  intro hn
  rw [List.drop_eq_nil_of_le (by omega)] at h
  cases h

theorem dig_hex {d : Nat} (h : d < 16) : hexd ((dig d).toNat : Int) = true ∧ hexOne ((dig d).toNat : Int) = d := by
  have : ∀ d : Fin 16, hexd ((dig d.1).toNat : Int) = true ∧ hexOne ((dig d.1).toNat : Int) = (d.1 : Int) := by decide
  exact this ⟨d, h⟩

theorem hexR_small {n : Nat} (h : n < 16) : hexR n = [((dig n).toNat : Int)] := by unfold hexR; rw [hexL_small h]; rfl
theorem hexR_big {n : Nat} (h : ¬ n < 16) : hexR n = hexR (n / 16) ++ [((dig (n % 16)).toNat : Int)] := by unfold hexR; rw [hexL_big h]; simp
theorem hexN_snoc (l : List Int) (r : Int) : hexN (l ++ [r]) = 16 * hexN l + hexOne r := by simp [hexN]
theorem hexR_ok (n : Nat) : hexN (hexR n) = n ∧ (∀ r ∈ hexR n, hexd r = true) ∧ hexR n ≠ [] := by
  induction n using Nat.strongRecOn with
  | ind n ih =>
    by_cases h : n < 16
    · rw [hexR_small h]
      refine ⟨?_, ?_, by simp⟩
      · have := (dig_hex h).2
        simp only [hexN, List.foldl_cons, List.foldl_nil]; omega
      · intro r hr; rw [List.mem_singleton] at hr; subst hr; exact (dig_hex h).1
    · rw [hexR_big h]
      obtain ⟨h1, h2, h3⟩ := ih (n / 16) (by omega)
      have hd := dig_hex (d := n % 16) (by omega)
      refine ⟨?_, ?_, by simp⟩
      · rw [hexN_snoc, h1, hd.2]; omega
      · intro r hr
        rw [List.mem_append, List.mem_singleton] at hr
        rcases hr with hr | hr
        · exact h2 r hr
        · subst hr; exact hd.1
theorem hexR_len {n : Nat} (h : n ≤ 1114111) : 1 ≤ (hexR n).length ∧ (hexR n).length ≤ 6 := by
  constructor
  · have := (hexR_ok n).2.2
    cases hc : hexR n with
    | nil => exact absurd hc this
    | cons a b => simp
  · have := hexL_len (n := n) (k := 5) (by omega)
    simpa [hexR] using this

theorem skipW_sits {f : Int → Bool} {l m r : List Int} {p : Nat} (h : l.drop p = m ++ r) (hp : p ≤ l.length) (hm : ∀ x ∈ m, f x = true) (h0 : f (-1) = false) (hr : f (see l (p + m.length)) = false) : skipW f l p = p + m.length := by
  have hl := sits_len h hp
  refine skipW_eq (by omega) (by omega) (fun i h1 h2 => ?_) hr h0
  obtain ⟨j, rfl⟩ : ∃ j, i = p + j := ⟨i - p, by omega⟩
  rw [sits_see h (i := j) (by omega)]
  have := see_lt (l := m) (p := j) (by omega)
  exact hm _ (List.mem_of_getElem? this)

theorem plain_cases {r : Int} (h : plain r = true) : (48 ≤ r ∧ r ≤ 57) ∨ (65 ≤ r ∧ r ≤ 90) ∨ (97 ≤ r ∧ r ≤ 122) ∨ 126 < r := by
  unfold plain alnum at h
  simp only [Bool.or_eq_true, Bool.and_eq_true, decide_eq_true_eq] at h
  omega
theorem specials_small {r : Int} (h : r ∈ specials) : r ∈ specials ∧ ¬ ((48 ≤ r ∧ r ≤ 57) ∨ (65 ≤ r ∧ r ≤ 90) ∨ (97 ≤ r ∧ r ≤ 122) ∨ 126 < r) := by
  refine ⟨h, ?_⟩
  simp only [specials, List.mem_cons, List.not_mem_nil, or_false] at h
  omega
theorem ordy_plain {r : Int} (h : plain r = true) : ordy r = true := by
  have hc := plain_cases h
  unfold ordy
  simp only [Bool.and_eq_true, Bool.not_eq_true', decide_eq_false_iff_not]
  exact ⟨by omega, fun hm => (specials_small hm).2 hc⟩
/-- the first rune of a quoted one -/
theorem quoR_cons {r : Int} : ∃ a t, quoR r = a :: t ∧ (a = 92 ∨ plain a = true) := by
  unfold quoR
  by_cases h : plain r = true
  · rw [if_pos h]; exact ⟨r, [], rfl, .inr h⟩
  · rw [if_neg h]; exact ⟨92, _, rfl, .inl rfl⟩
theorem first_not {a : Int} (h : a = 92 ∨ plain a = true) : a ≠ 93 ∧ a ≠ 38 ∧ a ≠ 45 ∧ a ≠ 91 ∧ a ≠ 94 ∧ a ≠ 58 ∧ blank a = false := by
  have hb : blank a = false ↔ ¬ (a = 32 ∨ a = 9 ∨ a = 10) := by simp [blank, blanks]
  rw [hb]
  rcases h with rfl | h
  · decide
  · have := plain_cases h; omega

theorem chr_quo {l rest : List Int} {p : Nat} {r : Int} (h : l.drop p = quoR r ++ rest) (h0 : 0 ≤ r) (h1 : r ≤ 1114111) : chr l p = .ok r (p + (quoR r).length) := by
  unfold quoR at h ⊢
  by_cases hpl : plain r = true
  · rw [if_pos hpl] at h ⊢
    have hs := sits_head (by simpa using h)
    unfold chr
    have hc := plain_cases hpl
    rw [hs, if_neg (by omega), if_pos (ordy_plain hpl)]
    rfl
  · rw [if_neg hpl] at h ⊢
    have h92 := sits_head (a := 92) (by simpa using h)
    have t1 := sits_tail (a := 92) (by simpa using h)
    have h117 := sits_head t1
    have t2 := sits_tail t1
    have h123 := sits_head t2
    have t3 := sits_tail t2
    obtain ⟨hN, hall, _⟩ := hexR_ok r.toNat
    have hlen := hexR_len (n := r.toNat) (by omega)
    have t3' : l.drop (p + 1 + 1 + 1) = hexR r.toNat ++ (125 :: rest) := by simpa using t3
    have hp3 : p + 1 + 1 + 1 ≤ l.length := by have := sits_lt t2; omega
    have h125 := sits_head (sits_next t3')
    have hsk := skipW_sits t3' hp3 hall (by decide) (by rw [h125]; decide)
    have hcut : cut l (p + 1 + 2) (skipW hexd l (p + 1 + 2)) = hexR r.toNat := by
      unfold cut
      rw [show p + 1 + 2 = p + 1 + 1 + 1 from rfl, hsk, t3', Nat.add_sub_cancel_left, List.take_left]
    unfold chr
    rw [h92, if_pos rfl]
    unfold esc
    rw [h117, if_pos rfl]
    unfold num
    rw [h123, if_neg (by simp), hcut, hN, show p + 1 + 2 = p + 1 + 1 + 1 from rfl, hsk, h125, if_neg (by omega), if_neg (by simp), if_neg (by omega)]
    congr 1
    · omega
    · simp; omega

theorem span_one {l rest : List Int} {p : Nat} {x : Sp} (h : l.drop p = oneR x ++ rest) (hp : p ≤ l.length) (h0 : 0 ≤ x.1) (h1 : x.1 ≤ x.2) (h2 : x.2 ≤ 1114111) (hr : see l (p + (oneR x).length) ≠ 45) : span l p = .ok x (p + (oneR x).length) := by
  obtain ⟨lo, hi⟩ := x
  simp only at h0 h1 h2
  by_cases hlt : lo < hi
  · have e : oneR (lo, hi) = quoR lo ++ ([45] ++ quoR hi) := by simp [oneR, hlt]
    rw [e, List.append_assoc, List.append_assoc] at h
    have hc := chr_quo h h0 (by omega)
    have t := sits_next h
    have hl := sits_len h hp
    have h45 := sits_head (a := 45) (by simpa using t)
    have t1 := sits_tail (a := 45) (by simpa using t)
    have hc2 := chr_quo t1 (by omega) h2
    obtain ⟨a, tt, ha, hf⟩ := quoR_cons (r := hi)
    have h91 : see l (p + (quoR lo).length + 1) ≠ 91 := by
      rw [sits_head (a := a) (r := tt ++ rest) (by rw [t1, ha]; rfl)]
      exact (first_not hf).2.2.2.1
    unfold span
    rw [hc]
    simp only
    rw [h45, if_neg (by simp [h91]), hc2]
    simp only
    rw [if_neg (by omega), e]
    simp; omega
  · have he : lo = hi := by omega
    subst he
    have e : oneR (lo, lo) = quoR lo := by simp [oneR]
    rw [e] at h hr ⊢
    have hc := chr_quo h h0 h2
    unfold span
    rw [hc]
    simp only
    rw [if_pos (.inl hr)]

theorem oneR_cons {x : Sp} : ∃ a t, oneR x = a :: t ∧ (a = 92 ∨ plain a = true) := by
  obtain ⟨a, t, h, hf⟩ := quoR_cons (r := x.1)
  exact ⟨a, _, by unfold oneR; rw [h]; rfl, hf⟩
theorem innerR_head {s : List Sp} {r : List Int} : ∃ a t, innerR s ++ 93 :: r = a :: t ∧ ((a = 92 ∨ plain a = true) ∨ a = 93) := by
  cases s with
  | nil => exact ⟨93, r, rfl, .inr rfl⟩
  | cons x s =>
    obtain ⟨a, t, h, hf⟩ := oneR_cons (x := x)
    exact ⟨a, _, by simp only [innerR, List.flatMap_cons, h, List.cons_append]; rfl, .inl hf⟩
theorem head_not {a : Int} (h : (a = 92 ∨ plain a = true) ∨ a = 93) : a ≠ 45 ∧ a ≠ 94 ∧ a ≠ 58 ∧ blank a = false := by
  rcases h with h | rfl
  · have := first_not h; exact ⟨this.2.2.1, this.2.2.2.2.1, this.2.2.2.2.2.1, this.2.2.2.2.2.2⟩
  · decide

theorem made_ok {P : Int → Bool} {s : List Sp} (h : S.Is P s) (hl : s.length ≤ 200) (p : Nat) : made P p = .ok s p := by
  unfold made; rw [S.nf_eq h, if_neg (by omega)]
theorem is_or {a b : List Sp} {s : List Sp} (h : S.Nf 0 s) (hm : ∀ r, S.memb s r = (S.memb a r || S.memb b r)) : S.Is (S.orP a b) s :=
  ⟨h, fun r => by unfold S.orP; rw [h.inR, hm]⟩

theorem loop_inner {l rest : List Int} (sub : Nat → Out (List Sp)) : ∀ (s acc : List Sp) (f p : Nat), l.drop p = innerR s ++ 93 :: rest → p ≤ l.length → S.Nf 0 (acc ++ s) → (acc ++ s).length ≤ 200 → s.length < f → loop f sub l acc p = .ok (acc ++ s) (p + (innerR s).length + 1) := by
  intro s
  induction s with
  | nil =>
    intro acc f p h hp _ _ hf
    obtain ⟨f, rfl⟩ : ∃ g, f = g + 1 := ⟨f - 1, by simp at hf; omega⟩
    rw [loop, sits_head (a := 93) (by simpa [innerR] using h), if_pos rfl]
    simp [innerR]
  | cons x s ih =>
    intro acc f p h hp hn hlen hf
    obtain ⟨f, rfl⟩ : ∃ g, f = g + 1 := ⟨f - 1, by simp at hf; omega⟩
    have hn' : S.Nf 0 (acc ++ [x] ++ s) := by simpa using hn
    have hx := hn.mem (x := x) (by simp)
    have e : innerR (x :: s) = oneR x ++ innerR s := rfl
    rw [e, List.append_assoc] at h
    obtain ⟨a, t, ha, hfa⟩ := oneR_cons (x := x)
    obtain ⟨b, u, hb, hfb⟩ := innerR_head (s := s) (r := rest)
    have hsee := sits_head (a := a) (r := t ++ (innerR s ++ 93 :: rest)) (by rw [h, ha]; rfl)
    have hnx := sits_next h
    have hseq := sits_head (by rw [hnx, hb])
    have hl := sits_len h hp
    have hfn := first_not hfa
    have hbn := head_not hfb
    have hsp := span_one h hp (by omega) hx.2.1 hx.2.2 (by rw [hseq]; exact hbn.1)
    have hmade : made (S.orP acc [x]) (p + (oneR x).length) = .ok (acc ++ [x]) (p + (oneR x).length) := by
      refine made_ok (is_or (hn'.part) fun r => S.memb_append _ _ _) ?_ _
      simp at hlen ⊢; omega
    rw [loop, hsee, if_neg hfn.1]
    unfold part
    rw [hsee, if_neg hfn.2.1, if_neg hfn.2.2.1, if_neg (fun h => hfn.2.2.2.1 h.1), if_neg hfn.2.2.2.1, hsp]
    simp only
    rw [hmade]
    simp only
    rw [skipW_here (by omega) (by decide) (by rw [hseq]; exact hbn.2.2.2), ih (acc ++ [x]) f _ hnx (by omega) hn' (by simpa using hlen) (by simp at hf; omega)]
    rw [e]
    simp; omega

theorem set_prt {l rest : List Int} {n p : Nat} {s : List Sp} (h : l.drop p = prtR s ++ rest) (hn : S.Nf 0 s) (hs : s.length ≤ 200) (hlen : s.length ≤ l.length) : setN (n + 1) l p = .ok s (p + (prtR s).length) := by
  have h' : l.drop p = 91 :: (innerR s ++ 93 :: rest) := by rw [h]; simp [prtR]
  obtain ⟨b, u, hb, hfb⟩ := innerR_head (s := s) (r := rest)
  have h91 := sits_head h'
  have t := sits_tail h'
  have hb1 := sits_head (by rw [t, hb])
  have hbn := head_not hfb
  have hlt := sits_lt h'
  rw [setN, h91, if_neg (by simp), hb1, if_neg hbn.2.1, skipW_here (by omega) (by decide) (by rw [hb1]; exact hbn.2.2.2), loop_inner _ s [] _ _ t (by omega) (by simpa using hn) (by simpa using hs) (by omega)]
  simp [prtR]; omega

theorem prt_long (s : List Sp) : s.length ≤ (innerR s).length := by
  induction s with
  | nil => simp
  | cons x s ih =>
    obtain ⟨a, t, ha, _⟩ := oneR_cons (x := x)
    simp only [innerR, List.flatMap_cons, List.length_append, ha, List.length_cons] at ih ⊢
    omega

/-- what is written is read -/
theorem read_prt {s : List Sp} (hn : S.Nf 0 s) (hs : s.length ≤ 200) (hl : (prtR s).length ≤ 4000) : read (prtR s) = .ok s (prtR s).length := by
  have h : (prtR s).drop 0 = prtR s ++ [] := by simp
  have h91 : see (prtR s) 0 = 91 := sits_head (r := innerR s ++ [93]) (by simp [prtR])
  have hlong := prt_long s
  have := set_prt (n := 19) h hn hs (by simp [prtR]; omega)
  unfold read
  rw [if_neg (by omega)]
  unfold whole
  rw [skipW_here (by omega) (by decide) (by rw [h91]; decide), this]
  simp only
  rw [Nat.zero_add, skipW_here (Nat.le_refl _) (by decide) (by rw [see_ge (Nat.le_refl _)]; decide), see_ge (Nat.le_refl _), if_pos rfl]

theorem quoR_len {r : Int} (h : r ≤ 1114111) : (quoR r).length ≤ 10 := by
  unfold quoR
  split
  · simp
  · have := (hexR_len (n := r.toNat) (by omega)).2
    simp; omega
theorem prtR_len {s : List Sp} (hn : S.Nf 0 s) : (prtR s).length ≤ 21 * s.length + 2 := by
  have : ∀ s : List Sp, (∀ x ∈ s, x.1 ≤ 1114111 ∧ x.2 ≤ 1114111) → (innerR s).length ≤ 21 * s.length := by
    intro s
    induction s with
    | nil => intro _; simp [innerR]
    | cons x s ih =>
      intro h
      have h1 := h x (by simp)
      have h2 := ih fun y hy => h y (by simp [hy])
      have h3 := quoR_len h1.1
      have h4 := quoR_len h1.2
      have h5 : (oneR x).length ≤ 21 := by
        unfold oneR
        split
        · simp; omega
        · simp; omega
      simp only [innerR, List.flatMap_cons, List.length_append, List.length_cons] at h2 ⊢
      omega
  have h := this s fun x hx => by have := hn.mem hx; omega
  simp [prtR]; omega

end Go.Proofs.Ytchkcjaahjhbcaa.T
