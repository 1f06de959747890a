/-
  Sets in texts: a text that stands within a longer one is read as it is read alone.
-/
import Derived.Test.YtajbcgobfkaahaaGreatDoorTText
import Derived.Test.YtajbcgobfkaahaaGreatDoorRParse
import Derived.Test.YtajbcgobfkaahaaGreatDoorRText
import Derived.Test.YtajbcgobfkaahaaGreatDoorRRd4
import Derived.Test.YtajbcgobfkaahaaGreatDoorTMath
import Derived.Test.YtajbcgobfkaahaaGreatDoorRAlive
import Derived.Test.YtajbcgobfkaahaaGreatDoorRSame2
namespace Go.Proofs.YtajbcgobfkaahaaGreatDoor.T
open S (Sp)

theorem see_ne {l : List Int} {p : Nat} (h : see l p ≠ -1) : p < l.length := by
  apply Classical.byContradiction
  intro hn
  exact h (see_ge (by omega))

/-- l stands in L, k runes in; M is what follows it -/
structure In (l L M : List Int) (k : Nat) : Prop where
  eq : ∃ A : List Int, L = A ++ l ++ M ∧ A.length = k

section
variable {l L M : List Int} {k : Nat}
theorem In.len (h : In l L M k) : k + l.length + M.length = L.length := by
  obtain ⟨A, rfl, rfl⟩ := h.eq
  simp
  omega
theorem In.lt (h : In l L M k) {p : Nat} (hp : p < l.length) : see L (k + p) = see l p := by
  obtain ⟨A, rfl, rfl⟩ := h.eq
  unfold see
  rw [List.getElem?_append_left (by simp; omega), List.getElem?_append_right (by omega)]
  simp
theorem In.see (h : In l L M k) {p : Nat} (hp : p < l.length ∨ M = []) : see L (k + p) = see l p := by
  by_cases hlt : p < l.length
  · exact h.lt hlt
  · rcases hp with hp | hp
    · exact absurd hp hlt
    · subst hp
      have := h.len
      rw [see_ge (l := L) (by simp at this; omega), see_ge (l := l) (by omega)]
theorem In.at (h : In l L M k) {p : Nat} {r : Int} (hs : T.see l p = r) (hr : r ≠ -1) : T.see L (k + p) = r := by
  rw [h.lt (see_ne (by rw [hs]; exact hr))]; exact hs
theorem In.cut (h : In l L M k) {p q : Nat} (hq : q ≤ l.length) : cut L (k + p) (k + q) = cut l p q := by
  obtain ⟨A, rfl, rfl⟩ := h.eq
  unfold T.cut
  rw [show A.length + q - (A.length + p) = q - p by omega, List.append_assoc, ← List.drop_drop, List.drop_left]
  by_cases hp : p ≤ l.length
  · rw [List.drop_append_of_le_length hp, List.take_append_of_le_length (by rw [List.length_drop]; omega)]
  · rw [show q - p = 0 by omega]
    simp
theorem skip_spec {f : Int → Bool} (h0 : f (-1) = false) (l : List Int) (p : Nat) : (∀ i, p ≤ i → i < skipW f l p → f (T.see l i) = true) ∧ f (T.see l (skipW f l p)) = false := by
  by_cases hp : p ≤ l.length
  · generalize hn : l.length - p = n
    induction n generalizing p with
    | zero =>
      have hpe : p = l.length := by omega
      have hf : f (T.see l p) = false := by rw [see_ge (by omega)]; exact h0
      have := skipW_here hp h0 hf
      rw [this]
      exact ⟨fun i h1 h2 => by omega, hf⟩
    | succ n ih =>
      by_cases hf : f (T.see l p) = true
      · have hlt : p < l.length := by omega
        have e : skipW f l p = skipW f l (p + 1) := by
          have hs := T.see_lt hlt
          unfold skipW
          rw [List.drop_eq_getElem_cons hlt, List.takeWhile_cons]
          have : l[p] = T.see l p := by rw [List.getElem?_eq_getElem hlt] at hs; exact Option.some.inj hs
          rw [this, if_pos hf, List.length_cons]
          omega
        obtain ⟨h1, h2⟩ := ih (p + 1) (by omega) (by omega)
        rw [e]
        refine ⟨fun i h3 h4 => ?_, h2⟩
        by_cases hip : i = p
        · rw [hip]; exact hf
        · exact h1 i (by omega) h4
      · have hf' : f (T.see l p) = false := by simpa using hf
        have := skipW_here hp h0 hf'
        rw [this]
        exact ⟨fun i h1 h2 => by omega, hf'⟩
  · have e : skipW f l p = p := by unfold skipW; rw [List.drop_eq_nil_of_le (by omega)]; rfl
    rw [e]
    exact ⟨fun i h1 h2 => by omega, by rw [see_ge (by omega)]; exact h0⟩
theorem In.skip (h : In l L M k) {f : Int → Bool} (h0 : f (-1) = false) {p : Nat} (hp : p ≤ l.length) (hq : skipW f l p < l.length ∨ M = []) : skipW f L (k + p) = k + skipW f l p := by
  obtain ⟨h1, h2⟩ := skip_spec h0 l p
  have hge := skipW_ge f l p
  have hle := skipW_le (f := f) hp
  have hl := h.len
  refine skipW_eq (by omega) (by omega) (fun i h3 h4 => ?_) ?_ h0
  · obtain ⟨j, rfl⟩ : ∃ j, i = k + j := ⟨i - k, by omega⟩
    have hj := h1 j (by omega) (by omega)
    rw [h.lt (see_ne (by intro e; rw [e, h0] at hj; cases hj))]
    exact hj
  · rw [h.see hq]; exact h2

theorem In.num (h : In l L M k) {p q : Nat} {x : Int} (hn : num l p = .ok x q) : num L (k + p) = .ok x (k + q) ∧ q ≤ l.length := by
  unfold T.num at hn ⊢
  split at hn
  · cases hn
  · rename_i h1
    have h1' : T.see l (p + 1) = 123 := Classical.byContradiction fun hh => h1 hh
    have hlt := see_ne (l := l) (p := p + 1) (by rw [h1']; decide)
    split at hn
    · cases hn
    · rename_i h2
      split at hn
      · cases hn
      · rename_i h3
        have h3' : T.see l (skipW hexd l (p + 2)) = 125 := Classical.byContradiction fun hh => h3 hh
        have hlt3 := see_ne (l := l) (p := skipW hexd l (p + 2)) (by rw [h3']; decide)
        split at hn
        · cases hn
        · rename_i h4
          cases hn
          have e1 : skipW hexd L (k + p + 2) = k + skipW hexd l (p + 2) := by rw [Nat.add_assoc]; exact h.skip (by decide) (by omega) (.inl hlt3)
          have e2 : T.cut L (k + p + 2) (k + skipW hexd l (p + 2)) = T.cut l (p + 2) (skipW hexd l (p + 2)) := by rw [Nat.add_assoc]; exact h.cut (by omega)
          rw [e1, e2, show k + p + 1 = k + (p + 1) by omega, h.at h1' (by decide), if_neg (by simp), if_neg (by omega), h.at h3' (by decide), if_neg (by simp), if_neg h4]
          exact ⟨rfl, by omega⟩
theorem In.esc (h : In l L M k) {p q : Nat} {x : Int} (hn : esc l p = .ok x q) : esc L (k + p) = .ok x (k + q) ∧ q ≤ l.length := by
  unfold T.esc at hn ⊢
  by_cases h1 : T.see l p = 117
  · rw [if_pos h1] at hn
    rw [h.at h1 (by decide), if_pos rfl]
    exact h.num hn
  · rw [if_neg h1] at hn
    by_cases h0 : T.see l p = -1
    · rw [h0, if_neg (by decide), if_neg (by decide), if_pos (.inl rfl)] at hn
      cases hn
    · have hlt := see_ne h0
      rw [h.lt hlt, if_neg h1]
      split at hn
      · rename_i h2; cases hn; rw [if_pos h2]; exact ⟨rfl, by omega⟩
      · rename_i h2
        rw [if_neg h2]
        split at hn
        · rename_i h3; cases hn; rw [if_pos h3]; exact ⟨rfl, by omega⟩
        · rename_i h3
          rw [if_neg h3]
          split at hn
          · cases hn
          · rename_i h4; cases hn; rw [if_neg h4]; exact ⟨rfl, by omega⟩
theorem In.chr (h : In l L M k) {p q : Nat} {x : Int} (hn : chr l p = .ok x q) : chr L (k + p) = .ok x (k + q) ∧ q ≤ l.length ∧ p < l.length := by
  unfold T.chr at hn ⊢
  by_cases h1 : T.see l p = 92
  · rw [if_pos h1] at hn
    rw [h.at h1 (by decide), if_pos rfl]
    have := h.esc hn
    exact ⟨this.1, this.2, see_ne (by rw [h1]; decide)⟩
  · rw [if_neg h1] at hn
    split at hn
    · rename_i h2
      have hlt : p < l.length := see_ne (by intro e; rw [e] at h2; revert h2; decide)
      cases hn
      rw [h.lt hlt, if_neg h1, if_pos h2]
      exact ⟨rfl, by omega, hlt⟩
    · cases hn
theorem In.span (h : In l L M k) {p q : Nat} {x : Sp} (hn : span l p = .ok x q) (hq : q < l.length ∨ M = []) : span L (k + p) = .ok x (k + q) ∧ q ≤ l.length ∧ p < l.length := by
  unfold T.span at hn ⊢
  cases h1 : T.chr l p with
  | bad e r => rw [h1] at hn; cases hn
  | ok lo r =>
    rw [h1] at hn
    obtain ⟨e1, hr, hp⟩ := h.chr h1
    rw [e1]
    simp only at hn ⊢
    by_cases h2 : T.see l r = 45
    · have hr' := see_ne (l := l) (p := r) (by rw [h2]; decide)
      rw [h.lt hr']
      by_cases h3 : T.see l (r + 1) = 91
      · rw [if_pos (.inr h3)] at hn
        rw [show k + r + 1 = k + (r + 1) by omega, h.at h3 (by decide), if_pos (.inr rfl)]
        cases hn
        exact ⟨rfl, hr, hp⟩
      · rw [if_neg (by simp [h2, h3])] at hn
        cases h4 : T.chr l (r + 1) with
        | bad e s => rw [h4] at hn; cases hn
        | ok hi s =>
          rw [h4] at hn
          obtain ⟨e2, hs, hlt⟩ := h.chr h4
          simp only at hn
          rw [show k + r + 1 = k + (r + 1) by omega, h.lt hlt, if_neg (by simp [h2, h3]), e2]
          simp only
          split at hn
          · cases hn
          · rename_i h5; cases hn; rw [if_neg h5]; exact ⟨rfl, hs, hp⟩
    · rw [if_pos (.inl h2)] at hn
      cases hn
      rw [h.see hq, if_pos (.inl h2)]
      exact ⟨rfl, hr, hp⟩
theorem In.cls (h : In l L M k) {p q : Nat} {x : List Sp} (hn : cls l p = .ok x q) (hp : p + 2 ≤ l.length) : cls L (k + p) = .ok x (k + q) ∧ q ≤ l.length := by
  unfold T.cls at hn ⊢
  cases h1 : classOf (T.cut l (p + 2) (skipW ordy l (p + 2))) with
  | none => rw [h1] at hn; cases hn
  | some s =>
    rw [h1] at hn
    simp only at hn
    split at hn
    · cases hn
    · rename_i h2
      have h2' : T.see l (skipW ordy l (p + 2)) = 58 := Classical.byContradiction fun hh => h2 hh
      have hlt := see_ne (l := l) (p := skipW ordy l (p + 2)) (by rw [h2']; decide)
      split at hn
      · cases hn
      · rename_i h3
        have h3' : T.see l (skipW ordy l (p + 2) + 1) = 93 := Classical.byContradiction fun hh => h3 hh
        have hlt3 := see_ne (l := l) (p := skipW ordy l (p + 2) + 1) (by rw [h3']; decide)
        cases hn
        have e1 : skipW ordy L (k + p + 2) = k + skipW ordy l (p + 2) := by rw [Nat.add_assoc]; exact h.skip (by decide) hp (.inl hlt)
        have e2 : T.cut L (k + p + 2) (k + skipW ordy l (p + 2)) = T.cut l (p + 2) (skipW ordy l (p + 2)) := by rw [Nat.add_assoc]; exact h.cut (by omega)
        rw [e1, e2, h1]
        simp only
        rw [h.at h2' (by decide), if_neg (by simp), show k + skipW ordy l (p + 2) + 1 = k + (skipW ordy l (p + 2) + 1) by omega, h.at h3' (by decide), if_neg (by simp)]
        exact ⟨rfl, by omega⟩

/-- what is read within sets -/
def Sub (l : List Int) (sub : Nat → Out (List Sp)) (k : Nat) (sub' : Nat → Out (List Sp)) : Prop := ∀ p t q, sub p = .ok t q → sub' (k + p) = .ok t (k + q) ∧ q ≤ l.length ∧ T.see l p = 91 ∧ p + 1 < q
theorem chr_pos {p q : Nat} {r : Int} (h : T.chr l p = .ok r q) : p < q := by
  unfold T.chr at h
  split at h
  · unfold T.esc at h
    split at h
    · unfold T.num at h
      split at h
      · cases h
      · split at h
        · cases h
        · split at h
          · cases h
          · split at h
            · cases h
            · cases h; have := skipW_ge hexd l (p + 1 + 2); omega
    · split at h
      · cases h; omega
      · split at h
        · cases h; omega
        · split at h
          · cases h
          · cases h; omega
  · split at h
    · cases h; omega
    · cases h
theorem span_pos {p q : Nat} {x : Sp} (h : T.span l p = .ok x q) : p < q := by
  unfold T.span at h
  cases h1 : T.chr l p with
  | bad e r => rw [h1] at h; cases h
  | ok lo r =>
    rw [h1] at h
    have := chr_pos h1
    simp only at h
    split at h
    · cases h; omega
    · cases h2 : T.chr l (r + 1) with
      | bad e s => rw [h2] at h; cases h
      | ok hi s =>
        rw [h2] at h
        have := chr_pos h2
        simp only at h
        split at h
        · cases h
        · cases h; omega
theorem part_pos {sub sub' : Nat → Out (List Sp)} (hs : Sub l sub k sub') {s t : List Sp} {p q : Nat} (h : T.part sub l s p = .ok t q) : p < q := by
  have mk : ∀ {P : Int → Bool} {a b : Nat} {u : List Sp}, made P a = .ok u b → b = a := by
    intro P a b u hm
    unfold made at hm
    split at hm
    · cases hm
    · cases hm; rfl
  have hk := skipW_ge blank l (p + 1)
  unfold T.part at h
  split at h
  · cases h1 : sub (skipW blank l (p + 1)) with
    | bad e r => rw [h1] at h; cases h
    | ok u r => rw [h1] at h; have := (hs _ _ _ h1).2.2.2; have := mk h; omega
  · split at h
    · cases h1 : sub (skipW blank l (p + 1)) with
      | bad e r => rw [h1] at h; cases h
      | ok u r => rw [h1] at h; have := (hs _ _ _ h1).2.2.2; have := mk h; omega
    · split at h
      · cases h1 : T.cls l p with
        | bad e r => rw [h1] at h; cases h
        | ok u r =>
          rw [h1] at h
          have := mk h
          unfold T.cls at h1
          split at h1
          · cases h1
          · split at h1
            · cases h1
            · split at h1
              · cases h1
              · cases h1; have := skipW_ge ordy l (p + 2); omega
      · split at h
        · cases h1 : sub p with
          | bad e r => rw [h1] at h; cases h
          | ok u r => rw [h1] at h; have := (hs _ _ _ h1).2.2.2; have := mk h; omega
        · cases h1 : T.span l p with
          | bad e r => rw [h1] at h; cases h
          | ok u r => rw [h1] at h; have := span_pos h1; have := mk h; omega
theorem In.part (h : In l L M k) {sub sub' : Nat → Out (List Sp)} (hs : Sub l sub k sub') {s t : List Sp} {p q : Nat} (hn : part sub l s p = .ok t q) (hq : q < l.length ∨ M = []) : part sub' L s (k + p) = .ok t (k + q) ∧ q ≤ l.length ∧ p < l.length := by
  have mk : ∀ {P : Int → Bool} {a b : Nat} {u : List Sp}, made P a = .ok u b → made P (k + a) = .ok u (k + b) ∧ b = a := by
    intro P a b u hm
    unfold made at hm ⊢
    split at hm
    · cases hm
    · rename_i h1; cases hm; rw [if_neg h1]; exact ⟨rfl, rfl⟩
  unfold T.part at hn ⊢
  by_cases h1 : T.see l p = 38
  · rw [if_pos h1] at hn
    have hlt := see_ne (l := l) (p := p) (by rw [h1]; decide)
    cases h2 : sub (skipW blank l (p + 1)) with
    | bad e r => rw [h2] at hn; cases hn
    | ok u r =>
      rw [h2] at hn
      obtain ⟨e1, hr, h91, _⟩ := hs _ _ _ h2
      have := see_ne (l := l) (p := skipW blank l (p + 1)) (by rw [h91]; decide)
      obtain ⟨e2, e3⟩ := mk hn
      rw [h.at h1 (by decide), if_pos rfl, Nat.add_assoc, h.skip (by decide) (by omega) (.inl this), e1]
      exact ⟨e2, by omega, hlt⟩
  · rw [if_neg h1] at hn
    by_cases h2 : T.see l p = 45
    · rw [if_pos h2] at hn
      have hlt := see_ne (l := l) (p := p) (by rw [h2]; decide)
      cases h3 : sub (skipW blank l (p + 1)) with
      | bad e r => rw [h3] at hn; cases hn
      | ok u r =>
        rw [h3] at hn
        obtain ⟨e1, hr, h91, _⟩ := hs _ _ _ h3
        have := see_ne (l := l) (p := skipW blank l (p + 1)) (by rw [h91]; decide)
        obtain ⟨e2, e3⟩ := mk hn
        rw [h.at h2 (by decide), if_neg (by decide), if_pos rfl, Nat.add_assoc, h.skip (by decide) (by omega) (.inl this), e1]
        exact ⟨e2, by omega, hlt⟩
    · rw [if_neg h2] at hn
      by_cases h3 : T.see l p = 91 ∧ T.see l (p + 1) = 58
      · rw [if_pos h3] at hn
        have hlt := see_ne (l := l) (p := p + 1) (by rw [h3.2]; decide)
        cases h4 : T.cls l p with
        | bad e r => rw [h4] at hn; cases hn
        | ok u r =>
          rw [h4] at hn
          obtain ⟨e1, hr⟩ := h.cls h4 (by omega)
          obtain ⟨e2, e3⟩ := mk hn
          rw [h.at h3.1 (by decide), if_neg (by decide), if_neg (by decide), Nat.add_assoc, h.at h3.2 (by decide), if_pos ⟨rfl, rfl⟩, e1]
          exact ⟨e2, by omega, by omega⟩
      · rw [if_neg h3] at hn
        by_cases h4 : T.see l p = 91
        · rw [if_pos h4] at hn
          have hlt := see_ne (l := l) (p := p) (by rw [h4]; decide)
          cases h5 : sub p with
          | bad e r => rw [h5] at hn; cases hn
          | ok u r =>
            rw [h5] at hn
            obtain ⟨e1, hr, _, hpr⟩ := hs _ _ _ h5
            obtain ⟨e2, e3⟩ := mk hn
            have hp1 : p + 1 < l.length ∨ M = [] := .inl (by omega)
            have h58 : ¬ (T.see L (k + p) = 91 ∧ T.see L (k + p + 1) = 58) := by
              rw [Nat.add_assoc, h.see hp1]
              exact fun hh => h3 ⟨h4, hh.2⟩
            rw [h.at h4 (by decide)] at h58 ⊢
            rw [if_neg (by decide), if_neg (by decide), if_neg h58, if_pos rfl, e1]
            exact ⟨e2, by omega, hlt⟩
        · rw [if_neg h4] at hn
          cases h5 : T.span l p with
          | bad e r => rw [h5] at hn; cases hn
          | ok u r =>
            rw [h5] at hn
            obtain ⟨e2, e3⟩ := mk hn
            subst e3
            obtain ⟨e1, hr, hlt⟩ := h.span h5 hq
            rw [h.lt hlt, if_neg h1, if_neg h2, if_neg (fun hh => h4 hh.1), if_neg h4, e1]
            exact ⟨e2, hr, hlt⟩
theorem In.loop (h : In l L M k) {sub sub' : Nat → Out (List Sp)} (hs : Sub l sub k sub') : ∀ (f f' : Nat) (s t : List Sp) (p q : Nat), loop f sub l s p = .ok t q → f ≤ f' → loop f' sub' L s (k + p) = .ok t (k + q) ∧ q ≤ l.length ∧ p < l.length ∧ p < q := by
  intro f
  induction f with
  | zero => intro f' s t p q hn; rw [T.loop] at hn; cases hn
  | succ f ih =>
    intro f' s t p q hn hf
    obtain ⟨f', rfl⟩ : ∃ g, f' = g + 1 := ⟨f' - 1, by omega⟩
    rw [T.loop] at hn ⊢
    by_cases h1 : T.see l p = 93
    · rw [if_pos h1] at hn
      cases hn
      have hlt := see_ne (l := l) (p := p) (by rw [h1]; decide)
      rw [h.at h1 (by decide), if_pos rfl]
      exact ⟨rfl, by omega, hlt, by omega⟩
    · rw [if_neg h1] at hn
      cases h2 : T.part sub l s p with
      | bad e r => rw [h2] at hn; cases hn
      | ok u r =>
        rw [h2] at hn
        simp only at hn
        obtain ⟨e3, hq, hlt3, hqq⟩ := ih f' u t (skipW blank l r) q hn (by omega)
        have hge := skipW_ge blank l r
        obtain ⟨e1, hr, hlt⟩ := h.part hs h2 (.inl (by omega))
        rw [h.lt hlt, if_neg h1, e1]
        simp only
        rw [h.skip (by decide) hr (.inl hlt3), e3]
        have := part_pos hs h2
        exact ⟨rfl, hq, hlt, by omega⟩
theorem In.set (h : In l L M k) : ∀ n, Sub l (setN n l) k (setN n L) := by
  intro n
  induction n with
  | zero => intro p t q hn; rw [setN] at hn; split at hn <;> cases hn
  | succ n ih =>
    intro p t q hn
    rw [setN] at hn ⊢
    have hl := h.len
    split at hn
    · cases hn
    · rename_i h1
      have h1' : T.see l p = 91 := Classical.byContradiction fun hh => h1 hh
      have hlt := see_ne (l := l) (p := p) (by rw [h1']; decide)
      rw [h.at h1' (by decide), if_neg (by simp)]
      split at hn
      · rename_i h2
        have hlt2 := see_ne (l := l) (p := p + 1) (by rw [h2]; decide)
        cases h3 : T.loop (l.length + 1) (setN n l) l [] (skipW blank l (p + 2)) with
        | bad e r => rw [h3] at hn; cases hn
        | ok u r =>
          rw [h3] at hn
          obtain ⟨e1, hr, hlt3, hq⟩ := h.loop ih _ (L.length + 1) _ _ _ _ h3 (by omega)
          have hge := skipW_ge blank l (p + 2)
          rw [Nat.add_assoc, h.at h2 (by decide), if_pos rfl, show k + p + 2 = k + (p + 2) by omega, h.skip (by decide) (by omega) (.inl hlt3), e1]
          simp only at hn ⊢
          unfold made at hn ⊢
          split at hn
          · cases hn
          · rename_i h4; cases hn; rw [if_neg h4]; exact ⟨rfl, hr, h1', by omega⟩
      · rename_i h2
        obtain ⟨e1, hr, hlt3, hq⟩ := h.loop ih _ (L.length + 1) _ _ _ _ hn (by omega)
        have hge := skipW_ge blank l (p + 1)
        rw [Nat.add_assoc, h.lt (show p + 1 < l.length by omega), if_neg h2, h.skip (by decide) (by omega) (.inl hlt3), e1]
        exact ⟨rfl, hr, h1', by omega⟩
end

end Go.Proofs.YtajbcgobfkaahaaGreatDoor.T

/-
  Files of rules: what Print writes Read reads: sides, parts, files.
-/
namespace Go.Proofs.YtajbcgobfkaahaaGreatDoor.R
open S (Sp)
open T (Out see skipW cut sits_see sits_next sits_len sits_head sits_tail sits_lt skipW_sits skipW_here)

theorem drop_pos {l m r : List Int} {p : Nat} {a : Int} (h : l.drop p = m ++ a :: r) : p < l.length := by
  apply Classical.byContradiction
  intro hn
  rw [List.drop_eq_nil_of_le (by omega)] at h
  cases m <;> cases h

/-- what stands behind a side -/
def sideEnd (a : Int) : Prop := a = 62 ∨ a = 60 ∨ a = 59
theorem sideEnd.stops {a : Int} (h : sideEnd a) (r : List Int) : stops a r := by
  rcases h with h | h | h
  · exact .inr (.inr (.inl h))
  · exact .inr (.inr (.inr (.inl h)))
  · exact .inr (.inr (.inr (.inr (.inl h))))

def tailR (s : Side) : List Int := (if s.fin = true ∨ 0 < s.after.length then [125, 32] else []) ++ itemsR s.after (-1) ++ (if s.fin = true then [36, 32] else [])
theorem tail_head (s : Side) {a : Int} {r : List Int} (h : sideEnd a) : ∃ b t, tailR s ++ a :: r = b :: t ∧ stops b t ∧ b ≠ 123 ∧ (b = 125 ↔ (s.fin = true ∨ 0 < s.after.length)) := by
  unfold tailR
  by_cases hc : s.fin = true ∨ 0 < s.after.length
  · rw [if_pos hc]
    exact ⟨125, _, rfl, .inr (.inl rfl), by decide, by simp [hc]⟩
  · rw [if_neg hc]
    have h1 : s.after = [] := by
      cases hh : s.after with
      | nil => rfl
      | cons x xs => exact absurd (.inr (by rw [hh]; simp)) hc
    have h2 : ¬ s.fin = true := fun h => hc (.inl h)
    rw [h1, if_neg h2, itemsR, if_neg (by decide)]
    refine ⟨a, r, rfl, h.stops r, ?_, ?_⟩
    · rcases h with rfl | rfl | rfl <;> decide
    · have : a ≠ 125 := by rcases h with rfl | rfl | rfl <;> decide
      simp [this, h2]

theorem tail_read {l r : List Int} {a : Int} {q : Nat} (s : Side) (x y : List Item) (c : Int) (st : Bool) (he : sideEnd a) (h : l.drop q = tailR s ++ a :: r) (ha : itemsE s.after = 0) :
    ∃ q' bs, sideTail l ⟨st, false, x, y, [], c⟩ q = .ok ⟨st, s.fin, x, y, s.after.map bareI, c⟩ q' ∧ l.drop q' = bs ++ a :: r ∧ bl bs := by
  by_cases hc : s.fin = true ∨ 0 < s.after.length
  · unfold tailR at h
    rw [if_pos hc] at h
    have h1 : l.drop q = 125 :: (32 :: (itemsR s.after (-1) ++ (if s.fin = true then [36, 32] else []) ++ a :: r)) := by rw [h]; simp
    have t1 := sits_tail h1
    unfold sideTail
    rw [sits_head h1, if_pos rfl]
    by_cases hf : s.fin = true
    · rw [if_pos hf] at t1
      obtain ⟨q', hi, hd⟩ := items_read (a := 36) (r := 32 :: a :: r) (bs := [32]) (.inr (.inr (.inr (.inr (.inr ⟨rfl, _, rfl⟩))))) (p := q + 1) (l := l) (ys := s.after) (k := -1) (by rw [t1]; simp) bl32 ha (by omega) (by omega)
      rw [hi]
      simp only
      rw [if_neg (by omega), sits_head hd, if_pos rfl, hf]
      exact ⟨q' + 1, [32], rfl, by rw [sits_tail hd]; rfl, bl32⟩
    · rw [if_neg hf] at t1
      obtain ⟨q', hi, hd⟩ := items_read (a := a) (r := r) (bs := [32]) (he.stops r) (p := q + 1) (l := l) (ys := s.after) (k := -1) (by rw [t1]; simp) bl32 ha (by omega) (by omega)
      rw [hi]
      simp only
      have h36 : a ≠ 36 := by rcases he with rfl | rfl | rfl <;> decide
      rw [if_neg (by omega), sits_head hd, if_neg h36]
      have hf' : s.fin = false := by simpa using hf
      rw [hf']
      exact ⟨q', [], rfl, by rw [hd]; rfl, bl_nil⟩
  · obtain ⟨b, t, hb, _, _, h125⟩ := tail_head s (r := r) he
    have h1 : s.after = [] := by
      cases hh : s.after with
      | nil => rfl
      | cons x xs => exact absurd (.inr (by rw [hh]; simp)) hc
    have h2 : s.fin = false := by cases hh : s.fin with
      | false => rfl
      | true => exact absurd (.inl hh) hc
    have hn : ¬ b = 125 := fun e => hc (h125.1 e)
    unfold sideTail
    rw [sits_head (by rw [h, hb]), if_neg hn, h1, h2]
    refine ⟨q, [], rfl, ?_, bl_nil⟩
    rw [h]
    unfold tailR
    rw [h1, h2]
    simp [itemsR]

theorem sideR_eq (s : Side) : sideR s = (if s.start = true then [94, 32] else []) ++ (itemsR s.before (-1) ++ ((if s.start = true ∨ 0 < s.before.length then [123, 32] else []) ++ (itemsR s.source s.cursor ++ tailR s))) := by
  unfold sideR tailR
  simp

theorem side_read {l r bs : List Int} {a : Int} {p : Nat} {s : Side} {m : Bool} (he : sideEnd a) (h : l.drop p = bs ++ (sideR s ++ a :: r)) (hb : bl bs) (hs : sideE s m = 0) :
    ∃ q bs', side l p = .ok (bareS s) q ∧ l.drop q = bs' ++ a :: r ∧ bl bs' := by
  obtain ⟨zb, zs, za, zc, zd⟩ := sideE_zero hs
  obtain ⟨tb, tt, htl, hst, hn123, _⟩ := tail_head s (r := r) he
  rw [sideR_eq] at h
  by_cases hc : s.start = true ∨ 0 < s.before.length
  · rw [if_pos hc] at h
    -- where the items of Before begin
    obtain ⟨b, bs1, hg, hb1, hst1, hd1⟩ : ∃ (b : Nat) (bs1 : List Int), (if decide (see l (gap l p) = 94) = true then gap l p + 1 else gap l p) = b ∧ bl bs1 ∧ decide (see l (gap l p) = 94) = s.start ∧ l.drop b = bs1 ++ (itemsR s.before (-1) ++ 123 :: (32 :: (itemsR s.source s.cursor ++ tailR s ++ a :: r))) := by
      by_cases hs1 : s.start = true
      · rw [if_pos hs1] at h
        have h1 : l.drop p = bs ++ 94 :: (32 :: (itemsR s.before (-1) ++ 123 :: (32 :: (itemsR s.source s.cursor ++ tailR s ++ a :: r)))) := by rw [h]; simp
        have g := gap_at h1 hb (by decide) (by decide)
        have n1 := sits_next h1
        rw [g, sits_head n1]
        exact ⟨_, [32], rfl, bl32, by rw [hs1]; rfl, by simp only [decide_true, if_true]; rw [sits_tail n1]; rfl⟩
      · rw [if_neg hs1] at h
        have h1 : l.drop p = bs ++ (itemsR s.before (-1) ++ 123 :: (32 :: (itemsR s.source s.cursor ++ tailR s ++ a :: r))) := by rw [h]; simp
        obtain ⟨b, t, hbt, n35, _, _, n94, nb⟩ := itemsR_head (ys := s.before) (k := -1) (a := 123) (r := 32 :: (itemsR s.source s.cursor ++ tailR s ++ a :: r)) (itemsE_zero.1 zb).2 (.inl rfl)
        have g := gap_at (m := bs) (a := b) (r := t) (l := l) (p := p) (by rw [h1, hbt]) hb nb n35
        have n1 := sits_next h1
        have hh := sits_head (a := b) (r := t) (by rw [n1, hbt])
        have hs0 : s.start = false := by simpa using hs1
        rw [g, hh, hs0, decide_eq_false n94]
        exact ⟨_, [], rfl, bl_nil, rfl, by simp only [Bool.false_eq_true, if_false]; rw [n1]; rfl⟩
    obtain ⟨q, hi, hdq⟩ := items_read (.inl rfl) hd1 hb1 zb (by omega) (by omega)
    have t1 := sits_tail hdq
    obtain ⟨q2, hi2, hdq2⟩ := items_read (a := tb) (r := tt) (bs := [32]) hst (p := q + 1) (l := l) (ys := s.source) (k := s.cursor) (by rw [t1, ← htl]; simp) bl32 zs zc zd
    obtain ⟨q3, bs3, ht, hd3, hb3⟩ := tail_read s (s.before.map bareI) (s.source.map bareI) s.cursor s.start he (by rw [hdq2, htl]) za
    refine ⟨q3, bs3, ?_, hd3, hb3⟩
    unfold side
    simp only
    rw [hg, hst1, hi]
    simp only
    rw [if_pos (.inr (sits_head hdq)), if_neg (by omega), sits_head hdq, if_neg (by simp), hi2]
    simp only
    rw [ht]
    rfl
  · have hs0 : s.start = false := by cases hh : s.start with
      | false => rfl
      | true => exact absurd (.inl hh) hc
    have hb0 : s.before = [] := by
      cases hh : s.before with
      | nil => rfl
      | cons x xs => exact absurd (.inr (by rw [hh]; simp)) hc
    rw [if_neg hc, if_neg (by rw [hs0]; simp), hb0] at h
    have h1 : l.drop p = bs ++ (itemsR s.source s.cursor ++ tb :: tt) := by rw [h, ← htl]; simp [itemsR]
    obtain ⟨b, t, hbt, n35, _, _, n94, nb⟩ := itemsR_head (ys := s.source) (k := s.cursor) (itemsE_zero.1 zs).2 hst
    have g := gap_at (m := bs) (a := b) (r := t) (l := l) (p := p) (by rw [h1, hbt]) hb nb n35
    have n1 := sits_next h1
    have hh := sits_head (a := b) (r := t) (by rw [n1, hbt])
    obtain ⟨q, hi, hdq⟩ := items_read (bs := []) hst (p := p + bs.length) (l := l) (ys := s.source) (k := s.cursor) (by rw [n1]; rfl) bl_nil zs zc zd
    obtain ⟨q3, bs3, ht, hd3, hb3⟩ := tail_read s [] (s.source.map bareI) s.cursor s.start he (by rw [hdq, htl]) za
    refine ⟨q3, bs3, ?_, hd3, hb3⟩
    unfold side
    simp only
    rw [g, hh, decide_eq_false n94]
    simp only [Bool.false_eq_true, if_false, false_or]
    rw [hi]
    simp only
    rw [if_neg (by rw [sits_head hdq]; exact hn123)]
    rw [hs0] at ht
    rw [ht]
    unfold bareS
    rw [hs0, hb0]
    rfl

theorem dir_read {l r bs : List Int} {p : Nat} {d : Int} (hd : d = 1 ∨ d = 2 ∨ d = 3) (h : l.drop p = bs ++ (arrowR d ++ 32 :: r)) (hb : bl bs) : ∃ q, dirAt l p = .ok d q ∧ l.drop q = 32 :: r := by
  rcases hd with rfl | rfl | rfl
  · have h1 : l.drop p = bs ++ 62 :: (32 :: r) := by rw [h]; rfl
    have g := gap_at h1 hb (by decide) (by decide)
    have n1 := sits_next h1
    refine ⟨_, ?_, sits_tail n1⟩
    unfold dirAt
    simp only
    rw [g, sits_head n1, if_pos rfl]
  · have h1 : l.drop p = bs ++ 60 :: (32 :: r) := by rw [h]; rfl
    have g := gap_at h1 hb (by decide) (by decide)
    have n1 := sits_next h1
    refine ⟨_, ?_, sits_tail n1⟩
    unfold dirAt
    simp only
    rw [g, sits_head n1, if_neg (by decide), if_neg (by simp), sits_head (sits_tail n1), if_neg (by decide)]
  · have h1 : l.drop p = bs ++ 60 :: (62 :: 32 :: r) := by rw [h]; rfl
    have g := gap_at h1 hb (by decide) (by decide)
    have n1 := sits_next h1
    refine ⟨_, ?_, sits_tail (sits_tail n1)⟩
    unfold dirAt
    simp only
    rw [g, sits_head n1, if_neg (by decide), if_neg (by simp), sits_head (sits_tail n1), if_pos rfl]

theorem arrow_head {d : Int} (hd : d = 1 ∨ d = 2 ∨ d = 3) (r : List Int) : ∃ a t, arrowR d ++ 32 :: r = a :: t ∧ sideEnd a := by
  rcases hd with rfl | rfl | rfl
  · exact ⟨62, _, rfl, .inl rfl⟩
  · exact ⟨60, _, rfl, .inr (.inl rfl)⟩
  · exact ⟨60, _, rfl, .inr (.inl rfl)⟩

theorem rule_read {l r : List Int} {p : Nat} {x : Part} (h : l.drop p = sideR x.left ++ (arrowR x.dir ++ [32]) ++ sideR x.right ++ 59 :: r) (hx : ruleE x = 0) :
    ∃ q bs', rule l p = .ok ⟨2, ⟨#[]⟩, [], x.dir, bareS x.left, bareS x.right⟩ q ∧ l.drop q = bs' ++ 59 :: r ∧ bl bs' := by
  obtain ⟨hd, hl, hr, _⟩ := ruleE_zero hx
  obtain ⟨a, t, hat, hae⟩ := arrow_head hd (sideR x.right ++ 59 :: r)
  obtain ⟨q1, b1, e1, d1, hb1⟩ := side_read (bs := []) hae (l := l) (p := p) (s := x.left) (r := t) (by rw [h, ← hat]; simp) bl_nil hl
  obtain ⟨q2, e2, d2⟩ := dir_read hd (l := l) (p := q1) (bs := b1) (r := sideR x.right ++ 59 :: r) (by rw [d1, hat]) hb1
  obtain ⟨q3, b3, e3, d3, hb3⟩ := side_read (bs := [32]) (.inr (.inr rfl)) (l := l) (p := q2) (s := x.right) (r := r) (by rw [d2]; rfl) bl32 hr
  refine ⟨q3, b3, ?_, d3, hb3⟩
  unfold rule
  rw [e1]
  simp only
  rw [e2]
  simp only
  rw [e3]

/-- where a rule begins nothing else does -/
theorem items_first {l r : List Int} {a : Int} (hs : stops a r) {ys : List Item} {k : Int} {p : Nat} (hy : ∀ x ∈ ys, itemE x = 0) (h : l.drop p = itemsR ys k ++ a :: r) :
    see l p ≠ 58 ∧ (varNext l p = true → ∃ n q, varAt l p = .ok n q ∧ see l (gap l q) ≠ 61) := by
  obtain ⟨b, t, hbt, _, _, n58, _, _⟩ := itemsR_head (k := k) hy hs
  have hh := sits_head (a := b) (r := t) (by rw [h, hbt])
  refine ⟨by rw [hh]; exact n58, fun hv => ?_⟩
  have hv36 : b = 36 := by unfold varNext at hv; rw [hh, Bool.and_eq_true] at hv; exact of_decide_eq_true hv.1
  subst hv36
  cases ys with
  | nil =>
    rw [itemsR] at hbt h
    by_cases hk : k = 0
    · rw [if_pos hk] at hbt; cases hbt
    · rw [if_neg hk] at hbt h
      have := (item_stop (l := l) (p := p) (a := a) (r := r) (by rw [h]; rfl) hs).1
      have e : a = 36 := by cases hbt; rfl
      rcases hs with rfl | rfl | rfl | rfl | rfl | ⟨rfl, r', rfl⟩
      · cases e
      · cases e
      · cases e
      · cases e
      · cases e
      · have h2 := sits_head (a := 32) (r := r') (sits_tail (a := 36) (by rw [h]; rfl))
        unfold varNext at hv
        rw [h2, Bool.and_eq_true] at hv
        exact absurd hv.2 (by decide)
  | cons x ys =>
    rw [itemsR] at hbt h
    by_cases hk : k = 0
    · rw [if_pos hk] at hbt; cases hbt
    · rw [if_neg hk] at hbt h
      rcases itemE_cases (hy x (by simp)) with ⟨h1, h2⟩ | ⟨h1, h2⟩ | ⟨h1, h2⟩
      · have e : itemR x = T.quoR x.rune := by unfold itemR; rw [if_neg (by omega), if_neg (by omega)]
        obtain ⟨c, u, hc, hf⟩ := T.quoR_cons (r := x.rune)
        rw [e, hc] at hbt
        have : c = 36 := by cases hbt; rfl
        rcases hf with hf | hf
        · omega
        · have := T.plain_cases hf; omega
      · have e : itemR x = T.prtR x.set := by unfold itemR; rw [if_pos h1]
        obtain ⟨c, u, hc, _⟩ := T.prtR_head x.set
        rw [e, hc] at hbt
        cases hbt
      · have e : itemR x = 36 :: nameR x.name := by unfold itemR; rw [if_neg (by omega), if_pos h1]
        have h3 : l.drop p = 36 :: nameR x.name ++ 32 :: (itemsR ys (k - 1) ++ a :: r) := by rw [h, e]; simp
        obtain ⟨_, hva⟩ := varAt_named h3 h2
        refine ⟨_, _, hva, ?_⟩
        have hn : l.drop (p + 1 + (nameR x.name).length) = 32 :: (itemsR ys (k - 1) ++ a :: r) := sits_next (sits_tail (a := 36) (by simpa using h3))
        obtain ⟨c, u, hcu, m35, m61, _, _, mb⟩ := itemsR_head (ys := ys) (k := k - 1) (fun y hy' => hy y (List.mem_cons_of_mem _ hy')) hs
        have g := gap_at (m := [32]) (a := c) (r := u) (l := l) (p := p + 1 + (nameR x.name).length) (by rw [hn, hcu]; rfl) bl32 mb m35
        have n1 := sits_head (a := c) (r := u) (by rw [sits_tail hn, hcu])
        rw [g, List.length_singleton, n1]
        exact m61

theorem rule_first {l r : List Int} {p : Nat} {x : Part} (h : l.drop p = sideR x.left ++ (arrowR x.dir ++ [32]) ++ sideR x.right ++ 59 :: r) (hx : ruleE x = 0) :
    see l p ≠ 58 ∧ (varNext l p = true → ∃ n q, varAt l p = .ok n q ∧ see l (gap l q) ≠ 61) := by
  obtain ⟨hd, hl, hr, _⟩ := ruleE_zero hx
  obtain ⟨a, t, hat, hae⟩ := arrow_head hd (sideR x.right ++ 59 :: r)
  obtain ⟨zb, zs, za, zc, zd⟩ := sideE_zero hl
  have h' : l.drop p = sideR x.left ++ a :: t := by rw [h, ← hat]; simp
  obtain ⟨tb, tt, htl, hst, _, _⟩ := tail_head x.left (r := t) hae
  rw [sideR_eq] at h'
  by_cases hs1 : x.left.start = true
  · rw [if_pos hs1] at h'
    have hh := sits_head (a := 94) (l := l) (p := p) (by rw [h']; rfl)
    refine ⟨by rw [hh]; decide, fun hv => ?_⟩
    unfold varNext at hv
    rw [hh] at hv
    exact absurd hv (by simp)
  · rw [if_neg hs1] at h'
    by_cases hb : 0 < x.left.before.length
    · rw [if_pos (.inr hb)] at h'
      exact items_first (a := 123) (r := 32 :: (itemsR x.left.source x.left.cursor ++ tailR x.left ++ a :: t)) (.inl rfl) (ys := x.left.before) (k := -1) (itemsE_zero.1 zb).2 (by rw [h']; simp)
    · have hb0 : x.left.before = [] := by
        cases hh : x.left.before with
        | nil => rfl
        | cons y ys => exact absurd (by rw [hh]; simp) hb
      rw [if_neg (by simp [hs1, hb0]), hb0] at h'
      exact items_first hst (ys := x.left.source) (k := x.left.cursor) (itemsE_zero.1 zs).2 (by rw [h', ← htl]; simp [itemsR])

theorem set_read {l rest : List Int} {p : Nat} {s : List Sp} (h : l.drop p = T.prtR s ++ rest) (hw : S.wrongE s = 0) : see l p = 91 ∧ T.setN 20 l p = .ok s (p + (T.prtR s).length) := by
  obtain ⟨hl, hn⟩ := S.wrongE_zero.1 hw
  obtain ⟨a, t, ha, _⟩ := T.prtR_head s
  have hs := sits_head (a := 91) (r := a :: t ++ rest) (by rw [h, ha]; rfl)
  have hlt := sits_lt (a := 91) (r := a :: t ++ rest) (by rw [h, ha]; rfl)
  have hlong := T.prt_long s
  have hlen := sits_len h (by omega)
  have hsz : (T.prtR s).length = (T.innerR s).length + 2 := by simp [T.prtR]
  exact ⟨hs, T.set_prt (n := 19) h hn hl (by omega)⟩

theorem part_read {l r : List Int} {p : Nat} {x : Part} (h : l.drop p = wordsR x ++ 59 :: r) (hx : partE x = 0) :
    ∃ q bs', part l p = .ok (bareP x) q ∧ l.drop q = bs' ++ 59 :: r ∧ bl bs' := by
  rcases partE_cases hx with ⟨h1, h2, h3⟩ | ⟨h1, h3⟩ | ⟨h1, h2⟩ | ⟨h1, h2⟩
  · unfold wordsR at h
    rw [if_pos h1] at h
    have hA : l.drop p = 36 :: nameR x.name ++ 32 :: (61 :: 32 :: (T.prtR x.set ++ 32 :: 59 :: r)) := by rw [h]; simp
    obtain ⟨hv, hva⟩ := varAt_named hA h2
    have h36 := sits_head (a := 36) (l := l) (p := p) (by rw [hA]; rfl)
    have n1 : l.drop (p + 1 + (nameR x.name).length) = 32 :: (61 :: 32 :: (T.prtR x.set ++ 32 :: 59 :: r)) := sits_next (sits_tail (a := 36) (by simpa using hA))
    have g1 := gap_at (m := [32]) (a := 61) (l := l) (p := p + 1 + (nameR x.name).length) (by rw [n1]; rfl) bl32 (by decide) (by decide)
    have t1 := sits_tail n1
    have t2 := sits_tail t1
    have t3 := sits_tail t2
    obtain ⟨h91, hset⟩ := set_read t3 h3
    obtain ⟨a, t, ha, _⟩ := T.prtR_head x.set
    have g2 := gap_at (m := [32]) (a := 91) (r := a :: t ++ 32 :: 59 :: r) (l := l) (p := p + 1 + (nameR x.name).length + 1 + 1) (by rw [t2, ha]; rfl) bl32 (by decide) (by decide)
    refine ⟨_, [32], ?_, by rw [sits_next t3]; rfl, bl32⟩
    unfold part
    rw [h36, if_neg (by decide), hv, if_pos rfl, hva]
    simp only
    rw [g1, List.length_singleton, sits_head t1, if_pos rfl, g2, List.length_singleton, hset]
    simp only
    unfold bareP
    simp [h1]
  · unfold wordsR at h
    rw [if_neg (by omega), if_pos h1] at h
    have hA : l.drop p = 58 :: 58 :: 32 :: (T.prtR x.set ++ 32 :: 59 :: r) := by rw [h]; simp
    have t1 := sits_tail hA
    have t2 := sits_tail t1
    have t3 := sits_tail t2
    obtain ⟨h91, hset⟩ := set_read t3 h3
    obtain ⟨a, t, ha, _⟩ := T.prtR_head x.set
    have g2 := gap_at (m := [32]) (a := 91) (r := a :: t ++ 32 :: 59 :: r) (l := l) (p := p + 1 + 1) (by rw [t2, ha]; rfl) bl32 (by decide) (by decide)
    refine ⟨_, [32], ?_, by rw [sits_next t3]; rfl, bl32⟩
    unfold part
    rw [sits_head hA, if_pos rfl, sits_head t1, if_neg (by simp), show p + 2 = p + 1 + 1 from rfl, g2, List.length_singleton]
    unfold wholeAt
    rw [h91, if_pos rfl, hset]
    simp only
    unfold bareP
    simp [h1]
  · unfold wordsR at h
    rw [if_neg (by omega), if_neg (by omega), if_pos h1] at h
    have hA : l.drop p = 58 :: 58 :: 32 :: (nameR x.name ++ 32 :: 59 :: r) := by rw [h]; simp
    have t1 := sits_tail hA
    have t2 := sits_tail t1
    have t3 := sits_tail t2
    obtain ⟨hall, hf⟩ := passes_named h2
    obtain ⟨e1, e2⟩ := word_at t3 hall hf
    rw [bytes_nameR] at e2
    obtain ⟨a, t, ha, hla⟩ := hf
    have hh := sits_head (a := a) (r := t ++ 32 :: 59 :: r) (by rw [t3, ha]; rfl)
    have hw := wordy_small (letter_wordy hla)
    have hl2 : 95 ≤ a := by
      unfold letter at hla
      simp only [Bool.or_eq_true, Bool.and_eq_true, decide_eq_true_eq] at hla
      omega
    have hbk : T.blank a = false := by
      have hb : T.blank a = false ↔ ¬ (a = 32 ∨ a = 9 ∨ a = 10) := by simp [T.blank, T.blanks]
      rw [hb]; omega
    have g2 := gap_at (m := [32]) (a := a) (r := t ++ 32 :: 59 :: r) (l := l) (p := p + 1 + 1) (by rw [t2, ha]; rfl) bl32 hbk (by omega)
    refine ⟨_, [32], ?_, by rw [sits_next t3]; rfl, bl32⟩
    unfold part
    rw [sits_head hA, if_pos rfl, sits_head t1, if_neg (by simp), show p + 2 = p + 1 + 1 from rfl, g2, List.length_singleton]
    unfold wholeAt
    rw [hh, if_neg (by omega), e2, if_pos h2, e1]
    unfold bareP
    simp [h1]
  · unfold wordsR at h
    rw [if_neg (by omega), if_neg (by omega), if_neg (by omega), if_pos h1] at h
    obtain ⟨f58, fv⟩ := rule_first h h2
    obtain ⟨q, bs', hr, hd, hb⟩ := rule_read h h2
    refine ⟨q, bs', ?_, hd, hb⟩
    have hbare : bareP x = ⟨2, ⟨#[]⟩, [], x.dir, bareS x.left, bareS x.right⟩ := by unfold bareP; simp [h1]
    rw [hbare]
    unfold part
    rw [if_neg f58]
    by_cases hv : varNext l p = true
    · obtain ⟨n, q', hva, h61⟩ := fv hv
      rw [if_pos hv, hva]
      simp only
      rw [if_neg h61, hr]
    · rw [if_neg hv, hr]

/-! what is bare is right if it was -/
theorem bareI_ok {x : Item} (h : itemE x = 0) : itemE (bareI x) = 0 ∧ (bareI x).kind = x.kind := by
  rcases itemE_cases h with ⟨h1, h2⟩ | ⟨h1, h2⟩ | ⟨h1, h2⟩
  · unfold bareI; rw [if_pos h1]; exact ⟨by simp [itemE, runeI, h2], by rw [h1]; rfl⟩
  · unfold bareI; rw [if_neg (by omega), if_pos h1]; exact ⟨by simp [itemE, setI, h2], by rw [h1]; rfl⟩
  · unfold bareI; rw [if_neg (by omega), if_neg (by omega), if_pos h1]; exact ⟨by simp [itemE, varI, h2], by rw [h1]; rfl⟩
theorem bareItems_ok {l : List Item} (h : itemsE l = 0) : itemsE (l.map bareI) = 0 := by
  obtain ⟨h1, h2⟩ := itemsE_zero.1 h
  refine itemsE_zero.2 ⟨by simpa using h1, fun x hx => ?_⟩
  obtain ⟨y, hy, rfl⟩ := List.mem_map.1 hx
  exact (bareI_ok (h2 y hy)).1
theorem bareS_ok {s : Side} {m : Bool} (h : sideE s m = 0) : sideE (bareS s) m = 0 := by
  obtain ⟨zb, zs, za, zc, zd⟩ := sideE_zero h
  unfold sideE at h ⊢
  have e1 : (bareS s).before = s.before.map bareI := rfl
  have e2 : (bareS s).source = s.source.map bareI := rfl
  have e3 : (bareS s).after = s.after.map bareI := rfl
  have e4 : (bareS s).cursor = s.cursor := rfl
  rw [zb, zs, za] at h
  rw [e1, e2, e3, e4, bareItems_ok zb, bareItems_ok zs, bareItems_ok za, List.length_map]
  exact h
theorem bare_gives {s : Side} (h : itemsE s.source = 0) : gives (bareS s) = gives s := by
  obtain ⟨_, h2⟩ := itemsE_zero.1 h
  unfold gives
  show (s.source.map bareI).all _ = _
  rw [List.all_map]
  generalize s.source = l at h2
  induction l with
  | nil => rfl
  | cons x l ih =>
    simp only [List.all_cons, Function.comp]
    rw [(bareI_ok (h2 x (by simp))).2]
    have := ih fun y hy => h2 y (List.mem_cons_of_mem _ hy)
    exact congrArg _ this
theorem bare_around (s : Side) : around (bareS s) = around s := by
  unfold around
  simp [bareS]
theorem bareP_ok {x : Part} (h : partE x = 0) : partE (bareP x) = 0 := by
  rcases partE_cases h with ⟨h1, h2, h3⟩ | ⟨h1, h3⟩ | ⟨h1, h2⟩ | ⟨h1, h2⟩
  · unfold partE bareP; simp [h1, h2, h3]
  · unfold partE bareP; simp [h1, h3]
  · unfold partE bareP; simp [h1, h2]
  · have hbare : bareP x = ⟨2, ⟨#[]⟩, [], x.dir, bareS x.left, bareS x.right⟩ := by unfold bareP; simp [h1]
    obtain ⟨hd, hl, hr, hf⟩ := ruleE_zero h2
    have zl := sideE_zero hl
    have zr := sideE_zero hr
    have hf' : fits (bareP x) = true := by
      rw [← hf, hbare]
      unfold fits
      simp only
      rw [bare_gives zl.2.1, bare_gives zr.2.1, bare_around, bare_around]
      rfl
    rw [hbare] at hf' ⊢
    unfold partE
    simp only
    rw [if_neg (by decide), if_neg (by decide), if_neg (by decide), if_pos trivial]
    unfold ruleE
    simp only
    rw [if_neg (by omega), if_neg (by rw [bareS_ok hl]; simp), if_neg (by rw [bareS_ok hr]; simp), if_pos hf']

theorem ended_read {l r : List Int} {p : Nat} {x : Part} (h : l.drop p = partR x ++ r) (hx : partE x = 0) : ∃ q, ended l p = .ok (bareP x) q ∧ l.drop q = 10 :: r := by
  have h' : l.drop p = wordsR x ++ 59 :: 10 :: r := by rw [h]; simp [partR]
  obtain ⟨q, bs, hp, hd, hb⟩ := part_read h' hx
  have g := gap_at hd hb (by decide) (by decide)
  have n1 := sits_next hd
  refine ⟨_, ?_, sits_tail n1⟩
  unfold ended
  rw [hp]
  simp only
  rw [g, sits_head n1, if_neg (by simp), bareP_ok hx, if_neg (by simp)]

theorem partR_head {x : Part} (hx : partE x = 0) (r : List Int) : ∃ b t, partR x ++ r = b :: t ∧ b ≠ 35 ∧ b ≠ -1 ∧ T.blank b = false := by
  rcases partE_cases hx with ⟨h1, h2, h3⟩ | ⟨h1, h3⟩ | ⟨h1, h2⟩ | ⟨h1, h2⟩
  · unfold partR wordsR; rw [if_pos h1]; exact ⟨36, _, rfl, by decide⟩
  · unfold partR wordsR; rw [if_neg (by omega), if_pos h1]; exact ⟨58, _, rfl, by decide⟩
  · unfold partR wordsR; rw [if_neg (by omega), if_neg (by omega), if_pos h1]; exact ⟨58, _, rfl, by decide⟩
  · unfold partR wordsR
    rw [if_neg (by omega), if_neg (by omega), if_neg (by omega), if_pos h1]
    obtain ⟨hd, hl, hr, _⟩ := ruleE_zero h2
    obtain ⟨a, t, hat, hae⟩ := arrow_head hd (sideR x.right ++ 59 :: 10 :: r)
    obtain ⟨zb, zs, za, zc, zd⟩ := sideE_zero hl
    obtain ⟨tb, tt, htl, hst, _, _⟩ := tail_head x.left (r := t) hae
    have e : sideR x.left ++ (arrowR x.dir ++ [32]) ++ sideR x.right ++ [59, 10] ++ r = sideR x.left ++ a :: t := by rw [← hat]; simp
    rw [e, sideR_eq]
    have fin : ∀ {b : Int}, b ≠ 35 → T.blank b = false → b ≠ 61 → b ≠ 58 → b ≠ 94 → b ≠ -1 ∨ b = -1 := fun _ _ _ _ _ => by omega
    by_cases hs1 : x.left.start = true
    · rw [if_pos hs1]; exact ⟨94, _, rfl, by decide⟩
    · rw [if_neg hs1]
      by_cases hb : 0 < x.left.before.length
      · rw [if_pos (.inr hb)]
        cases hh : x.left.before with
        | nil => rw [hh] at hb; simp at hb
        | cons y ys =>
          obtain ⟨b, u, hbu, hf⟩ := itemR_head ((itemsE_zero.1 zb).2 y (by rw [hh]; simp))
          have hn := itemR_not hf
          rw [itemsR, if_neg (by decide), hbu]
          refine ⟨b, _, rfl, hn.2.1, ?_, hn.2.2.2.2.2.2.2⟩
          rcases hf with rfl | hf | rfl | rfl
          · decide
          · have := T.plain_cases hf; omega
          · decide
          · decide
      · have hb0 : x.left.before = [] := by
          cases hh : x.left.before with
          | nil => rfl
          | cons y ys => exact absurd (by rw [hh]; simp) hb
        rw [if_neg (by simp [hs1, hb0]), hb0]
        have e2 : ([] : List Int) ++ (itemsR [] (-1) ++ ([] ++ (itemsR x.left.source x.left.cursor ++ tailR x.left))) ++ a :: t = itemsR x.left.source x.left.cursor ++ tb :: tt := by rw [← htl]; simp [itemsR]
        rw [e2]
        cases hh : x.left.source with
        | nil =>
          rw [itemsR]
          by_cases hk : x.left.cursor = 0
          · rw [if_pos hk]; exact ⟨124, _, rfl, by decide⟩
          · rw [if_neg hk]
            refine ⟨tb, tt, rfl, ?_⟩
            rcases hst with rfl | rfl | rfl | rfl | rfl | ⟨rfl, _⟩ <;> decide
        | cons y ys =>
          rw [itemsR]
          by_cases hk : x.left.cursor = 0
          · rw [if_pos hk]; exact ⟨124, _, rfl, by decide⟩
          · obtain ⟨b, u, hbu, hf⟩ := itemR_head ((itemsE_zero.1 zs).2 y (by rw [hh]; simp))
            have hn := itemR_not hf
            rw [if_neg hk, hbu]
            refine ⟨b, _, rfl, hn.2.1, ?_, hn.2.2.2.2.2.2.2⟩
            rcases hf with rfl | hf | rfl | rfl
            · decide
            · have := T.plain_cases hf; omega
            · decide
            · decide

theorem parts_go {l : List Int} : ∀ (ys xs : List Part) (f p : Nat) (bs : List Int), l.drop p = bs ++ printR ys → p ≤ l.length → bl bs → (∀ x ∈ ys, partE x = 0) → xs.length + ys.length ≤ 200 → ys.length < f →
    ∃ q, partsN f l xs (gap l p) = .ok (xs ++ ys.map bareP) q := by
  intro ys
  induction ys with
  | nil =>
    intro xs f p bs h hp hb _ _ hf
    obtain ⟨f, rfl⟩ : ∃ g, f = g + 1 := ⟨f - 1, by simp at hf; omega⟩
    have g := gap_end (m := bs) (l := l) (p := p) (by rw [h]; simp [printR]) hp hb
    rw [g, partsN, T.see_ge (Nat.le_refl _), if_pos rfl]
    exact ⟨l.length, by simp⟩
  | cons y ys ih =>
    intro xs f p bs h hp hb hy hl hf
    obtain ⟨f, rfl⟩ : ∃ g, f = g + 1 := ⟨f - 1, by simp at hf; omega⟩
    have e : printR (y :: ys) = partR y ++ printR ys := by simp [printR]
    rw [e] at h
    obtain ⟨b, t, hbt, n35, nm, nb⟩ := partR_head (hy y (by simp)) (printR ys)
    have g := gap_at (m := bs) (a := b) (r := t) (l := l) (p := p) (by rw [h, hbt]) hb nb n35
    have n1 := sits_next h
    have hh := sits_head (a := b) (r := t) (by rw [n1, hbt])
    obtain ⟨q, hq, hdq⟩ := ended_read n1 (hy y (by simp))
    simp only [List.length_cons] at hl hf
    obtain ⟨q', hq'⟩ := ih (xs ++ [bareP y]) f q [10] (by rw [hdq]; rfl) (Nat.le_of_lt (sits_lt hdq)) bl10 (fun x hx => hy x (List.mem_cons_of_mem _ hx)) (by simp; omega) (by omega)
    refine ⟨q', ?_⟩
    rw [g, partsN, hh, if_neg nm, if_neg (by omega), hq]
    simp only
    rw [hq']
    simp

/-- what is written is read -/
theorem read_print {ys : List Part} (hy : ∀ x ∈ ys, partE x = 0) (h200 : ys.length ≤ 200) (hl : (printR ys).length ≤ 16000) : ∃ q, read (printR ys) = .ok (ys.map bareP) q := by
  obtain ⟨q, hq⟩ := parts_go ys [] 202 0 [] (l := printR ys) rfl (Nat.zero_le _) bl_nil hy (by simpa using h200) (by omega)
  refine ⟨q, ?_⟩
  unfold read parts
  rw [if_neg (by omega), hq]
  rfl

end Go.Proofs.YtajbcgobfkaahaaGreatDoor.R

/-
  Files of rules: two files one behind the other.
-/
namespace Go.Proofs.YtajbcgobfkaahaaGreatDoor.R
open S (Sp)
open T (Out see skipW cut In see_ne)

section
variable {l L M : List Int} {k : Nat}

theorem gapN_ge (l : List Int) : ∀ (f p : Nat), p ≤ gapN f l p := by
  intro f
  induction f with
  | zero => intro p; exact Nat.le_refl _
  | succ f ih =>
    intro p
    rw [gapN]
    have h1 := T.skipW_ge T.blank l p
    split
    · have h2 := ih (skipW notNl l (skipW T.blank l p + 1))
      have h3 := T.skipW_ge notNl l (skipW T.blank l p + 1)
      omega
    · exact h1
theorem gap_ge' (l : List Int) (p : Nat) : p ≤ gap l p := gapN_ge l _ p
theorem gapN_in (h : In l L M k) : ∀ (f f' p : Nat), l.length < p + f → L.length < k + p + f' → p ≤ l.length → (gapN f l p < l.length ∨ M = []) → gapN f' L (k + p) = k + gapN f l p := by
  intro f
  induction f with
  | zero => intro f' p h1 h2 h3; omega
  | succ f ih =>
    intro f' p h1 h2 h3 h4
    have hl := h.len
    obtain ⟨f', rfl⟩ : ∃ g, f' = g + 1 := ⟨f' - 1, by omega⟩
    have hge := T.skipW_ge T.blank l p
    rw [gapN] at h4 ⊢
    rw [gapN]
    by_cases h35 : see l (skipW T.blank l p) = 35
    · have hlt := see_ne (l := l) (p := skipW T.blank l p) (by rw [h35]; decide)
      rw [if_pos h35] at h4 ⊢
      rw [h.skip (by decide) h3 (.inl hlt), h.at h35 (by decide), if_pos rfl]
      have hge2 := T.skipW_ge notNl l (skipW T.blank l p + 1)
      have hge3 := gapN_ge l f (skipW notNl l (skipW T.blank l p + 1))
      have hle := T.skipW_le (f := notNl) (l := l) (p := skipW T.blank l p + 1) (by omega)
      have e : skipW notNl L (k + skipW T.blank l p + 1) = k + skipW notNl l (skipW T.blank l p + 1) := by
        rw [Nat.add_assoc]
        refine h.skip (by decide) (by omega) ?_
        rcases h4 with h4 | h4
        · exact .inl (by omega)
        · exact .inr h4
      rw [e]
      exact ih f' _ (by omega) (by omega) hle h4
    · rw [if_neg h35] at h4 ⊢
      rw [h.skip (by decide) h3 h4, h.see h4, if_neg h35]
theorem gap_in (h : In l L M k) {p : Nat} (hp : p ≤ l.length) (hq : gap l p < l.length ∨ M = []) : gap L (k + p) = k + gap l p :=
  gapN_in h _ _ p (by omega) (by have := h.len; omega) hp hq
theorem gap_le' {p : Nat} (hp : p ≤ l.length) : gap l p ≤ l.length := by
  unfold gap
  generalize l.length + 1 = f
  induction f generalizing p with
  | zero => exact hp
  | succ f ih =>
    rw [gapN]
    have h1 := T.skipW_le (f := T.blank) hp
    split
    · rename_i h35
      exact ih (T.skipW_le (see_ne (by rw [h35]; decide)))
    · exact h1
theorem gap_see (l : List Int) {p : Nat} (h : T.blank (see l p) = false) (h35 : see l p ≠ 35) : gap l p = p := by
  have e : skipW T.blank l p = p := by
    by_cases hp : p ≤ l.length
    · exact T.skipW_here hp (by decide) h
    · unfold skipW; rw [List.drop_eq_nil_of_le (by omega)]; rfl
  unfold gap gapN
  rw [e, if_neg h35]

/-- q is inside, or nothing follows -/
def Ok (l M : List Int) (q : Nat) : Prop := q < l.length ∨ M = []
theorem Ok.le {q q' : Nat} (h : Ok l M q') (hq : q ≤ q') : Ok l M q := by
  rcases h with h | h
  · exact .inl (by omega)
  · exact .inr h
/-- no sign of an end that might be a variable's -/
def Ok2 (l M : List Int) (q : Nat) : Prop := Ok l M q ∧ (see l q = 36 → Ok l M (q + 1))

theorem wordEnd_ge (l : List Int) (p : Nat) : p ≤ wordEnd l p := by
  unfold wordEnd
  split
  · exact T.skipW_ge _ _ _
  · exact Nat.le_refl _
theorem wordEnd_le {p : Nat} (hp : p ≤ l.length) : wordEnd l p ≤ l.length := by
  unfold wordEnd
  split
  · exact T.skipW_le hp
  · exact hp
theorem word_in (h : In l L M k) {p : Nat} (hp : p ≤ l.length) (hq : Ok l M (wordEnd l p)) : wordEnd L (k + p) = k + wordEnd l p ∧ wordAt L (k + p) = wordAt l p := by
  have hge := wordEnd_ge l p
  have e : wordEnd L (k + p) = k + wordEnd l p := by
    have hs := h.see (hq.le hge)
    unfold wordEnd at hq ⊢
    rw [hs]
    split
    · rename_i h1
      rw [if_pos h1] at hq
      exact h.skip (by decide) hp hq
    · rfl
  refine ⟨e, ?_⟩
  unfold wordAt
  rw [e, h.cut (wordEnd_le hp)]
theorem varAt_in (h : In l L M k) {p q : Nat} {n : ByteArray} (hn : varAt l p = .ok n q) (hp : p < l.length) (hq : Ok l M q) : varAt L (k + p) = .ok n (k + q) ∧ p < q ∧ q ≤ l.length := by
  unfold varAt at hn ⊢
  split at hn
  · rename_i h1
    cases hn
    obtain ⟨e1, e2⟩ := word_in h (p := p + 1) (by omega) hq
    have := wordEnd_ge l (p + 1)
    rw [Nat.add_assoc, e1, e2, if_pos h1]
    exact ⟨rfl, by omega, wordEnd_le (by omega)⟩
  · cases hn
theorem varNext_in (h : In l L M k) {p : Nat} (hp : Ok l M p) (h36 : see l p = 36 → Ok l M (p + 1)) : varNext L (k + p) = varNext l p := by
  unfold varNext
  rw [h.see hp]
  by_cases hh : see l p = 36
  · rw [Nat.add_assoc, h.see (h36 hh)]
  · rw [decide_eq_false hh]; rfl

theorem item_in (h : In l L M k) {p q : Nat} {o : Option (List Item)} (hn : item l p = .ok o q) (hp : p ≤ l.length) (hq : Ok2 l M q) : item L (k + p) = .ok o (k + q) ∧ q ≤ l.length ∧ p ≤ q ∧ (o ≠ none → p < q) := by
  have hs := h.set 20
  unfold item at hn
  by_cases h91 : see l p = 91
  · rw [if_pos h91] at hn
    cases h1 : T.setN 20 l p with
    | bad e r => rw [h1] at hn; cases hn
    | ok s r =>
      rw [h1] at hn
      cases hn
      obtain ⟨e1, hr, _, hpr⟩ := hs _ _ _ h1
      unfold item
      rw [h.at h91 (by decide), if_pos rfl, e1]
      exact ⟨rfl, hr, by omega, fun _ => by omega⟩
  · rw [if_neg h91] at hn
    by_cases hv : varNext l p = true
    · rw [if_pos hv] at hn
      have h36 : see l p = 36 := by unfold varNext at hv; rw [Bool.and_eq_true] at hv; exact of_decide_eq_true hv.1
      have hlt := see_ne (l := l) (p := p) (by rw [h36]; decide)
      cases h1 : varAt l p with
      | bad e r => rw [h1] at hn; cases hn
      | ok n r =>
        rw [h1] at hn
        cases hn
        obtain ⟨e1, hpr, hr⟩ := varAt_in h h1 hlt hq.1
        unfold item
        rw [h.lt hlt, if_neg h91, varNext_in h (.inl hlt) (fun _ => hq.1.le (by omega)), if_pos hv, e1]
        exact ⟨rfl, hr, by omega, fun _ => hpr⟩
    · rw [if_neg hv] at hn
      by_cases h39 : see l p = 39
      · rw [if_pos h39] at hn
        have hlt := see_ne (l := l) (p := p) (by rw [h39]; decide)
        split at hn
        · rename_i h2
          have hlt2 := see_ne (l := l) (p := skipW notQuo l (p + 1)) (by rw [h2]; decide)
          have hge := T.skipW_ge notQuo l (p + 1)
          cases hn
          unfold item
          rw [h.lt hlt, if_neg h91, varNext_in h (.inl hlt) (fun e => by rw [h39] at e; cases e), if_neg hv, if_pos h39, Nat.add_assoc, h.skip (by decide) (by omega) (.inl hlt2), h.at h2 (by decide), if_pos rfl, h.cut (by omega)]
          exact ⟨rfl, by omega, by omega, fun _ => by omega⟩
        · cases hn
      · rw [if_neg h39] at hn
        by_cases hc : see l p = 92 ∨ T.ordy (see l p) = true
        · rw [if_pos hc] at hn
          have hlt : p < l.length := see_ne (by intro e; rw [e] at hc; revert hc; decide)
          have hn36 : see l p ≠ 36 := by intro e; rw [e] at hc; revert hc; decide
          cases h1 : T.chr l p with
          | bad e r => rw [h1] at hn; cases hn
          | ok c r =>
            rw [h1] at hn
            obtain ⟨e1, hr, _⟩ := h.chr h1
            have := T.chr_pos h1
            simp only at hn
            split at hn
            · rename_i h3
              cases hn
              unfold item
              rw [h.lt hlt, if_neg h91, varNext_in h (.inl hlt) (fun e => absurd e hn36), if_neg hv, if_neg h39, if_pos hc, e1]
              simp only
              rw [if_pos h3]
              exact ⟨rfl, hr, by omega, fun _ => by omega⟩
            · cases hn
        · rw [if_neg hc] at hn
          cases hn
          unfold item
          rw [h.see hq.1, if_neg h91, varNext_in h hq.1 hq.2, if_neg hv, if_neg h39, if_neg hc]
          exact ⟨rfl, hp, by omega, fun e => absurd rfl e⟩

theorem itemsN_ge : ∀ (f : Nat) (xs : List Item) (c : Int) (p q : Nat) (r : List Item × Int), itemsN f l xs c p = .ok r q → gap l p ≤ q := by
  intro f
  induction f with
  | zero => intro xs c p q r h; rw [itemsN] at h; cases h
  | succ f ih =>
    intro xs c p q r h
    rw [itemsN] at h
    have hg := gap_ge' l p
    split at h
    · split at h
      · cases h
      · have := ih _ _ _ _ _ h
        have := gap_ge' l (gap l p + 1)
        omega
    · cases h1 : item l (gap l p) with
      | bad e s => rw [h1] at h; cases h
      | ok o s =>
        rw [h1] at h
        have hps : gap l p ≤ s := by
          unfold item at h1
          split at h1
          · cases h2 : T.setN 20 l (gap l p) with
            | bad e t => rw [h2] at h1; cases h1
            | ok u t =>
              rw [h2] at h1
              cases h1
              have := (In.set (l := l) (L := l) (M := []) (k := 0) ⟨[], by simp, rfl⟩ 20 _ _ _ h2).2.2.2
              omega
          · split at h1
            · cases h2 : varAt l (gap l p) with
              | bad e t => rw [h2] at h1; cases h1
              | ok u t =>
                rw [h2] at h1
                cases h1
                unfold varAt at h2
                split at h2
                · cases h2; have := wordEnd_ge l (gap l p + 1); omega
                · cases h2
            · split at h1
              · split at h1
                · cases h1; have := T.skipW_ge notQuo l (gap l p + 1); omega
                · cases h1
              · split at h1
                · cases h2 : T.chr l (gap l p) with
                  | bad e t => rw [h2] at h1; cases h1
                  | ok u t =>
                    rw [h2] at h1
                    have := T.chr_pos h2
                    simp only at h1
                    split at h1
                    · cases h1; omega
                    · cases h1
                · cases h1; omega
        cases o with
        | none => simp only at h; cases h; exact hps
        | some ys =>
          simp only at h
          split at h
          · cases h
          · have := ih _ _ _ _ _ h
            have := gap_ge' l s
            omega
theorem itemsN_in (h : In l L M k) : ∀ (f f' : Nat) (xs : List Item) (c : Int) (p q : Nat) (r : List Item × Int), itemsN f l xs c p = .ok r q → f ≤ f' → p ≤ l.length → Ok2 l M q → itemsN f' L xs c (k + p) = .ok r (k + q) ∧ q ≤ l.length := by
  intro f
  induction f with
  | zero => intro f' xs c p q r hn; rw [itemsN] at hn; cases hn
  | succ f ih =>
    intro f' xs c p q r hn hf hp hq
    obtain ⟨f', rfl⟩ : ∃ g, f' = g + 1 := ⟨f' - 1, by omega⟩
    have hgq := itemsN_ge _ _ _ _ _ _ hn
    have hgl := gap_le' hp
    have hg := gap_in h hp (hq.1.le hgq)
    rw [itemsN] at hn ⊢
    rw [hg]
    by_cases h124 : see l (gap l p) = 124
    · rw [if_pos h124] at hn
      have hlt := see_ne (l := l) (p := gap l p) (by rw [h124]; decide)
      rw [h.at h124 (by decide), if_pos rfl]
      split at hn
      · cases hn
      · rename_i h1
        rw [if_neg h1, Nat.add_assoc]
        exact ih f' _ _ _ _ _ hn (by omega) (by omega) hq
    · rw [if_neg h124] at hn
      rw [h.see (hq.1.le hgq), if_neg h124]
      cases h1 : item l (gap l p) with
      | bad e s => rw [h1] at hn; cases hn
      | ok o s =>
        rw [h1] at hn
        cases o with
        | none =>
          simp only at hn
          cases hn
          obtain ⟨e1, hs, _⟩ := item_in h h1 hgl hq
          rw [e1]
          exact ⟨rfl, hs⟩
        | some ys =>
          simp only at hn
          split at hn
          · cases hn
          · rename_i h2
            have hsq := itemsN_ge _ _ _ _ _ _ hn
            have hsg := gap_ge' l s
            have hok2 : Ok2 l M s := by
              refine ⟨hq.1.le (by omega), fun h36 => ?_⟩
              rcases hq.1 with hh | hh
              · by_cases hsq' : s < q
                · exact .inl (by omega)
                · have : s = q := by omega
                  subst this
                  exact hq.2 h36
              · exact .inr hh
            obtain ⟨e1, hs, _⟩ := item_in h h1 hgl hok2
            rw [e1]
            simp only
            rw [if_neg h2]
            exact ih f' _ _ _ _ _ hn (by omega) hs hq
end

end Go.Proofs.YtajbcgobfkaahaaGreatDoor.R

/-
  Files of rules: two files one behind the other are both files' parts.
-/
namespace Go.Proofs.YtajbcgobfkaahaaGreatDoor.R
open S (Sp)
open T (Out see skipW cut In see_ne)

section
variable {l L M : List Int} {k : Nat}

/-- q is inside, and no `$` stands there; or nothing follows -/
def Ok3 (l M : List Int) (q : Nat) : Prop := (q < l.length ∧ see l q ≠ 36) ∨ M = []
theorem Ok3.ok {q : Nat} (h : Ok3 l M q) : Ok l M q := by
  rcases h with h | h
  · exact .inl h.1
  · exact .inr h
theorem Ok3.ok2 {q : Nat} (h : Ok3 l M q) : Ok2 l M q := ⟨h.ok, fun h36 => by
  rcases h with h | h
  · exact absurd h36 h.2
  · exact .inr h⟩
/-- a place ahead of one that is inside -/
theorem Ok3.ahead {p q : Nat} (h : Ok3 l M q) (hp : p ≤ q) : Ok2 l M p := by
  refine ⟨h.ok.le hp, fun h36 => ?_⟩
  rcases h with h | h
  · by_cases e : p = q
    · subst e; exact absurd h36 h.2
    · exact .inl (by omega)
  · exact .inr h

theorem items_in (h : In l L M k) {p q : Nat} {r : List Item × Int} (hn : items l p = .ok r q) (hp : p ≤ l.length) (hq : Ok2 l M q) : items L (k + p) = .ok r (k + q) ∧ q ≤ l.length ∧ p ≤ q := by
  have hl := h.len
  have h1 := itemsN_in h _ (L.length + 2) _ _ _ _ _ hn (by omega) hp hq
  have h2 := itemsN_ge _ _ _ _ _ _ hn
  have h3 := gap_ge' l p
  exact ⟨h1.1, h1.2, by omega⟩
theorem tail_ge {s t : Side} {p q : Nat} (hn : sideTail l s p = .ok t q) : p ≤ q := by
  unfold sideTail at hn
  split at hn
  · cases h1 : items l (p + 1) with
    | bad e r => rw [h1] at hn; cases hn
    | ok yc r =>
      rw [h1] at hn
      obtain ⟨ys, c⟩ := yc
      have h2 := itemsN_ge _ _ _ _ _ _ h1
      have h3 := gap_ge' l (p + 1)
      simp only at hn
      split at hn
      · cases hn
      · split at hn
        · cases hn; omega
        · cases hn; omega
  · cases hn; exact Nat.le_refl _
theorem tail_in (h : In l L M k) {s t : Side} {p q : Nat} (hn : sideTail l s p = .ok t q) (hp : p ≤ l.length) (hq : Ok3 l M q) : sideTail L s (k + p) = .ok t (k + q) ∧ q ≤ l.length := by
  have hge := tail_ge hn
  unfold sideTail at hn ⊢
  rw [h.see (hq.ok.le hge)]
  by_cases h1 : see l p = 125
  · rw [if_pos h1] at hn ⊢
    have hlt := see_ne (l := l) (p := p) (by rw [h1]; decide)
    cases h2 : items l (p + 1) with
    | bad e r => rw [h2] at hn; cases hn
    | ok yc r =>
      rw [h2] at hn
      obtain ⟨ys, c⟩ := yc
      simp only at hn
      split at hn
      · cases hn
      · rename_i h3
        by_cases h36 : see l r = 36
        · rw [if_pos h36] at hn
          cases hn
          have hlt2 := see_ne (l := l) (p := r) (by rw [h36]; decide)
          obtain ⟨e1, hr, _⟩ := items_in h h2 (by omega) ⟨.inl hlt2, fun _ => hq.ok⟩
          rw [Nat.add_assoc, e1]
          simp only
          rw [if_neg h3, h.at h36 (by decide), if_pos rfl]
          exact ⟨rfl, by omega⟩
        · rw [if_neg h36] at hn
          cases hn
          obtain ⟨e1, hr, _⟩ := items_in h h2 (by omega) hq.ok2
          rw [Nat.add_assoc, e1]
          simp only
          rw [if_neg h3, h.see hq.ok, if_neg h36]
          exact ⟨rfl, hr⟩
  · rw [if_neg h1] at hn ⊢
    cases hn
    exact ⟨rfl, hp⟩

theorem side_ge {t : Side} {p q : Nat} (hn : side l p = .ok t q) : gap l p ≤ q ∧ (see l (gap l p) ≠ 94 → ∀ r s, items l (gap l p) = .ok r s → s ≤ q) := by
  unfold side at hn
  simp only at hn
  have hb : gap l p ≤ (if decide (see l (gap l p) = 94) = true then gap l p + 1 else gap l p) := by split <;> omega
  cases h1 : items l (if decide (see l (gap l p) = 94) = true then gap l p + 1 else gap l p) with
  | bad e r => rw [h1] at hn; cases hn
  | ok xc r =>
    rw [h1] at hn
    obtain ⟨xs, c⟩ := xc
    have h2 := itemsN_ge _ _ _ _ _ _ h1
    have h3 := gap_ge' l (if decide (see l (gap l p) = 94) = true then gap l p + 1 else gap l p)
    have hrq : r ≤ q := by
      simp only at hn
      split at hn
      · split at hn
        · cases hn
        · split at hn
          · cases hn
          · cases h4 : items l (r + 1) with
            | bad e s => rw [h4] at hn; cases hn
            | ok yd s =>
              rw [h4] at hn
              obtain ⟨ys, d⟩ := yd
              have h5 := itemsN_ge _ _ _ _ _ _ h4
              have h6 := gap_ge' l (r + 1)
              have := tail_ge hn
              omega
      · exact tail_ge hn
    refine ⟨by omega, fun h94 r' s' hr => ?_⟩
    rw [if_neg (by simpa using h94)] at h1
    rw [h1] at hr
    cases hr
    exact hrq
theorem side_in (h : In l L M k) {t : Side} {p q : Nat} (hn : side l p = .ok t q) (hp : p ≤ l.length) (hq : Ok3 l M q) : side L (k + p) = .ok t (k + q) ∧ q ≤ l.length ∧ p ≤ q := by
  have hge := (side_ge hn).1
  have hgp := gap_ge' l p
  have hgl := gap_le' hp
  have hg := gap_in h hp (hq.ok.le hge)
  unfold side at hn ⊢
  simp only at hn ⊢
  rw [hg, h.see (hq.ok.le hge)]
  generalize hst : decide (see l (gap l p) = 94) = st at hn ⊢
  have hb : (if st = true then k + gap l p + 1 else k + gap l p) = k + (if st = true then gap l p + 1 else gap l p) := by split <;> omega
  rw [hb]
  have hbl : (if st = true then gap l p + 1 else gap l p) ≤ l.length := by
    split
    · rename_i h1
      rw [h1] at hst
      have := see_ne (l := l) (p := gap l p) (by rw [of_decide_eq_true hst]; decide)
      omega
    · exact hgl
  generalize (if st = true then gap l p + 1 else gap l p) = b at hn hbl ⊢
  cases h1 : items l b with
  | bad e r => rw [h1] at hn; cases hn
  | ok xc r =>
    rw [h1] at hn
    obtain ⟨xs, c⟩ := xc
    simp only at hn
    by_cases h2 : st = true ∨ see l r = 123
    · rw [if_pos h2] at hn
      split at hn
      · cases hn
      · rename_i h3
        split at hn
        · cases hn
        · rename_i h4
          have h4' : see l r = 123 := Classical.byContradiction fun hh => h4 hh
          have hlt := see_ne (l := l) (p := r) (by rw [h4']; decide)
          obtain ⟨e1, hr, _⟩ := items_in h h1 hbl ⟨.inl hlt, fun e => by rw [h4'] at e; cases e⟩
          cases h5 : items l (r + 1) with
          | bad e s => rw [h5] at hn; cases hn
          | ok yd s =>
            rw [h5] at hn
            obtain ⟨ys, d⟩ := yd
            simp only at hn
            have hsq := tail_ge hn
            obtain ⟨e2, hs, _⟩ := items_in h h5 (by omega) (hq.ahead hsq)
            obtain ⟨e3, hql⟩ := tail_in h hn hs hq
            rw [e1]
            simp only
            rw [h.at h4' (by decide), if_pos (.inr rfl), if_neg h3, if_neg (by simp), Nat.add_assoc, e2]
            simp only
            rw [e3]
            exact ⟨rfl, hql, by omega⟩
    · rw [if_neg h2] at hn
      have hrq := tail_ge hn
      obtain ⟨e1, hr, _⟩ := items_in h h1 hbl (hq.ahead hrq)
      obtain ⟨e3, hql⟩ := tail_in h hn hr hq
      rw [e1]
      simp only
      rw [h.see (hq.ok.le hrq), if_neg h2, e3]
      exact ⟨rfl, hql, by omega⟩
theorem dir_in (h : In l L M k) {d : Int} {p q : Nat} (hn : dirAt l p = .ok d q) (hp : p ≤ l.length) (hq : Ok l M q) : dirAt L (k + p) = .ok d (k + q) ∧ q ≤ l.length ∧ gap l p < q ∧ (see l (gap l p) = 62 ∨ see l (gap l p) = 60) := by
  unfold dirAt at hn ⊢
  simp only at hn ⊢
  by_cases h1 : see l (gap l p) = 62
  · rw [if_pos h1] at hn
    cases hn
    have hlt := see_ne (l := l) (p := gap l p) (by rw [h1]; decide)
    rw [gap_in h hp (.inl hlt), h.at h1 (by decide), if_pos rfl]
    exact ⟨rfl, by omega, by omega, .inl h1⟩
  · rw [if_neg h1] at hn
    split at hn
    · cases hn
    · rename_i h2
      have h2' : see l (gap l p) = 60 := Classical.byContradiction fun hh => h2 hh
      have hlt := see_ne (l := l) (p := gap l p) (by rw [h2']; decide)
      rw [gap_in h hp (.inl hlt), h.at h2' (by decide), if_neg (by decide), if_neg (by simp)]
      by_cases h3 : see l (gap l p + 1) = 62
      · rw [if_pos h3] at hn
        cases hn
        have hlt3 := see_ne (l := l) (p := gap l p + 1) (by rw [h3]; decide)
        rw [Nat.add_assoc, h.at h3 (by decide), if_pos rfl]
        exact ⟨rfl, by omega, by omega, .inr h2'⟩
      · rw [if_neg h3] at hn
        cases hn
        rw [Nat.add_assoc, h.see hq, if_neg h3]
        exact ⟨rfl, by omega, by omega, .inr h2'⟩
/-- behind a gap stands something else than `$` -/
theorem ok3_gap {q : Nat} (h1 : see l (gap l q) ≠ -1) (h2 : see l (gap l q) ≠ 36) : Ok3 l M q := by
  have hlt := see_ne h1
  have hge := gap_ge' l q
  refine .inl ⟨by omega, fun e => ?_⟩
  have : gap l q = q := gap_see l (by rw [e]; decide) (by rw [e]; decide)
  rw [this] at h2
  exact h2 e
theorem rule_in (h : In l L M k) {x : Part} {p q : Nat} (hn : rule l p = .ok x q) (hp : p ≤ l.length) (hq : Ok3 l M q) : rule L (k + p) = .ok x (k + q) ∧ q ≤ l.length ∧ gap l p ≤ q ∧ (see l (gap l p) ≠ 94 → ∀ r s, items l (gap l p) = .ok r s → s ≤ q) := by
  unfold rule at hn ⊢
  cases h1 : side l p with
  | bad e r => rw [h1] at hn; cases hn
  | ok a r =>
    rw [h1] at hn
    simp only at hn
    cases h2 : dirAt l r with
    | bad e s => rw [h2] at hn; cases hn
    | ok d s =>
      rw [h2] at hn
      simp only at hn
      cases h3 : side l s with
      | bad e t => rw [h3] at hn; cases hn
      | ok b t =>
        rw [h3] at hn
        cases hn
        have hst := (side_ge h3).1
        have hsg := gap_ge' l s
        -- where the direction stands
        have hdir : see l (gap l r) = 62 ∨ see l (gap l r) = 60 := by
          have h2' := h2
          unfold dirAt at h2'
          simp only at h2'
          split at h2'
          · rename_i hh; exact .inl hh
          · split at h2'
            · cases h2'
            · rename_i hh; exact .inr (Classical.byContradiction fun h4 => hh h4)
        have hok : Ok3 l M r := ok3_gap (by rcases hdir with e | e <;> rw [e] <;> decide) (by rcases hdir with e | e <;> rw [e] <;> decide)
        obtain ⟨e1, hr, _⟩ := side_in h h1 hp hok
        obtain ⟨e2, hs, hrs, _⟩ := dir_in h h2 hr (hq.ok.le (by omega))
        obtain ⟨e3, ht, _⟩ := side_in h h3 hs hq
        have hs1 := side_ge h1
        have hgr := gap_ge' l r
        rw [e1]
        simp only
        rw [e2]
        simp only
        rw [e3]
        exact ⟨rfl, ht, by omega, fun h94 r' s' hh => by have := hs1.2 h94 r' s' hh; omega⟩
theorem whole_in (h : In l L M k) {x : Part} {p q : Nat} (hn : wholeAt l p = .ok x q) (hp : p ≤ l.length) (hq : Ok l M q) : wholeAt L (k + p) = .ok x (k + q) ∧ q ≤ l.length ∧ p ≤ q := by
  unfold wholeAt at hn ⊢
  by_cases h91 : see l p = 91
  · rw [if_pos h91] at hn
    cases h1 : T.setN 20 l p with
    | bad e r => rw [h1] at hn; cases hn
    | ok s r =>
      rw [h1] at hn
      cases hn
      obtain ⟨e1, hr, _, hpr⟩ := h.set 20 _ _ _ h1
      rw [h.at h91 (by decide), if_pos rfl, e1]
      exact ⟨rfl, hr, by omega⟩
  · rw [if_neg h91] at hn
    split at hn
    · rename_i h2
      cases hn
      have hge := wordEnd_ge l p
      obtain ⟨e1, e2⟩ := word_in h hp hq
      rw [h.see (hq.le hge), if_neg h91, e2, if_pos h2, e1]
      exact ⟨rfl, wordEnd_le hp, hge⟩
    · cases hn
theorem part_in (h : In l L M k) {x : Part} {p q : Nat} (hn : part l p = .ok x q) (hp : p ≤ l.length) (hq : Ok3 l M q) : part L (k + p) = .ok x (k + q) ∧ q ≤ l.length ∧ p ≤ q := by
  unfold part at hn
  by_cases h58 : see l p = 58
  · rw [if_pos h58] at hn
    split at hn
    · cases hn
    · rename_i h2
      have h2' : see l (p + 1) = 58 := Classical.byContradiction fun hh => h2 hh
      have hlt := see_ne (l := l) (p := p + 1) (by rw [h2']; decide)
      have hgl := gap_le' (l := l) (p := p + 2) (by omega)
      have hge := gap_ge' l (p + 2)
      obtain ⟨_, _, hgq⟩ := whole_in (L := l) (M := []) (k := 0) ⟨[], by simp, rfl⟩ hn hgl (.inr rfl)
      obtain ⟨e1, hql, _⟩ := whole_in h hn hgl hq.ok
      unfold part
      rw [h.at h58 (by decide), if_pos rfl, Nat.add_assoc, h.at h2' (by decide), if_neg (by simp), show k + p + 2 = k + (p + 2) by omega, gap_in h (by omega) (hq.ok.le hgq), e1]
      exact ⟨rfl, hql, by omega⟩
  · rw [if_neg h58] at hn
    by_cases hv : varNext l p = true
    · rw [if_pos hv] at hn
      have h36 : see l p = 36 := by unfold varNext at hv; rw [Bool.and_eq_true] at hv; exact of_decide_eq_true hv.1
      have hlt := see_ne (l := l) (p := p) (by rw [h36]; decide)
      cases h1 : varAt l p with
      | bad e r => rw [h1] at hn; cases hn
      | ok n r =>
        rw [h1] at hn
        simp only at hn
        have hpr : p < r := (varAt_in (L := l) (M := []) (k := 0) ⟨[], by simp, rfl⟩ h1 hlt (.inr rfl)).2.1
        by_cases h61 : see l (gap l r) = 61
        · rw [if_pos h61] at hn
          have hlt61 := see_ne (l := l) (p := gap l r) (by rw [h61]; decide)
          have hgr := gap_ge' l r
          cases h3 : T.setN 20 l (gap l (gap l r + 1)) with
          | bad e s => rw [h3] at hn; cases hn
          | ok s t =>
            rw [h3] at hn
            cases hn
            obtain ⟨e3, ht, h91, hlt3⟩ := h.set 20 _ _ _ h3
            have hlt91 := see_ne (l := l) (p := gap l (gap l r + 1)) (by rw [h91]; decide)
            have hgg := gap_ge' l (gap l r + 1)
            obtain ⟨e1, _, hr⟩ := varAt_in h h1 hlt (.inl (by omega))
            unfold part
            rw [h.lt hlt, if_neg h58, varNext_in h (.inl hlt) (fun _ => .inl (by omega)), if_pos hv, e1]
            simp only
            rw [gap_in h hr (.inl hlt61), h.at h61 (by decide), if_pos rfl, Nat.add_assoc, gap_in h (by omega) (.inl hlt91), e3]
            exact ⟨rfl, ht, by omega⟩
        · rw [if_neg h61] at hn
          -- the rule's first item is that variable
          have hgp : gap l p = p := gap_see l (by rw [h36]; decide) (by rw [h36]; decide)
          obtain ⟨e4, hql, hgq, hfirst⟩ := rule_in h hn hp hq
          have hgrq : gap l r ≤ q := by
            have hit : item l p = .ok (some [varI n]) r := by
              unfold item
              rw [if_neg (by rw [h36]; decide), if_pos hv, h1]
            cases h5 : items l p with
            | bad e s =>
              exfalso
              unfold rule side at hn
              simp only at hn
              rw [hgp, h36] at hn
              simp only [show decide ((36 : Int) = 94) = false from rfl, Bool.false_eq_true, if_false] at hn
              rw [h5] at hn
              cases hn
            | ok rc s =>
              have := hfirst (by rw [hgp, h36]; decide) rc s (by rw [hgp]; exact h5)
              unfold items at h5
              rw [itemsN, hgp, if_neg (by rw [h36]; decide), hit] at h5
              simp only at h5
              rw [if_neg (by simp)] at h5
              have := itemsN_ge _ _ _ _ _ _ h5
              omega
          have hgr := gap_ge' l r
          obtain ⟨e1, _, hr⟩ := varAt_in h h1 hlt (hq.ok.le (by omega))
          unfold part
          rw [h.lt hlt, if_neg h58, varNext_in h (.inl hlt) (fun _ => hq.ok.le (by omega)), if_pos hv, e1]
          simp only
          rw [gap_in h hr (hq.ok.le hgrq), h.see (hq.ok.le hgrq), if_neg h61, e4]
          exact ⟨rfl, hql, by omega⟩
    · rw [if_neg hv] at hn
      obtain ⟨e4, hql, hgq, _⟩ := rule_in h hn hp hq
      have hgp := gap_ge' l p
      have hok2 := hq.ahead (p := p) (by omega)
      unfold part
      rw [h.see hok2.1, if_neg h58, varNext_in h hok2.1 hok2.2, if_neg hv, e4]
      exact ⟨rfl, hql, by omega⟩
theorem ended_in (h : In l L M k) {x : Part} {p q : Nat} (hn : ended l p = .ok x q) (hp : p ≤ l.length) : ended L (k + p) = .ok x (k + q) ∧ q ≤ l.length ∧ p < q := by
  unfold ended at hn ⊢
  cases h1 : part l p with
  | bad e r => rw [h1] at hn; cases hn
  | ok y r =>
    rw [h1] at hn
    simp only at hn
    split at hn
    · cases hn
    · rename_i h2
      have h2' : see l (gap l r) = 59 := Classical.byContradiction fun hh => h2 hh
      have hlt := see_ne (l := l) (p := gap l r) (by rw [h2']; decide)
      split at hn
      · cases hn
      · rename_i h3
        cases hn
        obtain ⟨e1, hr, hpr⟩ := part_in h h1 hp (ok3_gap (by rw [h2']; decide) (by rw [h2']; decide))
        have hgr := gap_ge' l r
        rw [e1]
        simp only
        rw [gap_in h hr (.inl hlt), h.at h2' (by decide), if_neg (by simp), if_neg h3]
        exact ⟨rfl, by omega, by omega⟩
end

/-! files -/
theorem partsN_more {l : List Int} : ∀ (f : Nat) (xs ys : List Part) (p q : Nat), partsN f l xs p = .ok ys q → ∃ zs, ys = xs ++ zs ∧ ∀ (xs' : List Part) (f' : Nat), xs'.length + zs.length ≤ 200 → zs.length < f' → partsN f' l xs' p = .ok (xs' ++ zs) q := by
  intro f
  induction f with
  | zero => intro xs ys p q h; rw [partsN] at h; cases h
  | succ f ih =>
    intro xs ys p q h
    rw [partsN] at h
    by_cases h1 : see l p = -1
    · rw [if_pos h1] at h
      cases h
      refine ⟨[], by simp, fun xs' f' _ hf => ?_⟩
      obtain ⟨f', rfl⟩ : ∃ g, f' = g + 1 := ⟨f' - 1, by omega⟩
      rw [partsN, if_pos h1, List.append_nil]
    · rw [if_neg h1] at h
      split at h
      · cases h
      · cases h2 : ended l p with
        | bad e r => rw [h2] at h; cases h
        | ok x r =>
          rw [h2] at h
          simp only at h
          obtain ⟨zs, hz, hall⟩ := ih _ _ _ _ h
          refine ⟨x :: zs, by rw [hz]; simp, fun xs' f' hl hf => ?_⟩
          simp only [List.length_cons] at hl hf
          obtain ⟨f', rfl⟩ : ∃ g, f' = g + 1 := ⟨f' - 1, by omega⟩
          rw [partsN, if_neg h1, if_neg (by omega), h2]
          simp only
          rw [hall (xs' ++ [x]) f' (by simp; omega) (by omega)]
          simp
/-- the last file of several -/
theorem partsN_last {l L : List Int} {k : Nat} (h : In l L [] k) : ∀ (f : Nat) (xs ys : List Part) (p q : Nat), partsN f l xs p = .ok ys q → p ≤ l.length → ∃ q', partsN f L xs (k + p) = .ok ys q' := by
  intro f
  induction f with
  | zero => intro xs ys p q hn; rw [partsN] at hn; cases hn
  | succ f ih =>
    intro xs ys p q hn hp
    rw [partsN] at hn ⊢
    rw [h.see (.inr rfl)]
    by_cases h1 : see l p = -1
    · rw [if_pos h1] at hn ⊢
      cases hn
      exact ⟨_, rfl⟩
    · rw [if_neg h1] at hn ⊢
      split at hn
      · cases hn
      · rename_i h200
        rw [if_neg h200]
        cases h2 : ended l p with
        | bad e r => rw [h2] at hn; cases hn
        | ok x r =>
          rw [h2] at hn
          simp only at hn
          obtain ⟨e1, hr, _⟩ := ended_in h h2 hp
          rw [e1]
          simp only
          rw [gap_in h hr (.inr rfl)]
          exact ih _ _ _ _ hn (gap_le' hr)
/-- what makes nothing at the end of a file, and at the beginning of the next one -/
theorem gapN_join {l m : List Int} : ∀ (f f' p : Nat), l.length < p + f → (l ++ 10 :: m).length < p + f' → p ≤ l.length → gapN f l p = l.length → gapN f' (l ++ 10 :: m) p = l.length + 1 + gap m 0 := by
  have hin : In l (l ++ 10 :: m) (10 :: m) 0 := ⟨[], by simp, rfl⟩
  have hin2 : In m (l ++ 10 :: m) [] (l.length + 1) := ⟨l ++ [10], by simp, by simp⟩
  have hs10 : see (l ++ 10 :: m) l.length = 10 := by unfold T.see; simp
  -- from the end on
  have hend : ∀ f', (l ++ 10 :: m).length < l.length + f' → gapN f' (l ++ 10 :: m) l.length = l.length + 1 + gap m 0 := by
    intro f' hf
    simp only [List.length_append, List.length_cons] at hf
    obtain ⟨f', rfl⟩ : ∃ g, f' = g + 1 := ⟨f' - 1, by omega⟩
    have e1 : skipW T.blank (l ++ 10 :: m) l.length = skipW T.blank (l ++ 10 :: m) (l.length + 1) := by
      have hlt : l.length < (l ++ 10 :: m).length := by simp
      have hs := T.see_lt hlt
      unfold skipW
      rw [List.drop_eq_getElem_cons hlt, List.takeWhile_cons]
      have : (l ++ 10 :: m)[l.length] = T.see (l ++ 10 :: m) l.length := by rw [List.getElem?_eq_getElem hlt] at hs; exact Option.some.inj hs
      rw [this, hs10, if_pos (by decide), List.length_cons]
      omega
    have h2 := gapN_in hin2 (m.length + 1) (f' + 1) 0 (by omega) (by simp; omega) (Nat.zero_le _) (.inr rfl)
    rw [Nat.add_zero] at h2
    unfold gap
    rw [← h2, gapN, gapN, e1]
  intro f
  induction f with
  | zero => intro f' p h1; omega
  | succ f ih =>
    intro f' p h1 h2 h3 h4
    obtain ⟨f', rfl⟩ : ∃ g, f' = g + 1 := ⟨f' - 1, by simp at h2; omega⟩
    have hge := T.skipW_ge T.blank l p
    rw [gapN] at h4
    by_cases h35 : see l (skipW T.blank l p) = 35
    · have hlt := see_ne (l := l) (p := skipW T.blank l p) (by rw [h35]; decide)
      rw [if_pos h35] at h4
      have hsk := hin.skip (f := T.blank) (by decide) h3 (.inl hlt)
      simp only [Nat.zero_add] at hsk
      have h35' := hin.at h35 (by decide)
      simp only [Nat.zero_add] at h35'
      rw [gapN, hsk, h35', if_pos rfl]
      have hle := T.skipW_le (f := notNl) (l := l) (p := skipW T.blank l p + 1) (by omega)
      have hge2 := T.skipW_ge notNl l (skipW T.blank l p + 1)
      have e : skipW notNl (l ++ 10 :: m) (skipW T.blank l p + 1) = skipW notNl l (skipW T.blank l p + 1) := by
        by_cases hh : skipW notNl l (skipW T.blank l p + 1) < l.length
        · have := hin.skip (f := notNl) (by decide) (p := skipW T.blank l p + 1) (by omega) (.inl hh)
          simpa using this
        · have he : skipW notNl l (skipW T.blank l p + 1) = l.length := by omega
          obtain ⟨g1, _⟩ := T.skip_spec (f := notNl) (by decide) l (skipW T.blank l p + 1)
          rw [he]
          refine T.skipW_eq (by omega) (by simp) (fun i hi1 hi2 => ?_) (by rw [hs10]; decide) (by decide)
          have := hin.lt (p := i) hi2
          simp only [Nat.zero_add] at this
          rw [this]
          exact g1 i hi1 (by omega)
      rw [e]
      exact ih f' _ (by omega) (by omega) hle h4
    · rw [if_neg h35] at h4
      have hp : skipW T.blank (l ++ 10 :: m) p = skipW T.blank (l ++ 10 :: m) l.length := by
        obtain ⟨g1, _⟩ := T.skip_spec (f := T.blank) (by decide) l p
        rw [h4] at g1
        -- all from p to the end is blank
        have : ∀ n p', p' + n = l.length → (∀ i, p' ≤ i → i < l.length → T.blank (see l i) = true) → skipW T.blank (l ++ 10 :: m) p' = skipW T.blank (l ++ 10 :: m) l.length := by
          intro n
          induction n with
          | zero => intro p' hp' _; rw [show p' = l.length by omega]
          | succ n ihn =>
            intro p' hp' hb
            rw [← ihn (p' + 1) (by omega) (fun i h5 h6 => hb i (by omega) h6)]
            have hlt : p' < (l ++ 10 :: m).length := by simp; omega
            have hs := T.see_lt hlt
            have hbl := hb p' (Nat.le_refl _) (by omega)
            have hse := hin.lt (p := p') (by omega)
            simp only [Nat.zero_add] at hse
            unfold skipW
            rw [List.drop_eq_getElem_cons hlt, List.takeWhile_cons]
            have : (l ++ 10 :: m)[p'] = T.see (l ++ 10 :: m) p' := by rw [List.getElem?_eq_getElem hlt] at hs; exact Option.some.inj hs
            rw [this, hse, if_pos hbl, List.length_cons]
            omega
        exact this (l.length - p) p (by omega) g1
      have h5 := hend (f' + 1) (by omega)
      rw [gapN] at h5 ⊢
      rw [hp]
      exact h5
theorem partsN_first {l m : List Int} (hl : ∀ z ∈ l, z ≠ -1) (hf : Out (List Part)) : ∀ (f : Nat) (xs ys : List Part) (p q : Nat), partsN f l xs (gap l p) = .ok ys q → p ≤ l.length → ∀ (g : Nat), partsN g (l ++ 10 :: m) ys (l.length + 1 + gap m 0) = hf → (∃ zs, ys = xs ++ zs ∧ partsN (zs.length + g) (l ++ 10 :: m) xs (gap (l ++ 10 :: m) p) = hf) := by
  have hin : In l (l ++ 10 :: m) (10 :: m) 0 := ⟨[], by simp, rfl⟩
  intro f
  induction f with
  | zero => intro xs ys p q hn; rw [partsN] at hn; cases hn
  | succ f ih =>
    intro xs ys p q hn hp g hg
    have hgl := gap_le' hp
    rw [partsN] at hn
    by_cases h1 : see l (gap l p) = -1
    · rw [if_pos h1] at hn
      cases hn
      have hge : gap l p = l.length := by
        apply Classical.byContradiction
        intro hh
        have hlt : gap l p < l.length := by omega
        have := T.see_lt hlt
        rw [h1] at this
        have hm := List.mem_of_getElem? this
        exact hl _ hm rfl
      refine ⟨[], by simp, ?_⟩
      have := gapN_join (m := m) (l.length + 1) ((l ++ 10 :: m).length + 1) p (by omega) (by omega) hp hge
      unfold gap at this ⊢
      rw [this, List.length_nil, Nat.zero_add]
      exact hg
    · rw [if_neg h1] at hn
      have hlt := see_ne h1
      split at hn
      · cases hn
      · rename_i h200
        cases h2 : ended l (gap l p) with
        | bad e r => rw [h2] at hn; cases hn
        | ok x r =>
          rw [h2] at hn
          simp only at hn
          obtain ⟨e1, hr, _⟩ := ended_in hin h2 hgl
          obtain ⟨zs, hz, hp'⟩ := ih _ _ _ _ hn hr g hg
          refine ⟨x :: zs, by rw [hz]; simp, ?_⟩
          have hgp := gap_in hin hp (.inl hlt)
          have hse := hin.lt hlt
          simp only [Nat.zero_add] at hgp hse e1
          rw [hgp, List.length_cons, show zs.length + 1 + g = (zs.length + g) + 1 by omega, partsN, hse, if_neg h1, if_neg h200, e1]
          simp only
          exact hp'

/-- two files are one -/
theorem read_join {l m : List Int} (hl : ∀ z ∈ l, z ≠ -1) {a b : List Part} {q r : Nat} (ha : read l = .ok a q) (hb : read m = .ok b r) (hlen : (l ++ 10 :: m).length ≤ 16000) (hab : a.length + b.length ≤ 200) : ∃ t, read (l ++ 10 :: m) = .ok (a ++ b) t := by
  have hlen' := hlen
  simp only [List.length_append, List.length_cons] at hlen'
  unfold read at ha hb
  rw [if_neg (by omega)] at ha hb
  obtain ⟨zs, hz, hall⟩ := partsN_more _ _ _ _ _ hb
  simp only [List.nil_append] at hz
  subst hz
  have h1 := hall a (b.length + 1) hab (by omega)
  obtain ⟨q', h2⟩ := partsN_last (L := l ++ 10 :: m) (k := l.length + 1) ⟨l ++ [10], by simp, by simp⟩ _ _ _ _ _ h1 (gap_le' (Nat.zero_le _))
  obtain ⟨ys, hy, h3⟩ := partsN_first hl (.ok (a ++ b) q') _ _ _ _ _ ha (Nat.zero_le _) _ h2
  obtain ⟨us, hu, h4⟩ := partsN_more _ _ _ _ _ h3
  simp only [List.nil_append] at hu
  subst hu
  refine ⟨q', ?_⟩
  unfold read parts
  rw [if_neg (by omega), h4 [] 202 (by simpa using hab) (by simp; omega)]
  rfl

/-! what is read is right -/
def Bare (p : Part) : Prop := bareP p = p
theorem parts_right {l : List Int} : ∀ (f : Nat) (xs ys : List Part) (p q : Nat), partsN f l xs p = .ok ys q → (∀ x ∈ xs, partE x = 0) → ∀ x ∈ ys, partE x = 0 := by
  intro f
  induction f with
  | zero => intro xs ys p q h; rw [partsN] at h; cases h
  | succ f ih =>
    intro xs ys p q h hx
    rw [partsN] at h
    split at h
    · cases h; exact hx
    · split at h
      · cases h
      · cases h2 : ended l p with
        | bad e r => rw [h2] at h; cases h
        | ok x r =>
          rw [h2] at h
          simp only at h
          refine ih _ _ _ _ h fun y hy => ?_
          rcases List.mem_append.1 hy with hy | hy
          · exact hx y hy
          · rw [List.mem_singleton] at hy
            subst hy
            unfold ended at h2
            cases h3 : part l p with
            | bad e s => rw [h3] at h2; cases h2
            | ok z s =>
              rw [h3] at h2
              simp only at h2
              split at h2
              · cases h2
              · split at h2
                · cases h2
                · rename_i h4; cases h2; exact Classical.byContradiction fun hh => h4 hh

end Go.Proofs.YtajbcgobfkaahaaGreatDoor.R

/-
  Files of rules: what is read has what its kinds have alone.
-/
namespace Go.Proofs.YtajbcgobfkaahaaGreatDoor.R
open S (Sp)
open T (Out see skipW cut)

def AllBare (xs : List Item) : Prop := ∀ x ∈ xs, bareI x = x
theorem bare_rune (r : Int) : bareI (runeI r) = runeI r := by simp [bareI, runeI]
theorem bare_set (s : List Sp) : bareI (setI s) = setI s := by simp [bareI, setI]
theorem bare_var (n : ByteArray) : bareI (varI n) = varI n := by simp [bareI, varI]
theorem AllBare.map {xs : List Item} (h : AllBare xs) : xs.map bareI = xs := (List.map_congr_left h).trans (List.map_id' _)
theorem AllBare.nil : AllBare [] := fun x hx => by cases hx
theorem item_bare {l : List Int} {p q : Nat} {ys : List Item} (h : item l p = .ok (some ys) q) : AllBare ys := by
  unfold item at h
  split at h
  · cases h1 : T.setN 20 l p with
    | bad e r => rw [h1] at h; cases h
    | ok s r => rw [h1] at h; cases h; intro x hx; rw [List.mem_singleton] at hx; subst hx; exact bare_set _
  · split at h
    · cases h1 : varAt l p with
      | bad e r => rw [h1] at h; cases h
      | ok s r => rw [h1] at h; cases h; intro x hx; rw [List.mem_singleton] at hx; subst hx; exact bare_var _
    · split at h
      · split at h
        · cases h
          intro x hx
          obtain ⟨r, _, rfl⟩ := List.mem_map.1 hx
          exact bare_rune _
        · cases h
      · split at h
        · cases h1 : T.chr l p with
          | bad e r => rw [h1] at h; cases h
          | ok s r =>
            rw [h1] at h
            simp only at h
            split at h
            · cases h; intro x hx; rw [List.mem_singleton] at hx; subst hx; exact bare_rune _
            · cases h
        · cases h
theorem itemsN_bare {l : List Int} : ∀ (f : Nat) (xs : List Item) (c : Int) (p q : Nat) (r : List Item × Int), itemsN f l xs c p = .ok r q → AllBare xs → AllBare r.1 := by
  intro f
  induction f with
  | zero => intro xs c p q r h; rw [itemsN] at h; cases h
  | succ f ih =>
    intro xs c p q r h hx
    rw [itemsN] at h
    split at h
    · split at h
      · cases h
      · exact ih _ _ _ _ _ h hx
    · cases h1 : item l (gap l p) with
      | bad e s => rw [h1] at h; cases h
      | ok o s =>
        rw [h1] at h
        cases o with
        | none => simp only at h; cases h; exact hx
        | some ys =>
          simp only at h
          split at h
          · cases h
          · refine ih _ _ _ _ _ h fun x hm => ?_
            rcases List.mem_append.1 hm with hm | hm
            · exact hx x hm
            · exact item_bare h1 x hm
theorem items_bare {l : List Int} {p q : Nat} {r : List Item × Int} (h : items l p = .ok r q) : AllBare r.1 := itemsN_bare _ _ _ _ _ _ h AllBare.nil
def SBare (s : Side) : Prop := AllBare s.before ∧ AllBare s.source ∧ AllBare s.after
theorem SBare.eq {s : Side} (h : SBare s) : bareS s = s := by
  unfold bareS
  rw [h.1.map, h.2.1.map, h.2.2.map]
theorem tail_bare {l : List Int} {s t : Side} {p q : Nat} (h : sideTail l s p = .ok t q) (hs : SBare s) : SBare t := by
  unfold sideTail at h
  split at h
  · cases h1 : items l (p + 1) with
    | bad e r => rw [h1] at h; cases h
    | ok yc r =>
      rw [h1] at h
      have hb := items_bare h1
      obtain ⟨ys, c⟩ := yc
      simp only at h
      split at h
      · cases h
      · split at h
        · cases h; exact ⟨hs.1, hs.2.1, hb⟩
        · cases h; exact ⟨hs.1, hs.2.1, hb⟩
  · cases h; exact hs
theorem side_bare {l : List Int} {t : Side} {p q : Nat} (h : side l p = .ok t q) : SBare t := by
  unfold side at h
  simp only at h
  cases h1 : items l (if decide (see l (gap l p) = 94) = true then gap l p + 1 else gap l p) with
  | bad e r => rw [h1] at h; cases h
  | ok xc r =>
    rw [h1] at h
    have hb := items_bare h1
    obtain ⟨xs, c⟩ := xc
    simp only at h
    split at h
    · split at h
      · cases h
      · split at h
        · cases h
        · cases h2 : items l (r + 1) with
          | bad e s => rw [h2] at h; cases h
          | ok yd s =>
            rw [h2] at h
            have hb2 := items_bare h2
            obtain ⟨ys, d⟩ := yd
            exact tail_bare h ⟨hb, hb2, AllBare.nil⟩
    · exact tail_bare h ⟨AllBare.nil, hb, AllBare.nil⟩
theorem rule_bare {l : List Int} {x : Part} {p q : Nat} (h : rule l p = .ok x q) : bareP x = x := by
  unfold rule at h
  cases h1 : side l p with
  | bad e r => rw [h1] at h; cases h
  | ok a r =>
    rw [h1] at h
    simp only at h
    cases h2 : dirAt l r with
    | bad e s => rw [h2] at h; cases h
    | ok d s =>
      rw [h2] at h
      simp only at h
      cases h3 : side l s with
      | bad e t => rw [h3] at h; cases h
      | ok b t =>
        rw [h3] at h
        cases h
        have ha := (side_bare h1).eq
        have hb := (side_bare h3).eq
        unfold bareP
        simp [ha, hb]
theorem part_bare {l : List Int} {x : Part} {p q : Nat} (h : part l p = .ok x q) : bareP x = x := by
  unfold part at h
  split at h
  · split at h
    · cases h
    · unfold wholeAt at h
      split at h
      · cases h1 : T.setN 20 l (gap l (p + 2)) with
        | bad e r => rw [h1] at h; cases h
        | ok s r => rw [h1] at h; cases h; simp [bareP]
      · split at h
        · cases h; simp [bareP]
        · cases h
  · split at h
    · cases h1 : varAt l p with
      | bad e r => rw [h1] at h; cases h
      | ok n r =>
        rw [h1] at h
        simp only at h
        split at h
        · cases h2 : T.setN 20 l (gap l (gap l r + 1)) with
          | bad e s => rw [h2] at h; cases h
          | ok s t => rw [h2] at h; cases h; simp [bareP]
        · exact rule_bare h
    · exact rule_bare h
theorem parts_bare {l : List Int} : ∀ (f : Nat) (xs ys : List Part) (p q : Nat), partsN f l xs p = .ok ys q → (∀ x ∈ xs, bareP x = x) → ∀ x ∈ ys, bareP x = x := by
  intro f
  induction f with
  | zero => intro xs ys p q h; rw [partsN] at h; cases h
  | succ f ih =>
    intro xs ys p q h hx
    rw [partsN] at h
    split at h
    · cases h; exact hx
    · split at h
      · cases h
      · cases h2 : ended l p with
        | bad e r => rw [h2] at h; cases h
        | ok x r =>
          rw [h2] at h
          simp only at h
          refine ih _ _ _ _ h fun y hy => ?_
          rcases List.mem_append.1 hy with hy | hy
          · exact hx y hy
          · rw [List.mem_singleton] at hy
            subst hy
            unfold ended at h2
            cases h3 : part l p with
            | bad e s => rw [h3] at h2; cases h2
            | ok z s =>
              rw [h3] at h2
              simp only at h2
              split at h2
              · cases h2
              · split at h2
                · cases h2
                · cases h2; exact part_bare h3
/-- what is read is right, and has what its kinds have alone -/
theorem read_right {l : List Int} {ys : List Part} {q : Nat} (h : read l = .ok ys q) : ∀ x ∈ ys, partE x = 0 ∧ bareP x = x := by
  unfold read at h
  split at h
  · cases h
  · intro x hx
    exact ⟨parts_right _ _ _ _ _ h (fun y hy => by cases hy) x hx, parts_bare _ _ _ _ _ h (fun y hy => by cases hy) x hx⟩

theorem item_short {x : Item} (h : itemE x = 0) (hb : bareI x = x) : x.set.length ≤ 1000 := by
  rcases itemE_cases h with ⟨h1, _⟩ | ⟨h1, h2⟩ | ⟨h1, _⟩
  · rw [← hb]; unfold bareI; rw [if_pos h1]; simp [runeI]
  · have := (S.wrongE_zero.1 h2).1; omega
  · rw [← hb]; unfold bareI; rw [if_neg (by omega), if_neg (by omega), if_pos h1]; simp [varI]
theorem side_short {s : Side} {m : Bool} (h : sideE s m = 0) (hb : bareS s = s) : (s.before.length ≤ 1000 ∧ s.source.length ≤ 1000 ∧ s.after.length ≤ 1000) ∧ ∀ x ∈ s.before ++ s.source ++ s.after, x.set.length ≤ 1000 := by
  obtain ⟨z1, z2, z3, _, _⟩ := sideE_zero h
  obtain ⟨l1, a1⟩ := itemsE_zero.1 z1
  obtain ⟨l2, a2⟩ := itemsE_zero.1 z2
  obtain ⟨l3, a3⟩ := itemsE_zero.1 z3
  refine ⟨⟨by omega, by omega, by omega⟩, fun x hx => ?_⟩
  have key : ∀ xs : List Item, xs.map bareI = xs → (∀ x ∈ xs, itemE x = 0) → x ∈ xs → x.set.length ≤ 1000 := by
    intro xs hm ha hx
    refine item_short (ha x hx) ?_
    obtain ⟨j, hj⟩ := List.getElem?_of_mem hx
    have := congrArg (fun l => l[j]?) hm
    simp only [List.getElem?_map, hj, Option.map_some] at this
    exact Option.some.inj this
  rcases List.mem_append.1 hx with hx | hx
  · rcases List.mem_append.1 hx with hx | hx
    · exact key _ (congrArg Side.before hb) a1 hx
    · exact key _ (congrArg Side.source hb) a2 hx
  · exact key _ (congrArg Side.after hb) a3 hx

end Go.Proofs.YtajbcgobfkaahaaGreatDoor.R

/-
  What a file's reading tells where it fails is never zero.
-/
namespace Go.Proofs.YtajbcgobfkaahaaGreatDoor.R
open S (Sp)
open T (Out see skipW cut)
set_option linter.unusedVariables false

theorem num_er {l : List Int} {p q : Nat} {e : Int} (h : T.num l p = .bad e q) : e ≠ 0 := by
  unfold T.num at h
  repeat' split at h
  all_goals (cases h; try decide)
theorem esc_er {l : List Int} {p q : Nat} {e : Int} (h : T.esc l p = .bad e q) : e ≠ 0 := by
  unfold T.esc at h
  repeat' split at h
  · exact num_er h
  all_goals (cases h; try decide)
theorem chr_er {l : List Int} {p q : Nat} {e : Int} (h : T.chr l p = .bad e q) : e ≠ 0 := by
  unfold T.chr at h
  repeat' split at h
  · exact esc_er h
  all_goals (cases h; try decide)
theorem span_er {l : List Int} {p q : Nat} {e : Int} (h : T.span l p = .bad e q) : e ≠ 0 := by
  unfold T.span at h
  cases h1 : T.chr l p with
  | bad e1 r => rw [h1] at h; cases h; exact chr_er h1
  | ok lo r =>
    rw [h1] at h
    simp only at h
    split at h
    · cases h
    · cases h2 : T.chr l (r + 1) with
      | bad e1 r1 => rw [h2] at h; cases h; exact chr_er h2
      | ok hi r1 =>
        rw [h2] at h
        simp only at h
        split at h <;> cases h
        decide
theorem cls_er {l : List Int} {p q : Nat} {e : Int} (h : T.cls l p = .bad e q) : e ≠ 0 := by
  unfold T.cls at h
  split at h
  · cases h; decide
  · split at h
    · cases h; decide
    · split at h <;> cases h
      decide
theorem made_er {P : Int → Bool} {p q : Nat} {e : Int} (h : T.made P p = .bad e q) : e ≠ 0 := by
  unfold T.made at h
  split at h <;> cases h
  decide
theorem tpart_er {sub : Nat → Out (List Sp)} (hs : ∀ p e q, sub p = .bad e q → e ≠ 0) {l : List Int} {s : List Sp} {p q : Nat} {e : Int} (h : T.part sub l s p = .bad e q) : e ≠ 0 := by
  unfold T.part at h
  split at h
  · cases h1 : sub (T.skipW T.blank l (p + 1)) with
    | bad e r => rw [h1] at h; cases h; exact hs _ _ _ h1
    | ok u r => rw [h1] at h; exact made_er h
  · split at h
    · cases h1 : sub (T.skipW T.blank l (p + 1)) with
      | bad e r => rw [h1] at h; cases h; exact hs _ _ _ h1
      | ok u r => rw [h1] at h; exact made_er h
    · split at h
      · cases h1 : T.cls l p with
        | bad e r => rw [h1] at h; cases h; exact cls_er h1
        | ok u r => rw [h1] at h; exact made_er h
      · split at h
        · cases h1 : sub p with
          | bad e r => rw [h1] at h; cases h; exact hs _ _ _ h1
          | ok u r => rw [h1] at h; exact made_er h
        · cases h1 : T.span l p with
          | bad e r => rw [h1] at h; cases h; exact span_er h1
          | ok u r => rw [h1] at h; exact made_er h
theorem tpart_end {sub : Nat → Out (List Sp)} {l : List Int} {s t : List Sp} {p q : Nat} (h : T.part sub l s p = .ok t q) : p < l.length := by
  apply Classical.byContradiction
  intro hn
  have hs : see l p = -1 := T.see_ge (by omega)
  have hc : T.chr l p = .bad 2 p := by
    unfold T.chr
    rw [hs, if_neg (by decide), if_neg (by decide)]
  unfold T.part at h
  rw [hs, if_neg (by decide), if_neg (by decide), if_neg (fun h => absurd h.1 (by decide)), if_neg (by decide)] at h
  unfold T.span at h
  rw [hc] at h
  cases h
theorem loop_er {sub : Nat → Out (List Sp)} (hsub : ∀ p t q, sub p = .ok t q → p < q) (hs : ∀ p e q, sub p = .bad e q → e ≠ 0) {l : List Int} : ∀ (f : Nat) (s : List Sp) (p q : Nat) (e : Int), 0 < f → l.length < p + f → T.loop f sub l s p = .bad e q → e ≠ 0 := by
  intro f
  induction f with
  | zero => intro s p q e h0; omega
  | succ f ih =>
    intro s p q e _ hf h
    rw [T.loop] at h
    split at h
    · cases h
    · cases h1 : T.part sub l s p with
      | bad e1 r => rw [h1] at h; cases h; exact tpart_er hs h1
      | ok u r =>
        rw [h1] at h
        simp only at h
        have := part_lt hsub h1
        have := tpart_end h1
        have := T.skipW_ge T.blank l r
        exact ih _ _ _ _ (by omega) (by omega) h
theorem setN_er {l : List Int} : ∀ (n p : Nat) (e : Int) (q : Nat), T.setN n l p = .bad e q → e ≠ 0 := by
  intro n
  induction n with
  | zero => intro p e q h; rw [T.setN] at h; split at h <;> (cases h; decide)
  | succ n ih =>
    intro p e q h
    rw [T.setN] at h
    split at h
    · cases h; decide
    · split at h
      · cases h1 : T.loop (l.length + 1) (T.setN n l) l [] (T.skipW T.blank l (p + 2)) with
        | bad e r => rw [h1] at h; cases h; exact loop_er (setN_lt n) ih _ _ _ _ _ (by omega) (by omega) h1
        | ok u r => rw [h1] at h; exact made_er h
      · exact loop_er (setN_lt n) ih _ _ _ _ _ (by omega) (by omega) h
theorem varAt_er {l : List Int} {p q : Nat} {e : Int} (h : varAt l p = .bad e q) : e ≠ 0 := by
  unfold varAt at h
  split at h <;> cases h
  decide
theorem item_er {l : List Int} {p q : Nat} {e : Int} (h : item l p = .bad e q) : e ≠ 0 := by
  unfold item at h
  split at h
  · cases h1 : T.setN 20 l p with
    | bad e r => rw [h1] at h; cases h; exact setN_er _ _ _ _ h1
    | ok s r => rw [h1] at h; cases h
  · split at h
    · cases h1 : varAt l p with
      | bad e r => rw [h1] at h; cases h; exact varAt_er h1
      | ok s r => rw [h1] at h; cases h
    · split at h
      · split at h <;> cases h
        decide
      · split at h
        · cases h1 : T.chr l p with
          | bad e r => rw [h1] at h; cases h; exact chr_er h1
          | ok s r =>
            rw [h1] at h
            simp only at h
            split at h <;> cases h
            decide
        · cases h
theorem item_end {l : List Int} {p q : Nat} {ys : List Item} (h : item l p = .ok (some ys) q) : p < l.length := by
  apply Classical.byContradiction
  intro hn
  have hs : see l p = -1 := T.see_ge (by omega)
  have hv : varNext l p = false := by unfold varNext; rw [hs]; rfl
  unfold item at h
  rw [hs, if_neg (by decide), if_neg (by simp [hv]), if_neg (by decide), if_neg (by decide)] at h
  cases h
theorem itemsN_er {l : List Int} : ∀ (f : Nat) (xs : List Item) (c : Int) (p q : Nat) (e : Int), 0 < f → l.length < p + f → itemsN f l xs c p = .bad e q → e ≠ 0 := by
  intro f
  induction f with
  | zero => intro xs c p q e h0; omega
  | succ f ih =>
    intro xs c p q e _ hf h
    rw [itemsN] at h
    have hg := gap_ge l p
    split at h
    · rename_i h124
      have hlt : gap l p < l.length := Classical.byContradiction fun hn => by rw [T.see_ge (by omega)] at h124; exact absurd h124 (by decide)
      split at h
      · cases h; decide
      · exact ih _ _ _ _ _ (by omega) (by omega) h
    · cases h1 : item l (gap l p) with
      | bad e1 r => rw [h1] at h; cases h; exact item_er h1
      | ok o r =>
        rw [h1] at h
        cases o with
        | none => cases h
        | some ys =>
          simp only at h
          have := item_lt h1
          have := item_end h1
          split at h
          · cases h; decide
          · exact ih _ _ _ _ _ (by omega) (by omega) h
theorem items_er {l : List Int} {p q : Nat} {e : Int} (h : items l p = .bad e q) : e ≠ 0 := itemsN_er _ _ _ _ _ _ (by omega) (by omega) h
theorem tail_er {l : List Int} {s : Side} {p q : Nat} {e : Int} (h : sideTail l s p = .bad e q) : e ≠ 0 := by
  unfold sideTail at h
  split at h
  · cases h1 : items l (p + 1) with
    | bad e1 r => rw [h1] at h; cases h; exact items_er h1
    | ok x r =>
      rw [h1] at h
      simp only at h
      split at h
      · cases h; decide
      · split at h <;> cases h
  · cases h
theorem side_er {l : List Int} {p q : Nat} {e : Int} (h : side l p = .bad e q) : e ≠ 0 := by
  unfold side at h
  simp only at h
  split at h
  · rename_i h1; cases h; exact items_er h1
  · split at h
    · split at h
      · cases h; decide
      · split at h
        · cases h; decide
        · split at h
          · rename_i h1; cases h; exact items_er h1
          · exact tail_er h
    · exact tail_er h
theorem dir_er {l : List Int} {p q : Nat} {e : Int} (h : dirAt l p = .bad e q) : e ≠ 0 := by
  unfold dirAt at h
  simp only at h
  repeat' split at h
  all_goals (cases h; try decide)
theorem rule_er {l : List Int} {p q : Nat} {e : Int} (h : rule l p = .bad e q) : e ≠ 0 := by
  unfold rule at h
  split at h
  · rename_i h1; cases h; exact side_er h1
  · split at h
    · rename_i h1; cases h; exact dir_er h1
    · split at h
      · rename_i h1; cases h; exact side_er h1
      · cases h
theorem whole_er {l : List Int} {p q : Nat} {e : Int} (h : wholeAt l p = .bad e q) : e ≠ 0 := by
  unfold wholeAt at h
  split at h
  · split at h
    · rename_i h1; cases h; exact setN_er _ _ _ _ h1
    · cases h
  · split at h <;> cases h
    decide
theorem part_er {l : List Int} {p q : Nat} {e : Int} (h : part l p = .bad e q) : e ≠ 0 := by
  unfold part at h
  split at h
  · split at h
    · cases h; decide
    · exact whole_er h
  · split at h
    · split at h
      · rename_i h1; cases h; exact varAt_er h1
      · split at h
        · split at h
          · rename_i h1; cases h; exact setN_er _ _ _ _ h1
          · cases h
        · exact rule_er h
    · exact rule_er h
theorem ended_er {l : List Int} {p q : Nat} {e : Int} (h : ended l p = .bad e q) : e ≠ 0 := by
  unfold ended at h
  split at h
  · rename_i h1; cases h; exact part_er h1
  · split at h
    · cases h; decide
    · split at h
      · rename_i h1; cases h; exact h1
      · cases h
theorem partsN_er {l : List Int} : ∀ (f : Nat) (xs : List Part) (p q : Nat) (e : Int), xs.length ≤ 200 → 202 ≤ xs.length + f → partsN f l xs p = .bad e q → e ≠ 0 := by
  intro f
  induction f with
  | zero => intro xs p q e h1 h2; omega
  | succ f ih =>
    intro xs p q e h1 h2 h
    rw [partsN] at h
    split at h
    · cases h
    · split at h
      · cases h; decide
      · split at h
        · rename_i h3; cases h; exact ended_er h3
        · exact ih _ _ _ _ (by simp; omega) (by simp; omega) h
theorem read_er {l : List Int} {q : Nat} {e : Int} (h : read l = .bad e q) : e ≠ 0 := by
  unfold read at h
  split at h
  · cases h; decide
  · exact partsN_er _ _ _ _ _ (by simp) (by simp) h

end Go.Proofs.YtajbcgobfkaahaaGreatDoor.R

/-
  Texts as runes: a line feed parts whatever stands ahead of it from what stands behind.
-/
namespace Go.Proofs.YtajbcgobfkaahaaGreatDoor.M

set_option maxHeartbeats 2000000 in
theorem d0_nl (L M : List UInt8) (h : L ≠ []) : d0 (L ++ 10 :: M) = d0 L := by
  have hl : 1 ≤ L.length := by cases L with
    | nil => exact absurd rfl h
    | cons => simp
  have hlt : ∀ i, i < L.length → bt (L ++ 10 :: M) i = bt L i := fun i h => by simp only [bt]; rw [List.getElem?_append_left h]
  have hat : bt (L ++ 10 :: M) L.length = 10 := by simp [bt]
  have hlen : (L ++ 10 :: M).length = L.length + M.length + 1 := by simp; omega
  have hb0 := hlt 0 (by omega)
  -- each byte that goes on is one of L's
  have step : ∀ i, i ≤ L.length → ((i < L.length + M.length + 1 ∧ bt (L ++ 10 :: M) i / 64 = 2) ↔ (i < L.length ∧ bt L i / 64 = 2)) := fun i hi => by
    by_cases e : i = L.length
    · subst e
      rw [hat]
      constructor
      · rintro ⟨_, h⟩; exact absurd h (by decide)
      · rintro ⟨h, _⟩; omega
    · rw [hlt i (by omega)]
      constructor
      · rintro ⟨_, h⟩; exact ⟨by omega, h⟩
      · rintro ⟨_, h⟩; exact ⟨by omega, h⟩
  unfold d0
  rw [hb0, hlen]
  generalize bt L 0 = b0
  have s1 := step 1 hl
  by_cases c1 : 1 < L.length ∧ bt L 1 / 64 = 2
  · have e1 := hlt 1 c1.1
    have c1' := s1.2 c1
    have s2 := step 2 c1.1
    rw [e1] at c1' ⊢
    by_cases c2 : 2 < L.length ∧ bt L 2 / 64 = 2
    · have e2 := hlt 2 c2.1
      have c2' := s2.2 c2
      have s3 := step 3 c2.1
      rw [e2] at c2' ⊢
      by_cases c3 : 3 < L.length ∧ bt L 3 / 64 = 2
      · have e3 := hlt 3 c3.1
        have c3' := s3.2 c3
        rw [e3] at c3' ⊢
        unfold Lib.decodeN
        simp only [c1, c2, c3, c1', c2', c3', and_self, and_true]
      · have c3' : ¬ (3 < L.length + M.length + 1 ∧ bt (L ++ 10 :: M) 3 / 64 = 2) := fun hh => c3 (s3.1 hh)
        unfold Lib.decodeN
        simp only [c1, c2, c3, c1', c2', c3', and_self, and_true, and_false, if_false]
    · have c2' : ¬ (2 < L.length + M.length + 1 ∧ bt (L ++ 10 :: M) 2 / 64 = 2) := fun hh => c2 (s2.1 hh)
      unfold Lib.decodeN
      simp only [c1, c2, c1', c2', and_self, and_true, and_false, false_and, if_false]
  · have c1' : ¬ (1 < L.length + M.length + 1 ∧ bt (L ++ 10 :: M) 1 / 64 = 2) := fun hh => c1 (s1.1 hh)
    unfold Lib.decodeN
    simp only [c1, c1', and_false, false_and, if_false]
theorem d0_ten (M : List UInt8) : d0 (10 :: M) = (10, 1) := by
  unfold d0 Lib.decodeN
  have : bt (10 :: M) 0 = 10 := rfl
  rw [this, if_pos (by decide)]
theorem ru_nl (M : List UInt8) : ∀ L, ru (L ++ 10 :: M) = ru L ++ (10, 1) :: ru M := by
  refine ru_ind ?_ ?_
  · rw [ru_nil, List.nil_append, List.nil_append, ru_cons _ (by simp), d0_ten]
    rfl
  · intro L h ih
    have hw := d0_width L h
    rw [ru_cons (L ++ 10 :: M) (by simp), d0_nl L M h, ru_cons L h, List.drop_append_of_le_length hw.2.2, ih, List.cons_append]
theorem rn_nl (s t : ByteArray) : rn (s ++ ⟨#[10]⟩ ++ t) = rn s ++ 10 :: rn t := by
  have e : (s ++ ⟨#[10]⟩ ++ t).data.toList = s.data.toList ++ 10 :: t.data.toList := by simp
  rw [rn_ru, rn_ru, rn_ru, e, ru_nl]
  simp

end Go.Proofs.YtajbcgobfkaahaaGreatDoor.M

/-
  Parts that were read are small; a row put behind another that came later.
-/
namespace Go.Proofs.YtajbcgobfkaahaaGreatDoor
open Go.RowKit
set_option maxRecDepth 20000
set_option linter.unusedSimpArgs false
set_option linter.unusedVariables false

theorem noSide_small : (R.noSide.before.length ≤ 1000 ∧ R.noSide.source.length ≤ 1000 ∧ R.noSide.after.length ≤ 1000) ∧ ∀ x ∈ R.noSide.before ++ R.noSide.source ++ R.noSide.after, x.set.length ≤ 1000 := by
  refine ⟨⟨by simp [R.noSide], by simp [R.noSide], by simp [R.noSide]⟩, fun x hx => ?_⟩
  simp [R.noSide] at hx
theorem small_of {p : R.Part} (h : R.partE p = 0) (hb : R.bareP p = p) : R.Small p := by
  have eset := congrArg R.Part.set hb
  have el := congrArg R.Part.left hb
  have er := congrArg R.Part.right hb
  simp only [R.bareP] at eset el er
  rcases R.partE_cases h with ⟨hk, _, hw⟩ | ⟨hk, hw⟩ | ⟨hk, _⟩ | ⟨hk, hr⟩
  · rw [if_neg (by omega)] at el er
    unfold R.Small
    rw [← el, ← er]
    have := (S.wrongE_zero.1 hw).1
    exact ⟨by omega, noSide_small.1, noSide_small.2, noSide_small.1, noSide_small.2⟩
  · rw [if_neg (by omega)] at el er
    unfold R.Small
    rw [← el, ← er]
    have := (S.wrongE_zero.1 hw).1
    exact ⟨by omega, noSide_small.1, noSide_small.2, noSide_small.1, noSide_small.2⟩
  · rw [if_neg (by omega)] at el er eset
    unfold R.Small
    rw [← el, ← er, ← eset]
    exact ⟨by simp, noSide_small.1, noSide_small.2, noSide_small.1, noSide_small.2⟩
  · rw [if_pos hk] at el er
    rw [if_neg (by omega)] at eset
    obtain ⟨_, h1, h2, _⟩ := R.ruleE_zero hr
    have a := R.side_short h1 el
    have b := R.side_short h2 er
    refine ⟨?_, a.1, a.2, b.1, b.2⟩
    rw [← eset]; simp

section
variable {α : Type} {t e : TypeId} {k F : Nat} {El : α → List Value → World → Prop} {w w0 : World} {v : Value} {xs ys : List α}
/-- a row that came earlier, behind one whose block came later -/
theorem R.Row.addOld (E : R.Elem t e k) (ty : TypeId) (h : R.Row e k El F w v xs) {v2 : Value} (h2 : R.Row e k El F w0 v2 ys) (hsz : w0.heap.size ≤ w.heap.size) (hold : ∀ b, b < w0.heap.size → w.heap[b]? = w0.heap[b]?) (hne : ∀ g, v.ownBlock = some g → w0.heap.size ≤ g) (hs : xs.length + ys.length ≤ 100000000) (hb : F ≤ w.heap.size) :
    ∃ v' w', (Builtin.append_ #[t, t] ty #[v, v2]).run Tryz.prog w = .ok v' w' ∧ R.Row e k El F w' v' (xs ++ ys) ∧ w.grownBy w' v.ownBlock ∧ (∀ g, v'.ownBlock = some g → v.ownBlock = some g ∨ w.heap.size ≤ g) := by
  have h2w : R.Row e k El F w v2 ys := h2.keep hsz fun b _ hb => hold b hb
  obtain ⟨cs, own, hl, hc, hel⟩ := h
  obtain ⟨ds, own2, hl2, hc2, hel2⟩ := h2
  have hlt2 := World.ownsRow.lt own2
  have own2 : w.ownsRow F e k v2 ys.length ds.flatten := by
    rcases own2.2 with ⟨hv, h0⟩ | ⟨g, cap, cur, hv, h1, h2, h3⟩
    · exact ⟨own2.1, .inl ⟨hv, h0⟩⟩
    · refine ⟨own2.1, .inr ⟨g, cap, cur, hv, h1, ?_, h3⟩⟩
      rw [hold g (Array.getElem?_eq_some_iff.1 h2).1]; exact h2
  have hel3 : ∀ (j : Nat) x c, ys[j]? = some x → ds[j]? = some c → R.Stays F v.ownBlock w (El x c) := fun j x c hx hcj w' hk => by
    refine hel2 j x c hx hcj w' fun b h1 h3 h4 => ?_
    rw [hk b h1 (by omega) (fun he => by have := hne b he.symm; omega)]
    exact hold b h3
  have cells2 := fun g hg => World.ownsRow.cells own2 (g := g) hg
  rcases own2.2 with ⟨rfl, h0⟩ | ⟨g2, cap2, cur2, rfl, hbg2, hgg2, _⟩
  · have hy : ys = [] := List.eq_nil_of_length_eq_zero h0
    subst hy
    obtain ⟨z, bytes, hinfo, _, _⟩ := E.hi
    obtain ⟨i, hi, _, _, _⟩ := info_parts hinfo
    refine ⟨v, w, run_append_owned_none (P := Tryz.prog) w F t ty e i k E.ht hi v xs.length cs.flatten own, ?_, ⟨rfl, rfl, rfl, Nat.le_refl _, fun _ _ _ => rfl⟩, fun g hg => .inl hg⟩
    rw [List.append_nil]
    exact ⟨cs, own, hl, hc, hel⟩
  · obtain ⟨v', w', hr, o', gr, hnew⟩ := R.run_app E w ty F v xs.length cs.flatten own ⟨g2, 0, none⟩ ys.length cap2 ds.flatten own2.1 (cells2 g2 rfl) (fun u hu => by
      obtain ⟨c, hcm, hu⟩ := List.mem_flatten.1 hu
      exact (hc2 c hcm).2 u hu) hs hb
    refine ⟨v', w', hr, ⟨cs ++ ds, ?_, by simp [hl, hl2], fun c hcm => ?_, fun j x c hx hcj => ?_⟩, gr, hnew⟩
    · rw [List.flatten_append, List.length_append]; exact o'
    · rcases List.mem_append.1 hcm with h | h
      · exact hc c h
      · exact hc2 c h
    · have st : R.Stays F v.ownBlock w (El x c) := by
        by_cases hj : j < xs.length
        · rw [List.getElem?_append_left hj] at hx
          rw [List.getElem?_append_left (by omega)] at hcj
          exact hel j x c hx hcj
        · rw [List.getElem?_append_right (by omega)] at hx
          rw [List.getElem?_append_right (by omega), hl] at hcj
          exact hel3 _ x c hx hcj
      intro w'' hk
      refine st w'' fun b h1 h3 h4 => ?_
      have e1 : w'.heap[b]? = w.heap[b]? := gr.block b h3 h4
      rw [← e1]
      refine hk b h1 (by have := gr.size; omega) fun he => ?_
      rcases hnew b he.symm with h5 | h5
      · exact h4 h5.symm
      · omega
end
theorem R.list_old {α : Type} {t e : TypeId} {k F : Nat} {El : α → List Value → World → Prop} {ops : Array Oper} {rest : List Oper} {o : Oper} {a : Act} {w w0 : World} {Q : Exit → Act → World → Prop} (E : R.Elem t e k) (s x : Operand)
    (ho : o.op = .call { callee := .builtin .append, args := #[s, x], argTypes := #[t, t] }) (v v2 : Value) (xs ys : List α) (hs : a.eval s = v) (hx : a.eval x = v2) (h : R.Row e k El F w v xs) (h2 : R.Row e k El F w0 v2 ys) (hsz0 : w0.heap.size ≤ w.heap.size) (hold : ∀ b, b < w0.heap.size → w.heap[b]? = w0.heap[b]?) (hne : ∀ g, v.ownBlock = some g → w0.heap.size ≤ g)
    (hsz : xs.length + ys.length ≤ 100000000) (hb : F ≤ w.heap.size) (hgd : Region.wanted o (yielded ops a.tmps) = true)
    (hk : ∀ v' w', R.Row e k El F w' v' (xs ++ ys) → w.grownBy w' v.ownBlock → (∀ g, v'.ownBlock = some g → v.ownBlock = some g ∨ w.heap.size ≤ g) → wpList Tryz.prog ops Q rest (a.put o.dst v') w') : wpList Tryz.prog ops Q (o :: rest) a w := by
  obtain ⟨v', w', hrun, h3, h4, h5⟩ := R.Row.addOld E o.type h h2 hsz0 hold hne hsz hb
  refine wpList_step fun K hK => ?_
  simp only [hgd, if_true]
  have h' := hK _ _ (hk v' w' h3 h4 h5)
  unfold Oper.wp
  simp [execOp, ho, resolve, invoke, builtin, hs, hx, hrun, Result.andThen]
  exact h'

theorem R.Row.made0 {α : Type} {e : TypeId} {k F : Nat} {El : α → List Value → World → Prop} {w : World} (hF : F ≤ w.heap.size) : R.Row e k El F (w.alloc (.cells #[] e)) (.slice (some ⟨w.heap.size, 0, none⟩) 0 0) ([] : List α) :=
  ⟨[], World.ownsRow_made (base := F) (e := e) (size := k) w #[] 0 hF (by simp) (by simp), rfl, fun c hc => (by cases hc), fun j x c hx => (by cases hx)⟩
theorem R.kept2 (w : World) (o o' : Obj) : ∀ b, b < w.heap.size → ((w.alloc o).alloc o').heap[b]? = w.heap[b]? := fun b hb => by
  have b1 : Below w.heap.size w ((w.alloc o).alloc o') := ((Below.refl _ w).alloc (Nat.le_refl _) o).alloc (by simp) o'
  exact b1.block b hb

theorem rn_no (s : ByteArray) : ∀ z ∈ M.rn s, z ≠ -1 := by
  intro z hz
  rw [M.rn_ru] at hz
  obtain ⟨x, hx, rfl⟩ := List.mem_map.1 hz
  have h := ru_right _ x hx
  intro he
  rw [he] at h
  exact absurd h (by decide)

theorem join_read {s t : ByteArray} {a b : List R.Part} {q r : Nat} (ha : R.read (M.rn s) = .ok a q) (hb : R.read (M.rn t) = .ok b r) (hl : (s ++ ⟨#[10]⟩ ++ t).size ≤ 16000) (hab : a.length + b.length ≤ 200) : ∃ u, R.read (M.rn (s ++ ⟨#[10]⟩ ++ t)) = .ok (a ++ b) u := by
  have h := M.rn_length (s ++ ⟨#[10]⟩ ++ t)
  rw [M.rn_nl] at h ⊢
  exact R.read_join (rn_no s) ha hb (by omega) hab

theorem short_any (s : ByteArray) (hs : s.size ≤ 1099511627776) (w : World) : Calls Tryz.prog 8 #[.string s] w fun e w' => e = .returned (.bool (decide (s.size ≤ 16000))) ∧ Below w.heap.size w w' := by
  go_enter Tryz.func8, Tryz.ntmps8
  go_wp2
  go_ret
  refine ⟨?_, Below.refl _ w⟩
  congr 2
  simp
  omega
end Go.Proofs.YtajbcgobfkaahaaGreatDoor
