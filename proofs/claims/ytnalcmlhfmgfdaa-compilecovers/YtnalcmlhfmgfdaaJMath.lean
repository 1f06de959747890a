/-
  Heads, in plain lists: between two edges no rule comes or goes, and at each edge one does.
-/
import Derived.Test.YtnalcmlhfmgfdaaJComp
namespace Go.Proofs.Ytnalcmlhfmgfdaa
open Go.RowKit Go.Shelf
set_option linter.unusedSimpArgs false
set_option linter.unusedVariables false
namespace J
theorem mem_ends {s : List S.Sp} {y : Int} : y ∈ ends s ↔ ∃ x ∈ s, y = x.1 ∨ y = x.2 + 1 := by
  unfold ends
  rw [List.mem_flatMap]
  simp
theorem between {s : List S.Sp} : ∀ (n : Nat) {a q : Int}, q = a + n → (∀ y ∈ ends s, ¬ (a < y ∧ y ≤ q)) → S.memb s q = S.memb s a := by
  intro n
  induction n with
  | zero => intro a q hq _; rw [hq]; simp
  | succ n ih =>
    intro a q hq h
    have h1 := ih (a := a) (q := q - 1) (by omega) (fun y hy hh => h y hy ⟨hh.1, by omega⟩)
    rw [← h1]
    cases e1 : S.memb s q with
    | true =>
      cases e2 : S.memb s (q - 1) with
      | true => rfl
      | false =>
        obtain ⟨x, hx, he⟩ := List.mem_map.1 (S.starts e1 e2)
        exact absurd ⟨by omega, by omega⟩ (h q (mem_ends.2 ⟨x, hx, .inl he.symm⟩))
    | false =>
      cases e2 : S.memb s (q - 1) with
      | false => rfl
      | true =>
        obtain ⟨x, hx, he⟩ := List.mem_map.1 (S.stops e1 e2)
        exact absurd ⟨by omega, by omega⟩ (h q (mem_ends.2 ⟨x, hx, .inr he.symm⟩))
theorem after {b : Int} {s : List S.Sp} (h : S.Nf b s) {x : S.Sp} (hx : x ∈ s) : S.memb s x.2 = true ∧ S.memb s (x.2 + 1) = false := by
  have h0 := h.mem hx
  refine ⟨S.memb_iff.2 ⟨x, hx, h0.2.1, Int.le_refl _⟩, ?_⟩
  cases e : S.memb s (x.2 + 1) with
  | false => rfl
  | true =>
    obtain ⟨y, hy, h1, h2⟩ := S.memb_iff.1 e
    obtain ⟨i, hi⟩ := List.getElem?_of_mem hx
    obtain ⟨j, hj⟩ := List.getElem?_of_mem hy
    rcases Nat.lt_trichotomy i j with hij | rfl | hij
    · have := h.rise hij hi hj; omega
    · rw [hi] at hj; cases hj; omega
    · have := h.rise hij hj hi; have := h0.2.1; omega
theorem change {b : Int} {s : List S.Sp} (h : S.Nf b s) {y : Int} (hy : y ∈ ends s) : S.memb s y ≠ S.memb s (y - 1) := by
  obtain ⟨x, hx, rfl | rfl⟩ := mem_ends.1 hy
  · obtain ⟨h1, h2⟩ := h.begins hx
    rw [h1, h2]; decide
  · obtain ⟨h1, h2⟩ := after h hx
    rw [show x.2 + 1 - 1 = x.2 by omega, h1, h2]; decide
theorem which_congr {f g : K.Rule → Bool} {l : List K.Rule} (h : ∀ r ∈ l, f r = g r) : ∀ i, which f i l = which g i l := by
  induction l with
  | nil => intro i; rfl
  | cons x l ih => intro i; rw [which, which, h x (List.mem_cons_self ..), ih fun r hr => h r (List.mem_cons_of_mem _ hr)]
theorem which_ge {f : K.Rule → Bool} {l : List K.Rule} : ∀ i, ∀ z ∈ which f i l, (i : Int) ≤ z := by
  induction l with
  | nil => intro i z hz; simp [which] at hz
  | cons x l ih =>
    intro i z hz
    rw [which] at hz
    rcases List.mem_append.1 hz with hz | hz
    · split at hz <;> simp at hz
      omega
    · have := ih (i + 1) z hz; omega
theorem which_inj {f g : K.Rule → Bool} {l : List K.Rule} : ∀ i, which f i l = which g i l → ∀ r ∈ l, f r = g r := by
  induction l with
  | nil => intro i _ r hr; cases hr
  | cons x l ih =>
    intro i h r hr
    rw [which, which] at h
    have key : f x = g x ∧ which f (i + 1) l = which g (i + 1) l := by
      cases hf : f x <;> cases hg : g x <;> rw [hf, hg] at h
      · simpa using h
      · simp at h
        have := which_ge (f := f) (l := l) (i + 1) i (by rw [h]; simp)
        omega
      · simp at h
        have := which_ge (f := g) (l := l) (i + 1) i (by rw [← h]; simp)
        omega
      · simpa using h
    rcases List.mem_cons.1 hr with rfl | hr
    · exact key.1
    · exact ih (i + 1) key.2 r hr

section
variable {l : List K.Rule} {c : List Int}
theorem Cuts.get (h : Cuts l c) {k : Nat} (hk : k < c.length) : c.getD k 0 ∈ c := by simp [List.getD, hk]
theorem Cuts.lt (h : Cuts l c) {i j : Nat} (hij : i < j) (hj : j < c.length) : c.getD i 0 < c.getD j 0 := by
  have := List.pairwise_iff_getElem.1 h.1 i j (by omega) hj hij
  simpa [List.getD, hj, show i < c.length by omega] using this
theorem Cuts.le (h : Cuts l c) {i j : Nat} (hij : i ≤ j) (hj : j < c.length) : c.getD i 0 ≤ c.getD j 0 := by
  rcases Nat.lt_or_eq_of_le hij with h1 | rfl
  · have := h.lt h1 hj; omega
  · exact Int.le_refl _
theorem Cuts.ix (h : Cuts l c) {y : Int} (hy : y ∈ edgesL l) : ∃ j, j < c.length ∧ c.getD j 0 = y := by
  obtain ⟨j, hj, he⟩ := List.getElem_of_mem ((h.2 y).2 hy)
  exact ⟨j, hj, by simp [List.getD, hj, he]⟩
theorem Cuts.first (h : Cuts l c) (hE : ∀ r ∈ l, K.ruleE r = 0) : c.getD 0 0 = 0 := by
  obtain ⟨j, hj, he⟩ := h.ix (y := 0) (by simp [edgesL])
  have h1 := h.le (Nat.zero_le j) hj
  have h2 := mem_range hE ((h.2 _).1 (h.get (k := 0) (by omega)))
  omega
theorem Cuts.last (h : Cuts l c) (hE : ∀ r ∈ l, K.ruleE r = 0) : c.getD (c.length - 1) 0 = 1114112 := by
  obtain ⟨j, hj, he⟩ := h.ix (y := 1114112) (by simp [edgesL])
  have h1 := h.le (i := j) (j := c.length - 1) (by omega) (by omega)
  have h2 := mem_range hE ((h.2 _).1 (h.get (k := c.length - 1) (by omega)))
  omega
theorem Cuts.none (h : Cuts l c) {k : Nat} (hk : k + 1 < c.length) {y : Int} (hy : y ∈ edgesL l) : ¬ (c.getD k 0 < y ∧ y < c.getD (k + 1) 0) := by
  obtain ⟨j, hj, rfl⟩ := h.ix hy
  rintro ⟨h1, h2⟩
  have h3 : k < j := Nat.lt_of_not_le fun hh => by have := h.le hh (by omega); omega
  have := h.le (i := k + 1) (j := j) (by omega) hj
  omega
theorem edge_of {r : K.Rule} (hr : r ∈ l) {y : Int} (hy : y ∈ ends (K.headS r)) : y ∈ edgesL l := by
  unfold edgesL
  exact List.mem_append_right _ (List.mem_flatMap.2 ⟨r, hr, hy⟩)
/-- between two edges the same rules begin -/
theorem Cuts.same (h : Cuts l c) {k : Nat} (hk : k + 1 < c.length) {q : Int} (h1 : c.getD k 0 ≤ q) (h2 : q < c.getD (k + 1) 0) : begins l q = begins l (c.getD k 0) := by
  refine which_congr (fun r hr => ?_) 0
  refine between (q - c.getD k 0).toNat (by omega) fun y hy hh => ?_
  exact h.none hk (edge_of hr hy) ⟨hh.1, by omega⟩
/-- at an edge a rule comes or goes -/
theorem Cuts.diff (h : Cuts l c) (hE : ∀ r ∈ l, K.ruleE r = 0) {k : Nat} (hk : k + 2 < c.length) : begins l (c.getD k 0) ≠ begins l (c.getD (k + 1) 0) := by
  intro he
  have hf := h.first hE
  have hl := h.last hE
  have h1 := h.lt (i := k) (j := k + 1) (by omega) (by omega)
  have h2 := h.lt (i := k + 1) (j := c.length - 1) (by omega) (by omega)
  have h0 := h.le (i := 0) (j := k) (by omega) (by omega)
  have hm := (h.2 _).1 (h.get (k := k + 1) (by omega))
  unfold edgesL at hm
  rcases List.mem_append.1 hm with hm | hm
  · simp only [List.mem_cons, List.not_mem_nil, or_false] at hm; omega
  · obtain ⟨r, hr, hy⟩ := List.mem_flatMap.1 hm
    have e1 : S.memb (K.headS r) (c.getD k 0) = S.memb (K.headS r) (c.getD (k + 1) 0) := which_inj 0 he r hr
    have e2 := h.same (k := k) (by omega) (q := c.getD (k + 1) 0 - 1) (by omega) (by omega)
    have e3 : S.memb (K.headS r) (c.getD (k + 1) 0 - 1) = S.memb (K.headS r) (c.getD k 0) := which_inj 0 e2 r hr
    exact change (K.head_ok (hE r hr)).1 hy (by rw [e3, ← e1])
/-- each number lies between two edges -/
theorem Cuts.at (h : Cuts l c) (hE : ∀ r ∈ l, K.ruleE r = 0) {q : Int} (h0 : 0 ≤ q) (h1 : q ≤ 1114111) : ∃ k, k + 1 < c.length ∧ c.getD k 0 ≤ q ∧ q < c.getD (k + 1) 0 := by
  have hf := h.first hE
  have hl := h.last hE
  have ht := h.two
  have key : ∀ n, n < c.length → q < c.getD n 0 → ∃ k, k + 1 < c.length ∧ c.getD k 0 ≤ q ∧ q < c.getD (k + 1) 0 := by
    intro n
    induction n with
    | zero => intro _ hq; omega
    | succ n ih =>
      intro hn hq
      by_cases hc : q < c.getD n 0
      · exact ih (by omega) hc
      · exact ⟨n, hn, by omega, hq⟩
  exact key (c.length - 1) (by omega) (by omega)
end
end J
end Go.Proofs.Ytnalcmlhfmgfdaa
