/-
  Files of rules: what Print writes Read reads.
-/
import Derived.Test.YtchkcjaahjhbcaaRParse
import Derived.Test.YtchkcjaahjhbcaaTText
import Derived.Laws.Strings
namespace Go.Proofs.Ytchkcjaahjhbcaa.R
open S (Sp)
open T (Out see skipW cut sits_see sits_next sits_len sits_head sits_tail sits_lt skipW_sits skipW_here)

/-! what is left of things by their kinds -/
def bareI (x : Item) : Item := if x.kind = 1 then runeI x.rune else if x.kind = 2 then setI x.set else if x.kind = 3 then varI x.name else ⟨x.kind, 0, [], ⟨#[]⟩⟩
def bareS (s : Side) : Side := ⟨s.start, s.fin, s.before.map bareI, s.source.map bareI, s.after.map bareI, s.cursor⟩
def bareP (p : Part) : Part :=
  ⟨p.kind, if p.kind = 1 ∨ p.kind = 4 then p.name else ⟨#[]⟩, if p.kind = 1 ∨ p.kind = 3 then p.set else [], if p.kind = 2 then p.dir else 0, if p.kind = 2 then bareS p.left else noSide, if p.kind = 2 then bareS p.right else noSide⟩

/-! the runes of what is written -/
def nameR (n : ByteArray) : List Int := n.data.toList.map fun b => (b.toNat : Int)
def itemR (x : Item) : List Int :=
  if x.kind = 2 then T.prtR x.set
  else if x.kind = 3 then 36 :: nameR x.name
  else T.quoR x.rune
def barR : List Int := [124, 32]
def itemsR : List Item → Int → List Int
  | [], c => if c = 0 then barR else []
  | x :: l, c => (if c = 0 then barR else []) ++ (itemR x ++ [32]) ++ itemsR l (c - 1)
def sideR (s : Side) : List Int :=
  (if s.start = true then [94, 32] else []) ++ itemsR s.before (-1) ++ (if s.start = true ∨ 0 < s.before.length then [123, 32] else []) ++
    itemsR s.source s.cursor ++ (if s.fin = true ∨ 0 < s.after.length then [125, 32] else []) ++ itemsR s.after (-1) ++ (if s.fin = true then [36, 32] else [])
def arrowR (d : Int) : List Int := if d = 1 then [62] else if d = 2 then [60] else [60, 62]
def wordsR (p : Part) : List Int :=
  if p.kind = 1 then (36 :: nameR p.name) ++ [32] ++ [61, 32] ++ (T.prtR p.set ++ [32])
  else if p.kind = 3 then [58, 58, 32] ++ (T.prtR p.set ++ [32])
  else if p.kind = 4 then [58, 58, 32] ++ (nameR p.name ++ [32])
  else if p.kind = 2 then sideR p.left ++ (arrowR p.dir ++ [32]) ++ sideR p.right
  else []
def partR (p : Part) : List Int := wordsR p ++ [59, 10]
def printR (l : List Part) : List Int := l.flatMap partR

theorem itemE_cases {x : Item} (h : itemE x = 0) : (x.kind = 1 ∧ M.right x.rune = true) ∨ (x.kind = 2 ∧ S.wrongE x.set = 0) ∨ (x.kind = 3 ∧ named x.name = true) := by
  unfold itemE at h
  by_cases h1 : x.kind = 1
  · rw [if_pos h1] at h
    by_cases h2 : M.right x.rune = true
    · exact .inl ⟨h1, h2⟩
    · rw [if_neg h2] at h; cases h
  · rw [if_neg h1] at h
    by_cases h2 : x.kind = 2
    · rw [if_pos h2] at h; exact .inr (.inl ⟨h2, h⟩)
    · rw [if_neg h2] at h
      by_cases h3 : x.kind = 3
      · rw [if_pos h3] at h
        by_cases h4 : named x.name = true
        · exact .inr (.inr ⟨h3, h4⟩)
        · rw [if_neg h4] at h; cases h
      · rw [if_neg h3] at h; cases h
theorem partE_cases {p : Part} (h : partE p = 0) : (p.kind = 1 ∧ named p.name = true ∧ S.wrongE p.set = 0) ∨ (p.kind = 3 ∧ S.wrongE p.set = 0) ∨ (p.kind = 4 ∧ passes p.name = true) ∨ (p.kind = 2 ∧ ruleE p = 0) := by
  unfold partE at h
  by_cases h1 : p.kind = 1
  · rw [if_pos h1] at h
    by_cases h2 : named p.name = true
    · rw [if_pos h2] at h; exact .inl ⟨h1, h2, h⟩
    · rw [if_neg h2] at h; cases h
  · rw [if_neg h1] at h
    by_cases h2 : p.kind = 3
    · rw [if_pos h2] at h; exact .inr (.inl ⟨h2, h⟩)
    · rw [if_neg h2] at h
      by_cases h3 : p.kind = 4
      · rw [if_pos h3] at h
        by_cases h4 : passes p.name = true
        · exact .inr (.inr (.inl ⟨h3, h4⟩))
        · rw [if_neg h4] at h; cases h
      · rw [if_neg h3] at h
        by_cases h4 : p.kind = 2
        · rw [if_pos h4] at h; exact .inr (.inr (.inr ⟨h4, h⟩))
        · rw [if_neg h4] at h; cases h

/-! names -/
theorem goodFrom_all : ∀ {l : List UInt8} {i : Nat}, goodFrom i l = true → ∀ b ∈ l, wordy (b.toNat : Int) = true := by
  intro l
  induction l with
  | nil => intro i _ b hb; cases hb
  | cons a l ih =>
    intro i h b hb
    rw [goodFrom, Bool.and_eq_true] at h
    rcases List.mem_cons.1 hb with rfl | hb
    · have := h.1
      unfold good at this
      unfold wordy
      simp only [Bool.or_eq_true, Bool.and_eq_true] at this ⊢
      rcases this with h1 | h1
      · exact .inl h1
      · exact .inr h1.2
    · exact ih h.2 b hb
theorem wordy_small {r : Int} (h : wordy r = true) : 48 ≤ r ∧ r ≤ 122 := by
  unfold wordy letter digit at h
  simp only [Bool.or_eq_true, Bool.and_eq_true, decide_eq_true_eq] at h
  omega
theorem named_runes {n : ByteArray} (h : named n = true) : (∀ r ∈ nameR n, wordy r = true) ∧ ∃ a t, nameR n = a :: t ∧ letter a = true := by
  unfold named at h
  simp only [Bool.and_eq_true, decide_eq_true_eq] at h
  obtain ⟨⟨h1, h2⟩, _⟩ := h
  have hall := goodFrom_all h1
  refine ⟨fun r hr => ?_, ?_⟩
  · obtain ⟨b, hb, rfl⟩ := List.mem_map.1 hr
    exact hall b hb
  · unfold nameR
    cases hc : n.data.toList with
    | nil =>
      have h0 : n.data.toList.length = n.size := by simp
      rw [hc] at h0
      have h0' : (0 : Nat) = n.size := h0
      omega
    | cons a t =>
      rw [hc, goodFrom, Bool.and_eq_true] at h1
      refine ⟨_, _, rfl, ?_⟩
      have := h1.1
      unfold good at this
      simpa using this
theorem bytes_nameR (n : ByteArray) : bytes (nameR n) = n := by
  unfold bytes nameR
  rw [List.map_map]
  have : ((fun r : Int => UInt8.ofNat r.toNat) ∘ fun b : UInt8 => (b.toNat : Int)) = id := by
    funext b; simp
  rw [this, List.map_id]
theorem letter_wordy {r : Int} (h : letter r = true) : wordy r = true := by unfold wordy; rw [h]; rfl
theorem nowordy32 : wordy 32 = false := by decide
theorem nowordyEnd : wordy (-1) = false := by decide

/-- the word that stands at p, with a blank behind it -/
theorem word_at {l rest m : List Int} {p : Nat} (h : l.drop p = m ++ 32 :: rest) (hm : ∀ r ∈ m, wordy r = true) (hf : ∃ a t, m = a :: t ∧ letter a = true) : wordEnd l p = p + m.length ∧ wordAt l p = bytes m := by
  obtain ⟨a, t, rfl, ha⟩ := hf
  have h1 := sits_head (a := a) (r := t ++ 32 :: rest) (by simpa using h)
  have hlt := sits_lt (a := a) (r := t ++ 32 :: rest) (by simpa using h)
  have h2 := sits_head (sits_next h)
  have e : wordEnd l p = p + (a :: t).length := by
    unfold wordEnd
    rw [h1, if_pos ha]
    exact skipW_sits h (by omega) hm nowordyEnd (by rw [h2]; exact nowordy32)
  refine ⟨e, ?_⟩
  unfold wordAt cut
  rw [e, h, Nat.add_sub_cancel_left, List.take_left]
theorem passes_named {n : ByteArray} (h : passes n = true) : (∀ r ∈ nameR n, wordy r = true) ∧ ∃ a t, nameR n = a :: t ∧ letter a = true := by
  unfold passes at h
  have h := of_decide_eq_true h
  have e : nameR n = n.toList.map fun b => (b.toNat : Int) := by
    unfold nameR; rw [ByteArray.toList_eq]
  rw [e]
  rcases h with h | h | h | h <;> rw [h] <;> exact ⟨by decide, _, _, rfl, by decide⟩

/-! gaps -/
def bl (m : List Int) : Prop := ∀ x ∈ m, T.blank x = true
theorem bl_nil : bl [] := fun x hx => by cases hx
theorem bl32 : bl [32] := fun x hx => by rw [List.mem_singleton] at hx; subst hx; decide
theorem bl10 : bl [10] := fun x hx => by rw [List.mem_singleton] at hx; subst hx; decide
theorem gap_at {l m r : List Int} {p : Nat} {a : Int} (h : l.drop p = m ++ a :: r) (hm : bl m) (hb : T.blank a = false) (h35 : a ≠ 35) : gap l p = p + m.length := by
  have hp : p ≤ l.length := by
    apply Classical.byContradiction
    intro hn
    rw [List.drop_eq_nil_of_le (by omega)] at h
    cases m <;> cases h
  have hs := sits_head (sits_next h)
  have hk := skipW_sits h hp hm (by decide) (by rw [hs]; exact hb)
  unfold gap gapN
  rw [hk, hs, if_neg h35]
theorem gap_end {l m : List Int} {p : Nat} (h : l.drop p = m) (hp : p ≤ l.length) (hm : bl m) : gap l p = l.length := by
  have h' : l.drop p = m ++ [] := by rw [h, List.append_nil]
  have hl := sits_len h' hp
  have hse : see l (p + m.length) = -1 := T.see_ge (by simp at hl; omega)
  have hk := skipW_sits h' hp hm (by decide) (by rw [hse]; decide)
  unfold gap gapN
  rw [hk, hse, if_neg (by decide)]
  simp at hl; omega

/-! items -/
theorem right_bound {r : Int} (h : M.right r = true) : 0 ≤ r ∧ r ≤ 1114111 := by
  unfold M.right at h
  have := of_decide_eq_true h
  omega

/-- what the first rune of an item is -/
theorem itemR_head {x : Item} (h : itemE x = 0) : ∃ a t, itemR x = a :: t ∧ (a = 92 ∨ T.plain a = true ∨ a = 91 ∨ a = 36) := by
  rcases itemE_cases h with ⟨h1, _⟩ | ⟨h1, _⟩ | ⟨h1, _⟩
  · obtain ⟨a, t, ha, hf⟩ := T.quoR_cons (r := x.rune)
    refine ⟨a, t, by unfold itemR; rw [if_neg (by omega), if_neg (by omega)]; exact ha, ?_⟩
    rcases hf with hf | hf
    · exact .inl hf
    · exact .inr (.inl hf)
  · obtain ⟨a, t, ha, _⟩ := T.prtR_head x.set
    exact ⟨91, a :: t, by unfold itemR; rw [if_pos h1]; exact ha, by simp⟩
  · exact ⟨36, nameR x.name, by unfold itemR; rw [if_neg (by omega), if_pos h1], by simp⟩
theorem itemR_not {a : Int} (h : a = 92 ∨ T.plain a = true ∨ a = 91 ∨ a = 36) : a ≠ 124 ∧ a ≠ 35 ∧ a ≠ 61 ∧ a ≠ 58 ∧ a ≠ 94 ∧ a ≠ 123 ∧ a ≠ 125 ∧ T.blank a = false := by
  have hb : T.blank a = false ↔ ¬ (a = 32 ∨ a = 9 ∨ a = 10) := by simp [T.blank, T.blanks]
  rw [hb]
  rcases h with rfl | h | rfl | rfl
  · decide
  · have := T.plain_cases h; omega
  · decide
  · decide

theorem varAt_named {l rest : List Int} {p : Nat} {n : ByteArray} (h : l.drop p = 36 :: nameR n ++ 32 :: rest) (hn : named n = true) : varNext l p = true ∧ varAt l p = .ok n (p + 1 + (nameR n).length) := by
  obtain ⟨hall, hf⟩ := named_runes hn
  have h36 := sits_head (a := 36) (r := nameR n ++ 32 :: rest) (by simpa using h)
  have t := sits_tail (a := 36) (r := nameR n ++ 32 :: rest) (by simpa using h)
  obtain ⟨e1, e2⟩ := word_at t hall hf
  rw [bytes_nameR] at e2
  obtain ⟨a, u, ha, hl⟩ := hf
  have h1 := sits_head (a := a) (r := u ++ 32 :: rest) (by rw [t, ha]; rfl)
  refine ⟨?_, ?_⟩
  · unfold varNext; rw [h36, h1, hl]; rfl
  · unfold varAt; rw [e2, if_pos hn, e1]

theorem item_read {l rest : List Int} {p : Nat} {x : Item} (h : l.drop p = itemR x ++ 32 :: rest) (hx : itemE x = 0) : item l p = .ok (some [bareI x]) (p + (itemR x).length) := by
  rcases itemE_cases hx with ⟨h1, h2⟩ | ⟨h1, h2⟩ | ⟨h1, h2⟩
  · have e : itemR x = T.quoR x.rune := by unfold itemR; rw [if_neg (by omega), if_neg (by omega)]
    rw [e] at h ⊢
    obtain ⟨b0, b1⟩ := right_bound h2
    have hc := T.chr_quo h b0 b1
    obtain ⟨a, t, ha, hf⟩ := T.quoR_cons (r := x.rune)
    have hs := sits_head (a := a) (r := t ++ 32 :: rest) (by rw [h, ha]; rfl)
    have hn : a ≠ 91 ∧ a ≠ 36 ∧ a ≠ 39 ∧ (a = 92 ∨ T.ordy a = true) := by
      rcases hf with rfl | hf
      · decide
      · have := T.plain_cases hf
        exact ⟨by omega, by omega, by omega, .inr (T.ordy_plain hf)⟩
    have hv : varNext l p = false := by unfold varNext; rw [hs, decide_eq_false hn.2.1]; rfl
    unfold item
    rw [hs, if_neg hn.1, hv, if_neg (by simp), if_neg hn.2.2.1, if_pos hn.2.2.2, hc]
    simp only
    rw [if_pos h2]
    unfold bareI
    rw [if_pos h1]
  · have e : itemR x = T.prtR x.set := by unfold itemR; rw [if_pos h1]
    rw [e] at h ⊢
    obtain ⟨hl, hn⟩ := S.wrongE_zero.1 h2
    obtain ⟨a, t, ha, _⟩ := T.prtR_head x.set
    have hs := sits_head (a := 91) (r := a :: t ++ 32 :: rest) (by rw [h, ha]; rfl)
    have hlt := sits_lt (a := 91) (r := a :: t ++ 32 :: rest) (by rw [h, ha]; rfl)
    have hlong := T.prt_long x.set
    have hlen := sits_len h (by omega)
    have hsz : (T.prtR x.set).length = (T.innerR x.set).length + 2 := by simp [T.prtR]
    have hset := T.set_prt (n := 19) h hn hl (by omega)
    unfold item
    rw [hs, if_pos rfl, hset]
    unfold bareI
    rw [if_neg (by omega), if_pos h1]
  · have e : itemR x = 36 :: nameR x.name := by unfold itemR; rw [if_neg (by omega), if_pos h1]
    rw [e] at h ⊢
    obtain ⟨hv, ha⟩ := varAt_named h h2
    have h36 := sits_head (a := 36) (r := nameR x.name ++ 32 :: rest) (by simpa using h)
    unfold item
    rw [h36, if_neg (by decide), hv, if_pos rfl, ha]
    simp only
    unfold bareI
    rw [if_neg (by omega), if_neg (by omega), if_pos h1, List.length_cons]
    congr 1
    omega

/-- what ends items -/
def stops (a : Int) (r : List Int) : Prop := a = 123 ∨ a = 125 ∨ a = 62 ∨ a = 60 ∨ a = 59 ∨ (a = 36 ∧ ∃ r', r = 32 :: r')
theorem item_stop {l r : List Int} {p : Nat} {a : Int} (h : l.drop p = a :: r) (hs : stops a r) : item l p = .ok none p ∧ a ≠ 124 ∧ a ≠ 35 ∧ a ≠ 61 ∧ a ≠ 58 ∧ a ≠ 94 ∧ T.blank a = false := by
  have h0 := sits_head h
  have hv : varNext l p = false := by
    unfold varNext
    rw [h0]
    rcases hs with rfl | rfl | rfl | rfl | rfl | ⟨rfl, r', rfl⟩
    · rfl
    · rfl
    · rfl
    · rfl
    · rfl
    · rw [sits_head (sits_tail h)]; rfl
  have hn : a ≠ 91 ∧ a ≠ 39 ∧ ¬ (a = 92 ∨ T.ordy a = true) ∧ a ≠ 124 ∧ a ≠ 35 ∧ a ≠ 61 ∧ a ≠ 58 ∧ a ≠ 94 ∧ T.blank a = false := by
    rcases hs with rfl | rfl | rfl | rfl | rfl | ⟨rfl, _⟩ <;> decide
  refine ⟨?_, hn.2.2.2⟩
  unfold item
  rw [h0, if_neg hn.1, hv, if_neg (by simp), if_neg hn.2.1, if_neg hn.2.2.1]

/-- what the first rune of items is, or of what stops them -/
theorem itemsR_head {ys : List Item} {k : Int} {a : Int} {r : List Int} (hy : ∀ x ∈ ys, itemE x = 0) (hs : stops a r) : ∃ b t, itemsR ys k ++ a :: r = b :: t ∧ b ≠ 35 ∧ b ≠ 61 ∧ b ≠ 58 ∧ b ≠ 94 ∧ T.blank b = false := by
  have ha := item_stop (l := a :: r) (p := 0) (a := a) (r := r) rfl hs
  cases ys with
  | nil =>
    rw [itemsR]
    by_cases hk : k = 0
    · rw [if_pos hk]; exact ⟨124, _, rfl, by decide⟩
    · rw [if_neg hk]; exact ⟨a, r, rfl, ha.2.2⟩
  | cons x ys =>
    rw [itemsR]
    by_cases hk : k = 0
    · rw [if_pos hk]; exact ⟨124, _, rfl, by decide⟩
    · obtain ⟨b, t, hb, hf⟩ := itemR_head (hy x (by simp))
      have hn := itemR_not hf
      rw [if_neg hk, hb]
      exact ⟨b, _, rfl, hn.2.1, hn.2.2.1, hn.2.2.2.1, hn.2.2.2.2.1, hn.2.2.2.2.2.2.2⟩

theorem items_go {l r : List Int} {a : Int} (hs : stops a r) : ∀ (ys xs : List Item) (k c : Int) (f p : Nat) (bs : List Int), l.drop p = bs ++ (itemsR ys k ++ a :: r) → bl bs → (∀ x ∈ ys, itemE x = 0) → xs.length + ys.length ≤ 20 → k ≤ ys.length → (0 ≤ k → c < 0) → 2 * ys.length + 2 ≤ f →
    itemsN f l xs c p = .ok (xs ++ ys.map bareI, if 0 ≤ k then xs.length + k else c) (p + bs.length + (itemsR ys k).length) := by
  intro ys
  induction ys with
  | nil =>
    intro xs k c f p bs h hb _ hl hk hc hf
    obtain ⟨f, rfl⟩ : ∃ g, f = g + 2 := ⟨f - 2, by simp at hf; omega⟩
    simp at hk
    by_cases hk0 : k = 0
    · subst hk0
      rw [itemsR, if_pos rfl] at h ⊢
      have h1 : l.drop p = bs ++ 124 :: (32 :: a :: r) := by rw [h]; rfl
      have g1 := gap_at h1 hb (by decide) (by decide)
      have n1 := sits_next h1
      have s1 := sits_head n1
      have t1 := sits_tail n1
      have hst := fun q (hq : l.drop q = a :: r) => item_stop hq hs
      have hq := hst (p + bs.length + 1 + 1) (sits_tail t1)
      have g2 := gap_at (m := [32]) (l := l) (p := p + bs.length + 1) (by rw [t1]; rfl) bl32 hq.2.2.2.2.2.2 hq.2.2.1
      have s2 := sits_head (sits_tail t1)
      rw [itemsN, g1, s1, if_pos rfl, if_neg (by have := hc (by omega); omega), itemsN, g2]
      simp only [List.length_singleton]
      rw [s2, if_neg hq.2.1, hq.1]
      simp [barR]
    · rw [itemsR, if_neg hk0] at h ⊢
      have h1 : l.drop p = bs ++ a :: r := by rw [h]; rfl
      have n1 := sits_next h1
      have hq := item_stop n1 hs
      have g1 := gap_at h1 hb hq.2.2.2.2.2.2 hq.2.2.1
      rw [itemsN, g1, sits_head n1, if_neg hq.2.1, hq.1]
      simp
      omega
  | cons x ys ih =>
    intro xs k c f p bs h hb hy hl hk hc hf
    obtain ⟨f, rfl⟩ : ∃ g, f = g + 2 := ⟨f - 2, by simp at hf; omega⟩
    simp only [List.length_cons] at hl hk hf
    obtain ⟨b, t, hbt, hfi⟩ := itemR_head (hy x (by simp))
    have hn := itemR_not hfi
    have hx := hy x (by simp)
    -- the item itself, and what follows
    have step : ∀ (f p : Nat) (bs : List Int) (k c : Int), l.drop p = bs ++ (itemR x ++ 32 :: (itemsR ys k ++ a :: r)) → bl bs → k ≤ ys.length → (0 ≤ k → c < 0) → 2 * ys.length + 2 ≤ f →
        itemsN (f + 1) l xs c p = .ok (xs ++ (x :: ys).map bareI, if 0 ≤ k then xs.length + 1 + k else c) (p + bs.length + (itemR x).length + 1 + (itemsR ys k).length) := by
      intro f p bs k c h hb hk hc hf
      have n1 := sits_next h
      have hd : l.drop (p + bs.length) = b :: (t ++ 32 :: (itemsR ys k ++ a :: r)) := by rw [n1, hbt]; rfl
      have g1 := gap_at (a := b) (r := t ++ 32 :: (itemsR ys k ++ a :: r)) (m := bs) (l := l) (p := p) (by rw [h, hbt]; rfl) hb hn.2.2.2.2.2.2.2 hn.2.1
      have hi := item_read n1 hx
      have hnx := sits_next n1
      have := ih (xs ++ [bareI x]) k c f (p + bs.length + (itemR x).length) [32] (by rw [hnx]; rfl) bl32 (fun y hy' => hy y (List.mem_cons_of_mem _ hy')) (by simp; omega) hk hc (by omega)
      rw [itemsN, g1, sits_head hd, if_neg hn.1, hi]
      simp only
      rw [if_neg (by simp; omega), this]
      simp
    by_cases hk0 : k = 0
    · subst hk0
      rw [itemsR, if_pos rfl] at h ⊢
      have h1 : l.drop p = bs ++ 124 :: (32 :: (itemR x ++ 32 :: (itemsR ys (0 - 1) ++ a :: r))) := by rw [h]; simp [barR]
      have g1 := gap_at h1 hb (by decide) (by decide)
      have n1 := sits_next h1
      have s1 := sits_head n1
      have t1 := sits_tail n1
      have hst := step f (p + bs.length + 1) [32] (0 - 1) xs.length (by rw [t1]; rfl) bl32 (by omega) (by omega) (by omega)
      rw [itemsN, g1, s1, if_pos rfl, if_neg (by have := hc (by omega); omega), hst]
      rw [if_neg (by omega), if_pos (by omega)]
      simp [barR]
      omega
    · rw [itemsR, if_neg hk0] at h ⊢
      have h1 : l.drop p = bs ++ (itemR x ++ 32 :: (itemsR ys (k - 1) ++ a :: r)) := by rw [h]; simp
      have hst := step (f + 1) p bs (k - 1) c h1 hb (by omega) (fun h0 => hc (by omega)) (by omega)
      rw [hst]
      by_cases hk1 : 0 ≤ k
      · rw [if_pos (by omega), if_pos hk1]
        simp
        refine ⟨by omega, by omega⟩
      · rw [if_neg (by omega), if_neg hk1]
        simp
        try omega

theorem itemsR_len : ∀ (ys : List Item) (k : Int), (∀ x ∈ ys, itemE x = 0) → 2 * ys.length ≤ (itemsR ys k).length := by
  intro ys
  induction ys with
  | nil => intro k _; simp
  | cons x ys ih =>
    intro k h
    have := ih (k - 1) fun y hy => h y (List.mem_cons_of_mem _ hy)
    obtain ⟨a, t, ha, _⟩ := itemR_head (h x (by simp))
    rw [itemsR, ha]
    simp only [List.length_append, List.length_cons, List.length_nil]
    omega

theorem items_read {l r bs : List Int} {a : Int} (hs : stops a r) {ys : List Item} {k : Int} {p : Nat} (h : l.drop p = bs ++ (itemsR ys k ++ a :: r)) (hb : bl bs) (hy : itemsE ys = 0) (hk1 : -1 ≤ k) (hk : k ≤ ys.length) :
    ∃ q, items l p = .ok (ys.map bareI, k) q ∧ l.drop q = a :: r := by
  obtain ⟨h20, hall⟩ := itemsE_zero.1 hy
  have hp : p < l.length := by
    apply Classical.byContradiction
    intro hn
    rw [List.drop_eq_nil_of_le (by omega)] at h
    have := congrArg List.length h
    simp at this
  have hlen := sits_len h (by omega)
  have hil := itemsR_len ys k hall
  simp only [List.length_append, List.length_cons] at hlen
  have := items_go hs ys [] k (-1) (l.length + 2) p bs h hb hall (by simpa using h20) hk (by omega) (by omega)
  refine ⟨_, ?_, sits_next (sits_next h)⟩
  unfold items
  rw [this]
  simp
  intro h0
  omega

end Go.Proofs.Ytchkcjaahjhbcaa.R
