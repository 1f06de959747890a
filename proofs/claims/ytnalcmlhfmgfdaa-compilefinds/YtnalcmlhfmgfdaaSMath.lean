/-
  Sets of numbers as spans: the one form of a set, and what its operators make. No word here speaks of the program.
-/
namespace Go.Proofs.Ytnalcmlhfmgfdaa.S

abbrev Sp := Int × Int

/-- the set of spans has a number -/
def memb (l : List Sp) (r : Int) : Bool := l.any fun x => decide (x.1 ≤ r) && decide (r ≤ x.2)

theorem memb_iff {l : List Sp} {r : Int} : memb l r = true ↔ ∃ x ∈ l, x.1 ≤ r ∧ r ≤ x.2 := by
  simp [memb]

theorem memb_nil (r : Int) : memb [] r = false := rfl
theorem memb_cons (x : Sp) (l : List Sp) (r : Int) : memb (x :: l) r = ((decide (x.1 ≤ r) && decide (r ≤ x.2)) || memb l r) := rfl
theorem memb_append (l m : List Sp) (r : Int) : memb (l ++ m) r = (memb l r || memb m r) := by simp [memb]

theorem bool_eq {a b : Bool} (h : a = true ↔ b = true) : a = b := by
  cases a <;> cases b <;> simp_all

/-- spans that rise from b on, with a number between two -/
def Nf : Int → List Sp → Prop
  | _, [] => True
  | b, x :: l => b ≤ x.1 ∧ x.1 ≤ x.2 ∧ x.2 ≤ 1114111 ∧ Nf (x.2 + 2) l

theorem Nf.mono {b b' : Int} {l : List Sp} (h : Nf b l) (hb : b' ≤ b) : Nf b' l := by
  cases l with
  | nil => trivial
  | cons x l => exact ⟨by have := h.1; omega, h.2⟩

theorem Nf.low {b : Int} {l : List Sp} (h : Nf b l) {r : Int} (hr : memb l r = true) : b ≤ r ∧ r ≤ 1114111 := by
  induction l generalizing b with
  | nil => simp [memb] at hr
  | cons x l ih =>
    obtain ⟨h1, h2, h3, h4⟩ := h
    rw [memb_cons] at hr
    simp only [Bool.or_eq_true, Bool.and_eq_true, decide_eq_true_eq] at hr
    rcases hr with hr | hr
    · omega
    · have := ih h4 hr; omega

theorem Nf.mem {b : Int} {l : List Sp} (h : Nf b l) {x : Sp} (hx : x ∈ l) : b ≤ x.1 ∧ x.1 ≤ x.2 ∧ x.2 ≤ 1114111 := by
  induction l generalizing b with
  | nil => simp at hx
  | cons y l ih =>
    obtain ⟨h1, h2, h3, h4⟩ := h
    rcases List.mem_cons.1 hx with rfl | hx
    · exact ⟨h1, h2, h3⟩
    · have := ih h4 hx; omega

/-- ONE SET, ONE FORM -/
theorem Nf.unique {b : Int} {l m : List Sp} (hl : Nf b l) (hm : Nf b m) (h : ∀ r, memb l r = memb m r) : l = m := by
  induction l generalizing b m with
  | nil =>
    cases m with
    | nil => rfl
    | cons y m =>
      have := h y.1
      rw [memb_nil, memb_cons] at this
      have h2 := hm.2.1
      simp [h2] at this
  | cons x l ih =>
    cases m with
    | nil =>
      have := h x.1
      rw [memb_nil, memb_cons] at this
      have h2 := hl.2.1
      simp [h2] at this
    | cons y m =>
      obtain ⟨a1, a2, a3, a4⟩ := hl
      obtain ⟨b1, b2, b3, b4⟩ := hm
      have lowl : ∀ r, memb (x :: l) r = true → x.1 ≤ r := fun r hr => (Nf.low (b := x.1) (l := x :: l) ⟨Int.le_refl _, a2, a3, a4⟩ hr).1
      have lowm : ∀ r, memb (y :: m) r = true → y.1 ≤ r := fun r hr => (Nf.low (b := y.1) (l := y :: m) ⟨Int.le_refl _, b2, b3, b4⟩ hr).1
      have e1 : x.1 = y.1 := by
        have p1 := lowl y.1 (by rw [h, memb_cons]; simp [b2])
        have p2 := lowm x.1 (by rw [← h, memb_cons]; simp [a2])
        omega
      have outl : ∀ r, r ≤ x.2 + 1 → memb l r = false := fun r hr => by
        cases hq : memb l r with
        | false => rfl
        | true => have := (a4.low hq).1; omega
      have outm : ∀ r, r ≤ y.2 + 1 → memb m r = false := fun r hr => by
        cases hq : memb m r with
        | false => rfl
        | true => have := (b4.low hq).1; omega
      have e2 : x.2 = y.2 := by
        rcases Int.lt_trichotomy x.2 y.2 with hlt | heq | hgt
        · have := h (x.2 + 1)
          rw [memb_cons, memb_cons, outl _ (by omega)] at this
          have q : ¬ x.2 + 1 ≤ x.2 := by omega
          have q2 : y.1 ≤ x.2 + 1 := by omega
          have q3 : x.2 + 1 ≤ y.2 := by omega
          simp [q, q2, q3] at this
        · exact heq
        · have := h (y.2 + 1)
          rw [memb_cons, memb_cons, outm _ (by omega)] at this
          have q : ¬ y.2 + 1 ≤ y.2 := by omega
          have q2 : x.1 ≤ y.2 + 1 := by omega
          have q3 : y.2 + 1 ≤ x.2 := by omega
          simp [q, q2, q3] at this
      have e : x = y := Prod.ext e1 e2
      subst e
      rw [ih a4 b4 fun r => ?_]
      by_cases hr : r ≤ x.2 + 1
      · rw [outl r hr, outm r hr]
      · have := h r
        rw [memb_cons, memb_cons] at this
        have q : ¬ r ≤ x.2 := by omega
        simpa [q] using this

/-- spans at the end -/
theorem Nf.snoc {b : Int} {l : List Sp} {p x : Sp} (h : Nf b (l ++ [p])) (hx : p.2 + 2 ≤ x.1) (h1 : x.1 ≤ x.2) (h2 : x.2 ≤ 1114111) : Nf b (l ++ [p] ++ [x]) := by
  induction l generalizing b with
  | nil => obtain ⟨a, c, d, _⟩ := h; exact ⟨a, c, d, hx, h1, h2, trivial⟩
  | cons y l ih => obtain ⟨a, c, d, e⟩ := h; exact ⟨a, c, d, ih e⟩
theorem Nf.wide {b : Int} {l : List Sp} {p : Sp} {q : Int} (h : Nf b (l ++ [p])) (h1 : p.2 ≤ q) (h2 : q ≤ 1114111) : Nf b (l ++ [(p.1, q)]) := by
  induction l generalizing b with
  | nil => obtain ⟨a, c, d, _⟩ := h; exact ⟨a, by show p.1 ≤ q; omega, h2, trivial⟩
  | cons y l ih => obtain ⟨a, c, d, e⟩ := h; exact ⟨a, c, d, ih e⟩
theorem Nf.one {b : Int} {x : Sp} (h : b ≤ x.1) (h1 : x.1 ≤ x.2) (h2 : x.2 ≤ 1114111) : Nf b [x] := ⟨h, h1, h2, trivial⟩
theorem Nf.part {b : Int} {l m : List Sp} (h : Nf b (l ++ m)) : Nf b l := by
  induction l generalizing b with
  | nil => trivial
  | cons y l ih => obtain ⟨a, c, d, e⟩ := h; exact ⟨a, c, d, ih e⟩
theorem Nf.take {b : Int} {l : List Sp} (h : Nf b l) (n : Nat) : Nf b (l.take n) := Nf.part (m := l.drop n) (by rw [List.take_append_drop]; exact h)

/-- what 'join' does -/
def joinF (s : List Sp) (x : Sp) : List Sp :=
  match s.getLast? with
  | none => [x]
  | some p => if p.2 + 1 < x.1 then s ++ [x] else s.dropLast ++ [(p.1, max p.2 x.2)]

theorem joinF_nil (x : Sp) : joinF [] x = [x] := rfl
theorem joinF_snoc (l : List Sp) (p x : Sp) : joinF (l ++ [p]) x = if p.2 + 1 < x.1 then l ++ [p] ++ [x] else l ++ [(p.1, max p.2 x.2)] := by
  simp [joinF]

theorem snoc_cases (l : List Sp) : l = [] ∨ ∃ m p, l = m ++ [p] := by
  rcases List.eq_nil_or_concat l with h | ⟨m, p, h⟩
  · exact .inl h
  · exact .inr ⟨m, p, by simpa using h⟩

/-- one span that begins nowhere ahead of the last one's Low is put to a set -/
theorem joinF_nf {s : List Sp} {x : Sp} (h : Nf 0 s) (h0 : 0 ≤ x.1) (h1 : x.1 ≤ x.2) (h2 : x.2 ≤ 1114111) (hl : ∀ p, s.getLast? = some p → p.1 ≤ x.1) : Nf 0 (joinF s x) ∧ ∀ r, memb (joinF s x) r = (memb s r || (decide (x.1 ≤ r) && decide (r ≤ x.2))) := by
  rcases snoc_cases s with rfl | ⟨m, p, rfl⟩
  · exact ⟨Nf.one h0 h1 h2, fun r => by simp [joinF_nil, memb_cons, memb_nil]⟩
  · have hp := hl p (by simp)
    have hpm := h.mem (x := p) (by simp)
    rw [joinF_snoc]
    by_cases hc : p.2 + 1 < x.1
    · rw [if_pos hc]
      exact ⟨h.snoc (by omega) h1 h2, fun r => by rw [memb_append]; simp [memb_cons, memb_nil]⟩
    · rw [if_neg hc]
      refine ⟨h.wide (by omega) (by omega), fun r => ?_⟩
      rw [memb_append, memb_append, Bool.or_assoc]
      congr 1
      apply bool_eq
      simp [memb_cons, memb_nil]
      omega

theorem joinF_last {s : List Sp} {x : Sp} : ∃ q, (joinF s x).getLast? = some q ∧ (q.1 = x.1 ∨ ∃ p, s.getLast? = some p ∧ q.1 = p.1) := by
  rcases snoc_cases s with rfl | ⟨m, p, rfl⟩
  · exact ⟨x, by simp [joinF], .inl rfl⟩
  · rw [joinF_snoc]
    by_cases hc : p.2 + 1 < x.1
    · rw [if_pos hc]; exact ⟨x, by simp, .inl rfl⟩
    · rw [if_neg hc]; exact ⟨(p.1, max p.2 x.2), by simp, .inr ⟨p, by simp, rfl⟩⟩

theorem joinF_length (s : List Sp) (x : Sp) : (joinF s x).length ≤ s.length + 1 := by
  rcases snoc_cases s with rfl | ⟨m, p, rfl⟩
  · simp [joinF_nil]
  · rw [joinF_snoc]
    by_cases hc : p.2 + 1 < x.1
    · rw [if_pos hc]; simp
    · rw [if_neg hc]; simp

/-- what is wrong with spans -/
def bad (x : Sp) : Bool := decide (x.1 < 0) || decide (1114111 < x.2) || decide (x.2 < x.1)
theorem bad_false {x : Sp} : bad x = false ↔ 0 ≤ x.1 ∧ x.1 ≤ x.2 ∧ x.2 ≤ 1114111 := by
  simp [bad]; omega

def wgo : Int → List Sp → Int
  | _, [] => 0
  | b, x :: l => if bad x = true then 3 else if x.1 < b then 2 else wgo (x.2 + 2) l

theorem wgo_zero {b : Int} {l : List Sp} (hb : 0 ≤ b) : wgo b l = 0 ↔ Nf b l := by
  induction l generalizing b with
  | nil => simp [wgo, Nf]
  | cons x l ih =>
    simp only [wgo, Nf]
    cases hbad : bad x with
    | true =>
      have : ¬ (0 ≤ x.1 ∧ x.1 ≤ x.2 ∧ x.2 ≤ 1114111) := fun h => by rw [bad_false.2 h] at hbad; cases hbad
      simp
      intro h1 h2 h3
      omega
    | false =>
      have hok := bad_false.1 hbad
      by_cases hlt : x.1 < b
      · simp [hlt]; omega
      · simp [hlt]
        rw [ih (by omega)]
        exact ⟨fun h => ⟨by omega, by omega, by omega, h⟩, fun h => h.2.2.2⟩

def wrongE (l : List Sp) : Int := if 200 < l.length then 5 else wgo 0 l

theorem wrongE_zero {l : List Sp} : wrongE l = 0 ↔ l.length ≤ 200 ∧ Nf 0 l := by
  unfold wrongE
  by_cases h : 200 < l.length
  · simp [h]; omega
  · rw [if_neg h, wgo_zero (by omega)]; exact ⟨fun hh => ⟨by omega, hh⟩, fun hh => hh.2⟩

/-- what is told of a set: none where it has too many spans -/
def fewL (s : List Sp) : List Sp := if 200 < s.length then [] else s
def fewE (s : List Sp) : Int := if 200 < s.length then 5 else 0

/-- the set of the numbers of which something holds -/
def Is (P : Int → Bool) (s : List Sp) : Prop := Nf 0 s ∧ ∀ r, memb s r = P r
theorem Is.unique {P : Int → Bool} {s t : List Sp} (h : Is P s) (h' : Is P t) : s = t := h.1.unique h'.1 fun r => by rw [h.2, h'.2]
theorem Is.of_nf {s : List Sp} (h : Nf 0 s) : Is (memb s) s := ⟨h, fun _ => rfl⟩
def inR (r : Int) : Bool := decide (0 ≤ r) && decide (r ≤ 1114111)

theorem Nf.inR {s : List Sp} (h : Nf 0 s) (r : Int) : memb s r = (S.inR r && memb s r) := by
  cases hm : memb s r with
  | false => simp
  | true => have := h.low hm; simp [S.inR]; omega

open Classical in
/-- the one form of the set of the numbers of which something holds, where there is one -/
noncomputable def nf (P : Int → Bool) : List Sp := if h : ∃ s, Is P s then Classical.choose h else []
theorem nf_is {P : Int → Bool} (h : ∃ s, Is P s) : Is P (nf P) := by
  unfold nf; rw [dif_pos h]; exact Classical.choose_spec h
theorem nf_eq {P : Int → Bool} {s : List Sp} (h : Is P s) : nf P = s := (nf_is ⟨s, h⟩).unique h

/-- what is told: what is wrong with the one, with the other, or the set -/
noncomputable def resE (ea eb : Int) (P : Int → Bool) : Int := if ea ≠ 0 then ea else if eb ≠ 0 then eb else fewE (nf P)
noncomputable def resL (ea eb : Int) (P : Int → Bool) : List Sp := if ea ≠ 0 then [] else if eb ≠ 0 then [] else fewL (nf P)

def notP (a : List Sp) (r : Int) : Bool := inR r && !memb a r
def orP (a b : List Sp) (r : Int) : Bool := inR r && (memb a r || memb b r)
def andP (a b : List Sp) (r : Int) : Bool := inR r && (memb a r && memb b r)
def minP (a b : List Sp) (r : Int) : Bool := inR r && (memb a r && !memb b r)

/-- HOW MANY SPANS: each one begins somewhere -/
theorem Nf.begins {b : Int} {s : List Sp} (h : Nf b s) {x : Sp} (hx : x ∈ s) : memb s x.1 = true ∧ memb s (x.1 - 1) = false := by
  induction s generalizing b with
  | nil => simp at hx
  | cons y l ih =>
    obtain ⟨h1, h2, h3, h4⟩ := h
    rcases List.mem_cons.1 hx with rfl | hx
    · refine ⟨by rw [memb_cons]; simp [h2], ?_⟩
      rw [memb_cons]
      cases hq : memb l (x.1 - 1) with
      | false => simp; omega
      | true => have := (h4.low hq).1; omega
    · have := ih h4 hx
      have hm := h4.mem hx
      refine ⟨by rw [memb_cons, this.1]; simp, ?_⟩
      rw [memb_cons, this.2]
      simp
      omega

theorem Nf.lows {b : Int} {s : List Sp} (h : Nf b s) : (s.map (·.1)).Nodup := by
  induction s generalizing b with
  | nil => simp
  | cons y l ih =>
    obtain ⟨h1, h2, h3, h4⟩ := h
    rw [List.map_cons, List.nodup_cons]
    refine ⟨fun hy => ?_, ih h4⟩
    obtain ⟨x, hx, he⟩ := List.mem_map.1 hy
    have := h4.mem hx
    have he : x.1 = y.1 := he
    omega

theorem nodup_length {l m : List Int} (hn : l.Nodup) (hs : ∀ x ∈ l, x ∈ m) : l.length ≤ m.length := by
  induction l generalizing m with
  | nil => simp
  | cons x l ih =>
    rw [List.nodup_cons] at hn
    have := ih (m := m.erase x) hn.2 fun y hy => by
      have hy2 := hs y (List.mem_cons_of_mem _ hy)
      exact (List.mem_erase_of_ne (fun e : y = x => hn.1 (by rw [← e]; exact hy))).2 hy2
    rw [List.length_erase_of_mem (hs x (List.mem_cons_self ..))] at this
    have hpos : 0 < m.length := List.length_pos_of_mem (hs x (List.mem_cons_self ..))
    simp only [List.length_cons]
    omega

/-- a number that begins a stretch of a set begins one of its spans -/
theorem starts {a : List Sp} {r : Int} (h1 : memb a r = true) (h2 : memb a (r - 1) = false) : r ∈ a.map (·.1) := by
  rw [memb_iff] at h1
  obtain ⟨x, hx, hl, hh⟩ := h1
  refine List.mem_map.2 ⟨x, hx, ?_⟩
  by_cases e : x.1 = r
  · exact e
  · exfalso
    have : memb a (r - 1) = true := memb_iff.2 ⟨x, hx, by omega, by omega⟩
    rw [h2] at this; cases this
theorem stops {a : List Sp} {r : Int} (h1 : memb a r = false) (h2 : memb a (r - 1) = true) : r ∈ a.map (fun x => x.2 + 1) := by
  rw [memb_iff] at h2
  obtain ⟨x, hx, hl, hh⟩ := h2
  refine List.mem_map.2 ⟨x, hx, ?_⟩
  by_cases e : x.2 + 1 = r
  · exact e
  · exfalso
    have : memb a r = true := memb_iff.2 ⟨x, hx, by omega, by omega⟩
    rw [h1] at this; cases this

theorem or_length {a b s : List Sp} (ha : Nf 0 a) (hb : Nf 0 b) (h : Is (orP a b) s) : s.length ≤ a.length + b.length := by
  have := nodup_length (l := s.map (·.1)) (m := a.map (·.1) ++ b.map (·.1)) h.1.lows fun r hr => by
    obtain ⟨x, hx, rfl⟩ := List.mem_map.1 hr
    have hs := h.1.begins hx
    have hlo := h.1.mem hx
    rw [h.2, h.2] at hs
    simp only [orP, ← ha.inR, ← hb.inR, Bool.and_or_distrib_left] at hs
    rw [List.mem_append]
    simp only [Bool.or_eq_true, Bool.or_eq_false_iff] at hs
    rcases hs.1 with h1 | h1
    · exact .inl (starts h1 hs.2.1)
    · exact .inr (starts h1 hs.2.2)
  simpa using this

theorem and_length {a b s : List Sp} (ha : Nf 0 a) (h : Is (andP a b) s) : s.length ≤ a.length + b.length := by
  have := nodup_length (l := s.map (·.1)) (m := a.map (·.1) ++ b.map (·.1)) h.1.lows fun r hr => by
    obtain ⟨x, hx, rfl⟩ := List.mem_map.1 hr
    have hs := h.1.begins hx
    rw [h.2, h.2] at hs
    simp only [andP, ← Bool.and_assoc, ← ha.inR] at hs
    rw [List.mem_append]
    simp only [Bool.and_eq_true, Bool.and_eq_false_iff] at hs
    rcases hs.2 with h1 | h1
    · exact .inl (starts hs.1.1 h1)
    · exact .inr (starts hs.1.2 h1)
  simpa using this

theorem not_length {a s : List Sp} (h : Is (notP a) s) : s.length ≤ a.length + 1 := by
  have := nodup_length (l := s.map (·.1)) (m := 0 :: a.map (fun x => x.2 + 1)) h.1.lows fun r hr => by
    obtain ⟨x, hx, rfl⟩ := List.mem_map.1 hr
    have hs := h.1.begins hx
    have hm := h.1.mem hx
    rw [h.2, h.2] at hs
    by_cases h0 : x.1 = 0
    · show x.1 ∈ _; rw [h0]; exact List.mem_cons_self ..
    · refine List.mem_cons_of_mem _ (stops ?_ ?_)
      · have := hs.1; simp [notP] at this; exact this.2
      · have := hs.2
        simp only [notP, Bool.and_eq_false_iff] at this
        rcases this with h1 | h1
        · simp [inR] at h1; omega
        · simpa using h1
  simpa using this

/-- a place: all spans ahead of it end ahead of r -/
def Past (l : List Sp) (j : Nat) (r : Int) : Prop := ∀ i x, i < j → l[i]? = some x → x.2 < r

theorem Past.step {l : List Sp} {j : Nat} {r : Int} {x : Sp} (h : Past l j r) (hx : l[j]? = some x) (hlt : x.2 < r) : Past l (j + 1) r := fun i y hi hy => by
  by_cases e : i = j
  · subst e; rw [hx] at hy; cases hy; exact hlt
  · exact h i y (by omega) hy
theorem Past.mono {l : List Sp} {j : Nat} {r r' : Int} (h : Past l j r) (hr : r ≤ r') : Past l j r' := fun i x hi hx => by have := h i x hi hx; omega

theorem Nf.rise {b : Int} {l : List Sp} (h : Nf b l) {i j : Nat} {x y : Sp} (hij : i < j) (hx : l[i]? = some x) (hy : l[j]? = some y) : x.2 + 2 ≤ y.1 := by
  induction l generalizing b i j with
  | nil => simp at hx
  | cons z l ih =>
    obtain ⟨a, c, d, e⟩ := h
    cases j with
    | zero => omega
    | succ j =>
      have hy' : l[j]? = some y := by simpa using hy
      cases i with
      | zero =>
        have hz : z = x := by simpa using hx
        subst hz
        exact (e.mem (List.mem_of_getElem? hy')).1
      | succ i => exact ih e (show i < j by omega) (by simpa using hx) hy'

/-- behind the spans ahead of j, and not yet at the j-th one -/
theorem gap_out {l : List Sp} {j : Nat} {r q : Int} {x : Sp} (h : Nf 0 l) (hp : Past l j r) (hx : l[j]? = some x) (h1 : r ≤ q) (h2 : q < x.1) : memb l q = false := by
  cases hm : memb l q with
  | false => rfl
  | true =>
    obtain ⟨y, hy, h3, h4⟩ := memb_iff.1 hm
    obtain ⟨i, hi⟩ := List.getElem?_of_mem hy
    rcases Nat.lt_trichotomy i j with hlt | rfl | hgt
    · have := hp i y hlt hi; omega
    · rw [hx] at hi; cases hi; omega
    · have := h.rise hgt hx hi
      have := h.mem (List.mem_of_getElem? hx)
      omega
theorem end_out {l : List Sp} {j : Nat} {r q : Int} (hj : l.length ≤ j) (hp : Past l j r) (h1 : r ≤ q) : memb l q = false := by
  cases hm : memb l q with
  | false => rfl
  | true =>
    obtain ⟨y, hy, h3, h4⟩ := memb_iff.1 hm
    obtain ⟨i, hi⟩ := List.getElem?_of_mem hy
    have hlt := (List.getElem?_eq_some_iff.1 hi).1
    have := hp i y (by omega) hi; omega

end Go.Proofs.Ytnalcmlhfmgfdaa.S
