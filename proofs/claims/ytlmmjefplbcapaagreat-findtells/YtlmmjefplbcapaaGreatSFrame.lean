/-
  Sets of numbers as spans: the one form of a set, and what its operators make. No word here speaks of the program.
-/
import Derived.Test.YtlmmjefplbcapaaGreatKI32
import Derived.Test.YtlmmjefplbcapaaGreatRows
import Derived.Deep.SlicePairs
namespace Go.Proofs.YtlmmjefplbcapaaGreat.S

abbrev Sp := Int × Int

/-- the set of spans has a number -/
def memb (l : List Sp) (r : Int) : Bool := l.any fun x => decide (x.1 ≤ r) && decide (r ≤ x.2)

theorem memb_iff {l : List Sp} {r : Int} : memb l r = true ↔ ∃ x ∈ l, x.1 ≤ r ∧ r ≤ x.2 := by
  simp [memb]

theorem memb_nil (r : Int) : memb [] r = false := rfl
theorem memb_cons (x : Sp) (l : List Sp) (r : Int) : memb (x :: l) r = ((decide (x.1 ≤ r) && decide (r ≤ x.2)) || memb l r) := rfl
theorem memb_append (l m : List Sp) (r : Int) : memb (l ++ m) r = (memb l r || memb m r) := by simp [memb]

theorem bool_eq {a b : Bool} (h : a = true ↔ b = true) : a = b := by
  cases a <;> cases b <;> simp_all

/-- spans that rise from b on, with a number between two -/
def Nf : Int → List Sp → Prop
  | _, [] => True
  | b, x :: l => b ≤ x.1 ∧ x.1 ≤ x.2 ∧ x.2 ≤ 1114111 ∧ Nf (x.2 + 2) l

theorem Nf.mono {b b' : Int} {l : List Sp} (h : Nf b l) (hb : b' ≤ b) : Nf b' l := by
  cases l with
  | nil => trivial
  | cons x l => exact ⟨by have := h.1; omega, h.2⟩

theorem Nf.low {b : Int} {l : List Sp} (h : Nf b l) {r : Int} (hr : memb l r = true) : b ≤ r ∧ r ≤ 1114111 := by
  induction l generalizing b with
  | nil => simp [memb] at hr
  | cons x l ih =>
    obtain ⟨h1, h2, h3, h4⟩ := h
    rw [memb_cons] at hr
    simp only [Bool.or_eq_true, Bool.and_eq_true, decide_eq_true_eq] at hr
    rcases hr with hr | hr
    · omega
    · have := ih h4 hr; omega

theorem Nf.mem {b : Int} {l : List Sp} (h : Nf b l) {x : Sp} (hx : x ∈ l) : b ≤ x.1 ∧ x.1 ≤ x.2 ∧ x.2 ≤ 1114111 := by
  induction l generalizing b with
  | nil => simp at hx
  | cons y l ih =>
    obtain ⟨h1, h2, h3, h4⟩ := h
    rcases List.mem_cons.1 hx with rfl | hx
    · exact ⟨h1, h2, h3⟩
    · have := ih h4 hx; omega

/-- ONE SET, ONE FORM -/
theorem Nf.unique {b : Int} {l m : List Sp} (hl : Nf b l) (hm : Nf b m) (h : ∀ r, memb l r = memb m r) : l = m := by
  induction l generalizing b m with
  | nil =>
    cases m with
    | nil => rfl
    | cons y m =>
      have := h y.1
      rw [memb_nil, memb_cons] at this
      have h2 := hm.2.1
      simp [h2] at this
  | cons x l ih =>
    cases m with
    | nil =>
      have := h x.1
      rw [memb_nil, memb_cons] at this
      have h2 := hl.2.1
      simp [h2] at this
    | cons y m =>
      obtain ⟨a1, a2, a3, a4⟩ := hl
      obtain ⟨b1, b2, b3, b4⟩ := hm
      have lowl : ∀ r, memb (x :: l) r = true → x.1 ≤ r := fun r hr => (Nf.low (b := x.1) (l := x :: l) ⟨Int.le_refl _, a2, a3, a4⟩ hr).1
      have lowm : ∀ r, memb (y :: m) r = true → y.1 ≤ r := fun r hr => (Nf.low (b := y.1) (l := y :: m) ⟨Int.le_refl _, b2, b3, b4⟩ hr).1
      have e1 : x.1 = y.1 := by
        have p1 := lowl y.1 (by rw [h, memb_cons]; simp [b2])
        have p2 := lowm x.1 (by rw [← h, memb_cons]; simp [a2])
        omega
      have outl : ∀ r, r ≤ x.2 + 1 → memb l r = false := fun r hr => by
        cases hq : memb l r with
        | false => rfl
        | true => have := (a4.low hq).1; omega
      have outm : ∀ r, r ≤ y.2 + 1 → memb m r = false := fun r hr => by
        cases hq : memb m r with
        | false => rfl
        | true => have := (b4.low hq).1; omega
      have e2 : x.2 = y.2 := by
        rcases Int.lt_trichotomy x.2 y.2 with hlt | heq | hgt
        · have := h (x.2 + 1)
          rw [memb_cons, memb_cons, outl _ (by omega)] at this
          have q : ¬ x.2 + 1 ≤ x.2 := by omega
          have q2 : y.1 ≤ x.2 + 1 := by omega
          have q3 : x.2 + 1 ≤ y.2 := by omega
          simp [q, q2, q3] at this
        · exact heq
        · have := h (y.2 + 1)
          rw [memb_cons, memb_cons, outm _ (by omega)] at this
          have q : ¬ y.2 + 1 ≤ y.2 := by omega
          have q2 : x.1 ≤ y.2 + 1 := by omega
          have q3 : y.2 + 1 ≤ x.2 := by omega
          simp [q, q2, q3] at this
      have e : x = y := Prod.ext e1 e2
      subst e
      rw [ih a4 b4 fun r => ?_]
      by_cases hr : r ≤ x.2 + 1
      · rw [outl r hr, outm r hr]
      · have := h r
        rw [memb_cons, memb_cons] at this
        have q : ¬ r ≤ x.2 := by omega
        simpa [q] using this

/-- spans at the end -/
theorem Nf.snoc {b : Int} {l : List Sp} {p x : Sp} (h : Nf b (l ++ [p])) (hx : p.2 + 2 ≤ x.1) (h1 : x.1 ≤ x.2) (h2 : x.2 ≤ 1114111) : Nf b (l ++ [p] ++ [x]) := by
  induction l generalizing b with
  | nil => obtain ⟨a, c, d, _⟩ := h; exact ⟨a, c, d, hx, h1, h2, trivial⟩
  | cons y l ih => obtain ⟨a, c, d, e⟩ := h; exact ⟨a, c, d, ih e⟩
theorem Nf.wide {b : Int} {l : List Sp} {p : Sp} {q : Int} (h : Nf b (l ++ [p])) (h1 : p.2 ≤ q) (h2 : q ≤ 1114111) : Nf b (l ++ [(p.1, q)]) := by
  induction l generalizing b with
  | nil => obtain ⟨a, c, d, _⟩ := h; exact ⟨a, by show p.1 ≤ q; omega, h2, trivial⟩
  | cons y l ih => obtain ⟨a, c, d, e⟩ := h; exact ⟨a, c, d, ih e⟩
theorem Nf.one {b : Int} {x : Sp} (h : b ≤ x.1) (h1 : x.1 ≤ x.2) (h2 : x.2 ≤ 1114111) : Nf b [x] := ⟨h, h1, h2, trivial⟩
theorem Nf.part {b : Int} {l m : List Sp} (h : Nf b (l ++ m)) : Nf b l := by
  induction l generalizing b with
  | nil => trivial
  | cons y l ih => obtain ⟨a, c, d, e⟩ := h; exact ⟨a, c, d, ih e⟩
theorem Nf.take {b : Int} {l : List Sp} (h : Nf b l) (n : Nat) : Nf b (l.take n) := Nf.part (m := l.drop n) (by rw [List.take_append_drop]; exact h)

/-- what 'join' does -/
def joinF (s : List Sp) (x : Sp) : List Sp :=
  match s.getLast? with
  | none => [x]
  | some p => if p.2 + 1 < x.1 then s ++ [x] else s.dropLast ++ [(p.1, max p.2 x.2)]

theorem joinF_nil (x : Sp) : joinF [] x = [x] := rfl
theorem joinF_snoc (l : List Sp) (p x : Sp) : joinF (l ++ [p]) x = if p.2 + 1 < x.1 then l ++ [p] ++ [x] else l ++ [(p.1, max p.2 x.2)] := by
  simp [joinF]

theorem snoc_cases (l : List Sp) : l = [] ∨ ∃ m p, l = m ++ [p] := by
  rcases List.eq_nil_or_concat l with h | ⟨m, p, h⟩
  · exact .inl h
  · exact .inr ⟨m, p, by simpa using h⟩

/-- one span that begins nowhere ahead of the last one's Low is put to a set -/
theorem joinF_nf {s : List Sp} {x : Sp} (h : Nf 0 s) (h0 : 0 ≤ x.1) (h1 : x.1 ≤ x.2) (h2 : x.2 ≤ 1114111) (hl : ∀ p, s.getLast? = some p → p.1 ≤ x.1) : Nf 0 (joinF s x) ∧ ∀ r, memb (joinF s x) r = (memb s r || (decide (x.1 ≤ r) && decide (r ≤ x.2))) := by
  rcases snoc_cases s with rfl | ⟨m, p, rfl⟩
  · exact ⟨Nf.one h0 h1 h2, fun r => by simp [joinF_nil, memb_cons, memb_nil]⟩
  · have hp := hl p (by simp)
    have hpm := h.mem (x := p) (by simp)
    rw [joinF_snoc]
    by_cases hc : p.2 + 1 < x.1
    · rw [if_pos hc]
      exact ⟨h.snoc (by omega) h1 h2, fun r => by rw [memb_append]; simp [memb_cons, memb_nil]⟩
    · rw [if_neg hc]
      refine ⟨h.wide (by omega) (by omega), fun r => ?_⟩
      rw [memb_append, memb_append, Bool.or_assoc]
      congr 1
      apply bool_eq
      simp [memb_cons, memb_nil]
      omega

theorem joinF_last {s : List Sp} {x : Sp} : ∃ q, (joinF s x).getLast? = some q ∧ (q.1 = x.1 ∨ ∃ p, s.getLast? = some p ∧ q.1 = p.1) := by
  rcases snoc_cases s with rfl | ⟨m, p, rfl⟩
  · exact ⟨x, by simp [joinF], .inl rfl⟩
  · rw [joinF_snoc]
    by_cases hc : p.2 + 1 < x.1
    · rw [if_pos hc]; exact ⟨x, by simp, .inl rfl⟩
    · rw [if_neg hc]; exact ⟨(p.1, max p.2 x.2), by simp, .inr ⟨p, by simp, rfl⟩⟩

theorem joinF_length (s : List Sp) (x : Sp) : (joinF s x).length ≤ s.length + 1 := by
  rcases snoc_cases s with rfl | ⟨m, p, rfl⟩
  · simp [joinF_nil]
  · rw [joinF_snoc]
    by_cases hc : p.2 + 1 < x.1
    · rw [if_pos hc]; simp
    · rw [if_neg hc]; simp

/-- what is wrong with spans -/
def bad (x : Sp) : Bool := decide (x.1 < 0) || decide (1114111 < x.2) || decide (x.2 < x.1)
theorem bad_false {x : Sp} : bad x = false ↔ 0 ≤ x.1 ∧ x.1 ≤ x.2 ∧ x.2 ≤ 1114111 := by
  simp [bad]; omega

def wgo : Int → List Sp → Int
  | _, [] => 0
  | b, x :: l => if bad x = true then 3 else if x.1 < b then 2 else wgo (x.2 + 2) l

theorem wgo_zero {b : Int} {l : List Sp} (hb : 0 ≤ b) : wgo b l = 0 ↔ Nf b l := by
  induction l generalizing b with
  | nil => simp [wgo, Nf]
  | cons x l ih =>
    simp only [wgo, Nf]
    cases hbad : bad x with
    | true =>
      have : ¬ (0 ≤ x.1 ∧ x.1 ≤ x.2 ∧ x.2 ≤ 1114111) := fun h => by rw [bad_false.2 h] at hbad; cases hbad
      simp
      intro h1 h2 h3
      omega
    | false =>
      have hok := bad_false.1 hbad
      by_cases hlt : x.1 < b
      · simp [hlt]; omega
      · simp [hlt]
        rw [ih (by omega)]
        exact ⟨fun h => ⟨by omega, by omega, by omega, h⟩, fun h => h.2.2.2⟩

def wrongE (l : List Sp) : Int := if 200 < l.length then 5 else wgo 0 l

theorem wrongE_zero {l : List Sp} : wrongE l = 0 ↔ l.length ≤ 200 ∧ Nf 0 l := by
  unfold wrongE
  by_cases h : 200 < l.length
  · simp [h]; omega
  · rw [if_neg h, wgo_zero (by omega)]; exact ⟨fun hh => ⟨by omega, hh⟩, fun hh => hh.2⟩

/-- what is told of a set: none where it has too many spans -/
def fewL (s : List Sp) : List Sp := if 200 < s.length then [] else s
def fewE (s : List Sp) : Int := if 200 < s.length then 5 else 0

/-- the set of the numbers of which something holds -/
def Is (P : Int → Bool) (s : List Sp) : Prop := Nf 0 s ∧ ∀ r, memb s r = P r
theorem Is.unique {P : Int → Bool} {s t : List Sp} (h : Is P s) (h' : Is P t) : s = t := h.1.unique h'.1 fun r => by rw [h.2, h'.2]
theorem Is.of_nf {s : List Sp} (h : Nf 0 s) : Is (memb s) s := ⟨h, fun _ => rfl⟩
def inR (r : Int) : Bool := decide (0 ≤ r) && decide (r ≤ 1114111)

theorem Nf.inR {s : List Sp} (h : Nf 0 s) (r : Int) : memb s r = (S.inR r && memb s r) := by
  cases hm : memb s r with
  | false => simp
  | true => have := h.low hm; simp [S.inR]; omega

open Classical in
/-- the one form of the set of the numbers of which something holds, where there is one -/
noncomputable def nf (P : Int → Bool) : List Sp := if h : ∃ s, Is P s then Classical.choose h else []
theorem nf_is {P : Int → Bool} (h : ∃ s, Is P s) : Is P (nf P) := by
  unfold nf; rw [dif_pos h]; exact Classical.choose_spec h
theorem nf_eq {P : Int → Bool} {s : List Sp} (h : Is P s) : nf P = s := (nf_is ⟨s, h⟩).unique h

/-- what is told: what is wrong with the one, with the other, or the set -/
noncomputable def resE (ea eb : Int) (P : Int → Bool) : Int := if ea ≠ 0 then ea else if eb ≠ 0 then eb else fewE (nf P)
noncomputable def resL (ea eb : Int) (P : Int → Bool) : List Sp := if ea ≠ 0 then [] else if eb ≠ 0 then [] else fewL (nf P)

def notP (a : List Sp) (r : Int) : Bool := inR r && !memb a r
def orP (a b : List Sp) (r : Int) : Bool := inR r && (memb a r || memb b r)
def andP (a b : List Sp) (r : Int) : Bool := inR r && (memb a r && memb b r)
def minP (a b : List Sp) (r : Int) : Bool := inR r && (memb a r && !memb b r)

/-- HOW MANY SPANS: each one begins somewhere -/
theorem Nf.begins {b : Int} {s : List Sp} (h : Nf b s) {x : Sp} (hx : x ∈ s) : memb s x.1 = true ∧ memb s (x.1 - 1) = false := by
  induction s generalizing b with
  | nil => simp at hx
  | cons y l ih =>
    obtain ⟨h1, h2, h3, h4⟩ := h
    rcases List.mem_cons.1 hx with rfl | hx
    · refine ⟨by rw [memb_cons]; simp [h2], ?_⟩
      rw [memb_cons]
      cases hq : memb l (x.1 - 1) with
      | false => simp; omega
      | true => have := (h4.low hq).1; omega
    · have := ih h4 hx
      have hm := h4.mem hx
      refine ⟨by rw [memb_cons, this.1]; simp, ?_⟩
      rw [memb_cons, this.2]
      simp
      omega

theorem Nf.lows {b : Int} {s : List Sp} (h : Nf b s) : (s.map (·.1)).Nodup := by
  induction s generalizing b with
  | nil => simp
  | cons y l ih =>
    obtain ⟨h1, h2, h3, h4⟩ := h
    rw [List.map_cons, List.nodup_cons]
    refine ⟨fun hy => ?_, ih h4⟩
    obtain ⟨x, hx, he⟩ := List.mem_map.1 hy
    have := h4.mem hx
    have he : x.1 = y.1 := he
    omega

theorem nodup_length {l m : List Int} (hn : l.Nodup) (hs : ∀ x ∈ l, x ∈ m) : l.length ≤ m.length := by
  induction l generalizing m with
  | nil => simp
  | cons x l ih =>
    rw [List.nodup_cons] at hn
    have := ih (m := m.erase x) hn.2 fun y hy => by
      have hy2 := hs y (List.mem_cons_of_mem _ hy)
      exact (List.mem_erase_of_ne (fun e : y = x => hn.1 (by rw [← e]; exact hy))).2 hy2
    rw [List.length_erase_of_mem (hs x (List.mem_cons_self ..))] at this
    have hpos : 0 < m.length := List.length_pos_of_mem (hs x (List.mem_cons_self ..))
    simp only [List.length_cons]
    omega

/-- a number that begins a stretch of a set begins one of its spans -/
theorem starts {a : List Sp} {r : Int} (h1 : memb a r = true) (h2 : memb a (r - 1) = false) : r ∈ a.map (·.1) := by
  rw [memb_iff] at h1
  obtain ⟨x, hx, hl, hh⟩ := h1
  refine List.mem_map.2 ⟨x, hx, ?_⟩
  by_cases e : x.1 = r
  · exact e
  · exfalso
    have : memb a (r - 1) = true := memb_iff.2 ⟨x, hx, by omega, by omega⟩
    rw [h2] at this; cases this
theorem stops {a : List Sp} {r : Int} (h1 : memb a r = false) (h2 : memb a (r - 1) = true) : r ∈ a.map (fun x => x.2 + 1) := by
  rw [memb_iff] at h2
  obtain ⟨x, hx, hl, hh⟩ := h2
  refine List.mem_map.2 ⟨x, hx, ?_⟩
  by_cases e : x.2 + 1 = r
  · exact e
  · exfalso
    have : memb a r = true := memb_iff.2 ⟨x, hx, by omega, by omega⟩
    rw [h1] at this; cases this

theorem or_length {a b s : List Sp} (ha : Nf 0 a) (hb : Nf 0 b) (h : Is (orP a b) s) : s.length ≤ a.length + b.length := by
  have := nodup_length (l := s.map (·.1)) (m := a.map (·.1) ++ b.map (·.1)) h.1.lows fun r hr => by
    obtain ⟨x, hx, rfl⟩ := List.mem_map.1 hr
    have hs := h.1.begins hx
    have hlo := h.1.mem hx
    rw [h.2, h.2] at hs
    simp only [orP, ← ha.inR, ← hb.inR, Bool.and_or_distrib_left] at hs
    rw [List.mem_append]
    simp only [Bool.or_eq_true, Bool.or_eq_false_iff] at hs
    rcases hs.1 with h1 | h1
    · exact .inl (starts h1 hs.2.1)
    · exact .inr (starts h1 hs.2.2)
  simpa using this

theorem and_length {a b s : List Sp} (ha : Nf 0 a) (h : Is (andP a b) s) : s.length ≤ a.length + b.length := by
  have := nodup_length (l := s.map (·.1)) (m := a.map (·.1) ++ b.map (·.1)) h.1.lows fun r hr => by
    obtain ⟨x, hx, rfl⟩ := List.mem_map.1 hr
    have hs := h.1.begins hx
    rw [h.2, h.2] at hs
    simp only [andP, ← Bool.and_assoc, ← ha.inR] at hs
    rw [List.mem_append]
    simp only [Bool.and_eq_true, Bool.and_eq_false_iff] at hs
    rcases hs.2 with h1 | h1
    · exact .inl (starts hs.1.1 h1)
    · exact .inr (starts hs.1.2 h1)
  simpa using this

theorem not_length {a s : List Sp} (h : Is (notP a) s) : s.length ≤ a.length + 1 := by
  have := nodup_length (l := s.map (·.1)) (m := 0 :: a.map (fun x => x.2 + 1)) h.1.lows fun r hr => by
    obtain ⟨x, hx, rfl⟩ := List.mem_map.1 hr
    have hs := h.1.begins hx
    have hm := h.1.mem hx
    rw [h.2, h.2] at hs
    by_cases h0 : x.1 = 0
    · show x.1 ∈ _; rw [h0]; exact List.mem_cons_self ..
    · refine List.mem_cons_of_mem _ (stops ?_ ?_)
      · have := hs.1; simp [notP] at this; exact this.2
      · have := hs.2
        simp only [notP, Bool.and_eq_false_iff] at this
        rcases this with h1 | h1
        · simp [inR] at h1; omega
        · simpa using h1
  simpa using this

/-- a place: all spans ahead of it end ahead of r -/
def Past (l : List Sp) (j : Nat) (r : Int) : Prop := ∀ i x, i < j → l[i]? = some x → x.2 < r

theorem Past.step {l : List Sp} {j : Nat} {r : Int} {x : Sp} (h : Past l j r) (hx : l[j]? = some x) (hlt : x.2 < r) : Past l (j + 1) r := fun i y hi hy => by
  by_cases e : i = j
  · subst e; rw [hx] at hy; cases hy; exact hlt
  · exact h i y (by omega) hy
theorem Past.mono {l : List Sp} {j : Nat} {r r' : Int} (h : Past l j r) (hr : r ≤ r') : Past l j r' := fun i x hi hx => by have := h i x hi hx; omega

theorem Nf.rise {b : Int} {l : List Sp} (h : Nf b l) {i j : Nat} {x y : Sp} (hij : i < j) (hx : l[i]? = some x) (hy : l[j]? = some y) : x.2 + 2 ≤ y.1 := by
  induction l generalizing b i j with
  | nil => simp at hx
  | cons z l ih =>
    obtain ⟨a, c, d, e⟩ := h
    cases j with
    | zero => omega
    | succ j =>
      have hy' : l[j]? = some y := by simpa using hy
      cases i with
      | zero =>
        have hz : z = x := by simpa using hx
        subst hz
        exact (e.mem (List.mem_of_getElem? hy')).1
      | succ i => exact ih e (show i < j by omega) (by simpa using hx) hy'

/-- behind the spans ahead of j, and not yet at the j-th one -/
theorem gap_out {l : List Sp} {j : Nat} {r q : Int} {x : Sp} (h : Nf 0 l) (hp : Past l j r) (hx : l[j]? = some x) (h1 : r ≤ q) (h2 : q < x.1) : memb l q = false := by
  cases hm : memb l q with
  | false => rfl
  | true =>
    obtain ⟨y, hy, h3, h4⟩ := memb_iff.1 hm
    obtain ⟨i, hi⟩ := List.getElem?_of_mem hy
    rcases Nat.lt_trichotomy i j with hlt | rfl | hgt
    · have := hp i y hlt hi; omega
    · rw [hx] at hi; cases hi; omega
    · have := h.rise hgt hx hi
      have := h.mem (List.mem_of_getElem? hx)
      omega
theorem end_out {l : List Sp} {j : Nat} {r q : Int} (hj : l.length ≤ j) (hp : Past l j r) (h1 : r ≤ q) : memb l q = false := by
  cases hm : memb l q with
  | false => rfl
  | true =>
    obtain ⟨y, hy, h3, h4⟩ := memb_iff.1 hm
    obtain ⟨i, hi⟩ := List.getElem?_of_mem hy
    have hlt := (List.getElem?_eq_some_iff.1 hi).1
    have := hp i y (by omega) hi; omega

end Go.Proofs.YtlmmjefplbcapaaGreat.S

/-
  Small laws on worlds: a slice of spans reads as a list of pairs of numbers.
-/
namespace Go.Proofs.YtlmmjefplbcapaaGreat
theorem Tryz.infoSp : (Tryz.prog.info? 86).map (fun i => (i.zero, i.size, i.bytes)) = some (some (.agg #[.int .i32 0, .int .i32 0]), 2, 8) := by kernel_rfl
end Go.Proofs.YtlmmjefplbcapaaGreat
namespace Go.Proofs.YtlmmjefplbcapaaGreat.S
open Go.RowKit

def enc2 (x : Sp) : List Value := [.int .i32 x.1, .int .i32 x.2]
def cellsOf (l : List Sp) : List Value := l.flatMap enc2
def Fit (l : List Sp) : Prop := ∀ x ∈ l, -2147483648 ≤ x.1 ∧ x.1 ≤ 2147483647 ∧ -2147483648 ≤ x.2 ∧ x.2 ≤ 2147483647

theorem Fit.of_nf {b : Int} {l : List Sp} (h : Nf b l) (hb : 0 ≤ b) : Fit l := fun x hx => by have := h.mem hx; omega
theorem Fit.at {l : List Sp} (h : Fit l) {j : Nat} {x : Sp} (hj : l[j]? = some x) : -2147483648 ≤ x.1 ∧ x.1 ≤ 2147483647 ∧ -2147483648 ≤ x.2 ∧ x.2 ≤ 2147483647 := h x (List.mem_of_getElem? hj)

theorem cellsOf_nil : cellsOf [] = [] := rfl
theorem cellsOf_cons (x : Sp) (l : List Sp) : cellsOf (x :: l) = .int .i32 x.1 :: .int .i32 x.2 :: cellsOf l := rfl
theorem cellsOf_append (l m : List Sp) : cellsOf (l ++ m) = cellsOf l ++ cellsOf m := by simp [cellsOf]
theorem cellsOf_length (l : List Sp) : (cellsOf l).length = l.length * 2 := by
  induction l with
  | nil => rfl
  | cons x l ih => rw [cellsOf_cons]; simp [ih]; omega
theorem cellsOf_get {l : List Sp} {j : Nat} {x : Sp} (h : l[j]? = some x) : (cellsOf l)[j * 2]? = some (.int .i32 x.1) ∧ (cellsOf l)[j * 2 + 1]? = some (.int .i32 x.2) := by
  induction l generalizing j with
  | nil => simp at h
  | cons y l ih =>
    cases j with
    | zero => simp at h; subst h; rw [cellsOf_cons]; simp
    | succ j =>
      have := ih (j := j) (by simpa using h)
      rw [cellsOf_cons, show (j + 1) * 2 = j * 2 + 1 + 1 by omega, show j * 2 + 1 + 1 + 1 = (j * 2 + 1) + 1 + 1 by omega]
      simpa using this
theorem cellsOf_one {l : List Sp} {u : Value} (h : u ∈ cellsOf l) : u.oneCell' = true := by
  simp only [cellsOf, List.mem_flatMap, enc2] at h
  obtain ⟨x, _, h⟩ := h
  simp at h
  rcases h with rfl | rfl <;> rfl
theorem cellsOf_inv {l : List Sp} {i : Nat} {u : Value} (h : (cellsOf l)[i]? = some u) : ∃ j x, l[j]? = some x ∧ ((i = j * 2 ∧ u = .int .i32 x.1) ∨ (i = j * 2 + 1 ∧ u = .int .i32 x.2)) := by
  have hlt : i < l.length * 2 := by rw [← cellsOf_length]; exact (List.getElem?_eq_some_iff.1 h).1
  obtain ⟨x, hx⟩ : ∃ x, l[i / 2]? = some x := ⟨l[i / 2]'(by omega), by simp [show i / 2 < l.length by omega]⟩
  have hg := cellsOf_get hx
  refine ⟨i / 2, x, hx, ?_⟩
  rcases Nat.mod_two_eq_zero_or_one i with h0 | h0
  · left
    have e : i = i / 2 * 2 := by omega
    refine ⟨e, ?_⟩
    have := hg.1
    rw [← e, h] at this
    exact Option.some.inj this
  · right
    have e : i = i / 2 * 2 + 1 := by omega
    refine ⟨e, ?_⟩
    have := hg.2
    rw [← e, h] at this
    exact Option.some.inj this

/-- A SLICE VALUE READS AS A LIST OF SPANS (what lies behind its length is not looked at). -/
def Rd (w : World) (v : Value) (l : List Sp) : Prop :=
  ∃ ao cap, v = .slice ao l.length cap ∧ (ao = none → cap = 0) ∧ (l ≠ [] → ∃ b off, ao = some ⟨b, off, none⟩ ∧ ∀ j x, l[j]? = some x → w.cell? ⟨b, off + j * 2, none⟩ = some (.int .i32 x.1) ∧ w.cell? ⟨b, off + j * 2 + 1, none⟩ = some (.int .i32 x.2))

theorem Rd.nil (w : World) : Rd w (.slice none 0 0) [] := ⟨none, 0, rfl, fun _ => rfl, fun h => absurd rfl h⟩

theorem Rd.of_owns {w : World} {B : Nat} {e : TypeId} {v : Value} {l : List Sp} (h : w.ownsRow B e 2 v l.length (cellsOf l)) : Rd w v l := by
  have hc := fun g hg => World.ownsRow.cells h (g := g) hg
  rcases h.2 with ⟨rfl, h0⟩ | ⟨g, cap, cur, rfl, h0⟩
  · have : l = [] := by simpa using h0
    subst this
    exact Rd.nil w
  · refine ⟨_, cap, rfl, fun h => by simp at h, fun _ => ⟨g, 0, rfl, fun j x hj => ?_⟩⟩
    have hg := cellsOf_get hj
    have h1 := hc g rfl _ _ hg.1
    have h2 := hc g rfl _ _ hg.2
    rw [L.addr_add] at h1 h2
    exact ⟨h1, h2⟩

theorem Rd.cells {w w' : World} {v : Value} {l : List Sp} (h : Rd w v l) (hc : ∀ b o u, w.cell? ⟨b, o, none⟩ = some u → (∃ ao n c, v = .slice ao n c ∧ ∃ a, ao = some a ∧ a.block = b) → w'.cell? ⟨b, o, none⟩ = some u) : Rd w' v l := by
  obtain ⟨ao, cap, rfl, hn, h⟩ := h
  refine ⟨ao, cap, rfl, hn, fun hz => ?_⟩
  obtain ⟨b, off, rfl, hcl⟩ := h hz
  refine ⟨b, off, rfl, fun j x hj => ?_⟩
  have h1 := hcl j x hj
  exact ⟨hc _ _ _ h1.1 ⟨_, _, _, rfl, _, rfl, rfl⟩, hc _ _ _ h1.2 ⟨_, _, _, rfl, _, rfl, rfl⟩⟩

theorem Rd.below {w w' : World} {v : Value} {l : List Sp} {B : Nat} (h : Rd w v l) (hb : Below B w w') (hB : w.heap.size ≤ B) : Rd w' v l :=
  h.cells fun b o u hu _ => by
    have := L.block_lt hu
    rw [hb.cell (p := ⟨b, o, none⟩) (by show b < B; omega)]; exact hu

/-- only one block of w's was changed, and it is another one -/
theorem Rd.grown {w w' : World} {v : Value} {l : List Sp} {row : Option Nat} (h : Rd w v l) (hg : w.grownBy w' row) (hne : ∀ g, row = some g → v.ownBlock ≠ some g) : Rd w' v l :=
  h.cells fun b o u hu hv => by
    have := L.block_lt hu
    obtain ⟨ao, n, c, rfl, a, rfl, rfl⟩ := hv
    rw [World.cell?_of_block (a := ⟨a.block, o, none⟩) (hg.block a.block this fun e => hne _ e.symm rfl)]
    exact hu

theorem Rd.block {w : World} {v : Value} {l : List Sp} (h : Rd w v l) (hl : l ≠ []) : ∃ g, v.ownBlock = some g ∧ g < w.heap.size := by
  obtain ⟨ao, cap, rfl, hn, h⟩ := h
  obtain ⟨b, off, rfl, hc⟩ := h hl
  obtain ⟨x, hx⟩ : ∃ x, l[0]? = some x := ⟨l[0]'(List.length_pos_iff.2 hl), by simp [List.length_pos_iff.2 hl]⟩
  exact ⟨b, rfl, L.block_lt (hc 0 x hx).1⟩

/-- what reads in an old world reads on, where only a newer block was changed -/
theorem Rd.kept {w0 w w' : World} {v : Value} {l : List Sp} {row : Option Nat} (h0 : Rd w0 v l) (h : Rd w v l) (hg : w.grownBy w' row) (hr : ∀ g, row = some g → w0.heap.size ≤ g) : Rd w' v l := by
  by_cases hl : l = []
  · subst hl
    obtain ⟨ao, cap, rfl, hn, _⟩ := h
    exact ⟨ao, cap, rfl, hn, fun h => absurd rfl h⟩
  · obtain ⟨b, hb, hlt⟩ := h0.block hl
    exact h.grown hg fun g hg' e => by rw [hb] at e; cases e; have := hr _ hg'; omega

theorem Rd.len {w : World} {v : Value} {l : List Sp} (h : Rd w v l) : ∃ ao cap, v = .slice ao l.length cap := by
  obtain ⟨ao, cap, rfl, _⟩ := h; exact ⟨ao, cap, rfl⟩

/-- a box of two cells, and what stood ahead of it, behind a call that leaves old memory as it was -/
theorem boxed {wr w1 : World} {a b : Value} {t : TypeId} (h : Below (wr.alloc (.cells #[a, b] t)).heap.size (wr.alloc (.cells #[a, b] t)) w1) :
    (w1.cell? ⟨wr.heap.size, 0, none⟩ = some a ∧ w1.cell? ⟨wr.heap.size, 1, none⟩ = some b) ∧ (∀ bb o u, wr.cell? ⟨bb, o, none⟩ = some u → w1.cell? ⟨bb, o, none⟩ = some u) ∧ wr.heap.size < w1.heap.size ∧ Below wr.heap.size wr w1 := by
  have hs := h.size
  have e : (wr.alloc (.cells #[a, b] t)).heap.size = wr.heap.size + 1 := by simp
  have hb : Below wr.heap.size wr w1 := ((Below.refl _ wr).alloc (Nat.le_refl _) _).trans (h.mono (by omega))
  refine ⟨⟨?_, ?_⟩, ?_, by omega, hb⟩
  · rw [h.cell (p := ⟨wr.heap.size, 0, none⟩) (by show wr.heap.size < _; omega), World.cell?_alloc_at _ _ _ _ (by simp)]; rfl
  · rw [h.cell (p := ⟨wr.heap.size, 1, none⟩) (by show wr.heap.size < _; omega), World.cell?_alloc_at _ _ _ _ (by simp)]; rfl
  · intro bb o u hu
    rw [hb.cell (p := ⟨bb, o, none⟩) (L.block_lt hu)]; exact hu

theorem grown_trans {w w1 w2 : World} {r : Option Nat} (h : w.grownBy w1 r) (h' : w1.grownBy w2 r) : w.grownBy w2 r :=
  ⟨h'.os.trans h.os, h'.tape.trans h.tape, h'.output.trans h.output, Nat.le_trans h.size h'.size, fun k hk hne => (h'.block k (Nat.lt_of_lt_of_le hk h.size) hne).trans (h.block k hk hne)⟩
theorem grown_refl (w : World) (r : Option Nat) : w.grownBy w r := ⟨rfl, rfl, rfl, Nat.le_refl _, fun _ _ _ => rfl⟩
theorem grown_below {w w1 : World} {r : Option Nat} (h : Below w.heap.size w w1) : w.grownBy w1 r := ⟨h.os, h.tape, h.output, h.size, fun k hk _ => h.block k hk⟩
theorem below_grown {w w1 w2 : World} {B : Nat} {r : Option Nat} (h : Below B w w1) (hg : w1.grownBy w2 r) (hB : B ≤ w1.heap.size) (hr : ∀ k, r = some k → B ≤ k) : Below B w w2 := Below.grown h hg hB hr
theorem owns_drewN {w : World} {base : Nat} {e : TypeId} {size : Nat} {v : Value} {n : Nat} {xs : List Value} (h : w.ownsRow base e size v n xs) (q : Nat) : (w.drewN q).ownsRow base e size v n xs := h

/-- the number in a box -/
def num (w : World) (b : Nat) : Nat := (intOf ((w.cell? ⟨b, 0, none⟩).getD undef)).toNat
/-- a box of one cell -/
def Bx (w : World) (b : Nat) (t : TypeId) (v : Value) : Prop := w.heap[b]? = some (.cells #[v] t)
theorem Bx.cell {w : World} {b : Nat} {t : TypeId} {v : Value} (h : Bx w b t v) : w.cell? ⟨b, 0, none⟩ = some v := by simp [World.cell?, Bx] at h ⊢; rw [h]; rfl
theorem Bx.num {w : World} {b : Nat} {t : TypeId} {k : Nat} (h : Bx w b t (.int .i64 k)) : num w b = k := by unfold S.num; rw [h.cell]; rfl
theorem Bx.free {w : World} {b : Nat} {t : TypeId} {v : Value} (h : Bx w b t v) : w.frozen? ⟨b, 0, none⟩ = false := by simp [World.frozen?, Bx] at h ⊢; rw [h]; rfl
theorem Bx.lt {w : World} {b : Nat} {t : TypeId} {v : Value} (h : Bx w b t v) : b < w.heap.size := lt_of_block h
theorem Bx.set {w : World} {b : Nat} {t : TypeId} {v : Value} (h : Bx w b t v) (u : Value) : Bx (w.setCell ⟨b, 0, none⟩ u) b t u := by
  have := heap_setCell_same w b 0 #[v] t u h
  exact this
theorem Bx.new (w : World) (t : TypeId) (v : Value) : Bx (w.alloc (.cells #[v] t)) w.heap.size t v := by
  unfold Bx; exact Array.getElem?_push_size
theorem Bx.below {w w' : World} {B b : Nat} {t : TypeId} {v : Value} (h : Bx w b t v) (hb : Below B w w') (hB : b < B) : Bx w' b t v := by
  unfold Bx; rw [hb.block b hB]; exact h
theorem Bx.grown {w w' : World} {b : Nat} {t : TypeId} {v : Value} {r : Option Nat} (h : Bx w b t v) (hg : w.grownBy w' r) (hr : r ≠ some b) : Bx w' b t v := by
  unfold Bx; rw [hg.block b h.lt (fun e => hr e.symm)]; exact h

end Go.Proofs.YtlmmjefplbcapaaGreat.S

/-
  A slice of spans that came in, as a list of pairs of numbers.
-/
namespace Go.Proofs.YtlmmjefplbcapaaGreat
open Go.ChangeShapes Go.WideShapes Go.ChangeAt Go.RowKit

theorem wf_i32 {n : Int} (h : (Lit.int .i32 n).wf = true) : -2147483648 ≤ n ∧ n ≤ 2147483647 := by
  simp only [Lit.wf, Bool.and_eq_true, decide_eq_true_eq] at h
  have e1 : IntKind.i32.min = -2147483648 := by decide
  have e2 : IntKind.i32.max = 2147483647 := by decide
  rw [e1, e2] at h
  omega

set_option maxRecDepth 100000 in
theorem spans_rd {H : Type} {enc : TypeId × Value → H} {W : World} {base : Nat} {v : Value} {d : DataW H} {p : List MemPlace}
    (hv : Value.okWide Tryz.prog W .any base 70 v) (h : DataW.Trod enc Tryz.prog W 0 (fun _ => true) true 70 v d p) :
    ∃ l : List S.Sp, S.Rd W v l ∧ S.Fit l ∧ l.length + 1 ≤ Rows.uptoBulk d ∧ ∀ ao n c, v = .slice ao n c → n ≤ c := by
  obtain ⟨a0, len0, cap0, rfl⟩ := okWide_slice Tryz.underlying70 hv
  obtain ⟨fuel, hf⟩ := h
  obtain ⟨f0, f1, hu, o0, o1, t0, t1⟩ : ∃ f0 f1 : Field, Tryz.prog.underlying 86 = some (.struct #[f0, f1]) ∧ f0.offset = 0 ∧ f1.offset = 1 ∧ f0.type = 21 ∧ f1.type = 21 := ⟨_, _, Tryz.underlying86, rfl, rfl, rfl, rfl⟩
  rcases Go.Deep.open_slice_pairs Tryz.underlying70 hu (by kernel_rfl) o0 o1 (by rw [t0]; kernel_rfl) (by rw [t1]; kernel_rfl) hf with ⟨hcs, hx⟩ | ⟨a, len, cap, m, n, V0, V1, D0, D1, P0, P1, hcs, _, hl, hm, hmm, hx, hcell⟩
  · simp [Value.cells] at hcs
    obtain ⟨rfl, rfl, rfl⟩ := hcs
    exact ⟨[], S.Rd.nil W, fun x hx => by simp at hx, bulk_one _, fun ao n c h => by cases h; exact Nat.le_refl _⟩
  · simp [Value.cells] at hcs
    obtain ⟨rfl, rfl, rfl⟩ := hcs
    simp only [Prod.mk.injEq] at hx
    obtain ⟨rfl, rfl⟩ := hx
    simp only [if_true] at hmm
    subst hmm
    have each : ∀ i, i < len0 → ∃ x1 x2 : Int, V0 i = .int .i32 x1 ∧ V1 i = .int .i32 x2 ∧ -2147483648 ≤ x1 ∧ x1 ≤ 2147483647 ∧ -2147483648 ≤ x2 ∧ x2 ≤ 2147483647 := fun i hi => by
      obtain ⟨_, _, h3, h4⟩ := hcell i (by omega)
      rw [t0] at h3
      rw [t1] at h4
      obtain ⟨x1, e1, _, w1⟩ := DataW.trod_int Tryz.underlying21 h3
      obtain ⟨x2, e2, _, w2⟩ := DataW.trod_int Tryz.underlying21 h4
      have := wf_i32 w1
      have := wf_i32 w2
      exact ⟨x1, x2, by simpa using e1, by simpa using e2, by omega, by omega, by omega, by omega⟩
    let g : Nat → S.Sp := fun i => (intOf (V0 i), intOf (V1 i))
    have hg : ∀ i, i < len0 → V0 i = .int .i32 (g i).1 ∧ V1 i = .int .i32 (g i).2 ∧ -2147483648 ≤ (g i).1 ∧ (g i).1 ≤ 2147483647 ∧ -2147483648 ≤ (g i).2 ∧ (g i).2 ≤ 2147483647 := fun i hi => by
      obtain ⟨x1, x2, e1, e2, h⟩ := each i hi
      simp only [g, e1, e2, intOf]
      exact ⟨trivial, trivial, h⟩
    have hlen : ((List.range len0).map g).length = len0 := by simp
    refine ⟨(List.range len0).map g, ⟨_, m, by rw [hlen], fun h => by simp at h, fun hne => ?_⟩, fun x hx => ?_, ?_, fun ao n c h => by cases h; exact hl⟩
    · have h0 : 0 < len0 := by
        cases len0 with
        | zero => simp at hne
        | succ => omega
      obtain ⟨b, off, spot⟩ := a
      have c0 := (hcell 0 (by omega)).1
      have hsp : spot = none := by simpa [Addr.add] using World.cell?_spot c0
      subst hsp
      refine ⟨b, off, rfl, fun j x hj => ?_⟩
      have hj2 : j < len0 := by
        have := (List.getElem?_eq_some_iff.1 hj).1
        rw [hlen] at this
        exact this
      have hxj : g j = x := by
        rw [List.getElem?_map, List.getElem?_range hj2] at hj
        simpa using hj
      obtain ⟨h3, h4, _⟩ := hcell j (by omega)
      rw [L.addr_add] at h3 h4
      rw [← Nat.add_assoc] at h4
      rw [h3, h4, (hg j hj2).1, (hg j hj2).2.1, hxj]
      exact ⟨rfl, rfl⟩
    · obtain ⟨i, hi, rfl⟩ := List.mem_map.1 hx
      exact (hg i (by simpa using hi)).2.2
    · have h5 := bulk_slice (H := H) ((List.range len0).map fun i => .agg [D0 i, D1 i]) ((List.range (m - len0)).map fun j => .agg [D0 (len0 + j), D1 (len0 + j)])
      simpa using h5

end Go.Proofs.YtlmmjefplbcapaaGreat
