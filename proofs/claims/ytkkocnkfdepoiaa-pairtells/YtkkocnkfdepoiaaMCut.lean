/-
  Rules that undo others: what is asked of them ahead, and what follows of it: plain lists.
-/
import Derived.Test.YtkkocnkfdepoiaaYMath2
import Derived.Test.YtkkocnkfdepoiaaSAlg
import Derived.Test.YtkkocnkfdepoiaaSLib
namespace Go.Proofs.Ytkkocnkfdepoiaa.Pr
open S (Sp)
set_option linter.unusedVariables false
set_option linter.unusedSimpArgs false

/-- the first one of which something is so -/
def firstN {α : Type} (P : α → Bool) : Nat → List α → Int
  | _, [] => -1
  | i, r :: l => if P r = true then (i : Int) else firstN P (i + 1) l
def firstI {α : Type} (P : α → Bool) (l : List α) : Int := firstN P 0 l
theorem firstN_drop {α : Type} {P : α → Bool} {l : List α} {i : Nat} {r : α} (h : l[i]? = some r) : firstN P i (l.drop i) = if P r = true then (i : Int) else firstN P (i + 1) (l.drop (i + 1)) := by
  have hlt := (List.getElem?_eq_some_iff.1 h).1
  rw [List.drop_eq_getElem_cons hlt]
  have : l[i] = r := by rw [List.getElem?_eq_getElem hlt] at h; exact Option.some.inj h
  rw [this]; rfl
theorem firstN_congr {α : Type} {P Q : α → Bool} {l : List α} (h : ∀ r ∈ l, P r = Q r) : ∀ i, firstN P i l = firstN Q i l := by
  induction l with
  | nil => intro i; rfl
  | cons x l ih =>
    intro i
    rw [firstN, firstN, h x (List.mem_cons_self ..), ih fun r hr => h r (List.mem_cons_of_mem _ hr)]
theorem firstN_is {α : Type} {P : α → Bool} {l : List α} : ∀ {i : Nat}, firstN P i l = -1 ∨ ∃ (j : Nat) (r : α), l[j]? = some r ∧ P r = true ∧ firstN P i l = ((i + j : Nat) : Int) := by
  induction l with
  | nil => intro i; exact .inl rfl
  | cons x l ih =>
    intro i
    rw [firstN]
    by_cases hx : P x = true
    · rw [if_pos hx]; exact .inr ⟨0, x, rfl, hx, by simp⟩
    · rw [if_neg hx]
      rcases ih (i := i + 1) with h | ⟨j, r, h1, h2, h3⟩
      · exact .inl h
      · exact .inr ⟨j + 1, r, by simpa using h1, h2, by rw [h3]; omega⟩
theorem firstI_is {α : Type} {P : α → Bool} {l : List α} : firstI P l = -1 ∨ ∃ (j : Nat) (r : α), l[j]? = some r ∧ P r = true ∧ firstI P l = (j : Int) := by
  rcases firstN_is (P := P) (l := l) (i := 0) with h | ⟨j, r, h1, h2, h3⟩
  · exact .inl h
  · exact .inr ⟨j, r, h1, h2, by unfold firstI; rw [h3]; omega⟩
theorem whichN_first {t : List Int} {k : Int} {l : List K.Rule} : ∀ i, K.whichN t k i l = firstN (fun r => K.matchB r t k) i l := by
  induction l with
  | nil => intro i; rfl
  | cons x l ih => intro i; rw [K.whichN, firstN, ih]
theorem which_first {t : List Int} {k : Int} {l : List K.Rule} : K.which l t k = firstI (fun r => K.matchB r t k) l := whichN_first 0
theorem which_congr {t t' : List Int} {k k' : Int} {l : List K.Rule} (h : ∀ r ∈ l, K.matchB r t k = K.matchB r t' k') : K.which l t k = K.which l t' k' := by
  rw [which_first, which_first]; exact firstN_congr h 0

def aroundB (r : K.Rule) : Bool := r.start || r.fin || decide (0 < r.before.length) || decide (0 < r.after.length)
/-- they always go on, and look at nothing around -/
def plainB (l : List K.Rule) : Bool := K.sureB l && !(l.any aroundB)
def upFrom (a : Int) (n : Nat) : List Int := (List.range n).map fun k : Nat => a + k
/-- all numbers of a set -/
def numbers (s : List Sp) : List Int := s.flatMap fun x => upFrom x.1 (x.2 - x.1 + 1).toNat
def neverB (dom : List Int) (s : List Sp) : Bool := !(dom.any fun r => S.memb s r)
def broadB (dom : List Int) (r : K.Rule) : Bool := decide (1 < r.source.length) && !(r.source.any (neverB dom))
def oneByOneB (forth : List K.Rule) (dom : List Int) : Bool := !(forth.any (broadB dom))
def hitB (u : Int) (x : K.Rule) : Bool := decide (x.source.length = 1) && S.memb (K.headS x) u
/-- the image of a number -/
def made (forth : List K.Rule) (u : Int) : List Int := if firstI (hitB u) forth < 0 then [u] else ((forth[(firstI (hitB u) forth).toNat]?).getD K.noRule).target
def images (forth : List K.Rule) (dom : List Int) : List (Int × List Int) := dom.map fun u => (u, made forth u)
def shortB (most : Nat) (m : Int × List Int) : Bool := decide (m.2.length = 0) || decide (2 * m.2.length < most)
def longB (l : List (Int × List Int)) (back : List K.Rule) : Bool := !(l.any (shortB (K.ahead back)))
def comesB (back : List K.Rule) (m : Int × List Int) (behind : List Int) : Bool :=
  if K.which back (m.2 ++ behind) 0 < 0 then decide (m.2 = [m.1])
  else decide (((back[(K.which back (m.2 ++ behind) 0).toNat]?).getD K.noRule).source.length = m.2.length) && decide (((back[(K.which back (m.2 ++ behind) 0).toNat]?).getD K.noRule).target = [m.1])
def lostB (back : List K.Rule) (l : List (Int × List Int)) (m : Int × List Int) : Bool := !(comesB back m []) || l.any (fun n => !(comesB back m n.2))
def allB (l : List (Int × List Int)) (back : List K.Rule) : Bool := !(l.any (lostB back l))
def undoesB (forth back : List K.Rule) (dom : List Int) : Bool := plainB forth && plainB back && oneByOneB forth dom && longB (images forth dom) back && allB (images forth dom) back
/-- all that Sure answers -/
def sureF (forth back : List K.Rule) (s : List Sp) : Bool × Int :=
  if (K.rulesF forth).1 ≠ 0 then (false, (K.rulesF forth).1)
  else if (K.rulesF back).1 ≠ 0 then (false, (K.rulesF back).1)
  else if S.wrongE s ≠ 0 then (false, S.wrongE s)
  else if 40 < S.total s then (false, 4)
  else (undoesB forth back (numbers s), 0)

theorem mem_upFrom {a : Int} {n : Nat} {x : Int} : x ∈ upFrom a n ↔ a ≤ x ∧ x < a + n := by
  unfold upFrom
  rw [List.mem_map]
  constructor
  · rintro ⟨k, hk, rfl⟩; have := List.mem_range.1 hk; omega
  · rintro ⟨h1, h2⟩; exact ⟨(x - a).toNat, List.mem_range.2 (by omega), by omega⟩
theorem mem_numbers {s : List Sp} {x : Int} : x ∈ numbers s ↔ S.memb s x = true := by
  rw [S.memb_iff]
  unfold numbers
  rw [List.mem_flatMap]
  constructor
  · rintro ⟨y, hy, h⟩; rw [mem_upFrom] at h; exact ⟨y, hy, by omega, by omega⟩
  · rintro ⟨y, hy, h1, h2⟩; exact ⟨y, hy, mem_upFrom.2 ⟨h1, by omega⟩⟩

/-- rules that look at nothing around -/
theorem plain_rule {l : List K.Rule} (h : plainB l = true) {r : K.Rule} (hr : r ∈ l) : r.cursor = r.target.length ∧ r.start = false ∧ r.fin = false ∧ r.before = [] ∧ r.after = [] := by
  unfold plainB at h
  rw [Bool.and_eq_true] at h
  have h1 := List.all_eq_true.1 h.1 r hr
  have h2 : l.any aroundB = false := by simpa using h.2
  rw [List.any_eq_false] at h2
  have h3 := h2 r hr
  unfold aroundB at h3
  simp only [Bool.or_eq_true, decide_eq_true_eq, not_or] at h3
  obtain ⟨⟨⟨q1, q2⟩, q3⟩, q4⟩ := h3
  exact ⟨by simpa [K.goesB] using h1, by simpa using q1, by simpa using q2, List.length_eq_zero_iff.1 (by omega), List.length_eq_zero_iff.1 (by omega)⟩
theorem match_plain {r : K.Rule} (h1 : r.start = false) (h2 : r.fin = false) (h3 : r.before = []) (h4 : r.after = []) (t : List Int) (k : Int) : K.matchB r t k = K.runAt t k r.source := by
  unfold K.matchB
  rw [h1, h2, h3, h4]
  simp
theorem runAt_shift {d x : List Int} {l : List (List Sp)} : ∀ {k : Nat}, K.runAt (d ++ x) ((d.length : Int) + k) l = K.runAt x k l := by
  induction l with
  | nil => intro k; rfl
  | cons s l ih =>
    intro k
    rw [K.runAt, K.runAt]
    have e : (d.length : Int) + k + 1 = (d.length : Int) + ((k + 1 : Nat) : Int) := by omega
    rw [e, ih]
    have e1 : decide (0 ≤ (d.length : Int) + k) = decide (0 ≤ (k : Int)) := decide_eq_decide.2 (by omega)
    have e2 : decide ((d.length : Int) + k < ((d ++ x).length : Nat)) = decide ((k : Int) < (x.length : Nat)) := by rw [List.length_append]; exact decide_eq_decide.2 (by omega)
    have e3 : (d ++ x).getD ((d.length : Int) + k).toNat 0 = x.getD ((k : Int)).toNat 0 := by
      rw [show ((d.length : Int) + k).toNat = d.length + k by omega, show ((k : Int)).toNat = k by omega]
      simp only [List.getD]
      rw [List.getElem?_append_right (by omega)]
      congr 2
      omega
    rw [e1, e2, e3]
    rfl
theorem runAt_prefix {x y : List Int} {l : List (List Sp)} : ∀ {k : Nat}, k + l.length ≤ x.length → K.runAt (x ++ y) k l = K.runAt x k l := by
  induction l with
  | nil => intro k _; rfl
  | cons s l ih =>
    intro k h
    rw [List.length_cons] at h
    rw [K.runAt, K.runAt]
    rw [show (k : Int) + 1 = ((k + 1 : Nat) : Int) by omega, ih (by omega)]
    have e2 : decide ((k : Int) < ((x ++ y).length : Nat)) = decide ((k : Int) < (x.length : Nat)) := by
      rw [List.length_append]
      exact decide_eq_decide.2 (by omega)
    have e3 : (x ++ y).getD ((k : Int)).toNat 0 = x.getD ((k : Int)).toNat 0 := by
      rw [show ((k : Int)).toNat = k by omega]
      simp only [List.getD]
      rw [List.getElem?_append_left (by omega)]
    rw [e2, e3]
theorem match_shift {r : K.Rule} (h1 : r.start = false) (h2 : r.fin = false) (h3 : r.before = []) (h4 : r.after = []) (d x : List Int) : K.matchB r (d ++ x) d.length = K.matchB r x 0 := by
  rw [match_plain h1 h2 h3 h4, match_plain h1 h2 h3 h4]
  have := runAt_shift (d := d) (x := x) (l := r.source) (k := 0)
  simpa using this
theorem match_prefix {r : K.Rule} (h1 : r.start = false) (h2 : r.fin = false) (h3 : r.before = []) (h4 : r.after = []) {x : List Int} (y : List Int) (hl : r.source.length ≤ x.length) : K.matchB r (x ++ y) 0 = K.matchB r x 0 := by
  rw [match_plain h1 h2 h3 h4, match_plain h1 h2 h3 h4]
  exact runAt_prefix (k := 0) (by omega)

/-- of one rune alone -/
theorem match_one {r : K.Rule} (h1 : r.start = false) (h2 : r.fin = false) (h3 : r.before = []) (h4 : r.after = []) (hs : 0 < r.source.length) (u : Int) : K.matchB r [u] 0 = hitB u r := by
  rw [match_plain h1 h2 h3 h4]
  unfold hitB K.headS
  match hq : r.source with
  | [] => rw [hq] at hs; simp at hs
  | [s] => simp [K.runAt]
  | s :: s2 :: l => simp [K.runAt]
/-- in a text of the domain -/
theorem match_dom {forth : List K.Rule} {dom : List Int} (hO : oneByOneB forth dom = true) {r : K.Rule} (hr : r ∈ forth) (h1 : r.start = false) (h2 : r.fin = false) (h3 : r.before = []) (h4 : r.after = []) (hs : 0 < r.source.length) (u : Int) (rest : List Int) (hd : ∀ x ∈ u :: rest, x ∈ dom) : K.matchB r (u :: rest) 0 = hitB u r := by
  by_cases h : r.source.length = 1
  · have := match_prefix h1 h2 h3 h4 (x := [u]) rest (by simp; omega)
    rw [show u :: rest = [u] ++ rest from rfl, this]
    exact match_one h1 h2 h3 h4 hs u
  · have hf : hitB u r = false := by unfold hitB; simp [h]
    rw [hf]
    cases hm : K.matchB r (u :: rest) 0 with
    | false => rfl
    | true =>
      exfalso
      unfold oneByOneB at hO
      have hO2 : forth.any (broadB dom) = false := by simpa using hO
      rw [List.any_eq_false] at hO2
      have h5 := hO2 r hr
      unfold broadB at h5
      have hgt : 1 < r.source.length := by omega
      simp only [hgt, decide_true, Bool.true_and, Bool.not_eq_true', Bool.not_eq_false] at h5
      rw [List.any_eq_true] at h5
      obtain ⟨s, hs1, hs2⟩ := h5
      obtain ⟨i, hi⟩ := List.getElem?_of_mem hs1
      rw [match_plain h1 h2 h3 h4, K.runAt_iff] at hm
      obtain ⟨g1, g2, g3⟩ := hm i s hi
      unfold neverB at hs2
      have hs3 : (dom.any fun x => S.memb s x) = false := by simpa using hs2
      rw [List.any_eq_false] at hs3
      have hlt : i < (u :: rest).length := by omega
      rw [show ((0 : Int) + i).toNat = i by omega, List.getD_eq_getElem?_getD, List.getElem?_eq_getElem hlt] at g3
      exact absurd g3 (hs3 _ (hd _ (List.getElem_mem hlt)))

def flat (forth : List K.Rule) (t : List Int) : List Int := t.flatMap (made forth)

/-- the way forth: each rune becomes its image -/
theorem play_forth {forth : List K.Rule} {dom : List Int} (hP : plainB forth = true) (hE : ∀ r ∈ forth, K.ruleE r = 0) (hO : oneByOneB forth dom = true) : ∀ (left : Nat) (done rest : List Int) (s p : Int), rest.length ≤ left → (∀ x ∈ rest, x ∈ dom) →
    ((K.play forth left done rest s p).1 = 0 ∧ (K.play forth left done rest s p).2.1 = done ++ flat forth rest) ∨ (K.play forth left done rest s p).1 = 4 := by
  intro left
  induction left with
  | zero =>
    intro done rest s p h _
    have : rest = [] := List.length_eq_zero_iff.1 (by omega)
    subst this
    rw [K.play_end rfl]
    exact .inl ⟨rfl, by simp [flat]⟩
  | succ left ih =>
    intro done rest s p h hd
    match rest, h, hd with
    | [], h, hd => rw [K.play_end rfl]; exact .inl ⟨rfl, by simp [flat]⟩
    | u :: rest, h, hd =>
      have hw : K.which forth (done ++ u :: rest) done.length = firstI (hitB u) forth := by
        rw [which_first]
        refine firstN_congr (fun r hr => ?_) 0
        obtain ⟨_, q1, q2, q3, q4⟩ := plain_rule hP hr
        show K.matchB r (done ++ u :: rest) done.length = _
        rw [match_shift q1 q2 q3 q4]
        exact match_dom hO hr q1 q2 q3 q4 (K.ruleE_zero (hE r hr)).2.2.2.1 u rest hd
      have hn : ¬ (u :: rest).length = 0 := by simp
      rcases firstI_is (P := hitB u) (l := forth) with hk | ⟨j, r, hj, hh, hk⟩
      · rw [K.play_on hn (by rw [hw, hk])]
        have := ih (done ++ (u :: rest).take 1) ((u :: rest).drop 1) (s + 1) p (by simp at h ⊢; omega) (fun x hx => hd x (List.mem_of_mem_drop hx))
        have e : done ++ (u :: rest).take 1 ++ flat forth ((u :: rest).drop 1) = done ++ flat forth (u :: rest) := by
          have : made forth u = [u] := by unfold made; rw [hk, if_pos (by decide)]
          simp [flat, this]
        rw [e] at this
        exact this
      · have hmem := List.mem_of_getElem? hj
        obtain ⟨q0, q1, q2, q3, q4⟩ := plain_rule hP hmem
        have hs1 : r.source.length = 1 := by unfold hitB at hh; simp at hh; exact hh.1
        have hm : made forth u = r.target := by unfold made; rw [hk, if_neg (by omega), Int.toNat_natCast, hj]; rfl
        have hro : K.restOf r (u :: rest) = r.target ++ rest := by unfold K.restOf; rw [hs1]; rfl
        by_cases hmu : 4000 < done.length + (K.restOf r (u :: rest)).length
        · rw [K.play_much hn (by rw [hw, hk]) hj hmu]; exact .inr rfl
        · rw [K.play_put hn (by rw [hw, hk]) hj hmu, hro, q0, Int.toNat_natCast, List.take_left, List.drop_left]
          have := ih (done ++ r.target) rest (s + 1) (p + 1) (by simp at h; omega) (fun x hx => hd x (List.mem_cons_of_mem _ hx))
          have e : done ++ r.target ++ flat forth rest = done ++ flat forth (u :: rest) := by simp [flat, hm]
          rw [e] at this
          exact this

theorem long_at {forth back : List K.Rule} {dom : List Int} (h : longB (images forth dom) back = true) {u : Int} (hu : u ∈ dom) : 0 < (made forth u).length ∧ K.ahead back ≤ 2 * (made forth u).length := by
  unfold longB at h
  have h1 : (images forth dom).any (shortB (K.ahead back)) = false := by simpa using h
  rw [List.any_eq_false] at h1
  have h2 := h1 (u, made forth u) (List.mem_map.2 ⟨u, hu, rfl⟩)
  unfold shortB at h2
  simp only [Bool.or_eq_true, decide_eq_true_eq, not_or] at h2
  omega
theorem all_at {forth back : List K.Rule} {dom : List Int} (h : allB (images forth dom) back = true) {u : Int} (hu : u ∈ dom) : comesB back (u, made forth u) [] = true ∧ ∀ v ∈ dom, comesB back (u, made forth u) (made forth v) = true := by
  unfold allB at h
  have h1 : (images forth dom).any (lostB back (images forth dom)) = false := by simpa using h
  rw [List.any_eq_false] at h1
  have h2 := h1 (u, made forth u) (List.mem_map.2 ⟨u, hu, rfl⟩)
  unfold lostB at h2
  simp only [Bool.or_eq_true, not_or] at h2
  refine ⟨by simpa using h2.1, fun v hv => ?_⟩
  have h3 : ((images forth dom).any fun n => !(comesB back (u, made forth u) n.2)) = false := by simpa using h2.2
  rw [List.any_eq_false] at h3
  simpa using h3 (v, made forth v) (List.mem_map.2 ⟨v, hv, rfl⟩)
/-- the way back: each image becomes its rune -/
theorem play_back {forth back : List K.Rule} {dom : List Int} (hP : plainB back = true) (hE : ∀ r ∈ back, K.ruleE r = 0) (hL : longB (images forth dom) back = true) (hA : allB (images forth dom) back = true) : ∀ (t : List Int) (left : Nat) (done : List Int) (s p : Int), (flat forth t).length ≤ left → done.length + (flat forth t).length ≤ 4000 → (∀ x ∈ t, x ∈ dom) →
    (K.play back left done (flat forth t) s p).1 = 0 ∧ (K.play back left done (flat forth t) s p).2.1 = done ++ t := by
  intro t
  induction t with
  | nil =>
    intro left done s p _ _ _
    rw [K.play_end (by simp [flat])]
    exact ⟨rfl, by simp⟩
  | cons u t ih =>
    intro left done s p hleft hlen hd
    have hu := hd u (List.mem_cons_self ..)
    have ht : ∀ x ∈ t, x ∈ dom := fun x hx => hd x (List.mem_cons_of_mem _ hx)
    obtain ⟨l1, l2⟩ := long_at hL hu
    obtain ⟨a1, a2⟩ := all_at hA hu
    have ef : flat forth (u :: t) = made forth u ++ flat forth t := by simp [flat]
    rw [ef] at hleft hlen ⊢
    rw [List.length_append] at hleft hlen
    obtain ⟨behind, hcb, hwb⟩ : ∃ behind, comesB back (u, made forth u) behind = true ∧ K.which back (done ++ (made forth u ++ flat forth t)) done.length = K.which back (made forth u ++ behind) 0 := by
      match t, ht with
      | [], _ =>
        refine ⟨[], a1, ?_⟩
        refine which_congr fun r hr => ?_
        obtain ⟨_, q1, q2, q3, q4⟩ := plain_rule hP hr
        rw [match_shift q1 q2 q3 q4]
        rfl
      | v :: t, ht =>
        have hv := ht v (List.mem_cons_self ..)
        obtain ⟨m1, m2⟩ := long_at hL hv
        refine ⟨made forth v, a2 v hv, ?_⟩
        refine which_congr fun r hr => ?_
        obtain ⟨_, q1, q2, q3, q4⟩ := plain_rule hP hr
        rw [match_shift q1 q2 q3 q4]
        have e : made forth u ++ flat forth (v :: t) = (made forth u ++ made forth v) ++ flat forth t := by simp [flat]
        rw [e]
        refine match_prefix q1 q2 q3 q4 _ ?_
        have := K.ahead_ge hr
        rw [List.length_append]
        omega
    have hn : ¬ (made forth u ++ flat forth t).length = 0 := by rw [List.length_append]; omega
    cases left with
    | zero => omega
    | succ left =>
      unfold comesB at hcb
      rcases K.which_is (l := back) (t := made forth u ++ behind) (k := 0) with hk | ⟨j, r, hj, hm, hk⟩
      · rw [hk, if_pos (by decide)] at hcb
        have hmu : made forth u = [u] := by simpa using hcb
        rw [K.play_on hn (by rw [hwb, hk]), hmu]
        have := ih left (done ++ [u]) (s + 1) p (by omega) (by rw [List.length_append, List.length_singleton]; omega) ht
        simpa using this
      · rw [hk, if_neg (by omega)] at hcb
        simp only [Int.toNat_natCast, hj, Option.getD_some, Bool.and_eq_true, decide_eq_true_eq] at hcb
        obtain ⟨c1, c2⟩ := hcb
        have hmem := List.mem_of_getElem? hj
        obtain ⟨q0, q1, q2, q3, q4⟩ := plain_rule hP hmem
        have hro : K.restOf r (made forth u ++ flat forth t) = [u] ++ flat forth t := by unfold K.restOf; rw [c1, c2, List.drop_left]
        rw [K.play_put hn (by rw [hwb, hk]) hj (by rw [hro, List.length_append, List.length_singleton]; omega), hro, q0, c2]
        have := ih left (done ++ [u]) (s + 1) (p + 1) (by omega) (by rw [List.length_append, List.length_singleton]; omega) ht
        simpa using this

theorem undoes_parts {forth back : List K.Rule} {dom : List Int} (h : undoesB forth back dom = true) : plainB forth = true ∧ plainB back = true ∧ oneByOneB forth dom = true ∧ longB (images forth dom) back = true ∧ allB (images forth dom) back = true := by
  unfold undoesB at h
  simp only [Bool.and_eq_true] at h
  exact ⟨h.1.1.1.1, h.1.1.1.2, h.1.1.2, h.1.2, h.2⟩
theorem sureF_true {forth back : List K.Rule} {s : List Sp} (h : sureF forth back s = (true, 0)) : (K.rulesF forth).1 = 0 ∧ (K.rulesF back).1 = 0 ∧ S.wrongE s = 0 ∧ undoesB forth back (numbers s) = true := by
  unfold sureF at h
  by_cases h1 : (K.rulesF forth).1 = 0
  · rw [if_neg (by simp [h1])] at h
    by_cases h2 : (K.rulesF back).1 = 0
    · rw [if_neg (by simp [h2])] at h
      by_cases h3 : S.wrongE s = 0
      · rw [if_neg (by simp [h3])] at h
        by_cases h4 : 40 < S.total s
        · rw [if_pos h4] at h; simp at h
        · rw [if_neg h4] at h; simp at h; exact ⟨h1, h2, h3, h⟩
      · rw [if_pos h3] at h; simp at h
    · rw [if_pos h2] at h; simp at h
  · rw [if_pos h1] at h; simp at h
theorem flat_right {forth : List K.Rule} (hE : ∀ r ∈ forth, K.ruleE r = 0) {t : List Int} (h : K.allR t = true) : K.allR (flat forth t) = true := by
  unfold K.allR at h ⊢
  rw [List.all_eq_true] at h ⊢
  intro x hx
  unfold flat at hx
  obtain ⟨u, hu, hx⟩ := List.mem_flatMap.1 hx
  unfold made at hx
  rcases firstI_is (P := hitB u) (l := forth) with hk | ⟨j, r, hj, _, hk⟩
  · rw [hk, if_pos (by decide)] at hx
    rw [List.mem_singleton.1 hx]; exact h u hu
  · rw [hk, if_neg (by omega), Int.toNat_natCast, hj] at hx
    have := (K.ruleE_zero (hE r (List.mem_of_getElem? hj))).2.2.2.2.2.1
    unfold K.allR at this
    exact List.all_eq_true.1 this x hx
/-- WHAT IS SURE TO BE UNDONE IS -/
theorem undone {forth back : List K.Rule} {s : List Sp} {t : List Int} (h : sureF forth back s = (true, 0)) (hd : ∀ x ∈ t, S.memb s x = true) :
    ((K.runF forth t).2.1 = 0 → (K.runF back (K.runF forth t).1.1).2.1 = 0 ∧ (K.runF back (K.runF forth t).1.1).1.1 = t) ∧ ((K.runF forth t).2.1 = 0 ∨ (K.runF forth t).2.1 = 3 ∨ (K.runF forth t).2.1 = 4) := by
  obtain ⟨f1, f2, f3, f4⟩ := sureF_true h
  obtain ⟨u1, u2, u3, u4, u5⟩ := undoes_parts f4
  have hEf := (K.rulesF_zero f1).2.1
  have hEb := (K.rulesF_zero f2).2.1
  have hdom : ∀ x ∈ t, x ∈ numbers s := fun x hx => mem_numbers.2 (hd x hx)
  by_cases hc : (K.checkF forth t).1 = 0
  · obtain ⟨c1, c2, _⟩ := K.checkF_zero hc
    obtain ⟨t1, t2⟩ := K.textE_ok.1 c2
    have hlen := K.runF_len (l := forth) (t := t)
    have hp := play_forth u1 hEf u3 (8 * t.length + 40) [] t 0 0 (by omega) hdom
    have e1 : (K.runF forth t).2.1 = (K.play forth (8 * t.length + 40) [] t 0 0).1 := by unfold K.runF; rw [if_pos hc]
    have e2 : (K.runF forth t).1.1 = (K.play forth (8 * t.length + 40) [] t 0 0).2.1 := by unfold K.runF; rw [if_pos hc]
    rw [e2] at hlen
    rw [e1, e2]
    refine ⟨fun h0 => ?_, ?_⟩
    · rcases hp with ⟨_, hp⟩ | hp
      · rw [hp, List.nil_append] at hlen ⊢
        have hcb : (K.checkF back (flat forth t)).1 = 0 := by rw [K.checkF_ok f2 (K.textE_ok.2 ⟨hlen, flat_right hEf t2⟩)]
        have hb := play_back u2 hEb u4 u5 t (8 * (flat forth t).length + 40) [] 0 0 (by omega) (by simpa using hlen) hdom
        unfold K.runF
        rw [if_pos hcb]
        exact ⟨hb.1, by simpa using hb.2⟩
      · rw [hp] at h0; exact absurd h0 (by decide)
    · rcases hp with ⟨hp, _⟩ | hp
      · exact .inl hp
      · exact .inr (.inr hp)
  · have e1 : (K.runF forth t).2.1 = (K.checkF forth t).1 := by unfold K.runF; rw [if_neg hc]
    rw [e1]
    refine ⟨fun h0 => absurd h0 hc, .inr ?_⟩
    unfold K.checkF at hc ⊢
    rw [if_pos f1] at hc ⊢
    show K.textE t = 3 ∨ K.textE t = 4
    have hc2 : K.textE t ≠ 0 := hc
    unfold K.textE at hc2 ⊢
    by_cases h1 : 4000 < t.length
    · rw [if_pos h1]; exact .inr rfl
    · rw [if_neg h1] at hc2 ⊢
      by_cases h2 : K.allR t = true
      · rw [if_pos h2] at hc2; exact absurd rfl hc2
      · rw [if_neg h2]; exact .inl rfl
/-- WHAT CAN BE UNDONE IS TOLD APART -/
theorem apart {forth back : List K.Rule} {s : List Sp} {t u : List Int} (h : sureF forth back s = (true, 0)) (ht : ∀ x ∈ t, S.memb s x = true) (hu : ∀ x ∈ u, S.memb s x = true) (h1 : (K.runF forth t).2.1 = 0) (h2 : (K.runF forth u).2.1 = 0) (he : (K.runF forth t).1.1 = (K.runF forth u).1.1) : t = u := by
  have a := ((undone h ht).1 h1).2
  have b := ((undone h hu).1 h2).2
  rw [he] at a
  exact a.symm.trans b

end Go.Proofs.Ytkkocnkfdepoiaa.Pr

/-
  Slices of runes, cut.
-/
namespace Go.Proofs.Ytkkocnkfdepoiaa
open Go.RowKit
set_option maxRecDepth 20000
set_option linter.unusedSimpArgs false
set_option linter.unusedVariables false

namespace K
/-- a text's slice, cut -/
theorem rd_take {w : World} {xo : Option Addr} {xc : Nat} {t : List Int} (h : L.Rd w (.slice xo t.length xc) .i32 t) {n : Nat} (hn : n ≤ t.length) : L.Rd w (.slice xo n xc) .i32 (t.take n) := by
  obtain ⟨ao, cap, he, hz, hc⟩ := h
  cases he
  refine ⟨xo, xc, by rw [List.length_take, Nat.min_eq_left hn], hz, fun hne => ?_⟩
  obtain ⟨b, off, rfl, hcell⟩ := hc (by intro h; subst h; simp at hne)
  refine ⟨b, off, rfl, fun j z hj => hcell j z ?_⟩
  rw [List.getElem?_take] at hj
  split at hj
  · exact hj
  · cases hj
theorem rd_drop {w : World} {xo : Option Addr} {xc : Nat} {t : List Int} (h : L.Rd w (.slice xo t.length xc) .i32 t) {d : Nat} (hd : d ≤ t.length) (hcap : t.length ≤ xc) : L.Rd w (.slice (if xc = d then xo else Option.map (fun x => x.add d) xo) (t.length - d) (xc - d)) .i32 (t.drop d) := by
  obtain ⟨ao, cap, he, hz, hc⟩ := h
  cases he
  refine ⟨_, _, by rw [List.length_drop], fun e => ?_, fun hne => ?_⟩
  · cases xo with
    | none => rw [hz rfl]; simp
    | some a => split at e <;> cases e
  · have hp := List.length_pos_iff.2 hne
    rw [List.length_drop] at hp
    obtain ⟨b, off, rfl, hcell⟩ := hc (by intro h; subst h; simp at hp)
    rw [if_neg (by omega)]
    refine ⟨b, off + d, by rw [Option.map_some, L.addr_add], fun j z hj => ?_⟩
    rw [List.getElem?_drop] at hj
    rw [Nat.add_assoc]
    exact hcell _ z hj
end K

theorem K.slice_upto (xo : Option Addr) (N xc n : Nat) (h : n ≤ xc) (w' : World) : (Instr.slice 28 (.slice xo N xc) none (some (.int .i64 (n : Int))) none).run Try.prog w' = .ok (.slice xo n xc) w' := by
  have a1 : (n : Int) ≤ xc := by omega
  have a0 : (0 : Int) ≤ n := by omega
  go_simp
theorem K.slice_from (xo : Option Addr) (N xc D : Nat) (h : D ≤ N) (hc : N ≤ xc) (w' : World) : (Instr.slice 28 (.slice xo N xc) (some (.int .i64 (D : Int))) none none).run Try.prog w' = .ok (.slice (if xc = D then xo else Option.map (fun x => x.add D) xo) (N - D) (xc - D)) w' := by
  have a1 : (D : Int) ≤ N := by omega
  have a2 : (N : Int) ≤ xc := by omega
  have a0 : (0 : Int) ≤ D := by omega
  go_simp

end Go.Proofs.Ytkkocnkfdepoiaa
