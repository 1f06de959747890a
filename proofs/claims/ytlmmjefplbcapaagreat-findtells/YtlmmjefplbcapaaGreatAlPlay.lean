/-
  What rules can do: who masks whom, how far they look, whether they always go on; and what follows of it: plain lists.
-/
import Derived.Test.YtlmmjefplbcapaaGreatSSubP
import Derived.Test.YtlmmjefplbcapaaGreatYHead
namespace Go.Proofs.YtlmmjefplbcapaaGreat.K
open S (Sp)

/-- place by place -/
theorem runAt_iff {t : List Int} {l : List (List Sp)} : ∀ {k : Int}, runAt t k l = true ↔ ∀ (i : Nat) s, l[i]? = some s → 0 ≤ k + i ∧ k + i < t.length ∧ S.memb s (t.getD (k + i).toNat 0) = true := by
  induction l with
  | nil => intro k; simp [runAt]
  | cons x l ih =>
    intro k
    rw [runAt, Bool.and_eq_true, ih]
    simp only [Bool.and_eq_true, decide_eq_true_eq]
    constructor
    · rintro ⟨⟨⟨h1, h2⟩, h3⟩, h4⟩ i s hs
      cases i with
      | zero =>
        simp only [List.getElem?_cons_zero, Option.some.injEq] at hs
        subst hs
        have e : k + ((0 : Nat) : Int) = k := by omega
        rw [e]; exact ⟨h1, h2, h3⟩
      | succ i =>
        have := h4 i s (by simpa using hs)
        rw [show k + ((i + 1 : Nat) : Int) = k + 1 + i by omega]; exact this
    · intro h
      refine ⟨?_, fun i s hs => ?_⟩
      · have := h 0 x rfl
        have e : k + ((0 : Nat) : Int) = k := by omega
        rw [e] at this; exact ⟨⟨this.1, this.2.1⟩, this.2.2⟩
      · have := h (i + 1) s (by simpa using hs)
        rw [show k + ((i + 1 : Nat) : Int) = k + 1 + i by omega] at this; exact this
/-- counted from the cursor back -/
theorem runAt_back {t : List Int} {l : List (List Sp)} {k : Int} : runAt t (k - l.length) l = true ↔ ∀ (i : Nat) s, l.reverse[i]? = some s → 0 ≤ k - 1 - i ∧ k - 1 - i < t.length ∧ S.memb s (t.getD (k - 1 - i).toNat 0) = true := by
  rw [runAt_iff]
  constructor
  · intro h i s hs
    have hi : i < l.length := by simpa using (List.getElem?_eq_some_iff.1 hs).1
    rw [List.getElem?_reverse hi] at hs
    have := h _ s hs
    rw [show k - (l.length : Int) + ((l.length - 1 - i : Nat) : Int) = k - 1 - i by omega] at this
    exact this
  · intro h i s hs
    have hi : i < l.length := (List.getElem?_eq_some_iff.1 hs).1
    have := h (l.length - 1 - i) s (by
      rw [List.getElem?_reverse (by omega), show l.length - 1 - (l.length - 1 - i) = i by omega]; exact hs)
    rw [show k - 1 - ((l.length - 1 - i : Nat) : Int) = k - (l.length : Int) + i by omega] at this
    exact this
theorem matchB_iff {r : Rule} {t : List Int} {k : Int} : matchB r t k = true ↔ runAt t (k - r.before.length) r.before = true ∧ runAt t k (r.source ++ r.after) = true ∧ (r.start = true → k - r.before.length ≤ 0) ∧ (r.fin = true → (t.length : Int) ≤ k + (r.source ++ r.after).length) := by
  unfold matchB
  rw [List.append_assoc, runAt_append, show k - (r.before.length : Int) + r.before.length = k by omega]
  simp only [Bool.and_eq_true, Bool.not_eq_true', Bool.and_eq_false_iff, decide_eq_false_iff_not, List.length_append]
  constructor
  · rintro ⟨⟨⟨h1, h2⟩, h3⟩, h4⟩
    refine ⟨h1, h2, fun h => ?_, fun h => ?_⟩
    · rcases h3 with h3 | h3
      · rw [h] at h3; cases h3
      · omega
    · rcases h4 with h4 | h4
      · rw [h] at h4; cases h4
      · omega
  · rintro ⟨h1, h2, h3, h4⟩
    refine ⟨⟨⟨h1, h2⟩, ?_⟩, ?_⟩
    · cases hs : r.start with
      | false => exact .inl rfl
      | true => have := h3 hs; exact .inr (by omega)
    · cases hs : r.fin with
      | false => exact .inl rfl
      | true => have := h4 hs; exact .inr (by omega)

/-- the first sets of the one are within those of the other -/
def withinB : List (List Sp) → List (List Sp) → Bool
  | [], _ => true
  | _ :: _, [] => false
  | s :: l, u :: m => subF u s && withinB l m
theorem withinB_iff {l : List (List Sp)} : ∀ {m : List (List Sp)}, withinB l m = true ↔ l.length ≤ m.length ∧ ∀ (i : Nat) s u, l[i]? = some s → m[i]? = some u → subF u s = true := by
  induction l with
  | nil => intro m; simp [withinB]
  | cons x l ih =>
    intro m
    cases m with
    | nil => simp [withinB]
    | cons y m =>
      rw [withinB, Bool.and_eq_true, ih]
      constructor
      · rintro ⟨h1, h2, h3⟩
        refine ⟨by simpa using h2, fun i s u hs hu => ?_⟩
        cases i with
        | zero => simp at hs hu; subst hs; subst hu; exact h1
        | succ i => exact h3 i s u (by simpa using hs) (by simpa using hu)
      · rintro ⟨h1, h2⟩
        exact ⟨h2 0 x y rfl rfl, by simpa using h1, fun i s u hs hu => h2 (i + 1) s u (by simpa using hs) (by simpa using hu)⟩
def coversB (e1 : Bool) (l1 : List (List Sp)) (e2 : Bool) (l2 : List (List Sp)) : Bool := withinB l1 l2 && !(e1 && !(e2 && decide (l1.length = l2.length)))
def masksB (a b : Rule) : Bool := coversB a.start a.before.reverse b.start b.before.reverse && coversB a.fin (a.source ++ a.after) b.fin (b.source ++ b.after)
theorem coversB_iff {e1 e2 : Bool} {l1 l2 : List (List Sp)} : coversB e1 l1 e2 l2 = true ↔ withinB l1 l2 = true ∧ (e1 = true → e2 = true ∧ l1.length = l2.length) := by
  unfold coversB
  cases e1 <;> cases e2 <;> simp
theorem good_nf {l : List (List Sp)} (h : Good l) {s : List Sp} (hs : s ∈ l) : S.Nf 0 s := (h.2 s hs).1
/-- WHO MASKS MATCHES, TOO -/
theorem masks_match {a b : Rule} {t : List Int} {k : Int} (ha : ruleE a = 0) (hb : ruleE b = 0) (hm : masksB a b = true) (h : matchB b t k = true) : matchB a t k = true := by
  obtain ⟨a1, a2, a3, a4, _⟩ := ruleE_zero ha
  obtain ⟨b1, b2, b3, b4, _⟩ := ruleE_zero hb
  unfold masksB at hm
  rw [Bool.and_eq_true, coversB_iff, coversB_iff] at hm
  obtain ⟨⟨m1, m2⟩, m3, m4⟩ := hm
  rw [withinB_iff] at m1 m3
  rw [matchB_iff, runAt_back, runAt_iff] at h ⊢
  obtain ⟨h1, h2, h3, h4⟩ := h
  refine ⟨fun i s hs => ?_, fun i s hs => ?_, fun hs => ?_, fun hs => ?_⟩
  · have hi := (List.getElem?_eq_some_iff.1 hs).1
    obtain ⟨u, hu⟩ : ∃ u, b.before.reverse[i]? = some u := ⟨b.before.reverse[i]'(by have := m1.1; omega), List.getElem?_eq_getElem _⟩
    obtain ⟨c1, c2, c3⟩ := h1 i u hu
    refine ⟨c1, c2, (subF_iff (good_nf b1 ?_) (good_nf a1 ?_)).1 (m1.2 i s u hs hu) _ c3⟩
    · simpa using List.mem_of_getElem? hu
    · simpa using List.mem_of_getElem? hs
  · have hi := (List.getElem?_eq_some_iff.1 hs).1
    obtain ⟨u, hu⟩ : ∃ u, (b.source ++ b.after)[i]? = some u := ⟨(b.source ++ b.after)[i]'(by have := m3.1; omega), List.getElem?_eq_getElem _⟩
    obtain ⟨c1, c2, c3⟩ := h2 i u hu
    have nfs : ∀ {x y : List (List Sp)} {z : List Sp}, Good x → Good y → z ∈ x ++ y → S.Nf 0 z := fun hx hy hz => by
      rcases List.mem_append.1 hz with hz | hz
      · exact good_nf hx hz
      · exact good_nf hy hz
    exact ⟨c1, c2, (subF_iff (nfs b2 b3 (List.mem_of_getElem? hu)) (nfs a2 a3 (List.mem_of_getElem? hs))).1 (m3.2 i s u hs hu) _ c3⟩
  · obtain ⟨q1, q2⟩ := m2 hs
    have := h3 q1
    simp only [List.length_reverse] at q2
    omega
  · obtain ⟨q1, q2⟩ := m4 hs
    have := h4 q1
    omega

/-- the rules that one ahead of them masks -/
def maskAt (l : List Rule) (k : Nat) : Bool := (l.take k).any fun a => masksB a ((l[k]?).getD noRule)
def maskedN (l : List Rule) (n : Nat) : List Int := ((List.range n).filter (maskAt l)).map fun k : Nat => (k : Int)
def maskedL (l : List Rule) : List Int := maskedN l l.length
theorem maskedN_zero (l : List Rule) : maskedN l 0 = [] := rfl
theorem maskedN_yes {l : List Rule} {n : Nat} (h : maskAt l n = true) : maskedN l (n + 1) = maskedN l n ++ [(n : Int)] := by
  unfold maskedN; rw [List.range_succ, List.filter_append]; simp [h]
theorem maskedN_no {l : List Rule} {n : Nat} (h : maskAt l n = false) : maskedN l (n + 1) = maskedN l n := by
  unfold maskedN; rw [List.range_succ, List.filter_append]; simp [h]
theorem maskedN_len (l : List Rule) (n : Nat) : (maskedN l n).length ≤ n := by
  unfold maskedN; rw [List.length_map]; exact Nat.le_trans (List.length_filter_le _ _) (by simp)
theorem maskedL_mem {l : List Rule} {z : Int} (h : z ∈ maskedL l) : ∃ k : Nat, z = k ∧ k < l.length ∧ maskAt l k = true := by
  unfold maskedL maskedN at h
  obtain ⟨k, hk, rfl⟩ := List.mem_map.1 h
  obtain ⟨h1, h2⟩ := List.mem_filter.1 hk
  exact ⟨k, rfl, by simpa using h1, h2⟩

/-- how far rules look -/
def behind (l : List Rule) : Nat := l.foldl (fun m r => max m r.before.length) 0
def ahead (l : List Rule) : Nat := l.foldl (fun m r => max m (r.source.length + r.after.length)) 0
theorem foldmax {f : Rule → Nat} {l : List Rule} : ∀ m, m ≤ l.foldl (fun m r => max m (f r)) m ∧ ∀ r ∈ l, f r ≤ l.foldl (fun m r => max m (f r)) m := by
  induction l with
  | nil => intro m; simp
  | cons x l ih =>
    intro m
    rw [List.foldl_cons]
    have := ih (max m (f x))
    refine ⟨by omega, fun r hr => ?_⟩
    rcases List.mem_cons.1 hr with rfl | hr
    · omega
    · exact this.2 r hr
theorem behind_ge {l : List Rule} {r : Rule} (h : r ∈ l) : r.before.length ≤ behind l := (foldmax (f := fun r => r.before.length) 0).2 r h
theorem ahead_ge {l : List Rule} {r : Rule} (h : r ∈ l) : r.source.length + r.after.length ≤ ahead l := (foldmax (f := fun r => r.source.length + r.after.length) 0).2 r h
theorem behind_take {l : List Rule} {k : Nat} {r : Rule} (h : l[k]? = some r) : behind (l.take (k + 1)) = max (behind (l.take k)) r.before.length := by
  unfold behind; rw [List.take_add_one, h, List.foldl_append]; rfl
theorem ahead_take {l : List Rule} {k : Nat} {r : Rule} (h : l[k]? = some r) : ahead (l.take (k + 1)) = max (ahead (l.take k)) (r.source.length + r.after.length) := by
  unfold ahead; rw [List.take_add_one, h, List.foldl_append]; rfl

/-- whether they always go on -/
def goesB (r : Rule) : Bool := decide (r.cursor = r.target.length)
def sureB (l : List Rule) : Bool := l.all goesB
/-- WHO ALWAYS GOES ON ENDS SOON -/
theorem play_sure {l : List Rule} (hS : sureB l = true) (hE : ∀ r ∈ l, ruleE r = 0) : ∀ (left : Nat) (done rest : List Int) (s p : Int), rest.length ≤ left → (play l left done rest s p).1 ≠ 9 ∧ ((play l left done rest s p).1 = 0 → (play l left done rest s p).2.2.1 ≤ s + rest.length) := by
  intro left
  induction left with
  | zero =>
    intro done rest s p h
    rw [play_end (by omega)]
    refine ⟨by show (0 : Int) ≠ 9; decide, fun _ => by show s ≤ _; omega⟩
  | succ left ih =>
    intro done rest s p h
    by_cases h0 : rest.length = 0
    · rw [play_end h0]
      refine ⟨by show (0 : Int) ≠ 9; decide, fun _ => by show s ≤ _; omega⟩
    · rcases which_is (l := l) (t := done ++ rest) (k := done.length) with hk | ⟨j, r, hr, hm, hk⟩
      · rw [play_on h0 hk]
        have := ih (done ++ rest.take 1) (rest.drop 1) (s + 1) p (by rw [List.length_drop]; omega)
        refine ⟨this.1, fun q => ?_⟩
        have := this.2 q
        rw [List.length_drop] at this
        omega
      · by_cases hmu : 4000 < done.length + (restOf r rest).length
        · rw [play_much h0 hk hr hmu]
          exact ⟨by decide, fun h => absurd h (by decide)⟩
        · rw [play_put h0 hk hr hmu]
          have hmem := List.mem_of_getElem? hr
          have hg := List.all_eq_true.1 hS r hmem
          have hc : r.cursor = r.target.length := by simpa [goesB] using hg
          have hz := hE r hmem
          have hf := fits hz hm
          have hs := (ruleE_zero hz).2.2.2.1
          have hle : ((restOf r rest).drop r.cursor.toNat).length = rest.length - r.source.length := by rw [List.length_drop, restOf_length, hc]; omega
          have := ih (done ++ (restOf r rest).take r.cursor.toNat) ((restOf r rest).drop r.cursor.toNat) (s + 1) (p + 1) (by omega)
          refine ⟨this.1, fun q => ?_⟩
          have := this.2 q
          omega

/-- NO RULE LOOKS FURTHER -/
theorem getD_window {t : List Int} {a b : Nat} {i : Nat} (h : a + i < b) (_ : b ≤ t.length) : ((t.take b).drop a).getD i 0 = t.getD (a + i) 0 := by
  simp only [List.getD, List.getElem?_drop]
  rw [List.getElem?_take_of_lt h]
theorem match_window {r : Rule} {t : List Int} {k B A a b : Nat} (hB : r.before.length ≤ B) (hA : r.source.length + r.after.length ≤ A) (hk : k ≤ t.length) (ha : a = k - B - 1) (hb : b = min t.length (k + A + 1)) :
    matchB r ((t.take b).drop a) ((k : Int) - a) = matchB r t k := by
  have hlen : ((t.take b).drop a).length = b - a := by rw [List.length_drop, List.length_take]; omega
  apply S.bool_eq
  rw [matchB_iff, matchB_iff, runAt_back, runAt_iff, runAt_back, runAt_iff, hlen, List.length_append]
  have e1 : (∀ (i : Nat) s, r.before.reverse[i]? = some s → 0 ≤ (k : Int) - a - 1 - i ∧ (k : Int) - a - 1 - i < ((b - a : Nat) : Int) ∧ S.memb s (((t.take b).drop a).getD ((k : Int) - a - 1 - i).toNat 0) = true) ↔ (∀ (i : Nat) s, r.before.reverse[i]? = some s → 0 ≤ (k : Int) - 1 - i ∧ (k : Int) - 1 - i < (t.length : Int) ∧ S.memb s (t.getD ((k : Int) - 1 - i).toNat 0) = true) := by
    refine forall_congr' fun i => forall_congr' fun s => ⟨fun h hs => ?_, fun h hs => ?_⟩
    · have hi : i < r.before.length := by simpa using (List.getElem?_eq_some_iff.1 hs).1
      obtain ⟨h1, h2, h3⟩ := h hs
      refine ⟨by omega, by omega, ?_⟩
      rw [getD_window (by omega) (by omega)] at h3
      rw [show ((k : Int) - 1 - i).toNat = a + ((k : Int) - a - 1 - i).toNat by omega]; exact h3
    · have hi : i < r.before.length := by simpa using (List.getElem?_eq_some_iff.1 hs).1
      obtain ⟨h1, h2, h3⟩ := h hs
      refine ⟨by omega, by omega, ?_⟩
      rw [getD_window (by omega) (by omega)]
      rw [show ((k : Int) - 1 - i).toNat = a + ((k : Int) - a - 1 - i).toNat by omega] at h3; exact h3
  have e2 : (∀ (i : Nat) s, (r.source ++ r.after)[i]? = some s → 0 ≤ (k : Int) - a + i ∧ (k : Int) - a + i < ((b - a : Nat) : Int) ∧ S.memb s (((t.take b).drop a).getD ((k : Int) - a + i).toNat 0) = true) ↔ (∀ (i : Nat) s, (r.source ++ r.after)[i]? = some s → 0 ≤ (k : Int) + i ∧ (k : Int) + i < (t.length : Int) ∧ S.memb s (t.getD ((k : Int) + i).toNat 0) = true) := by
    refine forall_congr' fun i => forall_congr' fun s => ⟨fun h hs => ?_, fun h hs => ?_⟩
    · have hi : i < r.source.length + r.after.length := by simpa using (List.getElem?_eq_some_iff.1 hs).1
      obtain ⟨h1, h2, h3⟩ := h hs
      refine ⟨by omega, by omega, ?_⟩
      rw [getD_window (by omega) (by omega)] at h3
      rw [show ((k : Int) + i).toNat = a + ((k : Int) - a + i).toNat by omega]; exact h3
    · have hi : i < r.source.length + r.after.length := by simpa using (List.getElem?_eq_some_iff.1 hs).1
      obtain ⟨h1, h2, h3⟩ := h hs
      refine ⟨by omega, by omega, ?_⟩
      rw [getD_window (by omega) (by omega)]
      rw [show ((k : Int) + i).toNat = a + ((k : Int) - a + i).toNat by omega] at h3; exact h3
  rw [e1, e2]
  refine and_congr Iff.rfl (and_congr Iff.rfl (and_congr ?_ ?_))
  · exact forall_congr' fun _ => by omega
  · exact forall_congr' fun _ => by omega
theorem whichN_congr {t t' : List Int} {k k' : Int} {l : List Rule} (h : ∀ r ∈ l, matchB r t' k' = matchB r t k) : ∀ i, whichN t' k' i l = whichN t k i l := by
  induction l with
  | nil => intro i; rfl
  | cons x l ih =>
    intro i
    rw [whichN, whichN, h x (List.mem_cons_self ..), ih fun r hr => h r (List.mem_cons_of_mem _ hr)]
theorem which_window {l : List Rule} {t : List Int} {k a b : Nat} (hk : k ≤ t.length) (ha : a = k - behind l - 1) (hb : b = min t.length (k + ahead l + 1)) : which l ((t.take b).drop a) ((k : Int) - a) = which l t k :=
  whichN_congr (fun _ hr => match_window (behind_ge hr) (ahead_ge hr) hk ha hb) 0
theorem allR_sub {t u : List Int} (h : allR t = true) (hs : ∀ x ∈ u, x ∈ t) : allR u = true := by
  unfold allR at h ⊢
  rw [List.all_eq_true] at h ⊢
  exact fun x hx => h x (hs x hx)
theorem textE_ok {t : List Int} : textE t = 0 ↔ t.length ≤ 4000 ∧ allR t = true := by
  unfold textE
  by_cases h : 4000 < t.length
  · rw [if_pos h]; exact ⟨fun h => absurd h (by decide), fun h => by omega⟩
  · rw [if_neg h]
    cases allR t <;> simp <;> omega

/-- the first sets -/
theorem match_first {r : Rule} {t : List Int} {k : Int} (hE : ruleE r = 0) (h : matchB r t k = true) : 0 ≤ k ∧ k < t.length ∧ S.memb (headS r) (t.getD k.toNat 0) = true := by
  have hs := (ruleE_zero hE).2.2.2.1
  rw [matchB_iff, runAt_iff, runAt_iff] at h
  obtain ⟨x, hx⟩ : ∃ x, r.source[0]? = some x := ⟨r.source[0], by simp⟩
  have := h.2.1 0 x (by rw [List.getElem?_append_left hs]; exact hx)
  have e : headS r = x := by
    unfold headS
    cases hq : r.source with
    | nil => rw [hq] at hx; simp at hx
    | cons y l => rw [hq] at hx; simpa using hx
  rw [e, show k + ((0 : Nat) : Int) = k by omega] at *
  exact this
theorem memb_flat {l : List Rule} {r : Rule} {x : Int} (hr : r ∈ l) (h : S.memb (headS r) x = true) : S.memb (firstsL l) x = true := by
  rw [S.memb_iff] at h ⊢
  obtain ⟨y, hy, h1⟩ := h
  exact ⟨y, List.mem_flatMap.2 ⟨r, hr, hy⟩, h1⟩
theorem which_none {l : List Rule} {t : List Int} {k : Int} (h : ∀ r ∈ l, matchB r t k = false) : which l t k = -1 := by
  rcases which_is (l := l) (t := t) (k := k) with hk | ⟨j, r, hr, hm, _⟩
  · exact hk
  · rw [h r (List.mem_of_getElem? hr)] at hm; cases hm
theorem which_no {l : List Rule} {t : List Int} {k : Int} : ∀ {i : Nat}, whichN t k i l = -1 → ∀ r ∈ l, matchB r t k = false := by
  induction l with
  | nil => intro i _ r hr; cases hr
  | cons x l ih =>
    intro i h r hr
    rw [whichN] at h
    by_cases hx : matchB x t k = true
    · rw [if_pos hx] at h; omega
    · rw [if_neg hx] at h
      rcases List.mem_cons.1 hr with rfl | hr
      · simpa using hx
      · exact ih h r hr
/-- WHERE NO RULE MATCHES NOTHING CHANGES -/
theorem play_still {l : List Rule} : ∀ (left : Nat) (done rest : List Int) (s p : Int), (∀ k : Nat, done.length ≤ k → k < (done ++ rest).length → which l (done ++ rest) k = -1) → rest.length ≤ left → play l left done rest s p = (0, done ++ rest, s + rest.length, p) := by
  intro left
  induction left with
  | zero =>
    intro done rest s p _ h
    have : rest = [] := List.length_eq_zero_iff.1 (by omega)
    subst this
    rw [play_end rfl]; simp
  | succ left ih =>
    intro done rest s p hw h
    by_cases h0 : rest.length = 0
    · have : rest = [] := List.length_eq_zero_iff.1 h0
      subst this
      rw [play_end rfl]; simp
    · rw [play_on h0 (hw done.length (Nat.le_refl _) (by rw [List.length_append]; omega))]
      have e : done ++ rest.take 1 ++ rest.drop 1 = done ++ rest := by rw [List.append_assoc, List.take_append_drop]
      rw [ih _ _ _ _ (by
        rw [e]; intro k h1 h2
        exact hw k (by rw [List.length_append] at h1; omega) h2) (by rw [List.length_drop]; omega)]
      rw [e, List.length_drop]
      congr 3
      omega
theorem which_firsts {l : List Rule} (hE : ∀ r ∈ l, ruleE r = 0) {t : List Int} {k : Nat} (h : k < t.length → S.memb (firstsL l) (t.getD k 0) = false) : which l t k = -1 := by
  refine which_none fun r hr => ?_
  cases hm : matchB r t k with
  | false => rfl
  | true =>
    obtain ⟨h0, h1, h2⟩ := match_first (hE r hr) hm
    have := memb_flat hr h2
    rw [show ((k : Int)).toNat = k by omega, h (by omega)] at this
    cases this

/-- whether what they made stays -/
def stirsB (P : Int → Bool) (r : Rule) : Bool := !(decide (r.source.length = 1)) || decide (0 < r.after.length) || r.fin || r.target.any P
def steadyB (l : List Rule) : Bool := sureB l && !(l.any (stirsB (S.memb (firstsL l))))
theorem steady_rule {l : List Rule} (h : steadyB l = true) {r : Rule} (hr : r ∈ l) : r.cursor = r.target.length ∧ r.source.length = 1 ∧ r.after = [] ∧ r.fin = false ∧ ∀ x ∈ r.target, S.memb (firstsL l) x = false := by
  unfold steadyB at h
  rw [Bool.and_eq_true] at h
  have h1 := List.all_eq_true.1 h.1 r hr
  have h2 : l.any (stirsB (S.memb (firstsL l))) = false := by simpa using h.2
  rw [List.any_eq_false] at h2
  have h3 := h2 r hr
  unfold stirsB at h3
  simp only [Bool.or_eq_true, Bool.not_eq_true', decide_eq_false_iff_not, decide_eq_true_eq, not_or, Decidable.not_not] at h3
  obtain ⟨⟨⟨q1, q2⟩, q3⟩, q4⟩ := h3
  refine ⟨by simpa [goesB] using h1, q1, List.length_eq_zero_iff.1 (by omega), by simpa using q3, fun x hx => ?_⟩
  have q5 : r.target.any (S.memb (firstsL l)) = false := by simpa using q4
  rw [List.any_eq_false] at q5
  simpa using q5 x hx
/-- such a rule looks at what stands ahead, and at one rune -/
theorem match_ahead {r : Rule} {t t' : List Int} {k : Nat} (h1 : r.source.length = 1) (h2 : r.after = []) (h3 : r.fin = false) (hk : k < t.length) (hk' : k < t'.length) (he : ∀ i, i ≤ k → t.getD i 0 = t'.getD i 0) : matchB r t k = matchB r t' k := by
  have hgen : ∀ {t t' : List Int}, k < t.length → k < t'.length → (∀ i, i ≤ k → t.getD i 0 = t'.getD i 0) → matchB r t k = true → matchB r t' k = true := by
    intro t t' hk hk' he h
    rw [matchB_iff, runAt_back, runAt_iff] at h ⊢
    obtain ⟨g1, g2, g3, _⟩ := h
    refine ⟨fun i s hs => ?_, fun i s hs => ?_, g3, fun hf => by rw [h3] at hf; cases hf⟩
    · obtain ⟨c1, c2, c3⟩ := g1 i s hs
      refine ⟨c1, by omega, ?_⟩
      rw [← he _ (by omega)]; exact c3
    · have hi := (List.getElem?_eq_some_iff.1 hs).1
      rw [h2, List.append_nil, h1] at hi
      obtain ⟨c1, c2, c3⟩ := g2 i s hs
      refine ⟨c1, by omega, ?_⟩
      rw [← he _ (by omega)]; exact c3
  exact S.bool_eq ⟨hgen hk hk' he, hgen hk' hk fun i hi => (he i hi).symm⟩
/-- WHAT IS STEADY STAYS: where a run came to an end no rule matches in what it made -/
theorem play_steady {l : List Rule} (hS : steadyB l = true) (hE : ∀ r ∈ l, ruleE r = 0) : ∀ (left : Nat) (done rest : List Int) (s p : Int), (∀ (k : Nat) tail, k < done.length → which l (done ++ tail) k = -1) → allR done = true → allR rest = true → (play l left done rest s p).1 = 0 →
    (∀ k : Nat, k < (play l left done rest s p).2.1.length → which l (play l left done rest s p).2.1 k = -1) ∧ allR (play l left done rest s p).2.1 = true := by
  intro left
  induction left with
  | zero =>
    intro done rest s p hd h1 h2 h0
    by_cases hr : rest.length = 0
    · rw [play_end hr] at h0 ⊢
      exact ⟨fun k hk => by have := hd k [] hk; rw [List.append_nil] at this; exact this, h1⟩
    · rw [play_out hr] at h0; exact absurd h0 (by decide)
  | succ left ih =>
    intro done rest s p hd h1 h2 h0
    by_cases hr : rest.length = 0
    · rw [play_end hr] at h0 ⊢
      exact ⟨fun k hk => by have := hd k [] hk; rw [List.append_nil] at this; exact this, h1⟩
    · rcases which_is (l := l) (t := done ++ rest) (k := done.length) with hk | ⟨j, r, hj, hm, hk⟩
      · rw [play_on hr hk] at h0 ⊢
        refine ih _ _ _ _ (fun k tail hlt => ?_) ?_ ?_ h0
        · rw [List.append_assoc]
          by_cases hkd : k < done.length
          · exact hd k _ hkd
          · have hlen : (rest.take 1).length = 1 := by rw [List.length_take]; omega
            rw [List.length_append, hlen] at hlt
            have hke : k = done.length := by omega
            subst hke
            refine which_none fun r hr2 => ?_
            obtain ⟨q1, q2, q3, q4, _⟩ := steady_rule hS hr2
            rw [← which_no (i := 0) hk r hr2]
            refine match_ahead q2 q3 q4 (by rw [List.length_append, List.length_append, hlen]; omega) (by rw [List.length_append]; omega) fun i hi => ?_
            simp only [List.getD]
            by_cases hi2 : i < done.length
            · rw [List.getElem?_append_left hi2, List.getElem?_append_left hi2]
            · have : i = done.length := by omega
              subst this
              rw [List.getElem?_append_right (Nat.le_refl _), List.getElem?_append_right (Nat.le_refl _), Nat.sub_self, List.getElem?_append_left (by omega), List.getElem?_take_of_lt (by omega)]
        · unfold allR at h1 h2 ⊢
          rw [List.all_append, h1, Bool.true_and, List.all_eq_true]
          exact fun x hx => List.all_eq_true.1 h2 x (List.mem_of_mem_take hx)
        · exact allR_sub h2 fun x hx => List.mem_of_mem_drop hx
      · by_cases hmu : 4000 < done.length + (restOf r rest).length
        · rw [play_much hr hk hj hmu] at h0; exact absurd h0 (by decide)
        · have hmem := List.mem_of_getElem? hj
          obtain ⟨q1, q2, q3, q4, q5⟩ := steady_rule hS hmem
          have e1 : (restOf r rest).take r.cursor.toNat = r.target := by unfold restOf; rw [q1, Int.toNat_natCast, List.take_left]
          have e2 : (restOf r rest).drop r.cursor.toNat = rest.drop r.source.length := by unfold restOf; rw [q1, Int.toNat_natCast, List.drop_left]
          rw [play_put hr hk hj hmu, e1, e2] at h0 ⊢
          refine ih _ _ _ _ (fun k tail hlt => ?_) ?_ ?_ h0
          · rw [List.append_assoc]
            by_cases hkd : k < done.length
            · exact hd k _ hkd
            · rw [List.length_append] at hlt
              refine which_firsts hE fun _ => ?_
              simp only [List.getD]
              rw [List.getElem?_append_right (by omega), List.getElem?_append_left (by omega)]
              obtain ⟨x, hx⟩ : ∃ x, r.target[k - done.length]? = some x := ⟨r.target[k - done.length]'(by omega), by simp⟩
              rw [hx]
              exact q5 x (List.mem_of_getElem? hx)
          · have := (ruleE_zero (hE r hmem)).2.2.2.2.2.1
            unfold allR at h1 this ⊢
            rw [List.all_append, h1, this]; rfl
          · exact allR_sub h2 fun x hx => List.mem_of_mem_drop hx

/-- WHAT IS MASKED MAY GO -/
def pick (l : List Rule) (t : List Int) (k : Int) : Option Rule := l.find? fun r => matchB r t k
theorem which_pick {l : List Rule} {t : List Int} {k : Int} : (which l t k = -1 ∧ pick l t k = none) ∨ ∃ (j : Nat) (r : Rule), which l t k = (j : Int) ∧ l[j]? = some r ∧ pick l t k = some r ∧ matchB r t k = true := by
  have hgen : ∀ i, (whichN t k i l = -1 ∧ pick l t k = none) ∨ ∃ (j : Nat) (r : Rule), whichN t k i l = ((i + j : Nat) : Int) ∧ l[j]? = some r ∧ pick l t k = some r ∧ matchB r t k = true := by
    induction l with
    | nil => intro i; exact .inl ⟨rfl, rfl⟩
    | cons x l ih =>
      intro i
      rw [whichN]
      unfold pick
      rw [List.find?_cons]
      cases hx : matchB x t k with
      | true => exact .inr ⟨0, x, by simp, rfl, rfl, hx⟩
      | false =>
        rw [if_neg (by decide)]
        rcases ih (i + 1) with ⟨h1, h2⟩ | ⟨j, r, h1, h2, h3, h4⟩
        · exact .inl ⟨h1, h2⟩
        · exact .inr ⟨j + 1, r, by rw [h1]; omega, by simpa using h2, h3, h4⟩
  rcases hgen 0 with h | ⟨j, r, h1, h2⟩
  · exact .inl h
  · exact .inr ⟨j, r, by unfold which; rw [h1]; omega, h2⟩
theorem play_congr {l u : List Rule} (h : ∀ t k, pick u t k = pick l t k) : ∀ (left : Nat) (done rest : List Int) (s p : Int), play u left done rest s p = play l left done rest s p := by
  intro left
  induction left with
  | zero =>
    intro done rest s p
    by_cases h0 : rest.length = 0
    · rw [play_end h0, play_end h0]
    · rw [play_out h0, play_out h0]
  | succ left ih =>
    intro done rest s p
    by_cases h0 : rest.length = 0
    · rw [play_end h0, play_end h0]
    · have hp := h (done ++ rest) done.length
      rcases which_pick (l := l) (t := done ++ rest) (k := done.length) with ⟨a1, a2⟩ | ⟨j, r, a1, a2, a3, _⟩
      · rcases which_pick (l := u) (t := done ++ rest) (k := done.length) with ⟨b1, b2⟩ | ⟨j', r', b1, b2, b3, _⟩
        · rw [play_on h0 a1, play_on h0 b1, ih]
        · rw [hp, a2] at b3; cases b3
      · rcases which_pick (l := u) (t := done ++ rest) (k := done.length) with ⟨b1, b2⟩ | ⟨j', r', b1, b2, b3, _⟩
        · rw [hp, a3] at b2; cases b2
        · rw [hp, a3] at b3
          cases b3
          by_cases hmu : 4000 < done.length + (restOf r rest).length
          · rw [play_much h0 a1 a2 hmu, play_much h0 b1 b2 hmu]
          · rw [play_put h0 a1 a2 hmu, play_put h0 b1 b2 hmu, ih]
theorem maskAt_by {l : List Rule} {k : Nat} (h : maskAt l k = true) (hk : k < l.length) : ∃ a b, a ∈ l.take k ∧ l[k]? = some b ∧ masksB a b = true := by
  unfold maskAt at h
  rw [List.any_eq_true] at h
  obtain ⟨a, ha, h⟩ := h
  obtain ⟨b, hb⟩ : ∃ b, l[k]? = some b := ⟨l[k], by simp [hk]⟩
  rw [hb] at h
  exact ⟨a, b, ha, hb, h⟩
def without (l : List Rule) (k : Nat) : List Rule := l.take k ++ l.drop (k + 1)
theorem pick_without {l : List Rule} {k : Nat} (hE : ∀ r ∈ l, ruleE r = 0) (h : maskAt l k = true) (hk : k < l.length) (t : List Int) (q : Int) : pick (without l k) t q = pick l t q := by
  obtain ⟨a, b, ha, hb, hm⟩ := maskAt_by h hk
  have e : l = l.take k ++ b :: l.drop (k + 1) := by
    have h1 : l[k] = b := by rw [List.getElem?_eq_getElem hk] at hb; exact Option.some.inj hb
    rw [← h1, ← List.drop_eq_getElem_cons hk, List.take_append_drop]
  have hr : pick l t q = pick (l.take k ++ b :: l.drop (k + 1)) t q := by rw [← e]
  rw [hr]
  unfold pick without
  rw [List.find?_append, List.find?_append, List.find?_cons]
  cases hmb : matchB b t q with
  | false => rfl
  | true =>
    have hma := masks_match (hE a (List.mem_of_mem_take ha)) (hE b (List.mem_of_getElem? hb)) hm hmb
    have : ((l.take k).find? fun r => matchB r t q).isSome = true := by
      rw [List.find?_isSome]; exact ⟨a, ha, hma⟩
    cases hf : (l.take k).find? fun r => matchB r t q with
    | none => rw [hf] at this; cases this
    | some r => rfl
theorem which_masked {l : List Rule} {k : Nat} (hE : ∀ r ∈ l, ruleE r = 0) (h : maskAt l k = true) (hk : k < l.length) (t : List Int) (q : Int) : which l t q ≠ (k : Int) := by
  obtain ⟨a, b, ha, hb, hm⟩ := maskAt_by h hk
  intro hw
  have hgen : ∀ (l : List Rule) (i k : Nat), whichN t q i l = ((i + k : Nat) : Int) → (∀ r ∈ l.take k, matchB r t q = false) ∧ ∀ b, l[k]? = some b → matchB b t q = true := by
    intro l
    induction l with
    | nil => intro i k h; rw [whichN] at h; omega
    | cons x l ih =>
      intro i k h
      rw [whichN] at h
      by_cases hx : matchB x t q = true
      · rw [if_pos hx] at h
        have : k = 0 := by omega
        subst this
        exact ⟨fun r hr => by simp at hr, fun b hb => by simp at hb; subst hb; exact hx⟩
      · rw [if_neg hx] at h
        cases k with
        | zero =>
          exfalso
          rcases whichN_is (t := t) (k := q) (l := l) (i := i + 1) with h1 | ⟨j, r, _, _, h1⟩ <;> omega
        | succ k =>
          have := ih (i + 1) k (by rw [h]; omega)
          refine ⟨fun r hr => ?_, fun b hb => this.2 b (by simpa using hb)⟩
          rw [List.take_succ_cons] at hr
          rcases List.mem_cons.1 hr with rfl | hr
          · simpa using hx
          · exact this.1 r hr
  have := hgen l 0 k (by unfold which at hw; rw [hw]; omega)
  have hmb := this.2 b hb
  have hma := masks_match (hE a (List.mem_of_mem_take ha)) (hE b (List.mem_of_getElem? hb)) hm hmb
  rw [this.1 a ha] at hma
  cases hma
theorem firstR_ok {l : List Rule} (h : ∀ r ∈ l, ruleE r = 0) : ∀ k, firstR k l = (0, 0) := by
  induction l with
  | nil => intro k; rfl
  | cons x l ih => intro k; rw [firstR, if_pos (h x (List.mem_cons_self ..))]; exact ih (fun r hr => h r (List.mem_cons_of_mem _ hr)) _
theorem rulesF_ok {l : List Rule} (hl : l.length ≤ 200) (h : ∀ r ∈ l, ruleE r = 0) : rulesF l = (0, 0) := by
  unfold rulesF; rw [if_neg (by omega)]; exact firstR_ok h 0
theorem without_ok {l : List Rule} {k : Nat} (h : ∀ r ∈ l, ruleE r = 0) : ∀ r ∈ without l k, ruleE r = 0 := fun r hr => by
  rcases List.mem_append.1 hr with hr | hr
  · exact h r (List.mem_of_mem_take hr)
  · exact h r (List.mem_of_mem_drop hr)
theorem without_len (l : List Rule) (k : Nat) : (without l k).length ≤ l.length := by
  unfold without; rw [List.length_append, List.length_take, List.length_drop]; omega
theorem runF_without {l : List Rule} {k : Nat} (h0 : (rulesF l).1 = 0) (h : maskAt l k = true) (hk : k < l.length) (t : List Int) : runF (without l k) t = runF l t := by
  obtain ⟨h1, h2, h3⟩ := rulesF_zero h0
  have e : rulesF (without l k) = (0, 0) := rulesF_ok (by have := without_len l k; omega) (without_ok h2)
  unfold runF checkF
  rw [e, h3, play_congr (pick_without h2 h hk)]

end Go.Proofs.YtlmmjefplbcapaaGreat.K

/-
  What came of which piece: the steps of rules over a text, and what each of them is about: plain lists.
-/
namespace Go.Proofs.YtlmmjefplbcapaaGreat.Al

/-- the steps: where the cursor was, which rule matched -/
def shots (l : List K.Rule) : Nat → List Int → List Int → List (Int × Int)
  | 0, _, _ => []
  | left + 1, A, Z =>
    if Z.length = 0 then []
    else if K.which l (A ++ Z) A.length < 0 then ((A.length : Int), -1) :: shots l left (A ++ Z.take 1) (Z.drop 1)
    else
      let r := (l[(K.which l (A ++ Z) A.length).toNat]?).getD K.noRule
      ((A.length : Int), K.which l (A ++ Z) A.length) :: shots l left (A ++ (K.restOf r Z).take r.cursor.toNat) ((K.restOf r Z).drop r.cursor.toNat)
theorem shots_end {l : List K.Rule} {left : Nat} {A Z : List Int} (h : Z.length = 0) : shots l left A Z = [] := by
  cases left
  · rfl
  · rw [shots, if_pos h]
theorem shots_on {l : List K.Rule} {left : Nat} {A Z : List Int} (h : ¬ Z.length = 0) (hk : K.which l (A ++ Z) A.length = -1) : shots l (left + 1) A Z = ((A.length : Int), -1) :: shots l left (A ++ Z.take 1) (Z.drop 1) := by
  rw [shots, if_neg h, if_pos (by rw [hk]; decide)]
theorem shots_put {l : List K.Rule} {left : Nat} {A Z : List Int} {j : Nat} {r : K.Rule} (h : ¬ Z.length = 0) (hk : K.which l (A ++ Z) A.length = (j : Int)) (hr : l[j]? = some r) : shots l (left + 1) A Z = ((A.length : Int), (j : Int)) :: shots l left (A ++ (K.restOf r Z).take r.cursor.toNat) ((K.restOf r Z).drop r.cursor.toNat) := by
  rw [shots, if_neg h, if_neg (by rw [hk]; omega), hk, Int.toNat_natCast, hr]
  rfl
theorem shots_len {l : List K.Rule} : ∀ {left : Nat} {A Z : List Int}, (shots l left A Z).length ≤ left := by
  intro left
  induction left with
  | zero => intro A Z; exact Nat.le_refl _
  | succ n ih =>
    intro A Z
    rw [shots]
    split
    · simp
    · split
      · rw [List.length_cons]; have := ih (A := A ++ Z.take 1) (Z := Z.drop 1); omega
      · simp only [List.length_cons]; exact Nat.succ_le_succ ih
/-- a step's rule is one of them, and where the cursor was is in the text -/
theorem shots_in {l : List K.Rule} : ∀ {left : Nat} {A Z : List Int} {s p : Int}, A.length + Z.length ≤ 4000 → (K.play l left A Z s p).1 = 0 → ∀ x ∈ shots l left A Z, 0 ≤ x.1 ∧ x.1 ≤ 4000 ∧ (x.2 = -1 ∨ ∃ (j : Nat) (r : K.Rule), x.2 = j ∧ l[j]? = some r) := by
  intro left
  induction left with
  | zero => intro A Z s p _ _ x hx; cases hx
  | succ n ih =>
    intro A Z s p hl h0 x hx
    by_cases hz : Z.length = 0
    · rw [shots_end hz] at hx; cases hx
    · rcases K.which_is (l := l) (t := A ++ Z) (k := A.length) with hk | ⟨j, r, hr, hm, hk⟩
      · rw [shots_on hz hk] at hx
        rw [K.play_on hz hk] at h0
        rcases List.mem_cons.1 hx with rfl | hx
        · exact ⟨by show (0 : Int) ≤ A.length; omega, by show (A.length : Int) ≤ 4000; omega, .inl rfl⟩
        · exact ih (by simp; omega) h0 x hx
      · rw [shots_put hz hk hr] at hx
        by_cases hmu : 4000 < A.length + (K.restOf r Z).length
        · rw [K.play_much hz hk hr hmu] at h0; exact absurd h0 (by decide)
        · rw [K.play_put hz hk hr hmu] at h0
          rcases List.mem_cons.1 hx with rfl | hx
          · exact ⟨by show (0 : Int) ≤ A.length; omega, by show (A.length : Int) ≤ 4000; omega, .inr ⟨j, r, rfl, hr⟩⟩
          · refine ih ?_ h0 x hx
            rw [List.length_append, List.length_take, List.length_drop]; omega

/-- a piece, what came of it, and by which rule -/
structure Lk where
  fr : Int
  up : Int
  beg : Int
  fin : Int
  rule : Int
def ruleAt (l : List K.Rule) (k : Int) : K.Rule := (l[k.toNat]?).getD K.noRule
def about (l : List K.Rule) (k : Int) : Int := if k < 0 then 1 else ((ruleAt l k).source.length : Int)
def came (l : List K.Rule) (k : Int) : Int := if k < 0 then 1 else ((ruleAt l k).target.length : Int)
def link (l : List K.Rule) (s : Int × Int) (fr : Int) : Lk := ⟨fr, fr + about l s.2, s.1, s.1 + came l s.2, s.2⟩
def links (l : List K.Rule) : Int → List (Int × Int) → List Lk
  | _, [] => []
  | fr, s :: ss => link l s fr :: links l (fr + about l s.2) ss
theorem links_len {l : List K.Rule} : ∀ {ss : List (Int × Int)} {fr : Int}, (links l fr ss).length = ss.length := by
  intro ss
  induction ss with
  | nil => intro fr; rfl
  | cons x ss ih => intro fr; rw [links, List.length_cons, List.length_cons, ih]
/-- a step that goes on -/
theorem go_on {l : List K.Rule} {left : Nat} {A Z : List Int} {s p fr : Int} (hz : ¬ Z.length = 0) (hk : K.which l (A ++ Z) A.length = -1) (h0 : (K.play l (left + 1) A Z s p).1 = 0) :
    (K.play l left (A ++ Z.take 1) (Z.drop 1) (s + 1) p).1 = 0 ∧ links l fr (shots l (left + 1) A Z) = ⟨fr, fr + 1, A.length, (A.length : Int) + 1, -1⟩ :: links l (fr + 1) (shots l left (A ++ Z.take 1) (Z.drop 1)) := by
  refine ⟨by rw [K.play_on hz hk] at h0; exact h0, ?_⟩
  rw [shots_on hz hk]
  rfl
theorem go_put {l : List K.Rule} {left : Nat} {A Z : List Int} {s p fr : Int} {j : Nat} {r : K.Rule} (hz : ¬ Z.length = 0) (hk : K.which l (A ++ Z) A.length = (j : Int)) (hr : l[j]? = some r) (hS : K.sureB l = true) (h0 : (K.play l (left + 1) A Z s p).1 = 0) :
    (K.play l left (A ++ r.target) (Z.drop r.source.length) (s + 1) (p + 1)).1 = 0 ∧ A.length + r.target.length + (Z.length - r.source.length) ≤ 4000 ∧ links l fr (shots l (left + 1) A Z) = ⟨fr, fr + (r.source.length : Int), A.length, (A.length : Int) + (r.target.length : Int), j⟩ :: links l (fr + (r.source.length : Int)) (shots l left (A ++ r.target) (Z.drop r.source.length)) := by
  have hg : K.goesB r = true := List.all_eq_true.1 hS r (List.mem_of_getElem? hr)
  have hc : r.cursor.toNat = r.target.length := by unfold K.goesB at hg; have := of_decide_eq_true hg; omega
  have e1 : (K.restOf r Z).take r.cursor.toNat = r.target := by rw [hc]; unfold K.restOf; exact List.take_left
  have e2 : (K.restOf r Z).drop r.cursor.toNat = Z.drop r.source.length := by rw [hc]; unfold K.restOf; exact List.drop_left
  by_cases hmu : 4000 < A.length + (K.restOf r Z).length
  · rw [K.play_much hz hk hr hmu] at h0; exact absurd h0 (by decide)
  · rw [K.play_put hz hk hr hmu, e1, e2] at h0
    refine ⟨h0, by rw [K.restOf_length] at hmu; omega, ?_⟩
    rw [shots_put hz hk hr, e1, e2]
    have ha : ruleAt l (j : Int) = r := by unfold ruleAt; rw [Int.toNat_natCast, hr]; rfl
    have hb : about l (j : Int) = (r.source.length : Int) := by unfold about; rw [if_neg (by omega), ha]
    have hd : came l (j : Int) = (r.target.length : Int) := by unfold came; rw [if_neg (by omega), ha]
    rw [links, link]
    simp only [hb, hd]
end Go.Proofs.YtlmmjefplbcapaaGreat.Al

/-
  (*vm.machine).play, told to a function that keeps what it was told.
-/
namespace Go.Proofs.YtlmmjefplbcapaaGreat
open Go.RowKit Go.Shelf
set_option maxRecDepth 20000
set_option linter.unusedSimpArgs false
set_option linter.unusedVariables false

/-- a step, whatever rule it is that matches -/
theorem xstepT_all (b : Nat) (ms : List Nat) (mb : Nat) (wb w : World) (g : Nat) (vr vh : Value) (l : List K.Rule) (c : List Int) (A Z : List Int) (M : Gm.Mx b ms mb wb w g vr vh l c A Z) (O : Gm.Ok l c) (hz : 0 < Z.length) (hR : K.allR (A ++ Z) = true) :
    Calls Tryz.prog 52 #[.pointer (some ⟨mb, 0, none⟩), .int .i64 (K.which l (A ++ Z) A.length)] w fun e w' => ∃ x : Int, e = .returned (.int .i64 x) ∧
      ((x = 4 ∧ Below b w w' ∧ ∀ left s p, K.play l (left + 1) A Z s p = (4, [], 0, 0)) ∨
       (x = 0 ∧ ∃ A' Z', Gm.Mx b ms mb wb w' g vr vh l c A' Z' ∧ Gm.Fr ⟨b, ms⟩ w w' ∧ K.allR (A' ++ Z') = true ∧ (∀ left s p, K.play l (left + 1) A Z s p = K.play l left A' Z' (s + 1) (p + if K.which l (A ++ Z) A.length = -1 then 0 else 1)) ∧ ∀ left, Al.shots l (left + 1) A Z = ((A.length : Int), K.which l (A ++ Z) A.length) :: Al.shots l left A' Z')) := by
  have hzn : ¬ Z.length = 0 := by omega
  rcases K.which_is (l := l) (t := A ++ Z) (k := (A.length : Int)) with hw | ⟨j, r, hj, hm, hw⟩
  · have h := xstep_no b ms mb wb w g vr vh l c A Z M hz
    rw [hw]
    refine h.mono ?_
    rintro e w' ⟨rfl, h1, h2⟩
    refine ⟨0, rfl, .inr ⟨rfl, _, _, h1, h2, ?_, fun left s p => ?_, fun left => ?_⟩⟩
    · rw [List.append_assoc, List.take_append_drop]; exact hR
    · rw [K.play_on hzn hw, if_pos rfl, Int.add_zero]
    · exact Al.shots_on hzn hw
  · have h := xstep_yes b ms mb wb w g vr vh l c A Z M j r hj (O.right r (List.mem_of_getElem? hj)) hm
    rw [hw]
    refine h.mono ?_
    rintro e w' ⟨x, rfl, ⟨h1, rfl, h2⟩ | ⟨h1, rfl, h2, h3⟩⟩
    · exact ⟨4, rfl, .inl ⟨rfl, h2, fun left s p => K.play_much hzn hw hj h1⟩⟩
    · refine ⟨0, rfl, .inr ⟨rfl, _, _, h2, h3, ?_, fun left s p => ?_, fun left => ?_⟩⟩
      · rw [List.append_assoc, List.take_append_drop]
        obtain ⟨g1, g2⟩ := Gm.allR_app.1 hR
        refine Gm.allR_app.2 ⟨g1, Gm.allR_app.2 ⟨(K.ruleE_zero (O.right r (List.mem_of_getElem? hj))).2.2.2.2.2.1, Gm.allR_sub g2 fun x hx => List.mem_of_mem_drop hx⟩⟩
      · rw [K.play_put hzn hw hj h1, if_neg (by omega)]
      · exact Al.shots_put hzn hw hj

set_option maxHeartbeats 8000000 in
theorem xplayT_any (b mb : Nat) (wb w : World) (g : Nat) (vr vh : Value) (l : List K.Rule) (c t : List Int) (M : Gm.Mx b [mb] mb wb w g vr vh l c [] t) (O : Gm.Ok l c) (hR : K.allR t = true)
    (U : World → Prop) (hU0 : U w) (hUb : ∀ W W', U W → Below b W W' → U W')
    (T : World → List Nat → List (Int × Int) → Prop) (hT0 : T w [] []) (hTb : ∀ W W' ms sh, T W ms sh → Gm.Fr ⟨b, mb :: ms⟩ W W' → T W' ms sh)
    (ft : Nat) (ct : Array Value) (eg : ∀ args w, (callFunc ft args).run Tryz.prog w = .ok (.enter ft args) w)
    (hf : ∀ W ms A Z (sh : List (Int × Int)) (at_ k : Int), Gm.Mx b (mb :: ms) mb wb W g vr vh l c A Z → T W ms sh → U W → sh.length < 8 * t.length + 40 → Calls Tryz.prog ft (#[.agg #[.int .i64 at_, .int .i64 k]] ++ ct) W fun e w' => e = .returned (.tuple #[]) ∧ U w' ∧ ∃ ns, Gm.Mx b (mb :: ns) mb wb w' g vr vh l c A Z ∧ T w' ns (sh ++ [(at_, k)]))
    (o1 : Int) (o2 : List Int) (o3 o4 : Int) (hO : K.play l (8 * t.length + 40) [] t 0 0 = (o1, o2, o3, o4)) :
    Calls Tryz.prog 38 #[.pointer (some ⟨mb, 0, none⟩), .func (.func ft) #[] ct] w fun e w' => e = .returned (.int .i64 o1) ∧ Below wb.heap.size wb w' ∧ U w' ∧ (o1 = 0 → ∃ ms, T w' ms (Al.shots l (8 * t.length + 40) [] t)) := by
  have ht : t.length ≤ 4000 := by
    obtain ⟨_, _, h⟩ := M.tx
    simpa using h.few
  have HM : Hid (Gm.Mx b [mb] mb wb w g vr vh l c [] t) := M
  have hbw := M.top
  have HOk : Hid (Gm.Ok l c) := O
  have HR : Hid (K.allR ([] ++ t) = true) := hR
  have HT : Hid (T w [] [] ∧ U w) := ⟨hT0, hU0⟩
  have HUb : Hid (∀ W W', U W → Below b W W' → U W') := hUb
  have HTb : Hid (∀ W W' ms sh, T W ms sh → Gm.Fr ⟨b, mb :: ms⟩ W W' → T W' ms sh) := hTb
  have HTq0 : Hid (∀ W ms sh q, b ≤ W.heap.size → T W ms sh ∧ U W → T (W.drewN q) ms sh ∧ U (W.drewN q)) := fun W ms sh q hb h => ⟨hTb _ _ _ _ h.1 (Gm.Fr.of_below (below_drewN (Below.refl _ W) q) hb), hUb _ _ h.2 (below_drewN (Below.refl _ W) q)⟩
  obtain ⟨SH, hSH⟩ : ∃ SH, SH = Al.shots l (8 * t.length + 40) [] t := ⟨_, rfl⟩
  rw [← hSH]
  have HSH : Hid ([] ++ Al.shots l (8 * t.length + 40) [] t = SH) := hSH.symm
  have HF : Hid (∀ W ms A Z (sh : List (Int × Int)) (at_ k : Int), Gm.Mx b (mb :: ms) mb wb W g vr vh l c A Z → T W ms sh → U W → sh.length < 8 * t.length + 40 → Calls Tryz.prog ft (#[.agg #[.int .i64 at_, .int .i64 k]] ++ ct) W fun e w' => e = .returned (.tuple #[]) ∧ U w' ∧ ∃ ns, Gm.Mx b (mb :: ns) mb wb w' g vr vh l c A Z ∧ T w' ns (sh ++ [(at_, k)])) := hf
  have HO : Hid (K.play l (8 * t.length + 40) [] t 0 0 = (o1, o2, o3, o4)) := hO
  have k0 : w.cell? ⟨mb, 0, none⟩ = some (.pointer (some ⟨g, 0, none⟩)) := K.at_box (i := 0) M.box rfl
  have HL := M.len 0
  have HL0 : Hid (Calls Tryz.prog 49 #[.pointer (some ⟨g, 0, none⟩)] w fun e w' => e = .returned (.int .i64 t.length) ∧ ∃ q', w' = w.drewN q') := by
    simp only [List.length_nil, Nat.zero_add] at HL
    exact HL
  clear M O hR hT0 hTb hU0 hUb hf hO HL hSH
  go_enter Tryz.func38, Tryz.ntmps38
  go_wp2_with fail
  go_at_call 49
  refine HL0.out.mono ?_
  rintro e w1 ⟨rfl, q, rfl⟩
  have HM1 : Hid (Gm.Mx b [mb] mb wb (w.drewN q) g vr vh l c [] t) := HM.out.drewN q
  have HT1 : Hid (T (w.drewN q) [] [] ∧ U (w.drewN q)) := HTq0.out _ _ _ _ hbw HT.out
  have hbw1 : b ≤ (w.drewN q).heap.size := hbw
  generalize w.drewN q = w0 at *
  clear HM HT HL0 k0 hbw
  go_wp2_with (go_at_call 48; refine (xmost_any _ t.length ht).mono ?_; rintro e wq ⟨rfl, rfl⟩)
  go_loopw [5] (fun i5 wr => ∃ (left : Nat) (A Z : List Int) (ms : List Nat) (sh : List (Int × Int)) (s p : Int), i5 = .int .i64 left ∧ sh.length + left = 8 * t.length + 40 ∧ Hid (Gm.Mx b (mb :: ms) mb wb wr g vr vh l c A Z) ∧ Hid (T wr ms sh ∧ U wr) ∧ Hid (K.allR (A ++ Z) = true) ∧ Hid (K.play l left A Z s p = (o1, o2, o3, o4)) ∧ Hid (sh ++ Al.shots l left A Z = SH) ∧ b ≤ wr.heap.size) (fun i5 _ => (RowKit.intOf i5).toNat)
  case atStart => exact ⟨8 * t.length + 40, [], t, [], [], 0, 0, by go_num, by simp, HM1, HT1, HR, HO, HSH, hbw1⟩
  case round =>
    obtain ⟨left, A, Z, ms, sh, s, p, rfl, hsl, HMr, HTr, HRr, HPr, HSr, hbr⟩ := hrel
    have k0 : wr.cell? ⟨mb, 0, none⟩ = some (.pointer (some ⟨g, 0, none⟩)) := K.at_box (i := 0) HMr.out.box rfl
    have hlen : A.length + Z.length ≤ 4000 := by
      obtain ⟨_, _, h⟩ := HMr.out.tx
      exact h.few
    by_cases hz : Z.length = 0
    · have hp := HPr.out
      rw [K.play_end hz] at hp
      simp only [Prod.mk.injEq] at hp
      obtain ⟨rfl, rfl, rfl, rfl⟩ := hp
      have hzn : Z = [] := List.eq_nil_of_length_eq_zero hz
      subst hzn
      have HSe : Hid (sh = SH) := by
        have := HSr.out
        rw [Al.shots_end rfl, List.append_nil] at this
        exact this
      have HQ : Hid (∀ q, Calls Tryz.prog 49 #[.pointer (some ⟨g, 0, none⟩)] (wr.drewN q) fun e w' => e = .returned (.int .i64 A.length) ∧ ∃ q', w' = (wr.drewN q).drewN q') := fun q => HMr.out.len q
      have HC : Hid (∀ q, Calls Tryz.prog 50 #[.pointer (some ⟨g, 0, none⟩)] (wr.drewN q) fun e w' => e = .returned (.int .i64 A.length) ∧ w' = wr.drewN q) := fun q => HMr.out.cur q
      clear HPr HRr HF HO HR HM1 HT1 HSr HSH
      go_wp2_with fail
      go_quiet (first | (go_at_call 49; exact Calls.quiet_of (HQ.out _)) | (go_at_call 50; exact Calls.quiet_of_same (HC.out _)))
      go_wp2
      go_ret
      exact ⟨rfl, (HMr.out.drewN nq).bel, (HTq0.out _ _ _ nq hbr HTr.out).2, ms, by rw [← HSe.out]; exact (HTq0.out _ _ _ nq hbr HTr.out).1⟩
    · obtain ⟨N, hN⟩ : ∃ N, N = A.length + Z.length := ⟨_, rfl⟩
      have HQ : Hid (∀ q, Calls Tryz.prog 49 #[.pointer (some ⟨g, 0, none⟩)] (wr.drewN q) fun e w' => e = .returned (.int .i64 N) ∧ ∃ q', w' = (wr.drewN q).drewN q') := fun q => by rw [hN]; exact HMr.out.len q
      have HC : Hid (∀ q, Calls Tryz.prog 50 #[.pointer (some ⟨g, 0, none⟩)] (wr.drewN q) fun e w' => e = .returned (.int .i64 A.length) ∧ w' = wr.drewN q) := fun q => HMr.out.cur q
      have hlt : (A.length : Int) < N := by omega
      clear HO HR HM1 HT1 HSH
      go_wp2_with fail
      go_quiet (first | (go_at_call 49; exact Calls.quiet_of (HQ.out _)) | (go_at_call 50; exact Calls.quiet_of_same (HC.out _)))
      have HMq : Hid (Gm.Mx b (mb :: ms) mb wb (wr.drewN nq) g vr vh l c A Z) := HMr.out.drewN nq
      have HTq : Hid (T (wr.drewN nq) ms sh ∧ U (wr.drewN nq)) := HTq0.out _ _ _ nq hbr HTr.out
      have hbq : b ≤ (wr.drewN nq).heap.size := hbr
      clear HQ HC k0 HMr HTr hbr
      generalize wr.drewN nq = W at *
      have k0 : W.cell? ⟨mb, 0, none⟩ = some (.pointer (some ⟨g, 0, none⟩)) := K.at_box (i := 0) HMq.out.box rfl
      cases left with
      | zero =>
        have hp := HPr.out
        rw [K.play_out hz] at hp
        simp only [Prod.mk.injEq] at hp
        obtain ⟨rfl, rfl, rfl, rfl⟩ := hp
        go_wp2
        go_ret
        exact ⟨rfl, HMq.out.bel, HTq.out.2, fun h => absurd h (by decide)⟩
      | succ left =>
        have hne : ¬ ((left + 1 : Nat) : Int) = 0 := by omega
        have HCu : Hid (Calls Tryz.prog 50 #[.pointer (some ⟨g, 0, none⟩)] W fun e w' => e = .returned (.int .i64 A.length) ∧ w' = W) := HMq.out.cur 0
        have HFi : Hid (Calls Tryz.prog 51 #[.pointer (some ⟨mb, 0, none⟩)] W fun e w' => e = .returned (.int .i64 (K.which l (A ++ Z) A.length)) ∧ Below W.heap.size W w') := xfirst_any b (mb :: ms) mb wb W g vr vh l c A Z HMq.out HOk.out (by omega) (Gm.right_range HRr.out)
        have HSt : Hid (∀ W2 o, Below W.heap.size W W2 → Calls Tryz.prog 52 #[.pointer (some ⟨mb, 0, none⟩), .int .i64 (K.which l (A ++ Z) A.length)] (W2.alloc o) fun e w' => ∃ x : Int, e = .returned (.int .i64 x) ∧
      ((x = 4 ∧ Below wb.heap.size wb w' ∧ U w' ∧ o1 = 4) ∨
       (x = 0 ∧ w'.heap[W2.heap.size]? = some o ∧ b ≤ w'.heap.size ∧ ∃ A' Z', Gm.Mx b (mb :: ms) mb wb w' g vr vh l c A' Z' ∧ (T w' ms sh ∧ U w') ∧ K.allR (A' ++ Z') = true ∧ K.play l left A' Z' (s + 1) (p + if K.which l (A ++ Z) A.length = -1 then 0 else 1) = (o1, o2, o3, o4) ∧ (sh ++ [((A.length : Int), K.which l (A ++ Z) A.length)]) ++ Al.shots l left A' Z' = SH))) := fun W2 o hW2 => by
          have hM2 := (HMq.out.below hW2).box1 o
          have hb2 : Below W.heap.size W (W2.alloc o) := hW2.alloc (hW2.size) o
          have hs2 := hb2.size
          refine (xstepT_all b _ mb wb _ g vr vh l c A Z hM2 HOk.out (by omega) HRr.out).mono ?_
          rintro e w' ⟨x, rfl, ⟨rfl, h1, h2⟩ | ⟨rfl, A', Z', h1, h2, h3, h4, h5⟩⟩
          · have hp := HPr.out
            rw [h2] at hp
            simp only [Prod.mk.injEq] at hp
            exact ⟨4, rfl, .inl ⟨rfl, hM2.bel.trans (h1.mono hM2.base), HUb.out _ _ HTq.out.2 ((hb2.mono hbq).trans h1), hp.1.symm⟩⟩
          · have hfr : Gm.Fr ⟨b, mb :: ms⟩ W w' := ((Gm.Fr.of_below hb2 hbq).trans (B := ⟨b, mb :: ms⟩) ⟨h2.1, fun j hj hm => h2.2 j (List.mem_cons_of_mem _ hj) hm⟩)
            refine ⟨0, rfl, .inr ⟨rfl, ?_, by have := h2.size; omega, A', Z', h1.less (by simp) (fun j hj => List.mem_cons_of_mem _ hj), ⟨HTb.out _ _ _ _ HTq.out.1 hfr, HUb.out _ _ HTq.out.2 hfr.1⟩, h3, ?_, ?_⟩⟩
            · rw [h2.2 _ (by simp) (by simp)]; exact heap_alloc_new W2 o
            · rw [← h4]; exact HPr.out
            · have hq := HSr.out
              rw [h5] at hq
              rw [List.append_assoc]
              exact hq
        generalize K.which l (A ++ Z) A.length = kk at *
        clear HMq HRr HTq HPr HSr
        go_wp2_with fail
        go_at_call 50
        refine HCu.out.mono ?_
        rintro e w1 ⟨rfl, rfl⟩
        go_wp2_with fail
        go_at_call 51
        refine HFi.out.mono ?_
        rintro e w2 ⟨rfl, hw2⟩
        have HB2 : Hid (Below w1.heap.size w1 w2) := hw2
        clear hw2 k0 HCu HFi
        go_wp2_with fail
        refine (HSt.out w2 _ HB2.out).mono ?_
        rintro e w3 ⟨x, rfl, ⟨rfl, h1, h1t, rfl⟩ | ⟨rfl, h1, h2, A', Z', h3, h4, h5, h6, h7⟩⟩
        · have H1 : Hid (Below wb.heap.size wb w3 ∧ U w3) := ⟨h1, h1t⟩
          clear h1 h1t HSt HB2 HF
          go_wp2
          go_ret
          exact ⟨rfl, H1.out.1, H1.out.2, fun h => absurd h (by decide)⟩
        · have d0 : w3.cell? ⟨w2.heap.size, 0, none⟩ = some (.int .i64 A.length) := K.at_box (i := 0) h1 rfl
          have d1 : w3.cell? ⟨w2.heap.size, 1, none⟩ = some (.int .i64 kk) := K.at_box (i := 1) h1 rfl
          have HFo2 : Hid (Calls Tryz.prog ft (#[.agg #[.int .i64 A.length, .int .i64 kk]] ++ ct) w3 fun e w' => e = .returned (.tuple #[]) ∧ U w' ∧ ∃ ns, Gm.Mx b (mb :: ns) mb wb w' g vr vh l c A' Z' ∧ T w' ns (sh ++ [((A.length : Int), kk)])) := HF.out w3 ms A' Z' sh A.length kk h3 h4.1 h4.2 (by omega)
          have H7 : Hid ((sh ++ [((A.length : Int), kk)]) ++ Al.shots l left A' Z' = SH) := h7
          have hsl2 : (sh ++ [((A.length : Int), kk)]).length + left = 8 * t.length + 40 := by simp; omega
          have H5 : Hid (K.allR (A' ++ Z') = true) := h5
          have H6 : Hid (K.play l left A' Z' (s + 1) (p + if kk = -1 then 0 else 1) = (o1, o2, o3, o4)) := h6
          clear h1 h2 h3 h4 h5 h6 h7 HSt HB2 HF
          go_wp2_with fail
          refine HFo2.out.mono ?_
          rintro e w4 ⟨rfl, g0, ns, g1, g2⟩
          have G1 : Hid (Gm.Mx b (mb :: ns) mb wb w4 g vr vh l c A' Z') := g1
          have G2 : Hid (T w4 ns (sh ++ [((A.length : Int), kk)]) ∧ U w4) := ⟨g2, g0⟩
          clear g0 g1 g2 HFo2 d0 d1
          go_wp2
          go_roundw
          case rel => exact ⟨left, A', Z', ns, _, s + 1, _, by go_num, hsl2, G1, G2, H5, H6, H7, G1.out.top⟩
          case measure => simp [RowKit.intOf]

end Go.Proofs.YtlmmjefplbcapaaGreat
