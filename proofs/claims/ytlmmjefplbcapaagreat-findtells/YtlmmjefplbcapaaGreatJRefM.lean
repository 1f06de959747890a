/-
  What the closure within the document's Edges does: one number is put into a rising list.
-/
import Derived.Test.YtlmmjefplbcapaaGreatSWrong
import Derived.RegionTactic
import Derived.Laws.OwnMore
import Derived.Deep.RegionHeld3
import Derived.Deep.DrawnRows
import Derived.Test.YtlmmjefplbcapaaGreatXFirst
namespace Go.Proofs.YtlmmjefplbcapaaGreat.S
/-- how many are less -/
def lowF : List Int → Int → Nat
  | [], _ => 0
  | x :: zs, r => if x < r then lowF zs r + 1 else 0
def insF (zs : List Int) (r : Int) : List Int := if 1114111 < r ∨ zs[lowF zs r]? = some r then zs else zs.take (lowF zs r) ++ [r] ++ zs.drop (lowF zs r)

theorem lowF_spec (zs : List Int) (r : Int) : lowF zs r ≤ zs.length ∧ (∀ i z, i < lowF zs r → zs[i]? = some z → z < r) ∧ (∀ z, zs[lowF zs r]? = some z → r ≤ z) := by
  induction zs with
  | nil => exact ⟨by simp [lowF], fun i z h => by simp [lowF] at h, fun z h => by simp at h⟩
  | cons x zs ih =>
    by_cases hx : x < r
    · simp only [lowF, hx, if_true]
      refine ⟨by simp; exact ih.1, fun i z hi hz => ?_, fun z hz => ih.2.2 z (by simpa using hz)⟩
      cases i with
      | zero => simp at hz; omega
      | succ i => exact ih.2.1 i z (by omega) (by simpa using hz)
    · simp only [lowF, hx, if_false]
      exact ⟨by omega, fun i z h => by omega, fun z hz => by simp at hz; omega⟩
theorem lowF_le (zs : List Int) (r : Int) : lowF zs r ≤ zs.length := (lowF_spec zs r).1
theorem lowF_eq {zs : List Int} {r : Int} {k : Nat} (h1 : ∀ i z, i < k → zs[i]? = some z → z < r) (hk : k ≤ zs.length) (h2 : ∀ z, zs[k]? = some z → ¬ z < r) : lowF zs r = k := by
  obtain ⟨a, b, c⟩ := lowF_spec zs r
  rcases Nat.lt_trichotomy (lowF zs r) k with h | h | h
  · obtain ⟨z, hz⟩ : ∃ z, zs[lowF zs r]? = some z := ⟨zs[lowF zs r]'(by omega), by simp [show lowF zs r < zs.length by omega]⟩
    have := h1 _ z h hz
    have := c z hz
    omega
  · exact h
  · obtain ⟨z, hz⟩ : ∃ z, zs[k]? = some z := ⟨zs[k]'(by omega), by simp [show k < zs.length by omega]⟩
    exact absurd (b k z h hz) (h2 z hz)

theorem insF_spec {zs : List Int} {r : Int} (hs : zs.Pairwise (· < ·)) : (insF zs r).Pairwise (· < ·) ∧ (∀ q, q ∈ insF zs r ↔ q ∈ zs ∨ (q = r ∧ r ≤ 1114111)) ∧ (insF zs r).length ≤ zs.length + 1 := by
  have hlow : ∀ z ∈ zs.take (lowF zs r), z < r := by
    intro z hz
    obtain ⟨i, hi⟩ := List.getElem?_of_mem hz
    rw [List.getElem?_take] at hi
    split at hi
    · exact (lowF_spec zs r).2.1 i z (by assumption) hi
    · cases hi
  have hhigh : ∀ z, zs[lowF zs r]? = some z → r ≤ z := (lowF_spec zs r).2.2
  have hdrop : ∀ z ∈ zs.drop (lowF zs r), r ≤ z ∧ (z = r → zs[lowF zs r]? = some r) := by
    intro z hz
    obtain ⟨i, hi⟩ := List.getElem?_of_mem hz
    rw [List.getElem?_drop] at hi
    obtain ⟨y, hy⟩ : ∃ y, zs[lowF zs r]? = some y := by
      have := (List.getElem?_eq_some_iff.1 hi).1
      exact ⟨zs[lowF zs r]'(by omega), by simp [show lowF zs r < zs.length by omega]⟩
    have hy2 := hhigh y hy
    by_cases e : i = 0
    · subst e
      rw [Nat.add_zero, hy] at hi
      cases hi
      exact ⟨hy2, fun h => by rw [hy, h]⟩
    · have h1 := (List.getElem?_eq_some_iff.1 hi).1
      have h2 := (List.getElem?_eq_some_iff.1 hy).1
      have := (List.pairwise_iff_getElem.1 hs) (lowF zs r) (lowF zs r + i) h2 h1 (by omega)
      rw [List.getElem?_eq_getElem h1] at hi
      rw [List.getElem?_eq_getElem h2] at hy
      cases hi; cases hy
      exact ⟨by omega, fun h => by omega⟩
  unfold insF
  by_cases hc : 1114111 < r ∨ zs[lowF zs r]? = some r
  · rw [if_pos hc]
    refine ⟨hs, fun q => ⟨Or.inl, fun h => ?_⟩, by omega⟩
    rcases h with h | ⟨rfl, h⟩
    · exact h
    · rcases hc with hc | hc
      · omega
      · exact List.mem_of_getElem? hc
  · rw [if_neg hc]
    have hne : ∀ z ∈ zs.drop (lowF zs r), r < z := fun z hz => by
      have h1 := hdrop z hz
      rcases Int.lt_trichotomy r z with h | h | h
      · exact h
      · exact absurd (.inr (h1.2 h.symm)) hc
      · omega
    refine ⟨?_, fun q => ?_, by simp [List.length_take, List.length_drop]; have := lowF_le zs r; omega⟩
    · rw [List.append_assoc, List.pairwise_append]
      refine ⟨hs.sublist (List.take_sublist _ _), ?_, ?_⟩
      · rw [List.singleton_append, List.pairwise_cons]
        exact ⟨hne, hs.sublist (List.drop_sublist _ _)⟩
      · intro x hx y hy
        have := hlow x hx
        rw [List.singleton_append, List.mem_cons] at hy
        rcases hy with rfl | hy
        · exact this
        · have := hne y hy; omega
    · rw [List.mem_append, List.mem_append, List.mem_singleton]
      have e : q ∈ zs ↔ q ∈ zs.take (lowF zs r) ∨ q ∈ zs.drop (lowF zs r) := by
        conv => lhs; rw [← List.take_append_drop (lowF zs r) zs]
        exact List.mem_append
      rw [e]
      have : r ≤ 1114111 := by omega
      constructor
      · rintro ((h | h) | h)
        · exact .inl (.inl h)
        · exact .inr ⟨h, this⟩
        · exact .inl (.inr h)
      · rintro ((h | h) | h)
        · exact .inl (.inl h)
        · exact .inr h
        · exact .inl (.inr h.1)
end Go.Proofs.YtlmmjefplbcapaaGreat.S

/-
  What the document's Edges answers of slices of spans: plain lists.
-/
namespace Go.Proofs.YtlmmjefplbcapaaGreat.S
def edgesOf (l : List Sp) : List Int := l.flatMap fun x => [x.1, x.2 + 1]
def edgesF (ls : List (List Sp)) : List Int := (ls.flatMap edgesOf).foldl insF [0]

theorem fold_spec (D : List Int) : ∀ zs : List Int, zs.Pairwise (· < ·) → (D.foldl insF zs).Pairwise (· < ·) ∧ (∀ q, q ∈ D.foldl insF zs ↔ q ∈ zs ∨ (q ∈ D ∧ q ≤ 1114111)) ∧ (D.foldl insF zs).length ≤ zs.length + D.length := by
  induction D with
  | nil => intro zs h; exact ⟨h, fun q => by simp, by simp⟩
  | cons d D ih =>
    intro zs h
    obtain ⟨h1, h2, h3⟩ := insF_spec (r := d) h
    obtain ⟨i1, i2, i3⟩ := ih _ h1
    refine ⟨i1, fun q => ?_, by simp only [List.foldl_cons, List.length_cons]; omega⟩
    rw [List.foldl_cons, i2, h2, List.mem_cons]
    constructor
    · rintro ((h | ⟨rfl, h⟩) | ⟨h, h'⟩)
      · exact .inl h
      · exact .inr ⟨.inl rfl, h⟩
      · exact .inr ⟨.inr h, h'⟩
    · rintro (h | ⟨rfl | h, h'⟩)
      · exact .inl (.inl h)
      · exact .inl (.inr ⟨rfl, h'⟩)
      · exact .inr ⟨h, h'⟩

theorem edgesF_spec {ls : List (List Sp)} (hb : ∀ l ∈ ls, l.any bad = false) : (edgesF ls).Pairwise (· < ·) ∧ (edgesF ls)[0]? = some 0 ∧ (∀ q, q ∈ edgesF ls ↔ q = 0 ∨ (q ≤ 1114111 ∧ ∃ l ∈ ls, ∃ x ∈ l, q = x.1 ∨ q = x.2 + 1)) ∧ (edgesF ls).length ≤ 1 + (ls.flatMap edgesOf).length := by
  obtain ⟨h1, h2, h3⟩ := fold_spec (ls.flatMap edgesOf) [0] (by simp)
  have hm : ∀ q, q ∈ edgesF ls ↔ q = 0 ∨ (q ≤ 1114111 ∧ ∃ l ∈ ls, ∃ x ∈ l, q = x.1 ∨ q = x.2 + 1) := by
    intro q
    unfold edgesF
    rw [h2]
    simp only [List.mem_flatMap, edgesOf, List.mem_cons, List.not_mem_nil, or_false]
    constructor
    · rintro (h | ⟨⟨l, hl, x, hx, h⟩, h'⟩)
      · exact .inl h
      · exact .inr ⟨h', l, hl, x, hx, h⟩
    · rintro (h | ⟨h', l, hl, x, hx, h⟩)
      · exact .inl h
      · exact .inr ⟨⟨l, hl, x, hx, h⟩, h'⟩
  refine ⟨h1, ?_, hm, by simpa [edgesF] using h3⟩
  have h0 : (0 : Int) ∈ edgesF ls := (hm 0).2 (.inl rfl)
  cases he : edgesF ls with
  | nil => rw [he] at h0; simp at h0
  | cons z zs =>
    have hz : z ∈ edgesF ls := by rw [he]; simp
    have hz0 : 0 ≤ z := by
      rcases (hm z).1 hz with h | ⟨_, l, hl, x, hx, h⟩
      · omega
      · have := bad_false.1 (by simpa using (List.any_eq_false.1 (hb l hl)) x hx)
        omega
    rw [he] at h0
    rcases List.mem_cons.1 h0 with h | h
    · simp [h]
    · have hp : (z :: zs).Pairwise (· < ·) := by rw [← he]; exact h1
      have := (List.pairwise_cons.1 hp).1 0 h
      omega
end Go.Proofs.YtlmmjefplbcapaaGreat.S
namespace Go.Proofs.YtlmmjefplbcapaaGreat
open Go.RowKit
namespace S
/-- rising numbers between two bounds are so many at most -/
theorem rising_len : ∀ (zs : List Int) (a b : Int), zs.Pairwise (· < ·) → (∀ z ∈ zs, a ≤ z ∧ z ≤ b) → a ≤ b + 1 → (zs.length : Int) ≤ b - a + 1
  | [], a, b, _, _, h => by simp; omega
  | z :: zs, a, b, hp, hb, h => by
    have h1 := hb z List.mem_cons_self
    have h2 := rising_len zs (z + 1) b (List.pairwise_cons.1 hp).2 (fun y hy => ⟨by have := (List.pairwise_cons.1 hp).1 y hy; omega, (hb y (List.mem_cons_of_mem _ hy)).2⟩) (by omega)
    simp only [List.length_cons]
    omega
theorem fold_len (D : List Int) (h : ∀ d ∈ D, 0 ≤ d) : (D.foldl insF [0]).length ≤ 1114112 := by
  obtain ⟨h1, h2, _⟩ := fold_spec D [0] (by simp)
  have := rising_len _ 0 1114111 h1 (fun z hz => by
    rcases (h2 z).1 hz with hz | hz
    · simp at hz; omega
    · exact ⟨h z hz.1, hz.2⟩) (by omega)
  omega
theorem edges_pos {l : List Sp} (hb : l.any bad = false) : ∀ d ∈ edgesOf l, 0 ≤ d := fun d hd => by
  simp only [edgesOf, List.mem_flatMap, List.mem_cons, List.not_mem_nil, or_false] at hd
  obtain ⟨x, hx, hd⟩ := hd
  have := bad_false.1 (by simpa using (List.any_eq_false.1 hb) x hx)
  omega
theorem edgesF_len {ls : List (List Sp)} (hb : ∀ l ∈ ls, l.any bad = false) : (edgesF ls).length ≤ 1114112 := by
  refine fold_len _ fun d hd => ?_
  obtain ⟨l, hl, hd⟩ := List.mem_flatMap.1 hd
  exact edges_pos (hb l hl) d hd
end S

end Go.Proofs.YtlmmjefplbcapaaGreat

/-
  The document's heads: one after the other, the last one's end put right.
-/
namespace Go.Proofs.YtlmmjefplbcapaaGreat
open Go.RowKit Go.Shelf
set_option maxRecDepth 20000
set_option linter.unusedSimpArgs false
set_option linter.unusedVariables false
namespace J
theorem cuts_of {l : List K.Rule} (hE : ∀ r ∈ l, K.ruleE r = 0) : Cuts l (S.edgesF (l.map K.headS) ++ [1114112]) ∧ (S.edgesF (l.map K.headS))[0]? = some 0 := by
  have hb : ∀ s ∈ l.map K.headS, s.any S.bad = false := fun s hs => by
    obtain ⟨r, hr, rfl⟩ := List.mem_map.1 hs
    rw [List.any_eq_false]
    intro x hx
    have := S.bad_false.2 ((K.head_ok (hE r hr)).1.mem hx)
    simp [this]
  obtain ⟨h1, h2, h3, _⟩ := S.edgesF_spec hb
  have hle : ∀ q ∈ S.edgesF (l.map K.headS), q ≤ 1114111 := fun q hq => by
    rcases (h3 q).1 hq with rfl | ⟨h, _⟩
    · omega
    · exact h
  refine ⟨⟨?_, fun y => ?_⟩, h2⟩
  · rw [List.pairwise_append]
    refine ⟨h1, by simp, fun x hx z hz => ?_⟩
    simp at hz
    have := hle x hx
    omega
  · rw [List.mem_append, h3, List.mem_singleton]
    unfold edgesL
    rw [List.mem_append, List.mem_flatMap]
    simp only [List.mem_cons, List.not_mem_nil, or_false, mem_ends]
    constructor
    · rintro ((rfl | ⟨_, s, hs, x, hx, h⟩) | rfl)
      · exact .inl (.inl rfl)
      · obtain ⟨r, hr, rfl⟩ := List.mem_map.1 hs
        exact .inr ⟨r, hr, x, hx, h⟩
      · exact .inl (.inr rfl)
    · rintro ((rfl | rfl) | ⟨r, hr, x, hx, h⟩)
      · exact .inl (.inl rfl)
      · exact .inr rfl
      · have := (K.head_ok (hE r hr)).1.mem hx
        by_cases hy : y ≤ 1114111
        · exact .inl (.inr ⟨hy, _, List.mem_map.2 ⟨r, hr, rfl⟩, x, hx, h⟩)
        · exact .inr (by omega)
/-- the first k heads as the document has them meanwhile -/
def part (f : Int → List Int) (c : List Int) : Nat → List Hd
  | 0 => []
  | m + 1 => heads f c m ++ [(c.getD m 0, 1114111, f (c.getD m 0))]
theorem part_len (f : Int → List Int) (c : List Int) (k : Nat) : (part f c k).length = k := by
  cases k with
  | zero => rfl
  | succ m => rw [part, List.length_append, heads_len]; rfl
theorem part_end {l : List K.Rule} {c : List Int} (h : Cuts l c) (hE : ∀ r ∈ l, K.ruleE r = 0) (f : Int → List Int) : part f c (c.length - 1) = heads f c (c.length - 1) := by
  have h2 := h.two
  have h3 := h.last hE
  obtain ⟨m, hm⟩ : ∃ m, c.length - 1 = m + 1 := ⟨c.length - 2, by omega⟩
  rw [hm] at h3 ⊢
  rw [part, heads_succ, headAt, h3]
  rfl

theorem set_owns {F : Nat} {w : World} {X cap n : Nat} {xs : List Value} {e : TypeId} {size : Nat} (h : w.ownsRow F e size (.slice (some ⟨X, 0, none⟩) n cap) n xs) (j : Nat) (hj : j < n * size) (u : Value) :
    (w.setCell ⟨X, j, none⟩ u).ownsRow F e size (.slice (some ⟨X, 0, none⟩) n cap) n (xs.set j u) ∧ w.grownBy (w.setCell ⟨X, j, none⟩ u) (some X) := by
  obtain ⟨h1, ⟨h0, _⟩ | ⟨g, k, cur, h0, hb, hx, hn, hm, hs, ht⟩⟩ := h
  · cases h0
  cases h0
  refine ⟨⟨by simp [h1], .inr ⟨X, cap, cur.setIfInBounds j u, rfl, hb, heap_setCell_same w X j _ _ _ hx, hn, hm, by simp [hs], ?_⟩⟩, rfl, rfl, rfl, by simp, fun k hk hne => ?_⟩
  · rw [← ht, Array.toList_setIfInBounds, List.take_set]
  · exact heap_setCell_other w ⟨X, j, none⟩ k u (fun e => hne (by rw [e]))
theorem Own.high {F : Nat} {w : World} {v : Value} {hs : List Hd} {a x : Int} {rs : List Int} (h : Own F w v (hs ++ [(a, x, rs)])) :
    ∃ X cap, v = .slice (some ⟨X, 0, none⟩) (hs.length + 1) cap ∧ F ≤ X ∧ w.cell? ⟨X, hs.length * 3 + 1, none⟩ = some (.int .i32 x) ∧ w.frozen? ⟨X, hs.length * 3 + 1, none⟩ = false ∧
      ∀ y, Own F (w.setCell ⟨X, hs.length * 3 + 1, none⟩ (.int .i32 y)) v (hs ++ [(a, y, rs)]) ∧ ∀ (r : Value) (n : Nat) (xs : List Value), w.ownsRow F 3 1 r n xs → (w.setCell ⟨X, hs.length * 3 + 1, none⟩ (.int .i32 y)).ownsRow F 3 1 r n xs := by
  obtain ⟨ps, h1, h2, h3⟩ := h
  obtain ⟨ps0, ps1, rfl, hp0, hp1⟩ := List.map_eq_append_iff.1 h1
  obtain ⟨p, rfl, hp⟩ : ∃ p, ps1 = [p] ∧ p.1 = (a, x, rs) := by
    match ps1, hp1 with
    | [p], h => exact ⟨p, rfl, by simpa using h⟩
    | [], h => simp at h
    | _ :: _ :: _, h => simp at h
  obtain ⟨⟨a', x', rs'⟩, r⟩ := p
  cases hp
  have hl0 : ps0.length = hs.length := by rw [← hp0, List.length_map]
  have hlen : (hs ++ [(a, x, rs)]).length = hs.length + 1 := by simp
  obtain ⟨X, cap, rfl, hF, hx⟩ : ∃ X cap, v = .slice (some ⟨X, 0, none⟩) (hs ++ [(a, x, rs)]).length cap ∧ F ≤ X ∧ ∃ cur, w.heap[X]? = some (.cells cur 76 (0, 0)) := by
    obtain ⟨_, ⟨rfl, h0⟩ | ⟨g, k, cur, rfl, hb, hx, _⟩⟩ := h2
    · simp at h0
    · exact ⟨g, k, rfl, hb, cur, hx⟩
  obtain ⟨cur, hx⟩ := hx
  have hj : hs.length * 3 + 1 < (hs ++ [(a, x, rs)]).length * 3 := by rw [hlen]; omega
  refine ⟨X, cap, by rw [hlen], hF, ?_, frozen_of_row w _ _ _ _ hx, fun y => ?_⟩
  · rw [h2.cellAt _ hj]
    have := (cells_at (ps := ps0 ++ [((a, x, rs), r)]) (k := hs.length) (p := ((a, x, rs), r)) (by rw [← hl0]; simp)).2.1
    exact this
  · obtain ⟨o1, g1⟩ := set_owns h2 (hs.length * 3 + 1) hj (.int .i32 y)
    refine ⟨⟨ps0 ++ [((a, y, rs), r)], by simp [hp0], ?_, fun p hp => ?_⟩, fun r' n' xs' hq => hq.kept g1 (L.owns_apart h2 hq (by decide))⟩
    · have e : (cells (ps0 ++ [((a, x, rs), r)])).set (hs.length * 3 + 1) (.int .i32 y) = cells (ps0 ++ [((a, y, rs), r)]) := by
        rw [cells_append, cells_append, List.set_append_right _ _ (by rw [cells_length, hl0]; omega), cells_length, hl0]
        rw [show hs.length * 3 + 1 - hs.length * 3 = 1 by omega]
        rfl
      rw [e] at o1
      have e2 : (hs ++ [(a, y, rs)]).length = (hs ++ [(a, x, rs)]).length := by simp
      rw [e2]
      exact o1
    · rcases List.mem_append.1 hp with hp | hp
      · have hq := h3 p (List.mem_append_left _ hp)
        exact hq.kept g1 (L.owns_apart h2 hq (by decide))
      · simp at hp
        subst hp
        have hq := h3 ((a, x, rs), r) (by simp)
        exact hq.kept g1 (L.owns_apart h2 hq (by decide))
end J
end Go.Proofs.YtlmmjefplbcapaaGreat
