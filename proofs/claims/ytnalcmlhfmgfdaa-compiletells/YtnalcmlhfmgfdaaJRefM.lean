/-
  The document's heads: one after the other, the last one's end put right.
-/
import Derived.Test.YtnalcmlhfmgfdaaJRead
import Derived.Test.YtnalcmlhfmgfdaaSEdgesP
namespace Go.Proofs.Ytnalcmlhfmgfdaa
open Go.RowKit Go.Shelf
set_option maxRecDepth 20000
set_option linter.unusedSimpArgs false
set_option linter.unusedVariables false
namespace J
theorem cuts_of {l : List K.Rule} (hE : ∀ r ∈ l, K.ruleE r = 0) : Cuts l (S.edgesF (l.map K.headS) ++ [1114112]) ∧ (S.edgesF (l.map K.headS))[0]? = some 0 := by
  have hb : ∀ s ∈ l.map K.headS, s.any S.bad = false := fun s hs => by
    obtain ⟨r, hr, rfl⟩ := List.mem_map.1 hs
    rw [List.any_eq_false]
    intro x hx
    have := S.bad_false.2 ((K.head_ok (hE r hr)).1.mem hx)
    simp [this]
  obtain ⟨h1, h2, h3, _⟩ := S.edgesF_spec hb
  have hle : ∀ q ∈ S.edgesF (l.map K.headS), q ≤ 1114111 := fun q hq => by
    rcases (h3 q).1 hq with rfl | ⟨h, _⟩
    · omega
    · exact h
  refine ⟨⟨?_, fun y => ?_⟩, h2⟩
  · rw [List.pairwise_append]
    refine ⟨h1, by simp, fun x hx z hz => ?_⟩
    simp at hz
    have := hle x hx
    omega
  · rw [List.mem_append, h3, List.mem_singleton]
    unfold edgesL
    rw [List.mem_append, List.mem_flatMap]
    simp only [List.mem_cons, List.not_mem_nil, or_false, mem_ends]
    constructor
    · rintro ((rfl | ⟨_, s, hs, x, hx, h⟩) | rfl)
      · exact .inl (.inl rfl)
      · obtain ⟨r, hr, rfl⟩ := List.mem_map.1 hs
        exact .inr ⟨r, hr, x, hx, h⟩
      · exact .inl (.inr rfl)
    · rintro ((rfl | rfl) | ⟨r, hr, x, hx, h⟩)
      · exact .inl (.inl rfl)
      · exact .inr rfl
      · have := (K.head_ok (hE r hr)).1.mem hx
        by_cases hy : y ≤ 1114111
        · exact .inl (.inr ⟨hy, _, List.mem_map.2 ⟨r, hr, rfl⟩, x, hx, h⟩)
        · exact .inr (by omega)
/-- the first k heads as the document has them meanwhile -/
def part (f : Int → List Int) (c : List Int) : Nat → List Hd
  | 0 => []
  | m + 1 => heads f c m ++ [(c.getD m 0, 1114111, f (c.getD m 0))]
theorem part_len (f : Int → List Int) (c : List Int) (k : Nat) : (part f c k).length = k := by
  cases k with
  | zero => rfl
  | succ m => rw [part, List.length_append, heads_len]; rfl
theorem part_end {l : List K.Rule} {c : List Int} (h : Cuts l c) (hE : ∀ r ∈ l, K.ruleE r = 0) (f : Int → List Int) : part f c (c.length - 1) = heads f c (c.length - 1) := by
  have h2 := h.two
  have h3 := h.last hE
  obtain ⟨m, hm⟩ : ∃ m, c.length - 1 = m + 1 := ⟨c.length - 2, by omega⟩
  rw [hm] at h3 ⊢
  rw [part, heads_succ, headAt, h3]
  rfl

theorem set_owns {F : Nat} {w : World} {X cap n : Nat} {xs : List Value} {e : TypeId} {size : Nat} (h : w.ownsRow F e size (.slice (some ⟨X, 0, none⟩) n cap) n xs) (j : Nat) (hj : j < n * size) (u : Value) :
    (w.setCell ⟨X, j, none⟩ u).ownsRow F e size (.slice (some ⟨X, 0, none⟩) n cap) n (xs.set j u) ∧ w.grownBy (w.setCell ⟨X, j, none⟩ u) (some X) := by
  obtain ⟨h1, ⟨h0, _⟩ | ⟨g, k, cur, h0, hb, hx, hn, hm, hs, ht⟩⟩ := h
  · cases h0
  cases h0
  refine ⟨⟨by simp [h1], .inr ⟨X, cap, cur.setIfInBounds j u, rfl, hb, heap_setCell_same w X j _ _ _ hx, hn, hm, by simp [hs], ?_⟩⟩, rfl, rfl, rfl, by simp, fun k hk hne => ?_⟩
  · rw [← ht, Array.toList_setIfInBounds, List.take_set]
  · exact heap_setCell_other w ⟨X, j, none⟩ k u (fun e => hne (by rw [e]))
theorem Own.high {F : Nat} {w : World} {v : Value} {hs : List Hd} {a x : Int} {rs : List Int} (h : Own F w v (hs ++ [(a, x, rs)])) :
    ∃ X cap, v = .slice (some ⟨X, 0, none⟩) (hs.length + 1) cap ∧ F ≤ X ∧ w.cell? ⟨X, hs.length * 3 + 1, none⟩ = some (.int .i32 x) ∧ w.frozen? ⟨X, hs.length * 3 + 1, none⟩ = false ∧
      ∀ y, Own F (w.setCell ⟨X, hs.length * 3 + 1, none⟩ (.int .i32 y)) v (hs ++ [(a, y, rs)]) ∧ ∀ (r : Value) (n : Nat) (xs : List Value), w.ownsRow F 3 1 r n xs → (w.setCell ⟨X, hs.length * 3 + 1, none⟩ (.int .i32 y)).ownsRow F 3 1 r n xs := by
  obtain ⟨ps, h1, h2, h3⟩ := h
  obtain ⟨ps0, ps1, rfl, hp0, hp1⟩ := List.map_eq_append_iff.1 h1
  obtain ⟨p, rfl, hp⟩ : ∃ p, ps1 = [p] ∧ p.1 = (a, x, rs) := by
    match ps1, hp1 with
    | [p], h => exact ⟨p, rfl, by simpa using h⟩
    | [], h => simp at h
    | _ :: _ :: _, h => simp at h
  obtain ⟨⟨a', x', rs'⟩, r⟩ := p
  cases hp
  have hl0 : ps0.length = hs.length := by rw [← hp0, List.length_map]
  have hlen : (hs ++ [(a, x, rs)]).length = hs.length + 1 := by simp
  obtain ⟨X, cap, rfl, hF, hx⟩ : ∃ X cap, v = .slice (some ⟨X, 0, none⟩) (hs ++ [(a, x, rs)]).length cap ∧ F ≤ X ∧ ∃ cur, w.heap[X]? = some (.cells cur 46 (0, 0)) := by
    obtain ⟨_, ⟨rfl, h0⟩ | ⟨g, k, cur, rfl, hb, hx, _⟩⟩ := h2
    · simp at h0
    · exact ⟨g, k, rfl, hb, cur, hx⟩
  obtain ⟨cur, hx⟩ := hx
  have hj : hs.length * 3 + 1 < (hs ++ [(a, x, rs)]).length * 3 := by rw [hlen]; omega
  refine ⟨X, cap, by rw [hlen], hF, ?_, frozen_of_row w _ _ _ _ hx, fun y => ?_⟩
  · rw [h2.cellAt _ hj]
    have := (cells_at (ps := ps0 ++ [((a, x, rs), r)]) (k := hs.length) (p := ((a, x, rs), r)) (by rw [← hl0]; simp)).2.1
    exact this
  · obtain ⟨o1, g1⟩ := set_owns h2 (hs.length * 3 + 1) hj (.int .i32 y)
    refine ⟨⟨ps0 ++ [((a, y, rs), r)], by simp [hp0], ?_, fun p hp => ?_⟩, fun r' n' xs' hq => hq.kept g1 (L.owns_apart h2 hq (by decide))⟩
    · have e : (cells (ps0 ++ [((a, x, rs), r)])).set (hs.length * 3 + 1) (.int .i32 y) = cells (ps0 ++ [((a, y, rs), r)]) := by
        rw [cells_append, cells_append, List.set_append_right _ _ (by rw [cells_length, hl0]; omega), cells_length, hl0]
        rw [show hs.length * 3 + 1 - hs.length * 3 = 1 by omega]
        rfl
      rw [e] at o1
      have e2 : (hs ++ [(a, y, rs)]).length = (hs ++ [(a, x, rs)]).length := by simp
      rw [e2]
      exact o1
    · rcases List.mem_append.1 hp with hp | hp
      · have hq := h3 p (List.mem_append_left _ hp)
        exact hq.kept g1 (L.owns_apart h2 hq (by decide))
      · simp at hp
        subst hp
        have hq := h3 ((a, x, rs), r) (by simp)
        exact hq.kept g1 (L.owns_apart h2 hq (by decide))
end J
end Go.Proofs.Ytnalcmlhfmgfdaa
