/-
  A store into a row of one's own.
-/
import Derived.Test.YtbclmmkphjknaaaLib
namespace Go.Proofs.Ytbclmmkphjknaaa.K
open Go.RowKit
theorem own_set {F : Nat} {w : World} {X cap n : Nat} {xs : List Value} {e : TypeId} {size : Nat} (h : w.ownsRow F e size (.slice (some ⟨X, 0, none⟩) n cap) n xs) (j : Nat) (u : Value) :
    (w.setCell ⟨X, j, none⟩ u).ownsRow F e size (.slice (some ⟨X, 0, none⟩) n cap) n (xs.set j u) ∧ w.grownBy (w.setCell ⟨X, j, none⟩ u) (some X) := by
  obtain ⟨h1, ⟨h0, _⟩ | ⟨g, k, cur, h0, hb, hx, hn, hm, hs, ht⟩⟩ := h
  · cases h0
  cases h0
  refine ⟨⟨by simp [h1], .inr ⟨X, cap, cur.setIfInBounds j u, rfl, hb, heap_setCell_same w X j _ _ _ hx, hn, hm, by simp [hs], ?_⟩⟩, rfl, rfl, rfl, by simp, fun k hk hne => ?_⟩
  · rw [← ht, Array.toList_setIfInBounds, List.take_set]
  · exact heap_setCell_other w ⟨X, j, none⟩ k u (fun e => hne (by rw [e]))
theorem own_free {F : Nat} {w : World} {X cap n : Nat} {xs : List Value} {e : TypeId} {size : Nat} (h : w.ownsRow F e size (.slice (some ⟨X, 0, none⟩) n cap) n xs) (j : Nat) : w.frozen? ⟨X, j, none⟩ = false := by
  obtain ⟨h1, ⟨h0, _⟩ | ⟨g, k, cur, h0, hb, hx, _⟩⟩ := h
  · cases h0
  cases h0
  rw [World.frozen?]
  simp [hx]
theorem own_at {F : Nat} {w : World} {v : Value} {n : Nat} {xs : List Value} {e : TypeId} {size : Nat} (h : w.ownsRow F e size v n xs) (hn : 0 < n) : ∃ g cap, v = .slice (some ⟨g, 0, none⟩) n cap ∧ F ≤ g ∧ n ≤ cap ∧ cap ≤ maxLen ∧ g < w.heap.size := by
  obtain ⟨h1, ⟨h0, h2⟩ | ⟨g, k, cur, h0, hb, hx, hn2, hm, hs, ht⟩⟩ := h
  · omega
  · exact ⟨g, k, h0, hb, hn2, hm, (Array.getElem?_eq_some_iff.1 hx).1⟩
theorem own_lit (w : World) (e : TypeId) (u : Value) : (w.alloc (.cells #[u] e)).ownsRow w.heap.size e 1 (.slice (some ⟨w.heap.size, 0, none⟩) 1 1) 1 [u] :=
  ⟨rfl, .inr ⟨w.heap.size, 1, #[u], rfl, Nat.le_refl _, heap_alloc_new w _, Nat.le_refl _, by unfold maxLen; omega, rfl, rfl⟩⟩
end Go.Proofs.Ytbclmmkphjknaaa.K
