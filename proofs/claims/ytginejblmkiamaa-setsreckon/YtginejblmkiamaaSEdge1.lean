/-
  What the closure within the document's Edges does: one number is put into a rising list.
-/
import Derived.Test.YtginejblmkiamaaSWrong
import Derived.RegionTactic
import Derived.Laws.OwnMore
import Derived.Deep.RegionHeld3
import Derived.Deep.DrawnRows
namespace Go.Proofs.Ytginejblmkiamaa.S
/-- how many are less -/
def lowF : List Int → Int → Nat
  | [], _ => 0
  | x :: zs, r => if x < r then lowF zs r + 1 else 0
def insF (zs : List Int) (r : Int) : List Int := if 1114111 < r ∨ zs[lowF zs r]? = some r then zs else zs.take (lowF zs r) ++ [r] ++ zs.drop (lowF zs r)

theorem lowF_spec (zs : List Int) (r : Int) : lowF zs r ≤ zs.length ∧ (∀ i z, i < lowF zs r → zs[i]? = some z → z < r) ∧ (∀ z, zs[lowF zs r]? = some z → r ≤ z) := by
  induction zs with
  | nil => exact ⟨by simp [lowF], fun i z h => by simp [lowF] at h, fun z h => by simp at h⟩
  | cons x zs ih =>
    by_cases hx : x < r
    · simp only [lowF, hx, if_true]
      refine ⟨by simp; exact ih.1, fun i z hi hz => ?_, fun z hz => ih.2.2 z (by simpa using hz)⟩
      cases i with
      | zero => simp at hz; omega
      | succ i => exact ih.2.1 i z (by omega) (by simpa using hz)
    · simp only [lowF, hx, if_false]
      exact ⟨by omega, fun i z h => by omega, fun z hz => by simp at hz; omega⟩
theorem lowF_le (zs : List Int) (r : Int) : lowF zs r ≤ zs.length := (lowF_spec zs r).1
theorem lowF_eq {zs : List Int} {r : Int} {k : Nat} (h1 : ∀ i z, i < k → zs[i]? = some z → z < r) (hk : k ≤ zs.length) (h2 : ∀ z, zs[k]? = some z → ¬ z < r) : lowF zs r = k := by
  obtain ⟨a, b, c⟩ := lowF_spec zs r
  rcases Nat.lt_trichotomy (lowF zs r) k with h | h | h
  · obtain ⟨z, hz⟩ : ∃ z, zs[lowF zs r]? = some z := ⟨zs[lowF zs r]'(by omega), by simp [show lowF zs r < zs.length by omega]⟩
    have := h1 _ z h hz
    have := c z hz
    omega
  · exact h
  · obtain ⟨z, hz⟩ : ∃ z, zs[k]? = some z := ⟨zs[k]'(by omega), by simp [show k < zs.length by omega]⟩
    exact absurd (b k z h hz) (h2 z hz)

theorem insF_spec {zs : List Int} {r : Int} (hs : zs.Pairwise (· < ·)) : (insF zs r).Pairwise (· < ·) ∧ (∀ q, q ∈ insF zs r ↔ q ∈ zs ∨ (q = r ∧ r ≤ 1114111)) ∧ (insF zs r).length ≤ zs.length + 1 := by
  have hlow : ∀ z ∈ zs.take (lowF zs r), z < r := by
    intro z hz
    obtain ⟨i, hi⟩ := List.getElem?_of_mem hz
    rw [List.getElem?_take] at hi
    split at hi
    · exact (lowF_spec zs r).2.1 i z (by assumption) hi
    · cases hi
  have hhigh : ∀ z, zs[lowF zs r]? = some z → r ≤ z := (lowF_spec zs r).2.2
  have hdrop : ∀ z ∈ zs.drop (lowF zs r), r ≤ z ∧ (z = r → zs[lowF zs r]? = some r) := by
    intro z hz
    obtain ⟨i, hi⟩ := List.getElem?_of_mem hz
    rw [List.getElem?_drop] at hi
    obtain ⟨y, hy⟩ : ∃ y, zs[lowF zs r]? = some y := by
      have := (List.getElem?_eq_some_iff.1 hi).1
      exact ⟨zs[lowF zs r]'(by omega), by simp [show lowF zs r < zs.length by omega]⟩
    have hy2 := hhigh y hy
    by_cases e : i = 0
    · subst e
      rw [Nat.add_zero, hy] at hi
      cases hi
      exact ⟨hy2, fun h => by rw [hy, h]⟩
    · have h1 := (List.getElem?_eq_some_iff.1 hi).1
      have h2 := (List.getElem?_eq_some_iff.1 hy).1
      have := (List.pairwise_iff_getElem.1 hs) (lowF zs r) (lowF zs r + i) h2 h1 (by omega)
      rw [List.getElem?_eq_getElem h1] at hi
      rw [List.getElem?_eq_getElem h2] at hy
      cases hi; cases hy
      exact ⟨by omega, fun h => by omega⟩
  unfold insF
  by_cases hc : 1114111 < r ∨ zs[lowF zs r]? = some r
  · rw [if_pos hc]
    refine ⟨hs, fun q => ⟨Or.inl, fun h => ?_⟩, by omega⟩
    rcases h with h | ⟨rfl, h⟩
    · exact h
    · rcases hc with hc | hc
      · omega
      · exact List.mem_of_getElem? hc
  · rw [if_neg hc]
    have hne : ∀ z ∈ zs.drop (lowF zs r), r < z := fun z hz => by
      have h1 := hdrop z hz
      rcases Int.lt_trichotomy r z with h | h | h
      · exact h
      · exact absurd (.inr (h1.2 h.symm)) hc
      · omega
    refine ⟨?_, fun q => ?_, by simp [List.length_take, List.length_drop]; have := lowF_le zs r; omega⟩
    · rw [List.append_assoc, List.pairwise_append]
      refine ⟨hs.sublist (List.take_sublist _ _), ?_, ?_⟩
      · rw [List.singleton_append, List.pairwise_cons]
        exact ⟨hne, hs.sublist (List.drop_sublist _ _)⟩
      · intro x hx y hy
        have := hlow x hx
        rw [List.singleton_append, List.mem_cons] at hy
        rcases hy with rfl | hy
        · exact this
        · have := hne y hy; omega
    · rw [List.mem_append, List.mem_append, List.mem_singleton]
      have e : q ∈ zs ↔ q ∈ zs.take (lowF zs r) ∨ q ∈ zs.drop (lowF zs r) := by
        conv => lhs; rw [← List.take_append_drop (lowF zs r) zs]
        exact List.mem_append
      rw [e]
      have : r ≤ 1114111 := by omega
      constructor
      · rintro ((h | h) | h)
        · exact .inl (.inl h)
        · exact .inr ⟨h, this⟩
        · exact .inl (.inr h)
      · rintro ((h | h) | h)
        · exact .inl (.inl h)
        · exact .inr h
        · exact .inl (.inr h.1)
end Go.Proofs.Ytginejblmkiamaa.S
