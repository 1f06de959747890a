/-
  A stretch of a row of one's own is put in order: what the row is then.
-/
import Derived.Test.YtbclmmkphjknaaaNmStb
import Derived.Test.YtbclmmkphjknaaaKInts
namespace Go.Proofs.Ytbclmmkphjknaaa.Nm
open Go.RowKit Go.Sort
set_option linter.unusedSimpArgs false
set_option linter.unusedVariables false

theorem own_sub {w : World} {F0 g n cap : Nat} {D M R : List Int} (h : w.ownsRow F0 21 1 (.slice (some ⟨g, 0, none⟩) n cap) n (K.ints (D ++ M ++ R))) :
    Holds Z.en w g D.length M.toArray ∧ ∀ (w' : World) (M' : List Int), Z.At w g D.length M.length M'.toArray w' → w'.ownsRow F0 21 1 (.slice (some ⟨g, 0, none⟩) n cap) n (K.ints (D ++ M' ++ R)) ∧ Below F0 w w' := by
  obtain ⟨hx, h2⟩ := h
  rcases h2 with ⟨e0, _⟩ | ⟨g', cap', cur, e0, hb, hg, hn, hm, hs, ht⟩
  · cases e0
  · injection e0 with e1 _ e3
    injection e1 with e1
    injection e1 with e1
    subst e1; subst e3
    have hlen : D.length + M.length + R.length = n := by
      have := hx
      simp [K.ints] at this
      omega
    have hcur : ∀ k, k < n → cur[k]? = (K.ints (D ++ M ++ R))[k]? := fun k hk => by
      rw [← ht, List.getElem?_take, if_pos (by omega), Array.getElem?_toList]
    refine ⟨fun j hj => ?_, fun w' M' hA => ?_⟩
    · have hj' : j < M.length := by simpa using hj
      refine ⟨?_, frozen_of_row w g _ _ _ hg⟩
      have h3 := hcur (D.length + j) (by omega)
      have h4 : (K.ints (D ++ M ++ R))[D.length + j]? = some (.int .i32 M[j]) := by
        unfold K.ints
        rw [List.getElem?_map, List.append_assoc, List.getElem?_append_right (by omega), Nat.add_sub_cancel_left, List.getElem?_append_left hj', List.getElem?_eq_getElem hj']
        rfl
      rw [World.cell?]
      simp only [hg]
      rw [h3, h4]
      simp [hj']
    · obtain ⟨hsz, q, rfl⟩ := hA
      have hml : M'.length = M.length := by simpa using hsz
      refine ⟨⟨by simp [K.ints]; omega, .inr ⟨g, cap, putCells Z.en D.length M'.toArray cur, rfl, hb, ?_, hn, hm, by simpa [putCells] using hs, ?_⟩⟩, ?_⟩
      · simp [putRow, mapBlock, Sort.ahead, Array.getElem?_modify, hg, onCells]
      · apply List.ext_getElem?
        intro k
        rw [List.getElem?_take]
        by_cases hk : k < n * 1
        · rw [if_pos hk, Array.getElem?_toList]
          have hk' : k < n := by omega
          have h3 := hcur k hk'
          have hkc : k < cur.size := by omega
          simp only [putCells, Array.getElem?_mapIdx]
          rw [h3]
          unfold K.ints
          simp only [List.getElem?_map]
          by_cases h1 : k < D.length
          · rw [List.append_assoc, List.getElem?_append_left h1, List.append_assoc, List.getElem?_append_left h1, List.getElem?_eq_getElem h1]
            simp [show ¬ (D.length ≤ k) by omega]
          · by_cases h2 : k < D.length + M.length
            · rw [List.append_assoc, List.getElem?_append_right (by omega), List.getElem?_append_left (by omega), List.append_assoc, List.getElem?_append_right (by omega), List.getElem?_append_left (by omega), List.getElem?_eq_getElem (show k - D.length < M.length by omega), List.getElem?_eq_getElem (show k - D.length < M'.length by omega)]
              simp only [Option.map_some]
              rw [if_pos ⟨by omega, by simp; omega⟩]
              simp [show k - D.length < M'.length by omega]
            · rw [List.append_assoc, List.getElem?_append_right (by omega), List.getElem?_append_right (by omega), List.append_assoc, List.getElem?_append_right (by omega), List.getElem?_append_right (by omega), hml]
              cases R[k - D.length - M.length]? with
              | none => rfl
              | some z =>
                simp only [Option.map_some]
                rw [if_neg (by simp; omega)]
        · rw [if_neg hk, List.getElem?_eq_none (by simp [K.ints]; omega)]
      · refine ⟨rfl, rfl, rfl, by simp [putRow, mapBlock, Sort.ahead], fun k hk => ?_⟩
        simp only [putRow, mapBlock, Sort.ahead, Array.getElem?_modify]
        rw [if_neg (by omega)]
end Go.Proofs.Ytbclmmkphjknaaa.Nm
