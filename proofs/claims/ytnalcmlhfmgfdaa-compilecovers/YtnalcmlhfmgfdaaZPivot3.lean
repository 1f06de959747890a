/-
  Runes that are sorted: the one that parts them lies among them.
-/
import Derived.Test.YtnalcmlhfmgfdaaZPivot2
import Derived.Sort.Walk13a
namespace Go.Proofs.Ytnalcmlhfmgfdaa
open Go.RowKit Go.Sort
set_option maxRecDepth 20000
set_option linter.unusedSimpArgs false
set_option linter.unusedVariables false

theorem Z.grown {w w' : World} (h : RowKit.Below w.heap.size w w') (hd : w.drawn ≤ w'.drawn) : ∃ m os, w' = grow (Sort.ahead w m) os := by
  obtain ⟨h1, h2, h3, h4, h5⟩ := h
  refine ⟨w'.drawn - w.drawn, w'.heap.extract w.heap.size w'.heap.size, ?_⟩
  obtain ⟨hp, tp, dr, os, out⟩ := w'
  simp only at h1 h2 h3 h4 h5 hd
  subst h1 h2 h3
  have e1 : w.drawn + (dr - w.drawn) = dr := by omega
  have e2 : w.heap ++ hp.extract w.heap.size hp.size = hp := by
    refine Array.ext_getElem? fun i => ?_
    rw [Array.getElem?_append]
    split
    · exact (h5 i (by assumption)).symm
    · rw [Array.getElem?_extract]
      split
      · congr 1; omega
      · exact (Array.getElem?_eq_none (by omega)).symm
  simp only [grow, Sort.ahead, e1, e2]

set_option maxHeartbeats 1000000 in
theorem zpivot_any (w : World) (blk off cap a n : Nat) (d : Array Int) (hH : Holds Z.en w blk off d) (hn : a + n ≤ d.size) (h8 : 8 ≤ n) (hsz : d.size < 1152921504606846976) :
    Calls Try.prog 76 #[.slice (some ⟨blk, off, none⟩) d.size cap, .int .i64 a, .int .i64 ((a + n : Nat) : Int)] w fun e w' => ∃ p h : Nat, a ≤ p ∧ p < a + n ∧ h ≤ 2 ∧ e = .returned (.tuple #[.int .i64 p, .int .i64 h]) ∧ ∃ m os, w' = grow (Sort.ahead w m) os := by
  have hbl : blk < w.heap.size := World.block_lt_of_cell? w _ (hH 0 (by omega)).1
  have hne : ¬ blk = w.heap.size := by omega
  have HH : Hid (Holds Z.en w blk off d) := hH
  have hA : Holds Z.en (w.alloc (.cells #[.int .i64 0] 3)) blk off d := fun j hj => by
    obtain ⟨h1, h2⟩ := hH j hj
    refine ⟨K.alloc_cell h1 _, ?_⟩
    rw [← h2]
    have e : (w.alloc (.cells #[.int .i64 0] 3)).heap[blk]? = w.heap[blk]? := Below.heap_alloc w _ blk hbl
    unfold World.frozen?
    simp only [e]
  have hSA : Z.Sb w.heap.size (w.alloc (.cells #[.int .i64 0] 3)) (w.alloc (.cells #[.int .i64 0] 3)) := Z.Sb.refl (s := 0) (by show (w.heap.push _)[w.heap.size]? = _; exact Array.getElem?_push_size)
  have HA : Hid (Holds Z.en (w.alloc (.cells #[.int .i64 0] 3)) blk off d) := hA
  have HS : Hid (Z.Sb w.heap.size (w.alloc (.cells #[.int .i64 0] 3)) (w.alloc (.cells #[.int .i64 0] 3))) := hSA
  have HB : Hid (∀ w', Z.Sb w.heap.size (w.alloc (.cells #[.int .i64 0] 3)) w' → ∃ m os, w' = grow (Sort.ahead w m) os) := fun w' h => Z.grown (((RowKit.Below.refl _ _).alloc (Nat.le_refl _) _).trans h.1) h.2.2.1.2
  clear hH hA hSA
  obtain ⟨q, hq⟩ : ∃ q, 4 * q ≤ n ∧ n ≤ 4 * q + 3 := ⟨n / 4, by omega⟩
  go_enter Try.func76, Try.ntmps76
  go_wp2_with fail
  all_goals (rw [show ((a : Int) + n - a) = (n : Int) by omega, show ((n : Int) / 4) = (q : Int) by omega])
  · obtain ⟨i0, hi0⟩ : ∃ i0, a + q ≤ i0 ∧ i0 ≤ a + q := ⟨a + q, by omega⟩
    obtain ⟨j0, hj0⟩ : ∃ i0, a + q * 2 ≤ i0 ∧ i0 ≤ a + q * 2 := ⟨a + q * 2, by omega⟩
    obtain ⟨k0, hk0⟩ : ∃ i0, a + q * 3 ≤ i0 ∧ i0 ≤ a + q * 3 := ⟨a + q * 3, by omega⟩
    rw [show ((a : Int) + q) = (i0 : Int) by omega, show ((a : Int) + q * 2) = (j0 : Int) by omega, show ((a : Int) + q * 3) = (k0 : Int) by omega]
    go_at_call 92
    refine Calls.mono (zadjacent_any (w.alloc (.cells #[.int .i64 0] 3)) _ blk off cap i0 w.heap.size d HA.out (by omega) hsz hne ?_) ?_
    · first | exact HS.out | exact HS.out.drew _
    rintro _ w1 ⟨x1, h1, rfl, hs1⟩
    have HS1 : Hid (Z.Sb w.heap.size (w.alloc (.cells #[.int .i64 0] 3)) w1) := hs1
    have hx1 : a ≤ x1 ∧ x1 < a + n := by omega
    clear hs1 h1 HS
    go_wp2_with fail
    go_at_call 92
    refine Calls.mono (zadjacent_any (w.alloc (.cells #[.int .i64 0] 3)) _ blk off cap j0 w.heap.size d HA.out (by omega) hsz hne ?_) ?_
    · first | exact HS1.out | exact HS1.out.drew _
    rintro _ w2 ⟨x2, h2, rfl, hs2⟩
    have HS2 : Hid (Z.Sb w.heap.size (w.alloc (.cells #[.int .i64 0] 3)) w2) := hs2
    have hx2 : a ≤ x2 ∧ x2 < a + n := by omega
    clear hs2 h2 HS1
    go_wp2_with fail
    go_at_call 92
    refine Calls.mono (zadjacent_any (w.alloc (.cells #[.int .i64 0] 3)) _ blk off cap k0 w.heap.size d HA.out (by omega) hsz hne ?_) ?_
    · first | exact HS2.out | exact HS2.out.drew _
    rintro _ w3 ⟨x3, h3, rfl, hs3⟩
    have HS3 : Hid (Z.Sb w.heap.size (w.alloc (.cells #[.int .i64 0] 3)) w3) := hs3
    have hx3 : a ≤ x3 ∧ x3 < a + n := by omega
    clear hs3 h3 HS2
    go_wp2_with fail
    go_at_call 93
    refine Calls.mono (zmedian_any (w.alloc (.cells #[.int .i64 0] 3)) _ blk off cap x1 x2 x3 w.heap.size d HA.out (by omega) (by omega) (by omega) hsz hne ?_) ?_
    · first | exact HS3.out | exact HS3.out.drew _
    rintro _ w4 ⟨x, h4, rfl, hs4⟩
    have HS4 : Hid (Z.Sb w.heap.size (w.alloc (.cells #[.int .i64 0] 3)) w4) := hs4
    have hx : a ≤ x ∧ x < a + n := by omega
    clear hs4 h4 HS3
    obtain ⟨s, hs⟩ := HS4.out.2.2.2
    have c0 : w4.cell? ⟨w.heap.size, 0, none⟩ = some (.int .i64 s) := K.at_box (i := 0) hs rfl
    clear hs
    have HF : Hid (∃ m os, w4 = grow (Sort.ahead w m) os) := HB.out _ HS4.out
    clear HS4 HB HA HH
    go_wp2
    · refine bodyPost_ret (v := .tuple #[.int .i64 x, .int .i64 ((1 : Nat) : Int)]) (by simp [results, Try.results76, go_sem, *]) rfl ?_
      exact ⟨x, 1, by omega, by omega, by omega, rfl, HF.out⟩
    · refine bodyPost_ret (v := .tuple #[.int .i64 x, .int .i64 ((2 : Nat) : Int)]) (by simp [results, Try.results76, go_sem, *]) rfl ?_
      exact ⟨x, 2, by omega, by omega, by omega, rfl, HF.out⟩
    · refine bodyPost_ret (v := .tuple #[.int .i64 x, .int .i64 ((0 : Nat) : Int)]) (by simp [results, Try.results76, go_sem, *]) rfl ?_
      exact ⟨x, 0, by omega, by omega, by omega, rfl, HF.out⟩
  · obtain ⟨i0, hi0⟩ : ∃ i0, a + q ≤ i0 ∧ i0 ≤ a + q := ⟨a + q, by omega⟩
    obtain ⟨j0, hj0⟩ : ∃ i0, a + q * 2 ≤ i0 ∧ i0 ≤ a + q * 2 := ⟨a + q * 2, by omega⟩
    obtain ⟨k0, hk0⟩ : ∃ i0, a + q * 3 ≤ i0 ∧ i0 ≤ a + q * 3 := ⟨a + q * 3, by omega⟩
    rw [show ((a : Int) + q) = (i0 : Int) by omega, show ((a : Int) + q * 2) = (j0 : Int) by omega, show ((a : Int) + q * 3) = (k0 : Int) by omega]
    go_at_call 93
    refine Calls.mono (zmedian_any (w.alloc (.cells #[.int .i64 0] 3)) _ blk off cap i0 j0 k0 w.heap.size d HA.out (by omega) (by omega) (by omega) hsz hne ?_) ?_
    · first | exact HS.out | exact HS.out.drew _
    rintro _ w4 ⟨x, h4, rfl, hs4⟩
    have HS4 : Hid (Z.Sb w.heap.size (w.alloc (.cells #[.int .i64 0] 3)) w4) := hs4
    have hx : a ≤ x ∧ x < a + n := by omega
    clear hs4 h4 HS
    obtain ⟨s, hs⟩ := HS4.out.2.2.2
    have c0 : w4.cell? ⟨w.heap.size, 0, none⟩ = some (.int .i64 s) := K.at_box (i := 0) hs rfl
    clear hs
    have HF : Hid (∃ m os, w4 = grow (Sort.ahead w m) os) := HB.out _ HS4.out
    clear HS4 HB HA HH
    go_wp2
    · refine bodyPost_ret (v := .tuple #[.int .i64 x, .int .i64 ((1 : Nat) : Int)]) (by simp [results, Try.results76, go_sem, *]) rfl ?_
      exact ⟨x, 1, by omega, by omega, by omega, rfl, HF.out⟩
    · refine bodyPost_ret (v := .tuple #[.int .i64 x, .int .i64 ((2 : Nat) : Int)]) (by simp [results, Try.results76, go_sem, *]) rfl ?_
      exact ⟨x, 2, by omega, by omega, by omega, rfl, HF.out⟩
    · refine bodyPost_ret (v := .tuple #[.int .i64 x, .int .i64 ((0 : Nat) : Int)]) (by simp [results, Try.results76, go_sem, *]) rfl ?_
      exact ⟨x, 0, by omega, by omega, by omega, rfl, HF.out⟩

end Go.Proofs.Ytnalcmlhfmgfdaa
