/-
  Runes that are sorted: the one in the midst of three.
-/
import Derived.Test.YtlmmjefplbcapaaGreatZPivot
import Derived.Sort.Walk13a
import Derived.Sort.Walk7a
namespace Go.Proofs.YtlmmjefplbcapaaGreat
open Go.RowKit Go.Sort
set_option maxRecDepth 20000
set_option linter.unusedSimpArgs false
set_option linter.unusedVariables false

theorem zorder2_two (w0 w : World) (blk off cap a b sb : Nat) (d : Array Int) (hH : Holds Z.en w0 blk off d) (ha : a < d.size) (hb : b < d.size) (hsz : d.size < 1152921504606846976) (hne : ¬ blk = sb) (hs : Z.Sb sb w0 w) :
    Calls Tryz.prog 104 #[.slice (some ⟨blk, off, none⟩) d.size cap, .int .i64 a, .int .i64 b, .pointer (some ⟨sb, 0, none⟩)] w fun e w' => ∃ x y : Nat, (x = a ∧ y = b ∨ x = b ∧ y = a) ∧ e = .returned (.tuple #[.int .i64 x, .int .i64 y]) ∧ Z.Sb sb w0 w' := by
  obtain ⟨s, hs4⟩ := hs.2.2.2
  refine (zorder2_any w blk off cap a b sb s d (hs.holds hH hne) ha hb hsz hne hs4).mono ?_
  rintro e w' ⟨h | h, h2⟩
  · exact ⟨a, b, .inl ⟨rfl, rfl⟩, h, hs.trans h2⟩
  · exact ⟨b, a, .inr ⟨rfl, rfl⟩, h, hs.trans h2⟩

set_option maxHeartbeats 2000000 in
theorem zmedian_any (w0 w : World) (blk off cap a b c sb : Nat) (d : Array Int) (hH : Holds Z.en w0 blk off d) (ha : a < d.size) (hb : b < d.size) (hc : c < d.size) (hsz : d.size < 1152921504606846976) (hne : ¬ blk = sb) (hs : Z.Sb sb w0 w) :
    Calls Tryz.prog 102 #[.slice (some ⟨blk, off, none⟩) d.size cap, .int .i64 a, .int .i64 b, .int .i64 c, .pointer (some ⟨sb, 0, none⟩)] w fun e w' => ∃ x : Nat, (x = a ∨ x = b ∨ x = c) ∧ e = .returned (.int .i64 x) ∧ Z.Sb sb w0 w' := by
  have HH : Hid (Holds Z.en w0 blk off d) := hH
  have HS : Hid (Z.Sb sb w0 w) := hs
  clear hH hs
  go_enter Tryz.func102, Tryz.ntmps102
  go_wp2_with fail
  go_at_call 104
  refine Calls.mono (zorder2_two w0 _ blk off cap a b sb d HH.out ha hb hsz hne ?_) ?_
  · first | exact HS.out | exact HS.out.drew _
  rintro _ w1 ⟨a1, b1, h1, rfl, hs1⟩
  have HS1 : Hid (Z.Sb sb w0 w1) := hs1
  have ha1 : a1 < d.size := by omega
  have hb1 : b1 < d.size := by omega
  have H1 : Hid (a1 = a ∧ b1 = b ∨ a1 = b ∧ b1 = a) := h1
  clear hs1 h1 HS
  go_wp2_with fail
  go_at_call 104
  refine Calls.mono (zorder2_two w0 _ blk off cap b1 c sb d HH.out hb1 hc hsz hne ?_) ?_
  · first | exact HS1.out | exact HS1.out.drew _
  rintro _ w2 ⟨b2, c2, h2, rfl, hs2⟩
  have HS2 : Hid (Z.Sb sb w0 w2) := hs2
  have hb2 : b2 < d.size := by omega
  have H2 : Hid (b2 = b1 ∧ c2 = c ∨ b2 = c ∧ c2 = b1) := h2
  clear hs2 h2 HS1
  go_wp2_with fail
  go_at_call 104
  refine Calls.mono (zorder2_two w0 _ blk off cap a1 b2 sb d HH.out ha1 hb2 hsz hne ?_) ?_
  · first | exact HS2.out | exact HS2.out.drew _
  rintro _ w3 ⟨a3, b3, h3, rfl, hs3⟩
  have HS3 : Hid (Z.Sb sb w0 w3) := hs3
  have H3 : Hid (a3 = a1 ∧ b3 = b2 ∨ a3 = b2 ∧ b3 = a1) := h3
  clear hs3 h3 HS2
  go_wp2
  refine bodyPost_ret (v := .int .i64 b3) (by simp [results, Tryz.results102, go_sem, *]) rfl ?_
  have e1 := H1.out
  have e2 := H2.out
  have e3 := H3.out
  exact ⟨b3, by omega, rfl, HS3.out⟩

set_option maxHeartbeats 2000000 in
theorem zadjacent_any (w0 w : World) (blk off cap a sb : Nat) (d : Array Int) (hH : Holds Z.en w0 blk off d) (ha : 1 ≤ a ∧ a + 1 < d.size) (hsz : d.size < 1152921504606846976) (hne : ¬ blk = sb) (hs : Z.Sb sb w0 w) :
    Calls Tryz.prog 101 #[.slice (some ⟨blk, off, none⟩) d.size cap, .int .i64 a, .pointer (some ⟨sb, 0, none⟩)] w fun e w' => ∃ x : Nat, (a ≤ x + 1 ∧ x ≤ a + 1) ∧ e = .returned (.int .i64 x) ∧ Z.Sb sb w0 w' := by
  have HH : Hid (Holds Z.en w0 blk off d) := hH
  have HS : Hid (Z.Sb sb w0 w) := hs
  clear hH hs
  obtain ⟨p, hp⟩ : ∃ p, p + 1 ≤ a ∧ a ≤ p + 1 := ⟨a - 1, by omega⟩
  obtain ⟨q, hq⟩ : ∃ q, a + 1 ≤ q ∧ q ≤ a + 1 := ⟨a + 1, by omega⟩
  go_enter Tryz.func101, Tryz.ntmps101
  go_wp2_with fail
  rw [show ((a : Int) - 1) = (p : Int) by omega, show ((a : Int) + 1) = (q : Int) by omega]
  go_at_call 102
  refine Calls.mono (zmedian_any w0 _ blk off cap p a q sb d HH.out (by omega) (by omega) (by omega) hsz hne ?_) ?_
  · first | exact HS.out | exact HS.out.drew _
  rintro _ w1 ⟨x, h1, rfl, hs1⟩
  have HS1 : Hid (Z.Sb sb w0 w1) := hs1
  have H1 : Hid (a ≤ x + 1 ∧ x ≤ a + 1) := by show _ ∧ _; omega
  clear hs1 h1 HS
  go_wp2
  refine bodyPost_ret (v := .int .i64 x) (by simp [results, Tryz.results101, go_sem, *]) rfl ?_
  exact ⟨x, H1.out, rfl, HS1.out⟩

end Go.Proofs.YtlmmjefplbcapaaGreat

/-
  Runes that are sorted: the one that parts them lies among them.
-/
namespace Go.Proofs.YtlmmjefplbcapaaGreat
open Go.RowKit Go.Sort
set_option maxRecDepth 20000
set_option linter.unusedSimpArgs false
set_option linter.unusedVariables false

theorem Z.grown {w w' : World} (h : RowKit.Below w.heap.size w w') (hd : w.drawn ≤ w'.drawn) : ∃ m os, w' = grow (Sort.ahead w m) os := by
  obtain ⟨h1, h2, h3, h4, h5⟩ := h
  refine ⟨w'.drawn - w.drawn, w'.heap.extract w.heap.size w'.heap.size, ?_⟩
  obtain ⟨hp, tp, dr, os, out⟩ := w'
  simp only at h1 h2 h3 h4 h5 hd
  subst h1 h2 h3
  have e1 : w.drawn + (dr - w.drawn) = dr := by omega
  have e2 : w.heap ++ hp.extract w.heap.size hp.size = hp := by
    refine Array.ext_getElem? fun i => ?_
    rw [Array.getElem?_append]
    split
    · exact (h5 i (by assumption)).symm
    · rw [Array.getElem?_extract]
      split
      · congr 1; omega
      · exact (Array.getElem?_eq_none (by omega)).symm
  simp only [grow, Sort.ahead, e1, e2]

set_option maxHeartbeats 1000000 in
theorem zpivot_any (w : World) (blk off cap a n : Nat) (d : Array Int) (hH : Holds Z.en w blk off d) (hn : a + n ≤ d.size) (h8 : 8 ≤ n) (hsz : d.size < 1152921504606846976) :
    Calls Tryz.prog 90 #[.slice (some ⟨blk, off, none⟩) d.size cap, .int .i64 a, .int .i64 ((a + n : Nat) : Int)] w fun e w' => ∃ p h : Nat, a ≤ p ∧ p < a + n ∧ h ≤ 2 ∧ e = .returned (.tuple #[.int .i64 p, .int .i64 h]) ∧ ∃ m os, w' = grow (Sort.ahead w m) os := by
  have hbl : blk < w.heap.size := World.block_lt_of_cell? w _ (hH 0 (by omega)).1
  have hne : ¬ blk = w.heap.size := by omega
  have HH : Hid (Holds Z.en w blk off d) := hH
  have hA : Holds Z.en (w.alloc (.cells #[.int .i64 0] 3)) blk off d := fun j hj => by
    obtain ⟨h1, h2⟩ := hH j hj
    refine ⟨K.alloc_cell h1 _, ?_⟩
    rw [← h2]
    have e : (w.alloc (.cells #[.int .i64 0] 3)).heap[blk]? = w.heap[blk]? := Below.heap_alloc w _ blk hbl
    unfold World.frozen?
    simp only [e]
  have hSA : Z.Sb w.heap.size (w.alloc (.cells #[.int .i64 0] 3)) (w.alloc (.cells #[.int .i64 0] 3)) := Z.Sb.refl (s := 0) (by show (w.heap.push _)[w.heap.size]? = _; exact Array.getElem?_push_size)
  have HA : Hid (Holds Z.en (w.alloc (.cells #[.int .i64 0] 3)) blk off d) := hA
  have HS : Hid (Z.Sb w.heap.size (w.alloc (.cells #[.int .i64 0] 3)) (w.alloc (.cells #[.int .i64 0] 3))) := hSA
  have HB : Hid (∀ w', Z.Sb w.heap.size (w.alloc (.cells #[.int .i64 0] 3)) w' → ∃ m os, w' = grow (Sort.ahead w m) os) := fun w' h => Z.grown (((RowKit.Below.refl _ _).alloc (Nat.le_refl _) _).trans h.1) h.2.2.1.2
  clear hH hA hSA
  obtain ⟨q, hq⟩ : ∃ q, 4 * q ≤ n ∧ n ≤ 4 * q + 3 := ⟨n / 4, by omega⟩
  go_enter Tryz.func90, Tryz.ntmps90
  go_wp2_with fail
  all_goals (rw [show ((a : Int) + n - a) = (n : Int) by omega, show ((n : Int) / 4) = (q : Int) by omega])
  · obtain ⟨i0, hi0⟩ : ∃ i0, a + q ≤ i0 ∧ i0 ≤ a + q := ⟨a + q, by omega⟩
    obtain ⟨j0, hj0⟩ : ∃ i0, a + q * 2 ≤ i0 ∧ i0 ≤ a + q * 2 := ⟨a + q * 2, by omega⟩
    obtain ⟨k0, hk0⟩ : ∃ i0, a + q * 3 ≤ i0 ∧ i0 ≤ a + q * 3 := ⟨a + q * 3, by omega⟩
    rw [show ((a : Int) + q) = (i0 : Int) by omega, show ((a : Int) + q * 2) = (j0 : Int) by omega, show ((a : Int) + q * 3) = (k0 : Int) by omega]
    go_at_call 101
    refine Calls.mono (zadjacent_any (w.alloc (.cells #[.int .i64 0] 3)) _ blk off cap i0 w.heap.size d HA.out (by omega) hsz hne ?_) ?_
    · first | exact HS.out | exact HS.out.drew _
    rintro _ w1 ⟨x1, h1, rfl, hs1⟩
    have HS1 : Hid (Z.Sb w.heap.size (w.alloc (.cells #[.int .i64 0] 3)) w1) := hs1
    have hx1 : a ≤ x1 ∧ x1 < a + n := by omega
    clear hs1 h1 HS
    go_wp2_with fail
    go_at_call 101
    refine Calls.mono (zadjacent_any (w.alloc (.cells #[.int .i64 0] 3)) _ blk off cap j0 w.heap.size d HA.out (by omega) hsz hne ?_) ?_
    · first | exact HS1.out | exact HS1.out.drew _
    rintro _ w2 ⟨x2, h2, rfl, hs2⟩
    have HS2 : Hid (Z.Sb w.heap.size (w.alloc (.cells #[.int .i64 0] 3)) w2) := hs2
    have hx2 : a ≤ x2 ∧ x2 < a + n := by omega
    clear hs2 h2 HS1
    go_wp2_with fail
    go_at_call 101
    refine Calls.mono (zadjacent_any (w.alloc (.cells #[.int .i64 0] 3)) _ blk off cap k0 w.heap.size d HA.out (by omega) hsz hne ?_) ?_
    · first | exact HS2.out | exact HS2.out.drew _
    rintro _ w3 ⟨x3, h3, rfl, hs3⟩
    have HS3 : Hid (Z.Sb w.heap.size (w.alloc (.cells #[.int .i64 0] 3)) w3) := hs3
    have hx3 : a ≤ x3 ∧ x3 < a + n := by omega
    clear hs3 h3 HS2
    go_wp2_with fail
    go_at_call 102
    refine Calls.mono (zmedian_any (w.alloc (.cells #[.int .i64 0] 3)) _ blk off cap x1 x2 x3 w.heap.size d HA.out (by omega) (by omega) (by omega) hsz hne ?_) ?_
    · first | exact HS3.out | exact HS3.out.drew _
    rintro _ w4 ⟨x, h4, rfl, hs4⟩
    have HS4 : Hid (Z.Sb w.heap.size (w.alloc (.cells #[.int .i64 0] 3)) w4) := hs4
    have hx : a ≤ x ∧ x < a + n := by omega
    clear hs4 h4 HS3
    obtain ⟨s, hs⟩ := HS4.out.2.2.2
    have c0 : w4.cell? ⟨w.heap.size, 0, none⟩ = some (.int .i64 s) := K.at_box (i := 0) hs rfl
    clear hs
    have HF : Hid (∃ m os, w4 = grow (Sort.ahead w m) os) := HB.out _ HS4.out
    clear HS4 HB HA HH
    go_wp2
    · refine bodyPost_ret (v := .tuple #[.int .i64 x, .int .i64 ((1 : Nat) : Int)]) (by simp [results, Tryz.results90, go_sem, *]) rfl ?_
      exact ⟨x, 1, by omega, by omega, by omega, rfl, HF.out⟩
    · refine bodyPost_ret (v := .tuple #[.int .i64 x, .int .i64 ((2 : Nat) : Int)]) (by simp [results, Tryz.results90, go_sem, *]) rfl ?_
      exact ⟨x, 2, by omega, by omega, by omega, rfl, HF.out⟩
    · refine bodyPost_ret (v := .tuple #[.int .i64 x, .int .i64 ((0 : Nat) : Int)]) (by simp [results, Tryz.results90, go_sem, *]) rfl ?_
      exact ⟨x, 0, by omega, by omega, by omega, rfl, HF.out⟩
  · obtain ⟨i0, hi0⟩ : ∃ i0, a + q ≤ i0 ∧ i0 ≤ a + q := ⟨a + q, by omega⟩
    obtain ⟨j0, hj0⟩ : ∃ i0, a + q * 2 ≤ i0 ∧ i0 ≤ a + q * 2 := ⟨a + q * 2, by omega⟩
    obtain ⟨k0, hk0⟩ : ∃ i0, a + q * 3 ≤ i0 ∧ i0 ≤ a + q * 3 := ⟨a + q * 3, by omega⟩
    rw [show ((a : Int) + q) = (i0 : Int) by omega, show ((a : Int) + q * 2) = (j0 : Int) by omega, show ((a : Int) + q * 3) = (k0 : Int) by omega]
    go_at_call 102
    refine Calls.mono (zmedian_any (w.alloc (.cells #[.int .i64 0] 3)) _ blk off cap i0 j0 k0 w.heap.size d HA.out (by omega) (by omega) (by omega) hsz hne ?_) ?_
    · first | exact HS.out | exact HS.out.drew _
    rintro _ w4 ⟨x, h4, rfl, hs4⟩
    have HS4 : Hid (Z.Sb w.heap.size (w.alloc (.cells #[.int .i64 0] 3)) w4) := hs4
    have hx : a ≤ x ∧ x < a + n := by omega
    clear hs4 h4 HS
    obtain ⟨s, hs⟩ := HS4.out.2.2.2
    have c0 : w4.cell? ⟨w.heap.size, 0, none⟩ = some (.int .i64 s) := K.at_box (i := 0) hs rfl
    clear hs
    have HF : Hid (∃ m os, w4 = grow (Sort.ahead w m) os) := HB.out _ HS4.out
    clear HS4 HB HA HH
    go_wp2
    · refine bodyPost_ret (v := .tuple #[.int .i64 x, .int .i64 ((1 : Nat) : Int)]) (by simp [results, Tryz.results90, go_sem, *]) rfl ?_
      exact ⟨x, 1, by omega, by omega, by omega, rfl, HF.out⟩
    · refine bodyPost_ret (v := .tuple #[.int .i64 x, .int .i64 ((2 : Nat) : Int)]) (by simp [results, Tryz.results90, go_sem, *]) rfl ?_
      exact ⟨x, 2, by omega, by omega, by omega, rfl, HF.out⟩
    · refine bodyPost_ret (v := .tuple #[.int .i64 x, .int .i64 ((0 : Nat) : Int)]) (by simp [results, Tryz.results90, go_sem, *]) rfl ?_
      exact ⟨x, 0, by omega, by omega, by omega, rfl, HF.out⟩

end Go.Proofs.YtlmmjefplbcapaaGreat

/-
  Runes that are sorted: the next number drawn at will, and how many.
-/
namespace Go.Proofs.YtlmmjefplbcapaaGreat
open Go.RowKit Go.Sort
set_option maxRecDepth 20000
set_option linter.unusedSimpArgs false
set_option linter.unusedVariables false

theorem Z.mix (x : Nat) (y : Int) (hx : x < 18446744073709551616) (h0 : 0 ≤ y) (h1 : y < 18446744073709551616) : ∃ v : Nat, v < 18446744073709551616 ∧ bits .xor .u64 (x : Int) y = (v : Int) := by
  obtain ⟨n, rfl⟩ := Int.eq_ofNat_of_zero_le h0
  exact ⟨_, Nat.xor_lt_two_pow (n := 64) (by omega) (by omega), bits_xor_u64_nat x n hx (by omega)⟩

set_option maxHeartbeats 1000000 in
theorem znext_any (w : World) (rb X : Nat) (hX : X < 18446744073709551616) (hs : w.heap[rb]? = some (.cells #[.int .u64 X] 139)) :
    Calls Tryz.prog 100 #[.pointer (some ⟨rb, 0, none⟩)] w fun e w' => ∃ v : Nat, v < 18446744073709551616 ∧ e = .returned (.int .u64 v) ∧ ∃ k, w' = (w.setCell ⟨rb, 0, none⟩ (.int .u64 v)).drewN k := by
  have c0 : w.cell? ⟨rb, 0, none⟩ = some (.int .u64 X) := K.at_box (i := 0) hs rfl
  have f0 : w.frozen? ⟨rb, 0, none⟩ = false := frozen_of_row w _ _ _ _ hs
  clear hs
  obtain ⟨p, hp, e1⟩ := Z.mix X (IntKind.u64.wrap ((X : Int) * 8192)) hX (by rw [IntKind.wrap_u64]; omega) (by rw [IntKind.wrap_u64]; omega)
  obtain ⟨q, hq, e2⟩ := Z.mix p ((p : Int) / 128) hp (by omega) (by omega)
  obtain ⟨v, hv, e3⟩ := Z.mix q (IntKind.u64.wrap ((q : Int) * 131072)) hq (by rw [IntKind.wrap_u64]; omega) (by rw [IntKind.wrap_u64]; omega)
  have ss : ∀ x y, (w.setCell ⟨rb, 0, none⟩ x).setCell ⟨rb, 0, none⟩ y = w.setCell ⟨rb, 0, none⟩ y := setCell_setCell w rb 0
  go_enter Tryz.func100, Tryz.ntmps100
  go_wp2
  go_region
  all_goals go_wp2
  all_goals go_region
  all_goals go_wp2
  all_goals go_region
  all_goals go_wp2
  all_goals go_ret
  all_goals exact ⟨v, hv, rfl, 3, rfl⟩

end Go.Proofs.YtlmmjefplbcapaaGreat
