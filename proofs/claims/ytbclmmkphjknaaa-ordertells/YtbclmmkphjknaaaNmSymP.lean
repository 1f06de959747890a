/-
  A row of numbers, and two that change their places.
-/
import Derived.Test.YtbclmmkphjknaaaRows
import Derived.Sort.WalkA
import Derived.Sort.WalkB12
import Derived.Test.YtbclmmkphjknaaaNmIns
namespace Go.Proofs.Ytbclmmkphjknaaa
open Go.RowKit Go.Sort
set_option maxRecDepth 20000
set_option linter.unusedSimpArgs false
set_option linter.unusedVariables false

namespace Zi
abbrev en : Int → Value := Value.int .i64
/-- the row's cells hold d in a world that is w but for the row and for draws -/
def At (w : World) (blk off n0 : Nat) (d : Array Int) (wr : World) : Prop := d.size = n0 ∧ ∃ n, wr = putRow en (Sort.ahead w n) blk off d
theorem At.start {w : World} {blk off : Nat} {d : Array Int} (h : Holds en w blk off d) : At w blk off d.size d w := ⟨rfl, 0, (putRow_self en w blk off d h).symm⟩
theorem At.cell {w wr : World} {blk off n0 : Nat} {d0 d : Array Int} (h : At w blk off n0 d wr) (h0 : Holds en w blk off d0) (hn : d0.size = n0) {j : Nat} (hj : j < n0) : wr.cell? ⟨blk, off + j, none⟩ = some (.int .i64 d[j]!) := by
  obtain ⟨hs, n, rfl⟩ := h
  exact cell?_putRow en _ blk off d0 d (holds_ahead en w n blk off d0 h0) (by omega) j (by omega)
theorem At.free {w wr : World} {blk off n0 : Nat} {d0 d : Array Int} (h : At w blk off n0 d wr) (h0 : Holds en w blk off d0) (hn : d0.size = n0) {j : Nat} (hj : j < n0) : wr.frozen? ⟨blk, off + j, none⟩ = false := by
  obtain ⟨hs, n, rfl⟩ := h
  rw [frozen?_putRow]
  exact (holds_ahead en w n blk off d0 h0 j (by omega)).2
theorem At.drew {w wr : World} {blk off n0 : Nat} {d : Array Int} (h : At w blk off n0 d wr) (q : Nat) : At w blk off n0 d (wr.drewN q) := by
  obtain ⟨hs, n, rfl⟩ := h
  exact ⟨hs, n + q, putRow_drewN en w n q blk off d⟩
theorem At.swap {w wr : World} {blk off n0 : Nat} {d : Array Int} (h : At w blk off n0 d wr) {i j : Nat} (hi : i < n0) (hj : j < n0) (q : Nat) : At w blk off n0 (swp d i j) (((wr.drewN q).setCell ⟨blk, off + i, none⟩ (.int .i64 d[j]!)).setCell ⟨blk, off + j, none⟩ (.int .i64 d[i]!)) := by
  obtain ⟨hs, n, rfl⟩ := h
  exact ⟨by rw [size_swp]; exact hs, n + q, swap_worldA en w n q blk off d i j (by omega) (by omega)⟩
theorem At.holds {w wr : World} {blk off n0 : Nat} {d0 d : Array Int} (h : At w blk off n0 d wr) (h0 : Holds en w blk off d0) (hn : d0.size = n0) : Holds en wr blk off d := by
  obtain ⟨hs, n, rfl⟩ := h
  exact holds_putRow en _ blk off d0 d (holds_ahead en w n blk off d0 h0) (by omega)
theorem At.trans {w w1 w2 : World} {blk off n0 : Nat} {d e : Array Int} (h : At w blk off n0 d w1) (h' : At w1 blk off n0 e w2) : At w blk off n0 e w2 := by
  obtain ⟨hs, n, rfl⟩ := h
  obtain ⟨hs', m, rfl⟩ := h'
  exact ⟨hs', n + m, putRow_ahead_putRow en w n m blk off d e (by omega)⟩
theorem At.far {w wr : World} {blk off n0 : Nat} {d : Array Int} (h : At w blk off n0 d wr) {a : Addr} (ha : a.block ≠ blk) : wr.cell? a = w.cell? a := by
  obtain ⟨hs, n, rfl⟩ := h
  exact (cell?_putRow_other en _ blk off d a (.inl ha)).trans rfl
theorem At.size {w wr : World} {blk off n0 : Nat} {d : Array Int} (h : At w blk off n0 d wr) : d.size = n0 := h.1
end Zi

end Go.Proofs.Ytbclmmkphjknaaa

/-
  Two rows of marks in order, made one: what parts them, and what moves one mark along. Plain lists.
-/
namespace Go.Proofs.Ytbclmmkphjknaaa.Nm
open Go.Sort
set_option linter.unusedSimpArgs false
set_option linter.unusedVariables false

theorem srt_get {B : List Int} (h : Srt B) {i j : Nat} (hij : i ≤ j) (hj : j < B.length) : cls (B[i]'(by omega)) ≤ cls B[j] := by
  by_cases e : i = j
  · subst e; exact Int.le_refl _
  · exact List.pairwise_iff_getElem.1 h i j (by omega) hj (by omega)
theorem srt_take_lt {B : List Int} {k : Nat} {c : Int} (h : Srt B) (hk : k ≤ B.length) (h1 : ∀ (h : 0 < k), cls (B[k - 1]'(by omega)) < c) : ∀ u ∈ B.take k, cls u < c := by
  intro u hu
  obtain ⟨i, hi, rfl⟩ := List.getElem_of_mem hu
  rw [List.length_take] at hi
  rw [List.getElem_take]
  exact Int.lt_of_le_of_lt (srt_get h (j := k - 1) (by omega) (by omega)) (h1 (by omega))
theorem srt_take_le {B : List Int} {k : Nat} {c : Int} (h : Srt B) (hk : k ≤ B.length) (h1 : ∀ (h : 0 < k), cls (B[k - 1]'(by omega)) ≤ c) : ∀ u ∈ B.take k, cls u ≤ c := by
  intro u hu
  obtain ⟨i, hi, rfl⟩ := List.getElem_of_mem hu
  rw [List.length_take] at hi
  rw [List.getElem_take]
  exact Int.le_trans (srt_get h (j := k - 1) (by omega) (by omega)) (h1 (by omega))
theorem srt_drop_le {B : List Int} {k : Nat} {c : Int} (h : Srt B) (h1 : ∀ (h : k < B.length), c ≤ cls B[k]) : ∀ u ∈ B.drop k, c ≤ cls u := by
  intro u hu
  obtain ⟨i, hi, rfl⟩ := List.getElem_of_mem hu
  rw [List.length_drop] at hi
  rw [List.getElem_drop]
  exact Int.le_trans (h1 (by omega)) (srt_get h (by omega) (by omega))
theorem srt_drop_lt {B : List Int} {k : Nat} {c : Int} (h : Srt B) (h1 : ∀ (h : k < B.length), c < cls B[k]) : ∀ u ∈ B.drop k, c < cls u := by
  intro u hu
  obtain ⟨i, hi, rfl⟩ := List.getElem_of_mem hu
  rw [List.length_drop] at hi
  rw [List.getElem_drop]
  exact Int.lt_of_lt_of_le (h1 (by omega)) (srt_get h (by omega) (by omega))
/-- x has gone t places on -/
def up (P D : List Int) (x : Int) (R : List Int) (t : Nat) : List Int := P ++ (D.take t ++ x :: (D.drop t ++ R))
theorem up_zero (P D : List Int) (x : Int) (R : List Int) : up P D x R 0 = P ++ x :: (D ++ R) := by simp [up]
theorem up_all (P D : List Int) (x : Int) (R : List Int) : up P D x R D.length = P ++ (D ++ x :: R) := by simp [up]
theorem up_len (P D : List Int) (x : Int) (R : List Int) {t : Nat} (h : t ≤ D.length) : (up P D x R t).length = P.length + D.length + 1 + R.length := by unfold up; simp; omega
theorem up_step (P D : List Int) (x : Int) (R : List Int) {t k : Nat} (h : t < D.length) (hk : k = P.length + t) : swp (up P D x R t).toArray k (k + 1) = (up P D x R (t + 1)).toArray := by
  unfold up
  rw [List.drop_eq_getElem_cons h, List.take_add_one, List.getElem?_eq_getElem h]
  have e := swp_mid (P ++ D.take t) [] (D.drop (t + 1) ++ R) x D[t] (i := k) (j := k + 1) (by simp; omega) (by simp; omega)
  simp only [List.append_assoc, List.cons_append, List.nil_append, Option.toList_some] at e ⊢
  exact e
theorem up_back (P D : List Int) (x : Int) (R : List Int) {t k : Nat} (h : t < D.length) (hk : k = P.length + t + 1) : swp (up P D x R (t + 1)).toArray k (k - 1) = (up P D x R t).toArray := by
  unfold up
  rw [List.drop_eq_getElem_cons h, List.take_add_one, List.getElem?_eq_getElem h]
  have e := swp_mid2 (P ++ D.take t) [] (D.drop (t + 1) ++ R) D[t] x (i := k - 1) (j := k) (by simp; omega) (by simp; omega)
  simp only [List.append_assoc, List.cons_append, List.nil_append, Option.toList_some] at e ⊢
  exact e
/-- what is at a place of a row that a part of it holds -/
theorem mid_get (P B Q : List Int) {t : Nat} (h1 : P.length ≤ t) (h2 : t < P.length + B.length) : (P ++ B ++ Q).toArray[t]! = B[t - P.length]'(by omega) := by
  rw [at_get (by simp; omega)]
  rw [List.getElem_append_left (by simp; omega), List.getElem_append_right h1]
/-- one mark and a row -/
theorem one_srt {B : List Int} {x : Int} {k : Nat} (h : Srt B) (h1 : ∀ u ∈ B.take k, cls u < cls x) (h2 : ∀ u ∈ B.drop k, cls x ≤ cls u) : Srt (B.take k ++ x :: B.drop k) ∧ Eqv (x :: B) (B.take k ++ x :: B.drop k) := by
  rw [← List.take_append_drop k B] at h
  obtain ⟨a, b, c⟩ := h.parts
  refine ⟨Srt.app a (List.pairwise_cons.2 ⟨h2, b⟩) fun u hu v hv => ?_, ?_⟩
  · rcases List.mem_cons.1 hv with rfl | hv
    · have := h1 u hu; omega
    · exact c u hu v hv
  · have e : x :: B = [x] ++ B.take k ++ B.drop k := by simp
    have e2 : B.take k ++ x :: B.drop k = B.take k ++ [x] ++ B.drop k := by simp
    rw [e, e2]
    exact (Eqv.rot (U := [x]) fun u hu y hy => by simp at hu; subst hu; exact h1 y hy).app (Eqv.refl _)
/-- the four parts of two rows -/
theorem four {A B : List Int} {s e : Nat} (hA : Srt A) (hB : Srt B) (h1 : ∀ u ∈ A.take s, ∀ v ∈ B.drop e, cls u ≤ cls v) (h2 : ∀ u ∈ A.drop s, ∀ v ∈ B.take e, cls v < cls u) {S1 S2 : List Int} (k1 : Srt S1) (k2 : Srt S2) (q1 : Eqv (A.take s ++ B.take e) S1) (q2 : Eqv (A.drop s ++ B.drop e) S2) : Srt (S1 ++ S2) ∧ Eqv (A ++ B) (S1 ++ S2) := by
  rw [← List.take_append_drop s A] at hA
  rw [← List.take_append_drop e B] at hB
  obtain ⟨_, _, ca⟩ := hA.parts
  obtain ⟨_, _, cb⟩ := hB.parts
  refine ⟨Srt.app k1 k2 fun u hu v hv => ?_, ?_⟩
  · have hu' := q1.symm.mem hu
    have hv' := q2.symm.mem hv
    rcases List.mem_append.1 hu' with a | a <;> rcases List.mem_append.1 hv' with b | b
    · exact ca u a v b
    · exact h1 u a v b
    · have := h2 v b u a; omega
    · exact cb u a v b
  · have e0 : A ++ B = A.take s ++ ((A.drop s ++ B.take e) ++ B.drop e) := by
      rw [List.append_assoc, List.take_append_drop e B, ← List.append_assoc, List.take_append_drop s A]
    rw [e0]
    have h3 : Eqv (A.take s ++ ((A.drop s ++ B.take e) ++ B.drop e)) (A.take s ++ ((B.take e ++ A.drop s) ++ B.drop e)) := (Eqv.refl _).app ((Eqv.rot h2).app (Eqv.refl _))
    refine h3.trans ?_
    have e1 : A.take s ++ ((B.take e ++ A.drop s) ++ B.drop e) = (A.take s ++ B.take e) ++ (A.drop s ++ B.drop e) := by simp
    rw [e1]
    exact q1.app q2
end Go.Proofs.Ytbclmmkphjknaaa.Nm
