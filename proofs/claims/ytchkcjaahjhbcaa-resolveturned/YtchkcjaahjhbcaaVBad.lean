/-
  Forth and Back, where something is wrong.
-/
import Derived.Test.YtchkcjaahjhbcaaVFit
import Derived.Test.YtchkcjaahjhbcaaQBox
namespace Go.Proofs.Ytchkcjaahjhbcaa
open Go.RowKit Go.Lib
set_option maxRecDepth 20000
set_option linter.unusedSimpArgs false
set_option linter.unusedVariables false

/-- five stores into a box of three and one of two -/
theorem V.five {w W : World} {B a b : Nat} (hb : Below B w W) (ha : B ≤ a) (hbb : B ≤ b) (v0 v1 v2 v3 v4 : Value) :
    Below B w (((((W.setCell ⟨a, 0, none⟩ v0).setCell ⟨a, 1, none⟩ v1).setCell ⟨a, 2, none⟩ v2).setCell ⟨b, 0, none⟩ v3).setCell ⟨b, 1, none⟩ v4) :=
  ((((hb.setCell (p := ⟨a, 0, none⟩) ha _).setCell (p := ⟨a, 1, none⟩) ha _).setCell (p := ⟨a, 2, none⟩) ha _).setCell (p := ⟨b, 0, none⟩) hbb _).setCell (p := ⟨b, 1, none⟩) hbb _

set_option maxHeartbeats 4000000 in
theorem forth_bad (w : World) (v : Value) (l : List R.Part) (R0 : R.Pts w v l) (hbad : (V.varsF l).1.1 ≠ 0) :
    Calls Try.prog 16 #[v] w fun e w' => e = .returned (.tuple #[.agg #[.bool false, .slice none 0 0, .slice none 0 0], .agg #[.int .i64 (V.varsF l).1.1, .int .i64 (V.varsF l).1.2]]) ∧ Below w.heap.size w w' := by
  have HA : Hid (∀ o1 o2, Below w.heap.size w ((w.alloc o1).alloc o2)) := fun o1 o2 => ((Below.refl _ w).alloc (Nat.le_refl _) o1).alloc (by simp) o2
  have HC : Hid (∀ o1 o2, Calls Try.prog 35 #[v] ((w.alloc o1).alloc o2) fun e w' => e = .returned (.tuple #[.map none, .agg #[.int .i64 (V.varsF l).1.1, .int .i64 (V.varsF l).1.2]]) ∧ Below ((w.alloc o1).alloc o2).heap.size ((w.alloc o1).alloc o2) w') := fun o1 o2 =>
    (variables_any _ _ l (R0.below (HA.out _ _))).mono fun e w' ⟨h1, h2⟩ => ⟨h1.elim (fun h => absurd h.1 hbad) fun h => h.2, h2⟩
  obtain ⟨ao, cap, rfl⟩ := R0.len
  obtain ⟨⟨⟨e1, e2⟩, kn⟩, he⟩ : ∃ o, V.varsF l = o := ⟨_, rfl⟩
  rw [he] at HC hbad ⊢
  simp only at HC hbad ⊢
  clear he R0
  go_enter Try.func16, Try.ntmps16
  go_wp2_with fail
  refine (HC.out _ _).mono ?_
  rintro e w1 ⟨rfl, b1⟩
  obtain ⟨h1, h2, B1, s1⟩ := K.two_boxes b1
  have HB2 : Hid (∀ o, Below w.heap.size w (w1.alloc o)) := fun o => B1.alloc (by omega) o
  have k0 : ∀ o, (w1.alloc o).cell? ⟨w.heap.size, 0, none⟩ = some (.bool false) := fun o => K.alloc_cell (K.at_box h1 rfl) o
  have k1 : ∀ o, (w1.alloc o).cell? ⟨w.heap.size, 1, none⟩ = some (.slice none 0 0) := fun o => K.alloc_cell (K.at_box h1 rfl) o
  have k2 : ∀ o, (w1.alloc o).cell? ⟨w.heap.size, 2, none⟩ = some (.slice none 0 0) := fun o => K.alloc_cell (K.at_box h1 rfl) o
  have k3 : ∀ o, (w1.alloc o).cell? ⟨w.heap.size + 1, 0, none⟩ = some (.int .i64 0) := fun o => K.alloc_cell (K.at_box h2 rfl) o
  have k4 : ∀ o, (w1.alloc o).cell? ⟨w.heap.size + 1, 1, none⟩ = some (.int .i64 0) := fun o => K.alloc_cell (K.at_box h2 rfl) o
  have g0 : ∀ o i, (w1.alloc o).frozen? ⟨w.heap.size, i, none⟩ = false := fun o i => K.alloc_free h1 o i
  have g1 : ∀ o i, (w1.alloc o).frozen? ⟨w.heap.size + 1, i, none⟩ = false := fun o i => K.alloc_free h2 o i
  clear b1 B1 HC h1 h2
  go_wp2
  go_region
  go_wp2
  refine bodyPost_ret (v := .tuple #[.agg #[.bool false, .slice none 0 0, .slice none 0 0], .agg #[.int .i64 e1, .int .i64 e2]]) (by simp [results, Try.results16, go_sem, *]) rfl ?_
  exact ⟨rfl, (V.five (HB2.out _) (Nat.le_refl _) (by omega) _ _ _ _ _).drew⟩

set_option maxHeartbeats 4000000 in
theorem back_bad (w : World) (v : Value) (l : List R.Part) (R0 : R.Pts w v l) (hbad : (V.varsF l).1.1 ≠ 0) :
    Calls Try.prog 19 #[v] w fun e w' => e = .returned (.tuple #[.agg #[.bool false, .slice none 0 0, .slice none 0 0], .agg #[.int .i64 (V.varsF l).1.1, .int .i64 (V.varsF l).1.2]]) ∧ Below w.heap.size w w' := by
  have HA : Hid (∀ o1 o2, Below w.heap.size w ((w.alloc o1).alloc o2)) := fun o1 o2 => ((Below.refl _ w).alloc (Nat.le_refl _) o1).alloc (by simp) o2
  have HC : Hid (∀ o1 o2, Calls Try.prog 35 #[v] ((w.alloc o1).alloc o2) fun e w' => e = .returned (.tuple #[.map none, .agg #[.int .i64 (V.varsF l).1.1, .int .i64 (V.varsF l).1.2]]) ∧ Below ((w.alloc o1).alloc o2).heap.size ((w.alloc o1).alloc o2) w') := fun o1 o2 =>
    (variables_any _ _ l (R0.below (HA.out _ _))).mono fun e w' ⟨h1, h2⟩ => ⟨h1.elim (fun h => absurd h.1 hbad) fun h => h.2, h2⟩
  obtain ⟨ao, cap, rfl⟩ := R0.len
  obtain ⟨⟨⟨e1, e2⟩, kn⟩, he⟩ : ∃ o, V.varsF l = o := ⟨_, rfl⟩
  rw [he] at HC hbad ⊢
  simp only at HC hbad ⊢
  clear he R0
  go_enter Try.func19, Try.ntmps19
  go_wp2_with fail
  refine (HC.out _ _).mono ?_
  rintro e w1 ⟨rfl, b1⟩
  obtain ⟨h1, h2, B1, s1⟩ := K.two_boxes b1
  have HB2 : Hid (∀ o, Below w.heap.size w (w1.alloc o)) := fun o => B1.alloc (by omega) o
  have k0 : ∀ o, (w1.alloc o).cell? ⟨w.heap.size, 0, none⟩ = some (.bool false) := fun o => K.alloc_cell (K.at_box h1 rfl) o
  have k1 : ∀ o, (w1.alloc o).cell? ⟨w.heap.size, 1, none⟩ = some (.slice none 0 0) := fun o => K.alloc_cell (K.at_box h1 rfl) o
  have k2 : ∀ o, (w1.alloc o).cell? ⟨w.heap.size, 2, none⟩ = some (.slice none 0 0) := fun o => K.alloc_cell (K.at_box h1 rfl) o
  have k3 : ∀ o, (w1.alloc o).cell? ⟨w.heap.size + 1, 0, none⟩ = some (.int .i64 0) := fun o => K.alloc_cell (K.at_box h2 rfl) o
  have k4 : ∀ o, (w1.alloc o).cell? ⟨w.heap.size + 1, 1, none⟩ = some (.int .i64 0) := fun o => K.alloc_cell (K.at_box h2 rfl) o
  have g0 : ∀ o i, (w1.alloc o).frozen? ⟨w.heap.size, i, none⟩ = false := fun o i => K.alloc_free h1 o i
  have g1 : ∀ o i, (w1.alloc o).frozen? ⟨w.heap.size + 1, i, none⟩ = false := fun o i => K.alloc_free h2 o i
  clear b1 B1 HC h1 h2
  go_wp2
  go_region
  go_wp2
  refine bodyPost_ret (v := .tuple #[.agg #[.bool false, .slice none 0 0, .slice none 0 0], .agg #[.int .i64 e1, .int .i64 e2]]) (by simp [results, Try.results19, go_sem, *]) rfl ?_
  exact ⟨rfl, (V.five (HB2.out _) (Nat.le_refl _) (by omega) _ _ _ _ _).drew⟩

end Go.Proofs.Ytchkcjaahjhbcaa
