/-
  What slices.Concat makes of three slices of runes.
-/
import Derived.Test.YtkkocnkfdepoiaaSLib
import Derived.Lib.AppendZerosOnto
import Derived.Lib.Walk
namespace Go.Proofs.Ytkkocnkfdepoiaa
open Go.RowKit Go.Lib
set_option maxRecDepth 20000

set_option maxHeartbeats 2000000 in
theorem grow_any (w : World) (n : Nat) (hn : n ≤ 8000) :
    Calls Try.prog 91 #[.slice none 0 0, .int .i64 n] w fun e w' => ∃ v, e = .returned v ∧ w'.ownsRow w.heap.size 21 1 v 0 [] ∧ Below w.heap.size w w' := by
  by_cases h0 : n = 0
  · subst h0
    go_enter Try.func91, Try.ntmps91
    go_wp2
    go_ret
    exact ⟨_, rfl, World.ownsRow_nil _ _ _ _, Below.refl _ _⟩
  · obtain ⟨i0, hi, hz0, hz1, hz2⟩ := info_parts Try.infoI32
    have hG : n ≤ grownCap w n 0 21 := grownCap_ge w _ _ _
    have hG63 := grownCap_le_maxLen w n 0 21 (by unfold maxLen; omega)
    have hrz : ∀ ty, (Builtin.append_ #[28, 3] ty #[.slice none 0 0, .int .i64 (n : Int)]).run Try.prog w =
        .ok (.slice (some ⟨w.heap.size, 0, none⟩) n (grownCap w n 0 21)) (w.drew.alloc (.cells (([] : List Value).toArray ++ Builtin.zeroCells (Value.int .i32 0).cells n ++ Builtin.zeroCells (Value.int .i32 0).cells (grownCap w n 0 21 - n)) 21)) := fun ty => by
      have h := Lib.run_append_grow_zeros w 28 3 ty 21 i0 (.int .i32 0) .i64 .i64 Try.underlying28 Try.underlying3 hi hz0 none 0 0 [] (run_firstCells_none w.drew i0.size 0 0 0) n (by omega) (by omega) (by omega) (by omega)
        (by rw [hz2]; omega) (by rw [hz2]; exact growslice_fits (by omega) (by omega))
      simpa using h
    obtain ⟨Gc, hGc⟩ : ∃ Gc, Gc = grownCap w n 0 21 := ⟨_, rfl⟩
    rw [← hGc] at hrz hG hG63
    have HO : Hid ((w.drew.alloc (.cells (([] : List Value).toArray ++ Builtin.zeroCells (Value.int .i32 0).cells n ++ Builtin.zeroCells (Value.int .i32 0).cells (Gc - n)) 21)).ownsRow w.heap.size 21 1 (.slice (some ⟨w.heap.size, 0, none⟩) 0 Gc) 0 []) :=
      World.ownsRow_made w.drew _ Gc (Nat.le_refl _) hG63 (by simp [Builtin.zeroCells, Value.cells]; omega)
    have HB : Hid (Below w.heap.size w (w.drew.alloc (.cells (([] : List Value).toArray ++ Builtin.zeroCells (Value.int .i32 0).cells n ++ Builtin.zeroCells (Value.int .i32 0).cells (Gc - n)) 21))) := (Below.refl _ w).drew.alloc (Nat.le_refl _) _
    generalize (w.drew.alloc (.cells (([] : List Value).toArray ++ Builtin.zeroCells (Value.int .i32 0).cells n ++ Builtin.zeroCells (Value.int .i32 0).cells (Gc - n)) 21)) = W at *
    unfold maxLen at hG63
    clear hGc
    go_enter Try.func91, Try.ntmps91
    go_wp2_with (at_builtin; refine Lib.wpList_append_run _ rfl _ _ _ _ rfl _ _ rfl rfl _ _ (hrz _) ?_)
    all_goals
      go_ret
      exact ⟨_, rfl, HO.out, HB.out⟩

set_option maxHeartbeats 4000000 in
theorem concat3_any (w : World) (b : Nat) (v1 v2 v3 : Value) (z1 z2 z3 : List Int) (c1 : w.cell? ⟨b, 0, none⟩ = some v1) (c2 : w.cell? ⟨b, 1, none⟩ = some v2) (c3 : w.cell? ⟨b, 2, none⟩ = some v3) (R1 : L.Rd w v1 .i32 z1) (R2 : L.Rd w v2 .i32 z2) (R3 : L.Rd w v3 .i32 z3) (hl : z1.length + z2.length + z3.length ≤ 4000) :
    Calls Try.prog 80 #[.slice (some ⟨b, 0, none⟩) 3 3] w fun e w' => ∃ v, e = .returned v ∧ w'.ownsRow w.heap.size 21 1 v (z1 ++ z2 ++ z3).length ((z1 ++ z2 ++ z3).map (Value.int .i32)) ∧ Below w.heap.size w w' := by
  obtain ⟨i0, hi, hz0, hz1, hz2⟩ := info_parts Try.infoI32
  have HR1 : Hid (L.Rd w v1 .i32 z1) := R1
  have HR2 : Hid (L.Rd w v2 .i32 z2) := R2
  have HR3 : Hid (L.Rd w v3 .i32 z3) := R3
  obtain ⟨a1, k1, rfl, _⟩ := R1
  obtain ⟨a2, k2, rfl, _⟩ := R2
  obtain ⟨a3, k3, rfl, _⟩ := R3
  have hb := L.block_lt c1
  go_enter Try.func80, Try.ntmps80
  go_wp2
  refine wp_loop_rounds 4 ?_
  rw [rounds_succ]; go_wp2
  rw [rounds_succ]; go_wp2
  rw [rounds_succ]; go_wp2
  rw [rounds_succ]; go_wp2_with fail
  have hgr := grow_any w (z1.length + z2.length + z3.length) (by omega)
  rw [Int.natCast_add, Int.natCast_add] at hgr
  refine hgr.mono ?_
  clear hgr
  rintro e W ⟨v, rfl, own, hbl⟩
  have HO : Hid (W.ownsRow w.heap.size 21 1 v 0 []) := own
  have HB : Hid (Below w.heap.size w W) := hbl
  have d1 : W.cell? ⟨b, 0, none⟩ = some (.slice a1 z1.length k1) := by rw [hbl.cell (p := ⟨b, 0, none⟩) hb]; exact c1
  have HC2 : Hid (w.cell? ⟨b, 1, none⟩ = some (.slice a2 z2.length k2)) := c2
  have HC3 : Hid (w.cell? ⟨b, 2, none⟩ = some (.slice a3 z3.length k3)) := c3
  clear own hbl c1 c2 c3
  go_wp2
  refine wp_loop_rounds 4 ?_
  rw [rounds_succ]
  go_wp2_with (at_builtin; go_must (refine L.wpList_append_rd rfl _ _ 28 rfl w.heap.size 21 i0 .i32 4 Try.underlying28 hi hz0 hz1 hz2 _ _ _ rfl HO.out _ z1 rfl (HR1.out.below HB.out (Nat.le_refl _)) (by unfold maxLen; omega) (by omega) HB.out.size ?_; intro v' W1 own1 grown1))
  have HO1 : Hid (W1.ownsRow w.heap.size 21 1 v' (0 + z1.length) ([] ++ z1.map (Value.int .i32))) := own1
  have HB1 : Hid (Below w.heap.size w W1) := HB.out.grown grown1 HB.out.size fun k hk => (HO.out.lt k hk).1
  have f2 : W1.cell? ⟨b, 1, none⟩ = some (.slice a2 z2.length k2) := by rw [HB1.out.cell (p := ⟨b, 1, none⟩) hb]; exact HC2.out
  clear own1 grown1 d1
  rw [rounds_succ]
  go_wp2_with (at_builtin; go_must (refine L.wpList_append_rd rfl _ _ 28 rfl w.heap.size 21 i0 .i32 4 Try.underlying28 hi hz0 hz1 hz2 _ _ _ rfl HO1.out _ z2 rfl (HR2.out.below HB1.out (Nat.le_refl _)) (by unfold maxLen; omega) (by omega) HB1.out.size ?_; intro v'' W2 own2 grown2))
  have HO2 : Hid (W2.ownsRow w.heap.size 21 1 v'' (0 + z1.length + z2.length) ([] ++ z1.map (Value.int .i32) ++ z2.map (Value.int .i32))) := own2
  have HB2 : Hid (Below w.heap.size w W2) := HB1.out.grown grown2 HB1.out.size fun k hk => (HO1.out.lt k hk).1
  have f3 : W2.cell? ⟨b, 2, none⟩ = some (.slice a3 z3.length k3) := by rw [HB2.out.cell (p := ⟨b, 2, none⟩) hb]; exact HC3.out
  clear own2 grown2 f2
  rw [rounds_succ]
  go_wp2_with (at_builtin; go_must (refine L.wpList_append_rd rfl _ _ 28 rfl w.heap.size 21 i0 .i32 4 Try.underlying28 hi hz0 hz1 hz2 _ _ _ rfl HO2.out _ z3 rfl (HR3.out.below HB2.out (Nat.le_refl _)) (by unfold maxLen; omega) (by omega) HB2.out.size ?_; intro v3 W3 own3 grown3))
  have HO3 : Hid (W3.ownsRow w.heap.size 21 1 v3 (0 + z1.length + z2.length + z3.length) ([] ++ z1.map (Value.int .i32) ++ z2.map (Value.int .i32) ++ z3.map (Value.int .i32))) := own3
  have HB3 : Hid (Below w.heap.size w W3) := HB2.out.grown grown3 HB2.out.size fun k hk => (HO2.out.lt k hk).1
  clear own3 grown3 f3
  rw [rounds_succ]
  go_wp2
  go_ret
  refine ⟨_, rfl, ?_, HB3.out⟩
  have h := HO3.out
  rw [show 0 + z1.length + z2.length + z3.length = (z1 ++ z2 ++ z3).length by simp only [List.length_append]; omega, show [] ++ z1.map (Value.int .i32) ++ z2.map (Value.int .i32) ++ z3.map (Value.int .i32) = (z1 ++ z2 ++ z3).map (Value.int .i32) by simp] at h
  exact h

end Go.Proofs.Ytkkocnkfdepoiaa

/-
  Two texts, one behind the other: slices.Concat.
-/
namespace Go.Proofs.Ytkkocnkfdepoiaa
open Go.RowKit Go.Lib
set_option maxRecDepth 20000

set_option maxHeartbeats 4000000 in
theorem concat2_any (w : World) (b : Nat) (v1 v2 : Value) (z1 z2 : List Int) (c1 : w.cell? ⟨b, 0, none⟩ = some v1) (c2 : w.cell? ⟨b, 1, none⟩ = some v2) (R1 : L.Rd w v1 .i32 z1) (R2 : L.Rd w v2 .i32 z2) (hl : z1.length + z2.length ≤ 4000) :
    Calls Try.prog 80 #[.slice (some ⟨b, 0, none⟩) 2 2] w fun e w' => ∃ v, e = .returned v ∧ w'.ownsRow w.heap.size 21 1 v (z1 ++ z2).length ((z1 ++ z2).map (Value.int .i32)) ∧ Below w.heap.size w w' := by
  obtain ⟨i0, hi, hz0, hz1, hz2⟩ := info_parts Try.infoI32
  have HR1 : Hid (L.Rd w v1 .i32 z1) := R1
  have HR2 : Hid (L.Rd w v2 .i32 z2) := R2
  obtain ⟨a1, k1, rfl, _⟩ := R1
  obtain ⟨a2, k2, rfl, _⟩ := R2
  have hb := L.block_lt c1
  go_enter Try.func80, Try.ntmps80
  go_wp2
  refine wp_loop_rounds 3 ?_
  rw [rounds_succ]; go_wp2
  rw [rounds_succ]; go_wp2
  rw [rounds_succ]; go_wp2_with fail
  have hgr := grow_any w (z1.length + z2.length) (by omega)
  rw [Int.natCast_add] at hgr
  refine hgr.mono ?_
  clear hgr
  rintro e W ⟨v, rfl, own, hbl⟩
  have HO : Hid (W.ownsRow w.heap.size 21 1 v 0 []) := own
  have HB : Hid (Below w.heap.size w W) := hbl
  have d1 : W.cell? ⟨b, 0, none⟩ = some (.slice a1 z1.length k1) := by rw [hbl.cell (p := ⟨b, 0, none⟩) hb]; exact c1
  have d2 : W.cell? ⟨b, 1, none⟩ = some (.slice a2 z2.length k2) := by rw [hbl.cell (p := ⟨b, 1, none⟩) hb]; exact c2
  have HC2 : Hid (w.cell? ⟨b, 1, none⟩ = some (.slice a2 z2.length k2)) := c2
  clear own hbl c1 c2
  go_wp2
  refine wp_loop_rounds 3 ?_
  rw [rounds_succ]
  go_wp2_with (at_builtin; go_must (refine L.wpList_append_rd rfl _ _ 28 rfl w.heap.size 21 i0 .i32 4 Try.underlying28 hi hz0 hz1 hz2 _ _ _ rfl HO.out _ z1 rfl (HR1.out.below HB.out (Nat.le_refl _)) (by unfold maxLen; omega) (by omega) HB.out.size ?_; intro v' W1 own1 grown1))
  have HO1 : Hid (W1.ownsRow w.heap.size 21 1 v' (0 + z1.length) ([] ++ z1.map (Value.int .i32))) := own1
  have HB1 : Hid (Below w.heap.size w W1) := HB.out.grown grown1 HB.out.size fun k hk => (HO.out.lt k hk).1
  have f2 : W1.cell? ⟨b, 1, none⟩ = some (.slice a2 z2.length k2) := by rw [HB1.out.cell (p := ⟨b, 1, none⟩) hb]; exact HC2.out
  clear own1 grown1 d1 d2
  rw [rounds_succ]
  go_wp2_with (at_builtin; go_must (refine L.wpList_append_rd rfl _ _ 28 rfl w.heap.size 21 i0 .i32 4 Try.underlying28 hi hz0 hz1 hz2 _ _ _ rfl HO1.out _ z2 rfl (HR2.out.below HB1.out (Nat.le_refl _)) (by unfold maxLen; omega) (by omega) HB1.out.size ?_; intro v'' W2 own2 grown2))
  have HO2 : Hid (W2.ownsRow w.heap.size 21 1 v'' (0 + z1.length + z2.length) ([] ++ z1.map (Value.int .i32) ++ z2.map (Value.int .i32))) := own2
  have HB2 : Hid (Below w.heap.size w W2) := HB1.out.grown grown2 HB1.out.size fun k hk => (HO1.out.lt k hk).1
  clear own2 grown2 f2
  rw [rounds_succ]
  go_wp2
  go_ret
  refine ⟨_, rfl, ?_, HB2.out⟩
  have h := HO2.out
  rw [show 0 + z1.length + z2.length = (z1 ++ z2).length by simp, show [] ++ z1.map (Value.int .i32) ++ z2.map (Value.int .i32) = (z1 ++ z2).map (Value.int .i32) by simp] at h
  exact h

end Go.Proofs.Ytkkocnkfdepoiaa
