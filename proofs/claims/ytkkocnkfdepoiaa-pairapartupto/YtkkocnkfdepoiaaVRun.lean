/-
  Two texts, one behind the other: slices.Concat.
-/
import Derived.Test.YtkkocnkfdepoiaaMConcat
import Derived.Test.YtkkocnkfdepoiaaRows
import Derived.Test.YtkkocnkfdepoiaaFrame
import Derived.Deep.QuietTactic
import Derived.BigQuiet
namespace Go.Proofs.Ytkkocnkfdepoiaa
open Go.RowKit Go.Lib
set_option maxRecDepth 20000

set_option maxHeartbeats 4000000 in
theorem concat2_any (w : World) (b : Nat) (v1 v2 : Value) (z1 z2 : List Int) (c1 : w.cell? ⟨b, 0, none⟩ = some v1) (c2 : w.cell? ⟨b, 1, none⟩ = some v2) (R1 : L.Rd w v1 .i32 z1) (R2 : L.Rd w v2 .i32 z2) (hl : z1.length + z2.length ≤ 4000) :
    Calls Try.prog 80 #[.slice (some ⟨b, 0, none⟩) 2 2] w fun e w' => ∃ v, e = .returned v ∧ w'.ownsRow w.heap.size 21 1 v (z1 ++ z2).length ((z1 ++ z2).map (Value.int .i32)) ∧ Below w.heap.size w w' := by
  obtain ⟨i0, hi, hz0, hz1, hz2⟩ := info_parts Try.infoI32
  have HR1 : Hid (L.Rd w v1 .i32 z1) := R1
  have HR2 : Hid (L.Rd w v2 .i32 z2) := R2
  obtain ⟨a1, k1, rfl, _⟩ := R1
  obtain ⟨a2, k2, rfl, _⟩ := R2
  have hb := L.block_lt c1
  go_enter Try.func80, Try.ntmps80
  go_wp2
  refine wp_loop_rounds 3 ?_
  rw [rounds_succ]; go_wp2
  rw [rounds_succ]; go_wp2
  rw [rounds_succ]; go_wp2_with fail
  have hgr := grow_any w (z1.length + z2.length) (by omega)
  rw [Int.natCast_add] at hgr
  refine hgr.mono ?_
  clear hgr
  rintro e W ⟨v, rfl, own, hbl⟩
  have HO : Hid (W.ownsRow w.heap.size 21 1 v 0 []) := own
  have HB : Hid (Below w.heap.size w W) := hbl
  have d1 : W.cell? ⟨b, 0, none⟩ = some (.slice a1 z1.length k1) := by rw [hbl.cell (p := ⟨b, 0, none⟩) hb]; exact c1
  have d2 : W.cell? ⟨b, 1, none⟩ = some (.slice a2 z2.length k2) := by rw [hbl.cell (p := ⟨b, 1, none⟩) hb]; exact c2
  have HC2 : Hid (w.cell? ⟨b, 1, none⟩ = some (.slice a2 z2.length k2)) := c2
  clear own hbl c1 c2
  go_wp2
  refine wp_loop_rounds 3 ?_
  rw [rounds_succ]
  go_wp2_with (at_builtin; go_must (refine L.wpList_append_rd rfl _ _ 28 rfl w.heap.size 21 i0 .i32 4 Try.underlying28 hi hz0 hz1 hz2 _ _ _ rfl HO.out _ z1 rfl (HR1.out.below HB.out (Nat.le_refl _)) (by unfold maxLen; omega) (by omega) HB.out.size ?_; intro v' W1 own1 grown1))
  have HO1 : Hid (W1.ownsRow w.heap.size 21 1 v' (0 + z1.length) ([] ++ z1.map (Value.int .i32))) := own1
  have HB1 : Hid (Below w.heap.size w W1) := HB.out.grown grown1 HB.out.size fun k hk => (HO.out.lt k hk).1
  have f2 : W1.cell? ⟨b, 1, none⟩ = some (.slice a2 z2.length k2) := by rw [HB1.out.cell (p := ⟨b, 1, none⟩) hb]; exact HC2.out
  clear own1 grown1 d1 d2
  rw [rounds_succ]
  go_wp2_with (at_builtin; go_must (refine L.wpList_append_rd rfl _ _ 28 rfl w.heap.size 21 i0 .i32 4 Try.underlying28 hi hz0 hz1 hz2 _ _ _ rfl HO1.out _ z2 rfl (HR2.out.below HB1.out (Nat.le_refl _)) (by unfold maxLen; omega) (by omega) HB1.out.size ?_; intro v'' W2 own2 grown2))
  have HO2 : Hid (W2.ownsRow w.heap.size 21 1 v'' (0 + z1.length + z2.length) ([] ++ z1.map (Value.int .i32) ++ z2.map (Value.int .i32))) := own2
  have HB2 : Hid (Below w.heap.size w W2) := HB1.out.grown grown2 HB1.out.size fun k hk => (HO1.out.lt k hk).1
  clear own2 grown2 f2
  rw [rounds_succ]
  go_wp2
  go_ret
  refine ⟨_, rfl, ?_, HB2.out⟩
  have h := HO2.out
  rw [show 0 + z1.length + z2.length = (z1 ++ z2).length by simp, show [] ++ z1.map (Value.int .i32) ++ z2.map (Value.int .i32) = (z1 ++ z2).map (Value.int .i32) by simp] at h
  exact h

end Go.Proofs.Ytkkocnkfdepoiaa

/-
  What scriptref1.Same answers of two slices of runes: whether they read as the same list.
-/
namespace Go.Proofs.Ytkkocnkfdepoiaa
open Go.RowKit

theorem take_eq_snoc {a b : List Int} {k : Nat} {x y : Int} (h : a.take k = b.take k) (hx : a[k]? = some x) (hy : b[k]? = some y) (e : x = y) : a.take (k + 1) = b.take (k + 1) := by
  rw [List.take_add_one, List.take_add_one, h, hx, hy, e]

set_option maxHeartbeats 400000 in
theorem rsame_any (w : World) (va vb : Value) (za zb : List Int) (ha : L.Rd w va .i32 za) (hb : L.Rd w vb .i32 zb) (hla : za.length ≤ 4611686018427387903) (hlb : zb.length ≤ 4611686018427387903) :
    Calls Try.prog 11 #[va, vb] w fun e w' => e = .returned (.bool (decide (za = zb))) ∧ Below w.heap.size w w' := by
  obtain ⟨ao, ca, rfl, _, ha⟩ := ha
  obtain ⟨bo, cb, rfl, _, hb⟩ := hb
  by_cases hl : za.length = zb.length
  · go_enter Try.func11, Try.ntmps11
    go_wp2
    go_loopw [13] (fun i wr => ∃ k n : Nat, k ≤ za.length ∧ i = .int .i64 k ∧ za.take k = zb.take k ∧ wr = w.drewN n) (fun i _ => za.length - (intOf i).toNat)
    case atStart => exact ⟨0, 0, Nat.zero_le _, rfl, by simp, rfl⟩
    case round =>
      obtain ⟨k, n, hk, rfl, ht, rfl⟩ := hrel
      by_cases hlt : k < za.length
      · obtain ⟨b1, o1, rfl, hc1⟩ := ha (by intro h; subst h; simp at hlt)
        obtain ⟨b2, o2, rfl, hc2⟩ := hb (by intro h; subst h; simp at hl; rw [hl] at hlt; simp at hlt)
        obtain ⟨x, hx⟩ : ∃ x, za[k]? = some x := ⟨za[k], by simp [hlt]⟩
        obtain ⟨y, hy⟩ : ∃ y, zb[k]? = some y := ⟨zb[k]'(by omega), by simp [show k < zb.length by omega]⟩
        have c1 := hc1 k x hx
        have c2 := hc2 k y hy
        clear hc1 hc2 ha hb
        have HX : Hid (za[k]? = some x ∧ zb[k]? = some y ∧ za.take k = zb.take k) := ⟨hx, hy, ht⟩
        clear hx hy ht
        by_cases hxy : x = y
        · go_wp2
          go_quiet (fail)
          go_wp2
          go_roundw
          case rel => exact ⟨k + 1, _, by omega, by go_num, take_eq_snoc HX.out.2.2 HX.out.1 HX.out.2.1 hxy, rfl⟩
          case measure => simp [intOf]; omega
        · go_wp2
          go_quiet (fail)
          go_wp2
          go_ret
          refine ⟨L.ret_bool ?_, below_drewN (below_drewN (Below.refl _ _) _) _⟩
          have : za ≠ zb := by
            intro e
            rw [e] at HX
            have h1 := HX.out.1
            rw [HX.out.2.1] at h1
            exact hxy (Option.some.inj h1).symm
          simp [this]
      · go_wp2
        go_ret
        refine ⟨L.ret_bool ?_, below_drewN (Below.refl _ _) _⟩
        rw [List.take_of_length_le (by omega), List.take_of_length_le (by omega)] at ht
        simp [ht]
  · go_enter Try.func11, Try.ntmps11
    go_wp2
    go_ret
    refine ⟨L.ret_bool ?_, Below.refl _ _⟩
    have : za ≠ zb := by intro e; exact hl (by rw [e])
    simp [this]

end Go.Proofs.Ytkkocnkfdepoiaa
