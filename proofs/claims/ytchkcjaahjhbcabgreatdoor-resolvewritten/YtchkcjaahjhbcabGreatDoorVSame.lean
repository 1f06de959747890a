/-
  What scriptref2.Same answers (for seats without the package sets at whole).
-/
import Derived.Test.YtchkcjaahjhbcabGreatDoorSWrong
import Derived.Test.YtchkcjaahjhbcabGreatDoorVLib
import Derived.Test.YtchkcjaahjhbcabGreatDoorVRun
import Derived.Deep.RegionHeld3
import Derived.BigRegion
namespace Go.Proofs.YtchkcjaahjhbcabGreatDoor
open Go.RowKit
set_option maxRecDepth 20000

theorem take_eq_snocV {a b : List S.Sp} {k : Nat} {x y : S.Sp} (h : a.take k = b.take k) (hx : a[k]? = some x) (hy : b[k]? = some y) (e : x = y) : a.take (k + 1) = b.take (k + 1) := by
  rw [List.take_add_one, List.take_add_one, h, hx, hy, e]

set_option maxHeartbeats 1000000 in
theorem ssame_any (w : World) (va vb : Value) (za zb : List S.Sp) (ha : S.Rd w va za) (hb : S.Rd w vb zb) (hla : za.length ≤ 4611686018427387903) (hlb : zb.length ≤ 4611686018427387903) :
    Calls Tryz.prog 25 #[va, vb] w fun e w' => e = .returned (.bool (decide (za = zb))) ∧ Below w.heap.size w w' := by
  obtain ⟨ao, ca, rfl, _, ha⟩ := ha
  obtain ⟨bo, cb, rfl, _, hb⟩ := hb
  by_cases hl : za.length = zb.length
  · go_enter Tryz.func25, Tryz.ntmps25
    go_wp2
    go_loopw [13] (fun i wr => ∃ k n : Nat, k ≤ za.length ∧ i = .int .i64 k ∧ za.take k = zb.take k ∧ wr = w.drewN n) (fun i _ => za.length - (RowKit.intOf i).toNat)
    case atStart => exact ⟨0, 0, Nat.zero_le _, rfl, by simp, rfl⟩
    case round =>
      obtain ⟨k, n, hk, rfl, ht, rfl⟩ := hrel
      by_cases hlt : k < za.length
      · obtain ⟨b1, o1, rfl, hc1⟩ := ha (by intro h; subst h; simp at hlt)
        obtain ⟨b2, o2, rfl, hc2⟩ := hb (by intro h; subst h; simp at hl; rw [hl] at hlt; simp at hlt)
        obtain ⟨x, hx⟩ : ∃ x, za[k]? = some x := ⟨za[k], by simp [hlt]⟩
        obtain ⟨y, hy⟩ : ∃ y, zb[k]? = some y := ⟨zb[k]'(by omega), by simp [show k < zb.length by omega]⟩
        have c1 := (hc1 k x hx).1
        have c2 := (hc1 k x hx).2
        have d1 := (hc2 k y hy).1
        have d2 := (hc2 k y hy).2
        clear hc1 hc2 ha hb
        have HX : Hid (za[k]? = some x ∧ zb[k]? = some y ∧ za.take k = zb.take k) := ⟨hx, hy, ht⟩
        clear hx hy ht
        obtain ⟨x1, x2⟩ := x
        obtain ⟨y1, y2⟩ := y
        simp only at c1 c2 d1 d2
        by_cases hxy : x1 = y1 ∧ x2 = y2
        · obtain ⟨rfl, rfl⟩ := hxy
          go_wp2
          go_quiet (fail)
          go_wp2
          go_roundw
          case rel => exact ⟨k + 1, _, by omega, by go_num, take_eq_snocV HX.out.2.2 HX.out.1 HX.out.2.1 rfl, rfl⟩
          case measure => simp [RowKit.intOf]; omega
        · have HN : Hid (za ≠ zb) := by
            intro e
            rw [e] at HX
            have h1 := HX.out.1
            rw [HX.out.2.1] at h1
            cases h1
            exact hxy ⟨rfl, rfl⟩
          by_cases hx1 : x1 = y1
          · have hx2 : ¬ x2 = y2 := fun e => hxy ⟨hx1, e⟩
            clear hxy
            go_wp2
            go_quiet (fail)
            go_wp2
            go_ret
            refine ⟨L.ret_bool ?_, below_drewN (below_drewN (Below.refl _ _) _) _⟩
            simp [HN.out]
          · clear hxy
            go_wp2
            go_quiet (fail)
            go_wp2
            go_ret
            refine ⟨L.ret_bool ?_, below_drewN (below_drewN (Below.refl _ _) _) _⟩
            simp [HN.out]
      · go_wp2
        go_ret
        refine ⟨L.ret_bool ?_, below_drewN (Below.refl _ _) _⟩
        rw [List.take_of_length_le (by omega), List.take_of_length_le (by omega)] at ht
        simp [ht]
  · go_enter Tryz.func25, Tryz.ntmps25
    go_wp2
    go_ret
    refine ⟨L.ret_bool ?_, Below.refl _ _⟩
    have : za ≠ zb := by intro e; exact hl (by rw [e])
    simp [this]

end Go.Proofs.YtchkcjaahjhbcabGreatDoor

/-
  Scripts that are the same: what the document's Same answers of them.
-/
namespace Go.Proofs.YtchkcjaahjhbcabGreatDoor
open Go.RowKit
set_option maxRecDepth 20000
set_option linter.unusedSimpArgs false
set_option linter.unusedVariables false

set_option maxHeartbeats 8000000 in
theorem vsets_eq (w : World) (va vb : Value) (l : List (List S.Sp)) (R1 : K.Ss w va l) (R2 : K.Ss w vb l) (hs : ∀ s ∈ l, s.length ≤ 140737488355328) :
    Calls Tryz.prog 43 #[va, vb] w fun e w' => e = .returned (.bool true) ∧ Below w.heap.size w w' := by
  have HR1 : Hid (K.Ss w va l) := R1
  have HR2 : Hid (K.Ss w vb l) := R2
  have HS : Hid (∀ s ∈ l, s.length ≤ 140737488355328) := hs
  have hl := R1.few
  obtain ⟨ao, ca, rfl⟩ := R1.len
  obtain ⟨bo, cb, rfl⟩ := R2.len
  clear R1 R2 hs
  go_enter Tryz.func43, Tryz.ntmps43
  go_wp2
  go_loopw [13] (fun i wr => ∃ k : Nat, k ≤ l.length ∧ i = .int .i64 k ∧ Hid (Below w.heap.size w wr)) (fun i _ => l.length - (RowKit.intOf i).toNat)
  case atStart => exact ⟨0, Nat.zero_le _, rfl, Below.refl _ w⟩
  case round =>
    obtain ⟨k, hk, rfl, HB⟩ := hrel
    by_cases hlt : k < l.length
    · obtain ⟨x, hx⟩ : ∃ x, l[k]? = some x := ⟨l[k], by simp [hlt]⟩
      obtain ⟨b, off, so, sc, rfl, c0, r1, _⟩ := (HR1.out.below HB.out).at hx
      obtain ⟨d, of2, so2, sc2, rfl, d0, r2, _⟩ := (HR2.out.below HB.out).at hx
      have hsl := HS.out x (List.mem_of_getElem? hx)
      have HSm : Hid (∀ W, Below wr.heap.size wr W → Calls Tryz.prog 25 #[.slice so x.length sc, .slice so2 x.length sc2] W fun e w' => e = .returned (.bool true) ∧ Below W.heap.size W w') := fun W hW => by
        refine (ssame_any W _ _ x x (r1.below hW (Nat.le_refl _)) (r2.below hW (Nat.le_refl _)) (by omega) (by omega)).mono ?_
        rintro e w' ⟨h1, h2⟩
        exact ⟨by rw [h1]; simp, h2⟩
      clear hx r1 r2
      have bD : Below wr.heap.size wr wr.drew := (Below.refl _ wr).drew
      have kp0 : wr.drew.cell? ⟨b, off + k, none⟩ = some (.slice so x.length sc) ∧ wr.drew.cell? ⟨d, of2 + k, none⟩ = some (.slice so2 x.length sc2) := ⟨c0, d0⟩
      go_wp2
      go_region_held3 (fun w' => w'.cell? ⟨b, off + k, none⟩ = some (.slice so x.length sc) ∧ w'.cell? ⟨d, of2 + k, none⟩ = some (.slice so2 x.length sc2))
        (first | with_reducible exact kp1 | with_reducible exact kp0 | go_keep)
        (first
          | (go_at_call 25; refine (HSm.out _ bD).mono ?_; rintro e w5 ⟨rfl, b5⟩; have kk := R.Keeps.of_below b5 (Nat.le_refl _); have kp1 : w5.cell? ⟨b, off + k, none⟩ = some (.slice so x.length sc) ∧ w5.cell? ⟨d, of2 + k, none⟩ = some (.slice so2 x.length sc2) := ⟨kk _ _ _ c0, kk _ _ _ d0⟩; have HB5 : Hid (Below wr.drew.heap.size wr.drew w5) := b5; clear b5 kk)
          | fail)
      all_goals clear kp0 kp1
      all_goals have HB6 : Hid (Below w.heap.size w w5) := (HB.out.trans (bD.mono HB.out.size)).trans (HB5.out.mono (HB.out.trans (bD.mono HB.out.size)).size)
      all_goals go_wp2
      all_goals go_roundw
      all_goals first
        | exact ⟨k + 1, by omega, by go_num, HB6⟩
        | (simp [RowKit.intOf]; omega)
    · go_wp2
      go_ret
      exact ⟨rfl, HB.out⟩

/-- small enough tg be held against each other -/
def V.SmallR (r : K.Rule) : Prop := (∀ s ∈ r.before, s.length ≤ 140737488355328) ∧ (∀ s ∈ r.source, s.length ≤ 140737488355328) ∧ (∀ s ∈ r.after, s.length ≤ 140737488355328)

set_option maxHeartbeats 8000000 in
theorem vrule_eq (w : World) (va vb : Value) (r : K.Rule) (R1 : K.RuIs w va r) (R2 : K.RuIs w vb r) (hs : V.SmallR r) :
    Calls Tryz.prog 26 #[va, vb] w fun e w' => e = .returned (.bool true) ∧ Below w.heap.size w w' := by
  obtain ⟨bo, bc, so, sc, ao, ac, tg, tc, rfl, i1, i2, i3, i4, i5, _⟩ := R1
  obtain ⟨bo', bc', so', sc', ao', ac', tg', tc', rfl, j1, j2, j3, j4, _, _⟩ := R2
  have H1 : Hid (∀ W, Below w.heap.size w W → Calls Tryz.prog 43 #[.slice bo r.before.length bc, .slice bo' r.before.length bc'] W fun e w' => e = .returned (.bool true) ∧ Below W.heap.size W w') := fun W hW => vsets_eq W _ _ r.before (i1.below hW) (j1.below hW) hs.1
  have H2 : Hid (∀ W, Below w.heap.size w W → Calls Tryz.prog 43 #[.slice so r.source.length sc, .slice so' r.source.length sc'] W fun e w' => e = .returned (.bool true) ∧ Below W.heap.size W w') := fun W hW => vsets_eq W _ _ r.source (i2.below hW) (j2.below hW) hs.2.1
  have H3 : Hid (∀ W, Below w.heap.size w W → Calls Tryz.prog 43 #[.slice ao r.after.length ac, .slice ao' r.after.length ac'] W fun e w' => e = .returned (.bool true) ∧ Below W.heap.size W w') := fun W hW => vsets_eq W _ _ r.after (i3.below hW) (j3.below hW) hs.2.2
  have H4 : Hid (∀ W, Below w.heap.size w W → Calls Tryz.prog 44 #[.slice tg r.target.length tc, .slice tg' r.target.length tc'] W fun e w' => e = .returned (.bool true) ∧ Below W.heap.size W w') := fun W hW => by
    refine (rsame_any W _ _ r.target r.target (i4.below hW (Nat.le_refl _)) (j4.below hW (Nat.le_refl _)) (by omega) (by omega)).mono ?_
    rintro e w' ⟨h1, h2⟩
    exact ⟨by rw [h1]; simp, h2⟩
  obtain ⟨st, fi, be, sr, af, ta, cu⟩ := r
  simp only at H1 H2 H3 H4
  clear i1 i2 i3 i4 i5 j1 j2 j3 j4 hs
  have hX : ((w.alloc (.cells #[.bool st, .bool fi, .slice bo be.length bc, .slice so sr.length sc, .slice ao af.length ac, .slice tg ta.length tc, .int .i64 cu] 54)).alloc (.cells #[.bool st, .bool fi, .slice bo' be.length bc', .slice so' sr.length sc', .slice ao' af.length ac', .slice tg' ta.length tc', .int .i64 cu] 54)).heap.size = w.heap.size + 2 := by simp
  have HX := K.two_boxes (Below.refl _ ((w.alloc (.cells #[.bool st, .bool fi, .slice bo be.length bc, .slice so sr.length sc, .slice ao af.length ac, .slice tg ta.length tc, .int .i64 cu] 54)).alloc (.cells #[.bool st, .bool fi, .slice bo' be.length bc', .slice so' sr.length sc', .slice ao' af.length ac', .slice tg' ta.length tc', .int .i64 cu] 54)))
  have HX1 : Hid _ := HX
  clear HX hX
  go_enter Tryz.func26, Tryz.ntmps26
  go_wp2_with fail
  refine (H1.out _ HX1.out.2.2.1).mono ?_
  rintro e w1 ⟨rfl, b1⟩
  have B1 := HX1.out.2.2.1.trans (b1.mono HX1.out.2.2.1.size)
  have y1 := K.blk_below HX1.out.1 b1
  have y2 := K.blk_below HX1.out.2.1 b1
  have p3 := K.at_box (i := 3) y1 rfl
  have q3 := K.at_box (i := 3) y2 rfl
  have HY : Hid _ := And.intro y1 (And.intro y2 B1)
  clear y1 y2 B1 b1
  go_wp2_with fail
  refine (H2.out _ HY.out.2.2).mono ?_
  rintro e w2 ⟨rfl, b2⟩
  have B2 := HY.out.2.2.trans (b2.mono HY.out.2.2.size)
  have y1 := K.blk_below HY.out.1 b2
  have y2 := K.blk_below HY.out.2.1 b2
  have p4 := K.at_box (i := 4) y1 rfl
  have q4 := K.at_box (i := 4) y2 rfl
  have HZ : Hid _ := And.intro y1 (And.intro y2 B2)
  clear y1 y2 B2 b2 p3 q3
  go_wp2_with fail
  refine (H3.out _ HZ.out.2.2).mono ?_
  rintro e w3 ⟨rfl, b3⟩
  have B3 := HZ.out.2.2.trans (b3.mono HZ.out.2.2.size)
  have y1 := K.blk_below HZ.out.1 b3
  have y2 := K.blk_below HZ.out.2.1 b3
  have p5 := K.at_box (i := 5) y1 rfl
  have q5 := K.at_box (i := 5) y2 rfl
  have HB3 : Hid (Below w.heap.size w w3) := B3
  clear y1 y2 B3 b3 p4 q4
  go_wp2_with fail
  refine (H4.out _ HB3.out).mono ?_
  rintro e w4 ⟨rfl, b4⟩
  have HB4 : Hid (Below w.heap.size w w4) := HB3.out.trans (b4.mono HB3.out.size)
  clear b4
  go_wp2
  go_ret
  exact ⟨rfl, HB4.out⟩

end Go.Proofs.YtchkcjaahjhbcabGreatDoor
