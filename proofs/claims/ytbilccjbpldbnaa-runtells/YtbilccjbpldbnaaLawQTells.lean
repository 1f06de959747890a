/-
  scriptlaw8.RunTells: it returns true.
-/
import Derived.Test.YtbilccjbpldbnaaQRef
import Derived.Test.YtbilccjbpldbnaaQMath2
import Derived.Test.YtbilccjbpldbnaaSame
namespace Go.Proofs.Ytbilccjbpldbnaa
open Go.RowKit
set_option maxRecDepth 20000
set_option linter.unusedSimpArgs false
set_option linter.unusedVariables false

namespace K
/-- runes don't lie in a box of two numbers -/
theorem rd_ne {w : World} {v : Value} {zs : List Int} {b : Nat} {x y : Int} {ty : TypeId} (h : L.Rd w v .i32 zs) (hb : w.heap[b]? = some (.cells #[.int .i64 x, .int .i64 y] ty)) (hz : zs ≠ []) : ∀ k, v.ownBlock = some k → k ≠ b := by
  obtain ⟨ao, cap, rfl, hn, hc⟩ := h
  obtain ⟨b', off, rfl, hcell⟩ := hc hz
  intro k hk e
  have : b' = k := by simpa [Value.ownBlock] using hk
  subst this e
  obtain ⟨z, hz2⟩ : ∃ z, zs[0]? = some z := ⟨zs[0]'(List.length_pos_iff.2 hz), by simp⟩
  have hc0 := hcell 0 z hz2
  rw [World.cell?] at hc0
  simp only [show w.heap[b']? = _ from hb] at hc0
  simp at hc0
  have hlt := (List.getElem?_eq_some_iff.1 hc0).1
  match off, hc0 with
  | 0, hc0 => simp at hc0
  | 1, hc0 => simp at hc0
  | n + 2, _ => simp at hlt; omega
theorem set2 {w : World} {b : Nat} {x y : Value} {ty : TypeId} (hb : w.heap[b]? = some (.cells #[x, y] ty)) (x' y' : Value) : ((w.setCell ⟨b, 0, none⟩ x').setCell ⟨b, 1, none⟩ y').heap[b]? = some (.cells #[x', y'] ty) := heap_setCell_same _ b 1 _ _ y' (heap_setCell_same w b 0 _ _ x' hb)
end K

set_option maxHeartbeats 8000000 in
theorem runTells_any (w : World) (vl : Value) (l : List K.Rule) (R0 : V.Rus w vl l) (vt : Value) (t : List Int) (Rt : L.Rd w vt .i32 t) (ht : t.length ≤ 140737488355328) (k : Int) (hk : K.I64 k) :
    Calls Try.prog 6 #[vl, vt, .int .i64 k] w fun e w' => e = .returned (.bool true) ∧ Below w.heap.size w w' := by
  have HW : Hid (∀ X, Below w.heap.size w X → Calls Try.prog 15 #[vl] X fun e w' => e = .returned (.agg #[.int .i64 (K.rulesF l).1, .int .i64 (K.rulesF l).2]) ∧ Below X.heap.size X w') := fun X hX => qWrong_any X _ l (R0.below hX)
  have HV : Hid (∀ X, Below w.heap.size w X → Calls Try.prog 16 #[vl] X fun e w' => e = .returned (.agg #[.int .i64 (K.rulesF l).1, .int .i64 (K.rulesF l).2]) ∧ Below X.heap.size X w') := fun X hX => rWrong8_any X _ l (R0.below hX)
  have HC : Hid (∀ X, Below w.heap.size w X → Calls Try.prog 17 #[vl, vt] X fun e w' => e = .returned (.agg #[.int .i64 (K.checkF l t).1, .int .i64 (K.checkF l t).2]) ∧ Below X.heap.size X w') := fun X hX => rCheck_any X _ l (R0.below hX) vt t (Rt.below hX (Nat.le_refl _)) ht
  have HQ : Hid (∀ X, Below w.heap.size w X → Calls Try.prog 18 #[vl, vt, .int .i64 k] X fun e w' => e = .returned (.tuple #[.int .i64 (K.whichF l t k).1, .agg #[.int .i64 (K.whichF l t k).2.1, .int .i64 (K.whichF l t k).2.2]]) ∧ Below X.heap.size X w') := fun X hX => qWhich_any X _ l (R0.below hX) vt t (Rt.below hX (Nat.le_refl _)) ht k hk
  have HF : Hid ((K.checkF l t).1 = 0 → 0 ≤ k → k ≤ t.length → ∀ X, Below w.heap.size w X → Calls Try.prog 19 #[vl, vt, .int .i64 k] X fun e w' => e = .returned (.int .i64 (K.which l t k)) ∧ Below X.heap.size X w') := fun h0 h1 h2 X hX => by
    obtain ⟨z1, z2, _⟩ := K.checkF_zero h0
    obtain ⟨y1, y2, _⟩ := K.rulesF_zero z1
    exact rWhich8_any X vl l (R0.below hX) y1 y2 vt t (Rt.below hX (Nat.le_refl _)) (K.textE_zero z2) k h1 h2
  have HA : Hid (∀ X, Below w.heap.size w X → Calls Try.prog 20 #[vl, vt] X fun e w' => ∃ v', e = .returned (.tuple #[.agg #[v', .int .i64 (K.runF l t).1.2.1, .int .i64 (K.runF l t).1.2.2], .agg #[.int .i64 (K.runF l t).2.1, .int .i64 (K.runF l t).2.2]]) ∧ L.Rd w' v' .i32 (K.runF l t).1.1 ∧ Below X.heap.size X w') := fun X hX => qRun_any X _ l (R0.below hX) vt t (Rt.below hX (Nat.le_refl _)) ht
  have HB : Hid (∀ X, Below w.heap.size w X → Calls Try.prog 21 #[vl, vt] X fun e w' => ∃ v', e = .returned (.tuple #[.agg #[v', .int .i64 (K.runF l t).1.2.1, .int .i64 (K.runF l t).1.2.2], .agg #[.int .i64 (K.runF l t).2.1, .int .i64 (K.runF l t).2.2]]) ∧ L.Rd w' v' .i32 (K.runF l t).1.1 ∧ Below X.heap.size X w') := fun X hX => rRun8_any X _ l (R0.below hX) vt t (Rt.below hX (Nat.le_refl _)) ht
  have HLen : Hid ((K.runF l t).1.1.length ≤ 4000) := K.runF_len
  have hI1 : -9223372036854775808 ≤ k := hk.1
  have hI2 : k ≤ 9223372036854775807 := hk.2
  obtain ⟨ao, cap, rfl⟩ := R0.len
  obtain ⟨xo, xc, rfl, _⟩ := Rt
  obtain ⟨⟨⟨rt, rs, rp⟩, re, ra⟩, hrun⟩ : ∃ o, K.runF l t = o := ⟨_, rfl⟩
  rw [hrun] at HA HB HLen
  obtain ⟨⟨r1, r2⟩, hru⟩ : ∃ o, K.rulesF l = o := ⟨_, rfl⟩
  rw [hru] at HW HV
  obtain ⟨⟨q0, q1, q2⟩, hwh⟩ : ∃ o, K.whichF l t k = o := ⟨_, rfl⟩
  rw [hwh] at HQ
  unfold K.whichF at hwh
  obtain ⟨⟨c1, c2⟩, hch⟩ : ∃ o, K.checkF l t = o := ⟨_, rfl⟩
  have HC0 : Hid (c1 = 0 → c2 = 0) := fun h => by
    have h1 : (K.checkF l t).1 = 0 := by rw [hch]; exact h
    have h2 := (K.checkF_zero h1).2.2
    rw [hch] at h2
    exact (Prod.mk.inj h2).2
  rw [hch] at HC HF hwh
  generalize K.which l t k = wi at *
  simp only at HW HV HC HQ HF HA HB HLen hwh
  have HWH : Hid ((if c1 = 0 then (if k < 0 ∨ (t.length : Int) < k then ((0 : Int), (3 : Int), (0 : Int)) else (wi, 0, 0)) else (0, c1, c2)) = (q0, q1, q2)) := hwh
  clear hrun hru hwh hch R0 hk
  go_enter Try.func6, Try.ntmps6
  go_wp2_with fail
  refine (HW.out _ (Below.refl _ _)).mono ?_
  rintro e w1 ⟨rfl, b1⟩
  go_wp2_with fail
  refine (HV.out _ b1).mono ?_
  rintro e w2 ⟨rfl, b2⟩
  have HB2 : Hid (Below w.heap.size w w2) := b1.trans (b2.mono b1.size)
  clear b1 b2 HW HV
  go_wp2_with fail
  refine (HC.out _ HB2.out).mono ?_
  rintro e w3 ⟨rfl, b3⟩
  have HB3 : Hid (Below w.heap.size w w3) := HB2.out.trans (b3.mono HB2.out.size)
  have HS3 : Hid (w.heap.size ≤ w3.heap.size) := HB3.out.size
  have HB3a : Hid (∀ o, Below w.heap.size w (w3.alloc o)) := fun o => HB3.out.alloc HB3.out.size o
  clear b3 HC HB2
  go_wp2_with fail
  refine (HQ.out _ (HB3a.out _)).mono ?_
  rintro e w4 ⟨rfl, b4⟩
  obtain ⟨h7, b34, s4⟩ := K.one_box b4
  have HB4 : Hid (Below w.heap.size w w4) := HB3.out.trans (b34.mono HB3.out.size)
  clear b4 b34 HQ HB3a
  have l4 : w3.heap.size < w4.heap.size := (Array.getElem?_eq_some_iff.1 h7).1
  obtain ⟨y0, y1, fy0, fy1⟩ := K.box2 h7
  have k0 : ∀ o, (w4.alloc o).cell? ⟨w3.heap.size, 0, none⟩ = some (.int .i64 c1) := fun o => K.alloc_cell y0 o
  have k1 : ∀ o, (w4.alloc o).cell? ⟨w3.heap.size, 1, none⟩ = some (.int .i64 c2) := fun o => K.alloc_cell y1 o
  have g0 : ∀ o i, (w4.alloc o).frozen? ⟨w3.heap.size, i, none⟩ = false := fun o i => K.alloc_free h7 o i
  have hBal : ∀ o, Below w.heap.size w (w4.alloc o) := fun o => HB4.out.alloc HB4.out.size o
  have HBal : Hid (∀ o, Below w.heap.size w (w4.alloc o)) := hBal
  have hw := HWH.out
  clear hBal HB3
  by_cases hc : c1 = 0
  · have hc2 := HC0.out hc
    subst hc2
    by_cases hkr : k < 0 ∨ (t.length : Int) < k
    · rw [if_pos hc, if_pos hkr] at hw
      cases hw
      subst hc
      have HX9 : Hid ((((w4.setCell ⟨w3.heap.size, 0, none⟩ (.int .i64 3)).setCell ⟨w3.heap.size, 1, none⟩ (.int .i64 0)).alloc (.cells #[.int .i64 3, .int .i64 0] 29)).heap[w4.heap.size]? = some (.cells #[.int .i64 3, .int .i64 0] 29)) := by
        have h := heap_alloc_new ((w4.setCell ⟨w3.heap.size, 0, none⟩ (.int .i64 3)).setCell ⟨w3.heap.size, 1, none⟩ (.int .i64 0)) (.cells #[.int .i64 3, .int .i64 0] 29)
        rw [show ((w4.setCell ⟨w3.heap.size, 0, none⟩ (.int .i64 3)).setCell ⟨w3.heap.size, 1, none⟩ (.int .i64 0)).heap.size = w4.heap.size by simp] at h
        exact h
      have hs3 : w.heap.size ≤ w3.heap.size := HS3.out
      have HBX : Hid (Below w.heap.size w (((w4.setCell ⟨w3.heap.size, 0, none⟩ (.int .i64 3)).setCell ⟨w3.heap.size, 1, none⟩ (.int .i64 0)).alloc (.cells #[.int .i64 3, .int .i64 0] 29))) := ((HB4.out.setCell (p := ⟨w3.heap.size, 0, none⟩) hs3 _).setCell (p := ⟨w3.heap.size, 1, none⟩) hs3 _).alloc (by simp; omega) _
      by_cases hk1 : k < 0
      · clear hkr
        go_wp2_with fail
        refine (HA.out _ HBX.out).mono ?_
        rintro e x1 ⟨v1, rfl, d1, g1⟩
        obtain ⟨va, vc, rfl⟩ : ∃ va vc, v1 = .slice va rt.length vc := by obtain ⟨a, c, h, _⟩ := d1; exact ⟨a, c, h⟩
        have HB5 : Hid (Below w.heap.size w x1) := HBX.out.trans (g1.mono HBX.out.size)
        have h9a := K.blk_below HX9.out g1
        have l9 := (Array.getElem?_eq_some_iff.1 h9a).1
        obtain ⟨u0, u1, fu0, fu1⟩ := K.box2 h9a
        obtain ⟨Y0, hY0⟩ : ∃ Y0, Y0 = (x1.setCell ⟨w4.heap.size, 0, none⟩ (.int .i64 re)).setCell ⟨w4.heap.size, 1, none⟩ (.int .i64 ra) := ⟨_, rfl⟩
        obtain ⟨Y1, hY1⟩ : ∃ Y1, Y1 = ((x1.setCell ⟨w4.heap.size, 0, none⟩ (.int .i64 re)).setCell ⟨w4.heap.size, 1, none⟩ (.int .i64 ra)).alloc (.cells #[(.slice va rt.length vc), .int .i64 rs, .int .i64 rp] 55) := ⟨_, rfl⟩
        have hY1' : Y1 = Y0.alloc (.cells #[(.slice va rt.length vc), .int .i64 rs, .int .i64 rp] 55) := by rw [hY1, hY0]
        have e0 : Y0.heap[w4.heap.size]? = some (.cells #[.int .i64 re, .int .i64 ra] 29) := by rw [hY0]; exact K.set2 h9a _ _
        have hal : Below Y0.heap.size Y0 Y1 := by rw [hY1']; exact (Below.refl _ Y0).alloc (Nat.le_refl _) _
        have hsz : Y0.heap.size = x1.heap.size := by rw [hY0]; simp
        have e1 := K.blk_below e0 hal
        have e2 : Y1.heap[x1.heap.size]? = some (.cells #[(.slice va rt.length vc), .int .i64 rs, .int .i64 rp] 55) := by rw [← hsz, hY1']; exact heap_alloc_new Y0 _
        have dY : L.Rd Y1 (.slice va rt.length vc) .i32 rt := (K.rd_block d1 (w' := Y0) fun hz q hq => by
          have hne := K.rd_ne d1 h9a hz q hq
          rw [hY0, heap_setCell_other _ ⟨w4.heap.size, 1, none⟩ q _ (by simpa using hne), heap_setCell_other _ ⟨w4.heap.size, 0, none⟩ q _ (by simpa using hne)]).below hal (Nat.le_refl _)
        have bY : Below w.heap.size w Y1 := by
          rw [hY1]
          exact ((HB5.out.setCell (p := ⟨w4.heap.size, 0, none⟩) HB4.out.size _).setCell (p := ⟨w4.heap.size, 1, none⟩) HB4.out.size _).alloc (by simp; exact HB5.out.size) _
        have HY : Hid (Y1.heap[w4.heap.size]? = some (.cells #[.int .i64 re, .int .i64 ra] 29) ∧ Y1.heap[x1.heap.size]? = some (.cells #[(.slice va rt.length vc), .int .i64 rs, .int .i64 rp] 55) ∧ L.Rd Y1 (.slice va rt.length vc) .i32 rt ∧ Below w.heap.size w Y1) := ⟨e1, e2, dY, bY⟩
        have HRun := HB.out Y1 bY
        clear d1 g1 HB5 hY0 hY1' e0 hal hsz e1 e2 dY bY h9a HA HBX HX9
        go_wp2_with fail
        rw [← hY1]
        refine HRun.mono ?_
        rintro e x2 ⟨v2, rfl, d2, g2⟩
        obtain ⟨va2, vc2, rfl⟩ : ∃ va vc, v2 = .slice va rt.length vc := by obtain ⟨a, c, h, _⟩ := d2; exact ⟨a, c, h⟩
        have p1 := K.blk_below HY.out.1 g2
        have p2 := K.blk_below HY.out.2.1 g2
        have HZ : Hid (Below w.heap.size w x2) := HY.out.2.2.2.trans (g2.mono HY.out.2.2.2.size)
        have HZa : Hid (∀ o1 o2, Below x2.heap.size x2 ((x2.alloc o1).alloc o2)) := fun o1 o2 => ((Below.refl _ x2).alloc (Nat.le_refl _) o1).alloc (by simp) o2
        have HSm : Hid (∀ o1 o2, Calls Try.prog 22 #[(.slice va rt.length vc), (.slice va2 rt.length vc2)] ((x2.alloc o1).alloc o2) fun e w' => e = .returned (.bool (decide (rt = rt))) ∧ Below ((x2.alloc o1).alloc o2).heap.size ((x2.alloc o1).alloc o2) w') := fun o1 o2 => same_any _ (.slice va rt.length vc) (.slice va2 rt.length vc2) rt rt ((HY.out.2.2.1.below g2 (Nat.le_refl _)).below (HZa.out o1 o2) (Nat.le_refl _)) (d2.below (HZa.out o1 o2) (Nat.le_refl _)) (by have := HLen.out; omega) (by have := HLen.out; omega)
        obtain ⟨t0, t1, _, _⟩ := K.box2 p1
        have t2 := K.at_box (i := 0) p2 rfl
        have t3 := K.at_box (i := 1) p2 rfl
        have t4 := K.at_box (i := 2) p2 rfl
        have t0' : ∀ o1 o2, ((x2.alloc o1).alloc o2).cell? ⟨w4.heap.size, 0, none⟩ = some (.int .i64 re) := fun o1 o2 => K.alloc_cell (K.alloc_cell t0 o1) o2
        have t1' : ∀ o1 o2, ((x2.alloc o1).alloc o2).cell? ⟨w4.heap.size, 1, none⟩ = some (.int .i64 ra) := fun o1 o2 => K.alloc_cell (K.alloc_cell t1 o1) o2
        have t2' : ∀ o1 o2, ((x2.alloc o1).alloc o2).cell? ⟨x1.heap.size, 0, none⟩ = some (.slice va rt.length vc) := fun o1 o2 => K.alloc_cell (K.alloc_cell t2 o1) o2
        have t3' : ∀ o1 o2, ((x2.alloc o1).alloc o2).cell? ⟨x1.heap.size, 1, none⟩ = some (.int .i64 rs) := fun o1 o2 => K.alloc_cell (K.alloc_cell t3 o1) o2
        have t4' : ∀ o1 o2, ((x2.alloc o1).alloc o2).cell? ⟨x1.heap.size, 2, none⟩ = some (.int .i64 rp) := fun o1 o2 => K.alloc_cell (K.alloc_cell t4 o1) o2
        clear d2 g2 p1 p2 HY hY1 HRun t0 t1 t2 t3 t4 HB u0 u1 fu0 fu1
        go_wp2_with fail
        refine (HSm.out _ _).mono ?_
        rintro e x3 ⟨rfl, g3⟩
        have HZ3 : Hid (Below w.heap.size w x3) := (HZ.out.trans ((HZa.out _ _).mono HZ.out.size)).trans (g3.mono (Nat.le_trans HZ.out.size (HZa.out _ _).size))
        clear g3 HSm HZa t0' t1' t2' t3' t4'
        go_wp2
        go_ret
        exact ⟨by simp, HZ3.out⟩
      · have hk2 : (t.length : Int) < k := by omega
        clear hkr
        go_wp2_with fail
        refine (HA.out _ HBX.out).mono ?_
        rintro e x1 ⟨v1, rfl, d1, g1⟩
        obtain ⟨va, vc, rfl⟩ : ∃ va vc, v1 = .slice va rt.length vc := by obtain ⟨a, c, h, _⟩ := d1; exact ⟨a, c, h⟩
        have HB5 : Hid (Below w.heap.size w x1) := HBX.out.trans (g1.mono HBX.out.size)
        have h9a := K.blk_below HX9.out g1
        have l9 := (Array.getElem?_eq_some_iff.1 h9a).1
        obtain ⟨u0, u1, fu0, fu1⟩ := K.box2 h9a
        obtain ⟨Y0, hY0⟩ : ∃ Y0, Y0 = (x1.setCell ⟨w4.heap.size, 0, none⟩ (.int .i64 re)).setCell ⟨w4.heap.size, 1, none⟩ (.int .i64 ra) := ⟨_, rfl⟩
        obtain ⟨Y1, hY1⟩ : ∃ Y1, Y1 = ((x1.setCell ⟨w4.heap.size, 0, none⟩ (.int .i64 re)).setCell ⟨w4.heap.size, 1, none⟩ (.int .i64 ra)).alloc (.cells #[(.slice va rt.length vc), .int .i64 rs, .int .i64 rp] 55) := ⟨_, rfl⟩
        have hY1' : Y1 = Y0.alloc (.cells #[(.slice va rt.length vc), .int .i64 rs, .int .i64 rp] 55) := by rw [hY1, hY0]
        have e0 : Y0.heap[w4.heap.size]? = some (.cells #[.int .i64 re, .int .i64 ra] 29) := by rw [hY0]; exact K.set2 h9a _ _
        have hal : Below Y0.heap.size Y0 Y1 := by rw [hY1']; exact (Below.refl _ Y0).alloc (Nat.le_refl _) _
        have hsz : Y0.heap.size = x1.heap.size := by rw [hY0]; simp
        have e1 := K.blk_below e0 hal
        have e2 : Y1.heap[x1.heap.size]? = some (.cells #[(.slice va rt.length vc), .int .i64 rs, .int .i64 rp] 55) := by rw [← hsz, hY1']; exact heap_alloc_new Y0 _
        have dY : L.Rd Y1 (.slice va rt.length vc) .i32 rt := (K.rd_block d1 (w' := Y0) fun hz q hq => by
          have hne := K.rd_ne d1 h9a hz q hq
          rw [hY0, heap_setCell_other _ ⟨w4.heap.size, 1, none⟩ q _ (by simpa using hne), heap_setCell_other _ ⟨w4.heap.size, 0, none⟩ q _ (by simpa using hne)]).below hal (Nat.le_refl _)
        have bY : Below w.heap.size w Y1 := by
          rw [hY1]
          exact ((HB5.out.setCell (p := ⟨w4.heap.size, 0, none⟩) HB4.out.size _).setCell (p := ⟨w4.heap.size, 1, none⟩) HB4.out.size _).alloc (by simp; exact HB5.out.size) _
        have HY : Hid (Y1.heap[w4.heap.size]? = some (.cells #[.int .i64 re, .int .i64 ra] 29) ∧ Y1.heap[x1.heap.size]? = some (.cells #[(.slice va rt.length vc), .int .i64 rs, .int .i64 rp] 55) ∧ L.Rd Y1 (.slice va rt.length vc) .i32 rt ∧ Below w.heap.size w Y1) := ⟨e1, e2, dY, bY⟩
        have HRun := HB.out Y1 bY
        clear d1 g1 HB5 hY0 hY1' e0 hal hsz e1 e2 dY bY h9a HA HBX HX9
        go_wp2_with fail
        rw [← hY1]
        refine HRun.mono ?_
        rintro e x2 ⟨v2, rfl, d2, g2⟩
        obtain ⟨va2, vc2, rfl⟩ : ∃ va vc, v2 = .slice va rt.length vc := by obtain ⟨a, c, h, _⟩ := d2; exact ⟨a, c, h⟩
        have p1 := K.blk_below HY.out.1 g2
        have p2 := K.blk_below HY.out.2.1 g2
        have HZ : Hid (Below w.heap.size w x2) := HY.out.2.2.2.trans (g2.mono HY.out.2.2.2.size)
        have HZa : Hid (∀ o1 o2, Below x2.heap.size x2 ((x2.alloc o1).alloc o2)) := fun o1 o2 => ((Below.refl _ x2).alloc (Nat.le_refl _) o1).alloc (by simp) o2
        have HSm : Hid (∀ o1 o2, Calls Try.prog 22 #[(.slice va rt.length vc), (.slice va2 rt.length vc2)] ((x2.alloc o1).alloc o2) fun e w' => e = .returned (.bool (decide (rt = rt))) ∧ Below ((x2.alloc o1).alloc o2).heap.size ((x2.alloc o1).alloc o2) w') := fun o1 o2 => same_any _ (.slice va rt.length vc) (.slice va2 rt.length vc2) rt rt ((HY.out.2.2.1.below g2 (Nat.le_refl _)).below (HZa.out o1 o2) (Nat.le_refl _)) (d2.below (HZa.out o1 o2) (Nat.le_refl _)) (by have := HLen.out; omega) (by have := HLen.out; omega)
        obtain ⟨t0, t1, _, _⟩ := K.box2 p1
        have t2 := K.at_box (i := 0) p2 rfl
        have t3 := K.at_box (i := 1) p2 rfl
        have t4 := K.at_box (i := 2) p2 rfl
        have t0' : ∀ o1 o2, ((x2.alloc o1).alloc o2).cell? ⟨w4.heap.size, 0, none⟩ = some (.int .i64 re) := fun o1 o2 => K.alloc_cell (K.alloc_cell t0 o1) o2
        have t1' : ∀ o1 o2, ((x2.alloc o1).alloc o2).cell? ⟨w4.heap.size, 1, none⟩ = some (.int .i64 ra) := fun o1 o2 => K.alloc_cell (K.alloc_cell t1 o1) o2
        have t2' : ∀ o1 o2, ((x2.alloc o1).alloc o2).cell? ⟨x1.heap.size, 0, none⟩ = some (.slice va rt.length vc) := fun o1 o2 => K.alloc_cell (K.alloc_cell t2 o1) o2
        have t3' : ∀ o1 o2, ((x2.alloc o1).alloc o2).cell? ⟨x1.heap.size, 1, none⟩ = some (.int .i64 rs) := fun o1 o2 => K.alloc_cell (K.alloc_cell t3 o1) o2
        have t4' : ∀ o1 o2, ((x2.alloc o1).alloc o2).cell? ⟨x1.heap.size, 2, none⟩ = some (.int .i64 rp) := fun o1 o2 => K.alloc_cell (K.alloc_cell t4 o1) o2
        clear d2 g2 p1 p2 HY hY1 HRun t0 t1 t2 t3 t4 HB u0 u1 fu0 fu1
        go_wp2_with fail
        refine (HSm.out _ _).mono ?_
        rintro e x3 ⟨rfl, g3⟩
        have HZ3 : Hid (Below w.heap.size w x3) := (HZ.out.trans ((HZa.out _ _).mono HZ.out.size)).trans (g3.mono (Nat.le_trans HZ.out.size (HZa.out _ _).size))
        clear g3 HSm HZa t0' t1' t2' t3' t4'
        go_wp2
        go_ret
        exact ⟨by simp, HZ3.out⟩
    · rw [if_pos hc, if_neg hkr] at hw
      cases hw
      have HWf := HF.out hc (by omega) (by omega) _ (HBal.out (.cells #[.int .i64 0, .int .i64 0] 29))
      subst hc
      have hk1 : ¬ k < 0 := by omega
      have hk2 : ¬ (t.length : Int) < k := by omega
      clear hkr HF
      go_wp2_with fail
      refine HWf.mono ?_
      rintro e w5 ⟨rfl, b5⟩
      obtain ⟨h9, b45, s5⟩ := K.one_box b5
      have h7' := K.blk_below h7 b45
      obtain ⟨z0, z1, _, _⟩ := K.box2 h7'
      have HX9 : Hid (w5.heap[w4.heap.size]? = some (.cells #[.int .i64 0, .int .i64 0] 29)) := h9
      have HBX : Hid (Below w.heap.size w w5) := HB4.out.trans (b45.mono HB4.out.size)
      clear b5 b45 h9 h7' HWf k0 k1 g0
      go_wp2_with fail
      refine (HA.out _ HBX.out).mono ?_
      rintro e x1 ⟨v1, rfl, d1, g1⟩
      obtain ⟨va, vc, rfl⟩ : ∃ va vc, v1 = .slice va rt.length vc := by obtain ⟨a, c, h, _⟩ := d1; exact ⟨a, c, h⟩
      have HB5 : Hid (Below w.heap.size w x1) := HBX.out.trans (g1.mono HBX.out.size)
      have h9a := K.blk_below HX9.out g1
      have l9 := (Array.getElem?_eq_some_iff.1 h9a).1
      obtain ⟨u0, u1, fu0, fu1⟩ := K.box2 h9a
      obtain ⟨Y0, hY0⟩ : ∃ Y0, Y0 = (x1.setCell ⟨w4.heap.size, 0, none⟩ (.int .i64 re)).setCell ⟨w4.heap.size, 1, none⟩ (.int .i64 ra) := ⟨_, rfl⟩
      obtain ⟨Y1, hY1⟩ : ∃ Y1, Y1 = ((x1.setCell ⟨w4.heap.size, 0, none⟩ (.int .i64 re)).setCell ⟨w4.heap.size, 1, none⟩ (.int .i64 ra)).alloc (.cells #[(.slice va rt.length vc), .int .i64 rs, .int .i64 rp] 55) := ⟨_, rfl⟩
      have hY1' : Y1 = Y0.alloc (.cells #[(.slice va rt.length vc), .int .i64 rs, .int .i64 rp] 55) := by rw [hY1, hY0]
      have e0 : Y0.heap[w4.heap.size]? = some (.cells #[.int .i64 re, .int .i64 ra] 29) := by rw [hY0]; exact K.set2 h9a _ _
      have hal : Below Y0.heap.size Y0 Y1 := by rw [hY1']; exact (Below.refl _ Y0).alloc (Nat.le_refl _) _
      have hsz : Y0.heap.size = x1.heap.size := by rw [hY0]; simp
      have e1 := K.blk_below e0 hal
      have e2 : Y1.heap[x1.heap.size]? = some (.cells #[(.slice va rt.length vc), .int .i64 rs, .int .i64 rp] 55) := by rw [← hsz, hY1']; exact heap_alloc_new Y0 _
      have dY : L.Rd Y1 (.slice va rt.length vc) .i32 rt := (K.rd_block d1 (w' := Y0) fun hz q hq => by
        have hne := K.rd_ne d1 h9a hz q hq
        rw [hY0, heap_setCell_other _ ⟨w4.heap.size, 1, none⟩ q _ (by simpa using hne), heap_setCell_other _ ⟨w4.heap.size, 0, none⟩ q _ (by simpa using hne)]).below hal (Nat.le_refl _)
      have bY : Below w.heap.size w Y1 := by
        rw [hY1]
        exact ((HB5.out.setCell (p := ⟨w4.heap.size, 0, none⟩) HB4.out.size _).setCell (p := ⟨w4.heap.size, 1, none⟩) HB4.out.size _).alloc (by simp; exact HB5.out.size) _
      have HY : Hid (Y1.heap[w4.heap.size]? = some (.cells #[.int .i64 re, .int .i64 ra] 29) ∧ Y1.heap[x1.heap.size]? = some (.cells #[(.slice va rt.length vc), .int .i64 rs, .int .i64 rp] 55) ∧ L.Rd Y1 (.slice va rt.length vc) .i32 rt ∧ Below w.heap.size w Y1) := ⟨e1, e2, dY, bY⟩
      have HRun := HB.out Y1 bY
      clear d1 g1 HB5 hY0 hY1' e0 hal hsz e1 e2 dY bY h9a HA HBX HX9
      go_wp2_with fail
      rw [← hY1]
      refine HRun.mono ?_
      rintro e x2 ⟨v2, rfl, d2, g2⟩
      obtain ⟨va2, vc2, rfl⟩ : ∃ va vc, v2 = .slice va rt.length vc := by obtain ⟨a, c, h, _⟩ := d2; exact ⟨a, c, h⟩
      have p1 := K.blk_below HY.out.1 g2
      have p2 := K.blk_below HY.out.2.1 g2
      have HZ : Hid (Below w.heap.size w x2) := HY.out.2.2.2.trans (g2.mono HY.out.2.2.2.size)
      have HZa : Hid (∀ o1 o2, Below x2.heap.size x2 ((x2.alloc o1).alloc o2)) := fun o1 o2 => ((Below.refl _ x2).alloc (Nat.le_refl _) o1).alloc (by simp) o2
      have HSm : Hid (∀ o1 o2, Calls Try.prog 22 #[(.slice va rt.length vc), (.slice va2 rt.length vc2)] ((x2.alloc o1).alloc o2) fun e w' => e = .returned (.bool (decide (rt = rt))) ∧ Below ((x2.alloc o1).alloc o2).heap.size ((x2.alloc o1).alloc o2) w') := fun o1 o2 => same_any _ (.slice va rt.length vc) (.slice va2 rt.length vc2) rt rt ((HY.out.2.2.1.below g2 (Nat.le_refl _)).below (HZa.out o1 o2) (Nat.le_refl _)) (d2.below (HZa.out o1 o2) (Nat.le_refl _)) (by have := HLen.out; omega) (by have := HLen.out; omega)
      obtain ⟨t0, t1, _, _⟩ := K.box2 p1
      have t2 := K.at_box (i := 0) p2 rfl
      have t3 := K.at_box (i := 1) p2 rfl
      have t4 := K.at_box (i := 2) p2 rfl
      have t0' : ∀ o1 o2, ((x2.alloc o1).alloc o2).cell? ⟨w4.heap.size, 0, none⟩ = some (.int .i64 re) := fun o1 o2 => K.alloc_cell (K.alloc_cell t0 o1) o2
      have t1' : ∀ o1 o2, ((x2.alloc o1).alloc o2).cell? ⟨w4.heap.size, 1, none⟩ = some (.int .i64 ra) := fun o1 o2 => K.alloc_cell (K.alloc_cell t1 o1) o2
      have t2' : ∀ o1 o2, ((x2.alloc o1).alloc o2).cell? ⟨x1.heap.size, 0, none⟩ = some (.slice va rt.length vc) := fun o1 o2 => K.alloc_cell (K.alloc_cell t2 o1) o2
      have t3' : ∀ o1 o2, ((x2.alloc o1).alloc o2).cell? ⟨x1.heap.size, 1, none⟩ = some (.int .i64 rs) := fun o1 o2 => K.alloc_cell (K.alloc_cell t3 o1) o2
      have t4' : ∀ o1 o2, ((x2.alloc o1).alloc o2).cell? ⟨x1.heap.size, 2, none⟩ = some (.int .i64 rp) := fun o1 o2 => K.alloc_cell (K.alloc_cell t4 o1) o2
      clear d2 g2 p1 p2 HY hY1 HRun t0 t1 t2 t3 t4 HB u0 u1 fu0 fu1
      go_wp2_with fail
      refine (HSm.out _ _).mono ?_
      rintro e x3 ⟨rfl, g3⟩
      have HZ3 : Hid (Below w.heap.size w x3) := (HZ.out.trans ((HZa.out _ _).mono HZ.out.size)).trans (g3.mono (Nat.le_trans HZ.out.size (HZa.out _ _).size))
      clear g3 HSm HZa t0' t1' t2' t3' t4'
      go_wp2
      go_ret
      exact ⟨by simp, HZ3.out⟩
  · rw [if_neg hc] at hw
    cases hw
    have HX9 : Hid ((w4.alloc (.cells #[.int .i64 q1, .int .i64 q2] 29)).heap[w4.heap.size]? = some (.cells #[.int .i64 q1, .int .i64 q2] 29)) := heap_alloc_new w4 _
    have HBX : Hid (Below w.heap.size w (w4.alloc (.cells #[.int .i64 q1, .int .i64 q2] 29))) := HBal.out _
    go_wp2_with fail
    refine (HA.out _ HBX.out).mono ?_
    rintro e x1 ⟨v1, rfl, d1, g1⟩
    obtain ⟨va, vc, rfl⟩ : ∃ va vc, v1 = .slice va rt.length vc := by obtain ⟨a, c, h, _⟩ := d1; exact ⟨a, c, h⟩
    have HB5 : Hid (Below w.heap.size w x1) := HBX.out.trans (g1.mono HBX.out.size)
    have h9a := K.blk_below HX9.out g1
    have l9 := (Array.getElem?_eq_some_iff.1 h9a).1
    obtain ⟨u0, u1, fu0, fu1⟩ := K.box2 h9a
    obtain ⟨Y0, hY0⟩ : ∃ Y0, Y0 = (x1.setCell ⟨w4.heap.size, 0, none⟩ (.int .i64 re)).setCell ⟨w4.heap.size, 1, none⟩ (.int .i64 ra) := ⟨_, rfl⟩
    obtain ⟨Y1, hY1⟩ : ∃ Y1, Y1 = ((x1.setCell ⟨w4.heap.size, 0, none⟩ (.int .i64 re)).setCell ⟨w4.heap.size, 1, none⟩ (.int .i64 ra)).alloc (.cells #[(.slice va rt.length vc), .int .i64 rs, .int .i64 rp] 55) := ⟨_, rfl⟩
    have hY1' : Y1 = Y0.alloc (.cells #[(.slice va rt.length vc), .int .i64 rs, .int .i64 rp] 55) := by rw [hY1, hY0]
    have e0 : Y0.heap[w4.heap.size]? = some (.cells #[.int .i64 re, .int .i64 ra] 29) := by rw [hY0]; exact K.set2 h9a _ _
    have hal : Below Y0.heap.size Y0 Y1 := by rw [hY1']; exact (Below.refl _ Y0).alloc (Nat.le_refl _) _
    have hsz : Y0.heap.size = x1.heap.size := by rw [hY0]; simp
    have e1 := K.blk_below e0 hal
    have e2 : Y1.heap[x1.heap.size]? = some (.cells #[(.slice va rt.length vc), .int .i64 rs, .int .i64 rp] 55) := by rw [← hsz, hY1']; exact heap_alloc_new Y0 _
    have dY : L.Rd Y1 (.slice va rt.length vc) .i32 rt := (K.rd_block d1 (w' := Y0) fun hz q hq => by
      have hne := K.rd_ne d1 h9a hz q hq
      rw [hY0, heap_setCell_other _ ⟨w4.heap.size, 1, none⟩ q _ (by simpa using hne), heap_setCell_other _ ⟨w4.heap.size, 0, none⟩ q _ (by simpa using hne)]).below hal (Nat.le_refl _)
    have bY : Below w.heap.size w Y1 := by
      rw [hY1]
      exact ((HB5.out.setCell (p := ⟨w4.heap.size, 0, none⟩) HB4.out.size _).setCell (p := ⟨w4.heap.size, 1, none⟩) HB4.out.size _).alloc (by simp; exact HB5.out.size) _
    have HY : Hid (Y1.heap[w4.heap.size]? = some (.cells #[.int .i64 re, .int .i64 ra] 29) ∧ Y1.heap[x1.heap.size]? = some (.cells #[(.slice va rt.length vc), .int .i64 rs, .int .i64 rp] 55) ∧ L.Rd Y1 (.slice va rt.length vc) .i32 rt ∧ Below w.heap.size w Y1) := ⟨e1, e2, dY, bY⟩
    have HRun := HB.out Y1 bY
    clear d1 g1 HB5 hY0 hY1' e0 hal hsz e1 e2 dY bY h9a HA HBX HX9
    go_wp2_with fail
    rw [← hY1]
    refine HRun.mono ?_
    rintro e x2 ⟨v2, rfl, d2, g2⟩
    obtain ⟨va2, vc2, rfl⟩ : ∃ va vc, v2 = .slice va rt.length vc := by obtain ⟨a, c, h, _⟩ := d2; exact ⟨a, c, h⟩
    have p1 := K.blk_below HY.out.1 g2
    have p2 := K.blk_below HY.out.2.1 g2
    have HZ : Hid (Below w.heap.size w x2) := HY.out.2.2.2.trans (g2.mono HY.out.2.2.2.size)
    have HZa : Hid (∀ o1 o2, Below x2.heap.size x2 ((x2.alloc o1).alloc o2)) := fun o1 o2 => ((Below.refl _ x2).alloc (Nat.le_refl _) o1).alloc (by simp) o2
    have HSm : Hid (∀ o1 o2, Calls Try.prog 22 #[(.slice va rt.length vc), (.slice va2 rt.length vc2)] ((x2.alloc o1).alloc o2) fun e w' => e = .returned (.bool (decide (rt = rt))) ∧ Below ((x2.alloc o1).alloc o2).heap.size ((x2.alloc o1).alloc o2) w') := fun o1 o2 => same_any _ (.slice va rt.length vc) (.slice va2 rt.length vc2) rt rt ((HY.out.2.2.1.below g2 (Nat.le_refl _)).below (HZa.out o1 o2) (Nat.le_refl _)) (d2.below (HZa.out o1 o2) (Nat.le_refl _)) (by have := HLen.out; omega) (by have := HLen.out; omega)
    obtain ⟨t0, t1, _, _⟩ := K.box2 p1
    have t2 := K.at_box (i := 0) p2 rfl
    have t3 := K.at_box (i := 1) p2 rfl
    have t4 := K.at_box (i := 2) p2 rfl
    have t0' : ∀ o1 o2, ((x2.alloc o1).alloc o2).cell? ⟨w4.heap.size, 0, none⟩ = some (.int .i64 re) := fun o1 o2 => K.alloc_cell (K.alloc_cell t0 o1) o2
    have t1' : ∀ o1 o2, ((x2.alloc o1).alloc o2).cell? ⟨w4.heap.size, 1, none⟩ = some (.int .i64 ra) := fun o1 o2 => K.alloc_cell (K.alloc_cell t1 o1) o2
    have t2' : ∀ o1 o2, ((x2.alloc o1).alloc o2).cell? ⟨x1.heap.size, 0, none⟩ = some (.slice va rt.length vc) := fun o1 o2 => K.alloc_cell (K.alloc_cell t2 o1) o2
    have t3' : ∀ o1 o2, ((x2.alloc o1).alloc o2).cell? ⟨x1.heap.size, 1, none⟩ = some (.int .i64 rs) := fun o1 o2 => K.alloc_cell (K.alloc_cell t3 o1) o2
    have t4' : ∀ o1 o2, ((x2.alloc o1).alloc o2).cell? ⟨x1.heap.size, 2, none⟩ = some (.int .i64 rp) := fun o1 o2 => K.alloc_cell (K.alloc_cell t4 o1) o2
    clear d2 g2 p1 p2 HY hY1 HRun t0 t1 t2 t3 t4 HB u0 u1 fu0 fu1
    go_wp2_with fail
    refine (HSm.out _ _).mono ?_
    rintro e x3 ⟨rfl, g3⟩
    have HZ3 : Hid (Below w.heap.size w x3) := (HZ.out.trans ((HZa.out _ _).mono HZ.out.size)).trans (g3.mono (Nat.le_trans HZ.out.size (HZa.out _ _).size))
    clear g3 HSm HZa t0' t1' t2' t3' t4'
    go_wp2
    go_ret
    exact ⟨by simp, HZ3.out⟩

end Go.Proofs.Ytbilccjbpldbnaa
