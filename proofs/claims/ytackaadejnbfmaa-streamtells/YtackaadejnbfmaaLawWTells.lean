/-
  What scriptref1.Same answers of two slices of runes: whether they read as the same list.
-/
import Derived.Test.YtackaadejnbfmaaRows
import Derived.Test.YtackaadejnbfmaaFrame
import Derived.Deep.QuietTactic
import Derived.BigQuiet
import Derived.Test.YtackaadejnbfmaaWFeed2
import Derived.Test.YtackaadejnbfmaaWSmall
namespace Go.Proofs.Ytackaadejnbfmaa
open Go.RowKit

theorem take_eq_snoc {a b : List Int} {k : Nat} {x y : Int} (h : a.take k = b.take k) (hx : a[k]? = some x) (hy : b[k]? = some y) (e : x = y) : a.take (k + 1) = b.take (k + 1) := by
  rw [List.take_add_one, List.take_add_one, h, hx, hy, e]

set_option maxHeartbeats 400000 in
theorem same_any (w : World) (va vb : Value) (za zb : List Int) (ha : L.Rd w va .i32 za) (hb : L.Rd w vb .i32 zb) (hla : za.length ≤ 4611686018427387903) (hlb : zb.length ≤ 4611686018427387903) :
    Calls Try.prog 9 #[va, vb] w fun e w' => e = .returned (.bool (decide (za = zb))) ∧ Below w.heap.size w w' := by
  obtain ⟨ao, ca, rfl, _, ha⟩ := ha
  obtain ⟨bo, cb, rfl, _, hb⟩ := hb
  by_cases hl : za.length = zb.length
  · go_enter Try.func9, Try.ntmps9
    go_wp2
    go_loopw [13] (fun i wr => ∃ k n : Nat, k ≤ za.length ∧ i = .int .i64 k ∧ za.take k = zb.take k ∧ wr = w.drewN n) (fun i _ => za.length - (intOf i).toNat)
    case atStart => exact ⟨0, 0, Nat.zero_le _, rfl, by simp, rfl⟩
    case round =>
      obtain ⟨k, n, hk, rfl, ht, rfl⟩ := hrel
      by_cases hlt : k < za.length
      · obtain ⟨b1, o1, rfl, hc1⟩ := ha (by intro h; subst h; simp at hlt)
        obtain ⟨b2, o2, rfl, hc2⟩ := hb (by intro h; subst h; simp at hl; rw [hl] at hlt; simp at hlt)
        obtain ⟨x, hx⟩ : ∃ x, za[k]? = some x := ⟨za[k], by simp [hlt]⟩
        obtain ⟨y, hy⟩ : ∃ y, zb[k]? = some y := ⟨zb[k]'(by omega), by simp [show k < zb.length by omega]⟩
        have c1 := hc1 k x hx
        have c2 := hc2 k y hy
        clear hc1 hc2 ha hb
        have HX : Hid (za[k]? = some x ∧ zb[k]? = some y ∧ za.take k = zb.take k) := ⟨hx, hy, ht⟩
        clear hx hy ht
        by_cases hxy : x = y
        · go_wp2
          go_quiet (fail)
          go_wp2
          go_roundw
          case rel => exact ⟨k + 1, _, by omega, by go_num, take_eq_snoc HX.out.2.2 HX.out.1 HX.out.2.1 hxy, rfl⟩
          case measure => simp [intOf]; omega
        · go_wp2
          go_quiet (fail)
          go_wp2
          go_ret
          refine ⟨L.ret_bool ?_, below_drewN (below_drewN (Below.refl _ _) _) _⟩
          have : za ≠ zb := by
            intro e
            rw [e] at HX
            have h1 := HX.out.1
            rw [HX.out.2.1] at h1
            exact hxy (Option.some.inj h1).symm
          simp [this]
      · go_wp2
        go_ret
        refine ⟨L.ret_bool ?_, below_drewN (Below.refl _ _) _⟩
        rw [List.take_of_length_le (by omega), List.take_of_length_le (by omega)] at ht
        simp [ht]
  · go_enter Try.func9, Try.ntmps9
    go_wp2
    go_ret
    refine ⟨L.ret_bool ?_, Below.refl _ _⟩
    have : za ≠ zb := by intro e; exact hl (by rw [e])
    simp [this]

end Go.Proofs.Ytackaadejnbfmaa

/-
  scriptlaw12.StreamTells: it returns true.
-/
namespace Go.Proofs.Ytackaadejnbfmaa
open Go.RowKit Go.Shelf
set_option maxRecDepth 20000
set_option linter.unusedSimpArgs false
set_option linter.unusedVariables false

set_option maxHeartbeats 16000000 in
theorem streamTells_any (w : World) (vl : Value) (l : List K.Rule) (R0 : V.Rus w vl l) (vc : Value) (cs : List (List Int)) (Rc : Ws.Rd w vc cs) (hcs : ∀ c ∈ cs, c.length ≤ 140737488355328) (hcl : cs.length ≤ 140737488355328) :
    Calls Try.prog 4 #[vl, vc] w fun e w' => e = .returned (.bool true) ∧ Below w.heap.size w w' := by
  obtain ⟨⟨ts, f1, f2⟩, hFF⟩ : ∃ o, Ws.feedF l (K.ahead l) cs = o := ⟨_, rfl⟩
  obtain ⟨⟨n, g1, g2⟩, hWW⟩ : ∃ o, Ws.waitF l (K.ahead l) cs = o := ⟨_, rfl⟩
  have HF := wFeed_any w vl l R0 vc cs Rc hcs hcl ts f1 f2 hFF
  have HD : Hid (∀ X, Below w.heap.size w X → Calls Try.prog 11 #[vl, vc, .bool true] X fun e w' => ∃ v' n', e = .returned (.tuple #[v', .int .i64 n', .agg #[.int .i64 f1, .int .i64 f2]]) ∧ Below X.heap.size X w' ∧ Ws.Rd w' v' ts) := fun X hX => by
    refine (rFeed_any X vl l (R0.below hX) vc cs (Rc.below hX) hcs hcl true).mono ?_
    rintro e w' ⟨v', n', a1, a2, rfl, hb, hA, _⟩
    obtain ⟨ts', h1, h2⟩ := hA rfl
    rw [hFF] at h1
    cases h1
    exact ⟨v', n', rfl, hb, h2⟩
  have HWt : Hid (∀ X, Below w.heap.size w X → Calls Try.prog 12 #[vl, vc] X fun e w' => e = .returned (.tuple #[.int .i64 n, .agg #[.int .i64 g1, .int .i64 g2]]) ∧ Below X.heap.size X w') := fun X hX => wWait_any X vl l (R0.below hX) vc cs (Rc.below hX) hcs hcl n g1 g2 hWW
  have HDw : Hid (∀ X, Below w.heap.size w X → Calls Try.prog 11 #[vl, vc, .bool false] X fun e w' => ∃ v', e = .returned (.tuple #[v', .int .i64 n, .agg #[.int .i64 g1, .int .i64 g2]]) ∧ Below X.heap.size X w') := fun X hX => by
    refine (rFeed_any X vl l (R0.below hX) vc cs (Rc.below hX) hcs hcl false).mono ?_
    rintro e w' ⟨v', n', a1, a2, rfl, hb, _, hA⟩
    have h1 := hA rfl
    rw [hWW] at h1
    cases h1
    exact ⟨v', rfl, hb⟩
  have HTs : Hid (ts.length ≤ 201 ∧ ∀ x ∈ ts, x.length ≤ 4000) := Ws.feedF_small hFF
  obtain ⟨ao, cap, rfl⟩ := R0.len
  obtain ⟨co, cc, rfl, _⟩ := Rc
  clear hFF hWW R0 hcs
  go_enter Try.func4, Try.ntmps4
  go_wp2_with fail
  go_at_call 10
  refine HF.mono ?_
  rintro e w1 ⟨v1, rfl, d1, b1⟩
  obtain ⟨o1, c1, rfl, _⟩ := id d1
  have HB1 : Hid (∀ o, Below w.heap.size w (w1.alloc o)) := fun o => b1.alloc b1.size o
  have HW1s : Hid (w.heap.size ≤ w1.heap.size) := b1.size
  have HD1 : Hid (Ws.Rd w1 (.slice o1 ts.length c1) ts) := d1
  have HBx : Hid ((w1.alloc (.cells #[.int .i64 f1, .int .i64 f2] 28)).heap[w1.heap.size]? = some (.cells #[.int .i64 f1, .int .i64 f2] 28)) := heap_alloc_new w1 _
  clear HF d1 b1
  go_wp2_with fail
  go_at_call 11
  refine (HD.out _ (HB1.out _)).mono ?_
  rintro e w2 ⟨v2, n2, rfl, b2, d2⟩
  obtain ⟨o2, c2, rfl, _⟩ := id d2
  have h1 := K.blk_below HBx.out b2
  have HB2 : Hid (Below w.heap.size w w2) := (HB1.out _).trans (b2.mono (HB1.out _).size)
  have HD2 : Hid (Ws.Rd w2 (.slice o1 ts.length c1) ts ∧ Ws.Rd w2 (.slice o2 ts.length c2) ts) := ⟨(HD1.out.below ((Below.refl _ w1).alloc (Nat.le_refl _) _)).below b2, d2⟩
  obtain ⟨x0, x1, fx0, fx1⟩ := K.box2 h1
  have HX1 : Hid (w2.heap[w1.heap.size]? = some (.cells #[.int .i64 f1, .int .i64 f2] 28)) := h1
  have k0 : ∀ o, (w2.alloc o).cell? ⟨w1.heap.size, 0, none⟩ = some (.int .i64 f1) := fun o => K.alloc_cell x0 o
  have k1 : ∀ o, (w2.alloc o).cell? ⟨w1.heap.size, 1, none⟩ = some (.int .i64 f2) := fun o => K.alloc_cell x1 o
  have hs12 : w1.heap.size + 1 ≤ w2.heap.size := lt_of_block h1
  obtain ⟨X, hX⟩ : ∃ X, X = w2.alloc (.cells #[.int .i64 f1, .int .i64 f2] 28) := ⟨_, rfl⟩
  have hal : Below w2.heap.size w2 X := by rw [hX]; exact (Below.refl _ w2).alloc (Nat.le_refl _) _
  have HXs : Hid (X.heap[w1.heap.size]? = some (.cells #[.int .i64 f1, .int .i64 f2] 28) ∧ X.heap[w2.heap.size]? = some (.cells #[.int .i64 f1, .int .i64 f2] 28) ∧ Ws.Rd X (.slice o1 ts.length c1) ts ∧ Ws.Rd X (.slice o2 ts.length c2) ts ∧ Below w.heap.size w X) := ⟨K.blk_below h1 hal, by rw [hX]; exact heap_alloc_new w2 _, HD2.out.1.below hal, HD2.out.2.below hal, HB2.out.trans (hal.mono HB2.out.size)⟩
  have HXe : Hid (X = w2.alloc (.cells #[.int .i64 f1, .int .i64 f2] 28)) := hX
  clear b2 d2 h1 x0 x1 fx0 fx1 HD HD1 HBx HB1 HD2 HX1 hal hX HB2
  go_wp2
  rw [← HXe.out]
  clear HXe
  obtain ⟨nb, hnb⟩ : ∃ nb, nb = w2.heap.size := ⟨_, rfl⟩
  rw [← hnb] at HXs hs12
  rw [← hnb]
  clear hnb k0 k1
  go_loopw [39] (fun i wr => ∃ k : Nat, k ≤ ts.length ∧ i = .int .i64 k ∧ Hid (Below X.heap.size X wr)) (fun i _ => ts.length - (RowKit.intOf i).toNat)
  case atStart => exact ⟨0, Nat.zero_le _, rfl, Below.refl _ X⟩
  case round =>
    obtain ⟨k, hk, rfl, HBr⟩ := hrel
    have hts201 := HTs.out.1
    by_cases hlt : k < ts.length
    · obtain ⟨x, hx⟩ : ∃ x, ts[k]? = some x := ⟨ts[k], by simp [hlt]⟩
      have HLt : Hid (k < ts.length) := hlt
      have hxl : x.length ≤ 4000 := HTs.out.2 x (List.mem_of_getElem? hx)
      obtain ⟨o1', c1', e1, _, hc1⟩ := HXs.out.2.2.1
      cases e1
      obtain ⟨b1, off1, rfl, hcell1⟩ := hc1 (by intro h; subst h; simp at hlt)
      obtain ⟨u1, hu1, hr1⟩ := hcell1 k x hx
      obtain ⟨o2', c2', e2, _, hc2⟩ := HXs.out.2.2.2.1
      cases e2
      obtain ⟨b2, off2, rfl, hcell2⟩ := hc2 (by intro h; subst h; simp at hlt)
      obtain ⟨u2, hu2, hr2⟩ := hcell2 k x hx
      have a1 : wr.cell? ⟨b1, off1 + k, none⟩ = some u1 := by rw [HBr.out.cell (p := ⟨b1, off1 + k, none⟩) (L.block_lt hu1)]; exact hu1
      have a2 : wr.cell? ⟨b2, off2 + k, none⟩ = some u2 := by rw [HBr.out.cell (p := ⟨b2, off2 + k, none⟩) (L.block_lt hu2)]; exact hu2
      obtain ⟨p1, q1, rfl, _⟩ := id hr1
      obtain ⟨p2, q2, rfl, _⟩ := id hr2
      have HKp : Hid (∀ W, Below wr.heap.size wr W → W.cell? ⟨b1, off1 + k, none⟩ = some (.slice p1 x.length q1) ∧ W.cell? ⟨b2, off2 + k, none⟩ = some (.slice p2 x.length q2)) := fun W hW => ⟨(hW.cell (p := ⟨b1, off1 + k, none⟩) (L.block_lt a1)).trans a1, (hW.cell (p := ⟨b2, off2 + k, none⟩) (L.block_lt a2)).trans a2⟩
      have HSm : Hid (Calls Try.prog 9 #[.slice p1 x.length q1, .slice p2 x.length q2] wr.drew fun e w' => e = .returned (.bool true) ∧ Below wr.heap.size wr w') := by
        refine (same_any wr.drew (.slice p1 x.length q1) (.slice p2 x.length q2) x x ((hr1.below HBr.out (Nat.le_refl _)).below ((Below.refl _ wr).drew) (Nat.le_refl _)) ((hr2.below HBr.out (Nat.le_refl _)).below ((Below.refl _ wr).drew) (Nat.le_refl _)) (by omega) (by omega)).mono ?_
        rintro e w' ⟨h1, h2⟩
        exact ⟨by simpa using h1, ((Below.refl _ wr).drew).trans h2⟩
      generalize x.length = n at *
      clear hc1 hc2 hcell1 hcell2 hu1 hu2 hr1 hr2 hx
      go_wp2
      go_region_held3 (fun w' => w'.cell? ⟨b1, off1 + k, none⟩ = some (.slice p1 n q1) ∧ w'.cell? ⟨b2, off2 + k, none⟩ = some (.slice p2 n q2)) (first | exact HKp.out _ b5 | go_keep) (first | (go_at_call 9; refine HSm.out.mono ?_; rintro e w5 ⟨rfl, b5⟩) | fail)
      have HB5 : Hid (Below X.heap.size X w5) := HBr.out.trans (b5.mono HBr.out.size)
      clear b5 HSm HKp a1 a2
      go_wp2
      go_roundw
      case rel => exact ⟨k + 1, by have := HLt.out; omega, by go_num, HB5⟩
      case measure => (have := HLt.out); simp [RowKit.intOf]; omega
    · have hkl : k = ts.length := by omega
      subst hkl
      have HBw : Hid (Below w.heap.size w wr) := HXs.out.2.2.2.2.trans (HBr.out.mono HXs.out.2.2.2.2.size)
      have e1 := K.blk_below HXs.out.1 HBr.out
      have e2 := K.blk_below HXs.out.2.1 HBr.out
      have HE : Hid (wr.heap[w1.heap.size]? = some (.cells #[.int .i64 f1, .int .i64 f2] 28) ∧ wr.heap[nb]? = some (.cells #[.int .i64 f1, .int .i64 f2] 28)) := ⟨e1, e2⟩
      clear e1 e2
      go_wp2_with fail
      go_at_call 12
      refine (HWt.out wr HBw.out).mono ?_
      rintro e w5 ⟨rfl, b5⟩
      have e1 := K.blk_below HE.out.1 b5
      have e2 := K.blk_below HE.out.2 b5
      have hB5 : Below w.heap.size w w5 := HBw.out.trans (b5.mono HBw.out.size)
      obtain ⟨W6, hW6⟩ : ∃ W6, W6 = (w5.setCell ⟨w1.heap.size, 0, none⟩ (.int .i64 g1)).setCell ⟨w1.heap.size, 1, none⟩ (.int .i64 g2) := ⟨_, rfl⟩
      have h6a : W6.heap[w1.heap.size]? = some (.cells #[.int .i64 g1, .int .i64 g2] 28) := by rw [hW6]; exact K.set2 e1 _ _
      have h6b : W6.heap[nb]? = some (.cells #[.int .i64 f1, .int .i64 f2] 28) := by
        rw [hW6, heap_setCell_other _ ⟨w1.heap.size, 1, none⟩ nb _ (by simp; omega), heap_setCell_other _ ⟨w1.heap.size, 0, none⟩ nb _ (by simp; omega)]; exact e2
      have hs1 : w.heap.size ≤ w1.heap.size := HW1s.out
      have h6c : Below w.heap.size w W6 := by rw [hW6]; exact (hB5.setCell (p := ⟨w1.heap.size, 0, none⟩) hs1 _).setCell (p := ⟨w1.heap.size, 1, none⟩) hs1 _
      have H6 : Hid (W6.heap[w1.heap.size]? = some (.cells #[.int .i64 g1, .int .i64 g2] 28) ∧ W6.heap[nb]? = some (.cells #[.int .i64 f1, .int .i64 f2] 28) ∧ Below w.heap.size w W6) := ⟨h6a, h6b, h6c⟩
      have HW6 : Hid (W6 = (w5.setCell ⟨w1.heap.size, 0, none⟩ (.int .i64 g1)).setCell ⟨w1.heap.size, 1, none⟩ (.int .i64 g2)) := hW6
      obtain ⟨x0, x1, fx0, fx1⟩ := K.box2 e1
      clear b5 e1 e2 hB5 hW6 h6a h6b h6c HE HBw
      go_wp2_with fail
      rw [← HW6.out]
      go_at_call 11
      refine (HDw.out W6 H6.out.2.2).mono ?_
      rintro e w7 ⟨v7, rfl, b7⟩
      have e1 := K.blk_below H6.out.1 b7
      have e2 := K.blk_below H6.out.2.1 b7
      have HB7 : Hid (Below w.heap.size w w7) := H6.out.2.2.trans (b7.mono H6.out.2.2.size)
      obtain ⟨y0, y1, fy0, fy1⟩ := K.box2 e1
      obtain ⟨z0, z1, fz0, fz1⟩ := K.box2 e2
      have hn1 : w1.heap.size ≠ nb := by omega
      have hn2 : nb ≠ w1.heap.size := by omega
      have hwn : w.heap.size ≤ nb := by omega
      clear b7 e1 e2 H6 HW6 x0 x1 fx0 fx1
      go_wp2
      go_ret
      exact ⟨by simp, (HB7.out.setCell (p := ⟨nb, 0, none⟩) hwn _).setCell (p := ⟨nb, 1, none⟩) hwn _⟩

end Go.Proofs.Ytackaadejnbfmaa
