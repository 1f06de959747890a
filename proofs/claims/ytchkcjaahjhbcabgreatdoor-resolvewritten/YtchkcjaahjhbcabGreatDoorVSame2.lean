/-
  Scripts that are the same, whole.
-/
import Derived.Test.YtchkcjaahjhbcabGreatDoorVSame
namespace Go.Proofs.YtchkcjaahjhbcabGreatDoor
open Go.RowKit
set_option maxRecDepth 20000
set_option linter.unusedSimpArgs false
set_option linter.unusedVariables false

def V.SmallP (p : V.Pass) : Prop := ∀ r ∈ p.rules, V.SmallR r

set_option maxHeartbeats 8000000 in
theorem vscript_eq (w : World) (va vb : Value) (s : V.Script) (R1 : V.ScIs w va s) (R2 : V.ScIs w vb s) (hs : ∀ p ∈ s.passes, V.SmallP p) :
    Calls Tryz.prog 9 #[va, vb] w fun e w' => e = .returned (.bool true) ∧ Below w.heap.size w w' := by
  obtain ⟨oo, oc, po, pc, rfl, i1, i2, i3⟩ := R1
  obtain ⟨oo', oc', po', pc', rfl, j1, j2, j3⟩ := R2
  have H1 : Hid (∀ W, Below w.heap.size w W → Calls Tryz.prog 25 #[.slice oo s.only.length oc, .slice oo' s.only.length oc'] W fun e w' => e = .returned (.bool true) ∧ Below W.heap.size W w') := fun W hW => by
    refine (ssame_any W _ _ s.only s.only (i1.below hW (Nat.le_refl _)) (j1.below hW (Nat.le_refl _)) (by omega) (by omega)).mono ?_
    rintro e w' ⟨h1, h2⟩
    exact ⟨by rw [h1]; simp, h2⟩
  obtain ⟨has, only, l⟩ := s
  simp only at H1 i3 j3 hs
  have hl := i3.few
  have HR1 : Hid (V.Pas w (.slice po l.length pc) l) := i3
  have HR2 : Hid (V.Pas w (.slice po' l.length pc') l) := j3
  have HS : Hid (∀ p ∈ l, V.SmallP p) := hs
  clear i1 i2 i3 j1 j2 j3 hs
  have HX1 : Hid _ := K.two_boxes (Below.refl _ ((w.alloc (.cells #[.bool has, .slice oo only.length oc, .slice po l.length pc] 34)).alloc (.cells #[.bool has, .slice oo' only.length oc', .slice po' l.length pc'] 34)))
  go_enter Tryz.func9, Tryz.ntmps9
  go_wp2_with fail
  refine (H1.out _ HX1.out.2.2.1).mono ?_
  rintro e w1 ⟨rfl, b1⟩
  have B1 := HX1.out.2.2.1.trans (b1.mono HX1.out.2.2.1.size)
  have y1 := K.blk_below HX1.out.1 b1
  have y2 := K.blk_below HX1.out.2.1 b1
  have p2 := K.at_box (i := 2) y1 rfl
  have q2 := K.at_box (i := 2) y2 rfl
  have hsz : w.heap.size + 2 ≤ w1.heap.size := by have := b1.size; simp at this; exact this
  have HY : Hid (w1.cell? ⟨w.heap.size, 2, none⟩ = some (.slice po l.length pc) ∧ w1.cell? ⟨w.heap.size + 1, 2, none⟩ = some (.slice po' l.length pc') ∧ Below w.heap.size w w1) := ⟨p2, q2, B1⟩
  clear y1 y2 B1 b1 HX1 H1
  go_wp2
  go_loopw [34] (fun i wr => ∃ k : Nat, k ≤ l.length ∧ i = .int .i64 k ∧ Hid (Below w1.heap.size w1 wr)) (fun i _ => l.length - (RowKit.intOf i).toNat)
  case atStart => exact ⟨0, Nat.zero_le _, rfl, Below.refl _ w1⟩
  case round =>
    obtain ⟨k, hk, rfl, HB⟩ := hrel
    have HB0 : Hid (Below w.heap.size w wr) := HY.out.2.2.trans (HB.out.mono HY.out.2.2.size)
    by_cases hlt : k < l.length
    · obtain ⟨x, hx⟩ : ∃ x, l[k]? = some x := ⟨l[k], by simp [hlt]⟩
      have z2 : wr.cell? ⟨w.heap.size, 2, none⟩ = some (.slice po l.length pc) := by rw [HB.out.cell (p := ⟨w.heap.size, 2, none⟩) (by show w.heap.size < _; omega)]; exact HY.out.1
      have z3 : wr.cell? ⟨w.heap.size + 1, 2, none⟩ = some (.slice po' l.length pc') := by rw [HB.out.cell (p := ⟨w.heap.size + 1, 2, none⟩) (by show w.heap.size + 1 < _; omega)]; exact HY.out.2.1
      obtain ⟨ao', ca', e', _, hcs⟩ := HR1.out.below HB0.out
      cases e'
      obtain ⟨b, off, rfl, hcell⟩ := hcs (by intro h; subst h; simp at hlt)
      obtain ⟨c0, hn, ro, rc, c1, hr1⟩ := hcell k x hx
      obtain ⟨bo', cb', e2, _, hds⟩ := HR2.out.below HB0.out
      cases e2
      obtain ⟨d, of2, rfl, hdell⟩ := hds (by intro h; subst h; simp at hlt)
      obtain ⟨d0, _, ro2, rc2, d1, hr2⟩ := hdell k x hx
      have hsm := HS.out x (List.mem_of_getElem? hx)
      clear hx hcell hcs hdell hds p2 q2
      obtain ⟨nm, rl⟩ := x
      simp only at c0 c1 d0 d1 hr1 hr2 hn
      have HH : Hid (V.Rus wr (.slice ro rl.length rc) rl ∧ V.Rus wr (.slice ro2 rl.length rc2) rl ∧ ∀ r ∈ rl, V.SmallR r) := ⟨hr1, hr2, hsm⟩
      have hrl := hr1.few
      clear hr1 hr2 hsm
      have hb1 : b < wr.heap.size := L.block_lt c0
      have hb2 : d < wr.heap.size := L.block_lt d0
      have hb3 : w.heap.size < wr.heap.size := L.block_lt z2
      have hb4 : w.heap.size + 1 < wr.heap.size := L.block_lt z3
      go_wp2
      go_region
      · obtain ⟨W0, hW0⟩ : ∃ W0, W0 = ((wr.alloc (.cells #[.string nm, .slice ro rl.length rc] 50)).alloc (.cells #[.string nm, .slice ro2 rl.length rc2] 50)).drew := ⟨_, rfl⟩
        rw [← hW0]
        obtain ⟨h1, h2, BW, hsW⟩ := K.two_boxes (w1 := W0) (w := wr) (o1 := (.cells #[.string nm, .slice ro rl.length rc] 50)) (o2 := (.cells #[.string nm, .slice ro2 rl.length rc2] 50)) (by rw [hW0]; exact (Below.refl _ _).drew)
        clear hW0
        have p0 := K.at_box (i := 0) h1 rfl
        have p1 := K.at_box (i := 1) h1 rfl
        have q0 := K.at_box (i := 0) h2 rfl
        have q1 := K.at_box (i := 1) h2 rfl
        clear h1 h2 z2 z3 c0 c1 d0 d1 hb1 hb2 hb3 hb4
        obtain ⟨wo, hwo⟩ : ∃ wo, wo = wr := ⟨_, rfl⟩
        subst hwo
        have HBW : Hid (Below wo.heap.size wo W0) := BW
        have HP : Hid (W0.cell? ⟨wo.heap.size, 1, none⟩ = some (.slice ro rl.length rc) ∧ W0.cell? ⟨wo.heap.size + 1, 1, none⟩ = some (.slice ro2 rl.length rc2)) := ⟨p1, q1⟩
        clear BW
        go_wp2
        clear p0 p1 q0 q1
        go_loopw [64] (fun i wr => ∃ j : Nat, j ≤ rl.length ∧ i = .int .i64 j ∧ Hid (Below W0.heap.size W0 wr)) (fun i _ => rl.length - (RowKit.intOf i).toNat)
        case atStart => exact ⟨0, Nat.zero_le _, rfl, Below.refl _ W0⟩
        case round =>
          obtain ⟨j, hj, rfl, HI⟩ := hrel
          have HI0 : Hid (Below wo.heap.size wo wr) := HBW.out.trans (HI.out.mono HBW.out.size)
          by_cases hjl : j < rl.length
          · obtain ⟨x, hx⟩ : ∃ x, rl[j]? = some x := ⟨rl[j], by simp [hjl]⟩
            have k1 : wr.cell? ⟨wo.heap.size, 1, none⟩ = some (.slice ro rl.length rc) := by rw [HI.out.cell (p := ⟨wo.heap.size, 1, none⟩) (L.block_lt HP.out.1)]; exact HP.out.1
            have k2 : wr.cell? ⟨wo.heap.size + 1, 1, none⟩ = some (.slice ro2 rl.length rc2) := by rw [HI.out.cell (p := ⟨wo.heap.size + 1, 1, none⟩) (L.block_lt HP.out.2)]; exact HP.out.2
            obtain ⟨ao', ca', e', _, hcs⟩ := HH.out.1.below HI0.out
            cases e'
            obtain ⟨e1, f1, rfl, hcell⟩ := hcs (by intro h; subst h; simp at hjl)
            obtain ⟨Xb, Xbc, Xs, Xsc, Xa, Xac, Xt, Xtc, c0, c1, c2, c3, c4, c5, c6, hr1⟩ := hcell j x hx
            obtain ⟨bo', cb', e2', _, hds⟩ := HH.out.2.1.below HI0.out
            cases e2'
            obtain ⟨e2, f2, rfl, hdell⟩ := hds (by intro h; subst h; simp at hjl)
            obtain ⟨Yb, Ybc, Ys, Ysc, Ya, Yac, Yt, Ytc, d0, d1, d2, d3, d4, d5, d6, hr2⟩ := hdell j x hx
            have hsm := HH.out.2.2 x (List.mem_of_getElem? hx)
            clear hx hcell hcs hdell hds
            obtain ⟨rst, rfi, rbe, rsr, raf, rta, rcu⟩ := x
            simp only at c0 c1 c2 c3 c4 c5 c6 d0 d1 d2 d3 d4 d5 d6 hr1 hr2
            have HSm : Hid (∀ W, Below wr.heap.size wr W → Calls Tryz.prog 26 #[.agg #[.bool rst, .bool rfi, .slice Xb rbe.length Xbc, .slice Xs rsr.length Xsc, .slice Xa raf.length Xac, .slice Xt rta.length Xtc, .int .i64 rcu], .agg #[.bool rst, .bool rfi, .slice Yb rbe.length Ybc, .slice Ys rsr.length Ysc, .slice Ya raf.length Yac, .slice Yt rta.length Ytc, .int .i64 rcu]] W fun e w' => e = .returned (.bool true) ∧ Below W.heap.size W w') := fun W hW => vrule_eq W _ _ _ (hr1.below hW) (hr2.below hW) hsm
            clear hr1 hr2 hsm
            have bD : Below wr.heap.size wr wr.drew := (Below.refl _ wr).drew
            have kp0 : wr.drew.cell? ⟨wo.heap.size, 1, none⟩ = some (.slice (some ⟨e1, f1, none⟩) rl.length rc) ∧ wr.drew.cell? ⟨wo.heap.size + 1, 1, none⟩ = some (.slice (some ⟨e2, f2, none⟩) rl.length rc2) ∧ wr.drew.cell? ⟨e1, f1 + j * 7, none⟩ = some (.bool rst) ∧ wr.drew.cell? ⟨e1, f1 + j * 7 + 1, none⟩ = some (.bool rfi) ∧ wr.drew.cell? ⟨e1, f1 + j * 7 + 2, none⟩ = some (.slice Xb rbe.length Xbc) ∧ wr.drew.cell? ⟨e1, f1 + j * 7 + 3, none⟩ = some (.slice Xs rsr.length Xsc) ∧ wr.drew.cell? ⟨e1, f1 + j * 7 + 4, none⟩ = some (.slice Xa raf.length Xac) ∧ wr.drew.cell? ⟨e1, f1 + j * 7 + 5, none⟩ = some (.slice Xt rta.length Xtc) ∧ wr.drew.cell? ⟨e1, f1 + j * 7 + 6, none⟩ = some (.int .i64 rcu) ∧ wr.drew.cell? ⟨e2, f2 + j * 7, none⟩ = some (.bool rst) ∧ wr.drew.cell? ⟨e2, f2 + j * 7 + 1, none⟩ = some (.bool rfi) ∧ wr.drew.cell? ⟨e2, f2 + j * 7 + 2, none⟩ = some (.slice Yb rbe.length Ybc) ∧ wr.drew.cell? ⟨e2, f2 + j * 7 + 3, none⟩ = some (.slice Ys rsr.length Ysc) ∧ wr.drew.cell? ⟨e2, f2 + j * 7 + 4, none⟩ = some (.slice Ya raf.length Yac) ∧ wr.drew.cell? ⟨e2, f2 + j * 7 + 5, none⟩ = some (.slice Yt rta.length Ytc) ∧ wr.drew.cell? ⟨e2, f2 + j * 7 + 6, none⟩ = some (.int .i64 rcu) := ⟨k1, k2, c0, c1, c2, c3, c4, c5, c6, d0, d1, d2, d3, d4, d5, d6⟩
            go_wp2
            go_region_held3 (fun w' => w'.cell? ⟨wo.heap.size, 1, none⟩ = some (.slice (some ⟨e1, f1, none⟩) rl.length rc) ∧ w'.cell? ⟨wo.heap.size + 1, 1, none⟩ = some (.slice (some ⟨e2, f2, none⟩) rl.length rc2) ∧ w'.cell? ⟨e1, f1 + j * 7, none⟩ = some (.bool rst) ∧ w'.cell? ⟨e1, f1 + j * 7 + 1, none⟩ = some (.bool rfi) ∧ w'.cell? ⟨e1, f1 + j * 7 + 2, none⟩ = some (.slice Xb rbe.length Xbc) ∧ w'.cell? ⟨e1, f1 + j * 7 + 3, none⟩ = some (.slice Xs rsr.length Xsc) ∧ w'.cell? ⟨e1, f1 + j * 7 + 4, none⟩ = some (.slice Xa raf.length Xac) ∧ w'.cell? ⟨e1, f1 + j * 7 + 5, none⟩ = some (.slice Xt rta.length Xtc) ∧ w'.cell? ⟨e1, f1 + j * 7 + 6, none⟩ = some (.int .i64 rcu) ∧ w'.cell? ⟨e2, f2 + j * 7, none⟩ = some (.bool rst) ∧ w'.cell? ⟨e2, f2 + j * 7 + 1, none⟩ = some (.bool rfi) ∧ w'.cell? ⟨e2, f2 + j * 7 + 2, none⟩ = some (.slice Yb rbe.length Ybc) ∧ w'.cell? ⟨e2, f2 + j * 7 + 3, none⟩ = some (.slice Ys rsr.length Ysc) ∧ w'.cell? ⟨e2, f2 + j * 7 + 4, none⟩ = some (.slice Ya raf.length Yac) ∧ w'.cell? ⟨e2, f2 + j * 7 + 5, none⟩ = some (.slice Yt rta.length Ytc) ∧ w'.cell? ⟨e2, f2 + j * 7 + 6, none⟩ = some (.int .i64 rcu))
              (first | with_reducible exact kp1 | with_reducible exact kp0 | go_keep)
              (first
                | (go_at_call 26; refine (HSm.out _ bD).mono ?_; rintro e w5 ⟨rfl, b5⟩; have kk := R.Keeps.of_below b5 (Nat.le_refl _); have kp1 : w5.cell? ⟨wo.heap.size, 1, none⟩ = some (.slice (some ⟨e1, f1, none⟩) rl.length rc) ∧ w5.cell? ⟨wo.heap.size + 1, 1, none⟩ = some (.slice (some ⟨e2, f2, none⟩) rl.length rc2) ∧ w5.cell? ⟨e1, f1 + j * 7, none⟩ = some (.bool rst) ∧ w5.cell? ⟨e1, f1 + j * 7 + 1, none⟩ = some (.bool rfi) ∧ w5.cell? ⟨e1, f1 + j * 7 + 2, none⟩ = some (.slice Xb rbe.length Xbc) ∧ w5.cell? ⟨e1, f1 + j * 7 + 3, none⟩ = some (.slice Xs rsr.length Xsc) ∧ w5.cell? ⟨e1, f1 + j * 7 + 4, none⟩ = some (.slice Xa raf.length Xac) ∧ w5.cell? ⟨e1, f1 + j * 7 + 5, none⟩ = some (.slice Xt rta.length Xtc) ∧ w5.cell? ⟨e1, f1 + j * 7 + 6, none⟩ = some (.int .i64 rcu) ∧ w5.cell? ⟨e2, f2 + j * 7, none⟩ = some (.bool rst) ∧ w5.cell? ⟨e2, f2 + j * 7 + 1, none⟩ = some (.bool rfi) ∧ w5.cell? ⟨e2, f2 + j * 7 + 2, none⟩ = some (.slice Yb rbe.length Ybc) ∧ w5.cell? ⟨e2, f2 + j * 7 + 3, none⟩ = some (.slice Ys rsr.length Ysc) ∧ w5.cell? ⟨e2, f2 + j * 7 + 4, none⟩ = some (.slice Ya raf.length Yac) ∧ w5.cell? ⟨e2, f2 + j * 7 + 5, none⟩ = some (.slice Yt rta.length Ytc) ∧ w5.cell? ⟨e2, f2 + j * 7 + 6, none⟩ = some (.int .i64 rcu) := ⟨kk _ _ _ k1, kk _ _ _ k2, kk _ _ _ c0, kk _ _ _ c1, kk _ _ _ c2, kk _ _ _ c3, kk _ _ _ c4, kk _ _ _ c5, kk _ _ _ c6, kk _ _ _ d0, kk _ _ _ d1, kk _ _ _ d2, kk _ _ _ d3, kk _ _ _ d4, kk _ _ _ d5, kk _ _ _ d6⟩; have HB5 : Hid (Below wr.drew.heap.size wr.drew w5) := b5; clear b5 kk)
                | fail)
            all_goals clear kp0 kp1
            all_goals have HB6 : Hid (Below W0.heap.size W0 w5) := (HI.out.trans (bD.mono HI.out.size)).trans (HB5.out.mono (HI.out.trans (bD.mono HI.out.size)).size)
            all_goals go_wp2
            all_goals go_roundw
            all_goals first
              | exact ⟨j + 1, by omega, by go_num, HB6⟩
              | (simp [RowKit.intOf]; omega)
          · have HB9 : Hid (Below w1.heap.size w1 wr) := HB.out.trans (HI0.out.mono HB.out.size)
            go_wp2
            go_roundw
            case rel => exact ⟨k + 1, by omega, by go_num, HB9⟩
            case measure => simp [RowKit.intOf]; omega
      · obtain ⟨W0, hW0⟩ : ∃ W0, W0 = ((wr.alloc (.cells #[.string nm, .slice ro2 rl.length rc2] 50)).alloc (.cells #[.string nm, .slice ro rl.length rc] 50)).drew := ⟨_, rfl⟩
        rw [← hW0]
        obtain ⟨h1, h2, BW, hsW⟩ := K.two_boxes (w1 := W0) (w := wr) (o1 := (.cells #[.string nm, .slice ro2 rl.length rc2] 50)) (o2 := (.cells #[.string nm, .slice ro rl.length rc] 50)) (by rw [hW0]; exact (Below.refl _ _).drew)
        clear hW0
        have p0 := K.at_box (i := 0) h2 rfl
        have p1 := K.at_box (i := 1) h2 rfl
        have q0 := K.at_box (i := 0) h1 rfl
        have q1 := K.at_box (i := 1) h1 rfl
        clear h1 h2 z2 z3 c0 c1 d0 d1 hb1 hb2 hb3 hb4
        obtain ⟨wo, hwo⟩ : ∃ wo, wo = wr := ⟨_, rfl⟩
        subst hwo
        have HBW : Hid (Below wo.heap.size wo W0) := BW
        have HP : Hid (W0.cell? ⟨wo.heap.size + 1, 1, none⟩ = some (.slice ro rl.length rc) ∧ W0.cell? ⟨wo.heap.size, 1, none⟩ = some (.slice ro2 rl.length rc2)) := ⟨p1, q1⟩
        clear BW
        go_wp2
        clear p0 p1 q0 q1
        go_loopw [64] (fun i wr => ∃ j : Nat, j ≤ rl.length ∧ i = .int .i64 j ∧ Hid (Below W0.heap.size W0 wr)) (fun i _ => rl.length - (RowKit.intOf i).toNat)
        case atStart => exact ⟨0, Nat.zero_le _, rfl, Below.refl _ W0⟩
        case round =>
          obtain ⟨j, hj, rfl, HI⟩ := hrel
          have HI0 : Hid (Below wo.heap.size wo wr) := HBW.out.trans (HI.out.mono HBW.out.size)
          by_cases hjl : j < rl.length
          · obtain ⟨x, hx⟩ : ∃ x, rl[j]? = some x := ⟨rl[j], by simp [hjl]⟩
            have k1 : wr.cell? ⟨wo.heap.size + 1, 1, none⟩ = some (.slice ro rl.length rc) := by rw [HI.out.cell (p := ⟨wo.heap.size + 1, 1, none⟩) (L.block_lt HP.out.1)]; exact HP.out.1
            have k2 : wr.cell? ⟨wo.heap.size, 1, none⟩ = some (.slice ro2 rl.length rc2) := by rw [HI.out.cell (p := ⟨wo.heap.size, 1, none⟩) (L.block_lt HP.out.2)]; exact HP.out.2
            obtain ⟨ao', ca', e', _, hcs⟩ := HH.out.1.below HI0.out
            cases e'
            obtain ⟨e1, f1, rfl, hcell⟩ := hcs (by intro h; subst h; simp at hjl)
            obtain ⟨Xb, Xbc, Xs, Xsc, Xa, Xac, Xt, Xtc, c0, c1, c2, c3, c4, c5, c6, hr1⟩ := hcell j x hx
            obtain ⟨bo', cb', e2', _, hds⟩ := HH.out.2.1.below HI0.out
            cases e2'
            obtain ⟨e2, f2, rfl, hdell⟩ := hds (by intro h; subst h; simp at hjl)
            obtain ⟨Yb, Ybc, Ys, Ysc, Ya, Yac, Yt, Ytc, d0, d1, d2, d3, d4, d5, d6, hr2⟩ := hdell j x hx
            have hsm := HH.out.2.2 x (List.mem_of_getElem? hx)
            clear hx hcell hcs hdell hds
            obtain ⟨rst, rfi, rbe, rsr, raf, rta, rcu⟩ := x
            simp only at c0 c1 c2 c3 c4 c5 c6 d0 d1 d2 d3 d4 d5 d6 hr1 hr2
            have HSm : Hid (∀ W, Below wr.heap.size wr W → Calls Tryz.prog 26 #[.agg #[.bool rst, .bool rfi, .slice Xb rbe.length Xbc, .slice Xs rsr.length Xsc, .slice Xa raf.length Xac, .slice Xt rta.length Xtc, .int .i64 rcu], .agg #[.bool rst, .bool rfi, .slice Yb rbe.length Ybc, .slice Ys rsr.length Ysc, .slice Ya raf.length Yac, .slice Yt rta.length Ytc, .int .i64 rcu]] W fun e w' => e = .returned (.bool true) ∧ Below W.heap.size W w') := fun W hW => vrule_eq W _ _ _ (hr1.below hW) (hr2.below hW) hsm
            clear hr1 hr2 hsm
            have bD : Below wr.heap.size wr wr.drew := (Below.refl _ wr).drew
            have kp0 : wr.drew.cell? ⟨wo.heap.size + 1, 1, none⟩ = some (.slice (some ⟨e1, f1, none⟩) rl.length rc) ∧ wr.drew.cell? ⟨wo.heap.size, 1, none⟩ = some (.slice (some ⟨e2, f2, none⟩) rl.length rc2) ∧ wr.drew.cell? ⟨e1, f1 + j * 7, none⟩ = some (.bool rst) ∧ wr.drew.cell? ⟨e1, f1 + j * 7 + 1, none⟩ = some (.bool rfi) ∧ wr.drew.cell? ⟨e1, f1 + j * 7 + 2, none⟩ = some (.slice Xb rbe.length Xbc) ∧ wr.drew.cell? ⟨e1, f1 + j * 7 + 3, none⟩ = some (.slice Xs rsr.length Xsc) ∧ wr.drew.cell? ⟨e1, f1 + j * 7 + 4, none⟩ = some (.slice Xa raf.length Xac) ∧ wr.drew.cell? ⟨e1, f1 + j * 7 + 5, none⟩ = some (.slice Xt rta.length Xtc) ∧ wr.drew.cell? ⟨e1, f1 + j * 7 + 6, none⟩ = some (.int .i64 rcu) ∧ wr.drew.cell? ⟨e2, f2 + j * 7, none⟩ = some (.bool rst) ∧ wr.drew.cell? ⟨e2, f2 + j * 7 + 1, none⟩ = some (.bool rfi) ∧ wr.drew.cell? ⟨e2, f2 + j * 7 + 2, none⟩ = some (.slice Yb rbe.length Ybc) ∧ wr.drew.cell? ⟨e2, f2 + j * 7 + 3, none⟩ = some (.slice Ys rsr.length Ysc) ∧ wr.drew.cell? ⟨e2, f2 + j * 7 + 4, none⟩ = some (.slice Ya raf.length Yac) ∧ wr.drew.cell? ⟨e2, f2 + j * 7 + 5, none⟩ = some (.slice Yt rta.length Ytc) ∧ wr.drew.cell? ⟨e2, f2 + j * 7 + 6, none⟩ = some (.int .i64 rcu) := ⟨k1, k2, c0, c1, c2, c3, c4, c5, c6, d0, d1, d2, d3, d4, d5, d6⟩
            go_wp2
            go_region_held3 (fun w' => w'.cell? ⟨wo.heap.size + 1, 1, none⟩ = some (.slice (some ⟨e1, f1, none⟩) rl.length rc) ∧ w'.cell? ⟨wo.heap.size, 1, none⟩ = some (.slice (some ⟨e2, f2, none⟩) rl.length rc2) ∧ w'.cell? ⟨e1, f1 + j * 7, none⟩ = some (.bool rst) ∧ w'.cell? ⟨e1, f1 + j * 7 + 1, none⟩ = some (.bool rfi) ∧ w'.cell? ⟨e1, f1 + j * 7 + 2, none⟩ = some (.slice Xb rbe.length Xbc) ∧ w'.cell? ⟨e1, f1 + j * 7 + 3, none⟩ = some (.slice Xs rsr.length Xsc) ∧ w'.cell? ⟨e1, f1 + j * 7 + 4, none⟩ = some (.slice Xa raf.length Xac) ∧ w'.cell? ⟨e1, f1 + j * 7 + 5, none⟩ = some (.slice Xt rta.length Xtc) ∧ w'.cell? ⟨e1, f1 + j * 7 + 6, none⟩ = some (.int .i64 rcu) ∧ w'.cell? ⟨e2, f2 + j * 7, none⟩ = some (.bool rst) ∧ w'.cell? ⟨e2, f2 + j * 7 + 1, none⟩ = some (.bool rfi) ∧ w'.cell? ⟨e2, f2 + j * 7 + 2, none⟩ = some (.slice Yb rbe.length Ybc) ∧ w'.cell? ⟨e2, f2 + j * 7 + 3, none⟩ = some (.slice Ys rsr.length Ysc) ∧ w'.cell? ⟨e2, f2 + j * 7 + 4, none⟩ = some (.slice Ya raf.length Yac) ∧ w'.cell? ⟨e2, f2 + j * 7 + 5, none⟩ = some (.slice Yt rta.length Ytc) ∧ w'.cell? ⟨e2, f2 + j * 7 + 6, none⟩ = some (.int .i64 rcu))
              (first | with_reducible exact kp1 | with_reducible exact kp0 | go_keep)
              (first
                | (go_at_call 26; refine (HSm.out _ bD).mono ?_; rintro e w5 ⟨rfl, b5⟩; have kk := R.Keeps.of_below b5 (Nat.le_refl _); have kp1 : w5.cell? ⟨wo.heap.size + 1, 1, none⟩ = some (.slice (some ⟨e1, f1, none⟩) rl.length rc) ∧ w5.cell? ⟨wo.heap.size, 1, none⟩ = some (.slice (some ⟨e2, f2, none⟩) rl.length rc2) ∧ w5.cell? ⟨e1, f1 + j * 7, none⟩ = some (.bool rst) ∧ w5.cell? ⟨e1, f1 + j * 7 + 1, none⟩ = some (.bool rfi) ∧ w5.cell? ⟨e1, f1 + j * 7 + 2, none⟩ = some (.slice Xb rbe.length Xbc) ∧ w5.cell? ⟨e1, f1 + j * 7 + 3, none⟩ = some (.slice Xs rsr.length Xsc) ∧ w5.cell? ⟨e1, f1 + j * 7 + 4, none⟩ = some (.slice Xa raf.length Xac) ∧ w5.cell? ⟨e1, f1 + j * 7 + 5, none⟩ = some (.slice Xt rta.length Xtc) ∧ w5.cell? ⟨e1, f1 + j * 7 + 6, none⟩ = some (.int .i64 rcu) ∧ w5.cell? ⟨e2, f2 + j * 7, none⟩ = some (.bool rst) ∧ w5.cell? ⟨e2, f2 + j * 7 + 1, none⟩ = some (.bool rfi) ∧ w5.cell? ⟨e2, f2 + j * 7 + 2, none⟩ = some (.slice Yb rbe.length Ybc) ∧ w5.cell? ⟨e2, f2 + j * 7 + 3, none⟩ = some (.slice Ys rsr.length Ysc) ∧ w5.cell? ⟨e2, f2 + j * 7 + 4, none⟩ = some (.slice Ya raf.length Yac) ∧ w5.cell? ⟨e2, f2 + j * 7 + 5, none⟩ = some (.slice Yt rta.length Ytc) ∧ w5.cell? ⟨e2, f2 + j * 7 + 6, none⟩ = some (.int .i64 rcu) := ⟨kk _ _ _ k1, kk _ _ _ k2, kk _ _ _ c0, kk _ _ _ c1, kk _ _ _ c2, kk _ _ _ c3, kk _ _ _ c4, kk _ _ _ c5, kk _ _ _ c6, kk _ _ _ d0, kk _ _ _ d1, kk _ _ _ d2, kk _ _ _ d3, kk _ _ _ d4, kk _ _ _ d5, kk _ _ _ d6⟩; have HB5 : Hid (Below wr.drew.heap.size wr.drew w5) := b5; clear b5 kk)
                | fail)
            all_goals clear kp0 kp1
            all_goals have HB6 : Hid (Below W0.heap.size W0 w5) := (HI.out.trans (bD.mono HI.out.size)).trans (HB5.out.mono (HI.out.trans (bD.mono HI.out.size)).size)
            all_goals go_wp2
            all_goals go_roundw
            all_goals first
              | exact ⟨j + 1, by omega, by go_num, HB6⟩
              | (simp [RowKit.intOf]; omega)
          · have HB9 : Hid (Below w1.heap.size w1 wr) := HB.out.trans (HI0.out.mono HB.out.size)
            go_wp2
            go_roundw
            case rel => exact ⟨k + 1, by omega, by go_num, HB9⟩
            case measure => simp [RowKit.intOf]; omega
    · go_wp2
      go_ret
      exact ⟨rfl, HB0.out⟩

end Go.Proofs.YtchkcjaahjhbcabGreatDoor
