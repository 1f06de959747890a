/-
  scriptlaw18.NormTells: it returns true.
-/
import Derived.Test.YtbclmmkphjknaaaNmTog
import Derived.Test.YtbclmmkphjknaaaNmRefTog
import Derived.Test.YtbclmmkphjknaaaSame
namespace Go.Proofs.Ytbclmmkphjknaaa
open Go.RowKit Go.Lib
set_option maxRecDepth 20000
set_option linter.unusedSimpArgs false
set_option linter.unusedVariables false

theorem Nm.tog_bd (l : List Int) : (Nm.togF l).1.length ≤ 4000 := by
  have h := Nm.apart_len l
  unfold Nm.togF
  split
  · simp
  · exact Nat.le_trans (Nm.tog_len _) h
theorem Nm.bare_bd (l : List Int) : (Nm.bareF l).1.length ≤ 4000 := by
  have h := Nm.apart_len l
  unfold Nm.bareF
  split
  · simp
  · exact Nat.le_trans (List.length_filter_le _ _) h
theorem Nm.Prs.at {w : World} {v : Value} {l : List Nm.Pr} (h : Nm.Prs w v l) : ∃ b cap, v = .slice (some ⟨b, 0, none⟩) l.length cap ∧ ∀ W, Below w.heap.size w W → ∀ (j : Nat) x, l[j]? = some x → W.cell? ⟨b, j * 3, none⟩ = some (.int .i32 x.1) ∧ W.cell? ⟨b, j * 3 + 1, none⟩ = some (.int .i32 x.2.1) ∧ W.cell? ⟨b, j * 3 + 2, none⟩ = some (.int .i32 x.2.2) := by
  obtain ⟨b, cap, rfl, hc⟩ := h
  refine ⟨b, cap, rfl, fun W hb j x hj => ?_⟩
  obtain ⟨c0, c1, c2⟩ := hc j x hj
  exact ⟨by rw [hb.cell (p := ⟨b, j * 3, none⟩) (L.block_lt c0)]; exact c0, by rw [hb.cell (p := ⟨b, j * 3 + 1, none⟩) (L.block_lt c1)]; exact c1, by rw [hb.cell (p := ⟨b, j * 3 + 2, none⟩) (L.block_lt c2)]; exact c2⟩

set_option maxHeartbeats 16000000 in
theorem normTells_any (w : World) (xo : Option Addr) (xc : Nat) (t : List Int) (Rt : L.Rd w (.slice xo t.length xc) .i32 t) (ht : t.length ≤ 140737488355328) (r : Int) :
    Calls Try.prog 3 #[.slice xo t.length xc, .int .i32 r] w fun e w' => e = .returned (.bool true) ∧ Below w.heap.size w w' := by
  have HP1 : Hid (∀ X, Below w.heap.size w X → Calls Try.prog 9 #[.slice xo t.length xc] X fun e w' => ∃ v', e = .returned (.tuple #[v', .int .i64 (Nm.apartF t).2]) ∧ w'.ownsRow X.heap.size 21 1 v' (Nm.apartF t).1.length (K.ints (Nm.apartF t).1) ∧ Below X.heap.size X w') := fun X hX => nmApart_any X _ t (Rt.below hX (Nat.le_refl _)) ht
  have HR1 : Hid (∀ X, Below w.heap.size w X → Calls Try.prog 10 #[.slice xo t.length xc] X fun e w' => ∃ v', e = .returned (.tuple #[v', .int .i64 (Nm.apartF t).2]) ∧ w'.ownsRow X.heap.size 21 1 v' (Nm.apartF t).1.length (K.ints (Nm.apartF t).1) ∧ Below X.heap.size X w') := fun X hX => nmRefApart_any X _ t (Rt.below hX (Nat.le_refl _)) ht
  have HP2 : Hid (∀ X, Below w.heap.size w X → Calls Try.prog 12 #[.slice xo t.length xc] X fun e w' => ∃ v', e = .returned (.tuple #[v', .int .i64 (Nm.togF t).2]) ∧ w'.ownsRow X.heap.size 21 1 v' (Nm.togF t).1.length (K.ints (Nm.togF t).1) ∧ Below X.heap.size X w') := fun X hX => nmTog_any X _ t (Rt.below hX (Nat.le_refl _)) ht
  have HR2 : Hid (∀ X, Below w.heap.size w X → Calls Try.prog 13 #[.slice xo t.length xc] X fun e w' => ∃ v', e = .returned (.tuple #[v', .int .i64 (Nm.togF t).2]) ∧ w'.ownsRow X.heap.size 21 1 v' (Nm.togF t).1.length (K.ints (Nm.togF t).1) ∧ Below X.heap.size X w') := fun X hX => nmRefTog_any X _ t (Rt.below hX (Nat.le_refl _)) ht
  have HP3 : Hid (∀ X, Below w.heap.size w X → Calls Try.prog 14 #[.slice xo t.length xc] X fun e w' => ∃ v', e = .returned (.tuple #[v', .int .i64 (Nm.bareF t).2]) ∧ w'.ownsRow X.heap.size 21 1 v' (Nm.bareF t).1.length (K.ints (Nm.bareF t).1) ∧ Below X.heap.size X w') := fun X hX => nmBare_any X _ t (Rt.below hX (Nat.le_refl _)) ht
  have HR3 : Hid (∀ X, Below w.heap.size w X → Calls Try.prog 15 #[.slice xo t.length xc] X fun e w' => ∃ v', e = .returned (.tuple #[v', .int .i64 (Nm.bareF t).2]) ∧ w'.ownsRow X.heap.size 21 1 v' (Nm.bareF t).1.length (K.ints (Nm.bareF t).1) ∧ Below X.heap.size X w') := fun X hX => nmRefBare_any X _ t (Rt.below hX (Nat.le_refl _)) ht
  have HL1 : Hid ((Nm.apartF t).1.length ≤ 4000) := Nm.apart_len t
  have HL2 : Hid ((Nm.togF t).1.length ≤ 4000) := Nm.tog_bd t
  have HL3 : Hid ((Nm.bareF t).1.length ≤ 4000) := Nm.bare_bd t
  obtain ⟨⟨l1, e1⟩, h1⟩ : ∃ p, p = Nm.apartF t := ⟨_, rfl⟩
  rw [← h1] at HP1 HR1 HL1
  simp only at HP1 HR1 HL1
  obtain ⟨⟨l2, e2⟩, h2⟩ : ∃ p, p = Nm.togF t := ⟨_, rfl⟩
  rw [← h2] at HP2 HR2 HL2
  simp only at HP2 HR2 HL2
  obtain ⟨⟨l3, e3⟩, h3⟩ : ∃ p, p = Nm.bareF t := ⟨_, rfl⟩
  rw [← h3] at HP3 HR3 HL3
  simp only at HP3 HR3 HL3
  have hc1 := fun X => nmClass_any r X
  have hc2 := fun X => nmRefClass_any r X
  clear Rt h1 h2 h3
  go_enter Try.func3, Try.ntmps3
  go_wp2_with fail
  refine (nmPairs_any w).mono ?_
  rintro e w1 ⟨v1, rfl, p1, b1⟩
  have HP1' : Hid (Nm.Prs w1 v1 Nm.tab ∧ Below w.heap.size w w1) := ⟨p1, b1⟩
  clear p1 b1
  go_wp2_with fail
  refine (nmRefPairs_any w1).mono ?_
  rintro e w2 ⟨v2, rfl, p2, b2⟩
  obtain ⟨b, cap, rfl, hcb⟩ := HP1'.out.1.at
  obtain ⟨c, dap, rfl, hcc⟩ := p2.at
  rw [show Nm.tab.length = 74 from rfl]
  have HCb : Hid (∀ W, Below w2.heap.size w2 W → ∀ (j : Nat) x, Nm.tab[j]? = some x → W.cell? ⟨b, j * 3, none⟩ = some (.int .i32 x.1) ∧ W.cell? ⟨b, j * 3 + 1, none⟩ = some (.int .i32 x.2.1) ∧ W.cell? ⟨b, j * 3 + 2, none⟩ = some (.int .i32 x.2.2)) := fun W hW => hcb W (b2.trans (hW.mono b2.size))
  have HCc : Hid (∀ W, Below w2.heap.size w2 W → ∀ (j : Nat) x, Nm.tab[j]? = some x → W.cell? ⟨c, j * 3, none⟩ = some (.int .i32 x.1) ∧ W.cell? ⟨c, j * 3 + 1, none⟩ = some (.int .i32 x.2.1) ∧ W.cell? ⟨c, j * 3 + 2, none⟩ = some (.int .i32 x.2.2)) := hcc
  have HB2 : Hid (Below w.heap.size w w2) := HP1'.out.2.trans (b2.mono HP1'.out.2.size)
  clear b2 p2 hcb hcc HP1'
  go_wp2_with fail
  refine (hc1 _).mono ?_
  rintro e w3 ⟨rfl, h3⟩
  obtain rfl := h3.symm
  go_wp2_with fail
  refine (hc2 _).mono ?_
  rintro e w3 ⟨rfl, h3⟩
  obtain rfl := h3.symm
  clear h3 hc1 hc2
  go_wp2
  go_loopw [28] (fun i wr => ∃ j : Nat, j ≤ 74 ∧ i = .int .i64 j ∧ Hid (Below w2.heap.size w2 wr)) (fun i _ => 74 - (intOf i).toNat)
  case atStart => exact ⟨0, Nat.zero_le _, rfl, Below.refl _ _⟩
  case round =>
    obtain ⟨j, hj, rfl, HB⟩ := hrel
    by_cases hlt : j < 74
    · obtain ⟨⟨x0, x1, x2⟩, hx⟩ : ∃ x, Nm.tab[j]? = some x := ⟨Nm.tab[j]'(show j < Nm.tab.length from hlt), by simp⟩
      obtain ⟨a0, a1, a2⟩ := HCb.out wr HB.out j _ hx
      obtain ⟨c0, c1, c2⟩ := HCc.out wr HB.out j _ hx
      simp only at a0 a1 a2 c0 c1 c2
      clear hx
      go_wp2
      go_region
      go_wp2
      go_roundw
      case rel => exact ⟨j + 1, by omega, by go_num, HB.out.drew⟩
      case measure => simp [intOf]; omega
    · have HX3 : Hid (Below w.heap.size w wr) := HB2.out.trans (HB.out.mono HB2.out.size)
      clear HB HB2 HCb HCc
      have g1 := HP1.out wr HX3.out
      clear HP1
      go_wp2_with fail
      refine g1.mono ?_
      clear g1
      rintro e wp1 ⟨vp1, rfl, op1, bp1⟩
      have HB1 : Hid (Below w.heap.size w wp1) := HX3.out.trans (bp1.mono HX3.out.size)
      have HD1 : Hid (L.Rd wp1 vp1 .i32 l1) := K.rd_owns op1
      have r1 := HR1.out wp1 HB1.out
      clear op1 bp1 HX3 HR1
      go_wp2_with fail
      refine r1.mono ?_
      clear r1
      rintro e wr1 ⟨vr1, rfl, or1, br1⟩
      have HC1 : Hid (Below w.heap.size w wr1) := HB1.out.trans (br1.mono HB1.out.size)
      have s1 : Calls Try.prog 11 #[vp1, vr1] wr1 fun e w' => e = .returned (.bool true) ∧ Below wr1.heap.size wr1 w' := by
        refine (same_any wr1 _ _ l1 l1 (HD1.out.below br1 (Nat.le_refl _)) (K.rd_owns or1) (by have := HL1.out; omega) (by have := HL1.out; omega)).mono ?_
        rintro e w' ⟨h1, h2⟩
        exact ⟨by simpa using h1, h2⟩
      clear or1 br1 HD1 HB1 HL1
      go_wp2_with fail
      refine s1.mono ?_
      clear s1
      rintro e ws1 ⟨rfl, bs1⟩
      have HE1 : Hid (Below w.heap.size w ws1) := HC1.out.trans (bs1.mono HC1.out.size)
      clear bs1 HC1
      have g2 := HP2.out ws1 HE1.out
      clear HP2
      go_wp2_with fail
      refine g2.mono ?_
      clear g2
      rintro e wp2 ⟨vp2, rfl, op2, bp2⟩
      have HB2 : Hid (Below w.heap.size w wp2) := HE1.out.trans (bp2.mono HE1.out.size)
      have HD2 : Hid (L.Rd wp2 vp2 .i32 l2) := K.rd_owns op2
      have r2 := HR2.out wp2 HB2.out
      clear op2 bp2 HE1 HR2
      go_wp2_with fail
      refine r2.mono ?_
      clear r2
      rintro e wr2 ⟨vr2, rfl, or2, br2⟩
      have HC2 : Hid (Below w.heap.size w wr2) := HB2.out.trans (br2.mono HB2.out.size)
      have s2 : Calls Try.prog 11 #[vp2, vr2] wr2 fun e w' => e = .returned (.bool true) ∧ Below wr2.heap.size wr2 w' := by
        refine (same_any wr2 _ _ l2 l2 (HD2.out.below br2 (Nat.le_refl _)) (K.rd_owns or2) (by have := HL2.out; omega) (by have := HL2.out; omega)).mono ?_
        rintro e w' ⟨h1, h2⟩
        exact ⟨by simpa using h1, h2⟩
      clear or2 br2 HD2 HB2 HL2
      go_wp2_with fail
      refine s2.mono ?_
      clear s2
      rintro e ws2 ⟨rfl, bs2⟩
      have HE2 : Hid (Below w.heap.size w ws2) := HC2.out.trans (bs2.mono HC2.out.size)
      clear bs2 HC2
      have g3 := HP3.out ws2 HE2.out
      clear HP3
      go_wp2_with fail
      refine g3.mono ?_
      clear g3
      rintro e wp3 ⟨vp3, rfl, op3, bp3⟩
      have HB3 : Hid (Below w.heap.size w wp3) := HE2.out.trans (bp3.mono HE2.out.size)
      have HD3 : Hid (L.Rd wp3 vp3 .i32 l3) := K.rd_owns op3
      have r3 := HR3.out wp3 HB3.out
      clear op3 bp3 HE2 HR3
      go_wp2_with fail
      refine r3.mono ?_
      clear r3
      rintro e wr3 ⟨vr3, rfl, or3, br3⟩
      have HC3 : Hid (Below w.heap.size w wr3) := HB3.out.trans (br3.mono HB3.out.size)
      have s3 : Calls Try.prog 11 #[vp3, vr3] wr3 fun e w' => e = .returned (.bool true) ∧ Below wr3.heap.size wr3 w' := by
        refine (same_any wr3 _ _ l3 l3 (HD3.out.below br3 (Nat.le_refl _)) (K.rd_owns or3) (by have := HL3.out; omega) (by have := HL3.out; omega)).mono ?_
        rintro e w' ⟨h1, h2⟩
        exact ⟨by simpa using h1, h2⟩
      clear or3 br3 HD3 HB3 HL3
      go_wp2_with fail
      refine s3.mono ?_
      clear s3
      rintro e ws3 ⟨rfl, bs3⟩
      have HE3 : Hid (Below w.heap.size w ws3) := HC3.out.trans (bs3.mono HC3.out.size)
      clear bs3 HC3
      go_wp2
      go_ret
      exact ⟨by simp, HE3.out⟩

end Go.Proofs.Ytbclmmkphjknaaa
