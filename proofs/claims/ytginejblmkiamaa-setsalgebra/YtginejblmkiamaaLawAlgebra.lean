/-
  The statement SetsAlgebra of chapter 2, walked call by call.
-/
import Derived.Test.YtginejblmkiamaaSSteps
namespace Go.Proofs.Ytginejblmkiamaa
open Go.RowKit

theorem three_cells (w : World) (x y z : Value) (t : TypeId) (i : Nat) (v : Value) (h : [x, y, z][i]? = some v) : (w.alloc (.cells #[x, y, z] t)).cell? ⟨w.heap.size, i, none⟩ = some v := by
  match i, h with
  | 0, h => simp at h; subst h; rw [World.cell?_alloc_at _ _ _ _ (by simp)]; rfl
  | 1, h => simp at h; subst h; rw [World.cell?_alloc_at _ _ _ _ (by simp)]; rfl
  | 2, h => simp at h; subst h; rw [World.cell?_alloc_at _ _ _ _ (by simp)]; rfl
  | i + 3, h => simp at h

set_option maxHeartbeats 4000000 in
set_option maxRecDepth 100000 in
theorem algebra_any (w : World) (va vb vc : Value) (a b c : List S.Sp) (Ra : S.Rd w va a) (Rb : S.Rd w vb b) (Rc : S.Rd w vc c) (Fa : S.Fit a) (Fb : S.Fit b) (Fc : S.Fit c) (la : a.length ≤ 17592186044160) (lb : b.length ≤ 17592186044160) (lc : c.length ≤ 17592186044160) :
    Calls Try.prog 5 #[va, vb, vc] w fun e w' => e = .returned (.bool true) ∧ Below w.heap.size w w' := by
  have HA : Hid (S.Rd w va a) := Ra
  have HB : Hid (S.Rd w vb b) := Rb
  have HC : Hid (S.Rd w vc c) := Rc
  obtain ⟨aa, ca, rfl⟩ := Ra.len
  obtain ⟨ab, cb, rfl⟩ := Rb.len
  obtain ⟨ac, cc, rfl⟩ := Rc.len
  clear Ra Rb Rc
  go_enter Try.func5, Try.ntmps5
  go_wp2_with fail
  refine (alive_any w).mono ?_
  rintro e w1 ⟨rfl, b1⟩
  have hs1 := b1.size
  have BW1 : Hid (Below w.heap.size w w1) := b1
  have BWa : Hid (∀ o, Below w.heap.size w (w1.alloc o)) := fun o => b1.alloc hs1 o
  clear b1
  have hsm := small_any (w1.alloc (.cells #[.slice aa a.length ca, .slice ab b.length cb, .slice ac c.length cc] 22)) w1.heap.size [.slice aa a.length ca, .slice ab b.length cb, .slice ac c.length cc] [a, b, c] rfl (by simp) (fun i v h => three_cells w1 _ _ _ _ i v h) (fun i v l hv hl => by
    match i, hv, hl with
    | 0, hv, hl => simp at hv hl; subst hv; subst hl; exact ⟨HA.out.below (BWa.out _) (Nat.le_refl _), Fa, la⟩
    | 1, hv, hl => simp at hv hl; subst hv; subst hl; exact ⟨HB.out.below (BWa.out _) (Nat.le_refl _), Fb, lb⟩
    | 2, hv, hl => simp at hv hl; subst hv; subst hl; exact ⟨HC.out.below (BWa.out _) (Nat.le_refl _), Fc, lc⟩
    | i + 3, hv, hl => simp at hv)
  change Calls _ _ #[.slice (some ⟨w1.heap.size, 0, none⟩) 3 3] _ _ at hsm
  cases hall : [a, b, c].all smallF with
  | false =>
    rw [hall] at hsm
    clear hall
    go_wp2_with fail
    refine hsm.mono ?_
    clear hsm
    rintro e w2 ⟨rfl, b2⟩
    go_wp2
    go_ret
    exact ⟨rfl, (BWa.out _).trans (b2.mono (by simp; omega))⟩
  | true =>
    rw [hall] at hsm
    simp only [List.all_cons, List.all_nil, Bool.and_true, Bool.and_eq_true, smallF_iff] at hall
    obtain ⟨ha, hb, hc⟩ := hall
    have ha : Ok a 50 := ha
    have hb : Ok b 50 := hb
    have hc : Ok c 50 := hc
    have e28 : ∀ args w, (callFunc 28 args).run Try.prog w = .ok (.enter 28 args) w := enters_of Try.func28 (by kernel_rfl) rfl
    have e29 : ∀ args w, (callFunc 29 args).run Try.prog w = .ok (.enter 29 args) w := enters_of Try.func29 (by kernel_rfl) rfl
    have e30 : ∀ args w, (callFunc 30 args).run Try.prog w = .ok (.enter 30 args) w := enters_of Try.func30 (by kernel_rfl) rfl
    have e12 : ∀ args w, (callFunc 12 args).run Try.prog w = .ok (.enter 12 args) w := enters_of Try.func12 (by kernel_rfl) rfl
    go_wp2_with fail
    refine hsm.mono ?_
    clear hsm
    rintro e w2 ⟨rfl, b2⟩
    have BW2 : Hid (Below w.heap.size w w2) := (BWa.out _).trans (b2.mono (by simp; omega))
    clear b2
    have hmi := minus_any w2 _ _ a b (HA.out.below BW2.out (Nat.le_refl _)) (HB.out.below BW2.out (Nat.le_refl _)) ha.fit hb.fit
    rw [ha.wrong (by decide), hb.wrong (by decide)] at hmi
    have hdl : (S.nf (S.minP a b)).length ≤ 200 := Nat.le_trans (D_len ha hb) (by decide)
    go_wp2_with fail
    refine hmi.mono ?_
    clear hmi
    rintro e W0 ⟨v0, rfl, r0, b0, _⟩
    rw [S.resL_ok hdl] at r0
    rw [S.resE_ok hdl]
    obtain ⟨ao0, c0, rfl⟩ := r0.len
    generalize hn0 : (S.nf (S.minP a b)).length = n0 at r0 ⊢
    have R0 : Hid (S.Rd W0 (.slice ao0 n0 c0) (S.D a b)) := r0
    have HB0 : Hid (Below w.heap.size w W0) := BW2.out.trans (b0.mono BW2.out.size)
    clear r0 b0 hdl hn0
    go_wp2_with fail
    refine (or_step W0 _ _ _ _ _ _ (HA.out.below HB0.out (Nat.le_refl _)) (HB.out.below HB0.out (Nat.le_refl _)) ha hb (by decide)).mono ?_
    rintro e W1 ⟨ao1, n1, c1, rfl, r1, b1⟩
    have R1 : Hid (S.Rd W1 (.slice ao1 n1 c1) (S.U a b)) := r1
    clear r1
    have B1 : Hid (Below W0.heap.size W0 W1) := b1
    have HB1 : Hid (Below w.heap.size w W1) := HB0.out.trans (b1.mono HB0.out.size)
    clear b1
    go_wp2_with fail
    refine (or_step W1 _ _ _ _ _ _ (HB.out.below HB1.out (Nat.le_refl _)) (HA.out.below HB1.out (Nat.le_refl _)) hb ha (by decide)).mono ?_
    rintro e W2 ⟨ao2, n2, c2, rfl, r2, b2⟩
    have R2 : Hid (S.Rd W2 (.slice ao2 n2 c2) (S.U b a)) := r2
    clear r2
    have B2 : Hid (Below W1.heap.size W1 W2) := b2
    have HB2 : Hid (Below w.heap.size w W2) := HB1.out.trans (b2.mono HB1.out.size)
    clear b2
    go_wp2_with fail
    refine (same_true W2 _ _ _ _ (R1.out.below B2.out (Nat.le_refl _)) R2.out (S.U_comm _ _) (by have := ((hb.U ha)).2; omega)).mono ?_
    rintro e W3 ⟨rfl, b3⟩
    have B3 : Hid (Below W2.heap.size W2 W3) := b3
    have HB3 : Hid (Below w.heap.size w W3) := HB2.out.trans (b3.mono HB2.out.size)
    clear b3
    go_wp2_with fail
    refine (and_step W3 _ _ _ _ _ _ (HA.out.below HB3.out (Nat.le_refl _)) (HB.out.below HB3.out (Nat.le_refl _)) ha hb (by decide)).mono ?_
    rintro e W4 ⟨ao4, n4, c4, rfl, r4, b4⟩
    have R4 : Hid (S.Rd W4 (.slice ao4 n4 c4) (S.I a b)) := r4
    clear r4
    have B4 : Hid (Below W3.heap.size W3 W4) := b4
    have HB4 : Hid (Below w.heap.size w W4) := HB3.out.trans (b4.mono HB3.out.size)
    clear b4
    go_wp2_with fail
    refine (and_step W4 _ _ _ _ _ _ (HB.out.below HB4.out (Nat.le_refl _)) (HA.out.below HB4.out (Nat.le_refl _)) hb ha (by decide)).mono ?_
    rintro e W5 ⟨ao5, n5, c5, rfl, r5, b5⟩
    have R5 : Hid (S.Rd W5 (.slice ao5 n5 c5) (S.I b a)) := r5
    clear r5
    have B5 : Hid (Below W4.heap.size W4 W5) := b5
    have HB5 : Hid (Below w.heap.size w W5) := HB4.out.trans (b5.mono HB4.out.size)
    clear b5
    go_wp2_with fail
    refine (same_true W5 _ _ _ _ (R4.out.below B5.out (Nat.le_refl _)) R5.out (S.I_comm _ _) (by have := ((hb.I ha)).2; omega)).mono ?_
    rintro e W6 ⟨rfl, b6⟩
    have B6 : Hid (Below W5.heap.size W5 W6) := b6
    have HB6 : Hid (Below w.heap.size w W6) := HB5.out.trans (b6.mono HB5.out.size)
    clear b6
    go_wp2_with fail
    refine (or_step W6 _ _ _ _ _ _ (HA.out.below HB6.out (Nat.le_refl _)) (HB.out.below HB6.out (Nat.le_refl _)) ha hb (by decide)).mono ?_
    rintro e W7 ⟨ao7, n7, c7, rfl, r7, b7⟩
    have R7 : Hid (S.Rd W7 (.slice ao7 n7 c7) (S.U a b)) := r7
    clear r7
    have B7 : Hid (Below W6.heap.size W6 W7) := b7
    have HB7 : Hid (Below w.heap.size w W7) := HB6.out.trans (b7.mono HB6.out.size)
    clear b7
    go_wp2_with fail
    refine (or_step W7 _ _ _ _ _ _ R7.out (HC.out.below HB7.out (Nat.le_refl _)) (ha.U hb) hc (by decide)).mono ?_
    rintro e W8 ⟨ao8, n8, c8, rfl, r8, b8⟩
    have R8 : Hid (S.Rd W8 (.slice ao8 n8 c8) (S.U (S.U a b) c)) := r8
    clear r8
    have B8 : Hid (Below W7.heap.size W7 W8) := b8
    have HB8 : Hid (Below w.heap.size w W8) := HB7.out.trans (b8.mono HB7.out.size)
    clear b8
    go_wp2_with fail
    refine (or_step W8 _ _ _ _ _ _ (HB.out.below HB8.out (Nat.le_refl _)) (HC.out.below HB8.out (Nat.le_refl _)) hb hc (by decide)).mono ?_
    rintro e W9 ⟨ao9, n9, c9, rfl, r9, b9⟩
    have R9 : Hid (S.Rd W9 (.slice ao9 n9 c9) (S.U b c)) := r9
    clear r9
    have B9 : Hid (Below W8.heap.size W8 W9) := b9
    have HB9 : Hid (Below w.heap.size w W9) := HB8.out.trans (b9.mono HB8.out.size)
    clear b9
    go_wp2_with fail
    refine (or_step W9 _ _ _ _ _ _ (HA.out.below HB9.out (Nat.le_refl _)) R9.out ha (hb.U hc) (by decide)).mono ?_
    rintro e W10 ⟨ao10, n10, c10, rfl, r10, b10⟩
    have R10 : Hid (S.Rd W10 (.slice ao10 n10 c10) (S.U a (S.U b c))) := r10
    clear r10
    have B10 : Hid (Below W9.heap.size W9 W10) := b10
    have HB10 : Hid (Below w.heap.size w W10) := HB9.out.trans (b10.mono HB9.out.size)
    clear b10
    go_wp2_with fail
    refine (same_true W10 _ _ _ _ ((R8.out.below B9.out (Nat.le_refl _)).below B10.out (Nat.le_refl _)) R10.out (S.U_assoc _ _ _) (by have := ((ha.U (hb.U hc))).2; omega)).mono ?_
    rintro e W11 ⟨rfl, b11⟩
    have B11 : Hid (Below W10.heap.size W10 W11) := b11
    have HB11 : Hid (Below w.heap.size w W11) := HB10.out.trans (b11.mono HB10.out.size)
    clear b11
    go_wp2_with fail
    refine (and_step W11 _ _ _ _ _ _ (HA.out.below HB11.out (Nat.le_refl _)) (HB.out.below HB11.out (Nat.le_refl _)) ha hb (by decide)).mono ?_
    rintro e W12 ⟨ao12, n12, c12, rfl, r12, b12⟩
    have R12 : Hid (S.Rd W12 (.slice ao12 n12 c12) (S.I a b)) := r12
    clear r12
    have B12 : Hid (Below W11.heap.size W11 W12) := b12
    have HB12 : Hid (Below w.heap.size w W12) := HB11.out.trans (b12.mono HB11.out.size)
    clear b12
    go_wp2_with fail
    refine (and_step W12 _ _ _ _ _ _ R12.out (HC.out.below HB12.out (Nat.le_refl _)) (ha.I hb) hc (by decide)).mono ?_
    rintro e W13 ⟨ao13, n13, c13, rfl, r13, b13⟩
    have R13 : Hid (S.Rd W13 (.slice ao13 n13 c13) (S.I (S.I a b) c)) := r13
    clear r13
    have B13 : Hid (Below W12.heap.size W12 W13) := b13
    have HB13 : Hid (Below w.heap.size w W13) := HB12.out.trans (b13.mono HB12.out.size)
    clear b13
    go_wp2_with fail
    refine (and_step W13 _ _ _ _ _ _ (HB.out.below HB13.out (Nat.le_refl _)) (HC.out.below HB13.out (Nat.le_refl _)) hb hc (by decide)).mono ?_
    rintro e W14 ⟨ao14, n14, c14, rfl, r14, b14⟩
    have R14 : Hid (S.Rd W14 (.slice ao14 n14 c14) (S.I b c)) := r14
    clear r14
    have B14 : Hid (Below W13.heap.size W13 W14) := b14
    have HB14 : Hid (Below w.heap.size w W14) := HB13.out.trans (b14.mono HB13.out.size)
    clear b14
    go_wp2_with fail
    refine (and_step W14 _ _ _ _ _ _ (HA.out.below HB14.out (Nat.le_refl _)) R14.out ha (hb.I hc) (by decide)).mono ?_
    rintro e W15 ⟨ao15, n15, c15, rfl, r15, b15⟩
    have R15 : Hid (S.Rd W15 (.slice ao15 n15 c15) (S.I a (S.I b c))) := r15
    clear r15
    have B15 : Hid (Below W14.heap.size W14 W15) := b15
    have HB15 : Hid (Below w.heap.size w W15) := HB14.out.trans (b15.mono HB14.out.size)
    clear b15
    go_wp2_with fail
    refine (same_true W15 _ _ _ _ ((R13.out.below B14.out (Nat.le_refl _)).below B15.out (Nat.le_refl _)) R15.out (S.I_assoc _ _ _) (by have := ((ha.I (hb.I hc))).2; omega)).mono ?_
    rintro e W16 ⟨rfl, b16⟩
    have B16 : Hid (Below W15.heap.size W15 W16) := b16
    have HB16 : Hid (Below w.heap.size w W16) := HB15.out.trans (b16.mono HB15.out.size)
    clear b16
    go_wp2_with fail
    refine (or_step W16 _ _ _ _ _ _ (HB.out.below HB16.out (Nat.le_refl _)) (HC.out.below HB16.out (Nat.le_refl _)) hb hc (by decide)).mono ?_
    rintro e W17 ⟨ao17, n17, c17, rfl, r17, b17⟩
    have R17 : Hid (S.Rd W17 (.slice ao17 n17 c17) (S.U b c)) := r17
    clear r17
    have B17 : Hid (Below W16.heap.size W16 W17) := b17
    have HB17 : Hid (Below w.heap.size w W17) := HB16.out.trans (b17.mono HB16.out.size)
    clear b17
    go_wp2_with fail
    refine (and_step W17 _ _ _ _ _ _ (HA.out.below HB17.out (Nat.le_refl _)) R17.out ha (hb.U hc) (by decide)).mono ?_
    rintro e W18 ⟨ao18, n18, c18, rfl, r18, b18⟩
    have R18 : Hid (S.Rd W18 (.slice ao18 n18 c18) (S.I a (S.U b c))) := r18
    clear r18
    have B18 : Hid (Below W17.heap.size W17 W18) := b18
    have HB18 : Hid (Below w.heap.size w W18) := HB17.out.trans (b18.mono HB17.out.size)
    clear b18
    go_wp2_with fail
    refine (and_step W18 _ _ _ _ _ _ (HA.out.below HB18.out (Nat.le_refl _)) (HB.out.below HB18.out (Nat.le_refl _)) ha hb (by decide)).mono ?_
    rintro e W19 ⟨ao19, n19, c19, rfl, r19, b19⟩
    have R19 : Hid (S.Rd W19 (.slice ao19 n19 c19) (S.I a b)) := r19
    clear r19
    have B19 : Hid (Below W18.heap.size W18 W19) := b19
    have HB19 : Hid (Below w.heap.size w W19) := HB18.out.trans (b19.mono HB18.out.size)
    clear b19
    go_wp2_with fail
    refine (and_step W19 _ _ _ _ _ _ (HA.out.below HB19.out (Nat.le_refl _)) (HC.out.below HB19.out (Nat.le_refl _)) ha hc (by decide)).mono ?_
    rintro e W20 ⟨ao20, n20, c20, rfl, r20, b20⟩
    have R20 : Hid (S.Rd W20 (.slice ao20 n20 c20) (S.I a c)) := r20
    clear r20
    have B20 : Hid (Below W19.heap.size W19 W20) := b20
    have HB20 : Hid (Below w.heap.size w W20) := HB19.out.trans (b20.mono HB19.out.size)
    clear b20
    go_wp2_with fail
    refine (or_step W20 _ _ _ _ _ _ (R19.out.below B20.out (Nat.le_refl _)) R20.out (ha.I hb) (ha.I hc) (by decide)).mono ?_
    rintro e W21 ⟨ao21, n21, c21, rfl, r21, b21⟩
    have R21 : Hid (S.Rd W21 (.slice ao21 n21 c21) (S.U (S.I a b) (S.I a c))) := r21
    clear r21
    have B21 : Hid (Below W20.heap.size W20 W21) := b21
    have HB21 : Hid (Below w.heap.size w W21) := HB20.out.trans (b21.mono HB20.out.size)
    clear b21
    go_wp2_with fail
    refine (same_true W21 _ _ _ _ (((R18.out.below B19.out (Nat.le_refl _)).below B20.out (Nat.le_refl _)).below B21.out (Nat.le_refl _)) R21.out (S.I_over _ _ _) (by have := (((ha.I hb).U (ha.I hc))).2; omega)).mono ?_
    rintro e W22 ⟨rfl, b22⟩
    have B22 : Hid (Below W21.heap.size W21 W22) := b22
    have HB22 : Hid (Below w.heap.size w W22) := HB21.out.trans (b22.mono HB21.out.size)
    clear b22
    go_wp2_with fail
    refine (and_step W22 _ _ _ _ _ _ (HB.out.below HB22.out (Nat.le_refl _)) (HC.out.below HB22.out (Nat.le_refl _)) hb hc (by decide)).mono ?_
    rintro e W23 ⟨ao23, n23, c23, rfl, r23, b23⟩
    have R23 : Hid (S.Rd W23 (.slice ao23 n23 c23) (S.I b c)) := r23
    clear r23
    have B23 : Hid (Below W22.heap.size W22 W23) := b23
    have HB23 : Hid (Below w.heap.size w W23) := HB22.out.trans (b23.mono HB22.out.size)
    clear b23
    go_wp2_with fail
    refine (or_step W23 _ _ _ _ _ _ (HA.out.below HB23.out (Nat.le_refl _)) R23.out ha (hb.I hc) (by decide)).mono ?_
    rintro e W24 ⟨ao24, n24, c24, rfl, r24, b24⟩
    have R24 : Hid (S.Rd W24 (.slice ao24 n24 c24) (S.U a (S.I b c))) := r24
    clear r24
    have B24 : Hid (Below W23.heap.size W23 W24) := b24
    have HB24 : Hid (Below w.heap.size w W24) := HB23.out.trans (b24.mono HB23.out.size)
    clear b24
    go_wp2_with fail
    refine (or_step W24 _ _ _ _ _ _ (HA.out.below HB24.out (Nat.le_refl _)) (HB.out.below HB24.out (Nat.le_refl _)) ha hb (by decide)).mono ?_
    rintro e W25 ⟨ao25, n25, c25, rfl, r25, b25⟩
    have R25 : Hid (S.Rd W25 (.slice ao25 n25 c25) (S.U a b)) := r25
    clear r25
    have B25 : Hid (Below W24.heap.size W24 W25) := b25
    have HB25 : Hid (Below w.heap.size w W25) := HB24.out.trans (b25.mono HB24.out.size)
    clear b25
    go_wp2_with fail
    refine (or_step W25 _ _ _ _ _ _ (HA.out.below HB25.out (Nat.le_refl _)) (HC.out.below HB25.out (Nat.le_refl _)) ha hc (by decide)).mono ?_
    rintro e W26 ⟨ao26, n26, c26, rfl, r26, b26⟩
    have R26 : Hid (S.Rd W26 (.slice ao26 n26 c26) (S.U a c)) := r26
    clear r26
    have B26 : Hid (Below W25.heap.size W25 W26) := b26
    have HB26 : Hid (Below w.heap.size w W26) := HB25.out.trans (b26.mono HB25.out.size)
    clear b26
    go_wp2_with fail
    refine (and_step W26 _ _ _ _ _ _ (R25.out.below B26.out (Nat.le_refl _)) R26.out (ha.U hb) (ha.U hc) (by decide)).mono ?_
    rintro e W27 ⟨ao27, n27, c27, rfl, r27, b27⟩
    have R27 : Hid (S.Rd W27 (.slice ao27 n27 c27) (S.I (S.U a b) (S.U a c))) := r27
    clear r27
    have B27 : Hid (Below W26.heap.size W26 W27) := b27
    have HB27 : Hid (Below w.heap.size w W27) := HB26.out.trans (b27.mono HB26.out.size)
    clear b27
    go_wp2_with fail
    refine (same_true W27 _ _ _ _ (((R24.out.below B25.out (Nat.le_refl _)).below B26.out (Nat.le_refl _)).below B27.out (Nat.le_refl _)) R27.out (S.U_over _ _ _) (by have := (((ha.U hb).I (ha.U hc))).2; omega)).mono ?_
    rintro e W28 ⟨rfl, b28⟩
    have B28 : Hid (Below W27.heap.size W27 W28) := b28
    have HB28 : Hid (Below w.heap.size w W28) := HB27.out.trans (b28.mono HB27.out.size)
    clear b28
    go_wp2_with fail
    refine (or_step W28 _ _ _ _ _ _ (HA.out.below HB28.out (Nat.le_refl _)) (HB.out.below HB28.out (Nat.le_refl _)) ha hb (by decide)).mono ?_
    rintro e W29 ⟨ao29, n29, c29, rfl, r29, b29⟩
    have R29 : Hid (S.Rd W29 (.slice ao29 n29 c29) (S.U a b)) := r29
    clear r29
    have B29 : Hid (Below W28.heap.size W28 W29) := b29
    have HB29 : Hid (Below w.heap.size w W29) := HB28.out.trans (b29.mono HB28.out.size)
    clear b29
    go_wp2_with fail
    refine (not_step W29 _ _ _ R29.out (ha.U hb) (by decide)).mono ?_
    rintro e W30 ⟨ao30, n30, c30, rfl, r30, b30⟩
    have R30 : Hid (S.Rd W30 (.slice ao30 n30 c30) (S.C (S.U a b))) := r30
    clear r30
    have B30 : Hid (Below W29.heap.size W29 W30) := b30
    have HB30 : Hid (Below w.heap.size w W30) := HB29.out.trans (b30.mono HB29.out.size)
    clear b30
    go_wp2_with fail
    refine (not_step W30 _ _ _ (HA.out.below HB30.out (Nat.le_refl _)) ha (by decide)).mono ?_
    rintro e W31 ⟨ao31, n31, c31, rfl, r31, b31⟩
    have R31 : Hid (S.Rd W31 (.slice ao31 n31 c31) (S.C a)) := r31
    clear r31
    have B31 : Hid (Below W30.heap.size W30 W31) := b31
    have HB31 : Hid (Below w.heap.size w W31) := HB30.out.trans (b31.mono HB30.out.size)
    clear b31
    go_wp2_with fail
    refine (not_step W31 _ _ _ (HB.out.below HB31.out (Nat.le_refl _)) hb (by decide)).mono ?_
    rintro e W32 ⟨ao32, n32, c32, rfl, r32, b32⟩
    have R32 : Hid (S.Rd W32 (.slice ao32 n32 c32) (S.C b)) := r32
    clear r32
    have B32 : Hid (Below W31.heap.size W31 W32) := b32
    have HB32 : Hid (Below w.heap.size w W32) := HB31.out.trans (b32.mono HB31.out.size)
    clear b32
    go_wp2_with fail
    refine (and_step W32 _ _ _ _ _ _ (R31.out.below B32.out (Nat.le_refl _)) R32.out (ha.C) (hb.C) (by decide)).mono ?_
    rintro e W33 ⟨ao33, n33, c33, rfl, r33, b33⟩
    have R33 : Hid (S.Rd W33 (.slice ao33 n33 c33) (S.I (S.C a) (S.C b))) := r33
    clear r33
    have B33 : Hid (Below W32.heap.size W32 W33) := b33
    have HB33 : Hid (Below w.heap.size w W33) := HB32.out.trans (b33.mono HB32.out.size)
    clear b33
    go_wp2_with fail
    refine (same_true W33 _ _ _ _ (((R30.out.below B31.out (Nat.le_refl _)).below B32.out (Nat.le_refl _)).below B33.out (Nat.le_refl _)) R33.out (S.C_U _ _) (by have := (((ha.C).I (hb.C))).2; omega)).mono ?_
    rintro e W34 ⟨rfl, b34⟩
    have B34 : Hid (Below W33.heap.size W33 W34) := b34
    have HB34 : Hid (Below w.heap.size w W34) := HB33.out.trans (b34.mono HB33.out.size)
    clear b34
    go_wp2_with fail
    refine (not_step W34 _ _ _ (HA.out.below HB34.out (Nat.le_refl _)) ha (by decide)).mono ?_
    rintro e W35 ⟨ao35, n35, c35, rfl, r35, b35⟩
    have R35 : Hid (S.Rd W35 (.slice ao35 n35 c35) (S.C a)) := r35
    clear r35
    have B35 : Hid (Below W34.heap.size W34 W35) := b35
    have HB35 : Hid (Below w.heap.size w W35) := HB34.out.trans (b35.mono HB34.out.size)
    clear b35
    go_wp2_with fail
    refine (not_step W35 _ _ _ R35.out (ha.C) (by decide)).mono ?_
    rintro e W36 ⟨ao36, n36, c36, rfl, r36, b36⟩
    have R36 : Hid (S.Rd W36 (.slice ao36 n36 c36) (S.C (S.C a))) := r36
    clear r36
    have B36 : Hid (Below W35.heap.size W35 W36) := b36
    have HB36 : Hid (Below w.heap.size w W36) := HB35.out.trans (b36.mono HB35.out.size)
    clear b36
    go_wp2_with fail
    refine (same_true W36 _ _ _ _ R36.out (HA.out.below HB36.out (Nat.le_refl _)) (S.C_C ha.1) (by have := (ha).2; omega)).mono ?_
    rintro e W37 ⟨rfl, b37⟩
    have B37 : Hid (Below W36.heap.size W36 W37) := b37
    have HB37 : Hid (Below w.heap.size w W37) := HB36.out.trans (b37.mono HB36.out.size)
    clear b37
    go_wp2_with fail
    refine (or_step W37 _ _ _ _ _ _ (HA.out.below HB37.out (Nat.le_refl _)) (HA.out.below HB37.out (Nat.le_refl _)) ha ha (by decide)).mono ?_
    rintro e W38 ⟨ao38, n38, c38, rfl, r38, b38⟩
    have R38 : Hid (S.Rd W38 (.slice ao38 n38 c38) (S.U a a)) := r38
    clear r38
    have B38 : Hid (Below W37.heap.size W37 W38) := b38
    have HB38 : Hid (Below w.heap.size w W38) := HB37.out.trans (b38.mono HB37.out.size)
    clear b38
    go_wp2_with fail
    refine (same_true W38 _ _ _ _ R38.out (HA.out.below HB38.out (Nat.le_refl _)) (S.U_self ha.1) (by have := (ha).2; omega)).mono ?_
    rintro e W39 ⟨rfl, b39⟩
    have B39 : Hid (Below W38.heap.size W38 W39) := b39
    have HB39 : Hid (Below w.heap.size w W39) := HB38.out.trans (b39.mono HB38.out.size)
    clear b39
    go_wp2_with fail
    refine (not_step W39 _ _ _ (HA.out.below HB39.out (Nat.le_refl _)) ha (by decide)).mono ?_
    rintro e W40 ⟨ao40, n40, c40, rfl, r40, b40⟩
    have R40 : Hid (S.Rd W40 (.slice ao40 n40 c40) (S.C a)) := r40
    clear r40
    have B40 : Hid (Below W39.heap.size W39 W40) := b40
    have HB40 : Hid (Below w.heap.size w W40) := HB39.out.trans (b40.mono HB39.out.size)
    clear b40
    go_wp2_with fail
    refine (and_step W40 _ _ _ _ _ _ (HA.out.below HB40.out (Nat.le_refl _)) R40.out ha (ha.C) (by decide)).mono ?_
    rintro e W41 ⟨ao41, n41, c41, rfl, r41, b41⟩
    have R41 : Hid (S.Rd W41 (.slice ao41 n41 c41) (S.I a (S.C a))) := r41
    clear r41
    have B41 : Hid (Below W40.heap.size W40 W41) := b41
    have HB41 : Hid (Below w.heap.size w W41) := HB40.out.trans (b41.mono HB40.out.size)
    clear b41
    go_wp2_with fail
    refine (same_true W41 _ _ _ _ R41.out (S.Rd.nil _) (S.I_C _) (by decide)).mono ?_
    rintro e W42 ⟨rfl, b42⟩
    have B42 : Hid (Below W41.heap.size W41 W42) := b42
    have HB42 : Hid (Below w.heap.size w W42) := HB41.out.trans (b42.mono HB41.out.size)
    clear b42
    go_wp2_with fail
    refine (not_step W42 _ _ _ (HB.out.below HB42.out (Nat.le_refl _)) hb (by decide)).mono ?_
    rintro e W43 ⟨ao43, n43, c43, rfl, r43, b43⟩
    have R43 : Hid (S.Rd W43 (.slice ao43 n43 c43) (S.C b)) := r43
    clear r43
    have B43 : Hid (Below W42.heap.size W42 W43) := b43
    have HB43 : Hid (Below w.heap.size w W43) := HB42.out.trans (b43.mono HB42.out.size)
    clear b43
    go_wp2_with fail
    refine (and_step W43 _ _ _ _ _ _ (HA.out.below HB43.out (Nat.le_refl _)) R43.out ha (hb.C) (by decide)).mono ?_
    rintro e W44 ⟨ao44, n44, c44, rfl, r44, b44⟩
    have R44 : Hid (S.Rd W44 (.slice ao44 n44 c44) (S.I a (S.C b))) := r44
    clear r44
    have B44 : Hid (Below W43.heap.size W43 W44) := b44
    have HB44 : Hid (Below w.heap.size w W44) := HB43.out.trans (b44.mono HB43.out.size)
    clear b44
    go_wp2_with fail
    refine (same_true W44 _ _ _ _ ((((((((((((((((((((((((((((((((((((((((((((R0.out.below B1.out (Nat.le_refl _)).below B2.out (Nat.le_refl _)).below B3.out (Nat.le_refl _)).below B4.out (Nat.le_refl _)).below B5.out (Nat.le_refl _)).below B6.out (Nat.le_refl _)).below B7.out (Nat.le_refl _)).below B8.out (Nat.le_refl _)).below B9.out (Nat.le_refl _)).below B10.out (Nat.le_refl _)).below B11.out (Nat.le_refl _)).below B12.out (Nat.le_refl _)).below B13.out (Nat.le_refl _)).below B14.out (Nat.le_refl _)).below B15.out (Nat.le_refl _)).below B16.out (Nat.le_refl _)).below B17.out (Nat.le_refl _)).below B18.out (Nat.le_refl _)).below B19.out (Nat.le_refl _)).below B20.out (Nat.le_refl _)).below B21.out (Nat.le_refl _)).below B22.out (Nat.le_refl _)).below B23.out (Nat.le_refl _)).below B24.out (Nat.le_refl _)).below B25.out (Nat.le_refl _)).below B26.out (Nat.le_refl _)).below B27.out (Nat.le_refl _)).below B28.out (Nat.le_refl _)).below B29.out (Nat.le_refl _)).below B30.out (Nat.le_refl _)).below B31.out (Nat.le_refl _)).below B32.out (Nat.le_refl _)).below B33.out (Nat.le_refl _)).below B34.out (Nat.le_refl _)).below B35.out (Nat.le_refl _)).below B36.out (Nat.le_refl _)).below B37.out (Nat.le_refl _)).below B38.out (Nat.le_refl _)).below B39.out (Nat.le_refl _)).below B40.out (Nat.le_refl _)).below B41.out (Nat.le_refl _)).below B42.out (Nat.le_refl _)).below B43.out (Nat.le_refl _)).below B44.out (Nat.le_refl _)) R44.out (S.D_C _ _) (by have := ((ha.I (hb.C))).2; omega)).mono ?_
    rintro e W45 ⟨rfl, b45⟩
    have B45 : Hid (Below W44.heap.size W44 W45) := b45
    have HB45 : Hid (Below w.heap.size w W45) := HB44.out.trans (b45.mono HB44.out.size)
    clear b45
    go_wp2
    go_ret
    exact ⟨rfl, HB45.out⟩

end Go.Proofs.Ytginejblmkiamaa
