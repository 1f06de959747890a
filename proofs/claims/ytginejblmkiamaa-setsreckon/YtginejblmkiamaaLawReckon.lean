/-
  The statement SetsReckon of chapter 2, walked call by call.
-/
import Derived.Test.YtginejblmkiamaaSDo2
import Derived.Test.YtginejblmkiamaaSSteps
namespace Go.Proofs.Ytginejblmkiamaa
open Go.RowKit

theorem resL_len (ea eb : Int) (P : Int → Bool) : (S.resL ea eb P).length ≤ 200 := by
  unfold S.resL S.fewL
  split
  · simp
  · split
    · simp
    · split
      · simp
      · omega

set_option maxHeartbeats 4000000 in
set_option maxRecDepth 100000 in
theorem reckon_any (w : World) (va vb : Value) (a b : List S.Sp) (Ra : S.Rd w va a) (Rb : S.Rd w vb b) (Fa : S.Fit a) (Fb : S.Fit b) :
    Calls Try.prog 4 #[va, vb] w fun e w' => e = .returned (.bool true) ∧ Below w.heap.size w w' := by
  have HA : Hid (S.Rd w va a) := Ra
  have HB : Hid (S.Rd w vb b) := Rb
  obtain ⟨aa, ca, rfl⟩ := Ra.len
  obtain ⟨ab, cb, rfl⟩ := Rb.len
  clear Ra Rb
  have HB0 : Hid (Below w.heap.size w w) := Below.refl _ _
  go_enter Try.func4, Try.ntmps4
  go_wp2_with fail
  refine (not_any w _ a (HA.out.below HB0.out (Nat.le_refl _)) Fa).mono ?_
  rintro e W1 ⟨v1, rfl, r1, b1, _⟩
  obtain ⟨a1, c1, rfl⟩ := r1.len
  generalize hE1 : S.resE (S.wrongE a) 0 (S.notP a) = E1 at *
  generalize hL1 : S.resL (S.wrongE a) 0 (S.notP a) = RL1 at *
  have HEq1 : Hid (S.resE (S.wrongE a) 0 (S.notP a) = E1 ∧ S.resL (S.wrongE a) 0 (S.notP a) = RL1) := ⟨hE1, hL1⟩
  have R1 : Hid (S.Rd W1 (.slice a1 RL1.length c1) RL1) := r1
  have HB1 : Hid (Below w.heap.size w W1) := HB0.out.trans (b1.mono HB0.out.size)
  clear r1 b1 hE1 hL1
  go_wp2_with fail
  refine (donot_any W1 _ (.slice none 0 0) a [] (HA.out.below HB1.out (Nat.le_refl _)) (S.Rd.nil _) Fa).mono ?_
  rintro e W2 ⟨v2, rfl, r2, b2, _⟩
  rw [HEq1.out.1]
  rw [HEq1.out.2] at r2
  obtain ⟨a2, c2, rfl⟩ := r2.len
  have R2 : Hid (S.Rd W2 (.slice a1 RL1.length c1) RL1 ∧ S.Rd W2 (.slice a2 RL1.length c2) RL1) := ⟨R1.out.below b2 (Nat.le_refl _), r2⟩
  have HB2 : Hid (Below w.heap.size w W2) := HB1.out.trans (b2.mono HB1.out.size)
  have hl2 : RL1.length ≤ 200 := by rw [← HEq1.out.2]; exact resL_len _ _ _
  clear r2 b2
  go_wp2_with fail
  refine (same_true W2 _ _ _ _ R2.out.1 R2.out.2 rfl hl2).mono ?_
  rintro e W3 ⟨rfl, b3⟩
  have HB3 : Hid (Below w.heap.size w W3) := HB2.out.trans (b3.mono HB2.out.size)
  clear b3
  go_wp2_with fail
  refine (union_any W3 _ _ a b (HA.out.below HB3.out (Nat.le_refl _)) (HB.out.below HB3.out (Nat.le_refl _)) Fa Fb).mono ?_
  rintro e W4 ⟨v4, rfl, r4, b4, _⟩
  obtain ⟨a4, c4, rfl⟩ := r4.len
  generalize hE4 : S.resE (S.wrongE a) (S.wrongE b) (S.orP a b) = E4 at *
  generalize hL4 : S.resL (S.wrongE a) (S.wrongE b) (S.orP a b) = RL4 at *
  have HEq4 : Hid (S.resE (S.wrongE a) (S.wrongE b) (S.orP a b) = E4 ∧ S.resL (S.wrongE a) (S.wrongE b) (S.orP a b) = RL4) := ⟨hE4, hL4⟩
  have R4 : Hid (S.Rd W4 (.slice a4 RL4.length c4) RL4) := r4
  have HB4 : Hid (Below w.heap.size w W4) := HB3.out.trans (b4.mono HB3.out.size)
  clear r4 b4 hE4 hL4
  go_wp2_with fail
  refine (do_any W4 _ _ a b 124 (by decide) (HA.out.below HB4.out (Nat.le_refl _)) (HB.out.below HB4.out (Nat.le_refl _)) Fa Fb).mono ?_
  rintro e W5 ⟨v5, rfl, r5, b5, _⟩
  rw [show (fun q => S.inR q && opF 124 (S.memb a q) (S.memb b q)) = S.orP a b from funext fun q => by simp [opF, S.orP]] at r5 ⊢
  rw [HEq4.out.1]
  rw [HEq4.out.2] at r5
  obtain ⟨a5, c5, rfl⟩ := r5.len
  have R5 : Hid (S.Rd W5 (.slice a4 RL4.length c4) RL4 ∧ S.Rd W5 (.slice a5 RL4.length c5) RL4) := ⟨R4.out.below b5 (Nat.le_refl _), r5⟩
  have HB5 : Hid (Below w.heap.size w W5) := HB4.out.trans (b5.mono HB4.out.size)
  have hl5 : RL4.length ≤ 200 := by rw [← HEq4.out.2]; exact resL_len _ _ _
  clear r5 b5
  go_wp2_with fail
  refine (same_true W5 _ _ _ _ R5.out.1 R5.out.2 rfl hl5).mono ?_
  rintro e W6 ⟨rfl, b6⟩
  have HB6 : Hid (Below w.heap.size w W6) := HB5.out.trans (b6.mono HB5.out.size)
  clear b6
  go_wp2_with fail
  refine (meet_any W6 _ _ a b (HA.out.below HB6.out (Nat.le_refl _)) (HB.out.below HB6.out (Nat.le_refl _)) Fa Fb).mono ?_
  rintro e W7 ⟨v7, rfl, r7, b7, _⟩
  obtain ⟨a7, c7, rfl⟩ := r7.len
  generalize hE7 : S.resE (S.wrongE a) (S.wrongE b) (S.andP a b) = E7 at *
  generalize hL7 : S.resL (S.wrongE a) (S.wrongE b) (S.andP a b) = RL7 at *
  have HEq7 : Hid (S.resE (S.wrongE a) (S.wrongE b) (S.andP a b) = E7 ∧ S.resL (S.wrongE a) (S.wrongE b) (S.andP a b) = RL7) := ⟨hE7, hL7⟩
  have R7 : Hid (S.Rd W7 (.slice a7 RL7.length c7) RL7) := r7
  have HB7 : Hid (Below w.heap.size w W7) := HB6.out.trans (b7.mono HB6.out.size)
  clear r7 b7 hE7 hL7
  go_wp2_with fail
  refine (do_any W7 _ _ a b 38 (by decide) (HA.out.below HB7.out (Nat.le_refl _)) (HB.out.below HB7.out (Nat.le_refl _)) Fa Fb).mono ?_
  rintro e W8 ⟨v8, rfl, r8, b8, _⟩
  rw [show (fun q => S.inR q && opF 38 (S.memb a q) (S.memb b q)) = S.andP a b from funext fun q => by simp [opF, S.andP]] at r8 ⊢
  rw [HEq7.out.1]
  rw [HEq7.out.2] at r8
  obtain ⟨a8, c8, rfl⟩ := r8.len
  have R8 : Hid (S.Rd W8 (.slice a7 RL7.length c7) RL7 ∧ S.Rd W8 (.slice a8 RL7.length c8) RL7) := ⟨R7.out.below b8 (Nat.le_refl _), r8⟩
  have HB8 : Hid (Below w.heap.size w W8) := HB7.out.trans (b8.mono HB7.out.size)
  have hl8 : RL7.length ≤ 200 := by rw [← HEq7.out.2]; exact resL_len _ _ _
  clear r8 b8
  go_wp2_with fail
  refine (same_true W8 _ _ _ _ R8.out.1 R8.out.2 rfl hl8).mono ?_
  rintro e W9 ⟨rfl, b9⟩
  have HB9 : Hid (Below w.heap.size w W9) := HB8.out.trans (b9.mono HB8.out.size)
  clear b9
  go_wp2_with fail
  refine (minus_any W9 _ _ a b (HA.out.below HB9.out (Nat.le_refl _)) (HB.out.below HB9.out (Nat.le_refl _)) Fa Fb).mono ?_
  rintro e W10 ⟨v10, rfl, r10, b10, _⟩
  obtain ⟨a10, c10, rfl⟩ := r10.len
  generalize hE10 : S.resE (S.wrongE a) (S.wrongE b) (S.minP a b) = E10 at *
  generalize hL10 : S.resL (S.wrongE a) (S.wrongE b) (S.minP a b) = RL10 at *
  have HEq10 : Hid (S.resE (S.wrongE a) (S.wrongE b) (S.minP a b) = E10 ∧ S.resL (S.wrongE a) (S.wrongE b) (S.minP a b) = RL10) := ⟨hE10, hL10⟩
  have R10 : Hid (S.Rd W10 (.slice a10 RL10.length c10) RL10) := r10
  have HB10 : Hid (Below w.heap.size w W10) := HB9.out.trans (b10.mono HB9.out.size)
  clear r10 b10 hE10 hL10
  go_wp2_with fail
  refine (do_any W10 _ _ a b 45 (by decide) (HA.out.below HB10.out (Nat.le_refl _)) (HB.out.below HB10.out (Nat.le_refl _)) Fa Fb).mono ?_
  rintro e W11 ⟨v11, rfl, r11, b11, _⟩
  rw [show (fun q => S.inR q && opF 45 (S.memb a q) (S.memb b q)) = S.minP a b from funext fun q => by simp [opF, S.minP]] at r11 ⊢
  rw [HEq10.out.1]
  rw [HEq10.out.2] at r11
  obtain ⟨a11, c11, rfl⟩ := r11.len
  have R11 : Hid (S.Rd W11 (.slice a10 RL10.length c10) RL10 ∧ S.Rd W11 (.slice a11 RL10.length c11) RL10) := ⟨R10.out.below b11 (Nat.le_refl _), r11⟩
  have HB11 : Hid (Below w.heap.size w W11) := HB10.out.trans (b11.mono HB10.out.size)
  have hl11 : RL10.length ≤ 200 := by rw [← HEq10.out.2]; exact resL_len _ _ _
  clear r11 b11
  go_wp2_with fail
  refine (same_true W11 _ _ _ _ R11.out.1 R11.out.2 rfl hl11).mono ?_
  rintro e W12 ⟨rfl, b12⟩
  have HB12 : Hid (Below w.heap.size w W12) := HB11.out.trans (b12.mono HB11.out.size)
  clear b12
  go_wp2
  go_ret
  exact ⟨by simp, HB12.out⟩

end Go.Proofs.Ytginejblmkiamaa
