/-
  Sets in texts: one part.
-/
import Derived.Test.YtajbcgobfkaahaaGreatDoorTSet
namespace Go.Proofs.YtajbcgobfkaahaaGreatDoor
open Go.RowKit
set_option maxRecDepth 20000

/-- a class is read -/
def T.ClassOk : Prop := ∀ (w : World) (cb tb cap p : Nat) (ao : Option Addr) (l : List Int), T.Cur w cb tb cap ao l p → T.see l p = 91 → T.see l (p + 1) = 58 →
  Calls Tryz.prog 121 #[.pointer (some ⟨cb, 0, none⟩)] w (T.Ends w cb tb cap ao l (T.cls l p) T.isSet)
/-- a set is read, so deep -/
def T.SetOk (cb tb cap : Nat) (ao : Option Addr) (l : List Int) (deep : Int) (sub : Nat → T.Out (List S.Sp)) : Prop := ∀ (w : World) (p : Nat), T.Cur w cb tb cap ao l p →
  Calls Tryz.prog 98 #[.pointer (some ⟨cb, 0, none⟩), .int .i64 deep] w (T.Ends w cb tb cap ao l (sub p) (T.isSetF w.heap.size))

set_option maxHeartbeats 4000000 in
theorem part_meet (hC : T.ClassOk) (w : World) (cb tb cap p : Nat) (ao : Option Addr) (l : List Int) (deep : Nat) (hd : deep ≤ 20) (sub : Nat → T.Out (List S.Sp)) (hS : T.SetOk cb tb cap ao l ((deep : Int) + 1) sub) (C : T.Cur w cb tb cap ao l p) (v : Value) (s : List S.Sp) (hs : T.isSet s v w) (h1 : T.see l p = 38) :
    Calls Tryz.prog 105 #[.pointer (some ⟨cb, 0, none⟩), v, .int .i64 deep] w (T.Ends w cb tb cap ao l (T.part sub l s p) (T.isSetF w.heap.size)) := by
  obtain ⟨vo, vc, hv⟩ := hs.1.len
  subst hv
  obtain ⟨o, HO⟩ : ∃ o, Hid (T.part sub l s p = o) := ⟨_, rfl⟩
  rw [HO.out]
  have HC : Hid (T.Cur w cb tb cap ao l p) := C
  have HV : Hid (T.isSet s (.slice vo s.length vc) w) := hs
  have HS : Hid (T.SetOk cb tb cap ao l ((deep : Int) + 1) sub) := hS
  have HK : Hid T.ClassOk := hC
  clear C hs hS hC
  go_enter Tryz.func105, Tryz.ntmps105
  have HG0 : Hid (w.grownBy w (some cb)) := S.grown_refl _ _
  have HC0 : Hid (T.Cur w cb tb cap ao l p) := HC
  have HV0 : Hid (T.isSet s (.slice vo s.length vc) w) := HV
  go_wp2_with fail
  refine (skip_any _ cb tb cap p ao l 38 (by decide) HC0.out).mono ?_
  rintro e w1 ⟨rfl, C1, g1⟩
  rw [if_pos h1] at C1
  have HG1 : Hid (w.grownBy w1 (some cb)) := S.grown_trans HG0.out g1
  have HV1 : Hid (T.isSet s (.slice vo s.length vc) w1) := HV0.out.cur HC0.out g1
  have HC1 : Hid (T.Cur w1 cb tb cap ao l (p + 1)) := C1
  clear C1 g1
  go_wp2_with fail
  refine (blanks_any _ cb tb cap (p + 1) ao l HC1.out).mono ?_
  rintro e w8 ⟨rfl, C8, g8⟩
  have HG8 : Hid (w.grownBy w8 (some cb)) := S.grown_trans HG1.out g8
  have HV8 : Hid (T.isSet s (.slice vo s.length vc) w8) := HV1.out.cur HC1.out g8
  have HC8 : Hid (T.Cur w8 cb tb cap ao l (T.skipW T.blank l (p + 1))) := C8
  clear C8 g8

  go_wp2_with fail
  refine (HS.out _ _ HC8.out).mono ?_
  intro e w9 h
  cases hc : sub (T.skipW T.blank l (p + 1)) with
  | bad er q =>
    rw [hc] at h
    obtain ⟨rfl, g9⟩ := h
    unfold T.thrown
    go_wp2
    refine ⟨rfl, ?_⟩
    rw [← HO.out]; unfold T.part; rw [if_pos h1, hc]
    exact ⟨rfl, S.grown_trans HG8.out g9⟩
  | ok t q =>
    rw [hc] at h
    obtain ⟨v9, rfl, ⟨hv9, _⟩, C9, g9⟩ := h
    have HV9 : Hid (T.isSet s (.slice vo s.length vc) w9) := HV8.out.cur HC8.out g9
    have HG9 : Hid (w.grownBy w9 (some cb)) := S.grown_trans HG8.out g9
    have HC9 : Hid (T.Cur w9 cb tb cap ao l q) := C9
    have HT9 : Hid (T.isSet t v9 w9) := hv9
    have HHc : Hid _ := hc
    obtain ⟨to, tc, ht⟩ := hv9.1.len
    subst ht
    clear hc hv9 C9 g9
    go_wp2_with fail
    refine (meet_any _ _ _ s t HV9.out.1 HT9.out.1 (S.Fit.of_nf HV9.out.2.1 (Int.le_refl _)) (S.Fit.of_nf HT9.out.2.1 (Int.le_refl _))).mono ?_
    rintro e w10 ⟨v10, rfl, R10, b10, f10, _⟩
    have HF10 : Hid (S.Fresh w.heap.size v10) := f10.mono HG9.out.size
    rw [S.wrong_ok HV9.out.2.1 HV9.out.2.2, S.wrong_ok HT9.out.2.1 HT9.out.2.2] at R10 ⊢
    have HR10 : Hid (S.Rd w10 v10 (S.resL 0 0 (S.andP s t))) := R10
    have HC10 : Hid (T.Cur w10 cb tb cap ao l q) := HC9.out.below b10
    have HG10 : Hid (w.grownBy w10 (some cb)) := S.grown_trans HG9.out (S.grown_below b10)
    clear R10 b10 f10
    generalize hre : S.resE 0 0 (S.andP s t) = re
    have HRe : Hid _ := hre
    clear hre
    go_wp2_with fail
    rw [← HRe.out]
    refine (made_any _ cb tb cap q ao l HC10.out (S.andP s t) (S.andP_in s t) v10 HR10.out _ HF10.out).mono ?_
    intro e w11 h
    have ho : T.made (S.andP s t) q = o := by rw [← HO.out]; unfold T.part; rw [if_pos h1, HHc.out]
    rw [ho] at h
    cases o with
    | bad er r =>
      obtain ⟨rfl, g11⟩ := h
      unfold T.thrown
      go_wp2
      exact ⟨rfl, rfl, S.grown_trans HG10.out g11⟩
    | ok u r =>
      obtain ⟨v11, rfl, hv11, C11, g11⟩ := h
      have HV11 : Hid (T.isSetF w.heap.size u v11 w11) := hv11
      clear hv11
      go_wp2
      go_ret
      exact ⟨_, rfl, HV11.out, C11, S.grown_trans HG10.out g11⟩

set_option maxHeartbeats 4000000 in
theorem part_minus (hC : T.ClassOk) (w : World) (cb tb cap p : Nat) (ao : Option Addr) (l : List Int) (deep : Nat) (hd : deep ≤ 20) (sub : Nat → T.Out (List S.Sp)) (hS : T.SetOk cb tb cap ao l ((deep : Int) + 1) sub) (C : T.Cur w cb tb cap ao l p) (v : Value) (s : List S.Sp) (hs : T.isSet s v w) (h1 : ¬ T.see l p = 38) (h2 : T.see l p = 45) :
    Calls Tryz.prog 105 #[.pointer (some ⟨cb, 0, none⟩), v, .int .i64 deep] w (T.Ends w cb tb cap ao l (T.part sub l s p) (T.isSetF w.heap.size)) := by
  obtain ⟨vo, vc, hv⟩ := hs.1.len
  subst hv
  obtain ⟨o, HO⟩ : ∃ o, Hid (T.part sub l s p = o) := ⟨_, rfl⟩
  rw [HO.out]
  have HC : Hid (T.Cur w cb tb cap ao l p) := C
  have HV : Hid (T.isSet s (.slice vo s.length vc) w) := hs
  have HS : Hid (T.SetOk cb tb cap ao l ((deep : Int) + 1) sub) := hS
  have HK : Hid T.ClassOk := hC
  clear C hs hS hC
  go_enter Tryz.func105, Tryz.ntmps105
  have HG0 : Hid (w.grownBy w (some cb)) := S.grown_refl _ _
  have HC0 : Hid (T.Cur w cb tb cap ao l p) := HC
  have HV0 : Hid (T.isSet s (.slice vo s.length vc) w) := HV
  go_wp2_with fail
  refine (skip_any _ cb tb cap p ao l 38 (by decide) HC0.out).mono ?_
  rintro e w1 ⟨rfl, C1, g1⟩
  rw [if_neg h1] at C1
  have HG1 : Hid (w.grownBy w1 (some cb)) := S.grown_trans HG0.out g1
  have HV1 : Hid (T.isSet s (.slice vo s.length vc) w1) := HV0.out.cur HC0.out g1
  have HC1 : Hid (T.Cur w1 cb tb cap ao l p) := C1
  clear C1 g1
  go_wp2_with fail
  refine (skip_any _ cb tb cap p ao l 45 (by decide) HC1.out).mono ?_
  rintro e w2 ⟨rfl, C2, g2⟩
  rw [if_pos h2] at C2
  have HG2 : Hid (w.grownBy w2 (some cb)) := S.grown_trans HG1.out g2
  have HV2 : Hid (T.isSet s (.slice vo s.length vc) w2) := HV1.out.cur HC1.out g2
  have HC2 : Hid (T.Cur w2 cb tb cap ao l (p + 1)) := C2
  clear C2 g2
  go_wp2_with fail
  refine (blanks_any _ cb tb cap (p + 1) ao l HC2.out).mono ?_
  rintro e w8 ⟨rfl, C8, g8⟩
  have HG8 : Hid (w.grownBy w8 (some cb)) := S.grown_trans HG2.out g8
  have HV8 : Hid (T.isSet s (.slice vo s.length vc) w8) := HV2.out.cur HC2.out g8
  have HC8 : Hid (T.Cur w8 cb tb cap ao l (T.skipW T.blank l (p + 1))) := C8
  clear C8 g8

  go_wp2_with fail
  refine (HS.out _ _ HC8.out).mono ?_
  intro e w9 h
  cases hc : sub (T.skipW T.blank l (p + 1)) with
  | bad er q =>
    rw [hc] at h
    obtain ⟨rfl, g9⟩ := h
    unfold T.thrown
    go_wp2
    refine ⟨rfl, ?_⟩
    rw [← HO.out]; unfold T.part; rw [if_neg h1, if_pos h2, hc]
    exact ⟨rfl, S.grown_trans HG8.out g9⟩
  | ok t q =>
    rw [hc] at h
    obtain ⟨v9, rfl, ⟨hv9, _⟩, C9, g9⟩ := h
    have HV9 : Hid (T.isSet s (.slice vo s.length vc) w9) := HV8.out.cur HC8.out g9
    have HG9 : Hid (w.grownBy w9 (some cb)) := S.grown_trans HG8.out g9
    have HC9 : Hid (T.Cur w9 cb tb cap ao l q) := C9
    have HT9 : Hid (T.isSet t v9 w9) := hv9
    have HHc : Hid _ := hc
    obtain ⟨to, tc, ht⟩ := hv9.1.len
    subst ht
    clear hc hv9 C9 g9
    go_wp2_with fail
    refine (minus_any _ _ _ s t HV9.out.1 HT9.out.1 (S.Fit.of_nf HV9.out.2.1 (Int.le_refl _)) (S.Fit.of_nf HT9.out.2.1 (Int.le_refl _))).mono ?_
    rintro e w10 ⟨v10, rfl, R10, b10, f10, _⟩
    have HF10 : Hid (S.Fresh w.heap.size v10) := f10.mono HG9.out.size
    rw [S.wrong_ok HV9.out.2.1 HV9.out.2.2, S.wrong_ok HT9.out.2.1 HT9.out.2.2] at R10 ⊢
    have HR10 : Hid (S.Rd w10 v10 (S.resL 0 0 (S.minP s t))) := R10
    have HC10 : Hid (T.Cur w10 cb tb cap ao l q) := HC9.out.below b10
    have HG10 : Hid (w.grownBy w10 (some cb)) := S.grown_trans HG9.out (S.grown_below b10)
    clear R10 b10 f10
    generalize hre : S.resE 0 0 (S.minP s t) = re
    have HRe : Hid _ := hre
    clear hre
    go_wp2_with fail
    rw [← HRe.out]
    refine (made_any _ cb tb cap q ao l HC10.out (S.minP s t) (S.minP_in s t) v10 HR10.out _ HF10.out).mono ?_
    intro e w11 h
    have ho : T.made (S.minP s t) q = o := by rw [← HO.out]; unfold T.part; rw [if_neg h1, if_pos h2, HHc.out]
    rw [ho] at h
    cases o with
    | bad er r =>
      obtain ⟨rfl, g11⟩ := h
      unfold T.thrown
      go_wp2
      exact ⟨rfl, rfl, S.grown_trans HG10.out g11⟩
    | ok u r =>
      obtain ⟨v11, rfl, hv11, C11, g11⟩ := h
      have HV11 : Hid (T.isSetF w.heap.size u v11 w11) := hv11
      clear hv11
      go_wp2
      go_ret
      exact ⟨_, rfl, HV11.out, C11, S.grown_trans HG10.out g11⟩

set_option maxHeartbeats 4000000 in
theorem part_class (hC : T.ClassOk) (w : World) (cb tb cap p : Nat) (ao : Option Addr) (l : List Int) (deep : Nat) (_ : deep ≤ 20) (sub : Nat → T.Out (List S.Sp)) (hS : T.SetOk cb tb cap ao l ((deep : Int) + 1) sub) (C : T.Cur w cb tb cap ao l p) (v : Value) (s : List S.Sp) (hs : T.isSet s v w) (h1 : ¬ T.see l p = 38) (h2 : ¬ T.see l p = 45) (h3 : T.see l p = 91) (h4 : T.see l (p + 1) = 58) :
    Calls Tryz.prog 105 #[.pointer (some ⟨cb, 0, none⟩), v, .int .i64 deep] w (T.Ends w cb tb cap ao l (T.part sub l s p) (T.isSetF w.heap.size)) := by
  obtain ⟨vo, vc, hv⟩ := hs.1.len
  subst hv
  obtain ⟨o, HO⟩ : ∃ o, Hid (T.part sub l s p = o) := ⟨_, rfl⟩
  rw [HO.out]
  have HC : Hid (T.Cur w cb tb cap ao l p) := C
  have HV : Hid (T.isSet s (.slice vo s.length vc) w) := hs
  have HS : Hid (T.SetOk cb tb cap ao l ((deep : Int) + 1) sub) := hS
  have HK : Hid T.ClassOk := hC
  clear C hs hS hC
  go_enter Tryz.func105, Tryz.ntmps105
  have HG0 : Hid (w.grownBy w (some cb)) := S.grown_refl _ _
  have HC0 : Hid (T.Cur w cb tb cap ao l p) := HC
  have HV0 : Hid (T.isSet s (.slice vo s.length vc) w) := HV
  go_wp2_with fail
  refine (skip_any _ cb tb cap p ao l 38 (by decide) HC0.out).mono ?_
  rintro e w1 ⟨rfl, C1, g1⟩
  rw [if_neg h1] at C1
  have HG1 : Hid (w.grownBy w1 (some cb)) := S.grown_trans HG0.out g1
  have HV1 : Hid (T.isSet s (.slice vo s.length vc) w1) := HV0.out.cur HC0.out g1
  have HC1 : Hid (T.Cur w1 cb tb cap ao l p) := C1
  clear C1 g1
  go_wp2_with fail
  refine (skip_any _ cb tb cap p ao l 45 (by decide) HC1.out).mono ?_
  rintro e w2 ⟨rfl, C2, g2⟩
  rw [if_neg h2] at C2
  have HG2 : Hid (w.grownBy w2 (some cb)) := S.grown_trans HG1.out g2
  have HV2 : Hid (T.isSet s (.slice vo s.length vc) w2) := HV1.out.cur HC1.out g2
  have HC2 : Hid (T.Cur w2 cb tb cap ao l p) := C2
  clear C2 g2
  go_wp2_with fail
  refine (is_any _ cb tb cap p ao l 91 HC2.out).mono ?_
  rintro e w3 ⟨rfl, b3⟩
  have HG3 : Hid (w.grownBy w3 (some cb)) := S.grown_trans HG2.out (S.grown_below b3)
  have HV3 : Hid (T.isSet s (.slice vo s.length vc) w3) := ⟨HV2.out.1.below b3 (Nat.le_refl _), HV2.out.2⟩
  have HC3 : Hid (T.Cur w3 cb tb cap ao l p) := HC2.out.below b3
  clear b3
  go_wp2_with fail
  refine (ahead_any _ cb tb cap p 1 ao l HC3.out (by omega)).mono ?_
  rintro e w8 ⟨rfl, b8⟩
  have HG8 : Hid (w.grownBy w8 (some cb)) := S.grown_trans HG3.out (S.grown_below b8)
  have HV8 : Hid (T.isSet s (.slice vo s.length vc) w8) := ⟨HV3.out.1.below b8 (Nat.le_refl _), HV3.out.2⟩
  have HC8 : Hid (T.Cur w8 cb tb cap ao l p) := HC3.out.below b8
  clear b8

  go_wp2_with fail
  refine (HK.out _ cb tb cap p ao l HC8.out h3 h4).mono ?_
  intro e w9 h
  cases hc : T.cls l p with
  | bad er q =>
    rw [hc] at h
    obtain ⟨rfl, g9⟩ := h
    unfold T.thrown
    go_wp2
    refine ⟨rfl, ?_⟩
    rw [← HO.out]; unfold T.part; rw [if_neg h1, if_neg h2, if_pos ⟨h3, h4⟩, hc]
    exact ⟨rfl, S.grown_trans HG8.out g9⟩
  | ok t q =>
    rw [hc] at h
    obtain ⟨v9, rfl, hv9, C9, g9⟩ := h
    have HV9 : Hid (T.isSet s (.slice vo s.length vc) w9) := HV8.out.cur HC8.out g9
    have HG9 : Hid (w.grownBy w9 (some cb)) := S.grown_trans HG8.out g9
    have HC9 : Hid (T.Cur w9 cb tb cap ao l q) := C9
    have HT9 : Hid (T.isSet t v9 w9) := hv9
    have HHc : Hid _ := hc
    obtain ⟨to, tc, ht⟩ := hv9.1.len
    subst ht
    clear hc hv9 C9 g9
    go_wp2_with fail
    refine (union_any _ _ _ s t HV9.out.1 HT9.out.1 (S.Fit.of_nf HV9.out.2.1 (Int.le_refl _)) (S.Fit.of_nf HT9.out.2.1 (Int.le_refl _))).mono ?_
    rintro e w10 ⟨v10, rfl, R10, b10, f10, _⟩
    have HF10 : Hid (S.Fresh w.heap.size v10) := f10.mono HG9.out.size
    rw [S.wrong_ok HV9.out.2.1 HV9.out.2.2, S.wrong_ok HT9.out.2.1 HT9.out.2.2] at R10 ⊢
    have HR10 : Hid (S.Rd w10 v10 (S.resL 0 0 (S.orP s t))) := R10
    have HC10 : Hid (T.Cur w10 cb tb cap ao l q) := HC9.out.below b10
    have HG10 : Hid (w.grownBy w10 (some cb)) := S.grown_trans HG9.out (S.grown_below b10)
    clear R10 b10 f10
    generalize hre : S.resE 0 0 (S.orP s t) = re
    have HRe : Hid _ := hre
    clear hre
    go_wp2_with fail
    rw [← HRe.out]
    refine (made_any _ cb tb cap q ao l HC10.out (S.orP s t) (S.orP_in s t) v10 HR10.out _ HF10.out).mono ?_
    intro e w11 h
    have ho : T.made (S.orP s t) q = o := by rw [← HO.out]; unfold T.part; rw [if_neg h1, if_neg h2, if_pos ⟨h3, h4⟩, HHc.out]
    rw [ho] at h
    cases o with
    | bad er r =>
      obtain ⟨rfl, g11⟩ := h
      unfold T.thrown
      go_wp2
      exact ⟨rfl, rfl, S.grown_trans HG10.out g11⟩
    | ok u r =>
      obtain ⟨v11, rfl, hv11, C11, g11⟩ := h
      have HV11 : Hid (T.isSetF w.heap.size u v11 w11) := hv11
      clear hv11
      go_wp2
      go_ret
      exact ⟨_, rfl, HV11.out, C11, S.grown_trans HG10.out g11⟩

set_option maxHeartbeats 4000000 in
theorem part_sub (hC : T.ClassOk) (w : World) (cb tb cap p : Nat) (ao : Option Addr) (l : List Int) (deep : Nat) (hd : deep ≤ 20) (sub : Nat → T.Out (List S.Sp)) (hS : T.SetOk cb tb cap ao l ((deep : Int) + 1) sub) (C : T.Cur w cb tb cap ao l p) (v : Value) (s : List S.Sp) (hs : T.isSet s v w) (h1 : ¬ T.see l p = 38) (h2 : ¬ T.see l p = 45) (h3 : T.see l p = 91) (h4 : ¬ T.see l (p + 1) = 58) :
    Calls Tryz.prog 105 #[.pointer (some ⟨cb, 0, none⟩), v, .int .i64 deep] w (T.Ends w cb tb cap ao l (T.part sub l s p) (T.isSetF w.heap.size)) := by
  obtain ⟨vo, vc, hv⟩ := hs.1.len
  subst hv
  obtain ⟨o, HO⟩ : ∃ o, Hid (T.part sub l s p = o) := ⟨_, rfl⟩
  rw [HO.out]
  have HC : Hid (T.Cur w cb tb cap ao l p) := C
  have HV : Hid (T.isSet s (.slice vo s.length vc) w) := hs
  have HS : Hid (T.SetOk cb tb cap ao l ((deep : Int) + 1) sub) := hS
  have HK : Hid T.ClassOk := hC
  clear C hs hS hC
  go_enter Tryz.func105, Tryz.ntmps105
  have HG0 : Hid (w.grownBy w (some cb)) := S.grown_refl _ _
  have HC0 : Hid (T.Cur w cb tb cap ao l p) := HC
  have HV0 : Hid (T.isSet s (.slice vo s.length vc) w) := HV
  go_wp2_with fail
  refine (skip_any _ cb tb cap p ao l 38 (by decide) HC0.out).mono ?_
  rintro e w1 ⟨rfl, C1, g1⟩
  rw [if_neg h1] at C1
  have HG1 : Hid (w.grownBy w1 (some cb)) := S.grown_trans HG0.out g1
  have HV1 : Hid (T.isSet s (.slice vo s.length vc) w1) := HV0.out.cur HC0.out g1
  have HC1 : Hid (T.Cur w1 cb tb cap ao l p) := C1
  clear C1 g1
  go_wp2_with fail
  refine (skip_any _ cb tb cap p ao l 45 (by decide) HC1.out).mono ?_
  rintro e w2 ⟨rfl, C2, g2⟩
  rw [if_neg h2] at C2
  have HG2 : Hid (w.grownBy w2 (some cb)) := S.grown_trans HG1.out g2
  have HV2 : Hid (T.isSet s (.slice vo s.length vc) w2) := HV1.out.cur HC1.out g2
  have HC2 : Hid (T.Cur w2 cb tb cap ao l p) := C2
  clear C2 g2
  go_wp2_with fail
  refine (is_any _ cb tb cap p ao l 91 HC2.out).mono ?_
  rintro e w3 ⟨rfl, b3⟩
  have HG3 : Hid (w.grownBy w3 (some cb)) := S.grown_trans HG2.out (S.grown_below b3)
  have HV3 : Hid (T.isSet s (.slice vo s.length vc) w3) := ⟨HV2.out.1.below b3 (Nat.le_refl _), HV2.out.2⟩
  have HC3 : Hid (T.Cur w3 cb tb cap ao l p) := HC2.out.below b3
  clear b3
  go_wp2_with fail
  refine (ahead_any _ cb tb cap p 1 ao l HC3.out (by omega)).mono ?_
  rintro e w4 ⟨rfl, b4⟩
  have HG4 : Hid (w.grownBy w4 (some cb)) := S.grown_trans HG3.out (S.grown_below b4)
  have HV4 : Hid (T.isSet s (.slice vo s.length vc) w4) := ⟨HV3.out.1.below b4 (Nat.le_refl _), HV3.out.2⟩
  have HC4 : Hid (T.Cur w4 cb tb cap ao l p) := HC3.out.below b4
  clear b4
  go_wp2_with fail
  refine (is_any _ cb tb cap p ao l 91 HC4.out).mono ?_
  rintro e w8 ⟨rfl, b8⟩
  have HG8 : Hid (w.grownBy w8 (some cb)) := S.grown_trans HG4.out (S.grown_below b8)
  have HV8 : Hid (T.isSet s (.slice vo s.length vc) w8) := ⟨HV4.out.1.below b8 (Nat.le_refl _), HV4.out.2⟩
  have HC8 : Hid (T.Cur w8 cb tb cap ao l p) := HC4.out.below b8
  clear b8

  go_wp2_with fail
  refine (HS.out _ _ HC8.out).mono ?_
  intro e w9 h
  cases hc : sub p with
  | bad er q =>
    rw [hc] at h
    obtain ⟨rfl, g9⟩ := h
    unfold T.thrown
    go_wp2
    refine ⟨rfl, ?_⟩
    rw [← HO.out]; unfold T.part; rw [if_neg h1, if_neg h2, if_neg (fun h => h4 h.2), if_pos h3, hc]
    exact ⟨rfl, S.grown_trans HG8.out g9⟩
  | ok t q =>
    rw [hc] at h
    obtain ⟨v9, rfl, ⟨hv9, _⟩, C9, g9⟩ := h
    have HV9 : Hid (T.isSet s (.slice vo s.length vc) w9) := HV8.out.cur HC8.out g9
    have HG9 : Hid (w.grownBy w9 (some cb)) := S.grown_trans HG8.out g9
    have HC9 : Hid (T.Cur w9 cb tb cap ao l q) := C9
    have HT9 : Hid (T.isSet t v9 w9) := hv9
    have HHc : Hid _ := hc
    obtain ⟨to, tc, ht⟩ := hv9.1.len
    subst ht
    clear hc hv9 C9 g9
    go_wp2_with fail
    refine (union_any _ _ _ s t HV9.out.1 HT9.out.1 (S.Fit.of_nf HV9.out.2.1 (Int.le_refl _)) (S.Fit.of_nf HT9.out.2.1 (Int.le_refl _))).mono ?_
    rintro e w10 ⟨v10, rfl, R10, b10, f10, _⟩
    have HF10 : Hid (S.Fresh w.heap.size v10) := f10.mono HG9.out.size
    rw [S.wrong_ok HV9.out.2.1 HV9.out.2.2, S.wrong_ok HT9.out.2.1 HT9.out.2.2] at R10 ⊢
    have HR10 : Hid (S.Rd w10 v10 (S.resL 0 0 (S.orP s t))) := R10
    have HC10 : Hid (T.Cur w10 cb tb cap ao l q) := HC9.out.below b10
    have HG10 : Hid (w.grownBy w10 (some cb)) := S.grown_trans HG9.out (S.grown_below b10)
    clear R10 b10 f10
    generalize hre : S.resE 0 0 (S.orP s t) = re
    have HRe : Hid _ := hre
    clear hre
    go_wp2_with fail
    rw [← HRe.out]
    refine (made_any _ cb tb cap q ao l HC10.out (S.orP s t) (S.orP_in s t) v10 HR10.out _ HF10.out).mono ?_
    intro e w11 h
    have ho : T.made (S.orP s t) q = o := by rw [← HO.out]; unfold T.part; rw [if_neg h1, if_neg h2, if_neg (fun h => h4 h.2), if_pos h3, HHc.out]
    rw [ho] at h
    cases o with
    | bad er r =>
      obtain ⟨rfl, g11⟩ := h
      unfold T.thrown
      go_wp2
      exact ⟨rfl, rfl, S.grown_trans HG10.out g11⟩
    | ok u r =>
      obtain ⟨v11, rfl, hv11, C11, g11⟩ := h
      have HV11 : Hid (T.isSetF w.heap.size u v11 w11) := hv11
      clear hv11
      go_wp2
      go_ret
      exact ⟨_, rfl, HV11.out, C11, S.grown_trans HG10.out g11⟩

theorem tw_mem {f : Int → Bool} : ∀ {l : List Int} {z : Int}, z ∈ l.takeWhile f → f z = true
  | [], z, h => by simp at h
  | a :: l, z, h => by
    rw [List.takeWhile_cons] at h
    split at h
    · rename_i ha
      rcases List.mem_cons.1 h with rfl | h'
      · exact ha
      · exact tw_mem h'
    · simp at h
theorem take_tw {f : Int → Bool} : ∀ m : List Int, m.take (m.takeWhile f).length = m.takeWhile f
  | [] => rfl
  | a :: m => by
    rw [List.takeWhile_cons]
    split
    · rw [List.length_cons, List.take_succ_cons, take_tw m]
    · rfl
theorem cut_tw {f : Int → Bool} (l : List Int) (p : Nat) : T.cut l p (T.skipW f l p) = (l.drop p).takeWhile f := by
  unfold T.cut T.skipW
  rw [Nat.add_sub_cancel_left, take_tw]

theorem chr_bd {l : List Int} (hl : ∀ z ∈ l, M.right z = true) {p q : Nat} {r : Int} (h : T.chr l p = .ok r q) : 0 ≤ r ∧ r ≤ 1114111 := by
  have hsee : ∀ i, T.see l i ≠ -1 → 0 ≤ T.see l i ∧ T.see l i ≤ 1114111 := by
    intro i hi
    by_cases hlt : i < l.length
    · have := hl _ (List.mem_of_getElem? (T.see_lt hlt))
      unfold M.right at this
      have := of_decide_eq_true this
      omega
    · exact absurd (T.see_ge (by omega)) hi
  unfold T.chr at h
  split at h
  · unfold T.esc at h
    split at h
    · unfold T.num at h
      split at h
      · cases h
      · split at h
        · cases h
        · split at h
          · cases h
          · split at h
            · cases h
            · rename_i hbig
              cases h
              refine ⟨?_, by omega⟩
              have : ∀ (m : List Int) (a : Int), 0 ≤ a → (∀ z ∈ m, 0 ≤ T.hexOne z) → 0 ≤ m.foldl (fun x r => 16 * x + T.hexOne r) a := by
                intro m
                induction m with
                | nil => intro a ha _; exact ha
                | cons z m ih => intro a ha hm; exact ih _ (by have := hm z (by simp); show 0 ≤ 16 * a + T.hexOne z; omega) (fun y hy => hm y (by simp [hy]))
              refine this _ 0 (by omega) fun z hz => ?_
              rw [cut_tw] at hz
              have hk := tw_mem hz
              have := hexd_cases hk
              unfold T.hexOne
              split <;> (try split) <;> omega
    · split at h
      · cases h; omega
      · split at h
        · cases h; omega
        · split at h
          · cases h
          · rename_i hn
            cases h
            exact hsee _ fun e => hn (.inl e)
  · split at h
    · rename_i ho
      cases h
      refine hsee _ fun e => ?_
      rw [e] at ho
      revert ho
      decide
    · cases h

theorem span_bd {l : List Int} (hl : ∀ z ∈ l, M.right z = true) {p q : Nat} {x : S.Sp} (h : T.span l p = .ok x q) : 0 ≤ x.1 ∧ x.1 ≤ x.2 ∧ x.2 ≤ 1114111 := by
  unfold T.span at h
  cases h1 : T.chr l p with
  | bad e r => rw [h1] at h; cases h
  | ok lo r =>
    rw [h1] at h
    simp only at h
    have b1 := chr_bd hl h1
    split at h
    · cases h; simp only; omega
    · cases h2 : T.chr l (r + 1) with
      | bad e r' => rw [h2] at h; cases h
      | ok hi r' =>
        rw [h2] at h
        simp only at h
        have b2 := chr_bd hl h2
        split at h
        · cases h
        · cases h; simp only; omega

set_option maxHeartbeats 4000000 in
theorem part_span (_ : T.ClassOk) (w : World) (cb tb cap p : Nat) (ao : Option Addr) (l : List Int) (deep : Nat) (_ : deep ≤ 20) (sub : Nat → T.Out (List S.Sp)) (_ : T.SetOk cb tb cap ao l ((deep : Int) + 1) sub) (C : T.Cur w cb tb cap ao l p) (v : Value) (s : List S.Sp) (hs : T.isSet s v w) (h1 : ¬ T.see l p = 38) (h2 : ¬ T.see l p = 45) (h3 : ¬ T.see l p = 91) :
    Calls Tryz.prog 105 #[.pointer (some ⟨cb, 0, none⟩), v, .int .i64 deep] w (T.Ends w cb tb cap ao l (T.part sub l s p) (T.isSetF w.heap.size)) := by
  obtain ⟨vo, vc, hv⟩ := hs.1.len
  subst hv
  obtain ⟨o, HO⟩ : ∃ o, Hid (T.part sub l s p = o) := ⟨_, rfl⟩
  rw [HO.out]
  have HC : Hid (T.Cur w cb tb cap ao l p) := C
  have HV : Hid (T.isSet s (.slice vo s.length vc) w) := hs
  clear C hs
  go_enter Tryz.func105, Tryz.ntmps105
  have HG0 : Hid (w.grownBy w (some cb)) := S.grown_refl _ _
  have HC0 : Hid (T.Cur w cb tb cap ao l p) := HC
  have HV0 : Hid (T.isSet s (.slice vo s.length vc) w) := HV
  go_wp2_with fail
  refine (skip_any _ cb tb cap p ao l 38 (by decide) HC0.out).mono ?_
  rintro e w1 ⟨rfl, C1, g1⟩
  rw [if_neg h1] at C1
  have HG1 : Hid (w.grownBy w1 (some cb)) := S.grown_trans HG0.out g1
  have HV1 : Hid (T.isSet s (.slice vo s.length vc) w1) := HV0.out.cur HC0.out g1
  have HC1 : Hid (T.Cur w1 cb tb cap ao l p) := C1
  clear C1 g1
  go_wp2_with fail
  refine (skip_any _ cb tb cap p ao l 45 (by decide) HC1.out).mono ?_
  rintro e w2 ⟨rfl, C2, g2⟩
  rw [if_neg h2] at C2
  have HG2 : Hid (w.grownBy w2 (some cb)) := S.grown_trans HG1.out g2
  have HV2 : Hid (T.isSet s (.slice vo s.length vc) w2) := HV1.out.cur HC1.out g2
  have HC2 : Hid (T.Cur w2 cb tb cap ao l p) := C2
  clear C2 g2
  go_wp2_with fail
  refine (is_any _ cb tb cap p ao l 91 HC2.out).mono ?_
  rintro e w3 ⟨rfl, b3⟩
  have HG3 : Hid (w.grownBy w3 (some cb)) := S.grown_trans HG2.out (S.grown_below b3)
  have HV3 : Hid (T.isSet s (.slice vo s.length vc) w3) := ⟨HV2.out.1.below b3 (Nat.le_refl _), HV2.out.2⟩
  have HC3 : Hid (T.Cur w3 cb tb cap ao l p) := HC2.out.below b3
  clear b3
  go_wp2_with fail
  refine (is_any _ cb tb cap p ao l 91 HC3.out).mono ?_
  rintro e w8 ⟨rfl, b8⟩
  have HG8 : Hid (w.grownBy w8 (some cb)) := S.grown_trans HG3.out (S.grown_below b8)
  have HV8 : Hid (T.isSet s (.slice vo s.length vc) w8) := ⟨HV3.out.1.below b8 (Nat.le_refl _), HV3.out.2⟩
  have HC8 : Hid (T.Cur w8 cb tb cap ao l p) := HC3.out.below b8
  clear b8

  go_wp2_with fail
  refine (span_any _ cb tb cap p ao l HC8.out).mono ?_
  intro e w9 h
  cases hc : T.span l p with
  | bad er q =>
    rw [hc] at h
    obtain ⟨rfl, g9⟩ := h
    unfold T.thrown
    go_wp2
    refine ⟨rfl, ?_⟩
    rw [← HO.out]; unfold T.part; rw [if_neg h1, if_neg h2, if_neg (fun h => h3 h.1), if_neg h3, hc]
    exact ⟨rfl, S.grown_trans HG8.out g9⟩
  | ok t q =>
    rw [hc] at h
    obtain ⟨v9, rfl, hv9, C9, g9⟩ := h
    have hx := span_bd C9.rt hc
    have HV9' : Hid (T.isSet s (.slice vo s.length vc) w9) := HV8.out.cur HC8.out g9
    have HG9' : Hid (w.grownBy w9 (some cb)) := S.grown_trans HG8.out g9
    have HC9' : Hid (T.Cur w9 cb tb cap ao l q) := C9
    have HHc : Hid _ := hc
    unfold T.isSpan at hv9
    subst hv9
    obtain ⟨x1, x2⟩ := t
    simp only at hx
    clear hc C9 g9
    go_wp2_with fail
    have bW := (Below.refl _ w9).alloc (Nat.le_refl _) (.cells #[.int .i32 x1, .int .i32 x2] 97)
    have HT9 : Hid (T.isSet [(x1, x2)] (.slice (some ⟨w9.heap.size, 0, none⟩) 1 1) (w9.alloc (.cells #[.int .i32 x1, .int .i32 x2] 97))) := by
      refine ⟨⟨_, _, rfl, (fun h => by cases h), fun _ => ⟨w9.heap.size, 0, rfl, fun j y hj => ?_⟩⟩, ⟨hx.1, hx.2.1, hx.2.2, trivial⟩, by simp⟩
      cases j with
      | zero => simp at hj; subst hj; exact ⟨by rw [World.cell?_alloc_at _ _ _ _ rfl]; rfl, by rw [World.cell?_alloc_at _ _ _ _ rfl]; rfl⟩
      | succ j => simp at hj
    have HV9 : Hid (T.isSet s (.slice vo s.length vc) (w9.alloc (.cells #[.int .i32 x1, .int .i32 x2] 97))) := ⟨HV9'.out.1.below bW (Nat.le_refl _), HV9'.out.2⟩
    have HC9 : Hid (T.Cur (w9.alloc (.cells #[.int .i32 x1, .int .i32 x2] 97)) cb tb cap ao l q) := HC9'.out.below bW
    have HG9 : Hid (w.grownBy (w9.alloc (.cells #[.int .i32 x1, .int .i32 x2] 97)) (some cb)) := S.grown_trans HG9'.out (S.grown_below bW)
    clear HV9' HG9' HC9' bW
    refine (union_any _ _ _ s [(x1, x2)] HV9.out.1 HT9.out.1 (S.Fit.of_nf HV9.out.2.1 (Int.le_refl _)) (S.Fit.of_nf HT9.out.2.1 (Int.le_refl _))).mono ?_
    rintro e w10 ⟨v10, rfl, R10, b10, f10, _⟩
    have HF10 : Hid (S.Fresh w.heap.size v10) := f10.mono HG9.out.size
    rw [S.wrong_ok HV9.out.2.1 HV9.out.2.2, S.wrong_ok HT9.out.2.1 HT9.out.2.2] at R10 ⊢
    have HR10 : Hid (S.Rd w10 v10 (S.resL 0 0 (S.orP s [(x1, x2)]))) := R10
    have HC10 : Hid (T.Cur w10 cb tb cap ao l q) := HC9.out.below b10
    have HG10 : Hid (w.grownBy w10 (some cb)) := S.grown_trans HG9.out (S.grown_below b10)
    clear R10 b10 f10
    generalize hre : S.resE 0 0 (S.orP s [(x1, x2)]) = re
    have HRe : Hid _ := hre
    clear hre
    go_wp2_with fail
    rw [← HRe.out]
    refine (made_any _ cb tb cap q ao l HC10.out (S.orP s [(x1, x2)]) (S.orP_in s [(x1, x2)]) v10 HR10.out _ HF10.out).mono ?_
    intro e w11 h
    have ho : T.made (S.orP s [(x1, x2)]) q = o := by rw [← HO.out]; unfold T.part; rw [if_neg h1, if_neg h2, if_neg (fun h => h3 h.1), if_neg h3, HHc.out]
    rw [ho] at h
    cases o with
    | bad er r =>
      obtain ⟨rfl, g11⟩ := h
      unfold T.thrown
      go_wp2
      exact ⟨rfl, rfl, S.grown_trans HG10.out g11⟩
    | ok u r =>
      obtain ⟨v11, rfl, hv11, C11, g11⟩ := h
      have HV11 : Hid (T.isSetF w.heap.size u v11 w11) := hv11
      clear hv11
      go_wp2
      go_ret
      exact ⟨_, rfl, HV11.out, C11, S.grown_trans HG10.out g11⟩

theorem part_any (hC : T.ClassOk) (w : World) (cb tb cap p : Nat) (ao : Option Addr) (l : List Int) (deep : Nat) (hd : deep ≤ 20) (sub : Nat → T.Out (List S.Sp)) (hS : T.SetOk cb tb cap ao l ((deep : Int) + 1) sub) (C : T.Cur w cb tb cap ao l p) (v : Value) (s : List S.Sp) (hs : T.isSet s v w) :
    Calls Tryz.prog 105 #[.pointer (some ⟨cb, 0, none⟩), v, .int .i64 deep] w (T.Ends w cb tb cap ao l (T.part sub l s p) (T.isSetF w.heap.size)) := by
  by_cases h1 : T.see l p = 38
  · exact part_meet hC w cb tb cap p ao l deep hd sub hS C v s hs h1
  · by_cases h2 : T.see l p = 45
    · exact part_minus hC w cb tb cap p ao l deep hd sub hS C v s hs h1 h2
    · by_cases h3 : T.see l p = 91
      · by_cases h4 : T.see l (p + 1) = 58
        · exact part_class hC w cb tb cap p ao l deep hd sub hS C v s hs h1 h2 h3 h4
        · exact part_sub hC w cb tb cap p ao l deep hd sub hS C v s hs h1 h2 h3 h4
      · exact part_span hC w cb tb cap p ao l deep hd sub hS C v s hs h1 h2 h3

end Go.Proofs.YtajbcgobfkaahaaGreatDoor
