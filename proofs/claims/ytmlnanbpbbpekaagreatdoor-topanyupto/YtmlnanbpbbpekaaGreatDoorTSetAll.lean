/-
 Sets in texts, part by part.
-/
import Derived.Test.YtmlnanbpbbpekaaGreatDoorTChr
import Derived.Test.YtmlnanbpbbpekaaGreatDoorTBlend
import Derived.Test.YtmlnanbpbbpekaaGreatDoorMath
namespace Go.Proofs.YtmlnanbpbbpekaaGreatDoor
open Go.RowKit
theorem T.rd_cur {w w' : World} {cb tb cap p : Nat} {ao : Option Addr} {l : List Int} (C : T.Cur w cb tb cap ao l p) {v : Value} {s : List S.Sp} (R : S.Rd w v s) (hg : w.grownBy w' (some cb)) : S.Rd w' v s := by
 obtain ⟨vo, vc, rfl, hn, h⟩ := R
 refine ⟨vo, vc, rfl, hn, fun hz => ?_⟩
 obtain ⟨b, off, rfl, hcl⟩ := h hz
 have hne : b ≠ cb := by
  intro e
  subst e
  obtain ⟨x, hx⟩ : ∃ x, s[0]? = some x := ⟨s[0]'(List.length_pos_iff.2 hz), by simp [List.length_pos_iff.2 hz]⟩
  have h1 := (hcl 0 x hx).1
  rw [World.cell?] at h1
  obtain ⟨_, hbk⟩ := C.blk
  simp [hbk] at h1
  rcases hk : off with _ | _ | k
  ·subst hk; simp at h1
  ·subst hk; simp at h1
  ·subst hk; simp at h1
 refine ⟨b, off, rfl, fun j x hj => ?_⟩
 have h1 := hcl j x hj
 constructor
 ·rw [World.cell?_of_block (a := ⟨b, off + j * 2, none⟩) (hg.block b (L.block_lt h1.1) (by simp [hne]))]; exact h1.1
 ·rw [World.cell?_of_block (a := ⟨b, off + j * 2 + 1, none⟩) (hg.block b (L.block_lt h1.2) (by simp [hne]))]; exact h1.2
def T.isSet (s : List S.Sp) (v : Value) (w : World) : Prop := S.Rd w v s /\ S.Nf 0 s /\ s.length <= 200
theorem T.isSet.cur {w w' : World} {cb tb cap p : Nat} {ao : Option Addr} {l : List Int} {s : List S.Sp} {v : Value} (h : T.isSet s v w) (C : T.Cur w cb tb cap ao l p) (hg : w.grownBy w' (some cb)) : T.isSet s v w' := ⟨T.rd_cur C h.1 hg, h.2⟩
def T.isSetF (F : Nat) (s : List S.Sp) (v : Value) (w : World) : Prop := T.isSet s v w /\ S.Fresh F v
theorem made_ok_any (w : World) (cb : Nat) (v : Value) (ao : Option Addr) (n c : Nat) (hv : v = .slice ao n c) :
  Calls Tryz.prog 193 #[.pointer (some ⟨cb, 0, none⟩), v, .int .i64 0] w fun e w' => e = .returned v /\ w' = w := by
 subst hv
 go_enter Tryz.func193, Tryz.ntmps193
 go_wp2
 go_ret
 exact ⟨rfl, rfl⟩
theorem made_bad_any (w : World) (cb tb cap p : Nat) (ao : Option Addr) (l : List Int) (C : T.Cur w cb tb cap ao l p) (v : Value) (e : Int) (he : e ≠ 0) (ao' : Option Addr) (n c : Nat) (hv : v = .slice ao' n c) :
  Calls Tryz.prog 193 #[.pointer (some ⟨cb, 0, none⟩), v, .int .i64 e] w fun e' w' => e' = T.thrown e p /\ w' = w := by
 subst hv
 have c1 := C.cell1
 have he' : (e == 0) = false := by simp [he]
 clear C
 go_enter Tryz.func193, Tryz.ntmps193
 go_wp2_with (go_at_call 36; refine (fail_any _ e p).mono ?_; unfold T.thrown; rintro e' w1 ⟨rfl, rfl⟩)
 exact ⟨rfl, rfl, rfl⟩
theorem made_any (w : World) (cb tb cap p : Nat) (ao : Option Addr) (l : List Int) (C : T.Cur w cb tb cap ao l p) (P : Int -> Bool) (hP : ∀ q, P q = (S.inR q && P q)) (v : Value) (R : S.Rd w v (S.resL 0 0 P)) (F : Nat) (hF : S.Fresh F v) :
  Calls Tryz.prog 193 #[.pointer (some ⟨cb, 0, none⟩), v, .int .i64 (S.resE 0 0 P)] w (T.Ends w cb tb cap ao l (T.made P p) (T.isSetF F)) := by
 obtain ⟨vo, vc, hv⟩ := R.len
 unfold T.made
 have hN := S.nf_ok hP
 by_cases h : 200 < (S.nf P).length
 ·rw [if_pos h]
  have e5 : S.resE 0 0 P = 5 := by simp [S.resE, S.fewE, h]
  rw [e5]
  refine (made_bad_any w cb tb cap p ao l C v 5 (by decide) _ _ _ hv).mono ?_
  rintro e w' ⟨rfl, rfl⟩
  exact ⟨rfl, S.grown_refl _ _⟩
 ·rw [if_neg h]
  have hle : (S.nf P).length <= 200 := by omega
  have e0 : S.resE 0 0 P = 0 := S.resE_ok hle
  rw [S.resL_ok hle] at R
  rw [e0]
  refine (made_ok_any w cb v _ _ _ hv).mono ?_
  rintro e w' ⟨rfl, rfl⟩
  exact ⟨v, rfl, ⟨⟨R, hN.1, hle⟩, hF⟩, C, S.grown_refl _ _⟩
end Go.Proofs.YtmlnanbpbbpekaaGreatDoor
namespace Go.Proofs.YtmlnanbpbbpekaaGreatDoor
open Go.RowKit
set_option maxRecDepth 20000
def T.ClassOk : Prop := ∀ (w : World) (cb tb cap p : Nat) (ao : Option Addr) (l : List Int), T.Cur w cb tb cap ao l p -> T.see l p = 91 -> T.see l (p + 1) = 58 ->
 Calls Tryz.prog 214 #[.pointer (some ⟨cb, 0, none⟩)] w (T.Ends w cb tb cap ao l (T.cls l p) T.isSet)
def T.SetOk (cb tb cap : Nat) (ao : Option Addr) (l : List Int) (deep : Int) (sub : Nat -> T.Out (List S.Sp)) : Prop := ∀ (w : World) (p : Nat), T.Cur w cb tb cap ao l p ->
 Calls Tryz.prog 173 #[.pointer (some ⟨cb, 0, none⟩), .int .i64 deep] w (T.Ends w cb tb cap ao l (sub p) (T.isSetF w.heap.size))
set_option maxHeartbeats 4000000 in
theorem part_meet (hC : T.ClassOk) (w : World) (cb tb cap p : Nat) (ao : Option Addr) (l : List Int) (deep : Nat) (hd : deep <= 20) (sub : Nat -> T.Out (List S.Sp)) (hS : T.SetOk cb tb cap ao l ((deep : Int) + 1) sub) (C : T.Cur w cb tb cap ao l p) (v : Value) (s : List S.Sp) (hs : T.isSet s v w) (h1 : T.see l p = 38) :
  Calls Tryz.prog 192 #[.pointer (some ⟨cb, 0, none⟩), v, .int .i64 deep] w (T.Ends w cb tb cap ao l (T.part sub l s p) (T.isSetF w.heap.size)) := by
 obtain ⟨vo, vc, hv⟩ := hs.1.len
 subst hv
 obtain ⟨o, HO⟩ : ∃ o, Hid (T.part sub l s p = o) := ⟨_, rfl⟩
 rw [HO.out]
 have HC : Hid (T.Cur w cb tb cap ao l p) := C
 have HV : Hid (T.isSet s (.slice vo s.length vc) w) := hs
 have HS : Hid (T.SetOk cb tb cap ao l ((deep : Int) + 1) sub) := hS
 have HK : Hid T.ClassOk := hC
 clear C hs hS hC
 go_enter Tryz.func192, Tryz.ntmps192
 have HG0 : Hid (w.grownBy w (some cb)) := S.grown_refl _ _
 have HC0 : Hid (T.Cur w cb tb cap ao l p) := HC
 have HV0 : Hid (T.isSet s (.slice vo s.length vc) w) := HV
 go_wp2_with fail
 refine (skip_any _ cb tb cap p ao l 38 (by decide) HC0.out).mono ?_
 rintro e w1 ⟨rfl, C1, g1⟩
 rw [if_pos h1] at C1
 have HG1 : Hid (w.grownBy w1 (some cb)) := S.grown_trans HG0.out g1
 have HV1 : Hid (T.isSet s (.slice vo s.length vc) w1) := HV0.out.cur HC0.out g1
 have HC1 : Hid (T.Cur w1 cb tb cap ao l (p + 1)) := C1
 clear C1 g1
 go_wp2_with fail
 refine (blanks_any _ cb tb cap (p + 1) ao l HC1.out).mono ?_
 rintro e w8 ⟨rfl, C8, g8⟩
 have HG8 : Hid (w.grownBy w8 (some cb)) := S.grown_trans HG1.out g8
 have HV8 : Hid (T.isSet s (.slice vo s.length vc) w8) := HV1.out.cur HC1.out g8
 have HC8 : Hid (T.Cur w8 cb tb cap ao l (T.skipW T.blank l (p + 1))) := C8
 clear C8 g8
 go_wp2_with fail
 refine (HS.out _ _ HC8.out).mono ?_
 intro e w9 h
 cases hc : sub (T.skipW T.blank l (p + 1)) with
 | bad er q =>
  rw [hc] at h
  obtain ⟨rfl, g9⟩ := h
  unfold T.thrown
  go_wp2
  refine ⟨rfl, ?_⟩
  rw [<- HO.out]; unfold T.part; rw [if_pos h1, hc]
  exact ⟨rfl, S.grown_trans HG8.out g9⟩
 | ok t q =>
  rw [hc] at h
  obtain ⟨v9, rfl, ⟨hv9, _⟩, C9, g9⟩ := h
  have HV9 : Hid (T.isSet s (.slice vo s.length vc) w9) := HV8.out.cur HC8.out g9
  have HG9 : Hid (w.grownBy w9 (some cb)) := S.grown_trans HG8.out g9
  have HC9 : Hid (T.Cur w9 cb tb cap ao l q) := C9
  have HT9 : Hid (T.isSet t v9 w9) := hv9
  have HHc : Hid _ := hc
  obtain ⟨tgo, tc, ht⟩ := hv9.1.len
  subst ht
  clear hc hv9 C9 g9
  go_wp2_with fail
  refine (meet_any _ _ _ s t HV9.out.1 HT9.out.1 (S.Fit.of_nf HV9.out.2.1 (Int.le_refl _)) (S.Fit.of_nf HT9.out.2.1 (Int.le_refl _))).mono ?_
  rintro e w10 ⟨v10, rfl, R10, b10, f10, _⟩
  have HF10 : Hid (S.Fresh w.heap.size v10) := f10.mono HG9.out.size
  rw [S.wrong_ok HV9.out.2.1 HV9.out.2.2, S.wrong_ok HT9.out.2.1 HT9.out.2.2] at R10 ⊢
  have HR10 : Hid (S.Rd w10 v10 (S.resL 0 0 (S.andP s t))) := R10
  have HC10 : Hid (T.Cur w10 cb tb cap ao l q) := HC9.out.below b10
  have HG10 : Hid (w.grownBy w10 (some cb)) := S.grown_trans HG9.out (S.grown_below b10)
  clear R10 b10 f10
  generalize hre : S.resE 0 0 (S.andP s t) = re
  have HRe : Hid _ := hre
  clear hre
  go_wp2_with fail
  rw [<- HRe.out]
  refine (made_any _ cb tb cap q ao l HC10.out (S.andP s t) (S.andP_in s t) v10 HR10.out _ HF10.out).mono ?_
  intro e w11 h
  have ho : T.made (S.andP s t) q = o := by rw [<- HO.out]; unfold T.part; rw [if_pos h1, HHc.out]
  rw [ho] at h
  cases o with
  | bad er r =>
   obtain ⟨rfl, g11⟩ := h
   unfold T.thrown
   go_wp2
   exact ⟨rfl, rfl, S.grown_trans HG10.out g11⟩
  | ok u r =>
   obtain ⟨v11, rfl, hv11, C11, g11⟩ := h
   have HV11 : Hid (T.isSetF w.heap.size u v11 w11) := hv11
   clear hv11
   go_wp2
   go_ret
   exact ⟨_, rfl, HV11.out, C11, S.grown_trans HG10.out g11⟩
set_option maxHeartbeats 4000000 in
theorem part_minus (hC : T.ClassOk) (w : World) (cb tb cap p : Nat) (ao : Option Addr) (l : List Int) (deep : Nat) (hd : deep <= 20) (sub : Nat -> T.Out (List S.Sp)) (hS : T.SetOk cb tb cap ao l ((deep : Int) + 1) sub) (C : T.Cur w cb tb cap ao l p) (v : Value) (s : List S.Sp) (hs : T.isSet s v w) (h1 : ¬ T.see l p = 38) (h2 : T.see l p = 45) :
  Calls Tryz.prog 192 #[.pointer (some ⟨cb, 0, none⟩), v, .int .i64 deep] w (T.Ends w cb tb cap ao l (T.part sub l s p) (T.isSetF w.heap.size)) := by
 obtain ⟨vo, vc, hv⟩ := hs.1.len
 subst hv
 obtain ⟨o, HO⟩ : ∃ o, Hid (T.part sub l s p = o) := ⟨_, rfl⟩
 rw [HO.out]
 have HC : Hid (T.Cur w cb tb cap ao l p) := C
 have HV : Hid (T.isSet s (.slice vo s.length vc) w) := hs
 have HS : Hid (T.SetOk cb tb cap ao l ((deep : Int) + 1) sub) := hS
 have HK : Hid T.ClassOk := hC
 clear C hs hS hC
 go_enter Tryz.func192, Tryz.ntmps192
 have HG0 : Hid (w.grownBy w (some cb)) := S.grown_refl _ _
 have HC0 : Hid (T.Cur w cb tb cap ao l p) := HC
 have HV0 : Hid (T.isSet s (.slice vo s.length vc) w) := HV
 go_wp2_with fail
 refine (skip_any _ cb tb cap p ao l 38 (by decide) HC0.out).mono ?_
 rintro e w1 ⟨rfl, C1, g1⟩
 rw [if_neg h1] at C1
 have HG1 : Hid (w.grownBy w1 (some cb)) := S.grown_trans HG0.out g1
 have HV1 : Hid (T.isSet s (.slice vo s.length vc) w1) := HV0.out.cur HC0.out g1
 have HC1 : Hid (T.Cur w1 cb tb cap ao l p) := C1
 clear C1 g1
 go_wp2_with fail
 refine (skip_any _ cb tb cap p ao l 45 (by decide) HC1.out).mono ?_
 rintro e w2 ⟨rfl, C2, g2⟩
 rw [if_pos h2] at C2
 have HG2 : Hid (w.grownBy w2 (some cb)) := S.grown_trans HG1.out g2
 have HV2 : Hid (T.isSet s (.slice vo s.length vc) w2) := HV1.out.cur HC1.out g2
 have HC2 : Hid (T.Cur w2 cb tb cap ao l (p + 1)) := C2
 clear C2 g2
 go_wp2_with fail
 refine (blanks_any _ cb tb cap (p + 1) ao l HC2.out).mono ?_
 rintro e w8 ⟨rfl, C8, g8⟩
 have HG8 : Hid (w.grownBy w8 (some cb)) := S.grown_trans HG2.out g8
 have HV8 : Hid (T.isSet s (.slice vo s.length vc) w8) := HV2.out.cur HC2.out g8
 have HC8 : Hid (T.Cur w8 cb tb cap ao l (T.skipW T.blank l (p + 1))) := C8
 clear C8 g8
 go_wp2_with fail
 refine (HS.out _ _ HC8.out).mono ?_
 intro e w9 h
 cases hc : sub (T.skipW T.blank l (p + 1)) with
 | bad er q =>
  rw [hc] at h
  obtain ⟨rfl, g9⟩ := h
  unfold T.thrown
  go_wp2
  refine ⟨rfl, ?_⟩
  rw [<- HO.out]; unfold T.part; rw [if_neg h1, if_pos h2, hc]
  exact ⟨rfl, S.grown_trans HG8.out g9⟩
 | ok t q =>
  rw [hc] at h
  obtain ⟨v9, rfl, ⟨hv9, _⟩, C9, g9⟩ := h
  have HV9 : Hid (T.isSet s (.slice vo s.length vc) w9) := HV8.out.cur HC8.out g9
  have HG9 : Hid (w.grownBy w9 (some cb)) := S.grown_trans HG8.out g9
  have HC9 : Hid (T.Cur w9 cb tb cap ao l q) := C9
  have HT9 : Hid (T.isSet t v9 w9) := hv9
  have HHc : Hid _ := hc
  obtain ⟨tgo, tc, ht⟩ := hv9.1.len
  subst ht
  clear hc hv9 C9 g9
  go_wp2_with fail
  refine (minus_any _ _ _ s t HV9.out.1 HT9.out.1 (S.Fit.of_nf HV9.out.2.1 (Int.le_refl _)) (S.Fit.of_nf HT9.out.2.1 (Int.le_refl _))).mono ?_
  rintro e w10 ⟨v10, rfl, R10, b10, f10, _⟩
  have HF10 : Hid (S.Fresh w.heap.size v10) := f10.mono HG9.out.size
  rw [S.wrong_ok HV9.out.2.1 HV9.out.2.2, S.wrong_ok HT9.out.2.1 HT9.out.2.2] at R10 ⊢
  have HR10 : Hid (S.Rd w10 v10 (S.resL 0 0 (S.minP s t))) := R10
  have HC10 : Hid (T.Cur w10 cb tb cap ao l q) := HC9.out.below b10
  have HG10 : Hid (w.grownBy w10 (some cb)) := S.grown_trans HG9.out (S.grown_below b10)
  clear R10 b10 f10
  generalize hre : S.resE 0 0 (S.minP s t) = re
  have HRe : Hid _ := hre
  clear hre
  go_wp2_with fail
  rw [<- HRe.out]
  refine (made_any _ cb tb cap q ao l HC10.out (S.minP s t) (S.minP_in s t) v10 HR10.out _ HF10.out).mono ?_
  intro e w11 h
  have ho : T.made (S.minP s t) q = o := by rw [<- HO.out]; unfold T.part; rw [if_neg h1, if_pos h2, HHc.out]
  rw [ho] at h
  cases o with
  | bad er r =>
   obtain ⟨rfl, g11⟩ := h
   unfold T.thrown
   go_wp2
   exact ⟨rfl, rfl, S.grown_trans HG10.out g11⟩
  | ok u r =>
   obtain ⟨v11, rfl, hv11, C11, g11⟩ := h
   have HV11 : Hid (T.isSetF w.heap.size u v11 w11) := hv11
   clear hv11
   go_wp2
   go_ret
   exact ⟨_, rfl, HV11.out, C11, S.grown_trans HG10.out g11⟩
set_option maxHeartbeats 4000000 in
theorem part_class (hC : T.ClassOk) (w : World) (cb tb cap p : Nat) (ao : Option Addr) (l : List Int) (deep : Nat) (_ : deep <= 20) (sub : Nat -> T.Out (List S.Sp)) (hS : T.SetOk cb tb cap ao l ((deep : Int) + 1) sub) (C : T.Cur w cb tb cap ao l p) (v : Value) (s : List S.Sp) (hs : T.isSet s v w) (h1 : ¬ T.see l p = 38) (h2 : ¬ T.see l p = 45) (h3 : T.see l p = 91) (h4 : T.see l (p + 1) = 58) :
  Calls Tryz.prog 192 #[.pointer (some ⟨cb, 0, none⟩), v, .int .i64 deep] w (T.Ends w cb tb cap ao l (T.part sub l s p) (T.isSetF w.heap.size)) := by
 obtain ⟨vo, vc, hv⟩ := hs.1.len
 subst hv
 obtain ⟨o, HO⟩ : ∃ o, Hid (T.part sub l s p = o) := ⟨_, rfl⟩
 rw [HO.out]
 have HC : Hid (T.Cur w cb tb cap ao l p) := C
 have HV : Hid (T.isSet s (.slice vo s.length vc) w) := hs
 have HS : Hid (T.SetOk cb tb cap ao l ((deep : Int) + 1) sub) := hS
 have HK : Hid T.ClassOk := hC
 clear C hs hS hC
 go_enter Tryz.func192, Tryz.ntmps192
 have HG0 : Hid (w.grownBy w (some cb)) := S.grown_refl _ _
 have HC0 : Hid (T.Cur w cb tb cap ao l p) := HC
 have HV0 : Hid (T.isSet s (.slice vo s.length vc) w) := HV
 go_wp2_with fail
 refine (skip_any _ cb tb cap p ao l 38 (by decide) HC0.out).mono ?_
 rintro e w1 ⟨rfl, C1, g1⟩
 rw [if_neg h1] at C1
 have HG1 : Hid (w.grownBy w1 (some cb)) := S.grown_trans HG0.out g1
 have HV1 : Hid (T.isSet s (.slice vo s.length vc) w1) := HV0.out.cur HC0.out g1
 have HC1 : Hid (T.Cur w1 cb tb cap ao l p) := C1
 clear C1 g1
 go_wp2_with fail
 refine (skip_any _ cb tb cap p ao l 45 (by decide) HC1.out).mono ?_
 rintro e w2 ⟨rfl, C2, g2⟩
 rw [if_neg h2] at C2
 have HG2 : Hid (w.grownBy w2 (some cb)) := S.grown_trans HG1.out g2
 have HV2 : Hid (T.isSet s (.slice vo s.length vc) w2) := HV1.out.cur HC1.out g2
 have HC2 : Hid (T.Cur w2 cb tb cap ao l p) := C2
 clear C2 g2
 go_wp2_with fail
 refine (is_any _ cb tb cap p ao l 91 HC2.out).mono ?_
 rintro e w3 ⟨rfl, b3⟩
 have HG3 : Hid (w.grownBy w3 (some cb)) := S.grown_trans HG2.out (S.grown_below b3)
 have HV3 : Hid (T.isSet s (.slice vo s.length vc) w3) := ⟨HV2.out.1.below b3 (Nat.le_refl _), HV2.out.2⟩
 have HC3 : Hid (T.Cur w3 cb tb cap ao l p) := HC2.out.below b3
 clear b3
 go_wp2_with fail
 refine (ahead_any _ cb tb cap p 1 ao l HC3.out (by omega)).mono ?_
 rintro e w8 ⟨rfl, b8⟩
 have HG8 : Hid (w.grownBy w8 (some cb)) := S.grown_trans HG3.out (S.grown_below b8)
 have HV8 : Hid (T.isSet s (.slice vo s.length vc) w8) := ⟨HV3.out.1.below b8 (Nat.le_refl _), HV3.out.2⟩
 have HC8 : Hid (T.Cur w8 cb tb cap ao l p) := HC3.out.below b8
 clear b8
 go_wp2_with fail
 refine (HK.out _ cb tb cap p ao l HC8.out h3 h4).mono ?_
 intro e w9 h
 cases hc : T.cls l p with
 | bad er q =>
  rw [hc] at h
  obtain ⟨rfl, g9⟩ := h
  unfold T.thrown
  go_wp2
  refine ⟨rfl, ?_⟩
  rw [<- HO.out]; unfold T.part; rw [if_neg h1, if_neg h2, if_pos ⟨h3, h4⟩, hc]
  exact ⟨rfl, S.grown_trans HG8.out g9⟩
 | ok t q =>
  rw [hc] at h
  obtain ⟨v9, rfl, hv9, C9, g9⟩ := h
  have HV9 : Hid (T.isSet s (.slice vo s.length vc) w9) := HV8.out.cur HC8.out g9
  have HG9 : Hid (w.grownBy w9 (some cb)) := S.grown_trans HG8.out g9
  have HC9 : Hid (T.Cur w9 cb tb cap ao l q) := C9
  have HT9 : Hid (T.isSet t v9 w9) := hv9
  have HHc : Hid _ := hc
  obtain ⟨tgo, tc, ht⟩ := hv9.1.len
  subst ht
  clear hc hv9 C9 g9
  go_wp2_with fail
  refine (union_any _ _ _ s t HV9.out.1 HT9.out.1 (S.Fit.of_nf HV9.out.2.1 (Int.le_refl _)) (S.Fit.of_nf HT9.out.2.1 (Int.le_refl _))).mono ?_
  rintro e w10 ⟨v10, rfl, R10, b10, f10, _⟩
  have HF10 : Hid (S.Fresh w.heap.size v10) := f10.mono HG9.out.size
  rw [S.wrong_ok HV9.out.2.1 HV9.out.2.2, S.wrong_ok HT9.out.2.1 HT9.out.2.2] at R10 ⊢
  have HR10 : Hid (S.Rd w10 v10 (S.resL 0 0 (S.orP s t))) := R10
  have HC10 : Hid (T.Cur w10 cb tb cap ao l q) := HC9.out.below b10
  have HG10 : Hid (w.grownBy w10 (some cb)) := S.grown_trans HG9.out (S.grown_below b10)
  clear R10 b10 f10
  generalize hre : S.resE 0 0 (S.orP s t) = re
  have HRe : Hid _ := hre
  clear hre
  go_wp2_with fail
  rw [<- HRe.out]
  refine (made_any _ cb tb cap q ao l HC10.out (S.orP s t) (S.orP_in s t) v10 HR10.out _ HF10.out).mono ?_
  intro e w11 h
  have ho : T.made (S.orP s t) q = o := by rw [<- HO.out]; unfold T.part; rw [if_neg h1, if_neg h2, if_pos ⟨h3, h4⟩, HHc.out]
  rw [ho] at h
  cases o with
  | bad er r =>
   obtain ⟨rfl, g11⟩ := h
   unfold T.thrown
   go_wp2
   exact ⟨rfl, rfl, S.grown_trans HG10.out g11⟩
  | ok u r =>
   obtain ⟨v11, rfl, hv11, C11, g11⟩ := h
   have HV11 : Hid (T.isSetF w.heap.size u v11 w11) := hv11
   clear hv11
   go_wp2
   go_ret
   exact ⟨_, rfl, HV11.out, C11, S.grown_trans HG10.out g11⟩
set_option maxHeartbeats 4000000 in
theorem part_sub (hC : T.ClassOk) (w : World) (cb tb cap p : Nat) (ao : Option Addr) (l : List Int) (deep : Nat) (hd : deep <= 20) (sub : Nat -> T.Out (List S.Sp)) (hS : T.SetOk cb tb cap ao l ((deep : Int) + 1) sub) (C : T.Cur w cb tb cap ao l p) (v : Value) (s : List S.Sp) (hs : T.isSet s v w) (h1 : ¬ T.see l p = 38) (h2 : ¬ T.see l p = 45) (h3 : T.see l p = 91) (h4 : ¬ T.see l (p + 1) = 58) :
  Calls Tryz.prog 192 #[.pointer (some ⟨cb, 0, none⟩), v, .int .i64 deep] w (T.Ends w cb tb cap ao l (T.part sub l s p) (T.isSetF w.heap.size)) := by
 obtain ⟨vo, vc, hv⟩ := hs.1.len
 subst hv
 obtain ⟨o, HO⟩ : ∃ o, Hid (T.part sub l s p = o) := ⟨_, rfl⟩
 rw [HO.out]
 have HC : Hid (T.Cur w cb tb cap ao l p) := C
 have HV : Hid (T.isSet s (.slice vo s.length vc) w) := hs
 have HS : Hid (T.SetOk cb tb cap ao l ((deep : Int) + 1) sub) := hS
 have HK : Hid T.ClassOk := hC
 clear C hs hS hC
 go_enter Tryz.func192, Tryz.ntmps192
 have HG0 : Hid (w.grownBy w (some cb)) := S.grown_refl _ _
 have HC0 : Hid (T.Cur w cb tb cap ao l p) := HC
 have HV0 : Hid (T.isSet s (.slice vo s.length vc) w) := HV
 go_wp2_with fail
 refine (skip_any _ cb tb cap p ao l 38 (by decide) HC0.out).mono ?_
 rintro e w1 ⟨rfl, C1, g1⟩
 rw [if_neg h1] at C1
 have HG1 : Hid (w.grownBy w1 (some cb)) := S.grown_trans HG0.out g1
 have HV1 : Hid (T.isSet s (.slice vo s.length vc) w1) := HV0.out.cur HC0.out g1
 have HC1 : Hid (T.Cur w1 cb tb cap ao l p) := C1
 clear C1 g1
 go_wp2_with fail
 refine (skip_any _ cb tb cap p ao l 45 (by decide) HC1.out).mono ?_
 rintro e w2 ⟨rfl, C2, g2⟩
 rw [if_neg h2] at C2
 have HG2 : Hid (w.grownBy w2 (some cb)) := S.grown_trans HG1.out g2
 have HV2 : Hid (T.isSet s (.slice vo s.length vc) w2) := HV1.out.cur HC1.out g2
 have HC2 : Hid (T.Cur w2 cb tb cap ao l p) := C2
 clear C2 g2
 go_wp2_with fail
 refine (is_any _ cb tb cap p ao l 91 HC2.out).mono ?_
 rintro e w3 ⟨rfl, b3⟩
 have HG3 : Hid (w.grownBy w3 (some cb)) := S.grown_trans HG2.out (S.grown_below b3)
 have HV3 : Hid (T.isSet s (.slice vo s.length vc) w3) := ⟨HV2.out.1.below b3 (Nat.le_refl _), HV2.out.2⟩
 have HC3 : Hid (T.Cur w3 cb tb cap ao l p) := HC2.out.below b3
 clear b3
 go_wp2_with fail
 refine (ahead_any _ cb tb cap p 1 ao l HC3.out (by omega)).mono ?_
 rintro e w4 ⟨rfl, b4⟩
 have HG4 : Hid (w.grownBy w4 (some cb)) := S.grown_trans HG3.out (S.grown_below b4)
 have HV4 : Hid (T.isSet s (.slice vo s.length vc) w4) := ⟨HV3.out.1.below b4 (Nat.le_refl _), HV3.out.2⟩
 have HC4 : Hid (T.Cur w4 cb tb cap ao l p) := HC3.out.below b4
 clear b4
 go_wp2_with fail
 refine (is_any _ cb tb cap p ao l 91 HC4.out).mono ?_
 rintro e w8 ⟨rfl, b8⟩
 have HG8 : Hid (w.grownBy w8 (some cb)) := S.grown_trans HG4.out (S.grown_below b8)
 have HV8 : Hid (T.isSet s (.slice vo s.length vc) w8) := ⟨HV4.out.1.below b8 (Nat.le_refl _), HV4.out.2⟩
 have HC8 : Hid (T.Cur w8 cb tb cap ao l p) := HC4.out.below b8
 clear b8
 go_wp2_with fail
 refine (HS.out _ _ HC8.out).mono ?_
 intro e w9 h
 cases hc : sub p with
 | bad er q =>
  rw [hc] at h
  obtain ⟨rfl, g9⟩ := h
  unfold T.thrown
  go_wp2
  refine ⟨rfl, ?_⟩
  rw [<- HO.out]; unfold T.part; rw [if_neg h1, if_neg h2, if_neg (fun h => h4 h.2), if_pos h3, hc]
  exact ⟨rfl, S.grown_trans HG8.out g9⟩
 | ok t q =>
  rw [hc] at h
  obtain ⟨v9, rfl, ⟨hv9, _⟩, C9, g9⟩ := h
  have HV9 : Hid (T.isSet s (.slice vo s.length vc) w9) := HV8.out.cur HC8.out g9
  have HG9 : Hid (w.grownBy w9 (some cb)) := S.grown_trans HG8.out g9
  have HC9 : Hid (T.Cur w9 cb tb cap ao l q) := C9
  have HT9 : Hid (T.isSet t v9 w9) := hv9
  have HHc : Hid _ := hc
  obtain ⟨tgo, tc, ht⟩ := hv9.1.len
  subst ht
  clear hc hv9 C9 g9
  go_wp2_with fail
  refine (union_any _ _ _ s t HV9.out.1 HT9.out.1 (S.Fit.of_nf HV9.out.2.1 (Int.le_refl _)) (S.Fit.of_nf HT9.out.2.1 (Int.le_refl _))).mono ?_
  rintro e w10 ⟨v10, rfl, R10, b10, f10, _⟩
  have HF10 : Hid (S.Fresh w.heap.size v10) := f10.mono HG9.out.size
  rw [S.wrong_ok HV9.out.2.1 HV9.out.2.2, S.wrong_ok HT9.out.2.1 HT9.out.2.2] at R10 ⊢
  have HR10 : Hid (S.Rd w10 v10 (S.resL 0 0 (S.orP s t))) := R10
  have HC10 : Hid (T.Cur w10 cb tb cap ao l q) := HC9.out.below b10
  have HG10 : Hid (w.grownBy w10 (some cb)) := S.grown_trans HG9.out (S.grown_below b10)
  clear R10 b10 f10
  generalize hre : S.resE 0 0 (S.orP s t) = re
  have HRe : Hid _ := hre
  clear hre
  go_wp2_with fail
  rw [<- HRe.out]
  refine (made_any _ cb tb cap q ao l HC10.out (S.orP s t) (S.orP_in s t) v10 HR10.out _ HF10.out).mono ?_
  intro e w11 h
  have ho : T.made (S.orP s t) q = o := by rw [<- HO.out]; unfold T.part; rw [if_neg h1, if_neg h2, if_neg (fun h => h4 h.2), if_pos h3, HHc.out]
  rw [ho] at h
  cases o with
  | bad er r =>
   obtain ⟨rfl, g11⟩ := h
   unfold T.thrown
   go_wp2
   exact ⟨rfl, rfl, S.grown_trans HG10.out g11⟩
  | ok u r =>
   obtain ⟨v11, rfl, hv11, C11, g11⟩ := h
   have HV11 : Hid (T.isSetF w.heap.size u v11 w11) := hv11
   clear hv11
   go_wp2
   go_ret
   exact ⟨_, rfl, HV11.out, C11, S.grown_trans HG10.out g11⟩
theorem tw_mem {f : Int -> Bool} : ∀ {l : List Int} {z : Int}, z ∈ l.takeWhile f -> f z = true
 | [], z, h => by simp at h
 | a :: l, z, h => by
  rw [List.takeWhile_cons] at h
  split at h
  ·rename_i ha
   rcases List.mem_cons.1 h with rfl | h'
   ·exact ha
   ·exact tw_mem h'
  ·simp at h
theorem take_tw {f : Int -> Bool} : ∀ m : List Int, m.take (m.takeWhile f).length = m.takeWhile f
 | [] => rfl
 | a :: m => by
  rw [List.takeWhile_cons]
  split
  ·rw [List.length_cons, List.take_succ_cons, take_tw m]
  ·rfl
theorem cut_tw {f : Int -> Bool} (l : List Int) (p : Nat) : T.cut l p (T.skipW f l p) = (l.drop p).takeWhile f := by
 unfold T.cut T.skipW
 rw [Nat.add_sub_cancel_left, take_tw]
theorem chr_bd {l : List Int} (hl : ∀ z ∈ l, M.right z = true) {p q : Nat} {r : Int} (h : T.chr l p = .ok r q) : 0 <= r /\ r <= 1114111 := by
 have hsee : ∀ i, T.see l i ≠ -1 -> 0 <= T.see l i /\ T.see l i <= 1114111 := by
  intro i hi
  by_cases hlt : i < l.length
  ·have := hl _ (List.mem_of_getElem? (T.see_lt hlt))
   unfold M.right at this
   have := of_decide_eq_true this
   omega
  ·exact absurd (T.see_ge (by omega)) hi
 unfold T.chr at h
 split at h
 ·unfold T.esc at h
  split at h
  ·unfold T.num at h
   split at h
   ·cases h
   ·split at h
    ·cases h
    ·split at h
     ·cases h
     ·split at h
      ·cases h
      ·rename_i hbig
       cases h
       refine ⟨?_, by omega⟩
       have : ∀ (m : List Int) (a : Int), 0 <= a -> (∀ z ∈ m, 0 <= T.hexOne z) -> 0 <= m.foldl (fun x r => 16 * x + T.hexOne r) a := by
        intro m
        induction m with
        | nil => intro a ha _; exact ha
        | cons z m ih => intro a ha hm; exact ih _ (by have := hm z (by simp); show 0 <= 16 * a + T.hexOne z; omega) (fun y hy => hm y (by simp [hy]))
       refine this _ 0 (by omega) fun z hz => ?_
       rw [cut_tw] at hz
       have hk := tw_mem hz
       have := hexd_cases hk
       unfold T.hexOne
       split <;> (try split) <;> omega
  ·split at h
   ·cases h; omega
   ·split at h
    ·cases h; omega
    ·split at h
     ·cases h
     ·rename_i hn
      cases h
      exact hsee _ fun e => hn (.inl e)
 ·split at h
  ·rename_i ho
   cases h
   refine hsee _ fun e => ?_
   rw [e] at ho
   revert ho
   decide
  ·cases h
theorem span_bd {l : List Int} (hl : ∀ z ∈ l, M.right z = true) {p q : Nat} {x : S.Sp} (h : T.span l p = .ok x q) : 0 <= x.1 /\ x.1 <= x.2 /\ x.2 <= 1114111 := by
 unfold T.span at h
 cases h1 : T.chr l p with
 | bad e r => rw [h1] at h; cases h
 | ok lo r =>
  rw [h1] at h
  simp only at h
  have b1 := chr_bd hl h1
  split at h
  ·cases h; simp only; omega
  ·cases h2 : T.chr l (r + 1) with
   | bad e r' => rw [h2] at h; cases h
   | ok hi r' =>
    rw [h2] at h
    simp only at h
    have b2 := chr_bd hl h2
    split at h
    ·cases h
    ·cases h; simp only; omega
set_option maxHeartbeats 4000000 in
theorem part_span (_ : T.ClassOk) (w : World) (cb tb cap p : Nat) (ao : Option Addr) (l : List Int) (deep : Nat) (_ : deep <= 20) (sub : Nat -> T.Out (List S.Sp)) (_ : T.SetOk cb tb cap ao l ((deep : Int) + 1) sub) (C : T.Cur w cb tb cap ao l p) (v : Value) (s : List S.Sp) (hs : T.isSet s v w) (h1 : ¬ T.see l p = 38) (h2 : ¬ T.see l p = 45) (h3 : ¬ T.see l p = 91) :
  Calls Tryz.prog 192 #[.pointer (some ⟨cb, 0, none⟩), v, .int .i64 deep] w (T.Ends w cb tb cap ao l (T.part sub l s p) (T.isSetF w.heap.size)) := by
 obtain ⟨vo, vc, hv⟩ := hs.1.len
 subst hv
 obtain ⟨o, HO⟩ : ∃ o, Hid (T.part sub l s p = o) := ⟨_, rfl⟩
 rw [HO.out]
 have HC : Hid (T.Cur w cb tb cap ao l p) := C
 have HV : Hid (T.isSet s (.slice vo s.length vc) w) := hs
 clear C hs
 go_enter Tryz.func192, Tryz.ntmps192
 have HG0 : Hid (w.grownBy w (some cb)) := S.grown_refl _ _
 have HC0 : Hid (T.Cur w cb tb cap ao l p) := HC
 have HV0 : Hid (T.isSet s (.slice vo s.length vc) w) := HV
 go_wp2_with fail
 refine (skip_any _ cb tb cap p ao l 38 (by decide) HC0.out).mono ?_
 rintro e w1 ⟨rfl, C1, g1⟩
 rw [if_neg h1] at C1
 have HG1 : Hid (w.grownBy w1 (some cb)) := S.grown_trans HG0.out g1
 have HV1 : Hid (T.isSet s (.slice vo s.length vc) w1) := HV0.out.cur HC0.out g1
 have HC1 : Hid (T.Cur w1 cb tb cap ao l p) := C1
 clear C1 g1
 go_wp2_with fail
 refine (skip_any _ cb tb cap p ao l 45 (by decide) HC1.out).mono ?_
 rintro e w2 ⟨rfl, C2, g2⟩
 rw [if_neg h2] at C2
 have HG2 : Hid (w.grownBy w2 (some cb)) := S.grown_trans HG1.out g2
 have HV2 : Hid (T.isSet s (.slice vo s.length vc) w2) := HV1.out.cur HC1.out g2
 have HC2 : Hid (T.Cur w2 cb tb cap ao l p) := C2
 clear C2 g2
 go_wp2_with fail
 refine (is_any _ cb tb cap p ao l 91 HC2.out).mono ?_
 rintro e w3 ⟨rfl, b3⟩
 have HG3 : Hid (w.grownBy w3 (some cb)) := S.grown_trans HG2.out (S.grown_below b3)
 have HV3 : Hid (T.isSet s (.slice vo s.length vc) w3) := ⟨HV2.out.1.below b3 (Nat.le_refl _), HV2.out.2⟩
 have HC3 : Hid (T.Cur w3 cb tb cap ao l p) := HC2.out.below b3
 clear b3
 go_wp2_with fail
 refine (is_any _ cb tb cap p ao l 91 HC3.out).mono ?_
 rintro e w8 ⟨rfl, b8⟩
 have HG8 : Hid (w.grownBy w8 (some cb)) := S.grown_trans HG3.out (S.grown_below b8)
 have HV8 : Hid (T.isSet s (.slice vo s.length vc) w8) := ⟨HV3.out.1.below b8 (Nat.le_refl _), HV3.out.2⟩
 have HC8 : Hid (T.Cur w8 cb tb cap ao l p) := HC3.out.below b8
 clear b8
 go_wp2_with fail
 refine (span_any _ cb tb cap p ao l HC8.out).mono ?_
 intro e w9 h
 cases hc : T.span l p with
 | bad er q =>
  rw [hc] at h
  obtain ⟨rfl, g9⟩ := h
  unfold T.thrown
  go_wp2
  refine ⟨rfl, ?_⟩
  rw [<- HO.out]; unfold T.part; rw [if_neg h1, if_neg h2, if_neg (fun h => h3 h.1), if_neg h3, hc]
  exact ⟨rfl, S.grown_trans HG8.out g9⟩
 | ok t q =>
  rw [hc] at h
  obtain ⟨v9, rfl, hv9, C9, g9⟩ := h
  have hx := span_bd C9.rt hc
  have HV9' : Hid (T.isSet s (.slice vo s.length vc) w9) := HV8.out.cur HC8.out g9
  have HG9' : Hid (w.grownBy w9 (some cb)) := S.grown_trans HG8.out g9
  have HC9' : Hid (T.Cur w9 cb tb cap ao l q) := C9
  have HHc : Hid _ := hc
  unfold T.isSpan at hv9
  subst hv9
  obtain ⟨x1, x2⟩ := t
  simp only at hx
  clear hc C9 g9
  go_wp2_with fail
  have bW := (Below.refl _ w9).alloc (Nat.le_refl _) (.cells #[.int .i32 x1, .int .i32 x2] 67)
  have HT9 : Hid (T.isSet [(x1, x2)] (.slice (some ⟨w9.heap.size, 0, none⟩) 1 1) (w9.alloc (.cells #[.int .i32 x1, .int .i32 x2] 67))) := by
   refine ⟨⟨_, _, rfl, (fun h => by cases h), fun _ => ⟨w9.heap.size, 0, rfl, fun j y hj => ?_⟩⟩, ⟨hx.1, hx.2.1, hx.2.2, trivial⟩, by simp⟩
   cases j with
   | zero => simp at hj; subst hj; exact ⟨by rw [World.cell?_alloc_at _ _ _ _ rfl]; rfl, by rw [World.cell?_alloc_at _ _ _ _ rfl]; rfl⟩
   | succ j => simp at hj
  have HV9 : Hid (T.isSet s (.slice vo s.length vc) (w9.alloc (.cells #[.int .i32 x1, .int .i32 x2] 67))) := ⟨HV9'.out.1.below bW (Nat.le_refl _), HV9'.out.2⟩
  have HC9 : Hid (T.Cur (w9.alloc (.cells #[.int .i32 x1, .int .i32 x2] 67)) cb tb cap ao l q) := HC9'.out.below bW
  have HG9 : Hid (w.grownBy (w9.alloc (.cells #[.int .i32 x1, .int .i32 x2] 67)) (some cb)) := S.grown_trans HG9'.out (S.grown_below bW)
  clear HV9' HG9' HC9' bW
  refine (union_any _ _ _ s [(x1, x2)] HV9.out.1 HT9.out.1 (S.Fit.of_nf HV9.out.2.1 (Int.le_refl _)) (S.Fit.of_nf HT9.out.2.1 (Int.le_refl _))).mono ?_
  rintro e w10 ⟨v10, rfl, R10, b10, f10, _⟩
  have HF10 : Hid (S.Fresh w.heap.size v10) := f10.mono HG9.out.size
  rw [S.wrong_ok HV9.out.2.1 HV9.out.2.2, S.wrong_ok HT9.out.2.1 HT9.out.2.2] at R10 ⊢
  have HR10 : Hid (S.Rd w10 v10 (S.resL 0 0 (S.orP s [(x1, x2)]))) := R10
  have HC10 : Hid (T.Cur w10 cb tb cap ao l q) := HC9.out.below b10
  have HG10 : Hid (w.grownBy w10 (some cb)) := S.grown_trans HG9.out (S.grown_below b10)
  clear R10 b10 f10
  generalize hre : S.resE 0 0 (S.orP s [(x1, x2)]) = re
  have HRe : Hid _ := hre
  clear hre
  go_wp2_with fail
  rw [<- HRe.out]
  refine (made_any _ cb tb cap q ao l HC10.out (S.orP s [(x1, x2)]) (S.orP_in s [(x1, x2)]) v10 HR10.out _ HF10.out).mono ?_
  intro e w11 h
  have ho : T.made (S.orP s [(x1, x2)]) q = o := by rw [<- HO.out]; unfold T.part; rw [if_neg h1, if_neg h2, if_neg (fun h => h3 h.1), if_neg h3, HHc.out]
  rw [ho] at h
  cases o with
  | bad er r =>
   obtain ⟨rfl, g11⟩ := h
   unfold T.thrown
   go_wp2
   exact ⟨rfl, rfl, S.grown_trans HG10.out g11⟩
  | ok u r =>
   obtain ⟨v11, rfl, hv11, C11, g11⟩ := h
   have HV11 : Hid (T.isSetF w.heap.size u v11 w11) := hv11
   clear hv11
   go_wp2
   go_ret
   exact ⟨_, rfl, HV11.out, C11, S.grown_trans HG10.out g11⟩
theorem part_any (hC : T.ClassOk) (w : World) (cb tb cap p : Nat) (ao : Option Addr) (l : List Int) (deep : Nat) (hd : deep <= 20) (sub : Nat -> T.Out (List S.Sp)) (hS : T.SetOk cb tb cap ao l ((deep : Int) + 1) sub) (C : T.Cur w cb tb cap ao l p) (v : Value) (s : List S.Sp) (hs : T.isSet s v w) :
  Calls Tryz.prog 192 #[.pointer (some ⟨cb, 0, none⟩), v, .int .i64 deep] w (T.Ends w cb tb cap ao l (T.part sub l s p) (T.isSetF w.heap.size)) := by
 by_cases h1 : T.see l p = 38
 ·exact part_meet hC w cb tb cap p ao l deep hd sub hS C v s hs h1
 ·by_cases h2 : T.see l p = 45
  ·exact part_minus hC w cb tb cap p ao l deep hd sub hS C v s hs h1 h2
  ·by_cases h3 : T.see l p = 91
   ·by_cases h4 : T.see l (p + 1) = 58
    ·exact part_class hC w cb tb cap p ao l deep hd sub hS C v s hs h1 h2 h3 h4
    ·exact part_sub hC w cb tb cap p ao l deep hd sub hS C v s hs h1 h2 h3 h4
   ·exact part_span hC w cb tb cap p ao l deep hd sub hS C v s hs h1 h2 h3
theorem chr_lt {l : List Int} {p q : Nat} {r : Int} (h : T.chr l p = .ok r q) : p < q := by
 unfold T.chr at h
 split at h
 ·unfold T.esc at h
  split at h
  ·unfold T.num at h
   split at h
   ·cases h
   ·split at h
    ·cases h
    ·split at h
     ·cases h
     ·split at h
      ·cases h
      ·cases h
       have := T.skipW_ge T.hexd l (p + 1 + 2)
       omega
  ·split at h
   ·cases h; omega
   ·split at h
    ·cases h; omega
    ·split at h
     ·cases h
     ·cases h; omega
 ·split at h
  ·cases h; omega
  ·cases h
theorem span_lt {l : List Int} {p q : Nat} {x : S.Sp} (h : T.span l p = .ok x q) : p < q := by
 unfold T.span at h
 cases h1 : T.chr l p with
 | bad e r => rw [h1] at h; cases h
 | ok lo r =>
  rw [h1] at h
  simp only at h
  have b1 := chr_lt h1
  split at h
  ·cases h; exact b1
  ·cases h2 : T.chr l (r + 1) with
   | bad e r' => rw [h2] at h; cases h
   | ok hi r' =>
    rw [h2] at h
    simp only at h
    have b2 := chr_lt h2
    split at h
    ·cases h
    ·cases h; omega
theorem cls_lt {l : List Int} {p q : Nat} {s : List S.Sp} (h : T.cls l p = .ok s q) : p < q := by
 unfold T.cls at h
 split at h
 ·cases h
 ·split at h
  ·cases h
  ·split at h
   ·cases h
   ·cases h
    have := T.skipW_ge T.ordy l (p + 2)
    omega
theorem made_at {P : Int -> Bool} {p q : Nat} {s : List S.Sp} (h : T.made P p = .ok s q) : q = p := by
 unfold T.made at h
 split at h
 ·cases h
 ·cases h; rfl
theorem part_lt {sub : Nat -> T.Out (List S.Sp)} (hsub : ∀ p t q, sub p = .ok t q -> p < q) {l : List Int} {s t : List S.Sp} {p q : Nat} (h : T.part sub l s p = .ok t q) : p < q := by
 have hk := T.skipW_ge T.blank l (p + 1)
 unfold T.part at h
 split at h
 ·cases h1 : sub (T.skipW T.blank l (p + 1)) with
  | bad e r => rw [h1] at h; cases h
  | ok u r => rw [h1] at h; have := hsub _ _ _ h1; have := made_at h; omega
 ·split at h
  ·cases h1 : sub (T.skipW T.blank l (p + 1)) with
   | bad e r => rw [h1] at h; cases h
   | ok u r => rw [h1] at h; have := hsub _ _ _ h1; have := made_at h; omega
  ·split at h
   ·cases h1 : T.cls l p with
    | bad e r => rw [h1] at h; cases h
    | ok u r => rw [h1] at h; have := cls_lt h1; have := made_at h; omega
   ·split at h
    ·cases h1 : sub p with
     | bad e r => rw [h1] at h; cases h
     | ok u r => rw [h1] at h; have := hsub _ _ _ h1; have := made_at h; omega
    ·cases h1 : T.span l p with
     | bad e r => rw [h1] at h; cases h
     | ok u r => rw [h1] at h; have := span_lt h1; have := made_at h; omega
theorem loop_lt {sub : Nat -> T.Out (List S.Sp)} (hsub : ∀ p t q, sub p = .ok t q -> p < q) {l : List Int} : ∀ (f : Nat) {s t : List S.Sp} {p q : Nat}, T.loop f sub l s p = .ok t q -> p < q := by
 intro f
 induction f with
 | zero => intro s t p q h; rw [T.loop] at h; cases h
 | succ f ih =>
  intro s t p q h
  rw [T.loop] at h
  split at h
  ·cases h; omega
  ·cases h1 : T.part sub l s p with
   | bad e r => rw [h1] at h; cases h
   | ok u r =>
    rw [h1] at h
    simp only at h
    have := part_lt hsub h1
    have := ih h
    have := T.skipW_ge T.blank l r
    omega
theorem setN_lt {l : List Int} : ∀ (n p : Nat) (t : List S.Sp) (q : Nat), T.setN n l p = .ok t q -> p < q := by
 intro n
 induction n with
 | zero => intro p t q h; rw [T.setN] at h; split at h <;> cases h
 | succ n ih =>
  intro p t q h
  rw [T.setN] at h
  split at h
  ·cases h
  ·split at h
   ·cases h1 : T.loop (l.length + 1) (T.setN n l) l [] (T.skipW T.blank l (p + 2)) with
    | bad e r => rw [h1] at h; cases h
    | ok u r =>
     rw [h1] at h
     have := loop_lt ih _ h1
     have := made_at h
     have := T.skipW_ge T.blank l (p + 2)
     omega
   ·have := loop_lt ih _ h
    have := T.skipW_ge T.blank l (p + 1)
    omega
noncomputable def T.finish (ng : Bool) : T.Out (List S.Sp) -> T.Out (List S.Sp)
 | .bad e q => .bad e q
 | .ok s q => if ng = true then T.made (S.notP s) q else .ok s q
theorem set_deep (w : World) (cb tb cap p : Nat) (ao : Option Addr) (l : List Int) (C : T.Cur w cb tb cap ao l p) :
  Calls Tryz.prog 173 #[.pointer (some ⟨cb, 0, none⟩), .int .i64 21] w (T.Ends w cb tb cap ao l (T.setN 0 l p) (T.isSetF w.heap.size)) := by
 have c1 := C.cell1
 have HC : Hid (T.Cur w cb tb cap ao l p) := C
 clear C
 rw [T.setN]
 by_cases h : T.see l p = 91
 ·rw [if_neg (by simp [h])]
  go_enter Tryz.func173, Tryz.ntmps173
  go_wp2_with fail
  refine (need_yes _ cb tb cap p ao l 91 (by decide) HC.out h).mono ?_
  rintro e w1 ⟨rfl, C1, g1⟩
  go_wp2_with (go_at_call 36; refine (fail_any _ 4 p).mono ?_; unfold T.thrown; rintro e w2 ⟨rfl, rfl⟩)
  exact ⟨rfl, rfl, g1⟩
 ·rw [if_pos h]
  go_enter Tryz.func173, Tryz.ntmps173
  go_wp2_with fail
  refine (need_no _ cb tb cap p ao l 91 (by decide) HC.out h).mono ?_
  unfold T.thrown
  rintro e w1 ⟨rfl, g1⟩
  go_wp2
  exact ⟨rfl, rfl, g1⟩
set_option maxHeartbeats 8000000 in
theorem set_step (hC : T.ClassOk) (n : Nat) (hn : n < 20) (cb tb cap : Nat) (ao : Option Addr) (l : List Int) (hS : T.SetOk cb tb cap ao l ((20 - n : Nat) + 1 : Int) (T.setN n l)) : T.SetOk cb tb cap ao l ((20 - n : Nat) : Int) (T.setN (n + 1) l) := by
 intro w p C
 obtain ⟨deep, HD⟩ : ∃ d : Nat, Hid (d = 20 - n) := ⟨_, rfl⟩
 rw [<- HD.out] at hS ⊢
 have hd1 : deep <= 20 := by have := HD.out; omega
 have c1 := C.cell1
 have hlen := C.len
 have HC : Hid (T.Cur w cb tb cap ao l p) := C
 have HS : Hid (T.SetOk cb tb cap ao l ((deep : Int) + 1) (T.setN n l)) := hS
 have HK : Hid T.ClassOk := hC
 clear C hS hC
 obtain ⟨o, HO⟩ : ∃ o, Hid (T.setN (n + 1) l p = o) := ⟨_, rfl⟩
 rw [HO.out]
 by_cases h : T.see l p = 91
 ·go_enter Tryz.func173, Tryz.ntmps173
  go_wp2_with fail
  refine (need_yes _ cb tb cap p ao l 91 (by decide) HC.out h).mono ?_
  rintro e w1 ⟨rfl, C1, g1⟩
  have HC1 : Hid (T.Cur w1 cb tb cap ao l (p + 1)) := C1
  have HG1 : Hid (w.grownBy w1 (some cb)) := g1
  clear C1 g1
  have hdd : ¬ 20 < (deep : Int) := by omega
  go_wp2_with fail
  refine (skip_any _ cb tb cap (p + 1) ao l 94 (by decide) HC1.out).mono ?_
  rintro e w2 ⟨rfl, C2, g2⟩
  have HG2 : Hid (w.grownBy w2 (some cb)) := S.grown_trans HG1.out g2
  obtain ⟨p2, HP2⟩ : ∃ p2, Hid ((if T.see l (p + 1) = 94 then p + 1 + 1 else p + 1) = p2) := ⟨_, rfl⟩
  obtain ⟨ng, HNg⟩ : ∃ b : Bool, Hid (decide (T.see l (p + 1) = 94) = b) := ⟨_, rfl⟩
  rw [HP2.out] at C2
  rw [HNg.out]
  have HC2 : Hid (T.Cur w2 cb tb cap ao l p2) := C2
  clear C2 g2
  go_wp2_with fail
  refine (blanks_any _ cb tb cap p2 ao l HC2.out).mono ?_
  rintro e w3 ⟨rfl, C3, g3⟩
  have HG3 : Hid (w.grownBy w3 (some cb)) := S.grown_trans HG2.out g3
  have HC3 : Hid (T.Cur w3 cb tb cap ao l (T.skipW T.blank l p2)) := C3
  clear C3 g3
  obtain ⟨L0, HL0⟩ : ∃ L0, Hid (T.loop (l.length + 1) (T.setN n l) l [] (T.skipW T.blank l p2) = L0) := ⟨_, rfl⟩
  have HFin : Hid (o = T.finish ng L0) := by
   show _ = _
   rw [<- HO.out, <- HL0.out, <- HP2.out, <- HNg.out, T.setN, if_neg (by simp [h])]
   by_cases h94 : T.see l (p + 1) = 94
   ·rw [if_pos h94, if_pos h94, decide_eq_true h94]
    cases T.loop (l.length + 1) (T.setN n l) l [] (T.skipW T.blank l (p + 2)) <;> rfl
   ·rw [if_neg h94, if_neg h94, decide_eq_false h94]
    cases T.loop (l.length + 1) (T.setN n l) l [] (T.skipW T.blank l (p + 1)) <;> rfl
  go_wp2
  go_loopw [7] (fun sv wr => ∃ (s : List S.Sp) (q f vc : Nat) (vo : Option Addr), sv = .slice vo s.length vc /\ Hid (T.isSetF w.heap.size s (.slice vo s.length vc) wr) /\ Hid (T.Cur wr cb tb cap ao l q) /\ Hid (w.grownBy wr (some cb)) /\ Hid (l.length < q + f) /\ Hid (T.loop f (T.setN n l) l s q = L0)) (fun _ wr => l.length - T.pos wr cb)
  case atStart => exact ⟨[], T.skipW T.blank l p2, l.length + 1, 0, none, rfl, ⟨⟨S.Rd.nil _, trivial, by simp⟩, S.Fresh.nil _⟩, HC3, HG3, by show _ < _; omega, HL0⟩
  case round =>
   obtain ⟨s, q, f, vc, vo, rfl, HV, HCq, HG, HF, HL⟩ := hrel
   have HPos : Hid _ := HCq.out.pos
   have hql := HCq.out.le
   obtain ⟨f, rfl⟩ : ∃ g, f = g + 1 := ⟨f - 1, by have := HF.out; omega⟩
   go_wp2_with fail
   refine (skip_any _ cb tb cap q ao l 93 (by decide) HCq.out).mono ?_
   rintro e w4 ⟨rfl, C4, g4⟩
   have HG4 : Hid (w.grownBy w4 (some cb)) := S.grown_trans HG.out g4
   have HV4 : Hid (T.isSet s (.slice vo s.length vc) w4) := HV.out.1.cur HCq.out g4
   have HFr : Hid (S.Fresh w.heap.size (.slice vo s.length vc)) := HV.out.2
   clear g4
   by_cases h93 : T.see l q = 93
   ·rw [if_pos h93] at C4
    have HC4 : Hid (T.Cur w4 cb tb cap ao l (q + 1)) := C4
    clear C4
    have hL : L0 = .ok s (q + 1) := by rw [<- HL.out, T.loop, if_pos h93]
    have hFin := HFin.out
    rw [hL] at hFin
    have HFn : Hid _ := hFin
    clear hFin hL
    cases ng with
    | true =>
     go_wp2_with fail
     refine (not_any _ _ s HV4.out.1 (S.Fit.of_nf HV4.out.2.1 (Int.le_refl _))).mono ?_
     rintro e w7 ⟨v7, rfl, R7, b7, f7, _⟩
     have HF7 : Hid (S.Fresh w.heap.size v7) := f7.mono HG4.out.size
     rw [S.wrong_ok HV4.out.2.1 HV4.out.2.2] at R7 ⊢
     have HR7 : Hid (S.Rd w7 v7 (S.resL 0 0 (S.notP s))) := R7
     have HC7 : Hid (T.Cur w7 cb tb cap ao l (q + 1)) := HC4.out.below b7
     have HG7 : Hid (w.grownBy w7 (some cb)) := S.grown_trans HG4.out (S.grown_below b7)
     clear R7 b7 f7
     generalize hre : S.resE 0 0 (S.notP s) = re
     have HRe : Hid _ := hre
     clear hre
     go_wp2_with fail
     rw [<- HRe.out]
     refine (made_any _ cb tb cap (q + 1) ao l HC7.out (S.notP s) (S.notP_in s) v7 HR7.out _ HF7.out).mono ?_
     intro e w8 hm
     have ho : T.made (S.notP s) (q + 1) = o := by rw [HFn.out]; rfl
     rw [ho] at hm
     cases o with
     | bad er r =>
      obtain ⟨rfl, g8⟩ := hm
      unfold T.thrown
      go_wp2
      exact ⟨rfl, rfl, S.grown_trans HG7.out g8⟩
     | ok u r =>
      obtain ⟨v8, rfl, hv8, C8, g8⟩ := hm
      have HV8 : Hid (T.isSetF w.heap.size u v8 w8) := hv8
      clear hv8
      go_wp2
      go_ret
      exact ⟨_, rfl, HV8.out, C8, S.grown_trans HG7.out g8⟩
    | false =>
     go_wp2
     go_ret
     rw [HFn.out]
     exact ⟨_, rfl, ⟨HV4.out, HFr.out⟩, HC4.out, HG4.out⟩
   ·rw [if_neg h93] at C4
    have HC4 : Hid (T.Cur w4 cb tb cap ao l q) := C4
    clear C4
    go_wp2_with fail
    refine (part_any HK.out _ cb tb cap q ao l deep hd1 (T.setN n l) HS.out HC4.out _ s HV4.out).mono ?_
    intro e w5 hp
    cases hc : T.part (T.setN n l) l s q with
    | bad er r =>
     rw [hc] at hp
     obtain ⟨rfl, g5⟩ := hp
     have hFin := HFin.out
     rw [<- HL.out, T.loop, if_neg h93, hc] at hFin
     unfold T.thrown
     go_wp2
     refine ⟨rfl, ?_⟩
     rw [hFin]
     exact ⟨rfl, S.grown_trans HG4.out g5⟩
    | ok t r =>
     rw [hc] at hp
     obtain ⟨v5, rfl, hv5, C5, g5⟩ := hp
     have hqr := part_lt (setN_lt n) hc
     have HV5 : Hid (T.isSet t v5 w5) := hv5.1
     have HF5 : Hid (S.Fresh w.heap.size v5) := hv5.2.mono HG4.out.size
     have HC5 : Hid (T.Cur w5 cb tb cap ao l r) := C5
     have HG5 : Hid (w.grownBy w5 (some cb)) := S.grown_trans HG4.out g5
     have HL5 : Hid (T.loop f (T.setN n l) l t (T.skipW T.blank l r) = L0) := by show _ = _; rw [<- HL.out, T.loop, if_neg h93, hc]
     obtain ⟨tgo, tc, ht⟩ := hv5.1.1.len
     subst ht
     clear hv5 C5 g5 hc
     go_wp2_with fail
     refine (blanks_any _ cb tb cap r ao l HC5.out).mono ?_
     rintro e w6 ⟨rfl, C6, g6⟩
     have HC6 : Hid (T.Cur w6 cb tb cap ao l (T.skipW T.blank l r)) := C6
     have HV6 : Hid (T.isSet t (.slice tgo t.length tc) w6) := HV5.out.cur HC5.out g6
     have HG6 : Hid (w.grownBy w6 (some cb)) := S.grown_trans HG5.out g6
     have hge := T.skipW_ge T.blank l r
     clear C6 g6
     go_wp2
     go_roundw
     case rel => exact ⟨t, _, f, tc, tgo, rfl, ⟨HV6.out, HF5.out⟩, HC6, HG6, by have := HF.out; show _ < _; omega, HL5⟩
     case measure =>
      rw [HC6.out.pos, HPos.out]
      have := HC6.out.le
      omega
 ·go_enter Tryz.func173, Tryz.ntmps173
  go_wp2_with fail
  refine (need_no _ cb tb cap p ao l 91 (by decide) HC.out h).mono ?_
  unfold T.thrown
  rintro e w1 ⟨rfl, g1⟩
  go_wp2
  refine ⟨rfl, ?_⟩
  rw [<- HO.out, T.setN, if_pos h]
  exact ⟨rfl, g1⟩
theorem set_all (hC : T.ClassOk) (cb tb cap : Nat) (ao : Option Addr) (l : List Int) : ∀ n, n <= 20 -> T.SetOk cb tb cap ao l ((21 - n : Nat) : Int) (T.setN n l) := by
 intro n
 induction n with
 | zero => intro _ w p C; exact set_deep w cb tb cap p ao l C
 | succ n ih =>
  intro hn
  have h := ih (by omega)
  have e : ((21 - n : Nat) : Int) = ((20 - n : Nat) : Int) + 1 := by omega
  rw [e] at h
  have e2 : (21 - (n + 1) : Nat) = 20 - n := by omega
  rw [e2]
  exact set_step hC n (by omega) cb tb cap ao l h
theorem Set_any (hK : T.ClassOk) (w : World) (cb tb cap p : Nat) (ao : Option Addr) (l : List Int) (C : T.Cur w cb tb cap ao l p) :
  Calls Tryz.prog 144 #[.pointer (some ⟨cb, 0, none⟩)] w (T.Ends w cb tb cap ao l (T.setN 20 l p) (T.isSetF w.heap.size)) := by
 have HC : Hid (T.Cur w cb tb cap ao l p) := C
 have HS : Hid (T.SetOk cb tb cap ao l ((21 - 20 : Nat) : Int) (T.setN 20 l)) := set_all hK cb tb cap ao l 20 (Nat.le_refl _)
 clear C
 obtain ⟨o, HO⟩ : ∃ o, Hid (T.setN 20 l p = o) := ⟨_, rfl⟩
 rw [HO.out]
 go_enter Tryz.func144, Tryz.ntmps144
 go_wp2_with fail
 refine (HS.out _ _ HC.out).mono ?_
 intro e w2 h
 rw [HO.out] at h
 cases o with
 | bad er q =>
  obtain ⟨rfl, g2⟩ := h
  unfold T.thrown
  go_wp2
  exact ⟨rfl, rfl, g2⟩
 | ok t q =>
  obtain ⟨v2, rfl, hv2, C2, g2⟩ := h
  have HV2 : Hid (T.isSetF w.heap.size t v2 w2) := hv2
  have HC2 : Hid (T.Cur w2 cb tb cap ao l q) := C2
  have HG2 : Hid (w.grownBy w2 (some cb)) := g2
  obtain ⟨vo, vc, hv⟩ := hv2.1.1.len
  subst hv
  clear hv2 C2 g2
  go_wp2
  go_ret
  exact ⟨_, rfl, HV2.out, HC2.out, HG2.out⟩
theorem T.Cur.new {w : World} {B : Nat} {v : Value} {l : List Int} (ty : TypeId) (own : w.ownsRow B 21 1 v l.length (l.map (Value.int .i32))) (hl : l.length <= 16000) (hr : ∀ z ∈ l, M.right z = true) :
  ∃ ao cap tb, v = .slice ao l.length cap /\ T.Cur (w.alloc (.cells #[v, .int .i64 0] ty)) w.heap.size tb cap ao l 0 := by
 have hc := fun g hg => World.ownsRow.cells own (g := g) hg
 rcases own.2 with ⟨rfl, h0⟩ | ⟨g, cap, cur, rfl, hBg, hgg, hcap, _⟩
 ·have hnil : l = [] := by simpa using h0
  subst hnil
  exact ⟨none, 0, w.heap.size + 1, rfl, ⟨ty, heap_alloc_new w _⟩, fun h => absurd rfl h, fun j z hj => by simp at hj, by omega, Nat.zero_le _, hl, Nat.zero_le _, hr⟩
 ·have hlt : g < w.heap.size := (Array.getElem?_eq_some_iff.1 hgg).1
  refine ⟨_, cap, g, rfl, ⟨ty, heap_alloc_new w _⟩, fun _ => rfl, fun j z hj => ?_, by omega, Nat.zero_le _, hl, hcap, hr⟩
  have := hc g rfl j (.int .i32 z) (by simp [hj])
  rw [L.addr_add, Nat.zero_add] at this
  rw [World.cell?_of_block (a := ⟨g, j, none⟩) (Below.heap_alloc w _ g hlt)]
  exact this
end Go.Proofs.YtmlnanbpbbpekaaGreatDoor
