/-
  scriptlaw3.SetsynSigns answers true, for all slices of spans.
-/
import Derived.Test.YtbepnmmcdllklaaDoorLawTurns
namespace Go.Proofs.YtbepnmmcdllklaaDoor
open Go.RowKit
set_option maxRecDepth 20000

theorem ba_app (l m : List UInt8) : ((⟨l.toArray⟩ : ByteArray) ++ (⟨m.toArray⟩ : ByteArray)) = ⟨(l ++ m).toArray⟩ := by
  apply ByteArray.ext
  simp [ByteArray.data_append]

/-- what Read answers of a text put together -/
def Reads (str : ByteArray) (s : List S.Sp) : Prop := ∀ W, Calls Tryd.prog 11 #[.string str] W fun e w' => ∃ v, e = .returned (.tuple #[v, .agg #[.int .i64 0, .int .i64 0]]) ∧ S.Rd w' v s ∧ Below W.heap.size W w'

theorem reads_of {str : ByteArray} {l : List Int} {s : List S.Sp} (hs : str = ⟨(T.bytesR l).toArray⟩) (hr : T.rightL l) (hl : l.length ≤ 4000) (h : ∃ q, T.read l = .ok s q) : Reads str s := fun W => by
  obtain ⟨q, hq⟩ := h
  subst hs
  have hb : (T.bytesR l).length ≤ 4 * l.length := by
    clear hq hl
    unfold T.bytesR
    induction l with
    | nil => simp
    | cons x l ih =>
      have h1 := enc_short (hr x List.mem_cons_self)
      have h2 := ih fun r h => hr r (List.mem_cons_of_mem _ h)
      simp only [List.flatMap_cons, List.length_append, List.length_cons]
      omega
  have h := read_any class_ok ⟨(T.bytesR l).toArray⟩ (by show (T.bytesR l).toArray.size ≤ _; simp; omega) W
  rw [T.rn_bytes hr, hq] at h
  exact h.mono fun e w' ⟨v, h1, h2, h3⟩ => ⟨v, h1, h2.1, h3⟩

theorem min_len {a b : List S.Sp} (ha : S.Nf 0 a) (la : a.length ≤ 50) (lb : b.length ≤ 50) : (S.nf (S.minP a b)).length ≤ 200 := by
  have h : (S.D a b).length ≤ a.length + (S.C b).length := by rw [S.D_C]; exact S.I_len ha
  have h2 := S.C_len b
  unfold S.D at h
  omega
theorem reads1 {a b : List S.Sp} (ha : S.Nf 0 a) (hb : S.Nf 0 b) (la : a.length ≤ 50) (lb : b.length ≤ 50) : Reads ({ data := #[91] } ++ ⟨(T.prt a).toArray⟩ ++ ⟨(T.prt b).toArray⟩ ++ { data := #[93] }) (S.nf (S.orP a b)) := by
  obtain ⟨l1, l2, _, _⟩ := T.lens ha hb la lb
  refine reads_of (l := [91] ++ T.prtR a ++ T.prtR b ++ [93]) ?_ (T.rightL_app (T.rightL_app (T.rightL_app (by unfold T.rightL; decide) (T.prt_bytes a).2) (T.prt_bytes b).2) (by unfold T.rightL; decide)) (by simp; omega) (T.read_or ha hb la lb (by have := S.U_len ha hb; unfold S.U at this; omega))
  rw [T.bytesR_append, T.bytesR_append, T.bytesR_append, (T.prt_bytes a).1, (T.prt_bytes b).1, ← ba_app, ← ba_app, ← ba_app]
  rfl
theorem reads2 {a b : List S.Sp} (ha : S.Nf 0 a) (hb : S.Nf 0 b) (la : a.length ≤ 50) (lb : b.length ≤ 50) : Reads ({ data := #[91] } ++ ⟨(T.prt a).toArray⟩ ++ { data := #[38] } ++ ⟨(T.prt b).toArray⟩ ++ { data := #[93] }) (S.nf (S.andP a b)) := by
  obtain ⟨l1, l2, _, _⟩ := T.lens ha hb la lb
  refine reads_of (l := [91] ++ T.prtR a ++ [38] ++ T.prtR b ++ [93]) ?_ (T.rightL_app (T.rightL_app (T.rightL_app (T.rightL_app (by unfold T.rightL; decide) (T.prt_bytes a).2) (by unfold T.rightL; decide)) (T.prt_bytes b).2) (by unfold T.rightL; decide)) (by simp; omega) (T.read_and ha hb la lb (by have := S.I_len (b := b) ha; unfold S.I at this; omega))
  rw [T.bytesR_append, T.bytesR_append, T.bytesR_append, T.bytesR_append, (T.prt_bytes a).1, (T.prt_bytes b).1, ← ba_app, ← ba_app, ← ba_app, ← ba_app]
  rfl
theorem reads3 {a b : List S.Sp} (ha : S.Nf 0 a) (hb : S.Nf 0 b) (la : a.length ≤ 50) (lb : b.length ≤ 50) : Reads ({ data := #[91] } ++ ⟨(T.prt a).toArray⟩ ++ { data := #[32, 45, 32] } ++ ⟨(T.prt b).toArray⟩ ++ { data := #[93] }) (S.nf (S.minP a b)) := by
  obtain ⟨l1, l2, _, _⟩ := T.lens ha hb la lb
  refine reads_of (l := [91] ++ T.prtR a ++ [32, 45, 32] ++ T.prtR b ++ [93]) ?_ (T.rightL_app (T.rightL_app (T.rightL_app (T.rightL_app (by unfold T.rightL; decide) (T.prt_bytes a).2) (by unfold T.rightL; decide)) (T.prt_bytes b).2) (by unfold T.rightL; decide)) (by simp; omega) (T.read_min ha hb la lb (min_len ha la lb))
  rw [T.bytesR_append, T.bytesR_append, T.bytesR_append, T.bytesR_append, (T.prt_bytes a).1, (T.prt_bytes b).1, ← ba_app, ← ba_app, ← ba_app, ← ba_app]
  rfl
theorem reads4 {a : List S.Sp} (ha : S.Nf 0 a) (la : a.length ≤ 50) : Reads ({ data := #[91, 94] } ++ ⟨(T.prt a).toArray⟩ ++ { data := #[93] }) (S.nf (S.notP a)) := by
  obtain ⟨l1, _, _, _⟩ := T.lens ha ha la la
  refine reads_of (l := [91, 94] ++ T.prtR a ++ [93]) ?_ (T.rightL_app (T.rightL_app (by unfold T.rightL; decide) (T.prt_bytes a).2) (by unfold T.rightL; decide)) (by simp; omega) (T.read_not ha la (by have := S.C_len a; unfold S.C at this; omega))
  rw [T.bytesR_append, T.bytesR_append, (T.prt_bytes a).1, ← ba_app, ← ba_app]
  rfl
theorem reads5 {a : List S.Sp} (ha : S.Nf 0 a) (la : a.length ≤ 50) : Reads ({ data := #[32, 91, 91, 58, 97, 110, 121, 58, 93, 32, 45] } ++ ⟨(T.prt a).toArray⟩ ++ { data := #[32, 93, 32] }) (S.nf (S.notP a)) := by
  obtain ⟨l1, _, _, _⟩ := T.lens ha ha la la
  refine reads_of (l := [32, 91, 91, 58, 97, 110, 121, 58, 93, 32, 45] ++ T.prtR a ++ [32, 93, 32]) ?_ (T.rightL_app (T.rightL_app (by unfold T.rightL; decide) (T.prt_bytes a).2) (by unfold T.rightL; decide)) (by simp; omega) (T.read_any_minus ha la (by have := S.C_len a; unfold S.C at this; omega))
  rw [T.bytesR_append, T.bytesR_append, (T.prt_bytes a).1, ← ba_app, ← ba_app]
  rfl

set_option maxHeartbeats 4000000 in
theorem signs_out (w : World) (va vb : Value) (a b : List S.Sp) (Ra : S.Rd w va a) (Rb : S.Rd w vb b) (Fa : S.Fit a) (Fb : S.Fit b) (h : ¬ (S.wrongE a = 0 ∧ S.wrongE b = 0 ∧ a.length ≤ 50 ∧ b.length ≤ 50)) :
    Calls Tryd.prog 5 #[va, vb] w fun e w' => e = .returned (.bool true) ∧ Below w.heap.size w w' := by
  have HA : Hid (S.Rd w va a) := Ra
  have HB : Hid (S.Rd w vb b) := Rb
  obtain ⟨aa, ca, rfl⟩ := Ra.len
  obtain ⟨ab, cb, rfl⟩ := Rb.len
  clear Ra Rb
  have hwa := fun w1 (hb : Below w.heap.size w w1) => wrong_any w1 _ a (HA.out.below hb (Nat.le_refl _)) Fa
  have hwb := fun w1 (hb : Below w.heap.size w w1) => wrong_any w1 _ b (HB.out.below hb (Nat.le_refl _)) Fb
  have HWA : Hid (∀ w1, Below w.heap.size w w1 → Calls Tryd.prog 13 #[.slice aa a.length ca] w1 fun e w' => e = .returned (.int .i64 (S.wrongE a)) ∧ Below w1.heap.size w1 w') := hwa
  have HWB : Hid (∀ w1, Below w.heap.size w w1 → Calls Tryd.prog 13 #[.slice ab b.length cb] w1 fun e w' => e = .returned (.int .i64 (S.wrongE b)) ∧ Below w1.heap.size w1 w') := hwb
  clear hwa hwb
  generalize S.wrongE a = ea at *
  generalize S.wrongE b = eb at *
  go_enter Tryd.func5, Tryd.ntmps5
  go_wp2_with fail
  refine (alive3_any w).mono ?_
  rintro e w1 ⟨rfl, b1⟩
  have HB1 : Hid (Below w.heap.size w w1) := b1
  clear b1
  go_wp2_with fail
  refine (HWA.out w1 HB1.out).mono ?_
  rintro e w2 ⟨rfl, b2⟩
  have HB2 : Hid (Below w.heap.size w w2) := HB1.out.trans (b2.mono HB1.out.size)
  clear b2
  by_cases h1 : ea = 0
  · subst h1
    go_wp2_with fail
    refine (HWB.out w2 HB2.out).mono ?_
    rintro e w3 ⟨rfl, b3⟩
    have HB3 : Hid (Below w.heap.size w w3) := HB2.out.trans (b3.mono HB2.out.size)
    clear b3
    by_cases h2 : eb = 0
    · subst h2
      by_cases h3 : 50 < a.length
      · go_wp2
        go_ret
        exact ⟨rfl, HB3.out⟩
      · have h4 : 50 < b.length := by
          apply Classical.byContradiction
          intro h4
          exact h ⟨by first | rfl | trivial, by first | rfl | trivial, by omega, by omega⟩
        go_wp2
        go_ret
        exact ⟨rfl, HB3.out⟩
    · go_wp2
      go_ret
      exact ⟨rfl, HB3.out⟩
  · go_wp2
    go_ret
    exact ⟨rfl, HB2.out⟩

set_option maxHeartbeats 8000000 in
theorem signs_in (w : World) (va vb : Value) (a b : List S.Sp) (Ra : S.Rd w va a) (Rb : S.Rd w vb b) (ha : S.Nf 0 a) (hb : S.Nf 0 b) (la : a.length ≤ 50) (lb : b.length ≤ 50) (hT : T.Tz w) :
    Calls Tryd.prog 5 #[va, vb] w fun e w' => e = .returned (.bool true) ∧ Below w.heap.size w w' := by
  have HA : Hid (S.Rd w va a) := Ra
  have HB : Hid (S.Rd w vb b) := Rb
  obtain ⟨aa, ca, rfl⟩ := Ra.len
  obtain ⟨ab, cb, rfl⟩ := Rb.len
  have HTz : Hid (T.Tz w) := hT
  have hlt := hT.lt
  clear Ra Rb hT
  have wa : S.wrongE a = 0 := S.wrongE_zero.2 ⟨by omega, ha⟩
  have wb : S.wrongE b = 0 := S.wrongE_zero.2 ⟨by omega, hb⟩
  have Fa : S.Fit a := S.Fit.of_nf ha (Int.le_refl _)
  have Fb : S.Fit b := S.Fit.of_nf hb (Int.le_refl _)
  have n1 : (S.nf (S.orP a b)).length ≤ 200 := by have := S.U_len ha hb; unfold S.U at this; omega
  have n2 : (S.nf (S.andP a b)).length ≤ 200 := by have := S.I_len (b := b) ha; unfold S.I at this; omega
  have n3 : (S.nf (S.minP a b)).length ≤ 200 := min_len ha la lb
  have n4 : (S.nf (S.notP a)).length ≤ 200 := by have := S.C_len a; unfold S.C at this; omega
  have hpa : T.prE a = .tuple #[.string ⟨(T.prt a).toArray⟩, .int .i64 0] := by unfold T.prE; rw [wa]; rfl
  have hpb : T.prE b = .tuple #[.string ⟨(T.prt b).toArray⟩, .int .i64 0] := by unfold T.prE; rw [wb]; rfl
  have sxa : (⟨(T.prt a).toArray⟩ : ByteArray).size ≤ 2000 := by
    show (T.prt a).toArray.size ≤ _
    have := inner_len (l := a) fun x hx => by have := ha.mem hx; omega
    simp [T.prt]; omega
  have sxb : (⟨(T.prt b).toArray⟩ : ByteArray).size ≤ 2000 := by
    show (T.prt b).toArray.size ≤ _
    have := inner_len (l := b) fun x hx => by have := hb.mem hx; omega
    simp [T.prt]; omega
  have HPa : Hid (∀ w1, Below w.heap.size w w1 → Calls Tryd.prog 7 #[.slice aa a.length ca] w1 fun e w' => e = .returned (.tuple #[.string ⟨(T.prt a).toArray⟩, .int .i64 0]) ∧ Below w1.heap.size w1 w') := fun w1 h => by
    have := print_any w1 _ a (HA.out.below h (Nat.le_refl _)) Fa (HTz.out.below h hlt)
    rw [hpa] at this; exact this
  have HPb : Hid (∀ w1, Below w.heap.size w w1 → Calls Tryd.prog 7 #[.slice ab b.length cb] w1 fun e w' => e = .returned (.tuple #[.string ⟨(T.prt b).toArray⟩, .int .i64 0]) ∧ Below w1.heap.size w1 w') := fun w1 h => by
    have := print_any w1 _ b (HB.out.below h (Nat.le_refl _)) Fb (HTz.out.below h hlt)
    rw [hpb] at this; exact this
  have HWA : Hid (∀ w1, Below w.heap.size w w1 → Calls Tryd.prog 13 #[.slice aa a.length ca] w1 fun e w' => e = .returned (.int .i64 0) ∧ Below w1.heap.size w1 w') := fun w1 h => by
    have := wrong_any w1 _ a (HA.out.below h (Nat.le_refl _)) Fa
    rw [wa] at this; exact this
  have HWB : Hid (∀ w1, Below w.heap.size w w1 → Calls Tryd.prog 13 #[.slice ab b.length cb] w1 fun e w' => e = .returned (.int .i64 0) ∧ Below w1.heap.size w1 w') := fun w1 h => by
    have := wrong_any w1 _ b (HB.out.below h (Nat.le_refl _)) Fb
    rw [wb] at this; exact this
  have HU : Hid (∀ w1, Below w.heap.size w w1 → Calls Tryd.prog 14 #[.slice aa a.length ca, .slice ab b.length cb] w1 (Tells w1 (S.wrongE a) (S.wrongE b) (S.orP a b))) := fun w1 h => union_any w1 _ _ a b (HA.out.below h (Nat.le_refl _)) (HB.out.below h (Nat.le_refl _)) Fa Fb
  have HM : Hid (∀ w1, Below w.heap.size w w1 → Calls Tryd.prog 15 #[.slice aa a.length ca, .slice ab b.length cb] w1 (Tells w1 (S.wrongE a) (S.wrongE b) (S.andP a b))) := fun w1 h => meet_any w1 _ _ a b (HA.out.below h (Nat.le_refl _)) (HB.out.below h (Nat.le_refl _)) Fa Fb
  have HD : Hid (∀ w1, Below w.heap.size w w1 → Calls Tryd.prog 16 #[.slice aa a.length ca, .slice ab b.length cb] w1 (Tells w1 (S.wrongE a) (S.wrongE b) (S.minP a b))) := fun w1 h => minus_any w1 _ _ a b (HA.out.below h (Nat.le_refl _)) (HB.out.below h (Nat.le_refl _)) Fa Fb
  have HN : Hid (∀ w1, Below w.heap.size w w1 → Calls Tryd.prog 17 #[.slice aa a.length ca] w1 (Tells w1 (S.wrongE a) 0 (S.notP a))) := fun w1 h => not_any w1 _ a (HA.out.below h (Nat.le_refl _)) Fa
  rw [wa, wb] at HU HM HD
  rw [wa] at HN
  unfold Tells at HU HM HD HN
  rw [S.resL_ok n1, S.resE_ok n1] at HU
  rw [S.resL_ok n2, S.resE_ok n2] at HM
  rw [S.resL_ok n3, S.resE_ok n3] at HD
  rw [S.resL_ok n4, S.resE_ok n4] at HN
  have T1 : Hid (Reads _ _) := reads1 ha hb la lb
  have T2 : Hid (Reads _ _) := reads2 ha hb la lb
  have T3 : Hid (Reads _ _) := reads3 ha hb la lb
  have T4 : Hid (Reads _ _) := reads4 ha la
  have T5 : Hid (Reads _ _) := reads5 ha la
  generalize (⟨(T.prt a).toArray⟩ : ByteArray) = xa at *
  generalize (⟨(T.prt b).toArray⟩ : ByteArray) = xb at *
  generalize S.nf (S.orP a b) = zu at *
  generalize S.nf (S.andP a b) = zm at *
  generalize S.nf (S.minP a b) = zd at *
  generalize S.nf (S.notP a) = zn at *
  clear hpa hpb wa wb Fa Fb ha hb HTz
  go_enter Tryd.func5, Tryd.ntmps5
  go_wp2_with fail
  refine (alive3_any w).mono ?_
  rintro e w1 ⟨rfl, b1⟩
  have HB1 : Hid (Below w.heap.size w w1) := b1
  clear b1
  go_wp2_with fail
  refine (HWA.out w1 HB1.out).mono ?_
  rintro e w2 ⟨rfl, b2⟩
  have HB2 : Hid (Below w.heap.size w w2) := HB1.out.trans (b2.mono HB1.out.size)
  clear b2
  go_wp2_with fail
  refine (HWB.out w2 HB2.out).mono ?_
  rintro e w3 ⟨rfl, b3⟩
  have HB3 : Hid (Below w.heap.size w w3) := HB2.out.trans (b3.mono HB2.out.size)
  clear b3
  go_wp2_with fail
  refine (HPa.out w3 HB3.out).mono ?_
  rintro e w4 ⟨rfl, b4⟩
  have HB4 : Hid (Below w.heap.size w w4) := HB3.out.trans (b4.mono HB3.out.size)
  clear b4
  go_wp2_with fail
  refine (HPb.out w4 HB4.out).mono ?_
  rintro e w5 ⟨rfl, b5⟩
  have HB5 : Hid (Below w.heap.size w w5) := HB4.out.trans (b5.mono HB4.out.size)
  clear b5
  go_wp2_with fail
  refine (HU.out w5 HB5.out).mono ?_
  rintro e w6 ⟨vu, rfl, Ru, b6, _⟩
  have HB6 : Hid (Below w.heap.size w w6) := HB5.out.trans (b6.mono HB5.out.size)
  obtain ⟨au, cu, rfl⟩ := Ru.len
  have HRu : Hid (S.Rd w6 (.slice au zu.length cu) zu) := Ru
  clear b6 Ru
  go_wp2_with fail
  refine (HM.out w6 HB6.out).mono ?_
  rintro e w7 ⟨vm, rfl, Rm, b7, _⟩
  have HB7 : Hid (Below w.heap.size w w7) := HB6.out.trans (b7.mono HB6.out.size)
  have HX7 : Hid (Below w6.heap.size w6 w7) := b7
  obtain ⟨am, cm, rfl⟩ := Rm.len
  have HRm : Hid (S.Rd w7 (.slice am zm.length cm) zm) := Rm
  clear b7 Rm
  go_wp2_with fail
  refine (HD.out w7 HB7.out).mono ?_
  rintro e w8 ⟨vd, rfl, Rd, b8, _⟩
  have HB8 : Hid (Below w.heap.size w w8) := HB7.out.trans (b8.mono HB7.out.size)
  have HX8 : Hid (Below w7.heap.size w7 w8) := b8
  obtain ⟨ad, cd, rfl⟩ := Rd.len
  have HRd : Hid (S.Rd w8 (.slice ad zd.length cd) zd) := Rd
  clear b8 Rd
  go_wp2_with fail
  refine (HN.out w8 HB8.out).mono ?_
  rintro e w9 ⟨vn, rfl, Rn, b9, _⟩
  have HB9 : Hid (Below w.heap.size w w9) := HB8.out.trans (b9.mono HB8.out.size)
  have HX9 : Hid (Below w8.heap.size w8 w9) := b9
  obtain ⟨an, cn, rfl⟩ := Rn.len
  have HRn : Hid (S.Rd w9 (.slice an zn.length cn) zn) := Rn
  clear b9 Rn
  have R9u : Hid (S.Rd w9 (.slice au zu.length cu) zu) := ((HRu.out.below HX7.out (Nat.le_refl _)).below HX8.out (Nat.le_refl _)).below HX9.out (Nat.le_refl _)
  have R9m : Hid (S.Rd w9 (.slice am zm.length cm) zm) := (HRm.out.below HX8.out (Nat.le_refl _)).below HX9.out (Nat.le_refl _)
  have R9d : Hid (S.Rd w9 (.slice ad zd.length cd) zd) := HRd.out.below HX9.out (Nat.le_refl _)
  clear HX7 HX8 HX9 HRu HRm HRd HPa HPb HWA HWB HU HM HD HN
  go_wp2_with fail
  generalize ({ data := #[91] } ++ xa ++ xb ++ { data := #[93] } : ByteArray) = s1 at *
  generalize ({ data := #[91] } ++ xa ++ { data := #[38] } ++ xb ++ { data := #[93] } : ByteArray) = s2 at *
  generalize ({ data := #[91] } ++ xa ++ { data := #[32, 45, 32] } ++ xb ++ { data := #[93] } : ByteArray) = s3 at *
  generalize ({ data := #[91, 94] } ++ xa ++ { data := #[93] } : ByteArray) = s4 at *
  generalize ({ data := #[32, 91, 91, 58, 97, 110, 121, 58, 93, 32, 45] } ++ xa ++ { data := #[32, 93, 32] } : ByteArray) = s5 at *
  obtain ⟨X0, hX0⟩ : ∃ X0, X0 = w9.alloc (.cells #[.string s1, .slice au zu.length cu, .string s2, .slice am zm.length cm, .string s3, .slice ad zd.length cd, .string s4, .slice an zn.length cn, .string s5, .slice an zn.length cn] 38) := ⟨_, rfl⟩
  have HX0 : Hid (Below w9.heap.size w9 X0) := by rw [hX0]; exact (Below.refl _ _).alloc (Nat.le_refl _) _
  have hs0 : X0.heap.size = w9.heap.size + 1 := by rw [hX0]; simp
  have k0 : X0.cell? ⟨w9.heap.size, 0, none⟩ = some (.string s1) := by rw [hX0]; exact World.cell?_alloc_at _ _ _ _ (by simp)
  have k1 : X0.cell? ⟨w9.heap.size, 1, none⟩ = some (.slice au zu.length cu) := by rw [hX0]; exact World.cell?_alloc_at _ _ _ _ (by simp)
  have k2 : X0.cell? ⟨w9.heap.size, 2, none⟩ = some (.string s2) := by rw [hX0]; exact World.cell?_alloc_at _ _ _ _ (by simp)
  have k3 : X0.cell? ⟨w9.heap.size, 3, none⟩ = some (.slice am zm.length cm) := by rw [hX0]; exact World.cell?_alloc_at _ _ _ _ (by simp)
  have k4 : X0.cell? ⟨w9.heap.size, 4, none⟩ = some (.string s3) := by rw [hX0]; exact World.cell?_alloc_at _ _ _ _ (by simp)
  have k5 : X0.cell? ⟨w9.heap.size, 5, none⟩ = some (.slice ad zd.length cd) := by rw [hX0]; exact World.cell?_alloc_at _ _ _ _ (by simp)
  have k6 : X0.cell? ⟨w9.heap.size, 6, none⟩ = some (.string s4) := by rw [hX0]; exact World.cell?_alloc_at _ _ _ _ (by simp)
  have k7 : X0.cell? ⟨w9.heap.size, 7, none⟩ = some (.slice an zn.length cn) := by rw [hX0]; exact World.cell?_alloc_at _ _ _ _ (by simp)
  have k8 : X0.cell? ⟨w9.heap.size, 8, none⟩ = some (.string s5) := by rw [hX0]; exact World.cell?_alloc_at _ _ _ _ (by simp)
  have k9 : X0.cell? ⟨w9.heap.size, 9, none⟩ = some (.slice an zn.length cn) := by rw [hX0]; exact World.cell?_alloc_at _ _ _ _ (by simp)
  rw [← hX0]
  have HK : Hid (X0.cell? ⟨w9.heap.size, 0, none⟩ = some (.string s1) ∧ X0.cell? ⟨w9.heap.size, 1, none⟩ = some (.slice au zu.length cu) ∧ X0.cell? ⟨w9.heap.size, 2, none⟩ = some (.string s2) ∧ X0.cell? ⟨w9.heap.size, 3, none⟩ = some (.slice am zm.length cm) ∧ X0.cell? ⟨w9.heap.size, 4, none⟩ = some (.string s3) ∧ X0.cell? ⟨w9.heap.size, 5, none⟩ = some (.slice ad zd.length cd) ∧ X0.cell? ⟨w9.heap.size, 6, none⟩ = some (.string s4) ∧ X0.cell? ⟨w9.heap.size, 7, none⟩ = some (.slice an zn.length cn) ∧ X0.cell? ⟨w9.heap.size, 8, none⟩ = some (.string s5) ∧ X0.cell? ⟨w9.heap.size, 9, none⟩ = some (.slice an zn.length cn)) := ⟨k0, k1, k2, k3, k4, k5, k6, k7, k8, k9⟩
  have HS0 : Hid (X0.heap.size = w9.heap.size + 1) := hs0
  have HBy : Hid (Below X0.heap.size X0 X0) := Below.refl _ _
  clear hX0 hs0 k0 k1 k2 k3 k4 k5 k6 k7 k8 k9
  refine wp_loop_rounds 6 ?_
  rw [rounds_succ]
  have f0 : X0.cell? ⟨w9.heap.size, 0, none⟩ = some (.string s1) := by rw [HBy.out.cell (p := ⟨w9.heap.size, 0, none⟩) (by have := HS0.out; show w9.heap.size < _; omega)]; exact HK.out.1
  have f1 : X0.cell? ⟨w9.heap.size, 1, none⟩ = some (.slice au zu.length cu) := by rw [HBy.out.cell (p := ⟨w9.heap.size, 1, none⟩) (by have := HS0.out; show w9.heap.size < _; omega)]; exact HK.out.2.1
  have hz : w9.heap.size < X0.heap.size := by have := HS0.out; have := HBy.out.size; omega
  go_wp2_with fail
  refine (T1.out _).mono ?_
  rintro e X1 ⟨v, rfl, Rv, bX⟩
  have HBX : Hid (Below X0.heap.size X0 X1) := HBy.out.trans (((Below.refl _ X0).alloc (Nat.le_refl _) _).trans (bX.mono (by simp)) |>.mono (by have := HBy.out.size; omega))
  have g0 : X1.cell? ⟨X0.heap.size, 0, none⟩ = some (.string s1) := by rw [bX.cell (p := ⟨X0.heap.size, 0, none⟩) (by simp)]; exact World.cell?_alloc_at _ _ _ _ (by simp)
  have g1 : X1.cell? ⟨X0.heap.size, 1, none⟩ = some (.slice au zu.length cu) := by rw [bX.cell (p := ⟨X0.heap.size, 1, none⟩) (by simp)]; exact World.cell?_alloc_at _ _ _ _ (by simp)
  have hz2 : X0.heap.size < X1.heap.size := by have := bX.size; simp at this; omega
  have HRv : Hid (S.Rd X1 v zu) := Rv
  obtain ⟨av, cv, rfl⟩ := Rv.len
  have HSm : Hid (∀ o, Calls Tryd.prog 12 #[.slice av zu.length cv, .slice au zu.length cu] (X1.alloc o) fun e w' => e = .returned (.bool true) ∧ Below (X1.alloc o).heap.size (X1.alloc o) w') := fun o => by
    have h := same_any (X1.alloc o) _ _ zu zu (HRv.out.below ((Below.refl _ _).alloc (Nat.le_refl _) o) (Nat.le_refl _)) (((R9u.out.below HX0.out (Nat.le_refl _)).below HBX.out (Nat.le_refl _)).below ((Below.refl _ _).alloc (Nat.le_refl _) o) (Nat.le_refl _)) (by omega) (by omega)
    rw [show decide (zu = zu) = true by simp] at h
    exact h
  clear Rv bX f0 f1
  go_wp2_with fail
  refine (HSm.out _).mono ?_
  rintro e Y1 ⟨rfl, bY⟩
  have HBY1 : Hid (Below X0.heap.size X0 Y1) := HBX.out.trans (((Below.refl _ X1).alloc (Nat.le_refl _) _).trans (bY.mono (by simp)) |>.mono HBX.out.size)
  clear bY g0 g1 hz2 HRv HSm HBX hz
  go_wp2_with fail
  rw [rounds_succ]
  have f0 : Y1.cell? ⟨w9.heap.size, 2, none⟩ = some (.string s2) := by rw [HBY1.out.cell (p := ⟨w9.heap.size, 2, none⟩) (by have := HS0.out; show w9.heap.size < _; omega)]; exact HK.out.2.2.1
  have f1 : Y1.cell? ⟨w9.heap.size, 3, none⟩ = some (.slice am zm.length cm) := by rw [HBY1.out.cell (p := ⟨w9.heap.size, 3, none⟩) (by have := HS0.out; show w9.heap.size < _; omega)]; exact HK.out.2.2.2.1
  have hz : w9.heap.size < Y1.heap.size := by have := HS0.out; have := HBY1.out.size; omega
  go_wp2_with fail
  refine (T2.out _).mono ?_
  rintro e X2 ⟨v, rfl, Rv, bX⟩
  have HBX : Hid (Below X0.heap.size X0 X2) := HBY1.out.trans (((Below.refl _ Y1).alloc (Nat.le_refl _) _).trans (bX.mono (by simp)) |>.mono (by have := HBY1.out.size; omega))
  have g0 : X2.cell? ⟨Y1.heap.size, 0, none⟩ = some (.string s2) := by rw [bX.cell (p := ⟨Y1.heap.size, 0, none⟩) (by simp)]; exact World.cell?_alloc_at _ _ _ _ (by simp)
  have g1 : X2.cell? ⟨Y1.heap.size, 1, none⟩ = some (.slice am zm.length cm) := by rw [bX.cell (p := ⟨Y1.heap.size, 1, none⟩) (by simp)]; exact World.cell?_alloc_at _ _ _ _ (by simp)
  have hz2 : Y1.heap.size < X2.heap.size := by have := bX.size; simp at this; omega
  have HRv : Hid (S.Rd X2 v zm) := Rv
  obtain ⟨av, cv, rfl⟩ := Rv.len
  have HSm : Hid (∀ o, Calls Tryd.prog 12 #[.slice av zm.length cv, .slice am zm.length cm] (X2.alloc o) fun e w' => e = .returned (.bool true) ∧ Below (X2.alloc o).heap.size (X2.alloc o) w') := fun o => by
    have h := same_any (X2.alloc o) _ _ zm zm (HRv.out.below ((Below.refl _ _).alloc (Nat.le_refl _) o) (Nat.le_refl _)) (((R9m.out.below HX0.out (Nat.le_refl _)).below HBX.out (Nat.le_refl _)).below ((Below.refl _ _).alloc (Nat.le_refl _) o) (Nat.le_refl _)) (by omega) (by omega)
    rw [show decide (zm = zm) = true by simp] at h
    exact h
  clear Rv bX f0 f1
  go_wp2_with fail
  refine (HSm.out _).mono ?_
  rintro e Y2 ⟨rfl, bY⟩
  have HBY2 : Hid (Below X0.heap.size X0 Y2) := HBX.out.trans (((Below.refl _ X2).alloc (Nat.le_refl _) _).trans (bY.mono (by simp)) |>.mono HBX.out.size)
  clear bY g0 g1 hz2 HRv HSm HBX hz
  go_wp2_with fail
  rw [rounds_succ]
  have f0 : Y2.cell? ⟨w9.heap.size, 4, none⟩ = some (.string s3) := by rw [HBY2.out.cell (p := ⟨w9.heap.size, 4, none⟩) (by have := HS0.out; show w9.heap.size < _; omega)]; exact HK.out.2.2.2.2.1
  have f1 : Y2.cell? ⟨w9.heap.size, 5, none⟩ = some (.slice ad zd.length cd) := by rw [HBY2.out.cell (p := ⟨w9.heap.size, 5, none⟩) (by have := HS0.out; show w9.heap.size < _; omega)]; exact HK.out.2.2.2.2.2.1
  have hz : w9.heap.size < Y2.heap.size := by have := HS0.out; have := HBY2.out.size; omega
  go_wp2_with fail
  refine (T3.out _).mono ?_
  rintro e X3 ⟨v, rfl, Rv, bX⟩
  have HBX : Hid (Below X0.heap.size X0 X3) := HBY2.out.trans (((Below.refl _ Y2).alloc (Nat.le_refl _) _).trans (bX.mono (by simp)) |>.mono (by have := HBY2.out.size; omega))
  have g0 : X3.cell? ⟨Y2.heap.size, 0, none⟩ = some (.string s3) := by rw [bX.cell (p := ⟨Y2.heap.size, 0, none⟩) (by simp)]; exact World.cell?_alloc_at _ _ _ _ (by simp)
  have g1 : X3.cell? ⟨Y2.heap.size, 1, none⟩ = some (.slice ad zd.length cd) := by rw [bX.cell (p := ⟨Y2.heap.size, 1, none⟩) (by simp)]; exact World.cell?_alloc_at _ _ _ _ (by simp)
  have hz2 : Y2.heap.size < X3.heap.size := by have := bX.size; simp at this; omega
  have HRv : Hid (S.Rd X3 v zd) := Rv
  obtain ⟨av, cv, rfl⟩ := Rv.len
  have HSm : Hid (∀ o, Calls Tryd.prog 12 #[.slice av zd.length cv, .slice ad zd.length cd] (X3.alloc o) fun e w' => e = .returned (.bool true) ∧ Below (X3.alloc o).heap.size (X3.alloc o) w') := fun o => by
    have h := same_any (X3.alloc o) _ _ zd zd (HRv.out.below ((Below.refl _ _).alloc (Nat.le_refl _) o) (Nat.le_refl _)) (((R9d.out.below HX0.out (Nat.le_refl _)).below HBX.out (Nat.le_refl _)).below ((Below.refl _ _).alloc (Nat.le_refl _) o) (Nat.le_refl _)) (by omega) (by omega)
    rw [show decide (zd = zd) = true by simp] at h
    exact h
  clear Rv bX f0 f1
  go_wp2_with fail
  refine (HSm.out _).mono ?_
  rintro e Y3 ⟨rfl, bY⟩
  have HBY3 : Hid (Below X0.heap.size X0 Y3) := HBX.out.trans (((Below.refl _ X3).alloc (Nat.le_refl _) _).trans (bY.mono (by simp)) |>.mono HBX.out.size)
  clear bY g0 g1 hz2 HRv HSm HBX hz
  go_wp2_with fail
  rw [rounds_succ]
  have f0 : Y3.cell? ⟨w9.heap.size, 6, none⟩ = some (.string s4) := by rw [HBY3.out.cell (p := ⟨w9.heap.size, 6, none⟩) (by have := HS0.out; show w9.heap.size < _; omega)]; exact HK.out.2.2.2.2.2.2.1
  have f1 : Y3.cell? ⟨w9.heap.size, 7, none⟩ = some (.slice an zn.length cn) := by rw [HBY3.out.cell (p := ⟨w9.heap.size, 7, none⟩) (by have := HS0.out; show w9.heap.size < _; omega)]; exact HK.out.2.2.2.2.2.2.2.1
  have hz : w9.heap.size < Y3.heap.size := by have := HS0.out; have := HBY3.out.size; omega
  go_wp2_with fail
  refine (T4.out _).mono ?_
  rintro e X4 ⟨v, rfl, Rv, bX⟩
  have HBX : Hid (Below X0.heap.size X0 X4) := HBY3.out.trans (((Below.refl _ Y3).alloc (Nat.le_refl _) _).trans (bX.mono (by simp)) |>.mono (by have := HBY3.out.size; omega))
  have g0 : X4.cell? ⟨Y3.heap.size, 0, none⟩ = some (.string s4) := by rw [bX.cell (p := ⟨Y3.heap.size, 0, none⟩) (by simp)]; exact World.cell?_alloc_at _ _ _ _ (by simp)
  have g1 : X4.cell? ⟨Y3.heap.size, 1, none⟩ = some (.slice an zn.length cn) := by rw [bX.cell (p := ⟨Y3.heap.size, 1, none⟩) (by simp)]; exact World.cell?_alloc_at _ _ _ _ (by simp)
  have hz2 : Y3.heap.size < X4.heap.size := by have := bX.size; simp at this; omega
  have HRv : Hid (S.Rd X4 v zn) := Rv
  obtain ⟨av, cv, rfl⟩ := Rv.len
  have HSm : Hid (∀ o, Calls Tryd.prog 12 #[.slice av zn.length cv, .slice an zn.length cn] (X4.alloc o) fun e w' => e = .returned (.bool true) ∧ Below (X4.alloc o).heap.size (X4.alloc o) w') := fun o => by
    have h := same_any (X4.alloc o) _ _ zn zn (HRv.out.below ((Below.refl _ _).alloc (Nat.le_refl _) o) (Nat.le_refl _)) (((HRn.out.below HX0.out (Nat.le_refl _)).below HBX.out (Nat.le_refl _)).below ((Below.refl _ _).alloc (Nat.le_refl _) o) (Nat.le_refl _)) (by omega) (by omega)
    rw [show decide (zn = zn) = true by simp] at h
    exact h
  clear Rv bX f0 f1
  go_wp2_with fail
  refine (HSm.out _).mono ?_
  rintro e Y4 ⟨rfl, bY⟩
  have HBY4 : Hid (Below X0.heap.size X0 Y4) := HBX.out.trans (((Below.refl _ X4).alloc (Nat.le_refl _) _).trans (bY.mono (by simp)) |>.mono HBX.out.size)
  clear bY g0 g1 hz2 HRv HSm HBX hz
  go_wp2_with fail
  rw [rounds_succ]
  have f0 : Y4.cell? ⟨w9.heap.size, 8, none⟩ = some (.string s5) := by rw [HBY4.out.cell (p := ⟨w9.heap.size, 8, none⟩) (by have := HS0.out; show w9.heap.size < _; omega)]; exact HK.out.2.2.2.2.2.2.2.2.1
  have f1 : Y4.cell? ⟨w9.heap.size, 9, none⟩ = some (.slice an zn.length cn) := by rw [HBY4.out.cell (p := ⟨w9.heap.size, 9, none⟩) (by have := HS0.out; show w9.heap.size < _; omega)]; exact HK.out.2.2.2.2.2.2.2.2.2
  have hz : w9.heap.size < Y4.heap.size := by have := HS0.out; have := HBY4.out.size; omega
  go_wp2_with fail
  refine (T5.out _).mono ?_
  rintro e X5 ⟨v, rfl, Rv, bX⟩
  have HBX : Hid (Below X0.heap.size X0 X5) := HBY4.out.trans (((Below.refl _ Y4).alloc (Nat.le_refl _) _).trans (bX.mono (by simp)) |>.mono (by have := HBY4.out.size; omega))
  have g0 : X5.cell? ⟨Y4.heap.size, 0, none⟩ = some (.string s5) := by rw [bX.cell (p := ⟨Y4.heap.size, 0, none⟩) (by simp)]; exact World.cell?_alloc_at _ _ _ _ (by simp)
  have g1 : X5.cell? ⟨Y4.heap.size, 1, none⟩ = some (.slice an zn.length cn) := by rw [bX.cell (p := ⟨Y4.heap.size, 1, none⟩) (by simp)]; exact World.cell?_alloc_at _ _ _ _ (by simp)
  have hz2 : Y4.heap.size < X5.heap.size := by have := bX.size; simp at this; omega
  have HRv : Hid (S.Rd X5 v zn) := Rv
  obtain ⟨av, cv, rfl⟩ := Rv.len
  have HSm : Hid (∀ o, Calls Tryd.prog 12 #[.slice av zn.length cv, .slice an zn.length cn] (X5.alloc o) fun e w' => e = .returned (.bool true) ∧ Below (X5.alloc o).heap.size (X5.alloc o) w') := fun o => by
    have h := same_any (X5.alloc o) _ _ zn zn (HRv.out.below ((Below.refl _ _).alloc (Nat.le_refl _) o) (Nat.le_refl _)) (((HRn.out.below HX0.out (Nat.le_refl _)).below HBX.out (Nat.le_refl _)).below ((Below.refl _ _).alloc (Nat.le_refl _) o) (Nat.le_refl _)) (by omega) (by omega)
    rw [show decide (zn = zn) = true by simp] at h
    exact h
  clear Rv bX f0 f1
  go_wp2_with fail
  refine (HSm.out _).mono ?_
  rintro e Y5 ⟨rfl, bY⟩
  have HBY5 : Hid (Below X0.heap.size X0 Y5) := HBX.out.trans (((Below.refl _ X5).alloc (Nat.le_refl _) _).trans (bY.mono (by simp)) |>.mono HBX.out.size)
  clear bY g0 g1 hz2 HRv HSm HBX hz
  go_wp2_with fail
  rw [rounds_succ]
  go_wp2
  go_ret
  exact ⟨rfl, HB9.out.trans ((HX0.out.trans (HBY5.out.mono (by have := HS0.out; omega))).mono HB9.out.size)⟩

theorem signs_any (w : World) (va vb : Value) (a b : List S.Sp) (Ra : S.Rd w va a) (Rb : S.Rd w vb b) (Fa : S.Fit a) (Fb : S.Fit b) (hT : T.Tz w) :
    Calls Tryd.prog 5 #[va, vb] w fun e w' => e = .returned (.bool true) ∧ Below w.heap.size w w' := by
  by_cases h : S.wrongE a = 0 ∧ S.wrongE b = 0 ∧ a.length ≤ 50 ∧ b.length ≤ 50
  · exact signs_in w va vb a b Ra Rb (S.wrongE_zero.1 h.1).2 (S.wrongE_zero.1 h.2.1).2 h.2.2.1 h.2.2.2 hT
  · exact signs_out w va vb a b Ra Rb Fa Fb h

end Go.Proofs.YtbepnmmcdllklaaDoor
