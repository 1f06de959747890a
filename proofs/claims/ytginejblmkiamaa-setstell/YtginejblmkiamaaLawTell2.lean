/-
  The statement SetsTell of chapter 2, walked call by call.
-/
import Derived.Test.YtginejblmkiamaaSOfRef
import Derived.Test.YtginejblmkiamaaSSubRef
import Derived.Test.YtginejblmkiamaaSNth
import Derived.Test.YtginejblmkiamaaSSteps
namespace Go.Proofs.Ytginejblmkiamaa
open Go.RowKit

theorem resL_len2 (ea eb : Int) (P : Int → Bool) : (S.resL ea eb P).length ≤ 200 := by
  unfold S.resL S.fewL
  split
  · simp
  · split
    · simp
    · split
      · simp
      · omega

/-- where no span is out of range the two ways to say a set are one -/
theorem of_same (l : List S.Sp) : S.resE (if l.any S.bad = true then 3 else 0) 0 (fun q => S.inR q && S.memb l q) = S.resE (if l.any S.bad = true then 3 else 0) 0 (S.memb l) ∧ S.resL (if l.any S.bad = true then 3 else 0) 0 (fun q => S.inR q && S.memb l q) = S.resL (if l.any S.bad = true then 3 else 0) 0 (S.memb l) := by
  cases hb : l.any S.bad with
  | true => unfold S.resE S.resL; simp
  | false =>
    have e : (fun q => S.inR q && S.memb l q) = S.memb l := funext fun q => by
      cases hm : S.memb l q with
      | false => simp
      | true =>
        obtain ⟨x, hx, h1, h2⟩ := S.memb_iff.1 hm
        have := S.bad_false.1 (by simpa using (List.any_eq_false.1 hb) x hx)
        simp [S.inR]; omega
    rw [e]
    exact ⟨rfl, rfl⟩

set_option maxHeartbeats 4000000 in
set_option maxRecDepth 100000 in
theorem tell_any (w : World) (vl vm : Value) (l m : List S.Sp) (r k : Int) (Rl : S.Rd w vl l) (Rm : S.Rd w vm m) (Fl : S.Fit l) (Fm : S.Fit m) (hl : l.length ≤ 17592186043904) (hcap : ∀ ao n c, vl = .slice ao n c → n ≤ c) (hk1 : -9223372036854775808 ≤ k) (hk2 : k ≤ 9223372036854775807) :
    Calls Try.prog 3 #[vl, vm, .int .i32 r, .int .i64 k] w fun e w' => e = .returned (.bool true) ∧ Below w.heap.size w w' := by
  have HL : Hid (S.Rd w vl l) := Rl
  have HM : Hid (S.Rd w vm m) := Rm
  obtain ⟨al, cl, rfl⟩ := Rl.len
  obtain ⟨am, cm, rfl⟩ := Rm.len
  clear Rl Rm
  have HCap : Hid _ := hcap
  clear hcap
  have hw1 := wrong_any w _ l HL.out Fl
  generalize hwe : S.wrongE l = we at hw1
  have HWE : Hid (S.wrongE l = we) := hwe
  clear hwe
  go_enter Try.func3, Try.ntmps3
  go_wp2_with fail
  refine hw1.mono ?_
  clear hw1
  rintro e W1 ⟨rfl, b1⟩
  have HB1 : Hid (Below w.heap.size w W1) := b1
  clear b1
  have hw2 := refwrong_any W1 _ l (HL.out.below HB1.out (Nat.le_refl _)) Fl
  rw [HWE.out] at hw2
  go_wp2_with fail
  refine hw2.mono ?_
  clear hw2
  rintro e W2 ⟨rfl, b2⟩
  have HB2 : Hid (Below w.heap.size w W2) := HB1.out.trans (b2.mono HB1.out.size)
  clear b2
  have hof := of_any W2 _ l (HL.out.below HB2.out (Nat.le_refl _)) (by omega)
  have hsame := of_same l
  generalize hea : (if l.any S.bad = true then (3 : Int) else 0) = ea at *
  have HEA : Hid ((if l.any S.bad = true then (3 : Int) else 0) = ea) := hea
  clear hea
  go_wp2_with fail
  refine hof.mono ?_
  clear hof
  rintro e W3 ⟨v3, rfl, r3, b3, _⟩
  obtain ⟨a3, c3, rfl⟩ := r3.len
  have HB3 : Hid (Below w.heap.size w W3) := HB2.out.trans (b3.mono HB2.out.size)
  generalize hE : S.resE ea 0 (S.memb l) = E at *
  generalize hLL : S.resL ea 0 (S.memb l) = RL at *
  have hrl : RL.length ≤ 200 := by rw [← hLL]; exact resL_len2 _ _ _
  have R3 : Hid (S.Rd W3 (.slice a3 RL.length c3) RL) := r3
  have HSame : Hid _ := hsame
  clear r3 b3 hE hLL hsame
  have hrof := refof_any W3 _ l (HL.out.below HB3.out (Nat.le_refl _)) Fl hl
  rw [HEA.out] at hrof
  go_wp2_with fail
  refine hrof.mono ?_
  clear hrof
  rintro e W4 ⟨v4, rfl, r4, b4, _⟩
  rw [HSame.out.1]
  rw [HSame.out.2] at r4
  obtain ⟨a4, c4, rfl⟩ := r4.len
  have HB4 : Hid (Below w.heap.size w W4) := HB3.out.trans (b4.mono HB3.out.size)
  have R4 : Hid (S.Rd W4 (.slice a3 RL.length c3) RL ∧ S.Rd W4 (.slice a4 RL.length c4) RL) := ⟨R3.out.below b4 (Nat.le_refl _), r4⟩
  clear r4 b4
  go_wp2_with fail
  refine (same_true W4 _ _ _ _ R4.out.1 R4.out.2 rfl hrl).mono ?_
  rintro e W5 ⟨rfl, b5⟩
  have HB5 : Hid (Below w.heap.size w W5) := HB4.out.trans (b5.mono HB4.out.size)
  clear b5
  have hco := count_any W5 _ l (HL.out.below HB5.out (Nat.le_refl _)) Fl
  rw [HWE.out] at hco
  generalize hcf : cntF l = cf at hco
  have HCF : Hid (cntF l = cf) := hcf
  clear hcf
  go_wp2_with fail
  refine hco.mono ?_
  clear hco
  rintro e W6 ⟨rfl, b6⟩
  have HB6 : Hid (Below w.heap.size w W6) := HB5.out.trans (b6.mono HB5.out.size)
  clear b6
  have hrc := refcount_any W6 _ l (HL.out.below HB6.out (Nat.le_refl _)) Fl
  rw [HWE.out, HCF.out] at hrc
  go_wp2_with fail
  refine hrc.mono ?_
  clear hrc
  rintro e W7 ⟨rfl, b7⟩
  have HB7 : Hid (Below w.heap.size w W7) := HB6.out.trans (b7.mono HB6.out.size)
  clear b7
  have hnt := nth_any W7 _ l k (HL.out.below HB7.out (Nat.le_refl _)) Fl hk1 hk2
  generalize hnr : nthR l k = nr at hnt
  generalize hne : nthE l k = ne at hnt
  have HNN : Hid (nthR l k = nr ∧ nthE l k = ne) := ⟨hnr, hne⟩
  clear hnr hne
  go_wp2_with fail
  refine hnt.mono ?_
  clear hnt
  rintro e W8 ⟨rfl, b8⟩
  have HB8 : Hid (Below w.heap.size w W8) := HB7.out.trans (b8.mono HB7.out.size)
  clear b8
  have hrn := refnth_any W8 _ l k (HL.out.below HB8.out (Nat.le_refl _)) Fl HCap.out hk1 hk2
  rw [HNN.out.1, HNN.out.2] at hrn
  go_wp2_with fail
  refine hrn.mono ?_
  clear hrn
  rintro e W9 ⟨rfl, b9⟩
  have HB9 : Hid (Below w.heap.size w W9) := HB8.out.trans (b9.mono HB8.out.size)
  clear b9
  have hw3 := refwrong_any W9 _ l (HL.out.below HB9.out (Nat.le_refl _)) Fl
  rw [HWE.out] at hw3
  go_wp2_with fail
  refine hw3.mono ?_
  clear hw3
  rintro e W10 ⟨rfl, b10⟩
  have HB10 : Hid (Below w.heap.size w W10) := HB9.out.trans (b10.mono HB9.out.size)
  clear b10
  by_cases hz : we = 0
  · subst hz
    have hw4 := refwrong_any W10 _ m (HM.out.below HB10.out (Nat.le_refl _)) Fm
    generalize hwm : S.wrongE m = wm at hw4
    have HWM : Hid (S.wrongE m = wm) := hwm
    clear hwm
    go_wp2_with fail
    refine hw4.mono ?_
    clear hw4
    rintro e W11 ⟨rfl, b11⟩
    have HB11 : Hid (Below w.heap.size w W11) := HB10.out.trans (b11.mono HB10.out.size)
    clear b11
    by_cases hzm : wm = 0
    · subst hzm
      obtain ⟨ll, nl⟩ := S.wrongE_zero.1 HWE.out
      obtain ⟨lm, nm⟩ := S.wrongE_zero.1 HWM.out
      have NL : Hid (S.Nf 0 l) := nl
      have NM : Hid (S.Nf 0 m) := nm
      clear nl nm
      have hh := has_any W11 _ l r (HL.out.below HB11.out (Nat.le_refl _)) NL.out ll
      generalize hmb : S.memb l r = mb at hh
      have HMB : Hid (S.memb l r = mb) := hmb
      clear hmb
      go_wp2_with fail
      refine hh.mono ?_
      clear hh
      rintro e W12 ⟨rfl, b12⟩
      have HB12 : Hid (Below w.heap.size w W12) := HB11.out.trans (b12.mono HB11.out.size)
      clear b12
      have hh2 := refhas_any W12 _ l r (HL.out.below HB12.out (Nat.le_refl _)) (by omega)
      rw [HMB.out] at hh2
      go_wp2_with fail
      refine hh2.mono ?_
      clear hh2
      rintro e W13 ⟨rfl, b13⟩
      have HB13 : Hid (Below w.heap.size w W13) := HB12.out.trans (b13.mono HB12.out.size)
      clear b13
      have hs1 := sub_any W13 _ _ l m (HL.out.below HB13.out (Nat.le_refl _)) (HM.out.below HB13.out (Nat.le_refl _)) NL.out NM.out ll lm
      generalize hsb : subF l m = sb at hs1
      have HSB : Hid (subF l m = sb) := hsb
      clear hsb
      go_wp2_with fail
      refine hs1.mono ?_
      clear hs1
      rintro e W14 ⟨rfl, b14⟩
      have HB14 : Hid (Below w.heap.size w W14) := HB13.out.trans (b14.mono HB13.out.size)
      clear b14
      have hs2 := refsub_any W14 _ _ l m (HL.out.below HB14.out (Nat.le_refl _)) (HM.out.below HB14.out (Nat.le_refl _)) NL.out NM.out ll lm
      rw [HSB.out] at hs2
      go_wp2_with fail
      refine hs2.mono ?_
      clear hs2
      rintro e W15 ⟨rfl, b15⟩
      have HB15 : Hid (Below w.heap.size w W15) := HB14.out.trans (b15.mono HB14.out.size)
      clear b15
      go_wp2
      go_ret
      exact ⟨by simp, HB15.out⟩
    · go_wp2
      go_ret
      exact ⟨rfl, HB11.out⟩
  · go_wp2
    go_ret
    exact ⟨rfl, HB10.out⟩

end Go.Proofs.Ytginejblmkiamaa
