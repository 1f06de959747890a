/-
  The statement SetsCount of chapter 2, walked call by call.
-/
import Derived.Test.YtginejblmkiamaaSSteps
import Derived.Test.YtginejblmkiamaaSNth
namespace Go.Proofs.Ytginejblmkiamaa
open Go.RowKit

theorem count_not {a : List S.Sp} (h : S.Nf 0 a) : S.total a + S.total (S.C a) = 1114112 := by
  rw [S.total_cnt h (by omega), S.total_cnt (S.C_nf a) (by omega)]
  have h1 := S.cnt_not (S.memb a) 1114112
  have h2 : S.cnt (S.memb (S.C a)) 1114112 = S.cnt (fun q => !S.memb a q) 1114112 := S.cnt_congr fun q h3 h4 => by
    rw [S.C_mem]
    have : S.inR q = true := by simp [S.inR]; omega
    simp [S.notP, this]
  omega

theorem cnt_U (a b : List S.Sp) : S.cnt (S.memb (S.U a b)) 1114112 = S.cnt (fun q => S.memb a q || S.memb b q) 1114112 := S.cnt_congr fun q h3 h4 => by
  rw [S.U_mem]
  have : S.inR q = true := by simp [S.inR]; omega
  simp [S.orP, this]
theorem cnt_I (a b : List S.Sp) : S.cnt (S.memb (S.I a b)) 1114112 = S.cnt (fun q => S.memb a q && S.memb b q) 1114112 := S.cnt_congr fun q h3 h4 => by
  rw [S.I_mem]
  have : S.inR q = true := by simp [S.inR]; omega
  simp [S.andP, this]

theorem count_both {a b : List S.Sp} (ha : S.Nf 0 a) (hb : S.Nf 0 b) : S.total (S.U a b) + S.total (S.I a b) = S.total a + S.total b := by
  rw [S.total_cnt ha (by omega), S.total_cnt hb (by omega), S.total_cnt (S.U_nf a b) (by omega), S.total_cnt (S.I_nf a b) (by omega), cnt_U, cnt_I]
  have := S.cnt_add (S.memb a) (S.memb b) 1114112
  omega

theorem count_sub {a b : List S.Sp} (ha : S.Nf 0 a) (hb : S.Nf 0 b) : subF a b = decide (S.total (S.I a b) = S.total a) := by
  apply S.bool_eq
  rw [subF_iff ha hb, decide_eq_true_eq, S.total_cnt ha (by omega), S.total_cnt (S.I_nf a b) (by omega), cnt_I]
  constructor
  · intro h
    have : S.cnt (fun q => S.memb a q && S.memb b q) 1114112 = S.cnt (S.memb a) 1114112 := S.cnt_congr fun q _ _ => by
      cases hq : S.memb a q with
      | false => rfl
      | true => rw [h q hq]; rfl
    omega
  · intro h r hr
    have hlow := ha.low hr
    have := S.cnt_eq (P := fun q => S.memb a q && S.memb b q) (Q := S.memb a) (n := 1114112) (fun q _ _ h => by simp at h; exact h.1) (by omega) r (by omega) (by omega) hr
    simp at this
    exact this.2

theorem up_to {r : Int} (h0 : 0 ≤ r) (h1 : r ≤ 1114111) : S.nf (S.memb [(0, r)]) = [(0, r)] := S.nf_eq ⟨⟨Int.le_refl _, h0, h1, trivial⟩, fun _ => rfl⟩

theorem count_upto {a : List S.Sp} {k r : Int} (ha : S.Nf 0 a) (h0 : 0 ≤ k) (hr : S.nthF a k = some r) : S.total (S.I a [(0, r)]) = k + 1 := by
  have h := S.cnt_memb_upto ha (by omega) h0 hr
  rw [S.total_cnt (S.I_nf _ _) (by omega), cnt_I, ← h.2]
  have : S.cnt (fun q => S.memb a q && S.memb [(0, r)] q) 1114112 = S.cnt (fun q => S.memb a q && decide (q ≤ r)) 1114112 := S.cnt_congr fun q h3 h4 => by
    simp only [S.memb_cons, S.memb_nil]
    simp [h3]
  omega

/-- a call that hands a set and no fault back -/
def Gives2 (W : World) (s : List S.Sp) (e : Ending) (w' : World) : Prop := ∃ ao n c, e = .returned (.tuple #[.slice ao n c, .int .i64 0]) ∧ S.Rd w' (.slice ao n c) s ∧ Below W.heap.size W w'

theorem gives2 {W : World} {P : Int → Bool} {e : Ending} {w' : World} (h : Tells W 0 0 P e w') (hl : (S.nf P).length ≤ 200) : Gives2 W (S.nf P) e w' := by
  obtain ⟨v1, rfl, R1, B1, _⟩ := h
  rw [S.resL_ok hl] at R1
  rw [S.resE_ok hl]
  obtain ⟨a1, c1, rfl⟩ := R1.len
  exact ⟨_, _, _, rfl, R1, B1⟩

theorem union2 (W : World) (va vb : Value) (a b : List S.Sp) (n m : Nat) (Ra : S.Rd W va a) (Rb : S.Rd W vb b) (ha : Ok a n) (hb : Ok b m) (hn : n + m ≤ 200) : Calls Try.prog 23 #[va, vb] W (Gives2 W (S.U a b)) := by
  have h := union_any W va vb a b Ra Rb ha.fit hb.fit
  rw [ha.wrong (by omega), hb.wrong (by omega)] at h
  exact h.mono fun e w' h => gives2 h (Nat.le_trans (ha.U hb).2 hn)
theorem meet2 (W : World) (va vb : Value) (a b : List S.Sp) (n m : Nat) (Ra : S.Rd W va a) (Rb : S.Rd W vb b) (ha : Ok a n) (hb : Ok b m) (hn : n + m ≤ 200) : Calls Try.prog 24 #[va, vb] W (Gives2 W (S.I a b)) := by
  have h := meet_any W va vb a b Ra Rb ha.fit hb.fit
  rw [ha.wrong (by omega), hb.wrong (by omega)] at h
  exact h.mono fun e w' h => gives2 h (Nat.le_trans (ha.I hb).2 hn)
theorem not2 (W : World) (va : Value) (a : List S.Sp) (n : Nat) (Ra : S.Rd W va a) (ha : Ok a n) (hn : n + 1 ≤ 200) : Calls Try.prog 21 #[va] W (Gives2 W (S.C a)) := by
  have h := not_any W va a Ra ha.fit
  rw [ha.wrong (by omega)] at h
  exact h.mono fun e w' h => gives2 h (Nat.le_trans ha.C.2 hn)
theorem count2 (W : World) (va : Value) (a : List S.Sp) (n : Nat) (Ra : S.Rd W va a) (ha : Ok a n) (hn : n ≤ 200) : Calls Try.prog 13 #[va] W fun e w' => e = .returned (.tuple #[.int .i64 (S.total a), .int .i64 0]) ∧ Below W.heap.size W w' := by
  have h := count_any W va a Ra ha.fit
  rw [show cntF a = S.total a by unfold cntF; rw [if_pos (ha.wrong hn)], ha.wrong hn] at h
  exact h

theorem two_cells (w : World) (x y : Value) (t : TypeId) (i : Nat) (v : Value) (h : [x, y][i]? = some v) : (w.alloc (.cells #[x, y] t)).cell? ⟨w.heap.size, i, none⟩ = some v := by
  match i, h with
  | 0, h => simp at h; subst h; rw [World.cell?_alloc_at _ _ _ _ (by simp)]; rfl
  | 1, h => simp at h; subst h; rw [World.cell?_alloc_at _ _ _ _ (by simp)]; rfl
  | i + 2, h => simp at h

set_option maxHeartbeats 4000000 in
set_option maxRecDepth 100000 in
theorem count_law (w : World) (va vb : Value) (a b : List S.Sp) (k : Int) (Ra : S.Rd w va a) (Rb : S.Rd w vb b) (Fa : S.Fit a) (Fb : S.Fit b) (la : a.length ≤ 17592186044160) (lb : b.length ≤ 17592186044160) (hk1 : -9223372036854775808 ≤ k) (hk2 : k ≤ 9223372036854775807) :
    Calls Try.prog 7 #[va, vb, .int .i64 k] w fun e w' => e = .returned (.bool true) ∧ Below w.heap.size w w' := by
  have HA : Hid (S.Rd w va a) := Ra
  have HB : Hid (S.Rd w vb b) := Rb
  obtain ⟨aa, ca, rfl⟩ := Ra.len
  obtain ⟨ab, cb, rfl⟩ := Rb.len
  clear Ra Rb
  go_enter Try.func7, Try.ntmps7
  go_wp2_with fail
  refine (alive_any w).mono ?_
  rintro e w1 ⟨rfl, b1⟩
  have hs1 := b1.size
  have BWa : Hid (∀ o, Below w.heap.size w (w1.alloc o)) := fun o => b1.alloc hs1 o
  clear b1
  have hsm := small_any (w1.alloc (.cells #[.slice aa a.length ca, .slice ab b.length cb] 22)) w1.heap.size [.slice aa a.length ca, .slice ab b.length cb] [a, b] rfl (by simp) (fun i v h => two_cells w1 _ _ _ i v h) (fun i v l hv hl => by
    match i, hv, hl with
    | 0, hv, hl => simp at hv hl; subst hv; subst hl; exact ⟨HA.out.below (BWa.out _) (Nat.le_refl _), Fa, la⟩
    | 1, hv, hl => simp at hv hl; subst hv; subst hl; exact ⟨HB.out.below (BWa.out _) (Nat.le_refl _), Fb, lb⟩
    | i + 2, hv, hl => simp at hv)
  change Calls _ _ #[.slice (some ⟨w1.heap.size, 0, none⟩) 2 2] _ _ at hsm
  cases hall : [a, b].all smallF with
  | false =>
    rw [hall] at hsm
    clear hall
    go_wp2_with fail
    refine hsm.mono ?_
    clear hsm
    rintro e w2 ⟨rfl, b2⟩
    go_wp2
    go_ret
    exact ⟨rfl, (BWa.out _).trans (b2.mono (by simp; omega))⟩
  | true =>
    rw [hall] at hsm
    simp only [List.all_cons, List.all_nil, Bool.and_true, Bool.and_eq_true, smallF_iff] at hall
    obtain ⟨ha, hb⟩ := hall
    have ha : Ok a 50 := ha
    have hb : Ok b 50 := hb
    go_wp2_with fail
    refine hsm.mono ?_
    clear hsm
    rintro e W0 ⟨rfl, b2⟩
    have HB0 : Hid (Below w.heap.size w W0) := (BWa.out _).trans (b2.mono (by simp; omega))
    clear b2
    go_wp2_with fail
    refine (not2 W0 _ a 50 (HA.out.below HB0.out (Nat.le_refl _)) ha (by decide)).mono ?_
    rintro e W1 ⟨ao1, n1, c1, rfl, r1, b1⟩
    have R1 : Hid (S.Rd W1 (.slice ao1 n1 c1) (S.C a)) := r1
    have HB1 : Hid (Below w.heap.size w W1) := HB0.out.trans (b1.mono HB0.out.size)
    clear r1 b1
    go_wp2_with fail
    refine (union2 W1 _ _ a b 50 50 (HA.out.below HB1.out (Nat.le_refl _)) (HB.out.below HB1.out (Nat.le_refl _)) ha hb (by decide)).mono ?_
    rintro e W2 ⟨ao2, n2, c2, rfl, r2, b2⟩
    have R2 : Hid (S.Rd W2 (.slice ao2 n2 c2) (S.U a b)) := r2
    have R1' : Hid (S.Rd W2 (.slice ao1 n1 c1) (S.C a)) := R1.out.below b2 (Nat.le_refl _)
    have HB2 : Hid (Below w.heap.size w W2) := HB1.out.trans (b2.mono HB1.out.size)
    clear r2 b2 R1
    go_wp2_with fail
    refine (meet2 W2 _ _ a b 50 50 (HA.out.below HB2.out (Nat.le_refl _)) (HB.out.below HB2.out (Nat.le_refl _)) ha hb (by decide)).mono ?_
    rintro e W3 ⟨ao3, n3, c3, rfl, r3, b3⟩
    have R3 : Hid (S.Rd W3 (.slice ao1 n1 c1) (S.C a) ∧ S.Rd W3 (.slice ao2 n2 c2) (S.U a b) ∧ S.Rd W3 (.slice ao3 n3 c3) (S.I a b)) := ⟨R1'.out.below b3 (Nat.le_refl _), R2.out.below b3 (Nat.le_refl _), r3⟩
    have HB3 : Hid (Below w.heap.size w W3) := HB2.out.trans (b3.mono HB2.out.size)
    clear r3 b3 R1' R2
    have q1 := count_not ha.1
    have q2 := count_both ha.1 hb.1
    have q3 := count_sub ha.1 hb.1
    have q4 := S.total_nonneg ha.1
    have q5 := S.total_nonneg hb.1
    have q6 := S.total_nonneg (S.C_nf a)
    have q7 := S.total_nonneg (S.U_nf a b)
    have q8 := S.total_nonneg (S.I_nf a b)
    have q9 := total_le hb.1 (by omega)
    have K1 := fun W R => count2 W (.slice aa a.length ca) a 50 R ha (by decide)
    have K2 := fun W R => count2 W (.slice ab b.length cb) b 50 R hb (by decide)
    have K3 := fun W R => count2 W (.slice ao1 n1 c1) (S.C a) 51 R ha.C (by decide)
    have K4 := fun W R => count2 W (.slice ao2 n2 c2) (S.U a b) 100 R (ha.U hb) (by decide)
    have K5 := fun W R => count2 W (.slice ao3 n3 c3) (S.I a b) 100 R (ha.I hb) (by decide)
    have hsub := fun W Ra Rb => sub_any W (.slice aa a.length ca) (.slice ab b.length cb) a b Ra Rb ha.1 hb.1 (Nat.le_trans ha.2 (by decide)) (Nat.le_trans hb.2 (by decide))
    rw [q3] at hsub
    have HNS : Hid ((0 ≤ k ∧ k < S.total a) ↔ (0 ≤ k ∧ ∃ r, S.nthF a k = some r)) := ⟨fun h => ⟨h.1, (S.nthF_some ha.1 h.1).2 h.2⟩, fun h => ⟨h.1, (S.nthF_some ha.1 h.1).1 h.2⟩⟩
    generalize htA : S.total a = tA at *
    generalize htB : S.total b = tB at *
    generalize htC : S.total (S.C a) = tC at *
    generalize htU : S.total (S.U a b) = tU at *
    generalize htI : S.total (S.I a b) = tI at *
    clear q3 htA htB htC htU htI
    go_wp2_with fail
    refine (K1 W3 (HA.out.below HB3.out (Nat.le_refl _))).mono ?_
    rintro e W4 ⟨rfl, b4⟩
    have HB4 : Hid (Below w.heap.size w W4) := HB3.out.trans (b4.mono HB3.out.size)
    have R4 : Hid (S.Rd W4 (.slice ao1 n1 c1) (S.C a) ∧ S.Rd W4 (.slice ao2 n2 c2) (S.U a b) ∧ S.Rd W4 (.slice ao3 n3 c3) (S.I a b)) := ⟨R3.out.1.below b4 (Nat.le_refl _), R3.out.2.1.below b4 (Nat.le_refl _), R3.out.2.2.below b4 (Nat.le_refl _)⟩
    clear b4 R3 K1
    go_wp2_with fail
    refine (K2 W4 (HB.out.below HB4.out (Nat.le_refl _))).mono ?_
    rintro e W5 ⟨rfl, b5⟩
    have HB5 : Hid (Below w.heap.size w W5) := HB4.out.trans (b5.mono HB4.out.size)
    have R5 : Hid (S.Rd W5 (.slice ao1 n1 c1) (S.C a) ∧ S.Rd W5 (.slice ao2 n2 c2) (S.U a b) ∧ S.Rd W5 (.slice ao3 n3 c3) (S.I a b)) := ⟨R4.out.1.below b5 (Nat.le_refl _), R4.out.2.1.below b5 (Nat.le_refl _), R4.out.2.2.below b5 (Nat.le_refl _)⟩
    clear b5 R4 K2
    go_wp2_with fail
    refine (K3 W5 R5.out.1).mono ?_
    rintro e W6 ⟨rfl, b6⟩
    have HB6 : Hid (Below w.heap.size w W6) := HB5.out.trans (b6.mono HB5.out.size)
    have R6 : Hid (S.Rd W6 (.slice ao2 n2 c2) (S.U a b) ∧ S.Rd W6 (.slice ao3 n3 c3) (S.I a b)) := ⟨R5.out.2.1.below b6 (Nat.le_refl _), R5.out.2.2.below b6 (Nat.le_refl _)⟩
    clear b6 R5 K3
    go_wp2_with fail
    refine (K4 W6 R6.out.1).mono ?_
    rintro e W7 ⟨rfl, b7⟩
    have HB7 : Hid (Below w.heap.size w W7) := HB6.out.trans (b7.mono HB6.out.size)
    have R7 : Hid (S.Rd W7 (.slice ao3 n3 c3) (S.I a b)) := R6.out.2.below b7 (Nat.le_refl _)
    clear b7 R6 K4
    go_wp2_with fail
    refine (K5 W7 R7.out).mono ?_
    rintro e W8 ⟨rfl, b8⟩
    have HB8 : Hid (Below w.heap.size w W8) := HB7.out.trans (b8.mono HB7.out.size)
    clear b8 R7 K5
    have hsub8 := hsub W8 (HA.out.below HB8.out (Nat.le_refl _)) (HB.out.below HB8.out (Nat.le_refl _))
    clear hsub
    obtain ⟨bb, hbb⟩ : ∃ bb, bb = decide (tI = tA) := ⟨_, rfl⟩
    rw [← hbb] at hsub8
    have hq1 : (tI == tA) = bb := by rw [hbb]; rfl
    have hq2 : decide (tI = tA) = bb := hbb.symm
    clear hbb
    go_wp2_with fail
    refine hsub8.mono ?_
    clear hsub8
    rintro e W9 ⟨rfl, b9⟩
    have HB9 : Hid (Below w.heap.size w W9) := HB8.out.trans (b9.mono HB8.out.size)
    clear b9
    have hnth := nth_any W9 _ a k (HA.out.below HB9.out (Nat.le_refl _)) ha.fit hk1 hk2
    unfold nthR nthE at hnth
    rw [ha.wrong (by decide)] at hnth
    simp only [ne_eq, not_true_eq_false, if_false] at hnth
    by_cases hin : 0 ≤ k ∧ k < tA
    · obtain ⟨hk0, r, hr⟩ := HNS.out.1 hin
      rw [if_neg (by omega), if_neg (by omega), hr] at hnth
      simp only [Option.getD_some, Option.isSome_some, if_true] at hnth
      have hcu := S.cnt_memb_upto ha.1 (by omega) hk0 hr
      have hlow := ha.1.low hcu.1
      have HTot := count_upto ha.1 hk0 hr
      have hok1 : Ok [(0, r)] 1 := ⟨⟨Int.le_refl _, hlow.1, hlow.2, trivial⟩, by simp⟩
      have Hh := fun W R => has_any W (.slice aa a.length ca) a r R ha.1 (Nat.le_trans ha.2 (by decide))
      rw [hcu.1] at Hh
      have hlt2 := hin.2
      clear hcu hr hin
      go_wp2_with fail
      refine hnth.mono ?_
      clear hnth
      rintro e W10 ⟨rfl, b10⟩
      have HB10 : Hid (Below w.heap.size w W10) := HB9.out.trans (b10.mono HB9.out.size)
      clear b10
      have Hh10 := Hh W10 (HA.out.below HB10.out (Nat.le_refl _))
      clear Hh
      go_wp2_with fail
      refine Hh10.mono ?_
      clear Hh10
      rintro e W11 ⟨rfl, b11⟩
      have HB11 : Hid (Below w.heap.size w W11) := HB10.out.trans (b11.mono HB10.out.size)
      clear b11
      have HB11a : Hid (∀ o, Below w.heap.size w (W11.alloc o)) := fun o => HB11.out.alloc HB11.out.size o
      have hof := of_any (W11.alloc (.cells #[.int .i32 0, .int .i32 r] 42)) (.slice (some ⟨W11.heap.size, 0, none⟩) 1 1) [(0, r)] ⟨_, 1, rfl, fun h => by simp at h, fun _ => ⟨W11.heap.size, 0, rfl, fun j x hj => by
        match j, hj with
        | 0, hj => simp at hj; subst hj; exact ⟨(S.boxed (Below.refl _ _)).1.1, (S.boxed (Below.refl _ _)).1.2⟩
        | j + 1, hj => simp at hj⟩⟩ (by simp)
      rw [show (if ([(0, r)] : List S.Sp).any S.bad = true then (3 : Int) else 0) = 0 by
        have : S.bad (0, r) = false := S.bad_false.2 ⟨Int.le_refl _, hlow.1, hlow.2⟩
        simp [this]] at hof
      have hof2 := hof.mono fun e w' h => gives2 h (by rw [up_to hlow.1 hlow.2]; simp)
      rw [up_to hlow.1 hlow.2] at hof2
      clear hof
      go_wp2_with fail
      refine hof2.mono ?_
      clear hof2
      rintro e W12 ⟨ao12, n12, c12, rfl, r12, b12⟩
      have R12 : Hid (S.Rd W12 (.slice ao12 n12 c12) [(0, r)]) := r12
      have HB12 : Hid (Below w.heap.size w W12) := (HB11a.out _).trans (b12.mono (by have := HB11.out.size; simp; omega))
      clear r12 b12
      go_wp2_with fail
      refine (meet2 W12 _ _ a [(0, r)] 50 1 (HA.out.below HB12.out (Nat.le_refl _)) R12.out ha hok1 (by decide)).mono ?_
      rintro e W13 ⟨ao13, n13, c13, rfl, r13, b13⟩
      have R13 : Hid (S.Rd W13 (.slice ao13 n13 c13) (S.I a [(0, r)])) := r13
      have HB13 : Hid (Below w.heap.size w W13) := HB12.out.trans (b13.mono HB12.out.size)
      clear r13 b13
      have hco := count2 W13 _ _ 51 R13.out (ha.I hok1) (by decide)
      rw [HTot] at hco
      clear HTot
      go_wp2_with fail
      refine hco.mono ?_
      clear hco
      rintro e W14 ⟨rfl, b14⟩
      have HB14 : Hid (Below w.heap.size w W14) := HB13.out.trans (b14.mono HB13.out.size)
      clear b14
      go_wp2
      go_ret
      exact ⟨by simp, HB14.out⟩
    · have hres : ∃ er : Int, er ≠ 0 ∧ (if k < 0 then (0 : Int) else (S.nthF a k).getD 0) = 0 ∧ (if k < 0 then (3 : Int) else if (S.nthF a k).isSome = true then 0 else 6) = er := by
        by_cases hneg : k < 0
        · exact ⟨3, by decide, by rw [if_pos hneg], by rw [if_pos hneg]⟩
        · have hno : S.nthF a k = none := by
            cases h : S.nthF a k with
            | none => rfl
            | some r => exact absurd (HNS.out.2 ⟨by omega, r, h⟩) hin
          exact ⟨6, by decide, by rw [if_neg hneg, hno]; rfl, by rw [if_neg hneg, hno]; rfl⟩
      obtain ⟨er, her, h1, h2⟩ := hres
      rw [h1, h2] at hnth
      clear h1 h2
      go_wp2_with fail
      refine hnth.mono ?_
      clear hnth
      rintro e W10 ⟨rfl, b10⟩
      have HB10 : Hid (Below w.heap.size w W10) := HB9.out.trans (b10.mono HB9.out.size)
      clear b10
      by_cases hneg : k < 0
      · go_wp2
        go_ret
        exact ⟨by simp [her], HB10.out⟩
      · have hge : tA ≤ k := by omega
        go_wp2
        go_ret
        exact ⟨by simp [her], HB10.out⟩

end Go.Proofs.Ytginejblmkiamaa
