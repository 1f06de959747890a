/-
  What came of which piece: the steps of rules over a text, and what each of them is about: plain lists.
-/
import Derived.Test.YtfhgenllefhgkaaSWrong
import Derived.Test.YtfhgenllefhgkaaYMath
import Derived.Test.YtfhgenllefhgkaaXPlay2
import Derived.Test.YtfhgenllefhgkaaJRead
import Derived.BigRegion
namespace Go.Proofs.Ytfhgenllefhgkaa.Al

/-- the steps: where the cursor was, which rule matched -/
def shots (l : List K.Rule) : Nat → List Int → List Int → List (Int × Int)
  | 0, _, _ => []
  | left + 1, A, Z =>
    if Z.length = 0 then []
    else if K.which l (A ++ Z) A.length < 0 then ((A.length : Int), -1) :: shots l left (A ++ Z.take 1) (Z.drop 1)
    else
      let r := (l[(K.which l (A ++ Z) A.length).toNat]?).getD K.noRule
      ((A.length : Int), K.which l (A ++ Z) A.length) :: shots l left (A ++ (K.restOf r Z).take r.cursor.toNat) ((K.restOf r Z).drop r.cursor.toNat)
theorem shots_end {l : List K.Rule} {left : Nat} {A Z : List Int} (h : Z.length = 0) : shots l left A Z = [] := by
  cases left
  · rfl
  · rw [shots, if_pos h]
theorem shots_on {l : List K.Rule} {left : Nat} {A Z : List Int} (h : ¬ Z.length = 0) (hk : K.which l (A ++ Z) A.length = -1) : shots l (left + 1) A Z = ((A.length : Int), -1) :: shots l left (A ++ Z.take 1) (Z.drop 1) := by
  rw [shots, if_neg h, if_pos (by rw [hk]; decide)]
theorem shots_put {l : List K.Rule} {left : Nat} {A Z : List Int} {j : Nat} {r : K.Rule} (h : ¬ Z.length = 0) (hk : K.which l (A ++ Z) A.length = (j : Int)) (hr : l[j]? = some r) : shots l (left + 1) A Z = ((A.length : Int), (j : Int)) :: shots l left (A ++ (K.restOf r Z).take r.cursor.toNat) ((K.restOf r Z).drop r.cursor.toNat) := by
  rw [shots, if_neg h, if_neg (by rw [hk]; omega), hk, Int.toNat_natCast, hr]
  rfl
theorem shots_len {l : List K.Rule} : ∀ {left : Nat} {A Z : List Int}, (shots l left A Z).length ≤ left := by
  intro left
  induction left with
  | zero => intro A Z; exact Nat.le_refl _
  | succ n ih =>
    intro A Z
    rw [shots]
    split
    · simp
    · split
      · rw [List.length_cons]; have := ih (A := A ++ Z.take 1) (Z := Z.drop 1); omega
      · simp only [List.length_cons]; exact Nat.succ_le_succ ih
/-- a step's rule is one of them, and where the cursor was is in the text -/
theorem shots_in {l : List K.Rule} : ∀ {left : Nat} {A Z : List Int} {s p : Int}, A.length + Z.length ≤ 4000 → (K.play l left A Z s p).1 = 0 → ∀ x ∈ shots l left A Z, 0 ≤ x.1 ∧ x.1 ≤ 4000 ∧ (x.2 = -1 ∨ ∃ (j : Nat) (r : K.Rule), x.2 = j ∧ l[j]? = some r) := by
  intro left
  induction left with
  | zero => intro A Z s p _ _ x hx; cases hx
  | succ n ih =>
    intro A Z s p hl h0 x hx
    by_cases hz : Z.length = 0
    · rw [shots_end hz] at hx; cases hx
    · rcases K.which_is (l := l) (t := A ++ Z) (k := A.length) with hk | ⟨j, r, hr, hm, hk⟩
      · rw [shots_on hz hk] at hx
        rw [K.play_on hz hk] at h0
        rcases List.mem_cons.1 hx with rfl | hx
        · exact ⟨by show (0 : Int) ≤ A.length; omega, by show (A.length : Int) ≤ 4000; omega, .inl rfl⟩
        · exact ih (by simp; omega) h0 x hx
      · rw [shots_put hz hk hr] at hx
        by_cases hmu : 4000 < A.length + (K.restOf r Z).length
        · rw [K.play_much hz hk hr hmu] at h0; exact absurd h0 (by decide)
        · rw [K.play_put hz hk hr hmu] at h0
          rcases List.mem_cons.1 hx with rfl | hx
          · exact ⟨by show (0 : Int) ≤ A.length; omega, by show (A.length : Int) ≤ 4000; omega, .inr ⟨j, r, rfl, hr⟩⟩
          · refine ih ?_ h0 x hx
            rw [List.length_append, List.length_take, List.length_drop]; omega

/-- a piece, what came of it, and by which rule -/
structure Lk where
  fr : Int
  up : Int
  beg : Int
  fin : Int
  rule : Int
def ruleAt (l : List K.Rule) (k : Int) : K.Rule := (l[k.toNat]?).getD K.noRule
def about (l : List K.Rule) (k : Int) : Int := if k < 0 then 1 else ((ruleAt l k).source.length : Int)
def came (l : List K.Rule) (k : Int) : Int := if k < 0 then 1 else ((ruleAt l k).target.length : Int)
def link (l : List K.Rule) (s : Int × Int) (fr : Int) : Lk := ⟨fr, fr + about l s.2, s.1, s.1 + came l s.2, s.2⟩
def links (l : List K.Rule) : Int → List (Int × Int) → List Lk
  | _, [] => []
  | fr, s :: ss => link l s fr :: links l (fr + about l s.2) ss
theorem links_len {l : List K.Rule} : ∀ {ss : List (Int × Int)} {fr : Int}, (links l fr ss).length = ss.length := by
  intro ss
  induction ss with
  | nil => intro fr; rfl
  | cons x ss ih => intro fr; rw [links, List.length_cons, List.length_cons, ih]
/-- a step that goes on -/
theorem go_on {l : List K.Rule} {left : Nat} {A Z : List Int} {s p fr : Int} (hz : ¬ Z.length = 0) (hk : K.which l (A ++ Z) A.length = -1) (h0 : (K.play l (left + 1) A Z s p).1 = 0) :
    (K.play l left (A ++ Z.take 1) (Z.drop 1) (s + 1) p).1 = 0 ∧ links l fr (shots l (left + 1) A Z) = ⟨fr, fr + 1, A.length, (A.length : Int) + 1, -1⟩ :: links l (fr + 1) (shots l left (A ++ Z.take 1) (Z.drop 1)) := by
  refine ⟨by rw [K.play_on hz hk] at h0; exact h0, ?_⟩
  rw [shots_on hz hk]
  rfl
theorem go_put {l : List K.Rule} {left : Nat} {A Z : List Int} {s p fr : Int} {j : Nat} {r : K.Rule} (hz : ¬ Z.length = 0) (hk : K.which l (A ++ Z) A.length = (j : Int)) (hr : l[j]? = some r) (hS : K.sureB l = true) (h0 : (K.play l (left + 1) A Z s p).1 = 0) :
    (K.play l left (A ++ r.target) (Z.drop r.source.length) (s + 1) (p + 1)).1 = 0 ∧ A.length + r.target.length + (Z.length - r.source.length) ≤ 4000 ∧ links l fr (shots l (left + 1) A Z) = ⟨fr, fr + (r.source.length : Int), A.length, (A.length : Int) + (r.target.length : Int), j⟩ :: links l (fr + (r.source.length : Int)) (shots l left (A ++ r.target) (Z.drop r.source.length)) := by
  have hg : K.goesB r = true := List.all_eq_true.1 hS r (List.mem_of_getElem? hr)
  have hc : r.cursor.toNat = r.target.length := by unfold K.goesB at hg; have := of_decide_eq_true hg; omega
  have e1 : (K.restOf r Z).take r.cursor.toNat = r.target := by rw [hc]; unfold K.restOf; exact List.take_left
  have e2 : (K.restOf r Z).drop r.cursor.toNat = Z.drop r.source.length := by rw [hc]; unfold K.restOf; exact List.drop_left
  by_cases hmu : 4000 < A.length + (K.restOf r Z).length
  · rw [K.play_much hz hk hr hmu] at h0; exact absurd h0 (by decide)
  · rw [K.play_put hz hk hr hmu, e1, e2] at h0
    refine ⟨h0, by rw [K.restOf_length] at hmu; omega, ?_⟩
    rw [shots_put hz hk hr, e1, e2]
    have ha : ruleAt l (j : Int) = r := by unfold ruleAt; rw [Int.toNat_natCast, hr]; rfl
    have hb : about l (j : Int) = (r.source.length : Int) := by unfold about; rw [if_neg (by omega), ha]
    have hd : came l (j : Int) = (r.target.length : Int) := by unfold came; rw [if_neg (by omega), ha]
    rw [links, link]
    simp only [hb, hd]
end Go.Proofs.Ytfhgenllefhgkaa.Al

/-
  (*vm.machine).play, told to a function that keeps what it was told.
-/
namespace Go.Proofs.Ytfhgenllefhgkaa
open Go.RowKit Go.Shelf
set_option maxRecDepth 20000
set_option linter.unusedSimpArgs false
set_option linter.unusedVariables false

/-- a step, whatever rule it is that matches -/
theorem xstepT_all (b : Nat) (ms : List Nat) (mb : Nat) (wb w : World) (g : Nat) (vr vh : Value) (l : List K.Rule) (c : List Int) (A Z : List Int) (M : Gm.Mx b ms mb wb w g vr vh l c A Z) (O : Gm.Ok l c) (hz : 0 < Z.length) (hR : K.allR (A ++ Z) = true) :
    Calls Try.prog 38 #[.pointer (some ⟨mb, 0, none⟩), .int .i64 (K.which l (A ++ Z) A.length)] w fun e w' => ∃ x : Int, e = .returned (.int .i64 x) ∧
      ((x = 4 ∧ Below b w w' ∧ ∀ left s p, K.play l (left + 1) A Z s p = (4, [], 0, 0)) ∨
       (x = 0 ∧ ∃ A' Z', Gm.Mx b ms mb wb w' g vr vh l c A' Z' ∧ Gm.Fr ⟨b, ms⟩ w w' ∧ K.allR (A' ++ Z') = true ∧ (∀ left s p, K.play l (left + 1) A Z s p = K.play l left A' Z' (s + 1) (p + if K.which l (A ++ Z) A.length = -1 then 0 else 1)) ∧ ∀ left, Al.shots l (left + 1) A Z = ((A.length : Int), K.which l (A ++ Z) A.length) :: Al.shots l left A' Z')) := by
  have hzn : ¬ Z.length = 0 := by omega
  rcases K.which_is (l := l) (t := A ++ Z) (k := (A.length : Int)) with hw | ⟨j, r, hj, hm, hw⟩
  · have h := xstep_no b ms mb wb w g vr vh l c A Z M hz
    rw [hw]
    refine h.mono ?_
    rintro e w' ⟨rfl, h1, h2⟩
    refine ⟨0, rfl, .inr ⟨rfl, _, _, h1, h2, ?_, fun left s p => ?_, fun left => ?_⟩⟩
    · rw [List.append_assoc, List.take_append_drop]; exact hR
    · rw [K.play_on hzn hw, if_pos rfl, Int.add_zero]
    · exact Al.shots_on hzn hw
  · have h := xstep_yes b ms mb wb w g vr vh l c A Z M j r hj (O.right r (List.mem_of_getElem? hj)) hm
    rw [hw]
    refine h.mono ?_
    rintro e w' ⟨x, rfl, ⟨h1, rfl, h2⟩ | ⟨h1, rfl, h2, h3⟩⟩
    · exact ⟨4, rfl, .inl ⟨rfl, h2, fun left s p => K.play_much hzn hw hj h1⟩⟩
    · refine ⟨0, rfl, .inr ⟨rfl, _, _, h2, h3, ?_, fun left s p => ?_, fun left => ?_⟩⟩
      · rw [List.append_assoc, List.take_append_drop]
        obtain ⟨g1, g2⟩ := Gm.allR_app.1 hR
        refine Gm.allR_app.2 ⟨g1, Gm.allR_app.2 ⟨(K.ruleE_zero (O.right r (List.mem_of_getElem? hj))).2.2.2.2.2.1, Gm.allR_sub g2 fun x hx => List.mem_of_mem_drop hx⟩⟩
      · rw [K.play_put hzn hw hj h1, if_neg (by omega)]
      · exact Al.shots_put hzn hw hj

set_option maxHeartbeats 8000000 in
theorem xplayT_any (b mb : Nat) (wb w : World) (g : Nat) (vr vh : Value) (l : List K.Rule) (c t : List Int) (M : Gm.Mx b [mb] mb wb w g vr vh l c [] t) (O : Gm.Ok l c) (hR : K.allR t = true)
    (U : World → Prop) (hU0 : U w) (hUb : ∀ W W', U W → Below b W W' → U W')
    (T : World → List Nat → List (Int × Int) → Prop) (hT0 : T w [] []) (hTb : ∀ W W' ms sh, T W ms sh → Gm.Fr ⟨b, mb :: ms⟩ W W' → T W' ms sh)
    (ft : Nat) (ct : Array Value) (eg : ∀ args w, (callFunc ft args).run Try.prog w = .ok (.enter ft args) w)
    (hf : ∀ W ms A Z (sh : List (Int × Int)) (at_ k : Int), Gm.Mx b (mb :: ms) mb wb W g vr vh l c A Z → T W ms sh → U W → sh.length < 8 * t.length + 40 → Calls Try.prog ft (#[.agg #[.int .i64 at_, .int .i64 k]] ++ ct) W fun e w' => e = .returned (.tuple #[]) ∧ U w' ∧ ∃ ns, Gm.Mx b (mb :: ns) mb wb w' g vr vh l c A Z ∧ T w' ns (sh ++ [(at_, k)]))
    (o1 : Int) (o2 : List Int) (o3 o4 : Int) (hO : K.play l (8 * t.length + 40) [] t 0 0 = (o1, o2, o3, o4)) :
    Calls Try.prog 26 #[.pointer (some ⟨mb, 0, none⟩), .func (.func ft) #[] ct] w fun e w' => e = .returned (.int .i64 o1) ∧ Below wb.heap.size wb w' ∧ U w' ∧ (o1 = 0 → ∃ ms, T w' ms (Al.shots l (8 * t.length + 40) [] t)) := by
  have ht : t.length ≤ 4000 := by
    obtain ⟨_, _, h⟩ := M.tx
    simpa using h.few
  have HM : Hid (Gm.Mx b [mb] mb wb w g vr vh l c [] t) := M
  have hbw := M.top
  have HOk : Hid (Gm.Ok l c) := O
  have HR : Hid (K.allR ([] ++ t) = true) := hR
  have HT : Hid (T w [] [] ∧ U w) := ⟨hT0, hU0⟩
  have HUb : Hid (∀ W W', U W → Below b W W' → U W') := hUb
  have HTb : Hid (∀ W W' ms sh, T W ms sh → Gm.Fr ⟨b, mb :: ms⟩ W W' → T W' ms sh) := hTb
  have HTq0 : Hid (∀ W ms sh q, b ≤ W.heap.size → T W ms sh ∧ U W → T (W.drewN q) ms sh ∧ U (W.drewN q)) := fun W ms sh q hb h => ⟨hTb _ _ _ _ h.1 (Gm.Fr.of_below (below_drewN (Below.refl _ W) q) hb), hUb _ _ h.2 (below_drewN (Below.refl _ W) q)⟩
  obtain ⟨SH, hSH⟩ : ∃ SH, SH = Al.shots l (8 * t.length + 40) [] t := ⟨_, rfl⟩
  rw [← hSH]
  have HSH : Hid ([] ++ Al.shots l (8 * t.length + 40) [] t = SH) := hSH.symm
  have HF : Hid (∀ W ms A Z (sh : List (Int × Int)) (at_ k : Int), Gm.Mx b (mb :: ms) mb wb W g vr vh l c A Z → T W ms sh → U W → sh.length < 8 * t.length + 40 → Calls Try.prog ft (#[.agg #[.int .i64 at_, .int .i64 k]] ++ ct) W fun e w' => e = .returned (.tuple #[]) ∧ U w' ∧ ∃ ns, Gm.Mx b (mb :: ns) mb wb w' g vr vh l c A Z ∧ T w' ns (sh ++ [(at_, k)])) := hf
  have HO : Hid (K.play l (8 * t.length + 40) [] t 0 0 = (o1, o2, o3, o4)) := hO
  have k0 : w.cell? ⟨mb, 0, none⟩ = some (.pointer (some ⟨g, 0, none⟩)) := K.at_box (i := 0) M.box rfl
  have HL := M.len 0
  have HL0 : Hid (Calls Try.prog 35 #[.pointer (some ⟨g, 0, none⟩)] w fun e w' => e = .returned (.int .i64 t.length) ∧ ∃ q', w' = w.drewN q') := by
    simp only [List.length_nil, Nat.zero_add] at HL
    exact HL
  clear M O hR hT0 hTb hU0 hUb hf hO HL hSH
  go_enter Try.func26, Try.ntmps26
  go_wp2_with fail
  go_at_call 35
  refine HL0.out.mono ?_
  rintro e w1 ⟨rfl, q, rfl⟩
  have HM1 : Hid (Gm.Mx b [mb] mb wb (w.drewN q) g vr vh l c [] t) := HM.out.drewN q
  have HT1 : Hid (T (w.drewN q) [] [] ∧ U (w.drewN q)) := HTq0.out _ _ _ _ hbw HT.out
  have hbw1 : b ≤ (w.drewN q).heap.size := hbw
  generalize w.drewN q = w0 at *
  clear HM HT HL0 k0 hbw
  go_wp2_with (go_at_call 34; refine (xmost_any _ t.length ht).mono ?_; rintro e wq ⟨rfl, rfl⟩)
  go_loopw [5] (fun i5 wr => ∃ (left : Nat) (A Z : List Int) (ms : List Nat) (sh : List (Int × Int)) (s p : Int), i5 = .int .i64 left ∧ sh.length + left = 8 * t.length + 40 ∧ Hid (Gm.Mx b (mb :: ms) mb wb wr g vr vh l c A Z) ∧ Hid (T wr ms sh ∧ U wr) ∧ Hid (K.allR (A ++ Z) = true) ∧ Hid (K.play l left A Z s p = (o1, o2, o3, o4)) ∧ Hid (sh ++ Al.shots l left A Z = SH) ∧ b ≤ wr.heap.size) (fun i5 _ => (RowKit.intOf i5).toNat)
  case atStart => exact ⟨8 * t.length + 40, [], t, [], [], 0, 0, by go_num, by simp, HM1, HT1, HR, HO, HSH, hbw1⟩
  case round =>
    obtain ⟨left, A, Z, ms, sh, s, p, rfl, hsl, HMr, HTr, HRr, HPr, HSr, hbr⟩ := hrel
    have k0 : wr.cell? ⟨mb, 0, none⟩ = some (.pointer (some ⟨g, 0, none⟩)) := K.at_box (i := 0) HMr.out.box rfl
    have hlen : A.length + Z.length ≤ 4000 := by
      obtain ⟨_, _, h⟩ := HMr.out.tx
      exact h.few
    by_cases hz : Z.length = 0
    · have hp := HPr.out
      rw [K.play_end hz] at hp
      simp only [Prod.mk.injEq] at hp
      obtain ⟨rfl, rfl, rfl, rfl⟩ := hp
      have hzn : Z = [] := List.eq_nil_of_length_eq_zero hz
      subst hzn
      have HSe : Hid (sh = SH) := by
        have := HSr.out
        rw [Al.shots_end rfl, List.append_nil] at this
        exact this
      have HQ : Hid (∀ q, Calls Try.prog 35 #[.pointer (some ⟨g, 0, none⟩)] (wr.drewN q) fun e w' => e = .returned (.int .i64 A.length) ∧ ∃ q', w' = (wr.drewN q).drewN q') := fun q => HMr.out.len q
      have HC : Hid (∀ q, Calls Try.prog 36 #[.pointer (some ⟨g, 0, none⟩)] (wr.drewN q) fun e w' => e = .returned (.int .i64 A.length) ∧ w' = wr.drewN q) := fun q => HMr.out.cur q
      clear HPr HRr HF HO HR HM1 HT1 HSr HSH
      go_wp2_with fail
      go_quiet (first | (go_at_call 35; exact Calls.quiet_of (HQ.out _)) | (go_at_call 36; exact Calls.quiet_of_same (HC.out _)))
      go_wp2
      go_ret
      exact ⟨rfl, (HMr.out.drewN nq).bel, (HTq0.out _ _ _ nq hbr HTr.out).2, ms, by rw [← HSe.out]; exact (HTq0.out _ _ _ nq hbr HTr.out).1⟩
    · obtain ⟨N, hN⟩ : ∃ N, N = A.length + Z.length := ⟨_, rfl⟩
      have HQ : Hid (∀ q, Calls Try.prog 35 #[.pointer (some ⟨g, 0, none⟩)] (wr.drewN q) fun e w' => e = .returned (.int .i64 N) ∧ ∃ q', w' = (wr.drewN q).drewN q') := fun q => by rw [hN]; exact HMr.out.len q
      have HC : Hid (∀ q, Calls Try.prog 36 #[.pointer (some ⟨g, 0, none⟩)] (wr.drewN q) fun e w' => e = .returned (.int .i64 A.length) ∧ w' = wr.drewN q) := fun q => HMr.out.cur q
      have hlt : (A.length : Int) < N := by omega
      clear HO HR HM1 HT1 HSH
      go_wp2_with fail
      go_quiet (first | (go_at_call 35; exact Calls.quiet_of (HQ.out _)) | (go_at_call 36; exact Calls.quiet_of_same (HC.out _)))
      have HMq : Hid (Gm.Mx b (mb :: ms) mb wb (wr.drewN nq) g vr vh l c A Z) := HMr.out.drewN nq
      have HTq : Hid (T (wr.drewN nq) ms sh ∧ U (wr.drewN nq)) := HTq0.out _ _ _ nq hbr HTr.out
      have hbq : b ≤ (wr.drewN nq).heap.size := hbr
      clear HQ HC k0 HMr HTr hbr
      generalize wr.drewN nq = W at *
      have k0 : W.cell? ⟨mb, 0, none⟩ = some (.pointer (some ⟨g, 0, none⟩)) := K.at_box (i := 0) HMq.out.box rfl
      cases left with
      | zero =>
        have hp := HPr.out
        rw [K.play_out hz] at hp
        simp only [Prod.mk.injEq] at hp
        obtain ⟨rfl, rfl, rfl, rfl⟩ := hp
        go_wp2
        go_ret
        exact ⟨rfl, HMq.out.bel, HTq.out.2, fun h => absurd h (by decide)⟩
      | succ left =>
        have hne : ¬ ((left + 1 : Nat) : Int) = 0 := by omega
        have HCu : Hid (Calls Try.prog 36 #[.pointer (some ⟨g, 0, none⟩)] W fun e w' => e = .returned (.int .i64 A.length) ∧ w' = W) := HMq.out.cur 0
        have HFi : Hid (Calls Try.prog 37 #[.pointer (some ⟨mb, 0, none⟩)] W fun e w' => e = .returned (.int .i64 (K.which l (A ++ Z) A.length)) ∧ Below W.heap.size W w') := xfirst_any b (mb :: ms) mb wb W g vr vh l c A Z HMq.out HOk.out (by omega) (Gm.right_range HRr.out)
        have HSt : Hid (∀ W2 o, Below W.heap.size W W2 → Calls Try.prog 38 #[.pointer (some ⟨mb, 0, none⟩), .int .i64 (K.which l (A ++ Z) A.length)] (W2.alloc o) fun e w' => ∃ x : Int, e = .returned (.int .i64 x) ∧
      ((x = 4 ∧ Below wb.heap.size wb w' ∧ U w' ∧ o1 = 4) ∨
       (x = 0 ∧ w'.heap[W2.heap.size]? = some o ∧ b ≤ w'.heap.size ∧ ∃ A' Z', Gm.Mx b (mb :: ms) mb wb w' g vr vh l c A' Z' ∧ (T w' ms sh ∧ U w') ∧ K.allR (A' ++ Z') = true ∧ K.play l left A' Z' (s + 1) (p + if K.which l (A ++ Z) A.length = -1 then 0 else 1) = (o1, o2, o3, o4) ∧ (sh ++ [((A.length : Int), K.which l (A ++ Z) A.length)]) ++ Al.shots l left A' Z' = SH))) := fun W2 o hW2 => by
          have hM2 := (HMq.out.below hW2).box1 o
          have hb2 : Below W.heap.size W (W2.alloc o) := hW2.alloc (hW2.size) o
          have hs2 := hb2.size
          refine (xstepT_all b _ mb wb _ g vr vh l c A Z hM2 HOk.out (by omega) HRr.out).mono ?_
          rintro e w' ⟨x, rfl, ⟨rfl, h1, h2⟩ | ⟨rfl, A', Z', h1, h2, h3, h4, h5⟩⟩
          · have hp := HPr.out
            rw [h2] at hp
            simp only [Prod.mk.injEq] at hp
            exact ⟨4, rfl, .inl ⟨rfl, hM2.bel.trans (h1.mono hM2.base), HUb.out _ _ HTq.out.2 ((hb2.mono hbq).trans h1), hp.1.symm⟩⟩
          · have hfr : Gm.Fr ⟨b, mb :: ms⟩ W w' := ((Gm.Fr.of_below hb2 hbq).trans (B := ⟨b, mb :: ms⟩) ⟨h2.1, fun j hj hm => h2.2 j (List.mem_cons_of_mem _ hj) hm⟩)
            refine ⟨0, rfl, .inr ⟨rfl, ?_, by have := h2.size; omega, A', Z', h1.less (by simp) (fun j hj => List.mem_cons_of_mem _ hj), ⟨HTb.out _ _ _ _ HTq.out.1 hfr, HUb.out _ _ HTq.out.2 hfr.1⟩, h3, ?_, ?_⟩⟩
            · rw [h2.2 _ (by simp) (by simp)]; exact heap_alloc_new W2 o
            · rw [← h4]; exact HPr.out
            · have hq := HSr.out
              rw [h5] at hq
              rw [List.append_assoc]
              exact hq
        generalize K.which l (A ++ Z) A.length = kk at *
        clear HMq HRr HTq HPr HSr
        go_wp2_with fail
        go_at_call 36
        refine HCu.out.mono ?_
        rintro e w1 ⟨rfl, rfl⟩
        go_wp2_with fail
        go_at_call 37
        refine HFi.out.mono ?_
        rintro e w2 ⟨rfl, hw2⟩
        have HB2 : Hid (Below w1.heap.size w1 w2) := hw2
        clear hw2 k0 HCu HFi
        go_wp2_with fail
        refine (HSt.out w2 _ HB2.out).mono ?_
        rintro e w3 ⟨x, rfl, ⟨rfl, h1, h1t, rfl⟩ | ⟨rfl, h1, h2, A', Z', h3, h4, h5, h6, h7⟩⟩
        · have H1 : Hid (Below wb.heap.size wb w3 ∧ U w3) := ⟨h1, h1t⟩
          clear h1 h1t HSt HB2 HF
          go_wp2
          go_ret
          exact ⟨rfl, H1.out.1, H1.out.2, fun h => absurd h (by decide)⟩
        · have d0 : w3.cell? ⟨w2.heap.size, 0, none⟩ = some (.int .i64 A.length) := K.at_box (i := 0) h1 rfl
          have d1 : w3.cell? ⟨w2.heap.size, 1, none⟩ = some (.int .i64 kk) := K.at_box (i := 1) h1 rfl
          have HFo2 : Hid (Calls Try.prog ft (#[.agg #[.int .i64 A.length, .int .i64 kk]] ++ ct) w3 fun e w' => e = .returned (.tuple #[]) ∧ U w' ∧ ∃ ns, Gm.Mx b (mb :: ns) mb wb w' g vr vh l c A' Z' ∧ T w' ns (sh ++ [((A.length : Int), kk)])) := HF.out w3 ms A' Z' sh A.length kk h3 h4.1 h4.2 (by omega)
          have H7 : Hid ((sh ++ [((A.length : Int), kk)]) ++ Al.shots l left A' Z' = SH) := h7
          have hsl2 : (sh ++ [((A.length : Int), kk)]).length + left = 8 * t.length + 40 := by simp; omega
          have H5 : Hid (K.allR (A' ++ Z') = true) := h5
          have H6 : Hid (K.play l left A' Z' (s + 1) (p + if kk = -1 then 0 else 1) = (o1, o2, o3, o4)) := h6
          clear h1 h2 h3 h4 h5 h6 h7 HSt HB2 HF
          go_wp2_with fail
          refine HFo2.out.mono ?_
          rintro e w4 ⟨rfl, g0, ns, g1, g2⟩
          have G1 : Hid (Gm.Mx b (mb :: ns) mb wb w4 g vr vh l c A' Z') := g1
          have G2 : Hid (T w4 ns (sh ++ [((A.length : Int), kk)]) ∧ U w4) := ⟨g2, g0⟩
          clear g0 g1 g2 HFo2 d0 d1
          go_wp2
          go_roundw
          case rel => exact ⟨left, A', Z', ns, _, s + 1, _, by go_num, hsl2, G1, G2, H5, H6, H7, G1.out.top⟩
          case measure => simp [RowKit.intOf]

end Go.Proofs.Ytfhgenllefhgkaa

/-
  vm.check: what is wrong with the rules, then with the text, then the heads.
-/
namespace Go.Proofs.Ytfhgenllefhgkaa
open Go.RowKit Go.Shelf
set_option maxRecDepth 20000
set_option linter.unusedSimpArgs false
set_option linter.unusedVariables false

/-- what check answers -/
def Gm.Chk (l : List K.Rule) (t : List Int) (o : List J.Hd × Int × Int) : Prop :=
  ((K.rulesF l).1 ≠ 0 ∧ o = ([], K.rulesF l)) ∨ ((K.rulesF l).1 = 0 ∧ K.textE t ≠ 0 ∧ o = ([], K.textE t, 0)) ∨ ((K.rulesF l).1 = 0 ∧ K.textE t = 0 ∧ J.Comp l o)

set_option maxHeartbeats 8000000 in
theorem xcheck_any (w : World) (v : Value) (l : List K.Rule) (R0 : V.Rus w v l) (vt : Value) (t : List Int) (Rt : L.Rd w vt .i32 t) (ht : t.length ≤ 140737488355328) :
    Calls Try.prog 32 #[v, vt] w fun e w' => ∃ (v' : Value) (o : List J.Hd × Int × Int), Gm.Chk l t o ∧ e = .returned (.tuple #[v', .agg #[.int .i64 o.2.1, .int .i64 o.2.2]]) ∧ J.Own w.heap.size w' v' o.1 ∧ Below w.heap.size w w' := by
  have HA : Hid (∀ o, Below w.heap.size w (w.alloc o)) := fun o => (Below.refl _ w).alloc (Nat.le_refl _) o
  have HC : Hid (∀ o, Calls Try.prog 41 #[v] (w.alloc o) fun e w' => e = .returned (.agg #[.int .i64 (K.rulesF l).1, .int .i64 (K.rulesF l).2]) ∧ Below (w.alloc o).heap.size (w.alloc o) w') := fun o => qWrong_any _ _ l (R0.below (HA.out o))
  have HR : Hid (V.Rus w v l) := R0
  have HT : Hid (L.Rd w vt .i32 t) := Rt
  have HN : Hid ((K.rulesF l).1 ≠ 0 → Gm.Chk l t ([], K.rulesF l)) := fun h => .inl ⟨h, rfl⟩
  have HN2 : Hid ((K.rulesF l).1 = 0 → K.textE t ≠ 0 → Gm.Chk l t ([], K.textE t, 0)) := fun h h2 => .inr (.inl ⟨h, h2, rfl⟩)
  have HY : Hid ((K.rulesF l).1 = 0 → K.textE t = 0 → ∀ o, J.Comp l o → Gm.Chk l t o) := fun h h2 o ho => .inr (.inr ⟨h, h2, ho⟩)
  obtain ⟨⟨e1, e2⟩, he⟩ : ∃ o, K.rulesF l = o := ⟨_, rfl⟩
  rw [he] at HC HN HN2 HY
  simp only at HC HN HN2 HY
  clear he R0 Rt
  go_enter Try.func32, Try.ntmps32
  go_wp2_with fail
  refine (HC.out _).mono ?_
  rintro e w1 ⟨rfl, b1⟩
  obtain ⟨h1, B1, s1⟩ := K.one_box b1
  have HB1 : Hid (Below w.heap.size w w1) := B1
  have HX1 : Hid (w1.heap[w.heap.size]? = some (.cells #[.int .i64 0, .int .i64 0] 27)) := h1
  obtain ⟨x0, x1, f0, f1⟩ := K.box2 h1
  have k0 : ∀ o, (w1.alloc o).cell? ⟨w.heap.size, 0, none⟩ = some (.int .i64 0) := fun o => K.alloc_cell x0 o
  have k1 : ∀ o, (w1.alloc o).cell? ⟨w.heap.size, 1, none⟩ = some (.int .i64 0) := fun o => K.alloc_cell x1 o
  have g0 : ∀ o, (w1.alloc o).frozen? ⟨w.heap.size, 0, none⟩ = false := fun o => K.alloc_free h1 o 0
  have g1 : ∀ o, (w1.alloc o).frozen? ⟨w.heap.size, 1, none⟩ = false := fun o => K.alloc_free h1 o 1
  have HB2 : Hid (∀ o, Below w.heap.size w (w1.alloc o)) := fun o => HB1.out.alloc (by omega) o
  clear b1 B1 HC x0 x1 f0 f1 h1
  by_cases q : e1 = 0
  · subst q
    obtain ⟨X, hX⟩ : ∃ X, X = w1.alloc (.cells #[.int .i64 0, .int .i64 e2] 27) := ⟨_, rfl⟩
    have HXX : Hid (X = w1.alloc (.cells #[.int .i64 0, .int .i64 e2] 27)) := hX
    have HBX : Hid (Below w.heap.size w X) := by show Below _ _ _; rw [hX]; exact HB2.out _
    have hXs : w.heap.size < X.heap.size := by rw [hX]; simp; omega
    have HXb : Hid (X.heap[w.heap.size]? = some (.cells #[.int .i64 0, .int .i64 0] 27)) := by
      show X.heap[w.heap.size]? = _
      rw [hX, Below.heap_alloc w1 _ w.heap.size (by omega)]; exact HX1.out
    have HTx : Hid (∀ Y, Y = X → Calls Try.prog 42 #[vt] Y fun e w' => e = .returned (.int .i64 (K.textE t)) ∧ Below X.heap.size X w') := fun Y hY => by rw [hY]; exact mText_any X vt t (HT.out.below HBX.out (Nat.le_refl _)) ht
    have HN2' := HN2.out rfl
    have HY' := HY.out rfl
    generalize K.textE t = z at HTx HN2' HY'
    have HN3 : Hid (z ≠ 0 → Gm.Chk l t ([], z, 0)) := HN2'
    have HY3 : Hid (z = 0 → ∀ o, J.Comp l o → Gm.Chk l t o) := HY'
    clear hX k0 k1 g0 g1 HN HN2 HY HN2' HY'
    go_wp2_with fail
    go_at_call 42
    refine (HTx.out _ HXX.out.symm).mono ?_
    rintro e w2 ⟨rfl, b2⟩
    have HB3 : Hid (Below X.heap.size X w2) := b2
    have hx2 := K.blk_below HXb.out b2
    have hw2 : w.heap.size < w2.heap.size := by have := b2.size; omega
    have HX2 : Hid (w2.heap[w.heap.size]? = some (.cells #[.int .i64 0, .int .i64 0] 27)) := hx2
    have HBW : Hid (Below w.heap.size w w2) := HBX.out.trans (b2.mono (by omega))
    obtain ⟨x0, x1, f0, f1⟩ := K.box2 hx2
    clear b2 hx2 HTx HXX HXb HB1 HX1 HB2
    by_cases hz : z = 0
    · subst hz
      have HY4 : Hid (∀ o, J.Comp l o → Gm.Chk l t o) := HY3.out rfl
      have HCo : Hid (Calls Try.prog 43 #[v] w2 fun e w' => ∃ (v' : Value) (o : List J.Hd × Int × Int), J.Comp l o ∧ e = .returned (.tuple #[v', .agg #[.int .i64 o.2.1, .int .i64 o.2.2]]) ∧ J.Own w2.heap.size w' v' o.1 ∧ Below w2.heap.size w2 w') := jCompile_any w2 v l (HR.out.below HBW.out)
      clear x0 x1 f0 f1
      go_wp2_with fail
      go_at_call 43
      refine HCo.out.mono ?_
      rintro e w3 ⟨v', ⟨hs, o1, o2⟩, hC, rfl, own, b3⟩
      have hx3 := K.blk_below HX2.out b3
      obtain ⟨x0, x1, f0, f1⟩ := K.box2 hx3
      have HCh : Hid (Gm.Chk l t (hs, o1, o2)) := HY4.out _ hC
      have HBW3 : Hid (Below w.heap.size w w3) := HBW.out.trans (b3.mono (by omega))
      have HOw : Hid (∀ x y, J.Own w.heap.size ((w3.setCell ⟨w.heap.size, 0, none⟩ x).setCell ⟨w.heap.size, 1, none⟩ y) v' hs) := fun x y => by
        have h9 : J.Own w2.heap.size ((w3.setCell ⟨w.heap.size, 0, none⟩ x).setCell ⟨w.heap.size, 1, none⟩ y) v' hs := own.kept fun g hg => by
          rw [heap_setCell_other _ _ g y (by simp; omega), heap_setCell_other _ _ g x (by simp; omega)]
        exact h9.base (by omega)
      clear own b3 hx3 hC HCo HBW HX2
      go_wp2
      refine bodyPost_ret (v := .tuple #[v', .agg #[.int .i64 o1, .int .i64 o2]]) (by simp [results, Try.results32, go_sem, *]) rfl ?_
      exact ⟨_, _, HCh.out, rfl, HOw.out _ _, (HBW3.out.setCell (p := ⟨w.heap.size, 0, none⟩) (Nat.le_refl _) _).setCell (p := ⟨w.heap.size, 1, none⟩) (Nat.le_refl _) _⟩
    · have HN4 : Hid (Gm.Chk l t ([], z, 0)) := HN3.out hz
      go_wp2
      refine bodyPost_ret (v := .tuple #[.slice none 0 0, .agg #[.int .i64 z, .int .i64 0]]) (by simp [results, Try.results32, go_sem, *]) rfl ?_
      exact ⟨_, _, HN4.out, rfl, J.Own.nil _ _, (HBW.out.setCell (p := ⟨w.heap.size, 0, none⟩) (Nat.le_refl _) _).setCell (p := ⟨w.heap.size, 1, none⟩) (Nat.le_refl _) _⟩
  · have HN' : Hid (Gm.Chk l t ([], e1, e2)) := HN.out q
    clear HN HN2 HY
    go_wp2
    go_region
    go_wp2
    refine bodyPost_ret (v := .tuple #[.slice none 0 0, .agg #[.int .i64 e1, .int .i64 e2]]) (by simp [results, Try.results32, go_sem, *]) rfl ?_
    exact ⟨_, _, HN'.out, rfl, J.Own.nil _ _, (((HB2.out _).setCell (p := ⟨w.heap.size, 0, none⟩) (Nat.le_refl _) _).setCell (p := ⟨w.heap.size, 1, none⟩) (Nat.le_refl _) _).drew⟩

end Go.Proofs.Ytfhgenllefhgkaa
