/-
  Sets in texts: a whole set.
-/
import Derived.Test.YtajbcgobfkaahaaGreatDoorTPart
namespace Go.Proofs.YtajbcgobfkaahaaGreatDoor
open Go.RowKit
set_option maxRecDepth 20000

theorem chr_lt {l : List Int} {p q : Nat} {r : Int} (h : T.chr l p = .ok r q) : p < q := by
  unfold T.chr at h
  split at h
  · unfold T.esc at h
    split at h
    · unfold T.num at h
      split at h
      · cases h
      · split at h
        · cases h
        · split at h
          · cases h
          · split at h
            · cases h
            · cases h
              have := T.skipW_ge T.hexd l (p + 1 + 2)
              omega
    · split at h
      · cases h; omega
      · split at h
        · cases h; omega
        · split at h
          · cases h
          · cases h; omega
  · split at h
    · cases h; omega
    · cases h
theorem span_lt {l : List Int} {p q : Nat} {x : S.Sp} (h : T.span l p = .ok x q) : p < q := by
  unfold T.span at h
  cases h1 : T.chr l p with
  | bad e r => rw [h1] at h; cases h
  | ok lo r =>
    rw [h1] at h
    simp only at h
    have b1 := chr_lt h1
    split at h
    · cases h; exact b1
    · cases h2 : T.chr l (r + 1) with
      | bad e r' => rw [h2] at h; cases h
      | ok hi r' =>
        rw [h2] at h
        simp only at h
        have b2 := chr_lt h2
        split at h
        · cases h
        · cases h; omega
theorem cls_lt {l : List Int} {p q : Nat} {s : List S.Sp} (h : T.cls l p = .ok s q) : p < q := by
  unfold T.cls at h
  split at h
  · cases h
  · split at h
    · cases h
    · split at h
      · cases h
      · cases h
        have := T.skipW_ge T.ordy l (p + 2)
        omega
theorem made_at {P : Int → Bool} {p q : Nat} {s : List S.Sp} (h : T.made P p = .ok s q) : q = p := by
  unfold T.made at h
  split at h
  · cases h
  · cases h; rfl
theorem part_lt {sub : Nat → T.Out (List S.Sp)} (hsub : ∀ p t q, sub p = .ok t q → p < q) {l : List Int} {s t : List S.Sp} {p q : Nat} (h : T.part sub l s p = .ok t q) : p < q := by
  have hk := T.skipW_ge T.blank l (p + 1)
  unfold T.part at h
  split at h
  · cases h1 : sub (T.skipW T.blank l (p + 1)) with
    | bad e r => rw [h1] at h; cases h
    | ok u r => rw [h1] at h; have := hsub _ _ _ h1; have := made_at h; omega
  · split at h
    · cases h1 : sub (T.skipW T.blank l (p + 1)) with
      | bad e r => rw [h1] at h; cases h
      | ok u r => rw [h1] at h; have := hsub _ _ _ h1; have := made_at h; omega
    · split at h
      · cases h1 : T.cls l p with
        | bad e r => rw [h1] at h; cases h
        | ok u r => rw [h1] at h; have := cls_lt h1; have := made_at h; omega
      · split at h
        · cases h1 : sub p with
          | bad e r => rw [h1] at h; cases h
          | ok u r => rw [h1] at h; have := hsub _ _ _ h1; have := made_at h; omega
        · cases h1 : T.span l p with
          | bad e r => rw [h1] at h; cases h
          | ok u r => rw [h1] at h; have := span_lt h1; have := made_at h; omega
theorem loop_lt {sub : Nat → T.Out (List S.Sp)} (hsub : ∀ p t q, sub p = .ok t q → p < q) {l : List Int} : ∀ (f : Nat) {s t : List S.Sp} {p q : Nat}, T.loop f sub l s p = .ok t q → p < q := by
  intro f
  induction f with
  | zero => intro s t p q h; rw [T.loop] at h; cases h
  | succ f ih =>
    intro s t p q h
    rw [T.loop] at h
    split at h
    · cases h; omega
    · cases h1 : T.part sub l s p with
      | bad e r => rw [h1] at h; cases h
      | ok u r =>
        rw [h1] at h
        simp only at h
        have := part_lt hsub h1
        have := ih h
        have := T.skipW_ge T.blank l r
        omega
theorem setN_lt {l : List Int} : ∀ (n p : Nat) (t : List S.Sp) (q : Nat), T.setN n l p = .ok t q → p < q := by
  intro n
  induction n with
  | zero => intro p t q h; rw [T.setN] at h; split at h <;> cases h
  | succ n ih =>
    intro p t q h
    rw [T.setN] at h
    split at h
    · cases h
    · split at h
      · cases h1 : T.loop (l.length + 1) (T.setN n l) l [] (T.skipW T.blank l (p + 2)) with
        | bad e r => rw [h1] at h; cases h
        | ok u r =>
          rw [h1] at h
          have := loop_lt ih _ h1
          have := made_at h
          have := T.skipW_ge T.blank l (p + 2)
          omega
      · have := loop_lt ih _ h
        have := T.skipW_ge T.blank l (p + 1)
        omega

/-- what is made of a set's parts in the end -/
noncomputable def T.finish (ng : Bool) : T.Out (List S.Sp) → T.Out (List S.Sp)
  | .bad e q => .bad e q
  | .ok s q => if ng = true then T.made (S.notP s) q else .ok s q

theorem set_deep (w : World) (cb tb cap p : Nat) (ao : Option Addr) (l : List Int) (C : T.Cur w cb tb cap ao l p) :
    Calls Tryz.prog 98 #[.pointer (some ⟨cb, 0, none⟩), .int .i64 21] w (T.Ends w cb tb cap ao l (T.setN 0 l p) (T.isSetF w.heap.size)) := by
  have c1 := C.cell1
  have HC : Hid (T.Cur w cb tb cap ao l p) := C
  clear C
  rw [T.setN]
  by_cases h : T.see l p = 91
  · rw [if_neg (by simp [h])]
    go_enter Tryz.func98, Tryz.ntmps98
    go_wp2_with fail
    refine (need_yes _ cb tb cap p ao l 91 (by decide) HC.out h).mono ?_
    rintro e w1 ⟨rfl, C1, g1⟩
    go_wp2_with (go_at_call 23; refine (fail_any _ 4 p).mono ?_; unfold T.thrown; rintro e w2 ⟨rfl, rfl⟩)
    exact ⟨rfl, rfl, g1⟩
  · rw [if_pos h]
    go_enter Tryz.func98, Tryz.ntmps98
    go_wp2_with fail
    refine (need_no _ cb tb cap p ao l 91 (by decide) HC.out h).mono ?_
    unfold T.thrown
    rintro e w1 ⟨rfl, g1⟩
    go_wp2
    exact ⟨rfl, rfl, g1⟩

set_option maxHeartbeats 8000000 in
theorem set_step (hC : T.ClassOk) (n : Nat) (hn : n < 20) (cb tb cap : Nat) (ao : Option Addr) (l : List Int) (hS : T.SetOk cb tb cap ao l ((20 - n : Nat) + 1 : Int) (T.setN n l)) : T.SetOk cb tb cap ao l ((20 - n : Nat) : Int) (T.setN (n + 1) l) := by
  intro w p C
  obtain ⟨deep, HD⟩ : ∃ d : Nat, Hid (d = 20 - n) := ⟨_, rfl⟩
  rw [← HD.out] at hS ⊢
  have hd1 : deep ≤ 20 := by have := HD.out; omega
  have c1 := C.cell1
  have hlen := C.len
  have HC : Hid (T.Cur w cb tb cap ao l p) := C
  have HS : Hid (T.SetOk cb tb cap ao l ((deep : Int) + 1) (T.setN n l)) := hS
  have HK : Hid T.ClassOk := hC
  clear C hS hC
  obtain ⟨o, HO⟩ : ∃ o, Hid (T.setN (n + 1) l p = o) := ⟨_, rfl⟩
  rw [HO.out]
  by_cases h : T.see l p = 91
  · go_enter Tryz.func98, Tryz.ntmps98
    go_wp2_with fail
    refine (need_yes _ cb tb cap p ao l 91 (by decide) HC.out h).mono ?_
    rintro e w1 ⟨rfl, C1, g1⟩
    have HC1 : Hid (T.Cur w1 cb tb cap ao l (p + 1)) := C1
    have HG1 : Hid (w.grownBy w1 (some cb)) := g1
    clear C1 g1
    have hdd : ¬ 20 < (deep : Int) := by omega
    go_wp2_with fail
    refine (skip_any _ cb tb cap (p + 1) ao l 94 (by decide) HC1.out).mono ?_
    rintro e w2 ⟨rfl, C2, g2⟩
    have HG2 : Hid (w.grownBy w2 (some cb)) := S.grown_trans HG1.out g2
    obtain ⟨p2, HP2⟩ : ∃ p2, Hid ((if T.see l (p + 1) = 94 then p + 1 + 1 else p + 1) = p2) := ⟨_, rfl⟩
    obtain ⟨ng, HNg⟩ : ∃ b : Bool, Hid (decide (T.see l (p + 1) = 94) = b) := ⟨_, rfl⟩
    rw [HP2.out] at C2
    rw [HNg.out]
    have HC2 : Hid (T.Cur w2 cb tb cap ao l p2) := C2
    clear C2 g2
    go_wp2_with fail
    refine (blanks_any _ cb tb cap p2 ao l HC2.out).mono ?_
    rintro e w3 ⟨rfl, C3, g3⟩
    have HG3 : Hid (w.grownBy w3 (some cb)) := S.grown_trans HG2.out g3
    have HC3 : Hid (T.Cur w3 cb tb cap ao l (T.skipW T.blank l p2)) := C3
    clear C3 g3
    obtain ⟨L0, HL0⟩ : ∃ L0, Hid (T.loop (l.length + 1) (T.setN n l) l [] (T.skipW T.blank l p2) = L0) := ⟨_, rfl⟩
    have HFin : Hid (o = T.finish ng L0) := by
      show _ = _
      rw [← HO.out, ← HL0.out, ← HP2.out, ← HNg.out, T.setN, if_neg (by simp [h])]
      by_cases h94 : T.see l (p + 1) = 94
      · rw [if_pos h94, if_pos h94, decide_eq_true h94]
        cases T.loop (l.length + 1) (T.setN n l) l [] (T.skipW T.blank l (p + 2)) <;> rfl
      · rw [if_neg h94, if_neg h94, decide_eq_false h94]
        cases T.loop (l.length + 1) (T.setN n l) l [] (T.skipW T.blank l (p + 1)) <;> rfl
    go_wp2
    go_loopw [7] (fun sv wr => ∃ (s : List S.Sp) (q f vc : Nat) (vo : Option Addr), sv = .slice vo s.length vc ∧ Hid (T.isSetF w.heap.size s (.slice vo s.length vc) wr) ∧ Hid (T.Cur wr cb tb cap ao l q) ∧ Hid (w.grownBy wr (some cb)) ∧ Hid (l.length < q + f) ∧ Hid (T.loop f (T.setN n l) l s q = L0)) (fun _ wr => l.length - T.pos wr cb)
    case atStart => exact ⟨[], T.skipW T.blank l p2, l.length + 1, 0, none, rfl, ⟨⟨S.Rd.nil _, trivial, by simp⟩, S.Fresh.nil _⟩, HC3, HG3, by show _ < _; omega, HL0⟩
    case round =>
      obtain ⟨s, q, f, vc, vo, rfl, HV, HCq, HG, HF, HL⟩ := hrel
      have HPos : Hid _ := HCq.out.pos
      have hql := HCq.out.le
      obtain ⟨f, rfl⟩ : ∃ g, f = g + 1 := ⟨f - 1, by have := HF.out; omega⟩
      go_wp2_with fail
      refine (skip_any _ cb tb cap q ao l 93 (by decide) HCq.out).mono ?_
      rintro e w4 ⟨rfl, C4, g4⟩
      have HG4 : Hid (w.grownBy w4 (some cb)) := S.grown_trans HG.out g4
      have HV4 : Hid (T.isSet s (.slice vo s.length vc) w4) := HV.out.1.cur HCq.out g4
      have HFr : Hid (S.Fresh w.heap.size (.slice vo s.length vc)) := HV.out.2
      clear g4
      by_cases h93 : T.see l q = 93
      · rw [if_pos h93] at C4
        have HC4 : Hid (T.Cur w4 cb tb cap ao l (q + 1)) := C4
        clear C4
        have hL : L0 = .ok s (q + 1) := by rw [← HL.out, T.loop, if_pos h93]
        have hFin := HFin.out
        rw [hL] at hFin
        have HFn : Hid _ := hFin
        clear hFin hL
        cases ng with
        | true =>
          go_wp2_with fail
          refine (not_any _ _ s HV4.out.1 (S.Fit.of_nf HV4.out.2.1 (Int.le_refl _))).mono ?_
          rintro e w7 ⟨v7, rfl, R7, b7, f7, _⟩
          have HF7 : Hid (S.Fresh w.heap.size v7) := f7.mono HG4.out.size
          rw [S.wrong_ok HV4.out.2.1 HV4.out.2.2] at R7 ⊢
          have HR7 : Hid (S.Rd w7 v7 (S.resL 0 0 (S.notP s))) := R7
          have HC7 : Hid (T.Cur w7 cb tb cap ao l (q + 1)) := HC4.out.below b7
          have HG7 : Hid (w.grownBy w7 (some cb)) := S.grown_trans HG4.out (S.grown_below b7)
          clear R7 b7 f7
          generalize hre : S.resE 0 0 (S.notP s) = re
          have HRe : Hid _ := hre
          clear hre
          go_wp2_with fail
          rw [← HRe.out]
          refine (made_any _ cb tb cap (q + 1) ao l HC7.out (S.notP s) (S.notP_in s) v7 HR7.out _ HF7.out).mono ?_
          intro e w8 hm
          have ho : T.made (S.notP s) (q + 1) = o := by rw [HFn.out]; rfl
          rw [ho] at hm
          cases o with
          | bad er r =>
            obtain ⟨rfl, g8⟩ := hm
            unfold T.thrown
            go_wp2
            exact ⟨rfl, rfl, S.grown_trans HG7.out g8⟩
          | ok u r =>
            obtain ⟨v8, rfl, hv8, C8, g8⟩ := hm
            have HV8 : Hid (T.isSetF w.heap.size u v8 w8) := hv8
            clear hv8
            go_wp2
            go_ret
            exact ⟨_, rfl, HV8.out, C8, S.grown_trans HG7.out g8⟩
        | false =>
          go_wp2
          go_ret
          rw [HFn.out]
          exact ⟨_, rfl, ⟨HV4.out, HFr.out⟩, HC4.out, HG4.out⟩
      · rw [if_neg h93] at C4
        have HC4 : Hid (T.Cur w4 cb tb cap ao l q) := C4
        clear C4
        go_wp2_with fail
        refine (part_any HK.out _ cb tb cap q ao l deep hd1 (T.setN n l) HS.out HC4.out _ s HV4.out).mono ?_
        intro e w5 hp
        cases hc : T.part (T.setN n l) l s q with
        | bad er r =>
          rw [hc] at hp
          obtain ⟨rfl, g5⟩ := hp
          have hFin := HFin.out
          rw [← HL.out, T.loop, if_neg h93, hc] at hFin
          unfold T.thrown
          go_wp2
          refine ⟨rfl, ?_⟩
          rw [hFin]
          exact ⟨rfl, S.grown_trans HG4.out g5⟩
        | ok t r =>
          rw [hc] at hp
          obtain ⟨v5, rfl, hv5, C5, g5⟩ := hp
          have hqr := part_lt (setN_lt n) hc
          have HV5 : Hid (T.isSet t v5 w5) := hv5.1
          have HF5 : Hid (S.Fresh w.heap.size v5) := hv5.2.mono HG4.out.size
          have HC5 : Hid (T.Cur w5 cb tb cap ao l r) := C5
          have HG5 : Hid (w.grownBy w5 (some cb)) := S.grown_trans HG4.out g5
          have HL5 : Hid (T.loop f (T.setN n l) l t (T.skipW T.blank l r) = L0) := by show _ = _; rw [← HL.out, T.loop, if_neg h93, hc]
          obtain ⟨to, tc, ht⟩ := hv5.1.1.len
          subst ht
          clear hv5 C5 g5 hc
          go_wp2_with fail
          refine (blanks_any _ cb tb cap r ao l HC5.out).mono ?_
          rintro e w6 ⟨rfl, C6, g6⟩
          have HC6 : Hid (T.Cur w6 cb tb cap ao l (T.skipW T.blank l r)) := C6
          have HV6 : Hid (T.isSet t (.slice to t.length tc) w6) := HV5.out.cur HC5.out g6
          have HG6 : Hid (w.grownBy w6 (some cb)) := S.grown_trans HG5.out g6
          have hge := T.skipW_ge T.blank l r
          clear C6 g6
          go_wp2
          go_roundw
          case rel => exact ⟨t, _, f, tc, to, rfl, ⟨HV6.out, HF5.out⟩, HC6, HG6, by have := HF.out; show _ < _; omega, HL5⟩
          case measure =>
            rw [HC6.out.pos, HPos.out]
            have := HC6.out.le
            omega
  · go_enter Tryz.func98, Tryz.ntmps98
    go_wp2_with fail
    refine (need_no _ cb tb cap p ao l 91 (by decide) HC.out h).mono ?_
    unfold T.thrown
    rintro e w1 ⟨rfl, g1⟩
    go_wp2
    refine ⟨rfl, ?_⟩
    rw [← HO.out, T.setN, if_pos h]
    exact ⟨rfl, g1⟩

end Go.Proofs.YtajbcgobfkaahaaGreatDoor
