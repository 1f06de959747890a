/-
  A file that is read: items.
-/
import Derived.Test.YtajbcgobfkaahaaGreatDoorRRd3
import Derived.RegionDies
namespace Go.Proofs.YtajbcgobfkaahaaGreatDoor
open Go.RowKit
set_option maxRecDepth 20000
set_option linter.unusedSimpArgs false

theorem named_len {n : ByteArray} (h : R.named n = true) : n.size ≤ 20 := by
  unfold R.named at h
  simp only [Bool.and_eq_true, decide_eq_true_eq] at h
  exact h.2
theorem varAt_ok {l : List Int} {p q : Nat} {n : ByteArray} (h : R.varAt l p = .ok n q) : R.named n = true ∧ p < q := by
  unfold R.varAt at h
  split at h
  · rename_i hn
    cases h
    refine ⟨hn, ?_⟩
    unfold R.wordEnd
    split
    · have := T.skipW_ge R.wordy l (p + 1); omega
    · omega
  · cases h
theorem item_lt {l : List Int} {p q : Nat} {ys : List R.Item} (h : R.item l p = .ok (some ys) q) : p < q := by
  unfold R.item at h
  split at h
  · cases h1 : T.setN 20 l p with
    | bad e r => rw [h1] at h; cases h
    | ok s r => rw [h1] at h; cases h; exact setN_lt _ _ _ _ h1
  · split at h
    · cases h1 : R.varAt l p with
      | bad e r => rw [h1] at h; cases h
      | ok s r => rw [h1] at h; cases h; exact (varAt_ok h1).2
    · split at h
      · split at h
        · cases h; have := T.skipW_ge R.notQuo l (p + 1); omega
        · cases h
      · split at h
        · cases h1 : T.chr l p with
          | bad e r => rw [h1] at h; cases h
          | ok s r =>
            rw [h1] at h
            simp only at h
            split at h
            · cases h; exact chr_lt h1
            · cases h
        · cases h

def R.isItems (F : Nat) (o : Option (List R.Item)) (v : Value) (w : World) : Prop :=
  match o with
  | none => v = .tuple #[.slice none 0 0, .bool false]
  | some xs => ∃ vs, v = .tuple #[vs, .bool true] ∧ R.RowI F w vs xs

set_option maxHeartbeats 8000000 in
theorem item_any (hK : T.ClassOk) (w : World) (cb tb cap p : Nat) (ao : Option Addr) (l : List Int) (C : T.Cur w cb tb cap ao l p) :
    Calls Tryz.prog 125 #[.pointer (some ⟨cb, 0, none⟩)] w (T.Ends w cb tb cap ao l (R.item l p) (R.isItems w.heap.size)) := by
  have hlen := C.len
  obtain ⟨he1, he2⟩ := C.elder
  have HK : Hid T.ClassOk := hK
  have HC : Hid (T.Cur w cb tb cap ao l p) := C
  clear C he2 hK
  obtain ⟨o, HO⟩ : ∃ o, Hid (R.item l p = o) := ⟨_, rfl⟩
  rw [HO.out]
  go_enter Tryz.func125, Tryz.ntmps125
  go_wp2_with fail
  refine (is_any _ cb tb cap p ao l 91 HC.out).mono ?_
  rintro e w1 ⟨rfl, b1⟩
  have HC1 : Hid (T.Cur w1 cb tb cap ao l p) := HC.out.below b1
  have HG1 : Hid (w.grownBy w1 (some cb)) := S.grown_below b1
  have hs1 := b1.size
  clear b1
  by_cases h91 : T.see l p = 91
  · go_wp2_with fail
    refine (Set_any HK.out _ cb tb cap p ao l HC1.out).mono ?_
    intro e w2 h
    cases hc : T.setN 20 l p with
    | bad er q =>
      rw [hc] at h
      obtain ⟨rfl, g2⟩ := h
      unfold T.thrown
      go_wp2
      refine ⟨rfl, ?_⟩
      rw [← HO.out]; unfold R.item; rw [if_pos h91, hc]
      exact ⟨rfl, S.grown_trans HG1.out g2⟩
    | ok s q =>
      rw [hc] at h
      obtain ⟨v2, rfl, ⟨⟨hr2, hn2, _⟩, hf2⟩, C2, g2⟩ := h
      have HC2 : Hid (T.Cur w2 cb tb cap ao l q) := C2
      have HG2 : Hid (w.grownBy w2 (some cb)) := S.grown_trans HG1.out g2
      have HHc : Hid _ := hc
      obtain ⟨so, sc, hv2⟩ := hr2.len
      subst hv2
      have HS2 : Hid (R.Stays w.heap.size none w2 fun w' => S.Rd w' (.slice so s.length sc) s) := R.rd_stays hr2 (hf2.mono hs1)
      have HF2 : Hid (S.Fit s) := S.Fit.of_nf hn2 (Int.le_refl _)
      clear C2 g2 hc hr2 hn2 hf2
      go_wp2
      go_ret2
      rw [← HO.out]; unfold R.item; rw [if_pos h91, HHc.out]
      have bA := (Below.refl _ w2).alloc (Nat.le_refl _) (.cells #[.int .i64 2, .int .i32 0, .slice so s.length sc, .string ⟨#[]⟩] 76)
      exact ⟨_, rfl, ⟨_, rfl, R.RowI.one 2 0 so sc s ⟨#[]⟩ HS2.out HF2.out (by decide) HG2.out.size⟩, HC2.out.below bA, S.grown_trans HG2.out (S.grown_below bA)⟩
  · go_wp2_with fail
    refine (varNext_any _ cb tb cap p ao l HC1.out).mono ?_
    rintro e w2 ⟨rfl, b2⟩
    have HC2 : Hid (T.Cur w2 cb tb cap ao l p) := HC1.out.below b2
    have HG2 : Hid (w.grownBy w2 (some cb)) := S.grown_trans HG1.out (S.grown_below b2)
    clear b2
    by_cases hv : R.varNext l p = true
    · go_wp2_with fail
      refine (variable_any _ cb tb cap p ao l HC2.out hv).mono ?_
      intro e w3 h
      cases hc : R.varAt l p with
      | bad er q =>
        rw [hc] at h
        obtain ⟨rfl, g3⟩ := h
        unfold T.thrown
        go_wp2
        refine ⟨rfl, ?_⟩
        rw [← HO.out]; unfold R.item; rw [if_neg h91, if_pos hv, hc]
        exact ⟨rfl, S.grown_trans HG2.out g3⟩
      | ok n q =>
        rw [hc] at h
        obtain ⟨v3, rfl, hvn, C3, g3⟩ := h
        unfold R.isText at hvn
        subst hvn
        have hnm := named_len (varAt_ok hc).1
        have HNm : Hid (n.size ≤ 20) := hnm
        have HC3 : Hid (T.Cur w3 cb tb cap ao l q) := C3
        have HG3 : Hid (w.grownBy w3 (some cb)) := S.grown_trans HG2.out g3
        have HHc : Hid _ := hc
        clear C3 g3 hc hnm
        go_wp2
        go_ret2
        rw [← HO.out]; unfold R.item; rw [if_neg h91, if_pos hv, HHc.out]
        have bA := (Below.refl _ w3).alloc (Nat.le_refl _) (.cells #[.int .i64 3, .int .i32 0, .slice none 0 0, .string n] 76)
        exact ⟨_, rfl, ⟨_, rfl, R.RowI.one 3 0 none 0 [] n (rd_nil_stays _ _) (fun x hx => by cases hx) (by have := HNm.out; omega) HG3.out.size⟩, HC3.out.below bA, S.grown_trans HG3.out (S.grown_below bA)⟩
    · go_wp2_with fail
      refine (skip_any _ cb tb cap p ao l 39 (by decide) HC2.out).mono ?_
      rintro e w3 ⟨rfl, C3, g3⟩
      have HG3 : Hid (w.grownBy w3 (some cb)) := S.grown_trans HG2.out g3
      clear g3
      by_cases h39 : T.see l p = 39
      · rw [if_pos h39] at C3
        have HC3 : Hid (T.Cur w3 cb tb cap ao l (p + 1)) := C3
        clear C3
        go_wp2_with fail
        refine (quoted_any _ cb tb cap (p + 1) ao l HC3.out).mono ?_
        intro e w4 h
        by_cases hq : T.see l (T.skipW R.notQuo l (p + 1)) = 39
        · have hQ : R.quotedAt l (p + 1) = .ok ((T.cut l (p + 1) (T.skipW R.notQuo l (p + 1))).map R.runeI) (T.skipW R.notQuo l (p + 1) + 1) := by unfold R.quotedAt; rw [if_pos hq]
          rw [hQ] at h
          obtain ⟨v4, rfl, hr4, C4, g4⟩ := h
          have HR4 : Hid _ := hr4
          obtain ⟨vo, vc, hv4⟩ := R.Row.slice hr4
          have HC4 : Hid (T.Cur w4 cb tb cap ao l (T.skipW R.notQuo l (p + 1) + 1)) := C4
          have HG4 : Hid (w.grownBy w4 (some cb)) := S.grown_trans HG3.out g4
          obtain ⟨xs, HXs⟩ : ∃ xs, Hid ((T.cut l (p + 1) (T.skipW R.notQuo l (p + 1))).map R.runeI = xs) := ⟨_, rfl⟩
          rw [HXs.out] at HR4 hv4
          subst hv4
          clear hr4 C4 g4 hQ
          go_wp2
          go_ret2
          rw [← HO.out]; unfold R.item; rw [if_neg h91, if_neg hv, if_pos h39, if_pos hq, HXs.out]
          exact ⟨_, rfl, ⟨_, rfl, R.Row.down HR4.out HG3.out.size⟩, HC4.out, HG4.out⟩
        · have hQ : R.quotedAt l (p + 1) = .bad 2 (T.skipW R.notQuo l (p + 1)) := by unfold R.quotedAt; rw [if_neg hq]
          rw [hQ] at h
          obtain ⟨rfl, g4⟩ := h
          unfold T.thrown
          go_wp2
          refine ⟨rfl, ?_⟩
          rw [← HO.out]; unfold R.item; rw [if_neg h91, if_neg hv, if_pos h39, if_neg hq]
          exact ⟨rfl, S.grown_trans HG3.out g4⟩
      · rw [if_neg h39] at C3
        have HC3 : Hid (T.Cur w3 cb tb cap ao l p) := C3
        clear C3
        go_wp2_with fail
        refine (is_any _ cb tb cap p ao l 92 HC3.out).mono ?_
        rintro e w4 ⟨rfl, b4⟩
        have HC4 : Hid (T.Cur w4 cb tb cap ao l p) := HC3.out.below b4
        have HG4 : Hid (w.grownBy w4 (some cb)) := S.grown_trans HG3.out (S.grown_below b4)
        clear b4
        -- one character
        have HOne : Hid (∀ W, T.Cur W cb tb cap ao l p → w.grownBy W (some cb) → (T.see l p = 92 ∨ T.ordy (T.see l p) = true) → ∀ e w6, T.Ends W cb tb cap ao l (R.oneAt l p) R.isOne e w6 →
            (∃ er q, o = .bad er q ∧ e = T.thrown er q ∧ w.grownBy w6 (some cb)) ∨ (∃ c q, o = .ok (some [R.runeI c]) q ∧ e = .returned (.agg #[.int .i64 1, .int .i32 c, .slice none 0 0, .string ⟨#[]⟩]) ∧ T.Cur w6 cb tb cap ao l q ∧ w.grownBy w6 (some cb))) := fun W CW GW hyes e w6 hE => by
          have hoe : o = (match R.oneAt l p with | .bad e q => .bad e q | .ok c q => .ok (some [R.runeI c]) q) := by
            rw [← HO.out]; unfold R.item R.oneAt; rw [if_neg h91, if_neg hv, if_neg h39, if_pos hyes]
            cases T.chr l p with
            | bad e q => rfl
            | ok c q =>
              simp only
              by_cases hr : M.right c = true
              · rw [if_pos hr, if_pos hr]
              · rw [if_neg hr, if_neg hr]
          cases hc : R.oneAt l p with
          | bad er q =>
            rw [hc] at hE hoe
            obtain ⟨h1, h2⟩ := hE
            exact .inl ⟨er, q, hoe, h1, S.grown_trans GW h2⟩
          | ok c q =>
            rw [hc] at hE hoe
            obtain ⟨v, h1, h2, h3, h4⟩ := hE
            unfold R.isOne at h2
            subst h2
            exact .inr ⟨c, q, hoe, h1, h3, S.grown_trans GW h4⟩
        by_cases h92 : T.see l p = 92
        · go_wp2_with fail
          refine (single_any _ cb tb cap p ao l HC4.out).mono ?_
          intro e w6 h
          rcases HOne.out _ HC4.out HG4.out (.inl h92) e w6 h with ⟨er, q, rfl, rfl, g6⟩ | ⟨c, q, rfl, rfl, C6, g6⟩
          · unfold T.thrown
            go_wp2
            exact ⟨rfl, rfl, g6⟩
          · have HC6 : Hid (T.Cur w6 cb tb cap ao l q) := C6
            have HG6 : Hid (w.grownBy w6 (some cb)) := g6
            clear C6 g6 h HOne
            go_wp2
            go_ret2
            have bA := (Below.refl _ w6).alloc (Nat.le_refl _) (.cells #[.int .i64 1, .int .i32 c, .slice none 0 0, .string ⟨#[]⟩] 76)
            exact ⟨_, rfl, ⟨_, rfl, R.RowI.one 1 c none 0 [] ⟨#[]⟩ (rd_nil_stays _ _) (fun x hx => by cases hx) (by decide) HG6.out.size⟩, HC6.out.below bA, S.grown_trans HG6.out (S.grown_below bA)⟩
        · go_wp2_with fail
          refine (ordy_any _ cb tb cap p ao l HC4.out).mono ?_
          rintro e w5 ⟨rfl, b5⟩
          have HC5 : Hid (T.Cur w5 cb tb cap ao l p) := HC4.out.below b5
          have HG5 : Hid (w.grownBy w5 (some cb)) := S.grown_trans HG4.out (S.grown_below b5)
          clear b5
          by_cases hor : T.ordy (T.see l p) = true
          · go_wp2_with fail
            refine (single_any _ cb tb cap p ao l HC5.out).mono ?_
            intro e w6 h
            rcases HOne.out _ HC5.out HG5.out (.inr hor) e w6 h with ⟨er, q, rfl, rfl, g6⟩ | ⟨c, q, rfl, rfl, C6, g6⟩
            · unfold T.thrown
              go_wp2
              exact ⟨rfl, rfl, g6⟩
            · have HC6 : Hid (T.Cur w6 cb tb cap ao l q) := C6
              have HG6 : Hid (w.grownBy w6 (some cb)) := g6
              clear C6 g6 h HOne
              go_wp2
              go_ret2
              have bA := (Below.refl _ w6).alloc (Nat.le_refl _) (.cells #[.int .i64 1, .int .i32 c, .slice none 0 0, .string ⟨#[]⟩] 76)
              exact ⟨_, rfl, ⟨_, rfl, R.RowI.one 1 c none 0 [] ⟨#[]⟩ (rd_nil_stays _ _) (fun x hx => by cases hx) (by decide) HG6.out.size⟩, HC6.out.below bA, S.grown_trans HG6.out (S.grown_below bA)⟩
          · clear HOne
            go_wp2
            go_ret2
            rw [← HO.out]; unfold R.item; rw [if_neg h91, if_neg hv, if_neg h39, if_neg (by simp [h92, hor])]
            exact ⟨_, rfl, rfl, HC5.out, HG5.out⟩

set_option maxHeartbeats 4000000 in
theorem uncut_ok (w : World) (cb b c : Nat) (vo : Option Addr) (n vc : Nat) (k : Int) (hk : ¬ 0 ≤ k) (_ : b ≤ 16000) (_ : c = b) :
    Calls Tryz.prog 109 #[.pointer (some ⟨cb, 0, none⟩), .agg #[.int .i64 b, .slice vo n vc, .int .i64 k]] w fun e w' => e = .returned (.slice vo n vc) ∧ Below w.heap.size w w' := by
  have hk' : k < 0 := by omega
  go_enter Tryz.func109, Tryz.ntmps109
  go_wp2
  go_ret
  exact ⟨rfl, (Below.refl _ w).alloc (Nat.le_refl _) _⟩

set_option maxHeartbeats 4000000 in
theorem uncut_no (w : World) (cb b : Nat) (vo : Option Addr) (n vc : Nat) (k : Int) (hk : 0 ≤ k) :
    Calls Tryz.prog 109 #[.pointer (some ⟨cb, 0, none⟩), .agg #[.int .i64 b, .slice vo n vc, .int .i64 k]] w fun e w' => e = T.thrown 8 b ∧ Below w.heap.size w w' := by
  have hk' : ¬ k < 0 := by omega
  have bA := (Below.refl _ w).alloc (Nat.le_refl _) (.cells #[.int .i64 b, .slice vo n vc, .int .i64 k] 150)
  have HB : Hid (Below w.heap.size w (w.alloc (.cells #[.int .i64 b, .slice vo n vc, .int .i64 k] 150))) := bA
  clear bA
  go_enter Tryz.func109, Tryz.ntmps109
  go_wp2
  go_region_dies
  all_goals refine (fail_any _ 8 b).mono ?_
  all_goals unfold T.thrown
  all_goals rintro e w3 ⟨rfl, rfl⟩
  all_goals exact ⟨rfl, rfl, below_drewN HB.out 1⟩

end Go.Proofs.YtajbcgobfkaahaaGreatDoor
