/-
  Whether a look asks for nothing that another doesn't; whether a rule masks another.
-/
import Derived.Test.YtdmpmkcigjkilaaYLook
namespace Go.Proofs.Ytdmpmkcigjkilaa
open Go.RowKit
set_option maxRecDepth 20000
set_option linter.unusedSimpArgs false
set_option linter.unusedVariables false

namespace K
theorem covers_short {e1 e2 : Bool} {l1 l2 : List (List S.Sp)} (h : l2.length < l1.length) : coversB e1 l1 e2 l2 = false := by
  cases hc : coversB e1 l1 e2 l2 with
  | false => rfl
  | true => have := (withinB_iff.1 (coversB_iff.1 hc).1).1; omega
theorem covers_ends {e2 : Bool} {l1 l2 : List (List S.Sp)} (h : e2 = false ∨ l1.length ≠ l2.length) : coversB true l1 e2 l2 = false := by
  cases hc : coversB true l1 e2 l2 with
  | false => rfl
  | true =>
    have := (coversB_iff.1 hc).2 rfl
    rcases h with h | h
    · rw [h] at this; cases this.1
    · exact absurd this.2 h
theorem covers_sets {e1 e2 : Bool} {l1 l2 : List (List S.Sp)} (hl : l1.length ≤ l2.length) (h : e1 = true → e2 = true ∧ l1.length = l2.length) (hs : ∀ (i : Nat) s u, l1[i]? = some s → l2[i]? = some u → subF u s = true) : coversB e1 l1 e2 l2 = true :=
  coversB_iff.2 ⟨withinB_iff.2 ⟨hl, hs⟩, h⟩
theorem covers_no {e1 e2 : Bool} {l1 l2 : List (List S.Sp)} {i : Nat} {s u : List S.Sp} (h1 : l1[i]? = some s) (h2 : l2[i]? = some u) (h : subF u s = false) : coversB e1 l1 e2 l2 = false := by
  cases hc : coversB e1 l1 e2 l2 with
  | false => rfl
  | true => have := (withinB_iff.1 (coversB_iff.1 hc).1).2 i s u h1 h2; rw [h] at this; cases this
end K

set_option maxHeartbeats 4000000 in
theorem covers_any (w : World) (n1 n2 : Nat) (e1 e2 : Bool) (f1 f2 : Nat) (c1 c2 : Array Value) (l1 l2 : List (List S.Sp)) (h1 : l1.length = n1) (h2 : l2.length = n2) (T1 : K.Tell w f1 c1 l1) (T2 : K.Tell w f2 c2 l2)
    (eg1 : ∀ args w, (callFunc f1 args).run Try.prog w = .ok (.enter f1 args) w) (eg2 : ∀ args w, (callFunc f2 args).run Try.prog w = .ok (.enter f2 args) w)
    (G1 : ∀ s ∈ l1, S.Nf 0 s ∧ s.length ≤ 200) (G2 : ∀ s ∈ l2, S.Nf 0 s ∧ s.length ≤ 200) (hn1 : n1 ≤ 1000) (hn2 : n2 ≤ 1000) :
    Calls Try.prog 82 #[.agg #[.int .i64 n1, .bool e1, .func (.func f1) #[] c1], .agg #[.int .i64 n2, .bool e2, .func (.func f2) #[] c2]] w fun e w' => e = .returned (.bool (K.coversB e1 l1 e2 l2)) ∧ Below w.heap.size w w' := by
  have hx := K.two_boxes (w := w) (Below.refl _ ((w.alloc (.cells #[.int .i64 n1, .bool e1, .func (.func f1) #[] c1] 90)).alloc (.cells #[.int .i64 n2, .bool e2, .func (.func f2) #[] c2] 90)))
  obtain ⟨W0, hW0⟩ : ∃ W0, W0 = (w.alloc (.cells #[.int .i64 n1, .bool e1, .func (.func f1) #[] c1] 90)).alloc (.cells #[.int .i64 n2, .bool e2, .func (.func f2) #[] c2] 90) := ⟨_, rfl⟩
  rw [← hW0] at hx
  have HX : Hid (W0.heap[w.heap.size]? = some (.cells #[.int .i64 n1, .bool e1, .func (.func f1) #[] c1] 90) ∧ W0.heap[w.heap.size + 1]? = some (.cells #[.int .i64 n2, .bool e2, .func (.func f2) #[] c2] 90) ∧ Below w.heap.size w W0 ∧ w.heap.size + 2 ≤ W0.heap.size) := hx
  have HT1 : Hid (K.Tell W0 f1 c1 l1) := T1.below hx.2.2.1
  have HT2 : Hid (K.Tell W0 f2 c2 l2) := T2.below hx.2.2.1
  have HG1 : Hid (∀ s ∈ l1, S.Nf 0 s ∧ s.length ≤ 200) := G1
  have HG2 : Hid (∀ s ∈ l2, S.Nf 0 s ∧ s.length ≤ 200) := G2
  have HL : Hid (l1.length = n1 ∧ l2.length = n2) := ⟨h1, h2⟩
  have HW : Hid (W0 = (w.alloc (.cells #[.int .i64 n1, .bool e1, .func (.func f1) #[] c1] 90)).alloc (.cells #[.int .i64 n2, .bool e2, .func (.func f2) #[] c2] 90)) := hW0
  clear T1 T2 G1 G2 hx h1 h2 hW0
  by_cases hshort : n2 < n1
  · go_enter Try.func82, Try.ntmps82
    go_wp2
    go_ret
    refine ⟨L.ret_bool ?_, by rw [← HW.out]; exact HX.out.2.2.1⟩
    rw [K.covers_short (by rw [HL.out.1, HL.out.2]; exact hshort)]
  · by_cases hends : e1 = true ∧ (e2 = false ∨ n1 ≠ n2)
    · obtain ⟨rfl, he⟩ := hends
      have HF : Hid (K.coversB true l1 e2 l2 = false) := K.covers_ends (by rw [HL.out.1, HL.out.2]; exact he)
      rw [HF.out]
      cases e2 with
      | false =>
        go_enter Try.func82, Try.ntmps82
        go_wp2
        go_ret
        exact ⟨rfl, by rw [← HW.out]; exact HX.out.2.2.1⟩
      | true =>
        have hlt : n1 < n2 := by
          rcases he with he | he
          · cases he
          · omega
        clear he
        go_enter Try.func82, Try.ntmps82
        go_wp2
        go_ret
        exact ⟨rfl, by rw [← HW.out]; exact HX.out.2.2.1⟩
    · have HE : Hid (e1 = true → e2 = true ∧ l1.length = l2.length) := fun h => by
        rw [HL.out.1, HL.out.2]
        cases he : e2 with
        | false => exact absurd ⟨h, .inl he⟩ hends
        | true => exact ⟨rfl, Decidable.byContradiction fun hh => hends ⟨h, .inr hh⟩⟩
      have hcase : e1 = false ∨ (e1 = true ∧ e2 = true ∧ ¬ n1 < n2) := by
        cases h : e1 with
        | false => exact .inl rfl
        | true =>
          have := HE.out h
          rw [HL.out.1, HL.out.2] at this
          exact .inr ⟨rfl, this.1, by omega⟩
      have HCov : Hid ((∀ (i : Nat) s u, l1[i]? = some s → l2[i]? = some u → subF u s = true) → K.coversB e1 l1 e2 l2 = true) := fun hs => K.covers_sets (by rw [HL.out.1, HL.out.2]; omega) HE.out hs
      clear hends HE
      rcases hcase with rfl | ⟨rfl, rfl, hnn⟩
      all_goals
        go_enter Try.func82, Try.ntmps82
        go_wp2
        go_loopw [29] (fun i wr => ∃ j : Nat, j ≤ n1 ∧ i = .int .i64 j ∧ Hid (∀ (i : Nat) s u, i < j → l1[i]? = some s → l2[i]? = some u → subF u s = true) ∧ Hid (Below W0.heap.size W0 wr)) (fun i _ => n1 - (intOf i).toNat)
        case atStart => exact ⟨0, Nat.zero_le _, rfl, fun i s u h => absurd h (Nat.not_lt_zero _), by show Below _ _ _; rw [← HW.out]; exact Below.refl _ _⟩
        case round =>
          obtain ⟨j, hj, rfl, HI, HB⟩ := hrel
          have HBw : Hid (Below w.heap.size w wr) := HX.out.2.2.1.trans (HB.out.mono (by have := HX.out.2.2.2; omega))
          by_cases hlt : j < n1
          · obtain ⟨s, hs⟩ : ∃ s, l1[j]? = some s := ⟨l1[j]'(by rw [HL.out.1]; exact hlt), by simp⟩
            obtain ⟨u, hu⟩ : ∃ u, l2[j]? = some u := ⟨l2[j]'(by rw [HL.out.2]; omega), by simp⟩
            have HC1 : Hid (∀ W, Below W0.heap.size W0 W → Calls Try.prog f1 (#[.int .i64 j] ++ c1) W fun e w' => ∃ so sc, e = .returned (.slice so s.length sc) ∧ S.Rd w' (.slice so s.length sc) s ∧ Below W.heap.size W w') := fun W hW => HT1.out j s W hs hW
            have HC2 : Hid (∀ W, Below W0.heap.size W0 W → Calls Try.prog f2 (#[.int .i64 j] ++ c2) W fun e w' => ∃ so sc, e = .returned (.slice so u.length sc) ∧ S.Rd w' (.slice so u.length sc) u ∧ Below W.heap.size W w') := fun W hW => HT2.out j u W hu hW
            have HSub : Hid (∀ W va vb, S.Rd W va u → S.Rd W vb s → Calls Try.prog 112 #[va, vb] W fun e w' => e = .returned (.bool (subF u s)) ∧ Below W.heap.size W w') := fun W va vb ra rb => sub_any W va vb u s ra rb (HG2.out u (List.mem_of_getElem? hu)).1 (HG1.out s (List.mem_of_getElem? hs)).1 (HG2.out u (List.mem_of_getElem? hu)).2 (HG1.out s (List.mem_of_getElem? hs)).2
            have HP : Hid (l1[j]? = some s ∧ l2[j]? = some u) := ⟨hs, hu⟩
            have HKp : Hid (∀ W, Below W0.heap.size W0 W → W.cell? ⟨w.heap.size + 1, 2, none⟩ = some (.func (.func f2) #[] c2) ∧ W.cell? ⟨w.heap.size, 2, none⟩ = some (.func (.func f1) #[] c1)) := fun W hW => ⟨K.at_box (i := 2) (K.blk_below HX.out.2.1 hW) rfl, K.at_box (i := 2) (K.blk_below HX.out.1 hW) rfl⟩
            have q0 : Below W0.heap.size W0 wr.drew := HB.out.drew
            have HQ0 : Hid (Below W0.heap.size W0 wr.drew) := q0
            have hkp := HKp.out wr HB.out
            clear hs hu q0
            have HZ : Hid (subF u s = false → ∀ e1 e2, K.coversB e1 l1 e2 l2 = false) := fun h e1 e2 => K.covers_no HP.out.1 HP.out.2 h
            have HZ2 : Hid (subF u s = true → ∀ (i : Nat) s u, i < j + 1 → l1[i]? = some s → l2[i]? = some u → subF u s = true) := fun h i s' u' hi h1 h2 => by
              by_cases hij : i < j
              · exact HI.out i s' u' hij h1 h2
              · have : i = j := by omega
                subst this
                rw [HP.out.1] at h1
                rw [HP.out.2] at h2
                cases h1; cases h2; exact h
            generalize subF u s = z at HSub HZ HZ2
            go_wp2
            go_region_held3 (fun w' => w'.cell? ⟨w.heap.size + 1, 2, none⟩ = some (.func (.func f2) #[] c2) ∧ w'.cell? ⟨w.heap.size, 2, none⟩ = some (.func (.func f1) #[] c1))
              (first | with_reducible exact HKp.out _ HQ0.out | with_reducible exact k3 | with_reducible exact k2 | with_reducible exact k1 | (go_keep; done))
              (first
                | (go_at_call 112; refine (HSub.out _ _ _ (r2.below z1 (Nat.le_refl _)) r1).mono ?_; rintro e w3 ⟨rfl, z3⟩; have q3 : Below W0.heap.size W0 w3 := q1.trans (z3.mono q1.size); have k3 := HKp.out _ q3)
                | ((fail_if_success (have hz := z1)); have hy := z2; clear hy; refine (HC1.out _ q2).mono ?_; rintro e w1 ⟨so1, sc1, rfl, r1, z1⟩; have q1 : Below W0.heap.size W0 w1 := q2.trans (z1.mono q2.size); have k1 := HKp.out _ q1)
                | ((fail_if_success (have hz := z2)); refine (HC2.out _ HQ0.out).mono ?_; rintro e w2 ⟨so2, sc2, rfl, r2, z2⟩; have q2 : Below W0.heap.size W0 w2 := HQ0.out.trans (z2.mono HQ0.out.size); have k2 := HKp.out _ q2)
                | fail)
            have HB3 : Hid (Below W0.heap.size W0 w3) := q3
            have HBw3 : Hid (Below w.heap.size w w3) := HX.out.2.2.1.trans (q3.mono (by have := HX.out.2.2.2; omega))
            clear q3 q2 q1 k3 k2 k1 z1 z2 z3 r1 r2 hkp
            cases z with
            | false =>
              have HF : Hid (∀ e1 e2, K.coversB e1 l1 e2 l2 = false) := HZ.out rfl
              clear HZ HZ2
              go_wp2
              go_ret
              exact ⟨L.ret_bool (HF.out _ _).symm, HBw3.out⟩
            | true =>
              have HI2 : Hid (∀ (i : Nat) s u, i < j + 1 → l1[i]? = some s → l2[i]? = some u → subF u s = true) := HZ2.out rfl
              clear HZ HZ2
              go_wp2
              go_roundw
              case rel => exact ⟨j + 1, by omega, by go_num, HI2, HB3⟩
              case measure => simp [intOf]; omega
          · go_wp2
            go_ret
            refine ⟨L.ret_bool ?_, HBw.out⟩
            exact (HCov.out fun i s u hs hu => HI.out i s u (by have := (List.getElem?_eq_some_iff.1 hs).1; rw [HL.out.1] at this; omega) hs hu).symm

set_option maxHeartbeats 4000000 in
theorem masks_any (w : World) (va vb : Value) (a b : K.Rule) (Ra : K.RuIs w va a) (Rb : K.RuIs w vb b) (ha : K.ruleE a = 0) (hb : K.ruleE b = 0) :
    Calls Try.prog 49 #[va, vb] w fun e w' => e = .returned (.bool (K.masksB a b)) ∧ Below w.heap.size w w' := by
  obtain ⟨a1, a2, a3, a4, _⟩ := K.ruleE_zero ha
  obtain ⟨b1, b2, b3, b4, _⟩ := K.ruleE_zero hb
  have HBA : Hid (∀ W, Below w.heap.size w W → Calls Try.prog 44 #[va] W fun e w' => ∃ f cb, e = .returned (.agg #[.int .i64 a.before.length, .bool a.start, .func (.func f) #[] cb]) ∧ (∀ args w, (callFunc f args).run Try.prog w = .ok (.enter f args) w) ∧ K.Tell w' f cb a.before.reverse ∧ Below W.heap.size W w') := fun W hW => backward_any W va a (Ra.below hW)
  have HBB : Hid (∀ W, Below w.heap.size w W → Calls Try.prog 44 #[vb] W fun e w' => ∃ f cb, e = .returned (.agg #[.int .i64 b.before.length, .bool b.start, .func (.func f) #[] cb]) ∧ (∀ args w, (callFunc f args).run Try.prog w = .ok (.enter f args) w) ∧ K.Tell w' f cb b.before.reverse ∧ Below W.heap.size W w') := fun W hW => backward_any W vb b (Rb.below hW)
  have HFA : Hid (∀ W, Below w.heap.size w W → Calls Try.prog 45 #[va] W fun e w' => ∃ f cb, e = .returned (.agg #[.int .i64 ((a.source.length : Int) + a.after.length), .bool a.fin, .func (.func f) #[] cb]) ∧ (∀ args w, (callFunc f args).run Try.prog w = .ok (.enter f args) w) ∧ K.Tell w' f cb (a.source ++ a.after) ∧ Below W.heap.size W w') := fun W hW => forward_any W va a (Ra.below hW)
  have HFB : Hid (∀ W, Below w.heap.size w W → Calls Try.prog 45 #[vb] W fun e w' => ∃ f cb, e = .returned (.agg #[.int .i64 ((b.source.length : Int) + b.after.length), .bool b.fin, .func (.func f) #[] cb]) ∧ (∀ args w, (callFunc f args).run Try.prog w = .ok (.enter f args) w) ∧ K.Tell w' f cb (b.source ++ b.after) ∧ Below W.heap.size W w') := fun W hW => forward_any W vb b (Rb.below hW)
  have HC1 : Hid (∀ W f1 c1 f2 c2, K.Tell W f1 c1 a.before.reverse → K.Tell W f2 c2 b.before.reverse → (∀ args w, (callFunc f1 args).run Try.prog w = .ok (.enter f1 args) w) → (∀ args w, (callFunc f2 args).run Try.prog w = .ok (.enter f2 args) w) → Calls Try.prog 82 #[.agg #[.int .i64 a.before.length, .bool a.start, .func (.func f1) #[] c1], .agg #[.int .i64 b.before.length, .bool b.start, .func (.func f2) #[] c2]] W fun e w' => e = .returned (.bool (K.coversB a.start a.before.reverse b.start b.before.reverse)) ∧ Below W.heap.size W w') := fun W f1 c1 f2 c2 t1 t2 g1 g2 =>
    covers_any W a.before.length b.before.length a.start b.start f1 f2 c1 c2 _ _ (by simp) (by simp) t1 t2 g1 g2 (fun s hs => a1.2 s (by simpa using hs)) (fun s hs => b1.2 s (by simpa using hs)) (by have := a1.1; omega) (by have := b1.1; omega)
  have HC2 : Hid (∀ W f1 c1 f2 c2, K.Tell W f1 c1 (a.source ++ a.after) → K.Tell W f2 c2 (b.source ++ b.after) → (∀ args w, (callFunc f1 args).run Try.prog w = .ok (.enter f1 args) w) → (∀ args w, (callFunc f2 args).run Try.prog w = .ok (.enter f2 args) w) → Calls Try.prog 82 #[.agg #[.int .i64 ((a.source.length : Int) + a.after.length), .bool a.fin, .func (.func f1) #[] c1], .agg #[.int .i64 ((b.source.length : Int) + b.after.length), .bool b.fin, .func (.func f2) #[] c2]] W fun e w' => e = .returned (.bool (K.coversB a.fin (a.source ++ a.after) b.fin (b.source ++ b.after))) ∧ Below W.heap.size W w') := fun W f1 c1 f2 c2 t1 t2 g1 g2 => by
    have h := covers_any W (a.source.length + a.after.length) (b.source.length + b.after.length) a.fin b.fin f1 f2 c1 c2 _ _ (by simp) (by simp) t1 t2 g1 g2 (fun s hs => (List.mem_append.1 hs).elim (a2.2 s) (a3.2 s)) (fun s hs => (List.mem_append.1 hs).elim (b2.2 s) (b3.2 s)) (by have := a2.1; have := a3.1; omega) (by have := b2.1; have := b3.1; omega)
    simpa using h
  have hM : K.masksB a b = (K.coversB a.start a.before.reverse b.start b.before.reverse && K.coversB a.fin (a.source ++ a.after) b.fin (b.source ++ b.after)) := rfl
  rw [hM]
  generalize K.coversB a.start a.before.reverse b.start b.before.reverse = u1 at *
  generalize K.coversB a.fin (a.source ++ a.after) b.fin (b.source ++ b.after) = u2 at *
  obtain ⟨abo, abc, aso, asc, aao, aac, ato, atc, rfl, _⟩ := Ra
  obtain ⟨bbo, bbc, bso, bsc, bao, bac, bto, btc, rfl, _⟩ := Rb
  clear hM a1 a2 a3 a4 b1 b2 b3 b4 ha hb
  have hx := K.two_boxes (w := w) (Below.refl _ ((w.alloc (.cells #[.bool a.start, .bool a.fin, .slice abo a.before.length abc, .slice aso a.source.length asc, .slice aao a.after.length aac, .slice ato a.target.length atc, .int .i64 a.cursor] 64)).alloc (.cells #[.bool b.start, .bool b.fin, .slice bbo b.before.length bbc, .slice bso b.source.length bsc, .slice bao b.after.length bac, .slice bto b.target.length btc, .int .i64 b.cursor] 64)))
  obtain ⟨W0, hW0⟩ : ∃ W0, W0 = (w.alloc (.cells #[.bool a.start, .bool a.fin, .slice abo a.before.length abc, .slice aso a.source.length asc, .slice aao a.after.length aac, .slice ato a.target.length atc, .int .i64 a.cursor] 64)).alloc (.cells #[.bool b.start, .bool b.fin, .slice bbo b.before.length bbc, .slice bso b.source.length bsc, .slice bao b.after.length bac, .slice bto b.target.length btc, .int .i64 b.cursor] 64) := ⟨_, rfl⟩
  rw [← hW0] at hx
  have HX : Hid (W0.heap[w.heap.size]? = some (.cells #[.bool a.start, .bool a.fin, .slice abo a.before.length abc, .slice aso a.source.length asc, .slice aao a.after.length aac, .slice ato a.target.length atc, .int .i64 a.cursor] 64) ∧ W0.heap[w.heap.size + 1]? = some (.cells #[.bool b.start, .bool b.fin, .slice bbo b.before.length bbc, .slice bso b.source.length bsc, .slice bao b.after.length bac, .slice bto b.target.length btc, .int .i64 b.cursor] 64) ∧ Below w.heap.size w W0 ∧ w.heap.size + 2 ≤ W0.heap.size) := hx
  have HKp : Hid (∀ W, Below W0.heap.size W0 W → W.cell? ⟨w.heap.size, 0, none⟩ = some (.bool a.start) ∧ W.cell? ⟨w.heap.size, 1, none⟩ = some (.bool a.fin) ∧ W.cell? ⟨w.heap.size, 2, none⟩ = some (.slice abo a.before.length abc) ∧ W.cell? ⟨w.heap.size, 3, none⟩ = some (.slice aso a.source.length asc) ∧ W.cell? ⟨w.heap.size, 4, none⟩ = some (.slice aao a.after.length aac) ∧ W.cell? ⟨w.heap.size, 5, none⟩ = some (.slice ato a.target.length atc) ∧ W.cell? ⟨w.heap.size, 6, none⟩ = some (.int .i64 a.cursor) ∧ W.cell? ⟨w.heap.size + 1, 0, none⟩ = some (.bool b.start) ∧ W.cell? ⟨w.heap.size + 1, 1, none⟩ = some (.bool b.fin) ∧ W.cell? ⟨w.heap.size + 1, 2, none⟩ = some (.slice bbo b.before.length bbc) ∧ W.cell? ⟨w.heap.size + 1, 3, none⟩ = some (.slice bso b.source.length bsc) ∧ W.cell? ⟨w.heap.size + 1, 4, none⟩ = some (.slice bao b.after.length bac) ∧ W.cell? ⟨w.heap.size + 1, 5, none⟩ = some (.slice bto b.target.length btc) ∧ W.cell? ⟨w.heap.size + 1, 6, none⟩ = some (.int .i64 b.cursor)) := fun W hW => ⟨K.at_box (i := 0) (K.blk_below HX.out.1 hW) rfl, K.at_box (i := 1) (K.blk_below HX.out.1 hW) rfl, K.at_box (i := 2) (K.blk_below HX.out.1 hW) rfl, K.at_box (i := 3) (K.blk_below HX.out.1 hW) rfl, K.at_box (i := 4) (K.blk_below HX.out.1 hW) rfl, K.at_box (i := 5) (K.blk_below HX.out.1 hW) rfl, K.at_box (i := 6) (K.blk_below HX.out.1 hW) rfl,
    K.at_box (i := 0) (K.blk_below HX.out.2.1 hW) rfl, K.at_box (i := 1) (K.blk_below HX.out.2.1 hW) rfl, K.at_box (i := 2) (K.blk_below HX.out.2.1 hW) rfl, K.at_box (i := 3) (K.blk_below HX.out.2.1 hW) rfl, K.at_box (i := 4) (K.blk_below HX.out.2.1 hW) rfl, K.at_box (i := 5) (K.blk_below HX.out.2.1 hW) rfl, K.at_box (i := 6) (K.blk_below HX.out.2.1 hW) rfl⟩
  have HQ0 : Hid (Below W0.heap.size W0 W0.drew) := (Below.refl _ W0).drew
  have hkp := HKp.out W0 (Below.refl _ W0)
  have HLo : Hid (∀ W, Below W0.heap.size W0 W → Below w.heap.size w W) := fun W hW => HX.out.2.2.1.trans (hW.mono (by have := HX.out.2.2.2; omega))
  clear hx
  cases u1 with
  | false =>
    rw [Bool.false_and]
    go_enter Try.func49, Try.ntmps49
    go_wp2
    rw [← hW0]
    clear hW0
    obtain ⟨x0, x1, x2, x3, x4, x5, x6, y0, y1, y2, y3, y4, y5, y6⟩ := hkp
    go_region_with
      (first
        | (go_at_call 82; refine (HC1.out _ _ _ _ _ (t1.below z2) t2 g1 g2).mono ?_; rintro e w3 ⟨rfl, z3⟩; have q3 : Below W0.heap.size W0 w3 := q2.trans (z3.mono q2.size); skip)
        | ((fail_if_success (have hz := z2)); have hy := z1; clear hy; go_at_call 44; refine (HBB.out _ (HLo.out _ q1)).mono ?_; rintro e w2 ⟨f2, c2, rfl, g2, t2, z2⟩; have q2 : Below W0.heap.size W0 w2 := q1.trans (z2.mono q1.size); obtain ⟨x0, x1, x2, x3, x4, x5, x6, y0, y1, y2, y3, y4, y5, y6⟩ := HKp.out _ q2)
        | ((fail_if_success (have hz := z1)); go_at_call 44; refine (HBA.out _ (HLo.out _ HQ0.out)).mono ?_; rintro e w1 ⟨f1, c1, rfl, g1, t1, z1⟩; have q1 : Below W0.heap.size W0 w1 := HQ0.out.trans (z1.mono HQ0.out.size); obtain ⟨x0, x1, x2, x3, x4, x5, x6, y0, y1, y2, y3, y4, y5, y6⟩ := HKp.out _ q1)
        | fail)
    all_goals
      have HB3 : Hid (Below w.heap.size w w3) := HLo.out _ q3
      clear q3 q2 q1 z1 z2 z3 t1 t2
      go_wp2
      go_ret
      exact ⟨rfl, HB3.out⟩
  | true =>
    rw [Bool.true_and]
    go_enter Try.func49, Try.ntmps49
    go_wp2
    rw [← hW0]
    clear hW0
    go_region_held3 (fun w' => w'.cell? ⟨w.heap.size, 0, none⟩ = some (.bool a.start) ∧ w'.cell? ⟨w.heap.size, 1, none⟩ = some (.bool a.fin) ∧ w'.cell? ⟨w.heap.size, 2, none⟩ = some (.slice abo a.before.length abc) ∧ w'.cell? ⟨w.heap.size, 3, none⟩ = some (.slice aso a.source.length asc) ∧ w'.cell? ⟨w.heap.size, 4, none⟩ = some (.slice aao a.after.length aac) ∧ w'.cell? ⟨w.heap.size, 5, none⟩ = some (.slice ato a.target.length atc) ∧ w'.cell? ⟨w.heap.size, 6, none⟩ = some (.int .i64 a.cursor) ∧ w'.cell? ⟨w.heap.size + 1, 0, none⟩ = some (.bool b.start) ∧ w'.cell? ⟨w.heap.size + 1, 1, none⟩ = some (.bool b.fin) ∧ w'.cell? ⟨w.heap.size + 1, 2, none⟩ = some (.slice bbo b.before.length bbc) ∧ w'.cell? ⟨w.heap.size + 1, 3, none⟩ = some (.slice bso b.source.length bsc) ∧ w'.cell? ⟨w.heap.size + 1, 4, none⟩ = some (.slice bao b.after.length bac) ∧ w'.cell? ⟨w.heap.size + 1, 5, none⟩ = some (.slice bto b.target.length btc) ∧ w'.cell? ⟨w.heap.size + 1, 6, none⟩ = some (.int .i64 b.cursor))
      (first | with_reducible exact HKp.out _ HQ0.out | with_reducible exact k6 | with_reducible exact k5 | with_reducible exact k4 | with_reducible exact k3 | with_reducible exact k2 | with_reducible exact k1 | (go_keep; done))
      (first
        | (have hy := z5; clear hy; go_at_call 82; refine (HC2.out _ _ _ _ _ (t4.below z5) t5 g4 g5).mono ?_; rintro e w6 ⟨rfl, z6⟩; have q6 : Below W0.heap.size W0 w6 := q5.trans (z6.mono q5.size); have k6 := HKp.out _ q6)
        | ((fail_if_success (have hz := z5)); have hy := z4; clear hy; go_at_call 45; refine (HFB.out _ (HLo.out _ q4)).mono ?_; rintro e w5 ⟨f5, c5, rfl, g5, t5, z5⟩; have q5 : Below W0.heap.size W0 w5 := q4.trans (z5.mono q4.size); have k5 := HKp.out _ q5)
        | ((fail_if_success (have hz := z4)); have hy := z3; clear hy; go_at_call 45; refine (HFA.out _ (HLo.out _ q3)).mono ?_; rintro e w4 ⟨f4, c4, rfl, g4, t4, z4⟩; have q4 : Below W0.heap.size W0 w4 := q3.trans (z4.mono q3.size); have k4 := HKp.out _ q4)
        | ((fail_if_success (have hz := z3)); have hy := z2; clear hy; go_at_call 82; refine (HC1.out _ _ _ _ _ (t1.below z2) t2 g1 g2).mono ?_; rintro e w3 ⟨rfl, z3⟩; have q3 : Below W0.heap.size W0 w3 := q2.trans (z3.mono q2.size); have k3 := HKp.out _ q3)
        | ((fail_if_success (have hz := z2)); have hy := z1; clear hy; go_at_call 44; refine (HBB.out _ (HLo.out _ q1)).mono ?_; rintro e w2 ⟨f2, c2, rfl, g2, t2, z2⟩; have q2 : Below W0.heap.size W0 w2 := q1.trans (z2.mono q1.size); have k2 := HKp.out _ q2)
        | ((fail_if_success (have hz := z1)); go_at_call 44; refine (HBA.out _ (HLo.out _ HQ0.out)).mono ?_; rintro e w1 ⟨f1, c1, rfl, g1, t1, z1⟩; have q1 : Below W0.heap.size W0 w1 := HQ0.out.trans (z1.mono HQ0.out.size); have k1 := HKp.out _ q1)
        | fail)
    have HB6 : Hid (Below w.heap.size w w6) := HLo.out _ q6
    clear q6 q5 q4 q3 q2 q1 k6 k5 k4 k3 k2 k1 z1 z2 z3 z4 z5 z6 t1 t2 t4 t5 hkp
    go_wp2
    go_ret
    exact ⟨rfl, HB6.out⟩

end Go.Proofs.Ytdmpmkcigjkilaa
