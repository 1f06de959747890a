/-
  scriptlaw9.AnalyseTells: it returns true.
-/
import Derived.Test.YtdmpmkcigjkilaaYRef1
import Derived.Test.YtdmpmkcigjkilaaYRefK
import Derived.Test.YtdmpmkcigjkilaaYRefS
import Derived.Test.YtdmpmkcigjkilaaYMasksF
import Derived.Test.YtdmpmkcigjkilaaVSpan
namespace Go.Proofs.Ytdmpmkcigjkilaa
open Go.RowKit Go.Shelf
set_option maxRecDepth 20000
set_option linter.unusedSimpArgs false
set_option linter.unusedVariables false

namespace K
theorem masksF_bad {l : List Rule} {i j : Int} (h : (rulesF l).1 ≠ 0) : masksF l i j = (false, rulesF l) := by unfold masksF; rw [if_neg h]
theorem maskedF_bad {l : List Rule} (h : (rulesF l).1 ≠ 0) : maskedF l = ([], rulesF l) := by unfold maskedF; rw [if_neg h]
theorem firstsF_bad {l : List Rule} (h : (rulesF l).1 ≠ 0) : firstsF l = ([], rulesF l) := by unfold firstsF; rw [if_neg h]
theorem steadyF_bad {l : List Rule} (h : (rulesF l).1 ≠ 0) : steadyF l = (false, rulesF l) := by
  unfold steadyF
  rw [firstsF_bad h, if_neg h]
theorem maskedF_ok {l : List Rule} (h : (rulesF l).1 = 0) : maskedF l = (maskedL l, 0, 0) := by unfold maskedF; rw [if_pos h]
theorem firstsF_ok {l : List Rule} (h : (rulesF l).1 = 0) : firstsF l = (S.resL 0 0 (S.memb (firstsL l)), S.resE 0 0 (S.memb (firstsL l)), 0) := by unfold firstsF; rw [if_pos h]
theorem resL_len {P : Int → Bool} : (S.resL 0 0 P).length ≤ 200 := by
  unfold S.resL S.fewL
  simp only [ne_eq, not_true_eq_false, if_false]
  split
  · simp
  · omega
end K

set_option maxHeartbeats 16000000 in
theorem analyseTells_any (w : World) (vl : Value) (l : List K.Rule) (R0 : V.Rus w vl l) (hcap : ∀ ao n c, vl = .slice ao n c → n ≤ c) (i j : Int) (hi : K.I64 i) (hj : K.I64 j) :
    Calls Try.prog 6 #[vl, .int .i64 i, .int .i64 j] w fun e w' => e = .returned (.bool true) ∧ Below w.heap.size w w' := by
  have HV : Hid (∀ X, Below w.heap.size w X → Calls Try.prog 16 #[vl] X fun e w' => e = .returned (.agg #[.int .i64 (K.rulesF l).1, .int .i64 (K.rulesF l).2]) ∧ Below X.heap.size X w') := fun X hX => rWrong8_any X _ l (R0.below hX)
  have HRe : Hid (∀ X, Below w.heap.size w X → Calls Try.prog 17 #[vl] X fun e w' => e = .returned (.tuple #[.int .i64 (K.behind l), .int .i64 (K.ahead l)]) ∧ Below X.heap.size X w') := fun X hX => yReach_any X _ l (R0.below hX)
  have HRr : Hid (∀ X, Below w.heap.size w X → Calls Try.prog 18 #[vl] X fun e w' => e = .returned (.tuple #[.int .i64 (K.behind l), .int .i64 (K.ahead l)]) ∧ Below X.heap.size X w') := fun X hX => rReach9_any X _ l (R0.below hX)
  have HSu : Hid (∀ X, Below w.heap.size w X → Calls Try.prog 19 #[vl] X fun e w' => e = .returned (.bool (K.sureB l)) ∧ Below X.heap.size X w') := fun X hX => ySure_any X _ l (R0.below hX)
  have HSr : Hid (∀ X, Below w.heap.size w X → Calls Try.prog 20 #[vl] X fun e w' => e = .returned (.bool (K.sureB l)) ∧ Below X.heap.size X w') := fun X hX => rSure9_any X _ l (R0.below hX)
  have HMs : Hid (∀ X, Below w.heap.size w X → Calls Try.prog 21 #[vl, .int .i64 i, .int .i64 j] X fun e w' => e = .returned (.tuple #[.bool (K.masksF l i j).1, .agg #[.int .i64 (K.masksF l i j).2.1, .int .i64 (K.masksF l i j).2.2]]) ∧ Below X.heap.size X w') := fun X hX => yMasks_any X _ l (R0.below hX) i j hi hj
  have HMd : Hid (∀ X, Below w.heap.size w X → Calls Try.prog 22 #[vl] X fun e w' => ∃ v', e = .returned (.tuple #[v', .agg #[.int .i64 (K.maskedF l).2.1, .int .i64 (K.maskedF l).2.2]]) ∧ L.Rd w' v' .i64 (K.maskedF l).1 ∧ Below X.heap.size X w') := fun X hX => yMasked_any X _ l (R0.below hX) hcap
  have HFi : Hid (∀ X, Below w.heap.size w X → Calls Try.prog 23 #[vl] X fun e w' => ∃ v', e = .returned (.tuple #[v', .agg #[.int .i64 (K.firstsF l).2.1, .int .i64 (K.firstsF l).2.2]]) ∧ S.Rd w' v' (K.firstsF l).1 ∧ Below X.heap.size X w' ∧ ((K.rulesF l).1 = 0 → ∃ s, S.Is (S.memb (K.firstsL l)) s)) := fun X hX => yFirsts_any X _ l (R0.below hX)
  have HSt : Hid (∀ X, Below w.heap.size w X → Calls Try.prog 24 #[vl] X fun e w' => e = .returned (.tuple #[.bool (K.steadyF l).1, .agg #[.int .i64 (K.steadyF l).2.1, .int .i64 (K.steadyF l).2.2]]) ∧ Below X.heap.size X w') := fun X hX => ySteady_any X _ l (R0.below hX)
  have HR : Hid (V.Rus w vl l) := R0
  have hll := R0.few
  have hI1 : -9223372036854775808 ≤ i := hi.1
  have hI2 : i ≤ 9223372036854775807 := hi.2
  have hJ1 : -9223372036854775808 ≤ j := hj.1
  have hJ2 : j ≤ 9223372036854775807 := hj.2
  obtain ⟨ao, cap, rfl⟩ := R0.len
  obtain ⟨⟨e1, e2⟩, hru⟩ : ∃ o, K.rulesF l = o := ⟨_, rfl⟩
  have HRU : Hid (K.rulesF l = (e1, e2)) := hru
  rw [hru] at HV
  obtain ⟨⟨m0, m1, m2⟩, HM⟩ : ∃ o, Hid (K.masksF l i j = o) := ⟨_, rfl⟩
  rw [HM.out] at HMs
  obtain ⟨⟨ml, n1, n2⟩, HN⟩ : ∃ o, Hid (K.maskedF l = o) := ⟨_, rfl⟩
  rw [HN.out] at HMd
  obtain ⟨⟨fl, f1, f2⟩, HF⟩ : ∃ o, Hid (K.firstsF l = o) := ⟨_, rfl⟩
  rw [HF.out] at HFi
  obtain ⟨⟨s0, s1, s2⟩, HS⟩ : ∃ o, Hid (K.steadyF l = o) := ⟨_, rfl⟩
  rw [HS.out] at HSt
  simp only at HV HMs HMd HFi HSt
  generalize K.behind l = B at HRe HRr
  generalize K.ahead l = A at HRe HRr
  generalize K.sureB l = su at HSu HSr
  clear hru R0 hcap hi hj
  go_enter Try.func6, Try.ntmps6
  go_wp2_with fail
  refine (HV.out _ (Below.refl _ _)).mono ?_
  rintro e w1 ⟨rfl, b1⟩
  obtain ⟨W1, hW1⟩ : ∃ W, W = w1.alloc (.cells #[.int .i64 e1, .int .i64 e2] 29) := ⟨_, rfl⟩
  have HB1 : Hid (Below w.heap.size w W1 ∧ W1.heap[w1.heap.size]? = some (.cells #[.int .i64 e1, .int .i64 e2] 29)) := ⟨by rw [hW1]; exact b1.alloc b1.size _, by rw [hW1]; exact heap_alloc_new w1 _⟩
  have hR1 := HRe.out W1 HB1.out.1
  clear b1 HV HRe
  go_wp2_with fail
  rw [← hW1]
  refine hR1.mono ?_
  rintro e w2 ⟨rfl, b2⟩
  have HB2 : Hid (Below w.heap.size w w2 ∧ w2.heap[w1.heap.size]? = some (.cells #[.int .i64 e1, .int .i64 e2] 29)) := ⟨HB1.out.1.trans (b2.mono HB1.out.1.size), K.blk_below HB1.out.2 b2⟩
  clear b2 hR1 hW1 HB1
  go_wp2_with fail
  refine (HRr.out _ HB2.out.1).mono ?_
  rintro e w3 ⟨rfl, b3⟩
  have HB3 : Hid (Below w.heap.size w w3 ∧ w3.heap[w1.heap.size]? = some (.cells #[.int .i64 e1, .int .i64 e2] 29)) := ⟨HB2.out.1.trans (b3.mono HB2.out.1.size), K.blk_below HB2.out.2 b3⟩
  clear b3 HRr HB2
  go_wp2_with fail
  refine (HSu.out _ HB3.out.1).mono ?_
  rintro e w4 ⟨rfl, b4⟩
  have HB4 : Hid (Below w.heap.size w w4 ∧ w4.heap[w1.heap.size]? = some (.cells #[.int .i64 e1, .int .i64 e2] 29)) := ⟨HB3.out.1.trans (b4.mono HB3.out.1.size), K.blk_below HB3.out.2 b4⟩
  clear b4 HSu HB3
  go_wp2_with fail
  refine (HSr.out _ HB4.out.1).mono ?_
  rintro e w5 ⟨rfl, b5⟩
  have HB5 : Hid (Below w.heap.size w w5 ∧ w5.heap[w1.heap.size]? = some (.cells #[.int .i64 e1, .int .i64 e2] 29)) := ⟨HB4.out.1.trans (b5.mono HB4.out.1.size), K.blk_below HB4.out.2 b5⟩
  clear b5 HSr HB4
  have hbq : (su == su) = true := beq_self_eq_true su
  cases su
  all_goals
    clear hbq
    go_wp2_with fail
    refine (HMs.out _ HB5.out.1).mono ?_
    rintro e w6 ⟨rfl, b6⟩
    obtain ⟨W6, hW6⟩ : ∃ W, W = w6.alloc (.cells #[.int .i64 m1, .int .i64 m2] 29) := ⟨_, rfl⟩
    have b6a : Below w5.heap.size w5 W6 := by rw [hW6]; exact b6.alloc b6.size _
    have HB6 : Hid (Below w.heap.size w W6 ∧ W6.heap[w1.heap.size]? = some (.cells #[.int .i64 e1, .int .i64 e2] 29) ∧ W6.heap[w6.heap.size]? = some (.cells #[.int .i64 m1, .int .i64 m2] 29)) := ⟨HB5.out.1.trans (b6a.mono HB5.out.1.size), K.blk_below HB5.out.2 b6a, by rw [hW6]; exact heap_alloc_new w6 _⟩
    have hMd := HMd.out W6 HB6.out.1
    clear b6 b6a HMs HMd
    go_wp2_with fail
    rw [← hW6]
    refine hMd.mono ?_
    rintro e w7 ⟨v7, rfl, d7, b7⟩
    obtain ⟨va7, vc7, rfl⟩ : ∃ a c, v7 = .slice a ml.length c := by obtain ⟨a, c, h, _⟩ := d7; exact ⟨a, c, h⟩
    obtain ⟨W7, hW7⟩ : ∃ W, W = w7.alloc (.cells #[.int .i64 n1, .int .i64 n2] 29) := ⟨_, rfl⟩
    have b7n : Below w7.heap.size w7 W7 := by rw [hW7]; exact (Below.refl _ w7).alloc (Nat.le_refl _) _
    have b7a : Below W6.heap.size W6 W7 := b7.trans (b7n.mono b7.size)
    have HB7 : Hid (Below w.heap.size w W7 ∧ W7.heap[w1.heap.size]? = some (.cells #[.int .i64 e1, .int .i64 e2] 29) ∧ W7.heap[w6.heap.size]? = some (.cells #[.int .i64 m1, .int .i64 m2] 29) ∧ W7.heap[w7.heap.size]? = some (.cells #[.int .i64 n1, .int .i64 n2] 29) ∧ L.Rd W7 (.slice va7 ml.length vc7) .i64 ml) := ⟨HB6.out.1.trans (b7a.mono HB6.out.1.size), K.blk_below HB6.out.2.1 b7a, K.blk_below HB6.out.2.2 b7a, by rw [hW7]; exact heap_alloc_new w7 _, d7.below b7n (Nat.le_refl _)⟩
    have hFi := HFi.out W7 HB7.out.1
    clear d7 b7 b7n b7a hMd hW6 HB6 HFi
    go_wp2_with fail
    rw [← hW7]
    refine hFi.mono ?_
    rintro e w8 ⟨v8, rfl, d8, b8, _⟩
    obtain ⟨va8, vc8, rfl⟩ : ∃ a c, v8 = .slice a fl.length c := by obtain ⟨a, c, h, _⟩ := d8; exact ⟨a, c, h⟩
    obtain ⟨W8, hW8⟩ : ∃ W, W = w8.alloc (.cells #[.int .i64 f1, .int .i64 f2] 29) := ⟨_, rfl⟩
    have b8n : Below w8.heap.size w8 W8 := by rw [hW8]; exact (Below.refl _ w8).alloc (Nat.le_refl _) _
    have b8a : Below W7.heap.size W7 W8 := b8.trans (b8n.mono b8.size)
    have HB8 : Hid (Below w.heap.size w W8 ∧ W8.heap[w1.heap.size]? = some (.cells #[.int .i64 e1, .int .i64 e2] 29) ∧ W8.heap[w6.heap.size]? = some (.cells #[.int .i64 m1, .int .i64 m2] 29) ∧ W8.heap[w7.heap.size]? = some (.cells #[.int .i64 n1, .int .i64 n2] 29) ∧ L.Rd W8 (.slice va7 ml.length vc7) .i64 ml ∧ W8.heap[w8.heap.size]? = some (.cells #[.int .i64 f1, .int .i64 f2] 29) ∧ S.Rd W8 (.slice va8 fl.length vc8) fl) := ⟨HB7.out.1.trans (b8a.mono HB7.out.1.size), K.blk_below HB7.out.2.1 b8a, K.blk_below HB7.out.2.2.1 b8a, K.blk_below HB7.out.2.2.2.1 b8a, HB7.out.2.2.2.2.below b8a (Nat.le_refl _), by rw [hW8]; exact heap_alloc_new w8 _, d8.below b8n (Nat.le_refl _)⟩
    have hSt := HSt.out W8 HB8.out.1
    clear d8 b8 b8n b8a hFi hW7 HB7 HSt
    go_wp2_with fail
    rw [← hW8]
    refine hSt.mono ?_
    rintro e w9 ⟨rfl, b9⟩
    obtain ⟨W9, hW9⟩ : ∃ W, W = w9.alloc (.cells #[.int .i64 s1, .int .i64 s2] 29) := ⟨_, rfl⟩
    have b9n : Below w9.heap.size w9 W9 := by rw [hW9]; exact (Below.refl _ w9).alloc (Nat.le_refl _) _
    have b9a : Below W8.heap.size W8 W9 := b9.trans (b9n.mono b9.size)
    have HB9 : Hid (Below w.heap.size w W9 ∧ W9.heap[w1.heap.size]? = some (.cells #[.int .i64 e1, .int .i64 e2] 29) ∧ W9.heap[w6.heap.size]? = some (.cells #[.int .i64 m1, .int .i64 m2] 29) ∧ W9.heap[w7.heap.size]? = some (.cells #[.int .i64 n1, .int .i64 n2] 29) ∧ L.Rd W9 (.slice va7 ml.length vc7) .i64 ml ∧ W9.heap[w8.heap.size]? = some (.cells #[.int .i64 f1, .int .i64 f2] 29) ∧ S.Rd W9 (.slice va8 fl.length vc8) fl ∧ W9.heap[w9.heap.size]? = some (.cells #[.int .i64 s1, .int .i64 s2] 29)) := ⟨HB8.out.1.trans (b9a.mono HB8.out.1.size), K.blk_below HB8.out.2.1 b9a, K.blk_below HB8.out.2.2.1 b9a, K.blk_below HB8.out.2.2.2.1 b9a, HB8.out.2.2.2.2.1.below b9a (Nat.le_refl _), K.blk_below HB8.out.2.2.2.2.2.1 b9a, HB8.out.2.2.2.2.2.2.below b9a (Nat.le_refl _), by rw [hW9]; exact heap_alloc_new w9 _⟩
    clear b9 b9n b9a hSt hW8 HB8 HB5
    obtain ⟨y0, y1, _, _⟩ := K.box2 HB9.out.2.1
    obtain ⟨y2, y3, _, _⟩ := K.box2 HB9.out.2.2.1
    obtain ⟨y4, y5, _, _⟩ := K.box2 HB9.out.2.2.2.1
    obtain ⟨y6, y7, _, _⟩ := K.box2 HB9.out.2.2.2.2.2.1
    obtain ⟨y8, y9, _, _⟩ := K.box2 HB9.out.2.2.2.2.2.2.2
    rw [hW9] at y0 y1 y2 y3 y4 y5 y6 y7 y8 y9
    by_cases he : e1 = 0
    · subst he
      have h0 : (K.rulesF l).1 = 0 := by rw [HRU.out]
      obtain ⟨hl200, hE, _⟩ := K.rulesF_zero h0
      have a2 := HN.out
      rw [K.maskedF_ok h0] at a2
      simp only [Prod.mk.injEq] at a2
      obtain ⟨a2, q1, q2⟩ := a2
      subst q1 q2
      have a3 := HF.out
      rw [K.firstsF_ok h0] at a3
      simp only [Prod.mk.injEq] at a3
      obtain ⟨a3, a4, q3⟩ := a3
      subst q3
      have hml : ml.length ≤ 200 := by rw [← a2]; exact Nat.le_trans (K.maskedN_len l l.length) hl200
      have hfl : fl.length ≤ 200 := by rw [← a3]; exact K.resL_len
      have HRM : Hid (∀ X, Below w.heap.size w X → Calls Try.prog 29 #[.slice ao l.length cap] X fun e w' => ∃ v', e = .returned v' ∧ L.Rd w' v' .i64 ml ∧ Below X.heap.size X w') := fun X hX => by have h := rMasked9_any X _ l (HR.out.below hX) hl200 hE; rw [a2] at h; exact h
      have HRF : Hid (∀ X, Below w.heap.size w X → Calls Try.prog 26 #[.slice ao l.length cap] X fun e w' => ∃ v', e = .returned (.tuple #[v', .int .i64 f1]) ∧ S.Rd w' v' fl ∧ Below X.heap.size X w') := fun X hX => (rFirsts9_any X _ l (HR.out.below hX) hl200 hE).mono fun e w' h => by
        obtain ⟨v', h1, h2, h3, _⟩ := h
        rw [a4] at h1
        rw [a3] at h2
        exact ⟨v', h1, h2, h3⟩
      have HRS : Hid (∀ X, Below w.heap.size w X → Calls Try.prog 27 #[.slice ao l.length cap] X fun e w' => e = .returned (.tuple #[.bool s0, .agg #[.int .i64 s1, .int .i64 s2]]) ∧ Below X.heap.size X w') := fun X hX => by have h := rSteady9_any X _ l (HR.out.below hX) h0; rw [HS.out] at h; exact h
      have HMk : Hid (∀ X va vb a b, K.RuIs X va a → K.RuIs X vb b → a ∈ l → b ∈ l → Calls Try.prog 25 #[va, vb] X fun e w' => e = .returned (.bool (K.masksB a b)) ∧ Below X.heap.size X w') := fun X va vb a b ra rb ha hb => rMasks9_any X va vb a b ra rb (hE a ha) (hE b hb)
      have HBt : Hid (Below w.heap.size w W9 ∧ W9.heap[w7.heap.size]? = some (.cells #[.int .i64 0, .int .i64 0] 29) ∧ W9.heap[w8.heap.size]? = some (.cells #[.int .i64 f1, .int .i64 0] 29) ∧ W9.heap[w9.heap.size]? = some (.cells #[.int .i64 s1, .int .i64 s2] 29)) := ⟨HB9.out.1, HB9.out.2.2.2.1, HB9.out.2.2.2.2.2.1, HB9.out.2.2.2.2.2.2.2⟩
      have HDt : Hid (L.Rd W9 (.slice va7 ml.length vc7) .i64 ml ∧ S.Rd W9 (.slice va8 fl.length vc8) fl) := ⟨HB9.out.2.2.2.2.1, HB9.out.2.2.2.2.2.2.1⟩
      have a1 := HM.out
      unfold K.masksF at a1
      rw [if_pos h0] at a1
      clear a2 a3 a4 hE h0 HN HF HS HM HRU
      by_cases hkr : i < 0 ∨ j < 0 ∨ (l.length : Int) ≤ i ∨ (l.length : Int) ≤ j
      · rw [if_pos hkr] at a1
        simp only [Prod.mk.injEq] at a1
        obtain ⟨rfl, rfl, rfl⟩ := a1
        clear HMk
        by_cases c1 : i < 0
        · clear hkr
          have hF9 := HRF.out W9 HBt.out.1
          clear HRF
          go_wp2_with fail
          rw [← hW9]
          refine hF9.mono ?_
          rintro e x1 ⟨v1, rfl, d1, g1⟩
          obtain ⟨va1, vc1, rfl⟩ : ∃ a c, v1 = .slice a fl.length c := by obtain ⟨a, c, h, _⟩ := d1; exact ⟨a, c, h⟩
          have HX1 : Hid (Below w.heap.size w x1 ∧ x1.heap[w7.heap.size]? = some (.cells #[.int .i64 0, .int .i64 0] 29) ∧ x1.heap[w8.heap.size]? = some (.cells #[.int .i64 f1, .int .i64 0] 29) ∧ x1.heap[w9.heap.size]? = some (.cells #[.int .i64 s1, .int .i64 s2] 29)) := ⟨HBt.out.1.trans (g1.mono HBt.out.1.size), K.blk_below HBt.out.2.1 g1, K.blk_below HBt.out.2.2.1 g1, K.blk_below HBt.out.2.2.2 g1⟩
          have HD1 : Hid (L.Rd x1 (.slice va7 ml.length vc7) .i64 ml ∧ S.Rd x1 (.slice va8 fl.length vc8) fl ∧ S.Rd x1 (.slice va1 fl.length vc1) fl) := ⟨HDt.out.1.below g1 (Nat.le_refl _), HDt.out.2.below g1 (Nat.le_refl _), d1⟩
          clear hF9 d1 g1 y0 y1 y2 y3 y4 y5 y6 y7 y8 y9 hW9 HB9 HBt HDt
          go_wp2_with fail
          refine (HRS.out x1 HX1.out.1).mono ?_
          rintro e x2 ⟨rfl, g2⟩
          obtain ⟨X2, hX2⟩ : ∃ X, X = x2.alloc (.cells #[.int .i64 s1, .int .i64 s2] 29) := ⟨_, rfl⟩
          have g2n : Below x2.heap.size x2 X2 := by rw [hX2]; exact (Below.refl _ x2).alloc (Nat.le_refl _) _
          have g2a : Below x1.heap.size x1 X2 := g2.trans (g2n.mono g2.size)
          have HX2 : Hid (Below w.heap.size w X2 ∧ X2.heap[w7.heap.size]? = some (.cells #[.int .i64 0, .int .i64 0] 29) ∧ X2.heap[w8.heap.size]? = some (.cells #[.int .i64 f1, .int .i64 0] 29) ∧ X2.heap[w9.heap.size]? = some (.cells #[.int .i64 s1, .int .i64 s2] 29)) := ⟨HX1.out.1.trans (g2a.mono HX1.out.1.size), K.blk_below HX1.out.2.1 g2a, K.blk_below HX1.out.2.2.1 g2a, K.blk_below HX1.out.2.2.2 g2a⟩
          have HY2 : Hid (X2.heap[x2.heap.size]? = some (.cells #[.int .i64 s1, .int .i64 s2] 29)) := by show X2.heap[x2.heap.size]? = _; rw [hX2]; exact heap_alloc_new x2 _
          have HD2 : Hid (L.Rd X2 (.slice va7 ml.length vc7) .i64 ml ∧ S.Rd X2 (.slice va8 fl.length vc8) fl ∧ S.Rd X2 (.slice va1 fl.length vc1) fl) := ⟨HD1.out.1.below g2a (Nat.le_refl _), HD1.out.2.1.below g2a (Nat.le_refl _), HD1.out.2.2.below g2a (Nat.le_refl _)⟩
          have hM9 := HRM.out X2 HX2.out.1
          have z4 := K.at_box (i := 0) HX2.out.2.1 rfl
          rw [hX2] at z4
          clear g2 g2n g2a HX1 HD1 HRS HRM
          go_wp2_with fail
          rw [← hX2]
          refine hM9.mono ?_
          rintro e x3 ⟨v3, rfl, d3, g3⟩
          obtain ⟨va3, vc3, rfl⟩ : ∃ a c, v3 = .slice a ml.length c := by obtain ⟨a, c, h, _⟩ := d3; exact ⟨a, c, h⟩
          have HX3 : Hid (Below w.heap.size w x3 ∧ x3.heap[w7.heap.size]? = some (.cells #[.int .i64 0, .int .i64 0] 29) ∧ x3.heap[w8.heap.size]? = some (.cells #[.int .i64 f1, .int .i64 0] 29) ∧ x3.heap[w9.heap.size]? = some (.cells #[.int .i64 s1, .int .i64 s2] 29)) := ⟨HX2.out.1.trans (g3.mono HX2.out.1.size), K.blk_below HX2.out.2.1 g3, K.blk_below HX2.out.2.2.1 g3, K.blk_below HX2.out.2.2.2 g3⟩
          have HY3 : Hid (x3.heap[x2.heap.size]? = some (.cells #[.int .i64 s1, .int .i64 s2] 29)) := K.blk_below HY2.out g3
          have HD3 : Hid (S.Rd x3 (.slice va8 fl.length vc8) fl ∧ S.Rd x3 (.slice va1 fl.length vc1) fl) := ⟨HD2.out.2.1.below g3 (Nat.le_refl _), HD2.out.2.2.below g3 (Nat.le_refl _)⟩
          have hSm := rSame9_any x3 (.slice va7 ml.length vc7) (.slice va3 ml.length vc3) ml ml (HD2.out.1.below g3 (Nat.le_refl _)) d3 (by omega) (by omega)
          rw [decide_eq_true (rfl : ml = ml)] at hSm
          clear z4 hX2 d3 g3 HX2 HY2 HD2 hM9
          go_wp2_with fail
          refine hSm.mono ?_
          rintro e x4 ⟨rfl, g4⟩
          have HX4 : Hid (Below w.heap.size w x4 ∧ x4.heap[w7.heap.size]? = some (.cells #[.int .i64 0, .int .i64 0] 29) ∧ x4.heap[w8.heap.size]? = some (.cells #[.int .i64 f1, .int .i64 0] 29) ∧ x4.heap[w9.heap.size]? = some (.cells #[.int .i64 s1, .int .i64 s2] 29)) := ⟨HX3.out.1.trans (g4.mono HX3.out.1.size), K.blk_below HX3.out.2.1 g4, K.blk_below HX3.out.2.2.1 g4, K.blk_below HX3.out.2.2.2 g4⟩
          have HY4 : Hid (x4.heap[x2.heap.size]? = some (.cells #[.int .i64 s1, .int .i64 s2] 29)) := K.blk_below HY3.out g4
          have hSs := ssame_any x4 (.slice va8 fl.length vc8) (.slice va1 fl.length vc1) fl fl (HD3.out.1.below g4 (Nat.le_refl _)) (HD3.out.2.below g4 (Nat.le_refl _)) (by omega) (by omega)
          rw [decide_eq_true (rfl : fl = fl)] at hSs
          obtain ⟨z6, z7, _, _⟩ := K.box2 HX4.out.2.2.1
          clear g4 HX3 HY3 HD3 hSm
          go_wp2_with fail
          refine hSs.mono ?_
          rintro e x5 ⟨rfl, g5⟩
          obtain ⟨z8, z9, _, _⟩ := K.box2 (K.blk_below HX4.out.2.2.2 g5)
          obtain ⟨u8, u9, _, _⟩ := K.box2 (K.blk_below HY4.out g5)
          have HX5 : Hid (Below w.heap.size w x5) := HX4.out.1.trans (g5.mono HX4.out.1.size)
          clear g5 z6 z7 HX4 HY4 hSs
          cases s0
          all_goals
            go_wp2
            go_ret
            exact ⟨by simp, HX5.out⟩
        · by_cases c2 : j < 0
          · clear hkr
            have hF9 := HRF.out W9 HBt.out.1
            clear HRF
            go_wp2_with fail
            rw [← hW9]
            refine hF9.mono ?_
            rintro e x1 ⟨v1, rfl, d1, g1⟩
            obtain ⟨va1, vc1, rfl⟩ : ∃ a c, v1 = .slice a fl.length c := by obtain ⟨a, c, h, _⟩ := d1; exact ⟨a, c, h⟩
            have HX1 : Hid (Below w.heap.size w x1 ∧ x1.heap[w7.heap.size]? = some (.cells #[.int .i64 0, .int .i64 0] 29) ∧ x1.heap[w8.heap.size]? = some (.cells #[.int .i64 f1, .int .i64 0] 29) ∧ x1.heap[w9.heap.size]? = some (.cells #[.int .i64 s1, .int .i64 s2] 29)) := ⟨HBt.out.1.trans (g1.mono HBt.out.1.size), K.blk_below HBt.out.2.1 g1, K.blk_below HBt.out.2.2.1 g1, K.blk_below HBt.out.2.2.2 g1⟩
            have HD1 : Hid (L.Rd x1 (.slice va7 ml.length vc7) .i64 ml ∧ S.Rd x1 (.slice va8 fl.length vc8) fl ∧ S.Rd x1 (.slice va1 fl.length vc1) fl) := ⟨HDt.out.1.below g1 (Nat.le_refl _), HDt.out.2.below g1 (Nat.le_refl _), d1⟩
            clear hF9 d1 g1 y0 y1 y2 y3 y4 y5 y6 y7 y8 y9 hW9 HB9 HBt HDt
            go_wp2_with fail
            refine (HRS.out x1 HX1.out.1).mono ?_
            rintro e x2 ⟨rfl, g2⟩
            obtain ⟨X2, hX2⟩ : ∃ X, X = x2.alloc (.cells #[.int .i64 s1, .int .i64 s2] 29) := ⟨_, rfl⟩
            have g2n : Below x2.heap.size x2 X2 := by rw [hX2]; exact (Below.refl _ x2).alloc (Nat.le_refl _) _
            have g2a : Below x1.heap.size x1 X2 := g2.trans (g2n.mono g2.size)
            have HX2 : Hid (Below w.heap.size w X2 ∧ X2.heap[w7.heap.size]? = some (.cells #[.int .i64 0, .int .i64 0] 29) ∧ X2.heap[w8.heap.size]? = some (.cells #[.int .i64 f1, .int .i64 0] 29) ∧ X2.heap[w9.heap.size]? = some (.cells #[.int .i64 s1, .int .i64 s2] 29)) := ⟨HX1.out.1.trans (g2a.mono HX1.out.1.size), K.blk_below HX1.out.2.1 g2a, K.blk_below HX1.out.2.2.1 g2a, K.blk_below HX1.out.2.2.2 g2a⟩
            have HY2 : Hid (X2.heap[x2.heap.size]? = some (.cells #[.int .i64 s1, .int .i64 s2] 29)) := by show X2.heap[x2.heap.size]? = _; rw [hX2]; exact heap_alloc_new x2 _
            have HD2 : Hid (L.Rd X2 (.slice va7 ml.length vc7) .i64 ml ∧ S.Rd X2 (.slice va8 fl.length vc8) fl ∧ S.Rd X2 (.slice va1 fl.length vc1) fl) := ⟨HD1.out.1.below g2a (Nat.le_refl _), HD1.out.2.1.below g2a (Nat.le_refl _), HD1.out.2.2.below g2a (Nat.le_refl _)⟩
            have hM9 := HRM.out X2 HX2.out.1
            have z4 := K.at_box (i := 0) HX2.out.2.1 rfl
            rw [hX2] at z4
            clear g2 g2n g2a HX1 HD1 HRS HRM
            go_wp2_with fail
            rw [← hX2]
            refine hM9.mono ?_
            rintro e x3 ⟨v3, rfl, d3, g3⟩
            obtain ⟨va3, vc3, rfl⟩ : ∃ a c, v3 = .slice a ml.length c := by obtain ⟨a, c, h, _⟩ := d3; exact ⟨a, c, h⟩
            have HX3 : Hid (Below w.heap.size w x3 ∧ x3.heap[w7.heap.size]? = some (.cells #[.int .i64 0, .int .i64 0] 29) ∧ x3.heap[w8.heap.size]? = some (.cells #[.int .i64 f1, .int .i64 0] 29) ∧ x3.heap[w9.heap.size]? = some (.cells #[.int .i64 s1, .int .i64 s2] 29)) := ⟨HX2.out.1.trans (g3.mono HX2.out.1.size), K.blk_below HX2.out.2.1 g3, K.blk_below HX2.out.2.2.1 g3, K.blk_below HX2.out.2.2.2 g3⟩
            have HY3 : Hid (x3.heap[x2.heap.size]? = some (.cells #[.int .i64 s1, .int .i64 s2] 29)) := K.blk_below HY2.out g3
            have HD3 : Hid (S.Rd x3 (.slice va8 fl.length vc8) fl ∧ S.Rd x3 (.slice va1 fl.length vc1) fl) := ⟨HD2.out.2.1.below g3 (Nat.le_refl _), HD2.out.2.2.below g3 (Nat.le_refl _)⟩
            have hSm := rSame9_any x3 (.slice va7 ml.length vc7) (.slice va3 ml.length vc3) ml ml (HD2.out.1.below g3 (Nat.le_refl _)) d3 (by omega) (by omega)
            rw [decide_eq_true (rfl : ml = ml)] at hSm
            clear z4 hX2 d3 g3 HX2 HY2 HD2 hM9
            go_wp2_with fail
            refine hSm.mono ?_
            rintro e x4 ⟨rfl, g4⟩
            have HX4 : Hid (Below w.heap.size w x4 ∧ x4.heap[w7.heap.size]? = some (.cells #[.int .i64 0, .int .i64 0] 29) ∧ x4.heap[w8.heap.size]? = some (.cells #[.int .i64 f1, .int .i64 0] 29) ∧ x4.heap[w9.heap.size]? = some (.cells #[.int .i64 s1, .int .i64 s2] 29)) := ⟨HX3.out.1.trans (g4.mono HX3.out.1.size), K.blk_below HX3.out.2.1 g4, K.blk_below HX3.out.2.2.1 g4, K.blk_below HX3.out.2.2.2 g4⟩
            have HY4 : Hid (x4.heap[x2.heap.size]? = some (.cells #[.int .i64 s1, .int .i64 s2] 29)) := K.blk_below HY3.out g4
            have hSs := ssame_any x4 (.slice va8 fl.length vc8) (.slice va1 fl.length vc1) fl fl (HD3.out.1.below g4 (Nat.le_refl _)) (HD3.out.2.below g4 (Nat.le_refl _)) (by omega) (by omega)
            rw [decide_eq_true (rfl : fl = fl)] at hSs
            obtain ⟨z6, z7, _, _⟩ := K.box2 HX4.out.2.2.1
            clear g4 HX3 HY3 HD3 hSm
            go_wp2_with fail
            refine hSs.mono ?_
            rintro e x5 ⟨rfl, g5⟩
            obtain ⟨z8, z9, _, _⟩ := K.box2 (K.blk_below HX4.out.2.2.2 g5)
            obtain ⟨u8, u9, _, _⟩ := K.box2 (K.blk_below HY4.out g5)
            have HX5 : Hid (Below w.heap.size w x5) := HX4.out.1.trans (g5.mono HX4.out.1.size)
            clear g5 z6 z7 HX4 HY4 hSs
            cases s0
            all_goals
              go_wp2
              go_ret
              exact ⟨by simp, HX5.out⟩
          · by_cases c3 : (l.length : Int) ≤ i
            · clear hkr
              have hF9 := HRF.out W9 HBt.out.1
              clear HRF
              go_wp2_with fail
              rw [← hW9]
              refine hF9.mono ?_
              rintro e x1 ⟨v1, rfl, d1, g1⟩
              obtain ⟨va1, vc1, rfl⟩ : ∃ a c, v1 = .slice a fl.length c := by obtain ⟨a, c, h, _⟩ := d1; exact ⟨a, c, h⟩
              have HX1 : Hid (Below w.heap.size w x1 ∧ x1.heap[w7.heap.size]? = some (.cells #[.int .i64 0, .int .i64 0] 29) ∧ x1.heap[w8.heap.size]? = some (.cells #[.int .i64 f1, .int .i64 0] 29) ∧ x1.heap[w9.heap.size]? = some (.cells #[.int .i64 s1, .int .i64 s2] 29)) := ⟨HBt.out.1.trans (g1.mono HBt.out.1.size), K.blk_below HBt.out.2.1 g1, K.blk_below HBt.out.2.2.1 g1, K.blk_below HBt.out.2.2.2 g1⟩
              have HD1 : Hid (L.Rd x1 (.slice va7 ml.length vc7) .i64 ml ∧ S.Rd x1 (.slice va8 fl.length vc8) fl ∧ S.Rd x1 (.slice va1 fl.length vc1) fl) := ⟨HDt.out.1.below g1 (Nat.le_refl _), HDt.out.2.below g1 (Nat.le_refl _), d1⟩
              clear hF9 d1 g1 y0 y1 y2 y3 y4 y5 y6 y7 y8 y9 hW9 HB9 HBt HDt
              go_wp2_with fail
              refine (HRS.out x1 HX1.out.1).mono ?_
              rintro e x2 ⟨rfl, g2⟩
              obtain ⟨X2, hX2⟩ : ∃ X, X = x2.alloc (.cells #[.int .i64 s1, .int .i64 s2] 29) := ⟨_, rfl⟩
              have g2n : Below x2.heap.size x2 X2 := by rw [hX2]; exact (Below.refl _ x2).alloc (Nat.le_refl _) _
              have g2a : Below x1.heap.size x1 X2 := g2.trans (g2n.mono g2.size)
              have HX2 : Hid (Below w.heap.size w X2 ∧ X2.heap[w7.heap.size]? = some (.cells #[.int .i64 0, .int .i64 0] 29) ∧ X2.heap[w8.heap.size]? = some (.cells #[.int .i64 f1, .int .i64 0] 29) ∧ X2.heap[w9.heap.size]? = some (.cells #[.int .i64 s1, .int .i64 s2] 29)) := ⟨HX1.out.1.trans (g2a.mono HX1.out.1.size), K.blk_below HX1.out.2.1 g2a, K.blk_below HX1.out.2.2.1 g2a, K.blk_below HX1.out.2.2.2 g2a⟩
              have HY2 : Hid (X2.heap[x2.heap.size]? = some (.cells #[.int .i64 s1, .int .i64 s2] 29)) := by show X2.heap[x2.heap.size]? = _; rw [hX2]; exact heap_alloc_new x2 _
              have HD2 : Hid (L.Rd X2 (.slice va7 ml.length vc7) .i64 ml ∧ S.Rd X2 (.slice va8 fl.length vc8) fl ∧ S.Rd X2 (.slice va1 fl.length vc1) fl) := ⟨HD1.out.1.below g2a (Nat.le_refl _), HD1.out.2.1.below g2a (Nat.le_refl _), HD1.out.2.2.below g2a (Nat.le_refl _)⟩
              have hM9 := HRM.out X2 HX2.out.1
              have z4 := K.at_box (i := 0) HX2.out.2.1 rfl
              rw [hX2] at z4
              clear g2 g2n g2a HX1 HD1 HRS HRM
              go_wp2_with fail
              rw [← hX2]
              refine hM9.mono ?_
              rintro e x3 ⟨v3, rfl, d3, g3⟩
              obtain ⟨va3, vc3, rfl⟩ : ∃ a c, v3 = .slice a ml.length c := by obtain ⟨a, c, h, _⟩ := d3; exact ⟨a, c, h⟩
              have HX3 : Hid (Below w.heap.size w x3 ∧ x3.heap[w7.heap.size]? = some (.cells #[.int .i64 0, .int .i64 0] 29) ∧ x3.heap[w8.heap.size]? = some (.cells #[.int .i64 f1, .int .i64 0] 29) ∧ x3.heap[w9.heap.size]? = some (.cells #[.int .i64 s1, .int .i64 s2] 29)) := ⟨HX2.out.1.trans (g3.mono HX2.out.1.size), K.blk_below HX2.out.2.1 g3, K.blk_below HX2.out.2.2.1 g3, K.blk_below HX2.out.2.2.2 g3⟩
              have HY3 : Hid (x3.heap[x2.heap.size]? = some (.cells #[.int .i64 s1, .int .i64 s2] 29)) := K.blk_below HY2.out g3
              have HD3 : Hid (S.Rd x3 (.slice va8 fl.length vc8) fl ∧ S.Rd x3 (.slice va1 fl.length vc1) fl) := ⟨HD2.out.2.1.below g3 (Nat.le_refl _), HD2.out.2.2.below g3 (Nat.le_refl _)⟩
              have hSm := rSame9_any x3 (.slice va7 ml.length vc7) (.slice va3 ml.length vc3) ml ml (HD2.out.1.below g3 (Nat.le_refl _)) d3 (by omega) (by omega)
              rw [decide_eq_true (rfl : ml = ml)] at hSm
              clear z4 hX2 d3 g3 HX2 HY2 HD2 hM9
              go_wp2_with fail
              refine hSm.mono ?_
              rintro e x4 ⟨rfl, g4⟩
              have HX4 : Hid (Below w.heap.size w x4 ∧ x4.heap[w7.heap.size]? = some (.cells #[.int .i64 0, .int .i64 0] 29) ∧ x4.heap[w8.heap.size]? = some (.cells #[.int .i64 f1, .int .i64 0] 29) ∧ x4.heap[w9.heap.size]? = some (.cells #[.int .i64 s1, .int .i64 s2] 29)) := ⟨HX3.out.1.trans (g4.mono HX3.out.1.size), K.blk_below HX3.out.2.1 g4, K.blk_below HX3.out.2.2.1 g4, K.blk_below HX3.out.2.2.2 g4⟩
              have HY4 : Hid (x4.heap[x2.heap.size]? = some (.cells #[.int .i64 s1, .int .i64 s2] 29)) := K.blk_below HY3.out g4
              have hSs := ssame_any x4 (.slice va8 fl.length vc8) (.slice va1 fl.length vc1) fl fl (HD3.out.1.below g4 (Nat.le_refl _)) (HD3.out.2.below g4 (Nat.le_refl _)) (by omega) (by omega)
              rw [decide_eq_true (rfl : fl = fl)] at hSs
              obtain ⟨z6, z7, _, _⟩ := K.box2 HX4.out.2.2.1
              clear g4 HX3 HY3 HD3 hSm
              go_wp2_with fail
              refine hSs.mono ?_
              rintro e x5 ⟨rfl, g5⟩
              obtain ⟨z8, z9, _, _⟩ := K.box2 (K.blk_below HX4.out.2.2.2 g5)
              obtain ⟨u8, u9, _, _⟩ := K.box2 (K.blk_below HY4.out g5)
              have HX5 : Hid (Below w.heap.size w x5) := HX4.out.1.trans (g5.mono HX4.out.1.size)
              clear g5 z6 z7 HX4 HY4 hSs
              cases s0
              all_goals
                go_wp2
                go_ret
                exact ⟨by simp, HX5.out⟩
            · have c4 : (l.length : Int) ≤ j := by omega
              clear hkr
              have hF9 := HRF.out W9 HBt.out.1
              clear HRF
              go_wp2_with fail
              rw [← hW9]
              refine hF9.mono ?_
              rintro e x1 ⟨v1, rfl, d1, g1⟩
              obtain ⟨va1, vc1, rfl⟩ : ∃ a c, v1 = .slice a fl.length c := by obtain ⟨a, c, h, _⟩ := d1; exact ⟨a, c, h⟩
              have HX1 : Hid (Below w.heap.size w x1 ∧ x1.heap[w7.heap.size]? = some (.cells #[.int .i64 0, .int .i64 0] 29) ∧ x1.heap[w8.heap.size]? = some (.cells #[.int .i64 f1, .int .i64 0] 29) ∧ x1.heap[w9.heap.size]? = some (.cells #[.int .i64 s1, .int .i64 s2] 29)) := ⟨HBt.out.1.trans (g1.mono HBt.out.1.size), K.blk_below HBt.out.2.1 g1, K.blk_below HBt.out.2.2.1 g1, K.blk_below HBt.out.2.2.2 g1⟩
              have HD1 : Hid (L.Rd x1 (.slice va7 ml.length vc7) .i64 ml ∧ S.Rd x1 (.slice va8 fl.length vc8) fl ∧ S.Rd x1 (.slice va1 fl.length vc1) fl) := ⟨HDt.out.1.below g1 (Nat.le_refl _), HDt.out.2.below g1 (Nat.le_refl _), d1⟩
              clear hF9 d1 g1 y0 y1 y2 y3 y4 y5 y6 y7 y8 y9 hW9 HB9 HBt HDt
              go_wp2_with fail
              refine (HRS.out x1 HX1.out.1).mono ?_
              rintro e x2 ⟨rfl, g2⟩
              obtain ⟨X2, hX2⟩ : ∃ X, X = x2.alloc (.cells #[.int .i64 s1, .int .i64 s2] 29) := ⟨_, rfl⟩
              have g2n : Below x2.heap.size x2 X2 := by rw [hX2]; exact (Below.refl _ x2).alloc (Nat.le_refl _) _
              have g2a : Below x1.heap.size x1 X2 := g2.trans (g2n.mono g2.size)
              have HX2 : Hid (Below w.heap.size w X2 ∧ X2.heap[w7.heap.size]? = some (.cells #[.int .i64 0, .int .i64 0] 29) ∧ X2.heap[w8.heap.size]? = some (.cells #[.int .i64 f1, .int .i64 0] 29) ∧ X2.heap[w9.heap.size]? = some (.cells #[.int .i64 s1, .int .i64 s2] 29)) := ⟨HX1.out.1.trans (g2a.mono HX1.out.1.size), K.blk_below HX1.out.2.1 g2a, K.blk_below HX1.out.2.2.1 g2a, K.blk_below HX1.out.2.2.2 g2a⟩
              have HY2 : Hid (X2.heap[x2.heap.size]? = some (.cells #[.int .i64 s1, .int .i64 s2] 29)) := by show X2.heap[x2.heap.size]? = _; rw [hX2]; exact heap_alloc_new x2 _
              have HD2 : Hid (L.Rd X2 (.slice va7 ml.length vc7) .i64 ml ∧ S.Rd X2 (.slice va8 fl.length vc8) fl ∧ S.Rd X2 (.slice va1 fl.length vc1) fl) := ⟨HD1.out.1.below g2a (Nat.le_refl _), HD1.out.2.1.below g2a (Nat.le_refl _), HD1.out.2.2.below g2a (Nat.le_refl _)⟩
              have hM9 := HRM.out X2 HX2.out.1
              have z4 := K.at_box (i := 0) HX2.out.2.1 rfl
              rw [hX2] at z4
              clear g2 g2n g2a HX1 HD1 HRS HRM
              go_wp2_with fail
              rw [← hX2]
              refine hM9.mono ?_
              rintro e x3 ⟨v3, rfl, d3, g3⟩
              obtain ⟨va3, vc3, rfl⟩ : ∃ a c, v3 = .slice a ml.length c := by obtain ⟨a, c, h, _⟩ := d3; exact ⟨a, c, h⟩
              have HX3 : Hid (Below w.heap.size w x3 ∧ x3.heap[w7.heap.size]? = some (.cells #[.int .i64 0, .int .i64 0] 29) ∧ x3.heap[w8.heap.size]? = some (.cells #[.int .i64 f1, .int .i64 0] 29) ∧ x3.heap[w9.heap.size]? = some (.cells #[.int .i64 s1, .int .i64 s2] 29)) := ⟨HX2.out.1.trans (g3.mono HX2.out.1.size), K.blk_below HX2.out.2.1 g3, K.blk_below HX2.out.2.2.1 g3, K.blk_below HX2.out.2.2.2 g3⟩
              have HY3 : Hid (x3.heap[x2.heap.size]? = some (.cells #[.int .i64 s1, .int .i64 s2] 29)) := K.blk_below HY2.out g3
              have HD3 : Hid (S.Rd x3 (.slice va8 fl.length vc8) fl ∧ S.Rd x3 (.slice va1 fl.length vc1) fl) := ⟨HD2.out.2.1.below g3 (Nat.le_refl _), HD2.out.2.2.below g3 (Nat.le_refl _)⟩
              have hSm := rSame9_any x3 (.slice va7 ml.length vc7) (.slice va3 ml.length vc3) ml ml (HD2.out.1.below g3 (Nat.le_refl _)) d3 (by omega) (by omega)
              rw [decide_eq_true (rfl : ml = ml)] at hSm
              clear z4 hX2 d3 g3 HX2 HY2 HD2 hM9
              go_wp2_with fail
              refine hSm.mono ?_
              rintro e x4 ⟨rfl, g4⟩
              have HX4 : Hid (Below w.heap.size w x4 ∧ x4.heap[w7.heap.size]? = some (.cells #[.int .i64 0, .int .i64 0] 29) ∧ x4.heap[w8.heap.size]? = some (.cells #[.int .i64 f1, .int .i64 0] 29) ∧ x4.heap[w9.heap.size]? = some (.cells #[.int .i64 s1, .int .i64 s2] 29)) := ⟨HX3.out.1.trans (g4.mono HX3.out.1.size), K.blk_below HX3.out.2.1 g4, K.blk_below HX3.out.2.2.1 g4, K.blk_below HX3.out.2.2.2 g4⟩
              have HY4 : Hid (x4.heap[x2.heap.size]? = some (.cells #[.int .i64 s1, .int .i64 s2] 29)) := K.blk_below HY3.out g4
              have hSs := ssame_any x4 (.slice va8 fl.length vc8) (.slice va1 fl.length vc1) fl fl (HD3.out.1.below g4 (Nat.le_refl _)) (HD3.out.2.below g4 (Nat.le_refl _)) (by omega) (by omega)
              rw [decide_eq_true (rfl : fl = fl)] at hSs
              obtain ⟨z6, z7, _, _⟩ := K.box2 HX4.out.2.2.1
              clear g4 HX3 HY3 HD3 hSm
              go_wp2_with fail
              refine hSs.mono ?_
              rintro e x5 ⟨rfl, g5⟩
              obtain ⟨z8, z9, _, _⟩ := K.box2 (K.blk_below HX4.out.2.2.2 g5)
              obtain ⟨u8, u9, _, _⟩ := K.box2 (K.blk_below HY4.out g5)
              have HX5 : Hid (Below w.heap.size w x5) := HX4.out.1.trans (g5.mono HX4.out.1.size)
              clear g5 z6 z7 HX4 HY4 hSs
              cases s0
              all_goals
                go_wp2
                go_ret
                exact ⟨by simp, HX5.out⟩
      · rw [if_neg hkr] at a1
        obtain ⟨i', rfl⟩ : ∃ i' : Nat, i = i' := ⟨i.toNat, by omega⟩
        obtain ⟨j', rfl⟩ : ∃ j' : Nat, j = j' := ⟨j.toNat, by omega⟩
        have hi2 : i' < l.length := by omega
        have hj2 : j' < l.length := by omega
        have c1 : ¬ (i' : Int) < 0 := by omega
        have c2 : ¬ (j' : Int) < 0 := by omega
        have c3 : ¬ (l.length : Int) ≤ i' := by omega
        have c4 : ¬ (l.length : Int) ≤ j' := by omega
        obtain ⟨a, ha⟩ : ∃ x, l[i']? = some x := ⟨l[i'], by simp [hi2]⟩
        obtain ⟨b, hb⟩ : ∃ x, l[j']? = some x := ⟨l[j'], by simp [hj2]⟩
        rw [Int.toNat_natCast, Int.toNat_natCast, ha, hb] at a1
        simp only [Option.getD_some, Prod.mk.injEq] at a1
        obtain ⟨hmm, rfl, rfl⟩ := a1
        obtain ⟨ba, oa, abo, abc, aso, asc, aao, aac, ato, atc, rfl, a0, a1, a2, a3, a4, a5, a6, hA⟩ := K.Rus.rule (HR.out.below HB9.out.1) ha
        obtain ⟨bb, ob, bbo, bbc, bso, bsc, bao, bac, bto, btc, heq, b0, b1, b2, b3, b4, b5, b6, hBb⟩ := K.Rus.rule (HR.out.below HB9.out.1) hb
        cases heq
        have hba := L.block_lt a0
        have HCm : Hid (∀ W, Below W9.heap.size W9 W → Calls Try.prog 25 #[.agg #[.bool a.start, .bool a.fin, .slice abo a.before.length abc, .slice aso a.source.length asc, .slice aao a.after.length aac, .slice ato a.target.length atc, .int .i64 a.cursor], .agg #[.bool b.start, .bool b.fin, .slice bbo b.before.length bbc, .slice bso b.source.length bsc, .slice bao b.after.length bac, .slice bto b.target.length btc, .int .i64 b.cursor]] W fun e w' => e = .returned (.bool m0) ∧ Below W.heap.size W w') := fun W hW => by have h := HMk.out W _ _ a b (hA.below hW) (hBb.below hW) (List.mem_of_getElem? ha) (List.mem_of_getElem? hb); rw [hmm] at h; exact h
        have HKp : Hid (∀ W, Below W9.heap.size W9 W → W.cell? ⟨w6.heap.size, 0, none⟩ = some (.int .i64 0) ∧ W.cell? ⟨ba, oa + i' * 7, none⟩ = some (.bool a.start) ∧ W.cell? ⟨ba, oa + i' * 7 + 1, none⟩ = some (.bool a.fin) ∧ W.cell? ⟨ba, oa + i' * 7 + 2, none⟩ = some (.slice abo a.before.length abc) ∧ W.cell? ⟨ba, oa + i' * 7 + 3, none⟩ = some (.slice aso a.source.length asc) ∧ W.cell? ⟨ba, oa + i' * 7 + 4, none⟩ = some (.slice aao a.after.length aac) ∧ W.cell? ⟨ba, oa + i' * 7 + 5, none⟩ = some (.slice ato a.target.length atc) ∧ W.cell? ⟨ba, oa + i' * 7 + 6, none⟩ = some (.int .i64 a.cursor) ∧ W.cell? ⟨ba, oa + j' * 7, none⟩ = some (.bool b.start) ∧ W.cell? ⟨ba, oa + j' * 7 + 1, none⟩ = some (.bool b.fin) ∧ W.cell? ⟨ba, oa + j' * 7 + 2, none⟩ = some (.slice bbo b.before.length bbc) ∧ W.cell? ⟨ba, oa + j' * 7 + 3, none⟩ = some (.slice bso b.source.length bsc) ∧ W.cell? ⟨ba, oa + j' * 7 + 4, none⟩ = some (.slice bao b.after.length bac) ∧ W.cell? ⟨ba, oa + j' * 7 + 5, none⟩ = some (.slice bto b.target.length btc) ∧ W.cell? ⟨ba, oa + j' * 7 + 6, none⟩ = some (.int .i64 b.cursor)) := fun W hW => by
          have e : ∀ o, W.cell? ⟨ba, o, none⟩ = W9.cell? ⟨ba, o, none⟩ := fun o => hW.cell (p := ⟨ba, o, none⟩) hba
          simp only [e]
          exact ⟨K.at_box (i := 0) (K.blk_below HB9.out.2.2.1 hW) rfl, a0, a1, a2, a3, a4, a5, a6, b0, b1, b2, b3, b4, b5, b6⟩
        have HQ0 : Hid (Below W9.heap.size W9 W9.drew) := (Below.refl _ W9).drew
        have li : (i' : Int) < l.length := by omega
        have lj : (j' : Int) < l.length := by omega
        clear ha hb hA hBb hmm HMk hkr a0 a1 a2 a3 a4 a5 a6 b0 b1 b2 b3 b4 b5 b6
        go_wp2
        rw [← hW9]
        clear hW9
        go_region_held3 (fun w' => w'.cell? ⟨w6.heap.size, 0, none⟩ = some (.int .i64 0) ∧ w'.cell? ⟨ba, oa + i' * 7, none⟩ = some (.bool a.start) ∧ w'.cell? ⟨ba, oa + i' * 7 + 1, none⟩ = some (.bool a.fin) ∧ w'.cell? ⟨ba, oa + i' * 7 + 2, none⟩ = some (.slice abo a.before.length abc) ∧ w'.cell? ⟨ba, oa + i' * 7 + 3, none⟩ = some (.slice aso a.source.length asc) ∧ w'.cell? ⟨ba, oa + i' * 7 + 4, none⟩ = some (.slice aao a.after.length aac) ∧ w'.cell? ⟨ba, oa + i' * 7 + 5, none⟩ = some (.slice ato a.target.length atc) ∧ w'.cell? ⟨ba, oa + i' * 7 + 6, none⟩ = some (.int .i64 a.cursor) ∧ w'.cell? ⟨ba, oa + j' * 7, none⟩ = some (.bool b.start) ∧ w'.cell? ⟨ba, oa + j' * 7 + 1, none⟩ = some (.bool b.fin) ∧ w'.cell? ⟨ba, oa + j' * 7 + 2, none⟩ = some (.slice bbo b.before.length bbc) ∧ w'.cell? ⟨ba, oa + j' * 7 + 3, none⟩ = some (.slice bso b.source.length bsc) ∧ w'.cell? ⟨ba, oa + j' * 7 + 4, none⟩ = some (.slice bao b.after.length bac) ∧ w'.cell? ⟨ba, oa + j' * 7 + 5, none⟩ = some (.slice bto b.target.length btc) ∧ w'.cell? ⟨ba, oa + j' * 7 + 6, none⟩ = some (.int .i64 b.cursor))
          (first | with_reducible exact HKp.out _ HQ0.out | with_reducible exact k2 | (go_keep; done))
          (first
            | (go_at_call 25; refine (HCm.out _ HQ0.out).mono ?_; rintro e w10 ⟨rfl, z2⟩; have p2 : Below W9.heap.size W9 w10 := HQ0.out.trans (z2.mono (Nat.le_refl _)); have k2 := HKp.out _ p2)
            | fail)
        have HBu : Hid (Below w.heap.size w w10 ∧ w10.heap[w7.heap.size]? = some (.cells #[.int .i64 0, .int .i64 0] 29) ∧ w10.heap[w8.heap.size]? = some (.cells #[.int .i64 f1, .int .i64 0] 29) ∧ w10.heap[w9.heap.size]? = some (.cells #[.int .i64 s1, .int .i64 s2] 29)) := ⟨HBt.out.1.trans (p2.mono HBt.out.1.size), K.blk_below HBt.out.2.1 p2, K.blk_below HBt.out.2.2.1 p2, K.blk_below HBt.out.2.2.2 p2⟩
        have HDu : Hid (L.Rd w10 (.slice va7 ml.length vc7) .i64 ml ∧ S.Rd w10 (.slice va8 fl.length vc8) fl) := ⟨HDt.out.1.below p2 (Nat.le_refl _), HDt.out.2.below p2 (Nat.le_refl _)⟩
        clear z2 p2 k2 y0 y1 y2 y3 y4 y5 y6 y7 y8 y9 HB9 HBt HDt HCm HKp
        cases m0
        all_goals
          have hF9 := HRF.out w10 HBu.out.1
          clear HRF
          go_wp2_with fail
          refine hF9.mono ?_
          rintro e x1 ⟨v1, rfl, d1, g1⟩
          obtain ⟨va1, vc1, rfl⟩ : ∃ a c, v1 = .slice a fl.length c := by obtain ⟨a, c, h, _⟩ := d1; exact ⟨a, c, h⟩
          have HX1 : Hid (Below w.heap.size w x1 ∧ x1.heap[w7.heap.size]? = some (.cells #[.int .i64 0, .int .i64 0] 29) ∧ x1.heap[w8.heap.size]? = some (.cells #[.int .i64 f1, .int .i64 0] 29) ∧ x1.heap[w9.heap.size]? = some (.cells #[.int .i64 s1, .int .i64 s2] 29)) := ⟨HBu.out.1.trans (g1.mono HBu.out.1.size), K.blk_below HBu.out.2.1 g1, K.blk_below HBu.out.2.2.1 g1, K.blk_below HBu.out.2.2.2 g1⟩
          have HD1 : Hid (L.Rd x1 (.slice va7 ml.length vc7) .i64 ml ∧ S.Rd x1 (.slice va8 fl.length vc8) fl ∧ S.Rd x1 (.slice va1 fl.length vc1) fl) := ⟨HDu.out.1.below g1 (Nat.le_refl _), HDu.out.2.below g1 (Nat.le_refl _), d1⟩
          clear hF9 d1 g1 HBu HDu
          go_wp2_with fail
          refine (HRS.out x1 HX1.out.1).mono ?_
          rintro e x2 ⟨rfl, g2⟩
          obtain ⟨X2, hX2⟩ : ∃ X, X = x2.alloc (.cells #[.int .i64 s1, .int .i64 s2] 29) := ⟨_, rfl⟩
          have g2n : Below x2.heap.size x2 X2 := by rw [hX2]; exact (Below.refl _ x2).alloc (Nat.le_refl _) _
          have g2a : Below x1.heap.size x1 X2 := g2.trans (g2n.mono g2.size)
          have HX2 : Hid (Below w.heap.size w X2 ∧ X2.heap[w7.heap.size]? = some (.cells #[.int .i64 0, .int .i64 0] 29) ∧ X2.heap[w8.heap.size]? = some (.cells #[.int .i64 f1, .int .i64 0] 29) ∧ X2.heap[w9.heap.size]? = some (.cells #[.int .i64 s1, .int .i64 s2] 29)) := ⟨HX1.out.1.trans (g2a.mono HX1.out.1.size), K.blk_below HX1.out.2.1 g2a, K.blk_below HX1.out.2.2.1 g2a, K.blk_below HX1.out.2.2.2 g2a⟩
          have HY2 : Hid (X2.heap[x2.heap.size]? = some (.cells #[.int .i64 s1, .int .i64 s2] 29)) := by show X2.heap[x2.heap.size]? = _; rw [hX2]; exact heap_alloc_new x2 _
          have HD2 : Hid (L.Rd X2 (.slice va7 ml.length vc7) .i64 ml ∧ S.Rd X2 (.slice va8 fl.length vc8) fl ∧ S.Rd X2 (.slice va1 fl.length vc1) fl) := ⟨HD1.out.1.below g2a (Nat.le_refl _), HD1.out.2.1.below g2a (Nat.le_refl _), HD1.out.2.2.below g2a (Nat.le_refl _)⟩
          have hM9 := HRM.out X2 HX2.out.1
          have z4 := K.at_box (i := 0) HX2.out.2.1 rfl
          rw [hX2] at z4
          clear g2 g2n g2a HX1 HD1 HRS HRM
          go_wp2_with fail
          rw [← hX2]
          refine hM9.mono ?_
          rintro e x3 ⟨v3, rfl, d3, g3⟩
          obtain ⟨va3, vc3, rfl⟩ : ∃ a c, v3 = .slice a ml.length c := by obtain ⟨a, c, h, _⟩ := d3; exact ⟨a, c, h⟩
          have HX3 : Hid (Below w.heap.size w x3 ∧ x3.heap[w7.heap.size]? = some (.cells #[.int .i64 0, .int .i64 0] 29) ∧ x3.heap[w8.heap.size]? = some (.cells #[.int .i64 f1, .int .i64 0] 29) ∧ x3.heap[w9.heap.size]? = some (.cells #[.int .i64 s1, .int .i64 s2] 29)) := ⟨HX2.out.1.trans (g3.mono HX2.out.1.size), K.blk_below HX2.out.2.1 g3, K.blk_below HX2.out.2.2.1 g3, K.blk_below HX2.out.2.2.2 g3⟩
          have HY3 : Hid (x3.heap[x2.heap.size]? = some (.cells #[.int .i64 s1, .int .i64 s2] 29)) := K.blk_below HY2.out g3
          have HD3 : Hid (S.Rd x3 (.slice va8 fl.length vc8) fl ∧ S.Rd x3 (.slice va1 fl.length vc1) fl) := ⟨HD2.out.2.1.below g3 (Nat.le_refl _), HD2.out.2.2.below g3 (Nat.le_refl _)⟩
          have hSm := rSame9_any x3 (.slice va7 ml.length vc7) (.slice va3 ml.length vc3) ml ml (HD2.out.1.below g3 (Nat.le_refl _)) d3 (by omega) (by omega)
          rw [decide_eq_true (rfl : ml = ml)] at hSm
          clear z4 hX2 d3 g3 HX2 HY2 HD2 hM9
          go_wp2_with fail
          refine hSm.mono ?_
          rintro e x4 ⟨rfl, g4⟩
          have HX4 : Hid (Below w.heap.size w x4 ∧ x4.heap[w7.heap.size]? = some (.cells #[.int .i64 0, .int .i64 0] 29) ∧ x4.heap[w8.heap.size]? = some (.cells #[.int .i64 f1, .int .i64 0] 29) ∧ x4.heap[w9.heap.size]? = some (.cells #[.int .i64 s1, .int .i64 s2] 29)) := ⟨HX3.out.1.trans (g4.mono HX3.out.1.size), K.blk_below HX3.out.2.1 g4, K.blk_below HX3.out.2.2.1 g4, K.blk_below HX3.out.2.2.2 g4⟩
          have HY4 : Hid (x4.heap[x2.heap.size]? = some (.cells #[.int .i64 s1, .int .i64 s2] 29)) := K.blk_below HY3.out g4
          have hSs := ssame_any x4 (.slice va8 fl.length vc8) (.slice va1 fl.length vc1) fl fl (HD3.out.1.below g4 (Nat.le_refl _)) (HD3.out.2.below g4 (Nat.le_refl _)) (by omega) (by omega)
          rw [decide_eq_true (rfl : fl = fl)] at hSs
          obtain ⟨z6, z7, _, _⟩ := K.box2 HX4.out.2.2.1
          clear g4 HX3 HY3 HD3 hSm
          go_wp2_with fail
          refine hSs.mono ?_
          rintro e x5 ⟨rfl, g5⟩
          obtain ⟨z8, z9, _, _⟩ := K.box2 (K.blk_below HX4.out.2.2.2 g5)
          obtain ⟨u8, u9, _, _⟩ := K.box2 (K.blk_below HY4.out g5)
          have HX5 : Hid (Below w.heap.size w x5) := HX4.out.1.trans (g5.mono HX4.out.1.size)
          clear g5 z6 z7 HX4 HY4 hSs
          cases s0
          all_goals
            go_wp2
            go_ret
            exact ⟨by simp, HX5.out⟩
    · have hb : (K.rulesF l).1 ≠ 0 := by rw [HRU.out]; exact he
      have a1 := HM.out
      rw [K.masksF_bad hb, HRU.out] at a1
      cases a1
      have a2 := HN.out
      rw [K.maskedF_bad hb, HRU.out] at a2
      cases a2
      have a3 := HF.out
      rw [K.firstsF_bad hb, HRU.out] at a3
      cases a3
      have a4 := HS.out
      rw [K.steadyF_bad hb, HRU.out] at a4
      cases a4
      clear hb HM HN HF HS HRU
      go_wp2
      go_ret
      exact ⟨by simp, by rw [← hW9]; exact HB9.out.1⟩

end Go.Proofs.Ytdmpmkcigjkilaa
