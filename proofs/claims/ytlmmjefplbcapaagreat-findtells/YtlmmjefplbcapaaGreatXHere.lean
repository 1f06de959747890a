/-
  Whether a rule matches at a place of the machine's text: match.Here.
-/
import Derived.Test.YtlmmjefplbcapaaGreatYRus
import Derived.Test.YtlmmjefplbcapaaGreatSHas7
import Derived.Test.YtlmmjefplbcapaaGreatXView
import Derived.Deep.QuietTactic
import Derived.BigQuiet
namespace Go.Proofs.YtlmmjefplbcapaaGreat
open Go.RowKit Go.Shelf
set_option maxRecDepth 20000
set_option linter.unusedSimpArgs false
set_option linter.unusedVariables false

/-- the machine's text, whatever is made behind it -/
structure Gm.Vw (w0 : World) (mb g : Nat) (t : List Int) : Prop where
  cell : ∀ W, Below w0.heap.size w0 W → W.cell? ⟨mb, 0, none⟩ = some (.pointer (some ⟨g, 0, none⟩))
  len : ∀ W, Below w0.heap.size w0 W → Calls Tryz.prog 49 #[.pointer (some ⟨g, 0, none⟩)] W fun e w' => e = .returned (.int .i64 t.length) ∧ ∃ q, w' = W.drewN q
  at' : ∀ W (k : Int), Below w0.heap.size w0 W → 0 ≤ k → k < t.length → Calls Tryz.prog 61 #[.pointer (some ⟨g, 0, none⟩), .int .i64 k] W fun e w' => e = .returned (.int .i32 (t.getD k.toNat 0)) ∧ ∃ q, w' = W.drewN q
theorem Gm.Vw.of {w0 : World} {mb g : Nat} {B : Gm.Bs} {ao : Option Addr} {cur A Z : List Int} (hc : w0.cell? ⟨mb, 0, none⟩ = some (.pointer (some ⟨g, 0, none⟩))) (h : Gm.Tx B g ao cur A Z w0) : Gm.Vw w0 mb g (A ++ Z) where
  cell W hW := by rw [(L.bcell hW).1 mb 0 (L.block_lt hc)]; exact hc
  len W hW := by
    have h' := h.kept fun k hk => hW.block k hk
    have h2 := len_any W g ao _ _ _ h'.box h.most (by omega) (by have := h.fit; omega)
    rw [show A.length + (cur.length - (cur.length - Z.length)) = (A ++ Z).length by rw [List.length_append]; have := h.fit; omega] at h2
    exact h2
  at' W k hW h0 hk := by
    have h' := h.kept fun k hk => hW.block k hk
    obtain ⟨n, rfl⟩ : ∃ n : Nat, k = n := ⟨k.toNat, by omega⟩
    rw [List.length_append] at hk
    exact xat_any W B g ao cur A Z h' n (by omega)

/-- the text as a View, and the box with the place -/
def K.Bs (w : World) (bv ba mb : Nat) (k : Int) : Prop := w.heap[bv]? = some (.cells #[.iface 63 (.pointer (some ⟨mb, 0, none⟩))] 114) ∧ w.heap[ba]? = some (.cells #[.int .i64 k] 3)

set_option maxHeartbeats 4000000 in
theorem malong1_any (w0 w : World) (hB : Below w0.heap.size w0 w) (bv ba : Nat) (hbv : w0.heap.size ≤ bv) (hba : w0.heap.size ≤ ba) (hne : bv ≠ ba) (vl : Value) (l : List (List S.Sp)) (R : K.Ss w0 vl l) (hG : K.Good l)
    (mb g : Nat) (t : List Int) (Rt : Gm.Vw w0 mb g t) (ht : t.length ≤ 4000) (k : Int) (h0 : 0 ≤ k) (hk : k + l.length ≤ t.length) (hX : K.Bs w bv ba mb k) :
    Calls Tryz.prog 81 (#[vl] ++ #[.pointer (some ⟨bv, 0, none⟩), .pointer (some ⟨ba, 0, none⟩)]) w fun e w' => e = .returned (.bool (K.runAt t k l)) ∧ (K.runAt t k l = true → K.Bs w' bv ba mb (k + l.length)) ∧ Below w0.heap.size w0 w' ∧ w.grownBy w' (some ba) := by
  have HR : Hid (K.Ss w0 vl l) := R
  have HG : Hid (K.Good l) := hG
  have HT : Hid (Gm.Vw w0 mb g t) := Rt
  have HX0 : Hid (K.Bs w bv ba mb k) := hX
  obtain ⟨ao, cap, rfl⟩ := R.len
  have hsb := hB.size
  have hl20 := hG.1
  clear R hX hG Rt
  go_enter Tryz.func81, Tryz.ntmps81
  go_wp2
  go_loopw [9] (fun i wr => ∃ j : Nat, j ≤ l.length ∧ i = .int .i64 j ∧ Hid (K.runAt t k l = K.runAt t (k + j) (l.drop j)) ∧ Hid (Below w0.heap.size w0 wr ∧ w.grownBy wr (some ba) ∧ K.Bs wr bv ba mb (k + j))) (fun i _ => l.length - (intOf i).toNat)
  case atStart => exact ⟨0, Nat.zero_le _, rfl, by show _ = _; simp, hB, S.grown_refl _ _, by simpa using HX0.out⟩
  case round =>
    obtain ⟨j, hj, rfl, HW, HB⟩ := hrel
    have hs := HB.out.1.size
    by_cases hlt : j < l.length
    · obtain ⟨s, hsj⟩ : ∃ s, l[j]? = some s := ⟨l[j], by simp [hlt]⟩
      obtain ⟨b, off, so, sc, rfl, c1, R1, F1⟩ := (HR.out.below HB.out.1).at hsj
      obtain ⟨hN, hlen⟩ := HG.out.2 s (List.mem_of_getElem? hsj)
      have HD := K.runAt_drop (t := t) (k := k) hsj
      rw [← HW.out] at HD
      have d1 := K.at_box (i := 0) HB.out.2.2.1 rfl
      have d2 := K.at_box (i := 0) HB.out.2.2.2 rfl
      have hlta : ba < wr.heap.size := (Array.getElem?_eq_some_iff.1 HB.out.2.2.2).1
      have hat := HT.out.at' wr (k + j) HB.out.1 (by omega) (by omega)
      have hm := xmeth_at wr mb g (HT.out.cell wr HB.out.1)
      rw [decide_eq_true (show 0 ≤ k + (j : Int) by omega), decide_eq_true (show k + (j : Int) < t.length by omega), Bool.true_and, Bool.true_and] at HD
      obtain ⟨x, hx⟩ : ∃ x, x = t.getD (k + (j : Int)).toNat 0 := ⟨_, rfl⟩
      rw [← hx] at HD hat
      have hhas : ∀ q, Calls Tryz.prog 69 #[.slice so s.length sc, .int .i32 x] (wr.drewN q) fun e w' => e = .returned (.bool (S.memb s x)) ∧ Below wr.heap.size wr w' := fun q => by
        have hd : Below wr.heap.size wr (wr.drewN q) := below_drewN (Below.refl _ _) _
        exact (has_any (wr.drewN q) _ s x (R1.below hd (Nat.le_refl _)) hN hlen).mono fun e w' ⟨h1, h2⟩ => ⟨h1, hd.trans h2⟩
      have HHas : Hid (∀ q, Calls Tryz.prog 69 #[.slice so s.length sc, .int .i32 x] (wr.drewN q) fun e w' => e = .returned (.bool (S.memb s x)) ∧ Below wr.heap.size wr w') := hhas
      clear hhas
      generalize S.memb s x = mm at HD HHas
      have HD2 : Hid (K.runAt t k l = (mm && K.runAt t (k + (j + 1 : Nat)) (l.drop (j + 1)))) := HD
      clear HD R1 F1 hN hsj hx
      have HBa : Hid (Below w0.heap.size w0 wr ∧ w.grownBy wr (some ba)) := ⟨HB.out.1, HB.out.2.1⟩
      go_wp2_with fail
      refine hat.mono ?_
      rintro e w1 ⟨rfl, q1, rfl⟩
      clear hat hm
      go_wp2_with fail
      refine (HHas.out _).mono ?_
      rintro e w1 ⟨rfl, hb⟩
      have HB1 : Hid (Below w0.heap.size w0 w1) := HBa.out.1.trans (hb.mono hs)
      have HG1 : Hid (w.grownBy w1 (some ba)) := S.grown_trans HBa.out.2 (S.grown_below hb)
      have HX1 : Hid (K.Bs w1 bv ba mb (k + j)) := ⟨K.blk_below HB.out.2.2.1 hb, K.blk_below HB.out.2.2.2 hb⟩
      clear d1 d2
      cases mm with
      | false =>
        have hf : K.runAt t k l = false := by rw [HD2.out]; rfl
        go_wp2
        go_ret
        exact ⟨L.ret_bool hf.symm, fun h => (by rw [hf] at h; cases h), HB1.out, HG1.out⟩
      | true =>
        have d2 := K.at_box (i := 0) HX1.out.2 rfl
        have f2 : w1.frozen? ⟨ba, 0, none⟩ = false := S.Bx.free (t := 3) (v := .int .i64 (k + j)) HX1.out.2
        go_wp2
        go_roundw
        case rel =>
          have e1 : k + (j : Int) + 1 = k + ((j + 1 : Nat) : Int) := by omega
          refine ⟨j + 1, by omega, by go_num, by show _ = _; rw [HD2.out]; rfl, HB1.out.setCell hba _, S.grown_trans HG1.out ⟨rfl, rfl, rfl, by simp, fun b _ hb => heap_setCell_other _ ⟨ba, 0, none⟩ b _ (fun e => hb (by simp [e]))⟩, ?_, ?_⟩
          · rw [heap_setCell_other _ ⟨ba, 0, none⟩ bv _ (by simpa using hne)]; exact HX1.out.1
          · rw [← e1]; exact heap_setCell_same _ ba 0 _ _ _ HX1.out.2
        case measure => simp [intOf]; omega
    · go_wp2
      go_ret
      have hf : K.runAt t k l = true := by rw [HW.out, List.drop_eq_nil_of_le (by omega)]; rfl
      obtain rfl : j = l.length := by omega
      exact ⟨L.ret_bool hf.symm, fun _ => HB.out.2.2, HB.out.1, HB.out.2.1⟩

set_option maxHeartbeats 400000 in
theorem malong_any (w : World) (mb : Nat) (k : Int) :
    Calls Tryz.prog 75 #[.iface 63 (.pointer (some ⟨mb, 0, none⟩)), .int .i64 k] w fun e w' => ∃ bv ba, e = .returned (.func (.func 81) #[] #[.pointer (some ⟨bv, 0, none⟩), .pointer (some ⟨ba, 0, none⟩)]) ∧ w.heap.size ≤ bv ∧ w.heap.size ≤ ba ∧ bv ≠ ba ∧ K.Bs w' bv ba mb k ∧ Below w.heap.size w w' := by
  have hmf : ∀ (fn : Fn) (first cap : Array Value) (w : World), (Instr.makeFunc fn first cap).run Tryz.prog w = .ok (.func fn first cap) w := fun _ _ _ _ => rfl
  go_enter Tryz.func75, Tryz.ntmps75
  go_wp2
  go_ret
  have h := K.two_boxes (w := w) (Below.refl _ ((w.alloc (.cells #[.iface 63 (.pointer (some ⟨mb, 0, none⟩))] 114)).alloc (.cells #[.int .i64 k] 3)))
  exact ⟨w.heap.size, w.heap.size + 1, by simp, Nat.le_refl _, by omega, by omega, ⟨h.1, h.2.1⟩, h.2.2.1⟩

set_option maxHeartbeats 8000000 in
theorem mHere_any (w : World) (v : Value) (r : K.Rule) (R : K.RuIs w v r) (hE : K.ruleE r = 0) (mx g : Nat) (t : List Int) (Rt : Gm.Vw w mx g t) (ht : t.length ≤ 4000) (k : Int) (hk0 : 0 ≤ k) (hk1 : k ≤ t.length) :
    Calls Tryz.prog 64 #[v, .iface 63 (.pointer (some ⟨mx, 0, none⟩)), .int .i64 k] w fun e w' => e = .returned (.bool (K.matchB r t k)) ∧ Below w.heap.size w w' := by
  obtain ⟨g1, g2, g3, hsrc, _⟩ := K.ruleE_zero hE
  have HG : Hid (K.Good r.before ∧ K.Good r.source ∧ K.Good r.after) := ⟨g1, g2, g3⟩
  have l1 := g1.1
  have l2 := g2.1
  have l3 := g3.1
  obtain ⟨bo, bc, so, sc, ao, ac, tgo, tc, rfl, R1, R2, R3, R4, hl4, hcur⟩ := R
  have HRs : Hid (K.Ss w (.slice bo r.before.length bc) r.before ∧ K.Ss w (.slice so r.source.length sc) r.source ∧ K.Ss w (.slice ao r.after.length ac) r.after) := ⟨R1, R2, R3⟩
  have HT : Hid (Gm.Vw w mx g t) := Rt
  have eg : ∀ args w, (callFunc 81 args).run Tryz.prog w = .ok (.enter 81 args) w := enters_of Tryz.func81 (by kernel_rfl) rfl
  have HNo := @K.match_no r t k hsrc
  have HRoom := @K.match_room r t k
  have HN : Hid (_ → _) := HNo
  have HM : Hid (¬ (r.start = true ∧ 0 < k - r.before.length) → ¬ (r.fin = true ∧ 0 < (t.length : Int) - k - r.source.length - r.after.length) → K.matchB r t k = (K.runAt t (k - r.before.length) r.before && K.runAt t k r.source && K.runAt t (k + r.source.length) r.after)) := HRoom
  generalize K.matchB r t k = mb at *
  clear HNo HRoom g1 g2 g3 R1 R2 R3 R4 hcur hE
  obtain ⟨st, fi, be, sou, af, ta, cu⟩ := r
  simp only at *
  have HLQ : Hid (∀ X, Below w.heap.size w X → Calls Tryz.prog 49 #[.pointer (some ⟨g, 0, none⟩)] X fun e w' => e = .returned (.int .i64 t.length) ∧ ∃ q, w' = X.drewN q) := HT.out.len
  have HMm : Hid (∀ X, Below w.heap.size w X → (method 263 63 (.pointer (some ⟨mx, 0, none⟩)) "Len").run Tryz.prog X = .ok (49, .pointer (some ⟨g, 0, none⟩)) X) := fun X hX => xmeth_len X mx g (HT.out.cell X hX)
  obtain ⟨W0, hW0⟩ : ∃ W0, W0 = w.alloc (.cells #[.bool st, .bool fi, .slice bo be.length bc, .slice so sou.length sc, .slice ao af.length ac, .slice tgo ta.length tc, .int .i64 cu] 55) := ⟨_, rfl⟩
  have hH0 : W0.heap[w.heap.size]? = some (.cells #[.bool st, .bool fi, .slice bo be.length bc, .slice so sou.length sc, .slice ao af.length ac, .slice tgo ta.length tc, .int .i64 cu] 55) := by rw [hW0]; exact heap_alloc_new w _
  have HB0 : Hid (Below w.heap.size w W0 ∧ W0.heap.size = w.heap.size + 1) := by
    rw [hW0]; exact ⟨(Below.refl _ w).alloc (Nat.le_refl _) _, by simp⟩
  have HH0 : Hid (W0.heap[w.heap.size]? = some (.cells #[.bool st, .bool fi, .slice bo be.length bc, .slice so sou.length sc, .slice ao af.length ac, .slice tgo ta.length tc, .int .i64 cu] 55)) := hH0
  have c0 := K.at_box (i := 0) hH0 rfl
  have c1 := K.at_box (i := 1) hH0 rfl
  have c2 := K.at_box (i := 2) hH0 rfl
  have c3 := K.at_box (i := 3) hH0 rfl
  have c4 := K.at_box (i := 4) hH0 rfl
  clear hH0
  go_enter Tryz.func64, Tryz.ntmps64
  go_wp2
  rw [← hW0]
  clear hW0
  have hmq : ∀ q, (method 263 63 (.pointer (some ⟨mx, 0, none⟩)) "Len").run Tryz.prog (W0.drewN q) = .ok (49, .pointer (some ⟨g, 0, none⟩)) (W0.drewN q) := fun q => HMm.out _ (below_drewN HB0.out.1 _)
  go_quiet ((go_at_call 49; exact Calls.quiet_of (HLQ.out _ (below_drewN HB0.out.1 _))))
  have HBW : Hid (Below w.heap.size w (W0.drewN nq) ∧ (W0.drewN nq).heap.size = w.heap.size + 1 ∧ (W0.drewN nq).heap[w.heap.size]? = some (.cells #[.bool st, .bool fi, .slice bo be.length bc, .slice so sou.length sc, .slice ao af.length ac, .slice tgo ta.length tc, .int .i64 cu] 55)) := ⟨below_drewN HB0.out.1 _, HB0.out.2, HH0.out⟩
  have d0 := K.at_box (i := 0) HBW.out.2.2 rfl
  have d1 := K.at_box (i := 1) HBW.out.2.2 rfl
  have d2 := K.at_box (i := 2) HBW.out.2.2 rfl
  have d3 := K.at_box (i := 3) HBW.out.2.2 rfl
  have d4 := K.at_box (i := 4) HBW.out.2.2 rfl
  clear c0 c1 c2 c3 c4 HB0 HH0 HLQ hmq HMm
  generalize W0.drewN nq = W at *
  by_cases h1 : k - (be.length : Int) < 0
  · have hf := HN.out (.inl h1)
    go_wp2
    go_ret
    first | exact ⟨L.ret_bool hf.symm, HBW.out.1⟩ | exact ⟨rfl, HBW.out.1⟩
  · by_cases h2 : (t.length : Int) - k - sou.length - af.length < 0
    · have hf := HN.out (.inr (.inl h2))
      go_wp2
      go_ret
      first | exact ⟨L.ret_bool hf.symm, HBW.out.1⟩ | exact ⟨rfl, HBW.out.1⟩
    · by_cases h3 : st = true ∧ 0 < k - (be.length : Int)
      · have hf := HN.out (.inr (.inr (.inl h3)))
        obtain ⟨rfl, h3⟩ := h3
        go_wp2
        go_ret
        first | exact ⟨L.ret_bool hf.symm, HBW.out.1⟩ | exact ⟨rfl, HBW.out.1⟩
      · by_cases h4 : fi = true ∧ 0 < (t.length : Int) - k - sou.length - af.length
        · have hf := HN.out (.inr (.inr (.inr h4)))
          obtain ⟨rfl, h4⟩ := h4
          cases st with
          | false =>
            go_wp2
            go_ret
            first | exact ⟨L.ret_bool hf.symm, HBW.out.1⟩ | exact ⟨rfl, HBW.out.1⟩
          | true =>
            have h5 : ¬ 0 < k - (be.length : Int) := fun h => h3 ⟨rfl, h⟩
            go_wp2
            go_ret
            first | exact ⟨L.ret_bool hf.symm, HBW.out.1⟩ | exact ⟨rfl, HBW.out.1⟩
        · have hM := HM.out h3 h4
          have HM2 : Hid (mb = (K.runAt t (k - be.length) be && K.runAt t k sou && K.runAt t (k + sou.length) af)) := hM
          have h5 : st = true → k - (be.length : Int) ≤ 0 := fun h => Int.not_lt.1 fun h' => h3 ⟨h, h'⟩
          have h6 : fi = true → (t.length : Int) - k - sou.length - af.length ≤ 0 := fun h => Int.not_lt.1 fun h' => h4 ⟨h, h'⟩
          have HAl := malong_any W mx (k - be.length)
          have hW1 := HBW.out.2.1
          have HC : Hid (∀ X bv ba, Below w.heap.size w X → w.heap.size ≤ bv → w.heap.size ≤ ba → bv ≠ ba → K.Bs X bv ba mx (k - be.length) → Calls Tryz.prog 81 (#[.slice bo be.length bc] ++ #[.pointer (some ⟨bv, 0, none⟩), .pointer (some ⟨ba, 0, none⟩)]) X fun e w' => e = .returned (.bool (K.runAt t (k - be.length) be)) ∧ (K.runAt t (k - be.length) be = true → K.Bs w' bv ba mx (k - be.length + be.length)) ∧ Below w.heap.size w w' ∧ X.grownBy w' (some ba)) :=
            fun X bv ba q1 q2 q3 q4 q5 => malong1_any w X q1 bv ba q2 q3 q4 _ be HRs.out.1 HG.out.1 mx g t HT.out ht (k - be.length) (by omega) (by omega) q5
          have HC2 : Hid (∀ X bv ba, Below w.heap.size w X → w.heap.size ≤ bv → w.heap.size ≤ ba → bv ≠ ba → K.Bs X bv ba mx k → Calls Tryz.prog 81 (#[.slice so sou.length sc] ++ #[.pointer (some ⟨bv, 0, none⟩), .pointer (some ⟨ba, 0, none⟩)]) X fun e w' => e = .returned (.bool (K.runAt t k sou)) ∧ (K.runAt t k sou = true → K.Bs w' bv ba mx (k + sou.length)) ∧ Below w.heap.size w w' ∧ X.grownBy w' (some ba)) :=
            fun X bv ba q1 q2 q3 q4 q5 => malong1_any w X q1 bv ba q2 q3 q4 _ sou HRs.out.2.1 HG.out.2.1 mx g t HT.out ht k (by omega) (by omega) q5
          have HC3 : Hid (∀ X bv ba, Below w.heap.size w X → w.heap.size ≤ bv → w.heap.size ≤ ba → bv ≠ ba → K.Bs X bv ba mx (k + sou.length) → Calls Tryz.prog 81 (#[.slice ao af.length ac] ++ #[.pointer (some ⟨bv, 0, none⟩), .pointer (some ⟨ba, 0, none⟩)]) X fun e w' => e = .returned (.bool (K.runAt t (k + sou.length) af)) ∧ (K.runAt t (k + sou.length) af = true → K.Bs w' bv ba mx (k + sou.length + af.length)) ∧ Below w.heap.size w w' ∧ X.grownBy w' (some ba)) :=
            fun X bv ba q1 q2 q3 q4 q5 => malong1_any w X q1 bv ba q2 q3 q4 _ af HRs.out.2.2 HG.out.2.2 mx g t HT.out ht (k + sou.length) (by omega) (by omega) q5
          generalize K.runAt t (k - be.length) be = m1 at *
          generalize K.runAt t k sou = m2 at *
          generalize K.runAt t (k + sou.length) af = m3 at *
          have HRB : Hid (∀ X ba, W.heap.size ≤ ba → (W.grownBy X (some ba) → X.cell? ⟨w.heap.size, 2, none⟩ = some (.slice bo be.length bc) ∧ X.cell? ⟨w.heap.size, 3, none⟩ = some (.slice so sou.length sc) ∧ X.cell? ⟨w.heap.size, 4, none⟩ = some (.slice ao af.length ac))) := fun X ba hba hg => by
            have hb := hg.block w.heap.size (by omega) (by simp; omega)
            rw [HBW.out.2.2] at hb
            exact ⟨K.at_box (i := 2) hb rfl, K.at_box (i := 3) hb rfl, K.at_box (i := 4) hb rfl⟩
          have HBw : Hid (Below w.heap.size w W) := HBW.out.1
          clear h3 h4 hM HM HN HG HRs HT HBW
          have hnn : ¬ k - (be.length : Int) < 0 := h1
          rcases Bool.eq_false_or_eq_true st with hst | hst <;> rcases Bool.eq_false_or_eq_true fi with hfi | hfi
          all_goals
            subst hst hfi
            simp only [forall_const, Bool.false_eq_true, false_imp_iff] at h5 h6
            go_wp2_with fail
            refine HAl.mono ?_
            rintro e w1 ⟨bv, ba, rfl, q1, q2, q3, q4, hb⟩
            have HB1 : Hid (Below w.heap.size w w1) := HBw.out.trans (hb.mono (by omega))
            have HG1 : Hid (W.grownBy w1 (some ba)) := S.grown_below hb
            obtain ⟨f2, f3, f4⟩ := HRB.out w1 ba q2 HG1.out
            have hC1 := HC.out w1 bv ba HB1.out (by omega) (by omega) q3 q4
            clear HAl HC d0 d1 d2 d3 d4 hb q4
            go_wp2_with fail
            refine hC1.mono ?_
            rintro e w2 ⟨rfl, hX2, hb2, hg2⟩
            have HB2 : Hid (Below w.heap.size w w2) := hb2
            have HG2 : Hid (W.grownBy w2 (some ba)) := S.grown_trans HG1.out hg2
            obtain ⟨e2, e3, e4⟩ := HRB.out w2 ba q2 HG2.out
            clear hC1 f2 f3 f4 hb2 hg2
            cases m1 with
            | false =>
              go_wp2
              go_ret
              exact ⟨L.ret_bool (by rw [HM2.out]; simp), HB2.out⟩
            | true =>
              have hX2' := hX2 rfl
              rw [show k - (be.length : Int) + be.length = k by omega] at hX2'
              have hC2 := HC2.out w2 bv ba HB2.out (by omega) (by omega) q3 hX2'
              clear hX2 hX2' HC2
              go_wp2_with fail
              refine hC2.mono ?_
              rintro e w3 ⟨rfl, hX3, hb3, hg3⟩
              have HB3 : Hid (Below w.heap.size w w3) := hb3
              have HG3 : Hid (W.grownBy w3 (some ba)) := S.grown_trans HG2.out hg3
              obtain ⟨e2', e3', e4'⟩ := HRB.out w3 ba q2 HG3.out
              clear hC2 e2 e3 e4 hb3 hg3
              cases m2 with
              | false =>
                go_wp2
                go_ret
                exact ⟨L.ret_bool (by rw [HM2.out]; simp), HB3.out⟩
              | true =>
                have hC3 := HC3.out w3 bv ba HB3.out (by omega) (by omega) q3 (hX3 rfl)
                clear hX3 HC3
                go_wp2_with fail
                refine hC3.mono ?_
                rintro e w4 ⟨rfl, _, hb4, _⟩
                have HB4 : Hid (Below w.heap.size w w4) := hb4
                clear hC3 hb4
                go_wp2
                go_ret
                exact ⟨L.ret_bool (by rw [HM2.out]; simp), HB4.out⟩

end Go.Proofs.YtlmmjefplbcapaaGreat
