/-
  What the document's Has answers of any spans.
-/
import Derived.Test.YtlmmjefplbcapaaGreatSWrong
import Derived.Test.YtlmmjefplbcapaaGreatMSets
import Derived.BigRegion
import Derived.RegionTactic
import Derived.Deep.RegionHeld3
import Derived.Deep.QuietTactic
import Derived.BigQuiet
import Derived.Test.YtlmmjefplbcapaaGreatYRus
import Derived.Test.YtlmmjefplbcapaaGreatQFrame
import Derived.Test.YtlmmjefplbcapaaGreatYHead
namespace Go.Proofs.YtlmmjefplbcapaaGreat
open Go.RowKit

theorem memb_take {l : List S.Sp} {k : Nat} {x : S.Sp} {r : Int} (hx : l[k]? = some x) : S.memb (l.take (k + 1)) r = (S.memb (l.take k) r || (decide (x.1 ≤ r) && decide (r ≤ x.2))) := by
  rw [List.take_add_one, hx, S.memb_append]; simp [S.memb_cons, S.memb_nil]

set_option maxHeartbeats 1000000 in
theorem refhas_any (w : World) (v : Value) (l : List S.Sp) (r : Int) (R : S.Rd w v l) (hl : l.length ≤ 4611686018427387903) :
    Calls Tryz.prog 45 #[v, .int .i32 r] w fun e w' => e = .returned (.bool (S.memb l r)) ∧ Below w.heap.size w w' := by
  obtain ⟨ao, cap, rfl, hn, hc⟩ := R
  go_enter Tryz.func45, Tryz.ntmps45
  go_wp2
  go_loopw [9] (fun i wr => ∃ k : Nat, k ≤ l.length ∧ i = .int .i64 k ∧ Hid (S.memb (l.take k) r = false) ∧ Hid (Below w.heap.size w wr)) (fun i _ => l.length - (intOf i).toNat)
  case atStart => exact ⟨0, Nat.zero_le _, rfl, by show S.memb (l.take 0) r = false; simp [S.memb_nil], Below.refl _ w⟩
  case round =>
    obtain ⟨k, hk, rfl, HW, HB⟩ := hrel
    by_cases hlt : k < l.length
    · obtain ⟨b, off, rfl, hcell⟩ := hc (by intro h; subst h; simp at hlt)
      obtain ⟨x, hx⟩ : ∃ x, l[k]? = some x := ⟨l[k], by simp [hlt]⟩
      have c0 := hcell k x hx
      have hb := L.block_lt c0.1
      have cc : ∀ o, wr.cell? ⟨b, o, none⟩ = w.cell? ⟨b, o, none⟩ := fun o => HB.out.cell (p := ⟨b, o, none⟩) hb
      have c1 := c0.1
      have c2 := c0.2
      rw [← cc] at c1 c2
      have HX : Hid (l[k]? = some x) := hx
      have hsz := HB.out.size
      have HM := memb_take (r := r) hx
      rw [HW.out] at HM
      obtain ⟨x1, x2⟩ := x
      simp only [Bool.false_or] at c1 c2 HM
      have HM2 : Hid (S.memb (l.take (k + 1)) r = (decide (x1 ≤ r) && decide (r ≤ x2))) := HM
      have HB2 : Hid (∀ o, Below w.heap.size w (wr.alloc o)) := fun o => HB.out.alloc hsz o
      clear c0 hx hcell hc cc HM
      by_cases h1 : x1 ≤ r
      · by_cases h2 : r ≤ x2
        · go_wp2
          go_ret
          refine ⟨L.ret_bool ?_, HB2.out _⟩
          symm
          rw [S.memb_iff]
          exact ⟨(x1, x2), List.mem_of_getElem? HX.out, h1, h2⟩
        · go_wp2
          go_roundw
          case rel => exact ⟨k + 1, by omega, by go_num, by show _ = _; rw [HM2.out]; simp [h2], HB2.out _⟩
          case measure => simp [intOf]; omega
      · go_wp2
        go_roundw
        case rel => exact ⟨k + 1, by omega, by go_num, by show _ = _; rw [HM2.out]; simp [h1], HB2.out _⟩
        case measure => simp [intOf]; omega
    · go_wp2
      go_ret
      refine ⟨L.ret_bool ?_, HB.out⟩
      rw [← HW.out, List.take_of_length_le (by omega)]


end Go.Proofs.YtlmmjefplbcapaaGreat

/-
  Whether a rule matches: what the document's text answers.
-/
namespace Go.Proofs.YtlmmjefplbcapaaGreat
open Go.RowKit
set_option maxRecDepth 20000
set_option linter.unusedSimpArgs false
set_option linter.unusedVariables false

set_option maxHeartbeats 8000000 in
theorem rMatches_any (w : World) (v : Value) (r : K.Rule) (R : K.RuIs w v r) (hE : K.ruleE r = 0) (vt : Value) (t : List Int) (Rt : L.Rd w vt .i32 t) (ht : t.length ≤ 4000) (k : Int) (hk0 : 0 ≤ k) (hk1 : k ≤ t.length) :
    Calls Tryz.prog 35 #[v, vt, .int .i64 k] w fun e w' => e = .returned (.bool (K.matchB r t k)) ∧ Below w.heap.size w w' := by
  obtain ⟨g1, g2, g3, hsrc, _⟩ := K.ruleE_zero hE
  have l1 := g1.1
  have l2 := g2.1
  have l3 := g3.1
  obtain ⟨bo, bc, so, sc, ao, ac, tgo, tc, rfl, R1, R2, R3, R4, hl4, hcur⟩ := R
  have HT : Hid (L.Rd w vt .i32 t) := Rt
  obtain ⟨xo, xc, rfl, _⟩ := Rt
  have HMB : Hid (K.matchB r t k = (K.runAt t (k - r.before.length) (r.before ++ r.source ++ r.after) && !(r.start && decide (0 < k - r.before.length)) && !(r.fin && decide (k + r.source.length + r.after.length < t.length)))) := rfl
  have hG : ∀ s ∈ r.before ++ r.source ++ r.after, S.Nf 0 s ∧ s.length ≤ 200 := fun s hs => by
    rcases List.mem_append.1 hs with hs | hs
    · rcases List.mem_append.1 hs with hs | hs
      · exact g1.2 s hs
      · exact g2.2 s hs
    · exact g3.2 s hs
  have HG : Hid (∀ s ∈ r.before ++ r.source ++ r.after, S.Nf 0 s ∧ s.length ≤ 200) := hG
  generalize K.matchB r t k = mb at *
  obtain ⟨st, fi, be, sou, af, ta, cu⟩ := r
  simp only at *
  clear g1 g2 g3 hG hE
  obtain ⟨W0, hW0⟩ : ∃ W0, W0 = w.alloc (.cells #[.bool st, .bool fi, .slice bo be.length bc, .slice so sou.length sc, .slice ao af.length ac, .slice tgo ta.length tc, .int .i64 cu] 55) := ⟨_, rfl⟩
  have hH0 : W0.heap[w.heap.size]? = some (.cells #[.bool st, .bool fi, .slice bo be.length bc, .slice so sou.length sc, .slice ao af.length ac, .slice tgo ta.length tc, .int .i64 cu] 55) := by rw [hW0]; exact heap_alloc_new w _
  have hB0 : Below w.heap.size w W0.drew := by rw [hW0]; exact ((Below.refl _ w).alloc (Nat.le_refl _) _).drew
  have hs0 : W0.heap.size = w.heap.size + 1 := by rw [hW0]; simp
  have hs0' : W0.drew.heap.size = w.heap.size + 1 := hs0
  have hH0' : W0.drew.heap[w.heap.size]? = some (.cells #[.bool st, .bool fi, .slice bo be.length bc, .slice so sou.length sc, .slice ao af.length ac, .slice tgo ta.length tc, .int .i64 cu] 55) := hH0
  obtain ⟨u1, V1⟩ := K.Ss.vals R1
  obtain ⟨u2, V2⟩ := K.Ss.vals R2
  obtain ⟨u3, V3⟩ := K.Ss.vals R3
  have sets1 : K.Sets w u1 be := by obtain ⟨_, _, _, _, h, _⟩ := V1; exact h
  have sets2 : K.Sets w u2 sou := by obtain ⟨_, _, _, _, h, _⟩ := V2; exact h
  have sets3 : K.Sets w u3 af := by obtain ⟨_, _, _, _, h, _⟩ := V3; exact h
  obtain ⟨v1, W1, run1, own1, gr1⟩ := K.app_sets W0.drew (w.heap.size + 1) (.slice none 0 0) [] (World.ownsRow_nil _ _ _ _) _ be u1 (V1.below hB0) (by simp; omega) (by omega)
  have hB1 : Below w.heap.size w W1 := hB0.grown gr1 (by omega) (fun g hg => by cases hg)
  have hH1 : W1.heap[w.heap.size]? = some (.cells #[.bool st, .bool fi, .slice bo be.length bc, .slice so sou.length sc, .slice ao af.length ac, .slice tgo ta.length tc, .int .i64 cu] 55) := by rw [gr1.block _ (by omega) (by simp [Value.ownBlock])]; exact hH0'
  have hs1 := gr1.size
  have e1 : u1.length = be.length := sets1.1
  obtain ⟨v2, W2, run2, own2, gr2⟩ := K.app_sets W1 (w.heap.size + 1) v1 _ own1 _ sou u2 (V2.below hB1) (by simp; omega) (by omega)
  have hB2 : Below w.heap.size w W2 := hB1.grown gr2 (by omega) (fun g hg => by have := (own1.lt g hg).1; omega)
  have hH2 : W2.heap[w.heap.size]? = some (.cells #[.bool st, .bool fi, .slice bo be.length bc, .slice so sou.length sc, .slice ao af.length ac, .slice tgo ta.length tc, .int .i64 cu] 55) := by rw [gr2.block _ (by omega) (fun hg => by have := (own1.lt _ hg.symm).1; omega)]; exact hH1
  have hs2 := gr2.size
  have e2 : u2.length = sou.length := sets2.1
  obtain ⟨v3, W3, run3, own3, gr3⟩ := K.app_sets W2 (w.heap.size + 1) v2 _ own2 _ af u3 (V3.below hB2) (by simp; omega) (by omega)
  have hB3 : Below w.heap.size w W3 := hB2.grown gr3 (by omega) (fun g hg => by have := (own2.lt g hg).1; omega)
  have hH3 : W3.heap[w.heap.size]? = some (.cells #[.bool st, .bool fi, .slice bo be.length bc, .slice so sou.length sc, .slice ao af.length ac, .slice tgo ta.length tc, .int .i64 cu] 55) := by rw [gr3.block _ (by omega) (fun hg => by have := (own2.lt _ hg.symm).1; omega)]; exact hH2
  have e3 : u3.length = af.length := sets3.1
  have hs3 := gr3.size
  obtain ⟨us, hus⟩ : ∃ us, us = [] ++ u1 ++ u2 ++ u3 := ⟨_, rfl⟩
  obtain ⟨l, hl⟩ : ∃ l, l = be ++ sou ++ af := ⟨_, rfl⟩
  have hSets : K.Sets w us l := by rw [hus, hl]; simpa using (sets1.append sets2).append sets3
  have hlen : l.length = be.length + sou.length + af.length := by rw [hl]; simp only [List.length_append]
  have HLen : Hid (l.length = be.length + sou.length + af.length) := hlen
  have hl60 : l.length ≤ 60 := by omega
  have hl0 : 0 < l.length := by omega
  rw [← hus] at own3
  rw [← hl] at HMB HG
  have HS : Hid (K.Sets w us l) := hSets
  obtain ⟨g, cap, hv3, hgB, hgc⟩ : ∃ g cap, v3 = .slice (some ⟨g, 0, none⟩) l.length cap ∧ w.heap.size + 1 ≤ g ∧ ∀ (j : Nat) u, us[j]? = some u → W3.cell? ⟨g, 0 + j, none⟩ = some u := by
    have hc := fun g hg => World.ownsRow.cells own3 (g := g) hg
    rcases own3.2 with ⟨_, h0⟩ | ⟨g, cap, cur, hv, hB, _⟩
    · rw [hSets.1] at h0; omega
    · refine ⟨g, cap, by rw [hv, hSets.1], hB, fun j u hj => ?_⟩
      have := hc g (by rw [hv]; rfl) j u hj
      rw [L.addr_add] at this
      exact this
  have HGC : Hid (∀ (j : Nat) u, us[j]? = some u → W3.cell? ⟨g, 0 + j, none⟩ = some u) := hgc
  subst hv3
  have c2 := K.at_box (i := 2) hH0 rfl
  have c3 := K.at_box (i := 3) hH0 rfl
  have c4 := K.at_box (i := 4) hH0 rfl
  have c12 := K.at_box (i := 2) hH1 rfl
  have c13 := K.at_box (i := 3) hH1 rfl
  have c14 := K.at_box (i := 4) hH1 rfl
  have c22 := K.at_box (i := 2) hH2 rfl
  have c23 := K.at_box (i := 3) hH2 rfl
  have c24 := K.at_box (i := 4) hH2 rfl
  have HB3 : Hid (Below w.heap.size w W3) := hB3
  have HH3 : Hid (W3.heap[w.heap.size]? = some (.cells #[.bool st, .bool fi, .slice bo be.length bc, .slice so sou.length sc, .slice ao af.length ac, .slice tgo ta.length tc, .int .i64 cu] 55)) := hH3
  clear hH0 hH0' hH1 hH2 hH3 hB0 hB1 hB2 hB3 own1 own2 own3 gr1 gr2 gr3 V1 V2 V3 sets1 sets2 sets3 hSets hlen hgc R1 R2 R3 R4 hus hl
  go_enter Tryz.func35, Tryz.ntmps35
  go_wp2
  rw [← hW0]
  clear hW0
  have c32 := K.at_box (i := 2) HH3.out rfl
  have c33 := K.at_box (i := 3) HH3.out rfl
  have c34 := K.at_box (i := 4) HH3.out rfl
  have HR1 : Hid (∀ ty, (Builtin.append_ #[53, 53] ty #[.slice none 0 0, .slice bo be.length bc]).run Tryz.prog W0.drew = .ok v1 W1) := run1
  have HR2 : Hid (∀ ty, (Builtin.append_ #[53, 53] ty #[v1, .slice so sou.length sc]).run Tryz.prog W1 = .ok v2 W2) := run2
  have HR3 : Hid (∀ ty, (Builtin.append_ #[53, 53] ty #[v2, .slice ao af.length ac]).run Tryz.prog W2 = .ok (.slice (some ⟨g, 0, none⟩) l.length cap) W3) := run3
  clear run1 run2 run3
  go_region_held3 (fun w' => w'.cell? ⟨w.heap.size, 2, none⟩ = some (.slice bo be.length bc) ∧ w'.cell? ⟨w.heap.size, 3, none⟩ = some (.slice so sou.length sc) ∧ w'.cell? ⟨w.heap.size, 4, none⟩ = some (.slice ao af.length ac))
    (first | exact ⟨c12, c13, c14⟩ | exact ⟨c22, c23, c24⟩ | exact ⟨c32, c33, c34⟩ | go_keep)
    (first | (refine K.step_run (by rfl) (.tmp 12) (.tmp 14) (by rfl) _ _ v1 W1 (by rfl) (by rfl) HR1.out ?_) | (refine K.step_run (by rfl) (.tmp 15) (.tmp 17) (by rfl) _ _ v2 W2 (by rfl) (by rfl) HR2.out ?_) | (refine K.step_run (by rfl) (.tmp 18) (.tmp 20) (by rfl) _ _ _ W3 (by rfl) (by rfl) HR3.out ?_) | fail)
  have hneg : -9223372036854775808 ≤ k - (be.length : Int) := by omega
  clear c2 c3 c4 c12 c13 c14 c22 c23 c24 HR1 HR2 HR3
  go_wp2
  go_loopw [29] (fun i wr => ∃ j : Nat, j ≤ l.length ∧ i = .int .i64 j ∧ Hid (K.runAt t (k - be.length) l = K.runAt t (k - be.length + j) (l.drop j)) ∧ Hid (Below w.heap.size w wr ∧ Below W3.heap.size W3 wr)) (fun i _ => l.length - (intOf i).toNat)
  case atStart => exact ⟨0, Nat.zero_le _, rfl, by show _ = _; simp, HB3.out, Below.refl _ _⟩
  case round =>
    obtain ⟨j, hj, rfl, HW, HB⟩ := hrel
    have HBw : Hid (Below w.heap.size w wr) := HB.out.1
    have HHr : Hid (wr.heap[w.heap.size]? = some (.cells #[.bool st, .bool fi, .slice bo be.length bc, .slice so sou.length sc, .slice ao af.length ac, .slice tgo ta.length tc, .int .i64 cu] 55)) := K.blk_below HH3.out HB.out.2
    by_cases hlt : j < l.length
    · obtain ⟨s, hsj⟩ : ∃ s, l[j]? = some s := ⟨l[j], by simp [hlt]⟩
      obtain ⟨u, hu⟩ : ∃ u, us[j]? = some u := ⟨us[j]'(by rw [HS.out.1]; exact hlt), by simp⟩
      obtain ⟨⟨sso, ssc, rfl⟩, R1, F1⟩ := HS.out.2 j u s hu hsj
      have c1 := HGC.out j _ hu
      have hbg := L.block_lt c1
      rw [← HB.out.2.cell (p := ⟨g, _, none⟩) hbg, Nat.zero_add] at c1
      obtain ⟨hN, hlen⟩ := HG.out s (List.mem_of_getElem? hsj)
      have HD := K.runAt_drop (t := t) (k := k - be.length) hsj
      rw [← HW.out] at HD
      have hfalse : ∀ b, K.runAt t (k - be.length) l = (false && b) → mb = false := fun b h => by rw [HMB.out, h]; simp
      have HF : Hid (∀ b, K.runAt t (k - be.length) l = (false && b) → mb = false) := hfalse
      clear hfalse hu hsj
      by_cases h1 : k - (be.length : Int) + j < 0
      · have hf := HF.out false (by rw [HD, decide_eq_false (show ¬ (0 ≤ k - (be.length : Int) + j) by omega)]; simp only [Bool.false_and])
        clear HD
        go_wp2
        go_ret
        first | exact ⟨L.ret_bool hf.symm, HBw.out⟩ | exact ⟨rfl, HBw.out⟩
      · by_cases h2 : (t.length : Int) ≤ k - (be.length : Int) + j
        · have hf := HF.out false (by rw [HD, decide_eq_false (show ¬ (k - (be.length : Int) + j < t.length) by omega)]; simp only [Bool.and_false, Bool.false_and])
          clear HD
          go_wp2
          go_ret
          first | exact ⟨L.ret_bool hf.symm, HBw.out⟩ | exact ⟨rfl, HBw.out⟩
        · obtain ⟨x, hx⟩ : ∃ x, t[(k - (be.length : Int) + j).toNat]? = some x := ⟨t[(k - (be.length : Int) + j).toNat]'(by omega), by simp⟩
          obtain ⟨_, _, he, _, htc⟩ := HT.out.below HBw.out (Nat.le_refl _)
          cases he
          obtain ⟨bt, offt, rfl, hct⟩ := htc (by intro h; subst h; simp at hx)
          have ct := hct _ x hx
          have hhas := refhas_any wr _ s x (R1.below HBw.out (Nat.le_refl _)) (by omega)
          rw [decide_eq_true (show 0 ≤ k - (be.length : Int) + j by omega), decide_eq_true (show k - (be.length : Int) + j < t.length by omega), Bool.true_and, Bool.true_and] at HD
          have hgd : t.getD (k - (be.length : Int) + j).toNat 0 = x := by simp [List.getD, hx]
          rw [hgd] at HD
          generalize S.memb s x = mm at HD hhas
          have HD2 : Hid (K.runAt t (k - be.length) l = (mm && K.runAt t (k - be.length + (j + 1 : Nat)) (l.drop (j + 1)))) := HD
          have hsz := HBw.out.size
          have hsz2 := HB.out.2.size
          clear HD hct htc hx hgd R1 F1 hN
          go_wp2_with fail
          refine hhas.mono ?_
          rintro e w1 ⟨rfl, hb⟩
          have HB1 : Hid (Below w.heap.size w w1 ∧ Below W3.heap.size W3 w1) := ⟨HBw.out.trans (hb.mono hsz), HB.out.2.trans (hb.mono hsz2)⟩
          clear hhas hb ct c1
          cases mm with
          | false =>
            have hf := HF.out _ HD2.out
            go_wp2
            go_ret
            first | exact ⟨L.ret_bool hf.symm, HB1.out.1⟩ | exact ⟨rfl, HB1.out.1⟩
          | true =>
            go_wp2
            go_roundw
            case rel => exact ⟨j + 1, by omega, by go_num, by show _ = _; rw [HD2.out]; rfl, HB1.out⟩
            case measure => simp [intOf]; omega
    · have hrun : K.runAt t (k - be.length) l = true := by rw [HW.out, List.drop_eq_nil_of_le (by omega)]; rfl
      have HM2 : Hid (mb = (!(st && decide (0 < k - (be.length : Int))) && !(fi && decide (k + sou.length + af.length < (t.length : Int))))) := by
        show _ = _
        rw [HMB.out, hrun]; simp
      have d0 := K.at_box (i := 0) HHr.out rfl
      have d1 := K.at_box (i := 1) HHr.out rfl
      have hsum : k - (be.length : Int) + l.length = k + sou.length + af.length := by have := HLen.out; omega
      have HSum : Hid (k - (be.length : Int) + l.length = k + sou.length + af.length) := hsum
      clear hrun HMB HG HGC HS HT HW HB HH3 HHr hsum
      by_cases h3 : st = true ∧ 0 < k - (be.length : Int)
      · obtain ⟨rfl, h3⟩ := h3
        have hf : mb = false := by rw [HM2.out, decide_eq_true h3]; rfl
        clear HM2
        go_wp2
        go_ret
        first | exact ⟨L.ret_bool hf.symm, HBw.out⟩ | exact ⟨rfl, HBw.out⟩
      · by_cases h4 : fi = true ∧ k - (be.length : Int) + l.length < t.length
        · obtain ⟨rfl, h4⟩ := h4
          have hf : mb = false := by
            rw [HM2.out, ← HSum.out, decide_eq_true h4]; simp
          clear HM2
          cases st with
          | false =>
            go_wp2
            go_ret
            first | exact ⟨L.ret_bool hf.symm, HBw.out⟩ | exact ⟨rfl, HBw.out⟩
          | true =>
            have h5 : ¬ 0 < k - (be.length : Int) := fun h => h3 ⟨rfl, h⟩
            go_wp2
            go_ret
            first | exact ⟨L.ret_bool hf.symm, HBw.out⟩ | exact ⟨rfl, HBw.out⟩
        · have h5 : st = true → k - (be.length : Int) ≤ 0 := fun h => Int.not_lt.1 fun h' => h3 ⟨h, h'⟩
          have h6 : fi = true → (t.length : Int) ≤ k - (be.length : Int) + l.length := fun h => Int.not_lt.1 fun h' => h4 ⟨h, h'⟩
          have hf : mb = true := by
            rw [HM2.out, ← HSum.out]
            cases st <;> cases fi <;> simp at h5 h6 ⊢ <;> omega
          clear HM2 h3 h4
          rcases Bool.eq_false_or_eq_true st with hst | hst <;> rcases Bool.eq_false_or_eq_true fi with hfi | hfi
          all_goals
            subst hst hfi
            simp only [forall_const, Bool.false_eq_true, false_imp_iff] at h5 h6
            go_wp2
            go_ret
            first | exact ⟨L.ret_bool hf.symm, HBw.out⟩ | exact ⟨rfl, HBw.out⟩

end Go.Proofs.YtlmmjefplbcapaaGreat

/-
  Which: what the document answers.
-/
namespace Go.Proofs.YtlmmjefplbcapaaGreat
open Go.RowKit Go.Shelf
set_option maxRecDepth 20000
set_option linter.unusedSimpArgs false
set_option linter.unusedVariables false

set_option maxHeartbeats 2000000 in
theorem rWhich8_any (w : World) (v : Value) (l : List K.Rule) (R0 : V.Rus w v l) (hl : l.length ≤ 200) (hE : ∀ r ∈ l, K.ruleE r = 0) (vt : Value) (t : List Int) (Rt : L.Rd w vt .i32 t) (ht : t.length ≤ 4000) (k : Int) (hk0 : 0 ≤ k) (hk1 : k ≤ t.length) :
    Calls Tryz.prog 22 #[v, vt, .int .i64 k] w fun e w' => e = .returned (.int .i64 (K.which l t k)) ∧ Below w.heap.size w w' := by
  have HR : Hid (V.Rus w v l) := R0
  have HT : Hid (L.Rd w vt .i32 t) := Rt
  have HE0 : Hid (∀ r ∈ l, K.ruleE r = 0) := hE
  obtain ⟨lao, lcap, rfl⟩ := R0.len
  obtain ⟨xo, xc, rfl, _⟩ := Rt
  clear R0 hE
  obtain ⟨o, HO⟩ : ∃ o, Hid (K.whichN t k 0 l = o) := ⟨_, rfl⟩
  unfold K.which
  rw [HO.out]
  go_enter Tryz.func22, Tryz.ntmps22
  go_wp2
  go_loopw [10] (fun i wr => ∃ j : Nat, j ≤ l.length ∧ i = .int .i64 j ∧ Hid (K.whichN t k j (l.drop j) = o) ∧ Hid (Below w.heap.size w wr)) (fun i _ => l.length - (intOf i).toNat)
  case atStart => exact ⟨0, Nat.zero_le _, rfl, HO, Below.refl _ w⟩
  case round =>
    obtain ⟨j, hj, rfl, HW, HB⟩ := hrel
    by_cases hlt : j < l.length
    · obtain ⟨p, hp⟩ : ∃ x, l[j]? = some x := ⟨l[j], by simp [hlt]⟩
      obtain ⟨ao', cap', e', _, hcs⟩ := HR.out.below HB.out
      cases e'
      obtain ⟨b, off, rfl, hcell⟩ := hcs (by intro h; subst h; simp at hlt)
      obtain ⟨bo, bc, so, sc, ao, ac, tgo, tc, a0, a1, a2, a3, a4, a5, a6, hP⟩ := hcell j p hp
      have HE2 : Hid (K.whichN t k j (l.drop j) = if K.matchB p t k = true then (j : Int) else K.whichN t k (j + 1) (l.drop (j + 1))) := K.whichN_drop hp
      have hsz := HB.out.size
      have HW2 : Hid (Calls Tryz.prog 35 #[.agg #[.bool p.start, .bool p.fin, .slice bo p.before.length bc, .slice so p.source.length sc, .slice ao p.after.length ac, .slice tgo p.target.length tc, .int .i64 p.cursor], .slice xo t.length xc, .int .i64 k] wr fun e w' => e = .returned (.bool (K.matchB p t k)) ∧ Below wr.heap.size wr w') := rMatches_any _ _ p hP (HE0.out p (List.mem_of_getElem? hp)) _ t (HT.out.below HB.out (Nat.le_refl _)) ht k hk0 hk1
      obtain ⟨z, HZ⟩ : ∃ z, Hid (K.matchB p t k = z) := ⟨_, rfl⟩
      rw [HZ.out] at HW2 HE2
      clear hp hcell hcs hP
      obtain ⟨st, fi, be, sou, af, ta, cu⟩ := p
      simp only at a0 a1 a2 a3 a4 a5 a6 HW2
      go_wp2_with fail
      refine HW2.out.mono ?_
      rintro e w1 ⟨rfl, B1⟩
      have HB1 : Hid (Below w.heap.size w w1) := HB.out.trans (B1.mono hsz)
      clear B1
      cases z with
      | false =>
        go_wp2
        go_roundw
        case rel => exact ⟨j + 1, by omega, by go_num, by show _ = _; rw [← HW.out, HE2.out]; simp, HB1⟩
        case measure => simp [intOf]; omega
      | true =>
        go_wp2
        go_ret
        have h := HE2.out
        rw [HW.out, if_pos trivial] at h
        exact ⟨by rw [h]; rfl, HB1.out⟩
    · have h := HW.out
      rw [List.drop_eq_nil_of_le (by omega)] at h
      go_wp2
      go_ret
      exact ⟨by rw [← h]; rfl, HB.out⟩


end Go.Proofs.YtlmmjefplbcapaaGreat
