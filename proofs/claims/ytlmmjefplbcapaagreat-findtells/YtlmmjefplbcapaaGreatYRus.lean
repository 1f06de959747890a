/-
  What is wrong with rules and texts: what the program answers.
-/
import Derived.Test.YtlmmjefplbcapaaGreatSWrong
import Derived.Test.YtlmmjefplbcapaaGreatRuFrame
import Derived.Shelf.Abstract
import Derived.Test.YtlmmjefplbcapaaGreatKRight
import Derived.Test.YtlmmjefplbcapaaGreatYHead
import Derived.Test.YtlmmjefplbcapaaGreatQFrame
namespace Go.Proofs.YtlmmjefplbcapaaGreat
open Go.RowKit Go.Shelf
set_option maxRecDepth 20000
set_option linter.unusedSimpArgs false
set_option linter.unusedVariables false

set_option maxHeartbeats 1000000 in
theorem mwrongSets_any (w : World) (v : Value) (l : List (List S.Sp)) (R : K.Ss w v l) :
    Calls Tryz.prog 77 #[v] w fun e w' => e = .returned (.int .i64 (K.setsE l)) ∧ Below w.heap.size w w' := by
  have HR0 : Hid (K.Ss w v l) := R
  have hfew := R.few
  obtain ⟨ao, cap, rfl⟩ := R.len
  clear R
  unfold K.setsE
  by_cases hbig : 20 < l.length
  · rw [if_pos hbig]
    go_enter Tryz.func77, Tryz.ntmps77
    go_wp2
    go_ret
    exact ⟨rfl, Below.refl _ w⟩
  · rw [if_neg hbig]
    go_enter Tryz.func77, Tryz.ntmps77
    go_wp2
    go_loopw [11] (fun i wr => ∃ k : Nat, k ≤ l.length ∧ i = .int .i64 k ∧ Hid (K.firstE l = K.firstE (l.drop k)) ∧ Hid (Below w.heap.size w wr)) (fun i _ => l.length - (intOf i).toNat)
    case atStart => exact ⟨0, Nat.zero_le _, rfl, rfl, Below.refl _ w⟩
    case round =>
      obtain ⟨k, hk, rfl, HW, HB⟩ := hrel
      by_cases hlt : k < l.length
      · obtain ⟨s, hs⟩ : ∃ s, l[k]? = some s := ⟨l[k], by simp [hlt]⟩
        obtain ⟨b, off, so, sc, rfl, c1, R1, F1⟩ := (HR0.out.below HB.out).at hs
        have HD := K.firstE_drop hs
        rw [← HW.out] at HD
        have hsz := HB.out.size
        have hw := wrong_any wr _ s R1 F1
        clear R1 F1 hs
        obtain ⟨e0, he0⟩ : ∃ e0, e0 = S.wrongE s := ⟨_, rfl⟩
        rw [← he0] at HD hw
        have HD2 : Hid (K.firstE l = if e0 = 0 then K.firstE (l.drop (k + 1)) else e0) := HD
        clear HD he0
        by_cases h0 : e0 = 0
        · subst h0
          go_wp2_with fail
          refine hw.mono ?_
          rintro e w1 ⟨rfl, hb⟩
          have HB1 : Hid (Below w.heap.size w w1) := HB.out.trans (hb.mono hsz)
          go_wp2
          go_roundw
          case rel => exact ⟨k + 1, by omega, by go_num, by show _ = _; have := HD2.out; simpa using this, HB1.out⟩
          case measure => simp [intOf]; omega
        · go_wp2_with fail
          refine hw.mono ?_
          rintro e w1 ⟨rfl, hb⟩
          have HB1 : Hid (Below w.heap.size w w1) := HB.out.trans (hb.mono hsz)
          go_wp2
          go_ret
          exact ⟨by have h1 := HD2.out; rw [if_neg h0] at h1; rw [h1]; rfl, HB1.out⟩
      · go_wp2
        go_ret
        refine ⟨?_, HB.out⟩
        rw [HW.out, List.drop_eq_nil_of_le (by omega)]
        rfl

set_option maxHeartbeats 4000000 in
theorem mWrong_any (w : World) (v : Value) (r : K.Rule) (R : K.RuIs w v r) :
    Calls Tryz.prog 66 #[v] w fun e w' => e = .returned (.int .i64 (K.ruleE r)) ∧ Below w.heap.size w w' := by
  obtain ⟨bo, bc, so, sc, ao, ac, tgo, tc, rfl, R1, R2, R3, R4, hl4, hcur⟩ := R
  have f2 := R2.few
  have hI1 : -9223372036854775808 ≤ r.cursor := hcur.1
  have hI2 : r.cursor ≤ 9223372036854775807 := hcur.2
  have B2 : Hid (∀ o1 o2, Below w.heap.size w ((w.alloc o1).alloc o2)) := fun o1 o2 => ((Below.refl _ w).alloc (Nat.le_refl _) o1).alloc (by simp) o2
  have C1 : Hid (∀ X, Below w.heap.size w X → Calls Tryz.prog 77 #[.slice bo r.before.length bc] X fun e w' => e = .returned (.int .i64 (K.setsE r.before)) ∧ Below X.heap.size X w') := fun X hX => mwrongSets_any X _ _ (R1.below hX)
  have C2 : Hid (∀ X, Below w.heap.size w X → Calls Tryz.prog 77 #[.slice so r.source.length sc] X fun e w' => e = .returned (.int .i64 (K.setsE r.source)) ∧ Below X.heap.size X w') := fun X hX => mwrongSets_any X _ _ (R2.below hX)
  have C3 : Hid (∀ X, Below w.heap.size w X → Calls Tryz.prog 77 #[.slice ao r.after.length ac] X fun e w' => e = .returned (.int .i64 (K.setsE r.after)) ∧ Below X.heap.size X w') := fun X hX => mwrongSets_any X _ _ (R3.below hX)
  have C4 : Hid (r.target.length ≤ 20 → ∀ X, Below w.heap.size w X → Calls Tryz.prog 29 #[.slice tgo r.target.length tc] X fun e w' => e = .returned (.bool (K.allR r.target)) ∧ Below X.heap.size X w') := fun h X hX => mallRight_any X _ _ (R4.below hX (Nat.le_refl _)) (by omega)
  obtain ⟨o, HO⟩ : ∃ o, Hid (K.ruleE r = o) := ⟨_, rfl⟩
  rw [HO.out]
  unfold K.ruleE K.tailE at HO
  obtain ⟨e1, he1⟩ : ∃ e1, e1 = K.setsE r.before := ⟨_, rfl⟩
  obtain ⟨e2, he2⟩ : ∃ e2, e2 = K.setsE r.source := ⟨_, rfl⟩
  obtain ⟨e3, he3⟩ : ∃ e3, e3 = K.setsE r.after := ⟨_, rfl⟩
  obtain ⟨e4, he4⟩ : ∃ e4, e4 = K.allR r.target := ⟨_, rfl⟩
  rw [← he1, ← he2, ← he3, ← he4] at HO
  rw [← he1] at C1
  rw [← he2] at C2
  rw [← he3] at C3
  rw [← he4] at C4
  clear he1 he2 he3 he4 R1 R2 R3 R4 hcur
  obtain ⟨st, fi, be, sou, af, ta, cu⟩ := r
  simp only at *
  go_enter Tryz.func66, Tryz.ntmps66
  go_wp2
  refine wp_loop_rounds 4 ?_
  rw [rounds_succ]
  go_wp2_with fail
  refine (C1.out _ (B2.out _ _)).mono ?_
  rintro e w1 ⟨rfl, hb⟩
  obtain ⟨h1, h2, HB1, hs1⟩ := K.two_boxes hb
  have HB1' : Hid (Below w.heap.size w w1) := HB1
  have HH1 : Hid (w1.heap[w.heap.size]? = some (.cells #[.bool st, .bool fi, .slice bo be.length bc, .slice so sou.length sc, .slice ao af.length ac, .slice tgo ta.length tc, .int .i64 cu] 55) ∧ w1.heap[w.heap.size + 1]? = some (.cells #[.slice bo be.length bc, .slice so sou.length sc, .slice ao af.length ac] 53)) := ⟨h1, h2⟩
  clear hb HB1 h1 h2
  by_cases q1 : e1 = 0
  · subst q1
    have d2 := K.at_box (i := 1) HH1.out.2 rfl
    go_wp2
    rw [rounds_succ]
    go_wp2_with fail
    refine (C2.out _ HB1'.out).mono ?_
    rintro e w2 ⟨rfl, hb⟩
    have HB2 : Hid (Below w.heap.size w w2) := HB1'.out.trans (hb.mono (by omega))
    have HH2 : Hid (w2.heap[w.heap.size]? = some (.cells #[.bool st, .bool fi, .slice bo be.length bc, .slice so sou.length sc, .slice ao af.length ac, .slice tgo ta.length tc, .int .i64 cu] 55) ∧ w2.heap[w.heap.size + 1]? = some (.cells #[.slice bo be.length bc, .slice so sou.length sc, .slice ao af.length ac] 53)) := ⟨K.blk_below HH1.out.1 hb, K.blk_below HH1.out.2 hb⟩
    have hs2 := hb.size
    clear hb d2
    by_cases q2 : e2 = 0
    · subst q2
      have d3 := K.at_box (i := 2) HH2.out.2 rfl
      go_wp2
      rw [rounds_succ]
      go_wp2_with fail
      refine (C3.out _ HB2.out).mono ?_
      rintro e w3 ⟨rfl, hb⟩
      have HB3 : Hid (Below w.heap.size w w3) := HB2.out.trans (hb.mono (by omega))
      have HH3 : Hid (w3.heap[w.heap.size]? = some (.cells #[.bool st, .bool fi, .slice bo be.length bc, .slice so sou.length sc, .slice ao af.length ac, .slice tgo ta.length tc, .int .i64 cu] 55)) := K.blk_below HH2.out.1 hb
      have hs3 := hb.size
      clear hb d3
      by_cases q3 : e3 = 0
      · subst q3
        have d3 := K.at_box (i := 3) HH3.out rfl
        have d5 := K.at_box (i := 5) HH3.out rfl
        have d6 := K.at_box (i := 6) HH3.out rfl
        have HO2 : Hid ((if sou.length = 0 then (6 : Int) else if 20 < ta.length then 5 else if e4 = false then 3 else if cu < 0 then 3 else if (ta.length : Int) < cu then 3 else 0) = o) := by
          have h := HO.out
          rw [if_neg (by simp), if_neg (by simp), if_neg (by simp)] at h
          exact h
        go_wp2
        rw [rounds_succ]
        by_cases q4 : sou.length = 0
        · go_wp2
          go_ret
          exact ⟨by rw [← HO2.out, if_pos q4]; rfl, HB3.out⟩
        · by_cases q5 : 20 < ta.length
          · go_wp2
            go_ret
            exact ⟨by rw [← HO2.out, if_neg q4, if_pos q5]; rfl, HB3.out⟩
          · have hC4 := C4.out (by omega) w3 HB3.out
            go_wp2_with fail
            refine hC4.mono ?_
            rintro e w4 ⟨rfl, hb⟩
            have HB4 : Hid (Below w.heap.size w w4) := HB3.out.trans (hb.mono (by omega))
            have HH4 := K.blk_below HH3.out hb
            have g5 := K.at_box (i := 5) HH4 rfl
            have g6 := K.at_box (i := 6) HH4 rfl
            clear hb HH4 d3 d5 d6
            have HO3 : Hid ((if e4 = false then (3 : Int) else if cu < 0 then 3 else if (ta.length : Int) < cu then 3 else 0) = o) := by
              have h := HO2.out
              rw [if_neg q4, if_neg q5] at h
              exact h
            cases e4 with
            | false =>
              go_wp2
              go_ret
              exact ⟨by rw [← HO3.out]; rfl, HB4.out⟩
            | true =>
              by_cases q6 : cu < 0
              · go_wp2
                go_ret
                exact ⟨by rw [← HO3.out, if_neg (by simp), if_pos q6]; rfl, HB4.out⟩
              · by_cases q7 : (ta.length : Int) < cu
                · go_wp2
                  go_ret
                  exact ⟨by rw [← HO3.out, if_neg (by simp), if_neg (by omega), if_pos (by omega)]; rfl, HB4.out⟩
                · go_wp2
                  go_ret
                  exact ⟨by rw [← HO3.out, if_neg (by simp), if_neg (by omega), if_neg (by omega)]; rfl, HB4.out⟩
      · go_wp2
        go_ret
        exact ⟨by rw [← HO.out, if_neg (by simp), if_neg (by simp), if_pos q3]; rfl, HB3.out⟩
    · go_wp2
      go_ret
      exact ⟨by rw [← HO.out, if_neg (by simp), if_pos q2]; rfl, HB2.out⟩
  · go_wp2
    go_ret
    exact ⟨by rw [← HO.out, if_pos q1]; rfl, HB1'.out⟩

end Go.Proofs.YtlmmjefplbcapaaGreat

/-
  What is wrong with rules: what the program answers, and what the document's text answers.
-/
namespace Go.Proofs.YtlmmjefplbcapaaGreat
open Go.RowKit
set_option maxRecDepth 20000
set_option linter.unusedSimpArgs false
set_option linter.unusedVariables false

set_option maxHeartbeats 2000000 in
theorem qWrong_any (w : World) (v : Value) (l : List K.Rule) (R0 : V.Rus w v l) :
    Calls Tryz.prog 55 #[v] w fun e w' => e = .returned (.agg #[.int .i64 (K.rulesF l).1, .int .i64 (K.rulesF l).2]) ∧ Below w.heap.size w w' := by
  have HR : Hid (V.Rus w v l) := R0
  have hfew := R0.few
  obtain ⟨ao, cap, rfl⟩ := R0.len
  clear R0
  have HA : Hid (∀ o, Below w.heap.size w (w.alloc o)) := fun o => (Below.refl _ w).alloc (Nat.le_refl _) o
  unfold K.rulesF
  by_cases hbig : 200 < l.length
  · rw [if_pos hbig]
    go_enter Tryz.func55, Tryz.ntmps55
    go_wp2
    refine bodyPost_ret (v := .agg #[.int .i64 5, .int .i64 0]) (by simp [results, Tryz.results55, go_sem]) rfl ?_
    exact ⟨rfl, HA.out _⟩
  · rw [if_neg hbig]
    obtain ⟨⟨o1, o2⟩, HO⟩ : ∃ o, Hid (K.firstR 0 l = o) := ⟨_, rfl⟩
    rw [HO.out]
    go_enter Tryz.func55, Tryz.ntmps55
    go_wp2
    go_loopw [12] (fun i wr => ∃ k : Nat, k ≤ l.length ∧ i = .int .i64 k ∧ Hid (K.firstR k (l.drop k) = (o1, o2)) ∧ Hid (Below w.heap.size w wr) ∧ Hid (wr.heap[w.heap.size]? = some (.cells #[.int .i64 0, .int .i64 0] 27))) (fun i _ => l.length - (intOf i).toNat)
    case atStart => exact ⟨0, Nat.zero_le _, rfl, HO, HA.out _, heap_alloc_new w _⟩
    case round =>
      obtain ⟨k, hk, rfl, HE, HB, HX⟩ := hrel
      have hX := HX.out
      by_cases hlt : k < l.length
      · obtain ⟨p, hp⟩ : ∃ x, l[k]? = some x := ⟨l[k], by simp [hlt]⟩
        obtain ⟨ao', cap', e', _, hcs⟩ := HR.out.below HB.out
        cases e'
        obtain ⟨b, off, rfl, hcell⟩ := hcs (by intro h; subst h; simp at hlt)
        obtain ⟨bo, bc, so, sc, ao, ac, tgo, tc, c0, c1, c2, c3, c4, c5, c6, hP⟩ := hcell k p hp
        have HE2 : Hid (K.firstR k (l.drop k) = if K.ruleE p = 0 then K.firstR (k + 1) (l.drop (k + 1)) else (K.ruleE p, (k : Int))) := K.firstR_drop hp
        have hsz := HB.out.size
        have HW : Hid (∀ o, Calls Tryz.prog 66 #[.agg #[.bool p.start, .bool p.fin, .slice bo p.before.length bc, .slice so p.source.length sc, .slice ao p.after.length ac, .slice tgo p.target.length tc, .int .i64 p.cursor]] (wr.alloc o) fun e w' => e = .returned (.int .i64 (K.ruleE p)) ∧ Below (wr.alloc o).heap.size (wr.alloc o) w') := fun o => mWrong_any _ _ p (V.rule_keeps hP (R.Keeps.alloc wr o))
        obtain ⟨z, HZ⟩ : ∃ z, Hid (K.ruleE p = z) := ⟨_, rfl⟩
        rw [HZ.out] at HW HE2
        clear hp hcell hcs hP hX
        obtain ⟨st, fi, be, sou, af, ta, cu⟩ := p
        simp only at c0 c1 c2 c3 c4 c5 c6 HW
        go_wp2_with fail
        refine (HW.out _).mono ?_
        rintro e w1 ⟨rfl, b1⟩
        obtain ⟨_, B1, hl1⟩ := K.one_box b1
        have hX1 : w1.heap[w.heap.size]? = some (.cells #[.int .i64 0, .int .i64 0] 27) := by
          rw [B1.block _ (Array.getElem?_eq_some_iff.1 HX.out).1]; exact HX.out
        have HB1 : Hid (Below w.heap.size w w1) := HB.out.trans (B1.mono hsz)
        have HX1 : Hid _ := hX1
        obtain ⟨x0, x1, f0, f1⟩ := K.box2 hX1
        clear b1 B1 hX1
        by_cases hz : z = 0
        · subst hz
          go_wp2
          go_roundw
          case rel => exact ⟨k + 1, by omega, by go_num, by show _ = _; rw [← HE.out, HE2.out]; simp, HB1, HX1⟩
          case measure => simp [intOf]; omega
        · go_wp2
          refine bodyPost_ret (v := .agg #[.int .i64 z, .int .i64 k]) (by simp [results, Tryz.results55, go_sem, *]) rfl ?_
          have h := HE2.out
          rw [HE.out, if_neg hz] at h
          cases h
          exact ⟨rfl, (HB1.out.setCell (p := ⟨w.heap.size, 0, none⟩) (Nat.le_refl _) _).setCell (p := ⟨w.heap.size, 1, none⟩) (Nat.le_refl _) _⟩
      · obtain ⟨x0, x1, f0, f1⟩ := K.box2 hX
        have h := HE.out
        rw [List.drop_eq_nil_of_le (by omega)] at h
        cases h
        go_wp2
        refine bodyPost_ret (v := .agg #[.int .i64 0, .int .i64 0]) (by simp [results, Tryz.results55, go_sem, *]) rfl ?_
        exact ⟨rfl, (HB.out.setCell (p := ⟨w.heap.size, 0, none⟩) (Nat.le_refl _) _).setCell (p := ⟨w.heap.size, 1, none⟩) (Nat.le_refl _) _⟩

end Go.Proofs.YtlmmjefplbcapaaGreat

/-
  Rules in memory: one of many, the first ones of many; the set with which a rule begins.
-/
namespace Go.Proofs.YtlmmjefplbcapaaGreat
open Go.RowKit Go.Shelf
set_option maxRecDepth 20000
set_option linter.unusedSimpArgs false
set_option linter.unusedVariables false

namespace K
/-- a rule among many: its cells -/
theorem Rus.rule {w : World} {ao : Option Addr} {n cap : Nat} {l : List Rule} (h : V.Rus w (.slice ao n cap) l) {j : Nat} {p : Rule} (hp : l[j]? = some p) :
    ∃ b off bo bc so sc ao2 ac tgo tc, ao = some ⟨b, off, none⟩ ∧
      w.cell? ⟨b, off + j * 7, none⟩ = some (.bool p.start) ∧ w.cell? ⟨b, off + j * 7 + 1, none⟩ = some (.bool p.fin) ∧ w.cell? ⟨b, off + j * 7 + 2, none⟩ = some (.slice bo p.before.length bc) ∧ w.cell? ⟨b, off + j * 7 + 3, none⟩ = some (.slice so p.source.length sc) ∧ w.cell? ⟨b, off + j * 7 + 4, none⟩ = some (.slice ao2 p.after.length ac) ∧ w.cell? ⟨b, off + j * 7 + 5, none⟩ = some (.slice tgo p.target.length tc) ∧ w.cell? ⟨b, off + j * 7 + 6, none⟩ = some (.int .i64 p.cursor) ∧
      RuIs w (.agg #[.bool p.start, .bool p.fin, .slice bo p.before.length bc, .slice so p.source.length sc, .slice ao2 p.after.length ac, .slice tgo p.target.length tc, .int .i64 p.cursor]) p := by
  obtain ⟨ao', cap', e', _, hcs⟩ := h
  cases e'
  obtain ⟨b, off, rfl, hcell⟩ := hcs (by intro h; subst h; simp at hp)
  obtain ⟨bo, bc, so, sc, ao, ac, tgo, tc, h⟩ := hcell j p hp
  exact ⟨b, off, bo, bc, so, sc, ao, ac, tgo, tc, rfl, h⟩
/-- the first ones of many rules -/
theorem Rus.upto {w : World} {ao : Option Addr} {n cap : Nat} {l : List Rule} (h : V.Rus w (.slice ao n cap) l) {k : Nat} (hk : k ≤ l.length) (c : Nat) : V.Rus w (.slice ao k c) (l.take k) := by
  have hf := h.few
  obtain ⟨ao', cap', e', _, hcs⟩ := h
  cases e'
  refine ⟨ao, c, by rw [List.length_take, Nat.min_eq_left hk], by rw [List.length_take]; omega, fun hz => ?_⟩
  obtain ⟨b, off, rfl, hcell⟩ := hcs (by intro h; subst h; simp at hz)
  refine ⟨b, off, rfl, fun j r hj => ?_⟩
  rw [List.getElem?_take] at hj
  split at hj
  · exact hcell j r hj
  · cases hj
theorem head_at {r : Rule} {s : List S.Sp} (h : r.source[0]? = some s) : headS r = s := by
  unfold headS
  cases hq : r.source with
  | nil => rw [hq] at h; simp at h
  | cons y l => rw [hq] at h; simpa using h
theorem head_ok {r : Rule} (h : ruleE r = 0) : S.Nf 0 (headS r) ∧ (headS r).length ≤ 200 := by
  obtain ⟨_, h2, _, h4, _⟩ := ruleE_zero h
  obtain ⟨s, hs⟩ : ∃ s, r.source[0]? = some s := ⟨r.source[0], by simp⟩
  rw [head_at hs]
  exact h2.2 s (List.mem_of_getElem? hs)
end K

end Go.Proofs.YtlmmjefplbcapaaGreat
