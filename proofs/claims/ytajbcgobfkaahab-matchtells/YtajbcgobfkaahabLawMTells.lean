/-
  scriptlaw7.MatchTells answers true, for every rule, every text and every place.
-/
import Derived.Test.YtajbcgobfkaahabMRef2
import Derived.Test.YtajbcgobfkaahabSame
namespace Go.Proofs.Ytajbcgobfkaahab
open Go.RowKit Go.Shelf
set_option maxRecDepth 20000
set_option linter.unusedSimpArgs false
set_option linter.unusedVariables false

theorem K.cells7 {w : World} {b : Nat} {v0 v1 v2 v3 v4 v5 v6 : Value} {t : TypeId} (h : w.heap[b]? = some (.cells #[v0, v1, v2, v3, v4, v5, v6] t)) :
    w.cell? ⟨b, 0, none⟩ = some v0 ∧ w.cell? ⟨b, 1, none⟩ = some v1 ∧ w.cell? ⟨b, 2, none⟩ = some v2 ∧ w.cell? ⟨b, 3, none⟩ = some v3 ∧ w.cell? ⟨b, 4, none⟩ = some v4 ∧ w.cell? ⟨b, 5, none⟩ = some v5 ∧ w.cell? ⟨b, 6, none⟩ = some v6 :=
  ⟨K.at_box (i := 0) h rfl, K.at_box (i := 1) h rfl, K.at_box (i := 2) h rfl, K.at_box (i := 3) h rfl, K.at_box (i := 4) h rfl, K.at_box (i := 5) h rfl, K.at_box (i := 6) h rfl⟩

set_option maxHeartbeats 8000000 in
theorem matchTells_any (w : World) (v : Value) (r : K.Rule) (R : K.RuIs w v r) (xo : Option Addr) (xc : Nat) (t : List Int) (Rt : L.Rd w (.slice xo t.length xc) .i32 t) (hcap : t.length ≤ xc) (ht : t.length ≤ 140737488355328) (k : Int) (hk : K.I64 k) :
    Calls Try.prog 3 #[v, .slice xo t.length xc, .int .i64 k] w fun e w' => e = .returned (.bool true) ∧ Below w.heap.size w w' := by
  have CRW : Hid (∀ X, Below w.heap.size w X → Calls Try.prog 4 #[v] X fun e w' => e = .returned (.int .i64 (K.ruleE r)) ∧ Below X.heap.size X w') := fun X hX => rWrong_any X v r (R.below hX)
  have CMW : Hid (∀ X, Below w.heap.size w X → Calls Try.prog 5 #[v] X fun e w' => e = .returned (.int .i64 (K.ruleE r)) ∧ Below X.heap.size X w') := fun X hX => mWrong_any X v r (R.below hX)
  have CMT : Hid (∀ X, Below w.heap.size w X → Calls Try.prog 6 #[.slice xo t.length xc] X fun e w' => e = .returned (.int .i64 (K.textE t)) ∧ Below X.heap.size X w') := fun X hX => mText_any X _ t (Rt.below hX (Nat.le_refl _)) ht
  have CRT : Hid (∀ X, Below w.heap.size w X → Calls Try.prog 7 #[.slice xo t.length xc] X fun e w' => e = .returned (.int .i64 (K.textE t)) ∧ Below X.heap.size X w') := fun X hX => rText_any X _ t (Rt.below hX (Nat.le_refl _)) ht
  have CMM : Hid (∀ X, Below w.heap.size w X → Calls Try.prog 8 #[v, .slice xo t.length xc, .int .i64 k] X fun e w' => e = .returned (.tuple #[.bool (K.matchesB r t k), .int .i64 (K.matchesE r t k)]) ∧ Below X.heap.size X w') := fun X hX => mMatches_any X v r (R.below hX) _ t (Rt.below hX (Nat.le_refl _)) ht k hk
  have CMP : Hid (∀ X, Below w.heap.size w X → Calls Try.prog 9 #[v, .slice xo t.length xc, .int .i64 k] X fun e w' => ∃ v', e = .returned (.tuple #[v', .int .i64 (K.putAt r t k), .bool (K.putOk r t k), .int .i64 (K.putErr r t k)]) ∧ L.Rd w' v' .i32 (K.putRes r t k) ∧ Below X.heap.size X w') := fun X hX => mPut_any X v r (R.below hX) xo xc t (Rt.below hX (Nat.le_refl _)) hcap ht k hk
  have CRM : Hid (K.matchesE r t k = 0 → ∀ X, Below w.heap.size w X → Calls Try.prog 10 #[v, .slice xo t.length xc, .int .i64 k] X fun e w' => e = .returned (.bool (K.matchB r t k)) ∧ Below X.heap.size X w') := fun h X hX =>
    have z := K.matchesE_zero h
    rMatches_any X v r (R.below hX) z.1 _ t (Rt.below hX (Nat.le_refl _)) (K.textE_zero z.2.1) k z.2.2.1 z.2.2.2
  have CRP : Hid (K.matchesE r t k = 0 → K.matchB r t k = true → ∀ X, Below w.heap.size w X → Calls Try.prog 11 #[v, .slice xo t.length xc, .int .i64 k] X fun e w' => ∃ v', e = .returned v' ∧ L.Rd w' v' .i32 (K.putL r t k) ∧ Below X.heap.size X w') := fun h h2 X hX => by
    have z := K.matchesE_zero h
    have y := K.match_in (K.ruleE_zero z.1).2.2.2.1 h2
    obtain ⟨n, rfl⟩ : ∃ n : Nat, k = n := ⟨k.toNat, by omega⟩
    exact rPut_any X v r (R.below hX) z.1 xo xc t (Rt.below hX (Nat.le_refl _)) hcap (K.textE_zero z.2.1) n (by omega)
  have HZ : Hid (K.matchesE r t k = 0 → K.ruleE r = 0 ∧ K.textE t = 0 ∧ 0 ≤ k ∧ k ≤ t.length) := K.matchesE_zero
  have hI1 : -9223372036854775808 ≤ k := hk.1
  have hI2 : k ≤ 9223372036854775807 := hk.2
  have HA : Hid (∀ o, Below w.heap.size w (w.alloc o)) := fun o => (Below.refl _ w).alloc (Nat.le_refl _) o
  have HE : Hid (K.matchesE r t k = if K.ruleE r ≠ 0 then K.ruleE r else if K.textE t ≠ 0 then K.textE t else if k < 0 ∨ (t.length : Int) < k then 3 else 0) := rfl
  have HMB : Hid (K.matchesB r t k = if K.matchesE r t k = 0 then K.matchB r t k else false) := rfl
  have HOk : Hid (K.putOk r t k = (decide (K.matchesE r t k = 0) && K.matchB r t k && decide ((K.putL r t k).length ≤ 4000))) := rfl
  have HErr : Hid (K.putErr r t k = if K.matchesE r t k ≠ 0 then K.matchesE r t k else if K.matchB r t k = false then 0 else if 4000 < (K.putL r t k).length then 4 else 0) := rfl
  have HAt : Hid (K.putAt r t k = if K.putOk r t k = true then k + r.cursor else 0) := rfl
  have HRes : Hid (K.putRes r t k = if K.putOk r t k = true then K.putL r t k else []) := rfl
  have HCur : Hid (K.ruleE r = 0 → 0 ≤ r.cursor ∧ r.cursor ≤ 20) := fun h => by
    have z := K.ruleE_zero h
    have h1 := z.2.2.2.2.1
    have h2 := z.2.2.2.2.2.2
    omega
  have HTL : Hid (K.textE t = 0 → t.length ≤ 4000) := K.textE_zero
  obtain ⟨bo, bc, so, sc, ao, ac, to, tc, rfl, _, _, _, _, _, _⟩ := R
  clear hk Rt
  generalize K.matchesE r t k = E at *
  generalize K.matchesB r t k = MB at *
  generalize K.matchB r t k = mb at *
  generalize K.putOk r t k = pk at *
  generalize K.putErr r t k = pe at *
  generalize K.putAt r t k = pa at *
  generalize K.putRes r t k = pr at *
  generalize K.putL r t k = pl at *
  generalize K.ruleE r = e1 at *
  generalize K.textE t = e2 at *
  by_cases q1 : e1 = 0
  · subst q1
    by_cases q2 : e2 = 0
    · subst q2
      have ht4 := HTL.out rfl
      by_cases q3 : k < 0 ∨ (t.length : Int) < k
      · obtain rfl : E = 3 := by rw [HE.out, if_neg (by simp), if_neg (by simp), if_pos q3]
        have hne : ¬ (3 : Int) = 0 := by first | assumption | decide
        obtain rfl : MB = false := by rw [HMB.out, if_neg hne]
        obtain rfl : pk = false := by rw [HOk.out, decide_eq_false hne]; simp
        obtain rfl : pe = 3 := by rw [HErr.out, if_pos hne]
        obtain rfl : pa = 0 := by rw [HAt.out]; simp
        obtain rfl : pr = [] := by rw [HRes.out]; simp
        clear HE HMB HOk HErr HAt HRes CRM CRP HZ HCur HTL
        by_cases q4 : k < 0
        · clear q3
          go_enter Try.func3, Try.ntmps3
          go_wp2_with fail
          refine (CRW.out _ (HA.out _)).mono ?_
          rintro e w1 ⟨rfl, hb⟩
          obtain ⟨hh1, hb1, hs1⟩ := K.one_box hb
          have HB1 : Hid (Below w.heap.size w w1) := hb1
          have HH1 : Hid (w1.heap[w.heap.size]? = some (.cells #[.bool r.start, .bool r.fin, .slice bo r.before.length bc, .slice so r.source.length sc, .slice ao r.after.length ac, .slice to r.target.length tc, .int .i64 r.cursor] 25)) := hh1
          obtain ⟨d0, d1, d2, d3, d4, d5, d6⟩ := K.cells7 HH1.out
          clear hb hb1 hh1
          go_wp2_with fail
          refine (CMW.out _ HB1.out).mono ?_
          rintro e w2 ⟨rfl, hb⟩
          have HB2 : Hid (Below w.heap.size w w2) := HB1.out.trans (hb.mono HB1.out.size)
          clear d0 d1 d2 d3 d4 d5 d6
          have HH2 : Hid (w2.heap[w.heap.size]? = some (.cells #[.bool r.start, .bool r.fin, .slice bo r.before.length bc, .slice so r.source.length sc, .slice ao r.after.length ac, .slice to r.target.length tc, .int .i64 r.cursor] 25)) := K.blk_below HH1.out hb
          obtain ⟨d0, d1, d2, d3, d4, d5, d6⟩ := K.cells7 HH2.out
          clear hb
          go_wp2_with fail
          refine (CMT.out _ HB2.out).mono ?_
          rintro e w3 ⟨rfl, hb⟩
          have HB3 : Hid (Below w.heap.size w w3) := HB2.out.trans (hb.mono HB2.out.size)
          clear d0 d1 d2 d3 d4 d5 d6
          have HH3 : Hid (w3.heap[w.heap.size]? = some (.cells #[.bool r.start, .bool r.fin, .slice bo r.before.length bc, .slice so r.source.length sc, .slice ao r.after.length ac, .slice to r.target.length tc, .int .i64 r.cursor] 25)) := K.blk_below HH2.out hb
          obtain ⟨d0, d1, d2, d3, d4, d5, d6⟩ := K.cells7 HH3.out
          clear hb
          go_wp2_with fail
          refine (CRT.out _ HB3.out).mono ?_
          rintro e w4 ⟨rfl, hb⟩
          have HB4 : Hid (Below w.heap.size w w4) := HB3.out.trans (hb.mono HB3.out.size)
          clear d0 d1 d2 d3 d4 d5 d6
          have HH4 : Hid (w4.heap[w.heap.size]? = some (.cells #[.bool r.start, .bool r.fin, .slice bo r.before.length bc, .slice so r.source.length sc, .slice ao r.after.length ac, .slice to r.target.length tc, .int .i64 r.cursor] 25)) := K.blk_below HH3.out hb
          obtain ⟨d0, d1, d2, d3, d4, d5, d6⟩ := K.cells7 HH4.out
          clear hb
          go_wp2_with fail
          refine (CRT.out _ HB4.out).mono ?_
          rintro e w5 ⟨rfl, hb⟩
          have HB5 : Hid (Below w.heap.size w w5) := HB4.out.trans (hb.mono HB4.out.size)
          clear d0 d1 d2 d3 d4 d5 d6
          have HH5 : Hid (w5.heap[w.heap.size]? = some (.cells #[.bool r.start, .bool r.fin, .slice bo r.before.length bc, .slice so r.source.length sc, .slice ao r.after.length ac, .slice to r.target.length tc, .int .i64 r.cursor] 25)) := K.blk_below HH4.out hb
          obtain ⟨d0, d1, d2, d3, d4, d5, d6⟩ := K.cells7 HH5.out
          clear hb
          go_wp2_with fail
          refine (CMM.out _ HB5.out).mono ?_
          rintro e w6 ⟨rfl, hb⟩
          have HB6 : Hid (Below w.heap.size w w6) := HB5.out.trans (hb.mono HB5.out.size)
          clear d0 d1 d2 d3 d4 d5 d6
          have HH6 : Hid (w6.heap[w.heap.size]? = some (.cells #[.bool r.start, .bool r.fin, .slice bo r.before.length bc, .slice so r.source.length sc, .slice ao r.after.length ac, .slice to r.target.length tc, .int .i64 r.cursor] 25)) := K.blk_below HH5.out hb
          obtain ⟨d0, d1, d2, d3, d4, d5, d6⟩ := K.cells7 HH6.out
          clear hb
          go_wp2_with fail
          refine (CMP.out _ HB6.out).mono ?_
          rintro e w7 ⟨v', rfl, rv, hb⟩
          have HB7 : Hid (Below w.heap.size w w7) := HB6.out.trans (hb.mono HB6.out.size)
          obtain ⟨po, pc, rfl, _⟩ := rv
          clear d0 d1 d2 d3 d4 d5 d6
          have HH7 : Hid (w7.heap[w.heap.size]? = some (.cells #[.bool r.start, .bool r.fin, .slice bo r.before.length bc, .slice so r.source.length sc, .slice ao r.after.length ac, .slice to r.target.length tc, .int .i64 r.cursor] 25)) := K.blk_below HH6.out hb
          obtain ⟨d0, d1, d2, d3, d4, d5, d6⟩ := K.cells7 HH7.out
          clear hb
          go_wp2
          go_ret
          exact ⟨L.ret_bool (by simp), HB7.out⟩
        · have q5 : (t.length : Int) < k := by omega
          clear q3
          go_enter Try.func3, Try.ntmps3
          go_wp2_with fail
          refine (CRW.out _ (HA.out _)).mono ?_
          rintro e w1 ⟨rfl, hb⟩
          obtain ⟨hh1, hb1, hs1⟩ := K.one_box hb
          have HB1 : Hid (Below w.heap.size w w1) := hb1
          have HH1 : Hid (w1.heap[w.heap.size]? = some (.cells #[.bool r.start, .bool r.fin, .slice bo r.before.length bc, .slice so r.source.length sc, .slice ao r.after.length ac, .slice to r.target.length tc, .int .i64 r.cursor] 25)) := hh1
          obtain ⟨d0, d1, d2, d3, d4, d5, d6⟩ := K.cells7 HH1.out
          clear hb hb1 hh1
          go_wp2_with fail
          refine (CMW.out _ HB1.out).mono ?_
          rintro e w2 ⟨rfl, hb⟩
          have HB2 : Hid (Below w.heap.size w w2) := HB1.out.trans (hb.mono HB1.out.size)
          clear d0 d1 d2 d3 d4 d5 d6
          have HH2 : Hid (w2.heap[w.heap.size]? = some (.cells #[.bool r.start, .bool r.fin, .slice bo r.before.length bc, .slice so r.source.length sc, .slice ao r.after.length ac, .slice to r.target.length tc, .int .i64 r.cursor] 25)) := K.blk_below HH1.out hb
          obtain ⟨d0, d1, d2, d3, d4, d5, d6⟩ := K.cells7 HH2.out
          clear hb
          go_wp2_with fail
          refine (CMT.out _ HB2.out).mono ?_
          rintro e w3 ⟨rfl, hb⟩
          have HB3 : Hid (Below w.heap.size w w3) := HB2.out.trans (hb.mono HB2.out.size)
          clear d0 d1 d2 d3 d4 d5 d6
          have HH3 : Hid (w3.heap[w.heap.size]? = some (.cells #[.bool r.start, .bool r.fin, .slice bo r.before.length bc, .slice so r.source.length sc, .slice ao r.after.length ac, .slice to r.target.length tc, .int .i64 r.cursor] 25)) := K.blk_below HH2.out hb
          obtain ⟨d0, d1, d2, d3, d4, d5, d6⟩ := K.cells7 HH3.out
          clear hb
          go_wp2_with fail
          refine (CRT.out _ HB3.out).mono ?_
          rintro e w4 ⟨rfl, hb⟩
          have HB4 : Hid (Below w.heap.size w w4) := HB3.out.trans (hb.mono HB3.out.size)
          clear d0 d1 d2 d3 d4 d5 d6
          have HH4 : Hid (w4.heap[w.heap.size]? = some (.cells #[.bool r.start, .bool r.fin, .slice bo r.before.length bc, .slice so r.source.length sc, .slice ao r.after.length ac, .slice to r.target.length tc, .int .i64 r.cursor] 25)) := K.blk_below HH3.out hb
          obtain ⟨d0, d1, d2, d3, d4, d5, d6⟩ := K.cells7 HH4.out
          clear hb
          go_wp2_with fail
          refine (CRT.out _ HB4.out).mono ?_
          rintro e w5 ⟨rfl, hb⟩
          have HB5 : Hid (Below w.heap.size w w5) := HB4.out.trans (hb.mono HB4.out.size)
          clear d0 d1 d2 d3 d4 d5 d6
          have HH5 : Hid (w5.heap[w.heap.size]? = some (.cells #[.bool r.start, .bool r.fin, .slice bo r.before.length bc, .slice so r.source.length sc, .slice ao r.after.length ac, .slice to r.target.length tc, .int .i64 r.cursor] 25)) := K.blk_below HH4.out hb
          obtain ⟨d0, d1, d2, d3, d4, d5, d6⟩ := K.cells7 HH5.out
          clear hb
          go_wp2_with fail
          refine (CMM.out _ HB5.out).mono ?_
          rintro e w6 ⟨rfl, hb⟩
          have HB6 : Hid (Below w.heap.size w w6) := HB5.out.trans (hb.mono HB5.out.size)
          clear d0 d1 d2 d3 d4 d5 d6
          have HH6 : Hid (w6.heap[w.heap.size]? = some (.cells #[.bool r.start, .bool r.fin, .slice bo r.before.length bc, .slice so r.source.length sc, .slice ao r.after.length ac, .slice to r.target.length tc, .int .i64 r.cursor] 25)) := K.blk_below HH5.out hb
          obtain ⟨d0, d1, d2, d3, d4, d5, d6⟩ := K.cells7 HH6.out
          clear hb
          go_wp2_with fail
          refine (CMP.out _ HB6.out).mono ?_
          rintro e w7 ⟨v', rfl, rv, hb⟩
          have HB7 : Hid (Below w.heap.size w w7) := HB6.out.trans (hb.mono HB6.out.size)
          obtain ⟨po, pc, rfl, _⟩ := rv
          clear d0 d1 d2 d3 d4 d5 d6
          have HH7 : Hid (w7.heap[w.heap.size]? = some (.cells #[.bool r.start, .bool r.fin, .slice bo r.before.length bc, .slice so r.source.length sc, .slice ao r.after.length ac, .slice to r.target.length tc, .int .i64 r.cursor] 25)) := K.blk_below HH6.out hb
          obtain ⟨d0, d1, d2, d3, d4, d5, d6⟩ := K.cells7 HH7.out
          clear hb
          go_wp2
          go_ret
          exact ⟨L.ret_bool (by simp), HB7.out⟩
      · obtain rfl : E = 0 := by rw [HE.out, if_neg (by simp), if_neg (by simp), if_neg q3]
        have q4 : ¬ k < 0 := by omega
        have q5 : ¬ (t.length : Int) < k := by omega
        obtain rfl : MB = mb := by rw [HMB.out, if_pos rfl]
        have hcu := HCur.out rfl
        have hCRM := CRM.out rfl
        have CRM2 : Hid (∀ X, Below w.heap.size w X → Calls Try.prog 10 #[.agg #[.bool r.start, .bool r.fin, .slice bo r.before.length bc, .slice so r.source.length sc, .slice ao r.after.length ac, .slice to r.target.length tc, .int .i64 r.cursor], .slice xo t.length xc, .int .i64 k] X fun e w' => e = .returned (.bool MB) ∧ Below X.heap.size X w') := hCRM
        clear hCRM CRM HE HMB HZ HCur HTL q3
        cases MB with
        | false =>
          obtain rfl : pk = false := by rw [HOk.out]; simp
          obtain rfl : pe = 0 := by rw [HErr.out]; simp
          obtain rfl : pa = 0 := by rw [HAt.out]; simp
          obtain rfl : pr = [] := by rw [HRes.out]; simp
          clear HOk HErr HAt HRes CRP
          go_enter Try.func3, Try.ntmps3
          go_wp2_with fail
          refine (CRW.out _ (HA.out _)).mono ?_
          rintro e w1 ⟨rfl, hb⟩
          obtain ⟨hh1, hb1, hs1⟩ := K.one_box hb
          have HB1 : Hid (Below w.heap.size w w1) := hb1
          have HH1 : Hid (w1.heap[w.heap.size]? = some (.cells #[.bool r.start, .bool r.fin, .slice bo r.before.length bc, .slice so r.source.length sc, .slice ao r.after.length ac, .slice to r.target.length tc, .int .i64 r.cursor] 25)) := hh1
          obtain ⟨d0, d1, d2, d3, d4, d5, d6⟩ := K.cells7 HH1.out
          clear hb hb1 hh1
          go_wp2_with fail
          refine (CMW.out _ HB1.out).mono ?_
          rintro e w2 ⟨rfl, hb⟩
          have HB2 : Hid (Below w.heap.size w w2) := HB1.out.trans (hb.mono HB1.out.size)
          clear d0 d1 d2 d3 d4 d5 d6
          have HH2 : Hid (w2.heap[w.heap.size]? = some (.cells #[.bool r.start, .bool r.fin, .slice bo r.before.length bc, .slice so r.source.length sc, .slice ao r.after.length ac, .slice to r.target.length tc, .int .i64 r.cursor] 25)) := K.blk_below HH1.out hb
          obtain ⟨d0, d1, d2, d3, d4, d5, d6⟩ := K.cells7 HH2.out
          clear hb
          go_wp2_with fail
          refine (CMT.out _ HB2.out).mono ?_
          rintro e w3 ⟨rfl, hb⟩
          have HB3 : Hid (Below w.heap.size w w3) := HB2.out.trans (hb.mono HB2.out.size)
          clear d0 d1 d2 d3 d4 d5 d6
          have HH3 : Hid (w3.heap[w.heap.size]? = some (.cells #[.bool r.start, .bool r.fin, .slice bo r.before.length bc, .slice so r.source.length sc, .slice ao r.after.length ac, .slice to r.target.length tc, .int .i64 r.cursor] 25)) := K.blk_below HH2.out hb
          obtain ⟨d0, d1, d2, d3, d4, d5, d6⟩ := K.cells7 HH3.out
          clear hb
          go_wp2_with fail
          refine (CRT.out _ HB3.out).mono ?_
          rintro e w4 ⟨rfl, hb⟩
          have HB4 : Hid (Below w.heap.size w w4) := HB3.out.trans (hb.mono HB3.out.size)
          clear d0 d1 d2 d3 d4 d5 d6
          have HH4 : Hid (w4.heap[w.heap.size]? = some (.cells #[.bool r.start, .bool r.fin, .slice bo r.before.length bc, .slice so r.source.length sc, .slice ao r.after.length ac, .slice to r.target.length tc, .int .i64 r.cursor] 25)) := K.blk_below HH3.out hb
          obtain ⟨d0, d1, d2, d3, d4, d5, d6⟩ := K.cells7 HH4.out
          clear hb
          go_wp2_with fail
          refine (CRT.out _ HB4.out).mono ?_
          rintro e w5 ⟨rfl, hb⟩
          have HB5 : Hid (Below w.heap.size w w5) := HB4.out.trans (hb.mono HB4.out.size)
          clear d0 d1 d2 d3 d4 d5 d6
          have HH5 : Hid (w5.heap[w.heap.size]? = some (.cells #[.bool r.start, .bool r.fin, .slice bo r.before.length bc, .slice so r.source.length sc, .slice ao r.after.length ac, .slice to r.target.length tc, .int .i64 r.cursor] 25)) := K.blk_below HH4.out hb
          obtain ⟨d0, d1, d2, d3, d4, d5, d6⟩ := K.cells7 HH5.out
          clear hb
          go_wp2_with fail
          refine (CMM.out _ HB5.out).mono ?_
          rintro e w6 ⟨rfl, hb⟩
          have HB6 : Hid (Below w.heap.size w w6) := HB5.out.trans (hb.mono HB5.out.size)
          clear d0 d1 d2 d3 d4 d5 d6
          have HH6 : Hid (w6.heap[w.heap.size]? = some (.cells #[.bool r.start, .bool r.fin, .slice bo r.before.length bc, .slice so r.source.length sc, .slice ao r.after.length ac, .slice to r.target.length tc, .int .i64 r.cursor] 25)) := K.blk_below HH5.out hb
          obtain ⟨d0, d1, d2, d3, d4, d5, d6⟩ := K.cells7 HH6.out
          clear hb
          go_wp2_with fail
          refine (CMP.out _ HB6.out).mono ?_
          rintro e w7 ⟨v', rfl, rv, hb⟩
          have HB7 : Hid (Below w.heap.size w w7) := HB6.out.trans (hb.mono HB6.out.size)
          obtain ⟨po, pc, rfl, _⟩ := rv
          clear d0 d1 d2 d3 d4 d5 d6
          have HH7 : Hid (w7.heap[w.heap.size]? = some (.cells #[.bool r.start, .bool r.fin, .slice bo r.before.length bc, .slice so r.source.length sc, .slice ao r.after.length ac, .slice to r.target.length tc, .int .i64 r.cursor] 25)) := K.blk_below HH6.out hb
          obtain ⟨d0, d1, d2, d3, d4, d5, d6⟩ := K.cells7 HH7.out
          clear hb
          go_wp2_with fail
          refine (CRM2.out _ HB7.out).mono ?_
          rintro e w8 ⟨rfl, hb⟩
          have HB8 : Hid (Below w.heap.size w w8) := HB7.out.trans (hb.mono HB7.out.size)
          clear d0 d1 d2 d3 d4 d5 d6
          have HH8 : Hid (w8.heap[w.heap.size]? = some (.cells #[.bool r.start, .bool r.fin, .slice bo r.before.length bc, .slice so r.source.length sc, .slice ao r.after.length ac, .slice to r.target.length tc, .int .i64 r.cursor] 25)) := K.blk_below HH7.out hb
          obtain ⟨d0, d1, d2, d3, d4, d5, d6⟩ := K.cells7 HH8.out
          clear hb
          go_wp2
          go_ret
          exact ⟨L.ret_bool (by simp), HB8.out⟩
        | true =>
          have hCRP := CRP.out rfl rfl
          have CRP2 : Hid (∀ X, Below w.heap.size w X → Calls Try.prog 11 #[.agg #[.bool r.start, .bool r.fin, .slice bo r.before.length bc, .slice so r.source.length sc, .slice ao r.after.length ac, .slice to r.target.length tc, .int .i64 r.cursor], .slice xo t.length xc, .int .i64 k] X fun e w' => ∃ v', e = .returned v' ∧ L.Rd w' v' .i32 pl ∧ Below X.heap.size X w') := hCRP
          clear hCRP CRP
          by_cases q6 : 4000 < pl.length
          · obtain rfl : pk = false := by rw [HOk.out]; simp; omega
            obtain rfl : pe = 4 := by rw [HErr.out, if_neg (by simp), if_neg (by simp), if_pos q6]
            obtain rfl : pa = 0 := by rw [HAt.out]; simp
            obtain rfl : pr = [] := by rw [HRes.out]; simp
            clear HOk HErr HAt HRes
            go_enter Try.func3, Try.ntmps3
            go_wp2_with fail
            refine (CRW.out _ (HA.out _)).mono ?_
            rintro e w1 ⟨rfl, hb⟩
            obtain ⟨hh1, hb1, hs1⟩ := K.one_box hb
            have HB1 : Hid (Below w.heap.size w w1) := hb1
            have HH1 : Hid (w1.heap[w.heap.size]? = some (.cells #[.bool r.start, .bool r.fin, .slice bo r.before.length bc, .slice so r.source.length sc, .slice ao r.after.length ac, .slice to r.target.length tc, .int .i64 r.cursor] 25)) := hh1
            obtain ⟨d0, d1, d2, d3, d4, d5, d6⟩ := K.cells7 HH1.out
            clear hb hb1 hh1
            go_wp2_with fail
            refine (CMW.out _ HB1.out).mono ?_
            rintro e w2 ⟨rfl, hb⟩
            have HB2 : Hid (Below w.heap.size w w2) := HB1.out.trans (hb.mono HB1.out.size)
            clear d0 d1 d2 d3 d4 d5 d6
            have HH2 : Hid (w2.heap[w.heap.size]? = some (.cells #[.bool r.start, .bool r.fin, .slice bo r.before.length bc, .slice so r.source.length sc, .slice ao r.after.length ac, .slice to r.target.length tc, .int .i64 r.cursor] 25)) := K.blk_below HH1.out hb
            obtain ⟨d0, d1, d2, d3, d4, d5, d6⟩ := K.cells7 HH2.out
            clear hb
            go_wp2_with fail
            refine (CMT.out _ HB2.out).mono ?_
            rintro e w3 ⟨rfl, hb⟩
            have HB3 : Hid (Below w.heap.size w w3) := HB2.out.trans (hb.mono HB2.out.size)
            clear d0 d1 d2 d3 d4 d5 d6
            have HH3 : Hid (w3.heap[w.heap.size]? = some (.cells #[.bool r.start, .bool r.fin, .slice bo r.before.length bc, .slice so r.source.length sc, .slice ao r.after.length ac, .slice to r.target.length tc, .int .i64 r.cursor] 25)) := K.blk_below HH2.out hb
            obtain ⟨d0, d1, d2, d3, d4, d5, d6⟩ := K.cells7 HH3.out
            clear hb
            go_wp2_with fail
            refine (CRT.out _ HB3.out).mono ?_
            rintro e w4 ⟨rfl, hb⟩
            have HB4 : Hid (Below w.heap.size w w4) := HB3.out.trans (hb.mono HB3.out.size)
            clear d0 d1 d2 d3 d4 d5 d6
            have HH4 : Hid (w4.heap[w.heap.size]? = some (.cells #[.bool r.start, .bool r.fin, .slice bo r.before.length bc, .slice so r.source.length sc, .slice ao r.after.length ac, .slice to r.target.length tc, .int .i64 r.cursor] 25)) := K.blk_below HH3.out hb
            obtain ⟨d0, d1, d2, d3, d4, d5, d6⟩ := K.cells7 HH4.out
            clear hb
            go_wp2_with fail
            refine (CRT.out _ HB4.out).mono ?_
            rintro e w5 ⟨rfl, hb⟩
            have HB5 : Hid (Below w.heap.size w w5) := HB4.out.trans (hb.mono HB4.out.size)
            clear d0 d1 d2 d3 d4 d5 d6
            have HH5 : Hid (w5.heap[w.heap.size]? = some (.cells #[.bool r.start, .bool r.fin, .slice bo r.before.length bc, .slice so r.source.length sc, .slice ao r.after.length ac, .slice to r.target.length tc, .int .i64 r.cursor] 25)) := K.blk_below HH4.out hb
            obtain ⟨d0, d1, d2, d3, d4, d5, d6⟩ := K.cells7 HH5.out
            clear hb
            go_wp2_with fail
            refine (CMM.out _ HB5.out).mono ?_
            rintro e w6 ⟨rfl, hb⟩
            have HB6 : Hid (Below w.heap.size w w6) := HB5.out.trans (hb.mono HB5.out.size)
            clear d0 d1 d2 d3 d4 d5 d6
            have HH6 : Hid (w6.heap[w.heap.size]? = some (.cells #[.bool r.start, .bool r.fin, .slice bo r.before.length bc, .slice so r.source.length sc, .slice ao r.after.length ac, .slice to r.target.length tc, .int .i64 r.cursor] 25)) := K.blk_below HH5.out hb
            obtain ⟨d0, d1, d2, d3, d4, d5, d6⟩ := K.cells7 HH6.out
            clear hb
            go_wp2_with fail
            refine (CMP.out _ HB6.out).mono ?_
            rintro e w7 ⟨v', rfl, rv, hb⟩
            have HB7 : Hid (Below w.heap.size w w7) := HB6.out.trans (hb.mono HB6.out.size)
            have HP7 : Hid (L.Rd w7 v' .i32 []) := rv
            obtain ⟨po, pc, rfl, _⟩ := rv
            clear d0 d1 d2 d3 d4 d5 d6
            have HH7 : Hid (w7.heap[w.heap.size]? = some (.cells #[.bool r.start, .bool r.fin, .slice bo r.before.length bc, .slice so r.source.length sc, .slice ao r.after.length ac, .slice to r.target.length tc, .int .i64 r.cursor] 25)) := K.blk_below HH6.out hb
            obtain ⟨d0, d1, d2, d3, d4, d5, d6⟩ := K.cells7 HH7.out
            clear hb
            go_wp2_with fail
            refine (CRM2.out _ HB7.out).mono ?_
            rintro e w8 ⟨rfl, hb⟩
            have HB8 : Hid (Below w.heap.size w w8) := HB7.out.trans (hb.mono HB7.out.size)
            clear d0 d1 d2 d3 d4 d5 d6
            have HH8 : Hid (w8.heap[w.heap.size]? = some (.cells #[.bool r.start, .bool r.fin, .slice bo r.before.length bc, .slice so r.source.length sc, .slice ao r.after.length ac, .slice to r.target.length tc, .int .i64 r.cursor] 25)) := K.blk_below HH7.out hb
            obtain ⟨d0, d1, d2, d3, d4, d5, d6⟩ := K.cells7 HH8.out
            clear hb
            go_wp2_with fail
            refine (CRP2.out _ HB8.out).mono ?_
            rintro e w9 ⟨v9, rfl, rv9, hb⟩
            have HB9 : Hid (Below w.heap.size w w9) := HB8.out.trans (hb.mono HB8.out.size)
            have HQ9 : Hid (L.Rd w9 v9 .i32 pl) := rv9
            have hh9 := K.blk_below HH8.out hb
            have HH9 : Hid (w9.heap[w.heap.size]? = some (.cells #[.bool r.start, .bool r.fin, .slice bo r.before.length bc, .slice so r.source.length sc, .slice ao r.after.length ac, .slice to r.target.length tc, .int .i64 r.cursor] 25)) := hh9
            clear d0 d1 d2 d3 d4 d5 d6
            obtain ⟨d0, d1, d2, d3, d4, d5, d6⟩ := K.cells7 HH9.out
            obtain ⟨qo, qc, rfl, _⟩ := rv9
            clear hb hh9
            go_wp2
            go_ret
            exact ⟨L.ret_bool (by simp), HB9.out⟩
          · obtain rfl : pk = true := by rw [HOk.out]; simp; omega
            obtain rfl : pe = 0 := by rw [HErr.out, if_neg (by simp), if_neg (by simp), if_neg q6]
            obtain rfl : pa = k + r.cursor := by rw [HAt.out]; simp
            obtain rfl : pl = pr := by rw [HRes.out]; simp
            clear HOk HErr HAt HRes
            go_enter Try.func3, Try.ntmps3
            go_wp2_with fail
            refine (CRW.out _ (HA.out _)).mono ?_
            rintro e w1 ⟨rfl, hb⟩
            obtain ⟨hh1, hb1, hs1⟩ := K.one_box hb
            have HB1 : Hid (Below w.heap.size w w1) := hb1
            have HH1 : Hid (w1.heap[w.heap.size]? = some (.cells #[.bool r.start, .bool r.fin, .slice bo r.before.length bc, .slice so r.source.length sc, .slice ao r.after.length ac, .slice to r.target.length tc, .int .i64 r.cursor] 25)) := hh1
            obtain ⟨d0, d1, d2, d3, d4, d5, d6⟩ := K.cells7 HH1.out
            clear hb hb1 hh1
            go_wp2_with fail
            refine (CMW.out _ HB1.out).mono ?_
            rintro e w2 ⟨rfl, hb⟩
            have HB2 : Hid (Below w.heap.size w w2) := HB1.out.trans (hb.mono HB1.out.size)
            clear d0 d1 d2 d3 d4 d5 d6
            have HH2 : Hid (w2.heap[w.heap.size]? = some (.cells #[.bool r.start, .bool r.fin, .slice bo r.before.length bc, .slice so r.source.length sc, .slice ao r.after.length ac, .slice to r.target.length tc, .int .i64 r.cursor] 25)) := K.blk_below HH1.out hb
            obtain ⟨d0, d1, d2, d3, d4, d5, d6⟩ := K.cells7 HH2.out
            clear hb
            go_wp2_with fail
            refine (CMT.out _ HB2.out).mono ?_
            rintro e w3 ⟨rfl, hb⟩
            have HB3 : Hid (Below w.heap.size w w3) := HB2.out.trans (hb.mono HB2.out.size)
            clear d0 d1 d2 d3 d4 d5 d6
            have HH3 : Hid (w3.heap[w.heap.size]? = some (.cells #[.bool r.start, .bool r.fin, .slice bo r.before.length bc, .slice so r.source.length sc, .slice ao r.after.length ac, .slice to r.target.length tc, .int .i64 r.cursor] 25)) := K.blk_below HH2.out hb
            obtain ⟨d0, d1, d2, d3, d4, d5, d6⟩ := K.cells7 HH3.out
            clear hb
            go_wp2_with fail
            refine (CRT.out _ HB3.out).mono ?_
            rintro e w4 ⟨rfl, hb⟩
            have HB4 : Hid (Below w.heap.size w w4) := HB3.out.trans (hb.mono HB3.out.size)
            clear d0 d1 d2 d3 d4 d5 d6
            have HH4 : Hid (w4.heap[w.heap.size]? = some (.cells #[.bool r.start, .bool r.fin, .slice bo r.before.length bc, .slice so r.source.length sc, .slice ao r.after.length ac, .slice to r.target.length tc, .int .i64 r.cursor] 25)) := K.blk_below HH3.out hb
            obtain ⟨d0, d1, d2, d3, d4, d5, d6⟩ := K.cells7 HH4.out
            clear hb
            go_wp2_with fail
            refine (CRT.out _ HB4.out).mono ?_
            rintro e w5 ⟨rfl, hb⟩
            have HB5 : Hid (Below w.heap.size w w5) := HB4.out.trans (hb.mono HB4.out.size)
            clear d0 d1 d2 d3 d4 d5 d6
            have HH5 : Hid (w5.heap[w.heap.size]? = some (.cells #[.bool r.start, .bool r.fin, .slice bo r.before.length bc, .slice so r.source.length sc, .slice ao r.after.length ac, .slice to r.target.length tc, .int .i64 r.cursor] 25)) := K.blk_below HH4.out hb
            obtain ⟨d0, d1, d2, d3, d4, d5, d6⟩ := K.cells7 HH5.out
            clear hb
            go_wp2_with fail
            refine (CMM.out _ HB5.out).mono ?_
            rintro e w6 ⟨rfl, hb⟩
            have HB6 : Hid (Below w.heap.size w w6) := HB5.out.trans (hb.mono HB5.out.size)
            clear d0 d1 d2 d3 d4 d5 d6
            have HH6 : Hid (w6.heap[w.heap.size]? = some (.cells #[.bool r.start, .bool r.fin, .slice bo r.before.length bc, .slice so r.source.length sc, .slice ao r.after.length ac, .slice to r.target.length tc, .int .i64 r.cursor] 25)) := K.blk_below HH5.out hb
            obtain ⟨d0, d1, d2, d3, d4, d5, d6⟩ := K.cells7 HH6.out
            clear hb
            go_wp2_with fail
            refine (CMP.out _ HB6.out).mono ?_
            rintro e w7 ⟨v', rfl, rv, hb⟩
            have HB7 : Hid (Below w.heap.size w w7) := HB6.out.trans (hb.mono HB6.out.size)
            have HP7 : Hid (L.Rd w7 v' .i32 pl) := rv
            obtain ⟨po, pc, rfl, _⟩ := rv
            clear d0 d1 d2 d3 d4 d5 d6
            have HH7 : Hid (w7.heap[w.heap.size]? = some (.cells #[.bool r.start, .bool r.fin, .slice bo r.before.length bc, .slice so r.source.length sc, .slice ao r.after.length ac, .slice to r.target.length tc, .int .i64 r.cursor] 25)) := K.blk_below HH6.out hb
            obtain ⟨d0, d1, d2, d3, d4, d5, d6⟩ := K.cells7 HH7.out
            clear hb
            go_wp2_with fail
            refine (CRM2.out _ HB7.out).mono ?_
            rintro e w8 ⟨rfl, hb⟩
            have hb78 : Hid (Below w7.heap.size w7 w8) := hb
            have HB8 : Hid (Below w.heap.size w w8) := HB7.out.trans (hb.mono HB7.out.size)
            clear d0 d1 d2 d3 d4 d5 d6
            have HH8 : Hid (w8.heap[w.heap.size]? = some (.cells #[.bool r.start, .bool r.fin, .slice bo r.before.length bc, .slice so r.source.length sc, .slice ao r.after.length ac, .slice to r.target.length tc, .int .i64 r.cursor] 25)) := K.blk_below HH7.out hb
            obtain ⟨d0, d1, d2, d3, d4, d5, d6⟩ := K.cells7 HH8.out
            clear hb
            go_wp2_with fail
            refine (CRP2.out _ HB8.out).mono ?_
            rintro e w9 ⟨v9, rfl, rv9, hb⟩
            have HB9 : Hid (Below w.heap.size w w9) := HB8.out.trans (hb.mono HB8.out.size)
            have HQ9 : Hid (L.Rd w9 v9 .i32 pl) := rv9
            have hh9 := K.blk_below HH8.out hb
            have HH9 : Hid (w9.heap[w.heap.size]? = some (.cells #[.bool r.start, .bool r.fin, .slice bo r.before.length bc, .slice so r.source.length sc, .slice ao r.after.length ac, .slice to r.target.length tc, .int .i64 r.cursor] 25)) := hh9
            clear d0 d1 d2 d3 d4 d5 d6
            obtain ⟨d0, d1, d2, d3, d4, d5, d6⟩ := K.cells7 HH9.out
            have HP9 : Hid (L.Rd w9 (.slice po pl.length pc) .i32 pl) := ((HP7.out.below hb78.out (Nat.le_refl _)).below hb (Nat.le_refl _))
            obtain ⟨qo, qc, rfl, _⟩ := rv9
            clear hb hh9
            have hSame := same_any w9 _ _ pl pl HP9.out HQ9.out (by omega) (by omega)
            have hwr : IntKind.i64.wrap (k + r.cursor) = k + r.cursor := by rw [IntKind.wrap_i64]; omega
            go_wp2_with fail
            refine hSame.mono ?_
            rintro e w10 ⟨rfl, hb⟩
            have HB10 : Hid (Below w.heap.size w w10) := HB9.out.trans (hb.mono HB9.out.size)
            have hh10 := K.blk_below HH9.out hb
            have g6 := K.at_box (i := 6) hh10 rfl
            clear hb hh10 hSame d0 d1 d2 d3 d4 d5 d6
            go_wp2
            go_ret
            exact ⟨L.ret_bool (by simp), HB10.out⟩
    · obtain rfl : E = e2 := by rw [HE.out, if_neg (by simp), if_pos q2]
      have hne : ¬ (E : Int) = 0 := by first | assumption | decide
      obtain rfl : MB = false := by rw [HMB.out, if_neg hne]
      obtain rfl : pk = false := by rw [HOk.out, decide_eq_false hne]; simp
      obtain rfl : pe = E := by rw [HErr.out, if_pos hne]
      obtain rfl : pa = 0 := by rw [HAt.out]; simp
      obtain rfl : pr = [] := by rw [HRes.out]; simp
      clear HE HMB HOk HErr HAt HRes CRM CRP HZ HCur HTL
      go_enter Try.func3, Try.ntmps3
      go_wp2_with fail
      refine (CRW.out _ (HA.out _)).mono ?_
      rintro e w1 ⟨rfl, hb⟩
      obtain ⟨hh1, hb1, hs1⟩ := K.one_box hb
      have HB1 : Hid (Below w.heap.size w w1) := hb1
      have HH1 : Hid (w1.heap[w.heap.size]? = some (.cells #[.bool r.start, .bool r.fin, .slice bo r.before.length bc, .slice so r.source.length sc, .slice ao r.after.length ac, .slice to r.target.length tc, .int .i64 r.cursor] 25)) := hh1
      obtain ⟨d0, d1, d2, d3, d4, d5, d6⟩ := K.cells7 HH1.out
      clear hb hb1 hh1
      go_wp2_with fail
      refine (CMW.out _ HB1.out).mono ?_
      rintro e w2 ⟨rfl, hb⟩
      have HB2 : Hid (Below w.heap.size w w2) := HB1.out.trans (hb.mono HB1.out.size)
      clear d0 d1 d2 d3 d4 d5 d6
      have HH2 : Hid (w2.heap[w.heap.size]? = some (.cells #[.bool r.start, .bool r.fin, .slice bo r.before.length bc, .slice so r.source.length sc, .slice ao r.after.length ac, .slice to r.target.length tc, .int .i64 r.cursor] 25)) := K.blk_below HH1.out hb
      obtain ⟨d0, d1, d2, d3, d4, d5, d6⟩ := K.cells7 HH2.out
      clear hb
      go_wp2_with fail
      refine (CMT.out _ HB2.out).mono ?_
      rintro e w3 ⟨rfl, hb⟩
      have HB3 : Hid (Below w.heap.size w w3) := HB2.out.trans (hb.mono HB2.out.size)
      clear d0 d1 d2 d3 d4 d5 d6
      have HH3 : Hid (w3.heap[w.heap.size]? = some (.cells #[.bool r.start, .bool r.fin, .slice bo r.before.length bc, .slice so r.source.length sc, .slice ao r.after.length ac, .slice to r.target.length tc, .int .i64 r.cursor] 25)) := K.blk_below HH2.out hb
      obtain ⟨d0, d1, d2, d3, d4, d5, d6⟩ := K.cells7 HH3.out
      clear hb
      go_wp2_with fail
      refine (CRT.out _ HB3.out).mono ?_
      rintro e w4 ⟨rfl, hb⟩
      have HB4 : Hid (Below w.heap.size w w4) := HB3.out.trans (hb.mono HB3.out.size)
      clear d0 d1 d2 d3 d4 d5 d6
      have HH4 : Hid (w4.heap[w.heap.size]? = some (.cells #[.bool r.start, .bool r.fin, .slice bo r.before.length bc, .slice so r.source.length sc, .slice ao r.after.length ac, .slice to r.target.length tc, .int .i64 r.cursor] 25)) := K.blk_below HH3.out hb
      obtain ⟨d0, d1, d2, d3, d4, d5, d6⟩ := K.cells7 HH4.out
      clear hb
      go_wp2_with fail
      refine (CRT.out _ HB4.out).mono ?_
      rintro e w5 ⟨rfl, hb⟩
      have HB5 : Hid (Below w.heap.size w w5) := HB4.out.trans (hb.mono HB4.out.size)
      clear d0 d1 d2 d3 d4 d5 d6
      have HH5 : Hid (w5.heap[w.heap.size]? = some (.cells #[.bool r.start, .bool r.fin, .slice bo r.before.length bc, .slice so r.source.length sc, .slice ao r.after.length ac, .slice to r.target.length tc, .int .i64 r.cursor] 25)) := K.blk_below HH4.out hb
      obtain ⟨d0, d1, d2, d3, d4, d5, d6⟩ := K.cells7 HH5.out
      clear hb
      go_wp2_with fail
      refine (CMM.out _ HB5.out).mono ?_
      rintro e w6 ⟨rfl, hb⟩
      have HB6 : Hid (Below w.heap.size w w6) := HB5.out.trans (hb.mono HB5.out.size)
      clear d0 d1 d2 d3 d4 d5 d6
      have HH6 : Hid (w6.heap[w.heap.size]? = some (.cells #[.bool r.start, .bool r.fin, .slice bo r.before.length bc, .slice so r.source.length sc, .slice ao r.after.length ac, .slice to r.target.length tc, .int .i64 r.cursor] 25)) := K.blk_below HH5.out hb
      obtain ⟨d0, d1, d2, d3, d4, d5, d6⟩ := K.cells7 HH6.out
      clear hb
      go_wp2_with fail
      refine (CMP.out _ HB6.out).mono ?_
      rintro e w7 ⟨v', rfl, rv, hb⟩
      have HB7 : Hid (Below w.heap.size w w7) := HB6.out.trans (hb.mono HB6.out.size)
      obtain ⟨po, pc, rfl, _⟩ := rv
      clear d0 d1 d2 d3 d4 d5 d6
      have HH7 : Hid (w7.heap[w.heap.size]? = some (.cells #[.bool r.start, .bool r.fin, .slice bo r.before.length bc, .slice so r.source.length sc, .slice ao r.after.length ac, .slice to r.target.length tc, .int .i64 r.cursor] 25)) := K.blk_below HH6.out hb
      obtain ⟨d0, d1, d2, d3, d4, d5, d6⟩ := K.cells7 HH7.out
      clear hb
      go_wp2
      go_ret
      exact ⟨L.ret_bool (by simp), HB7.out⟩
  · obtain rfl : E = e1 := by rw [HE.out, if_pos q1]
    have hne : ¬ (E : Int) = 0 := by first | assumption | decide
    obtain rfl : MB = false := by rw [HMB.out, if_neg hne]
    obtain rfl : pk = false := by rw [HOk.out, decide_eq_false hne]; simp
    obtain rfl : pe = E := by rw [HErr.out, if_pos hne]
    obtain rfl : pa = 0 := by rw [HAt.out]; simp
    obtain rfl : pr = [] := by rw [HRes.out]; simp
    clear HE HMB HOk HErr HAt HRes CRM CRP HZ HCur HTL
    go_enter Try.func3, Try.ntmps3
    go_wp2_with fail
    refine (CRW.out _ (HA.out _)).mono ?_
    rintro e w1 ⟨rfl, hb⟩
    obtain ⟨hh1, hb1, hs1⟩ := K.one_box hb
    have HB1 : Hid (Below w.heap.size w w1) := hb1
    have HH1 : Hid (w1.heap[w.heap.size]? = some (.cells #[.bool r.start, .bool r.fin, .slice bo r.before.length bc, .slice so r.source.length sc, .slice ao r.after.length ac, .slice to r.target.length tc, .int .i64 r.cursor] 25)) := hh1
    obtain ⟨d0, d1, d2, d3, d4, d5, d6⟩ := K.cells7 HH1.out
    clear hb hb1 hh1
    go_wp2_with fail
    refine (CMW.out _ HB1.out).mono ?_
    rintro e w2 ⟨rfl, hb⟩
    have HB2 : Hid (Below w.heap.size w w2) := HB1.out.trans (hb.mono HB1.out.size)
    clear d0 d1 d2 d3 d4 d5 d6
    have HH2 : Hid (w2.heap[w.heap.size]? = some (.cells #[.bool r.start, .bool r.fin, .slice bo r.before.length bc, .slice so r.source.length sc, .slice ao r.after.length ac, .slice to r.target.length tc, .int .i64 r.cursor] 25)) := K.blk_below HH1.out hb
    obtain ⟨d0, d1, d2, d3, d4, d5, d6⟩ := K.cells7 HH2.out
    clear hb
    go_wp2_with fail
    refine (CMT.out _ HB2.out).mono ?_
    rintro e w3 ⟨rfl, hb⟩
    have HB3 : Hid (Below w.heap.size w w3) := HB2.out.trans (hb.mono HB2.out.size)
    clear d0 d1 d2 d3 d4 d5 d6
    have HH3 : Hid (w3.heap[w.heap.size]? = some (.cells #[.bool r.start, .bool r.fin, .slice bo r.before.length bc, .slice so r.source.length sc, .slice ao r.after.length ac, .slice to r.target.length tc, .int .i64 r.cursor] 25)) := K.blk_below HH2.out hb
    obtain ⟨d0, d1, d2, d3, d4, d5, d6⟩ := K.cells7 HH3.out
    clear hb
    go_wp2_with fail
    refine (CRT.out _ HB3.out).mono ?_
    rintro e w4 ⟨rfl, hb⟩
    have HB4 : Hid (Below w.heap.size w w4) := HB3.out.trans (hb.mono HB3.out.size)
    clear d0 d1 d2 d3 d4 d5 d6
    have HH4 : Hid (w4.heap[w.heap.size]? = some (.cells #[.bool r.start, .bool r.fin, .slice bo r.before.length bc, .slice so r.source.length sc, .slice ao r.after.length ac, .slice to r.target.length tc, .int .i64 r.cursor] 25)) := K.blk_below HH3.out hb
    obtain ⟨d0, d1, d2, d3, d4, d5, d6⟩ := K.cells7 HH4.out
    clear hb
    go_wp2_with fail
    refine (CMM.out _ HB4.out).mono ?_
    rintro e w5 ⟨rfl, hb⟩
    have HB5 : Hid (Below w.heap.size w w5) := HB4.out.trans (hb.mono HB4.out.size)
    clear d0 d1 d2 d3 d4 d5 d6
    have HH5 : Hid (w5.heap[w.heap.size]? = some (.cells #[.bool r.start, .bool r.fin, .slice bo r.before.length bc, .slice so r.source.length sc, .slice ao r.after.length ac, .slice to r.target.length tc, .int .i64 r.cursor] 25)) := K.blk_below HH4.out hb
    obtain ⟨d0, d1, d2, d3, d4, d5, d6⟩ := K.cells7 HH5.out
    clear hb
    go_wp2_with fail
    refine (CMP.out _ HB5.out).mono ?_
    rintro e w6 ⟨v', rfl, rv, hb⟩
    have HB6 : Hid (Below w.heap.size w w6) := HB5.out.trans (hb.mono HB5.out.size)
    obtain ⟨po, pc, rfl, _⟩ := rv
    clear d0 d1 d2 d3 d4 d5 d6
    have HH6 : Hid (w6.heap[w.heap.size]? = some (.cells #[.bool r.start, .bool r.fin, .slice bo r.before.length bc, .slice so r.source.length sc, .slice ao r.after.length ac, .slice to r.target.length tc, .int .i64 r.cursor] 25)) := K.blk_below HH5.out hb
    obtain ⟨d0, d1, d2, d3, d4, d5, d6⟩ := K.cells7 HH6.out
    clear hb
    go_wp2
    go_ret
    exact ⟨L.ret_bool (by simp), HB6.out⟩

end Go.Proofs.Ytajbcgobfkaahab
