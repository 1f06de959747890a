/-
  What is wrong with rules and texts: what the document's text answers.
-/
import Derived.Test.YtlmmjefplbcapaaGreatSRefWrong
import Derived.Test.YtlmmjefplbcapaaGreatRuFrame
import Derived.Test.YtlmmjefplbcapaaGreatRows
import Derived.BigRegion
import Derived.RegionTactic
import Derived.Deep.RegionHeld3
namespace Go.Proofs.YtlmmjefplbcapaaGreat
open Go.RowKit
set_option maxRecDepth 20000
set_option linter.unusedSimpArgs false
set_option linter.unusedVariables false

set_option maxHeartbeats 4000000 in
theorem rWrong_any (w : World) (v : Value) (r : K.Rule) (R : K.RuIs w v r) :
    Calls Tryz.prog 43 #[v] w fun e w' => e = .returned (.int .i64 (K.ruleE r)) ∧ Below w.heap.size w w' := by
  obtain ⟨bo, bc, so, sc, ao, ac, tgo, tc, rfl, R1, R2, R3, R4, hl4, hcur⟩ := R
  have f2 := R2.few
  have hI1 : -9223372036854775808 ≤ r.cursor := hcur.1
  have hI2 : r.cursor ≤ 9223372036854775807 := hcur.2
  have C4 : Hid (r.target.length ≤ 20 → ∀ X, Below w.heap.size w X → Calls Tryz.prog 24 #[.slice tgo r.target.length tc] X fun e w' => e = .returned (.bool (K.allR r.target)) ∧ Below X.heap.size X w') := fun h X hX => refall_any X _ _ (R4.below hX (Nat.le_refl _)) (by omega)
  obtain ⟨o, HO⟩ : ∃ o, Hid (K.ruleE r = o) := ⟨_, rfl⟩
  rw [HO.out]
  unfold K.ruleE K.tailE at HO
  obtain ⟨e1, he1⟩ : ∃ e1, e1 = K.setsE r.before := ⟨_, rfl⟩
  obtain ⟨e2, he2⟩ : ∃ e2, e2 = K.setsE r.source := ⟨_, rfl⟩
  obtain ⟨e3, he3⟩ : ∃ e3, e3 = K.setsE r.after := ⟨_, rfl⟩
  obtain ⟨e4, he4⟩ : ∃ e4, e4 = K.allR r.target := ⟨_, rfl⟩
  rw [← he1, ← he2, ← he3, ← he4] at HO
  rw [← he4] at C4
  have HE : Hid (∀ k : Nat, k < 3 → ∃ xo xc x e, (#[.slice bo r.before.length bc, .slice so r.source.length sc, .slice ao r.after.length ac] : Array Value)[k]? = some (.slice xo x.length xc) ∧ K.Ss w (.slice xo x.length xc) x ∧ [e1, e2, e3][k]? = some e ∧ e = K.setsE x) := fun k hk => by
    match k, hk with
    | 0, _ => exact ⟨bo, bc, r.before, e1, rfl, R1, rfl, he1⟩
    | 1, _ => exact ⟨so, sc, r.source, e2, rfl, R2, rfl, he2⟩
    | 2, _ => exact ⟨ao, ac, r.after, e3, rfl, R3, rfl, he3⟩
  have HF : Hid (∀ (k : Nat) e, [e1, e2, e3][k]? = some e → (∀ (j : Nat) e', j < k → [e1, e2, e3][j]? = some e' → e' = 0) → e ≠ 0 → e = o) := K.first3 HO.out
  clear he1 he2 he3 he4 R1 R2 R3 R4 hcur
  obtain ⟨st, fi, be, sou, af, ta, cu⟩ := r
  simp only at *
  obtain ⟨W0, hW0⟩ : ∃ W0, W0 = (w.alloc (.cells #[.bool st, .bool fi, .slice bo be.length bc, .slice so sou.length sc, .slice ao af.length ac, .slice tgo ta.length tc, .int .i64 cu] 55)).alloc (.cells #[.slice bo be.length bc, .slice so sou.length sc, .slice ao af.length ac] 53) := ⟨_, rfl⟩
  have HW0 : Hid (W0.heap[w.heap.size]? = some (.cells #[.bool st, .bool fi, .slice bo be.length bc, .slice so sou.length sc, .slice ao af.length ac, .slice tgo ta.length tc, .int .i64 cu] 55) ∧ W0.heap[w.heap.size + 1]? = some (.cells #[.slice bo be.length bc, .slice so sou.length sc, .slice ao af.length ac] 53) ∧ Below w.heap.size w W0) := by
    have h := K.two_boxes (Below.refl _ W0 |> fun h => by rw [hW0] at h ⊢; exact h) (w := w) (w1 := W0) (o1 := .cells #[.bool st, .bool fi, .slice bo be.length bc, .slice so sou.length sc, .slice ao af.length ac, .slice tgo ta.length tc, .int .i64 cu] 55) (o2 := .cells #[.slice bo be.length bc, .slice so sou.length sc, .slice ao af.length ac] 53)
    exact ⟨h.1, h.2.1, h.2.2.1⟩
  go_enter Tryz.func43, Tryz.ntmps43
  go_wp2
  rw [← hW0]
  clear hW0
  go_loopw [15] (fun i wr => ∃ k : Nat, k ≤ 3 ∧ i = .int .i64 k ∧ Hid (∀ (j : Nat) e', j < k → [e1, e2, e3][j]? = some e' → e' = 0) ∧ Hid (Below w.heap.size w wr ∧ wr.heap[w.heap.size]? = some (.cells #[.bool st, .bool fi, .slice bo be.length bc, .slice so sou.length sc, .slice ao af.length ac, .slice tgo ta.length tc, .int .i64 cu] 55) ∧ wr.heap[w.heap.size + 1]? = some (.cells #[.slice bo be.length bc, .slice so sou.length sc, .slice ao af.length ac] 53))) (fun i _ => 3 - (intOf i).toNat)
  case atStart => exact ⟨0, by omega, rfl, fun j e' h => absurd h (Nat.not_lt_zero _), HW0.out.2.2, HW0.out.1, HW0.out.2.1⟩
  case round =>
    obtain ⟨k, hk, rfl, HZ, HB⟩ := hrel
    obtain ⟨wo, hwo⟩ : ∃ wo, wo = wr := ⟨_, rfl⟩
    subst hwo
    by_cases hlt : k < 3
    · obtain ⟨xo, xc, x, ex, hcx, Rx, hex, hes⟩ := HE.out k hlt
      have hfew := Rx.few
      have HX : Hid (K.Ss w (.slice xo x.length xc) x) := Rx
      have HEX : Hid ([e1, e2, e3][k]? = some ex) := hex
      have dk := K.at_box (i := k) HB.out.2.2 hcx
      have hk0 : (0 : Int) ≤ (k : Int) := by omega
      have hk3 : (k : Int) < 3 := by omega
      unfold K.setsE at hes
      clear Rx hex hcx
      by_cases hbig : 20 < x.length
      · rw [if_pos hbig] at hes
        go_wp2
        go_ret
        exact ⟨by rw [← HF.out k ex HEX.out HZ.out (by omega), hes]; rfl, HB.out.1⟩
      · rw [if_neg hbig] at hes
        go_wp2
        go_loopw [24] (fun i wi => ∃ m : Nat, m ≤ x.length ∧ i = .int .i64 m ∧ Hid (K.firstE x = K.firstE (x.drop m)) ∧ Hid (Below wo.heap.size wo wi)) (fun i _ => x.length - (intOf i).toNat)
        case atStart => exact ⟨0, Nat.zero_le _, rfl, rfl, Below.refl _ wo⟩
        case round =>
          obtain ⟨m, hm, rfl, HW, HBi⟩ := hrel
          have HBw : Hid (Below w.heap.size w wr) := HB.out.1.trans (HBi.out.mono HB.out.1.size)
          by_cases hlt2 : m < x.length
          · obtain ⟨s, hs⟩ : ∃ s, x[m]? = some s := ⟨x[m], by simp [hlt2]⟩
            obtain ⟨b, off, sso, ssc, rfl, c1, R1, F1⟩ := (HX.out.below HBw.out).at hs
            have HD := K.firstE_drop hs
            rw [← HW.out] at HD
            have hsz := HBi.out.size
            have hw := refwrong_any wr _ s R1 F1
            clear R1 F1 hs
            obtain ⟨e0, he0⟩ : ∃ e0, e0 = S.wrongE s := ⟨_, rfl⟩
            rw [← he0] at HD hw
            have HD2 : Hid (K.firstE x = if e0 = 0 then K.firstE (x.drop (m + 1)) else e0) := HD
            clear HD he0
            by_cases h0 : e0 = 0
            · subst h0
              go_wp2_with fail
              refine hw.mono ?_
              rintro e w1 ⟨rfl, hb⟩
              have HB1 : Hid (Below wo.heap.size wo w1) := HBi.out.trans (hb.mono hsz)
              go_wp2
              go_roundw
              case rel => exact ⟨m + 1, by omega, by go_num, by show _ = _; have := HD2.out; simpa using this, HB1.out⟩
              case measure => simp [intOf]; omega
            · go_wp2_with fail
              refine hw.mono ?_
              rintro e w1 ⟨rfl, hb⟩
              have HB1 : Hid (Below w.heap.size w w1) := HBw.out.trans (hb.mono HBw.out.size)
              have hfin : ex = e0 := by have h1 := HD2.out; rw [if_neg h0] at h1; rw [hes, h1]
              go_wp2
              go_ret
              exact ⟨by rw [← HF.out k ex HEX.out HZ.out (by omega), hfin]; rfl, HB1.out⟩
          · have hfin : ex = 0 := by rw [hes, HW.out, List.drop_eq_nil_of_le (by omega)]; rfl
            have HBB : Hid (Below w.heap.size w wr ∧ wr.heap[w.heap.size]? = some (.cells #[.bool st, .bool fi, .slice bo be.length bc, .slice so sou.length sc, .slice ao af.length ac, .slice tgo ta.length tc, .int .i64 cu] 55) ∧ wr.heap[w.heap.size + 1]? = some (.cells #[.slice bo be.length bc, .slice so sou.length sc, .slice ao af.length ac] 53)) := ⟨HBw.out, K.blk_below HB.out.2.1 HBi.out, K.blk_below HB.out.2.2 HBi.out⟩
            go_wp2
            go_roundw
            case rel =>
              refine ⟨k + 1, by omega, by go_num, fun j e' hj he' => ?_, HBB.out⟩
              by_cases hjk : j = k
              · subst hjk
                rw [HEX.out] at he'
                cases he'
                exact hfin
              · exact HZ.out j e' (by omega) he'
            case measure => simp [intOf]; omega
    · obtain rfl : k = 3 := by omega
      have q1 := HZ.out 0 e1 (by omega) rfl
      have q2 := HZ.out 1 e2 (by omega) rfl
      have q3 := HZ.out 2 e3 (by omega) rfl
      subst q1 q2 q3
      have d3 := K.at_box (i := 3) HB.out.2.1 rfl
      have d5 := K.at_box (i := 5) HB.out.2.1 rfl
      have d6 := K.at_box (i := 6) HB.out.2.1 rfl
      have HB3 : Hid (Below w.heap.size w wo) := HB.out.1
      have HO2 : Hid ((if sou.length = 0 then (6 : Int) else if 20 < ta.length then 5 else if e4 = false then 3 else if cu < 0 then 3 else if (ta.length : Int) < cu then 3 else 0) = o) := by
        have h := HO.out
        rw [if_neg (by simp), if_neg (by simp), if_neg (by simp)] at h
        exact h
      by_cases q4 : sou.length = 0
      · go_wp2
        go_ret
        exact ⟨by rw [← HO2.out, if_pos q4]; rfl, HB3.out⟩
      · by_cases q5 : 20 < ta.length
        · go_wp2
          go_ret
          exact ⟨by rw [← HO2.out, if_neg q4, if_pos q5]; rfl, HB3.out⟩
        · have hC4 := C4.out (by omega) wo HB3.out
          go_wp2_with fail
          refine hC4.mono ?_
          rintro e w4 ⟨rfl, hb⟩
          have HB4 : Hid (Below w.heap.size w w4) := HB3.out.trans (hb.mono HB3.out.size)
          have HH4 := K.blk_below HB.out.2.1 hb
          have g5 := K.at_box (i := 5) HH4 rfl
          have g6 := K.at_box (i := 6) HH4 rfl
          clear hb HH4 d3 d5 d6
          have HO3 : Hid ((if e4 = false then (3 : Int) else if cu < 0 then 3 else if (ta.length : Int) < cu then 3 else 0) = o) := by
            have h := HO2.out
            rw [if_neg q4, if_neg q5] at h
            exact h
          cases e4 with
          | false =>
            go_wp2
            go_ret
            exact ⟨by rw [← HO3.out]; rfl, HB4.out⟩
          | true =>
            by_cases q6 : cu < 0
            · go_wp2
              go_ret
              exact ⟨by rw [← HO3.out, if_neg (by simp), if_pos (by omega)]; rfl, HB4.out⟩
            · by_cases q7 : (ta.length : Int) < cu
              · go_wp2
                go_ret
                exact ⟨by rw [← HO3.out, if_neg (by simp), if_neg (by omega), if_pos (by omega)]; rfl, HB4.out⟩
              · go_wp2
                go_ret
                exact ⟨by rw [← HO3.out, if_neg (by simp), if_neg (by omega), if_neg (by omega)]; rfl, HB4.out⟩

end Go.Proofs.YtlmmjefplbcapaaGreat

/-
  append, by its run, at a step of a region that draws its order.
-/
namespace Go.Proofs.YtlmmjefplbcapaaGreat
open Go.RowKit

/-- append, by its run, at a step of a region that draws its order -/
theorem K.step_run {t : TypeId} {ops : Array Oper} {o : Oper} {a : Act} {w : World} {K : Act → World → Prop} {Q : Exit → Act → World → Prop} {E : Prop} (hgd : o.guard = none) (s x : Operand)
    (ho : o.op = .call { callee := .builtin .append, args := #[s, x], argTypes := #[t, t] }) (v vx v' : Value) (w' : World) (hs : a.eval s = v) (hx : a.eval x = vx)
    (hrun : ∀ ty, (Builtin.append_ #[t, t] ty #[v, vx]).run Tryz.prog w = .ok v' w') (h : K (a.put o.dst v') w') :
    if Region.wanted o (yielded ops a.tmps) = true then Oper.wp Tryz.prog o a w K Q else E := by
  have hw : Region.wanted o (yielded ops a.tmps) = true := by simp [Region.wanted, hgd]
  rw [if_pos hw]
  unfold Oper.wp
  simp [execOp, ho, resolve, invoke, builtin, hs, hx, hrun, Result.andThen]
  exact h

end Go.Proofs.YtlmmjefplbcapaaGreat

/-
  Lists of sets that are appended to.
-/
namespace Go.Proofs.YtlmmjefplbcapaaGreat
open Go.RowKit
set_option maxRecDepth 20000
set_option linter.unusedSimpArgs false
set_option linter.unusedVariables false

theorem Tryz.infoSet : (Tryz.prog.info? 70).map (fun i => (i.zero, i.size, i.bytes)) = some (some (.slice none 0 0), 1, 24) := by kernel_rfl

/-- a slice of sets, with the values of its cells -/
def K.SsV (w : World) (v : Value) (l : List (List S.Sp)) (vs : List Value) : Prop :=
  ∃ ao cap, v = .slice ao l.length cap ∧ (ao = none → cap = 0) ∧ K.Sets w vs l ∧ (l ≠ [] → ∃ b off, ao = some ⟨b, off, none⟩ ∧ ∀ (j : Nat) u, vs[j]? = some u → w.cell? ⟨b, off + j, none⟩ = some u)
theorem K.Ss.vals {w : World} {v : Value} {l : List (List S.Sp)} (h : K.Ss w v l) : ∃ vs, K.SsV w v l vs := by
  obtain ⟨ao, cap, vs, h1, h2, _, h3, h4⟩ := h
  exact ⟨vs, ao, cap, h1, h2, h3, h4⟩
theorem K.SsV.below {w w' : World} {v : Value} {l : List (List S.Sp)} {vs : List Value} (h : K.SsV w v l vs) (hb : Below w.heap.size w w') : K.SsV w' v l vs := by
  obtain ⟨ao, cap, rfl, hn, hs, hc⟩ := h
  refine ⟨ao, cap, rfl, hn, hs.below hb, fun hz => ?_⟩
  obtain ⟨b, off, rfl, hc2⟩ := hc hz
  refine ⟨b, off, rfl, fun j u hj => ?_⟩
  have h1 := hc2 j u hj
  have := L.block_lt h1
  rw [hb.cell (p := ⟨b, off + j, none⟩) this]; exact h1

theorem K.app_sets (w : World) (B : Nat) (v : Value) (us : List Value) (own : w.ownsRow B 70 1 v us.length us) (vx : Value) (l : List (List S.Sp)) (vs : List Value) (hx : K.SsV w vx l vs) (hl : us.length + l.length ≤ 1000) (hB : B ≤ w.heap.size) :
    ∃ v' w', (∀ ty, (Builtin.append_ #[53, 53] ty #[v, vx]).run Tryz.prog w = .ok v' w') ∧ w'.ownsRow B 70 1 v' (us ++ vs).length (us ++ vs) ∧ w.grownBy w' v.ownBlock := by
  obtain ⟨i0, hi, hz0, hz1, hz2⟩ := info_parts Tryz.infoSet
  obtain ⟨ao, cap, rfl, hn, hs, hc⟩ := hx
  cases ao with
  | none =>
    have h0 : l = [] := by
      cases l with
      | nil => rfl
      | cons z zs => obtain ⟨b, off, h, _⟩ := hc (by simp); simp at h
    subst h0
    have h1 : vs = [] := List.eq_nil_of_length_eq_zero (by rw [hs.1]; rfl)
    subst h1
    have := hn rfl
    subst this
    refine ⟨v, w, fun ty => run_append_owned_none (P := Tryz.prog) w B _ ty _ i0 1 Tryz.underlying53 hi v _ us own, by simpa using own, ⟨rfl, rfl, rfl, Nat.le_refl _, fun _ _ _ => rfl⟩⟩
  | some ad =>
    have hnews : ∀ j u, vs[j]? = some u → w.cell? (ad.add j) = some u := fun j u hj => by
      have hlt : 0 < l.length := by rw [← hs.1]; have := (List.getElem?_eq_some_iff.1 hj).1; omega
      obtain ⟨b, off, h, hcell⟩ := hc (by intro h; subst h; simp at hlt)
      cases h
      rw [L.addr_add]; exact hcell j u hj
    obtain ⟨v', w', hrun, r1, r2, _⟩ := run_append_own (P := Tryz.prog) w B 53 0 70 i0 (.slice none 0 0) 1 24 Tryz.underlying53 hi hz0 hz1 hz2 rfl (by decide) v us.length us own ad l.length cap vs (by rw [hs.1]; simp) hnews (fun u hu => hs.one hu) (by unfold maxLen; omega) (by omega) hB
    refine ⟨v', w', fun ty => hrun, ?_, r2⟩
    rw [List.length_append, hs.1]; exact r1

end Go.Proofs.YtlmmjefplbcapaaGreat
