/-
  What is wrong with rules and texts: what the document's text answers.
-/
import Derived.Test.YtlmmjefplbcapaaGreatSRefWrong
import Derived.Test.YtlmmjefplbcapaaGreatRuFrame
import Derived.Test.YtlmmjefplbcapaaGreatRows
import Derived.BigRegion
import Derived.RegionTactic
import Derived.Deep.RegionHeld3
import Derived.Test.YtlmmjefplbcapaaGreatSWrong
import Derived.Deep.QuietTactic
import Derived.BigQuiet
import Derived.Test.YtlmmjefplbcapaaGreatYRus
import Derived.Test.YtlmmjefplbcapaaGreatQFrame
import Derived.Test.YtlmmjefplbcapaaGreatYHead
import Derived.Test.YtlmmjefplbcapaaGreatSHas7
namespace Go.Proofs.YtlmmjefplbcapaaGreat
open Go.RowKit
set_option maxRecDepth 20000
set_option linter.unusedSimpArgs false
set_option linter.unusedVariables false

set_option maxHeartbeats 4000000 in
theorem rWrong_any (w : World) (v : Value) (r : K.Rule) (R : K.RuIs w v r) :
    Calls Tryz.prog 43 #[v] w fun e w' => e = .returned (.int .i64 (K.ruleE r)) ∧ Below w.heap.size w w' := by
  obtain ⟨bo, bc, so, sc, ao, ac, tgo, tc, rfl, R1, R2, R3, R4, hl4, hcur⟩ := R
  have f2 := R2.few
  have hI1 : -9223372036854775808 ≤ r.cursor := hcur.1
  have hI2 : r.cursor ≤ 9223372036854775807 := hcur.2
  have C4 : Hid (r.target.length ≤ 20 → ∀ X, Below w.heap.size w X → Calls Tryz.prog 24 #[.slice tgo r.target.length tc] X fun e w' => e = .returned (.bool (K.allR r.target)) ∧ Below X.heap.size X w') := fun h X hX => refall_any X _ _ (R4.below hX (Nat.le_refl _)) (by omega)
  obtain ⟨o, HO⟩ : ∃ o, Hid (K.ruleE r = o) := ⟨_, rfl⟩
  rw [HO.out]
  unfold K.ruleE K.tailE at HO
  obtain ⟨e1, he1⟩ : ∃ e1, e1 = K.setsE r.before := ⟨_, rfl⟩
  obtain ⟨e2, he2⟩ : ∃ e2, e2 = K.setsE r.source := ⟨_, rfl⟩
  obtain ⟨e3, he3⟩ : ∃ e3, e3 = K.setsE r.after := ⟨_, rfl⟩
  obtain ⟨e4, he4⟩ : ∃ e4, e4 = K.allR r.target := ⟨_, rfl⟩
  rw [← he1, ← he2, ← he3, ← he4] at HO
  rw [← he4] at C4
  have HE : Hid (∀ k : Nat, k < 3 → ∃ xo xc x e, (#[.slice bo r.before.length bc, .slice so r.source.length sc, .slice ao r.after.length ac] : Array Value)[k]? = some (.slice xo x.length xc) ∧ K.Ss w (.slice xo x.length xc) x ∧ [e1, e2, e3][k]? = some e ∧ e = K.setsE x) := fun k hk => by
    match k, hk with
    | 0, _ => exact ⟨bo, bc, r.before, e1, rfl, R1, rfl, he1⟩
    | 1, _ => exact ⟨so, sc, r.source, e2, rfl, R2, rfl, he2⟩
    | 2, _ => exact ⟨ao, ac, r.after, e3, rfl, R3, rfl, he3⟩
  have HF : Hid (∀ (k : Nat) e, [e1, e2, e3][k]? = some e → (∀ (j : Nat) e', j < k → [e1, e2, e3][j]? = some e' → e' = 0) → e ≠ 0 → e = o) := K.first3 HO.out
  clear he1 he2 he3 he4 R1 R2 R3 R4 hcur
  obtain ⟨st, fi, be, sou, af, ta, cu⟩ := r
  simp only at *
  obtain ⟨W0, hW0⟩ : ∃ W0, W0 = (w.alloc (.cells #[.bool st, .bool fi, .slice bo be.length bc, .slice so sou.length sc, .slice ao af.length ac, .slice tgo ta.length tc, .int .i64 cu] 55)).alloc (.cells #[.slice bo be.length bc, .slice so sou.length sc, .slice ao af.length ac] 53) := ⟨_, rfl⟩
  have HW0 : Hid (W0.heap[w.heap.size]? = some (.cells #[.bool st, .bool fi, .slice bo be.length bc, .slice so sou.length sc, .slice ao af.length ac, .slice tgo ta.length tc, .int .i64 cu] 55) ∧ W0.heap[w.heap.size + 1]? = some (.cells #[.slice bo be.length bc, .slice so sou.length sc, .slice ao af.length ac] 53) ∧ Below w.heap.size w W0) := by
    have h := K.two_boxes (Below.refl _ W0 |> fun h => by rw [hW0] at h ⊢; exact h) (w := w) (w1 := W0) (o1 := .cells #[.bool st, .bool fi, .slice bo be.length bc, .slice so sou.length sc, .slice ao af.length ac, .slice tgo ta.length tc, .int .i64 cu] 55) (o2 := .cells #[.slice bo be.length bc, .slice so sou.length sc, .slice ao af.length ac] 53)
    exact ⟨h.1, h.2.1, h.2.2.1⟩
  go_enter Tryz.func43, Tryz.ntmps43
  go_wp2
  rw [← hW0]
  clear hW0
  go_loopw [15] (fun i wr => ∃ k : Nat, k ≤ 3 ∧ i = .int .i64 k ∧ Hid (∀ (j : Nat) e', j < k → [e1, e2, e3][j]? = some e' → e' = 0) ∧ Hid (Below w.heap.size w wr ∧ wr.heap[w.heap.size]? = some (.cells #[.bool st, .bool fi, .slice bo be.length bc, .slice so sou.length sc, .slice ao af.length ac, .slice tgo ta.length tc, .int .i64 cu] 55) ∧ wr.heap[w.heap.size + 1]? = some (.cells #[.slice bo be.length bc, .slice so sou.length sc, .slice ao af.length ac] 53))) (fun i _ => 3 - (intOf i).toNat)
  case atStart => exact ⟨0, by omega, rfl, fun j e' h => absurd h (Nat.not_lt_zero _), HW0.out.2.2, HW0.out.1, HW0.out.2.1⟩
  case round =>
    obtain ⟨k, hk, rfl, HZ, HB⟩ := hrel
    obtain ⟨wo, hwo⟩ : ∃ wo, wo = wr := ⟨_, rfl⟩
    subst hwo
    by_cases hlt : k < 3
    · obtain ⟨xo, xc, x, ex, hcx, Rx, hex, hes⟩ := HE.out k hlt
      have hfew := Rx.few
      have HX : Hid (K.Ss w (.slice xo x.length xc) x) := Rx
      have HEX : Hid ([e1, e2, e3][k]? = some ex) := hex
      have dk := K.at_box (i := k) HB.out.2.2 hcx
      have hk0 : (0 : Int) ≤ (k : Int) := by omega
      have hk3 : (k : Int) < 3 := by omega
      unfold K.setsE at hes
      clear Rx hex hcx
      by_cases hbig : 20 < x.length
      · rw [if_pos hbig] at hes
        go_wp2
        go_ret
        exact ⟨by rw [← HF.out k ex HEX.out HZ.out (by omega), hes]; rfl, HB.out.1⟩
      · rw [if_neg hbig] at hes
        go_wp2
        go_loopw [24] (fun i wi => ∃ m : Nat, m ≤ x.length ∧ i = .int .i64 m ∧ Hid (K.firstE x = K.firstE (x.drop m)) ∧ Hid (Below wo.heap.size wo wi)) (fun i _ => x.length - (intOf i).toNat)
        case atStart => exact ⟨0, Nat.zero_le _, rfl, rfl, Below.refl _ wo⟩
        case round =>
          obtain ⟨m, hm, rfl, HW, HBi⟩ := hrel
          have HBw : Hid (Below w.heap.size w wr) := HB.out.1.trans (HBi.out.mono HB.out.1.size)
          by_cases hlt2 : m < x.length
          · obtain ⟨s, hs⟩ : ∃ s, x[m]? = some s := ⟨x[m], by simp [hlt2]⟩
            obtain ⟨b, off, sso, ssc, rfl, c1, R1, F1⟩ := (HX.out.below HBw.out).at hs
            have HD := K.firstE_drop hs
            rw [← HW.out] at HD
            have hsz := HBi.out.size
            have hw := refwrong_any wr _ s R1 F1
            clear R1 F1 hs
            obtain ⟨e0, he0⟩ : ∃ e0, e0 = S.wrongE s := ⟨_, rfl⟩
            rw [← he0] at HD hw
            have HD2 : Hid (K.firstE x = if e0 = 0 then K.firstE (x.drop (m + 1)) else e0) := HD
            clear HD he0
            by_cases h0 : e0 = 0
            · subst h0
              go_wp2_with fail
              refine hw.mono ?_
              rintro e w1 ⟨rfl, hb⟩
              have HB1 : Hid (Below wo.heap.size wo w1) := HBi.out.trans (hb.mono hsz)
              go_wp2
              go_roundw
              case rel => exact ⟨m + 1, by omega, by go_num, by show _ = _; have := HD2.out; simpa using this, HB1.out⟩
              case measure => simp [intOf]; omega
            · go_wp2_with fail
              refine hw.mono ?_
              rintro e w1 ⟨rfl, hb⟩
              have HB1 : Hid (Below w.heap.size w w1) := HBw.out.trans (hb.mono HBw.out.size)
              have hfin : ex = e0 := by have h1 := HD2.out; rw [if_neg h0] at h1; rw [hes, h1]
              go_wp2
              go_ret
              exact ⟨by rw [← HF.out k ex HEX.out HZ.out (by omega), hfin]; rfl, HB1.out⟩
          · have hfin : ex = 0 := by rw [hes, HW.out, List.drop_eq_nil_of_le (by omega)]; rfl
            have HBB : Hid (Below w.heap.size w wr ∧ wr.heap[w.heap.size]? = some (.cells #[.bool st, .bool fi, .slice bo be.length bc, .slice so sou.length sc, .slice ao af.length ac, .slice tgo ta.length tc, .int .i64 cu] 55) ∧ wr.heap[w.heap.size + 1]? = some (.cells #[.slice bo be.length bc, .slice so sou.length sc, .slice ao af.length ac] 53)) := ⟨HBw.out, K.blk_below HB.out.2.1 HBi.out, K.blk_below HB.out.2.2 HBi.out⟩
            go_wp2
            go_roundw
            case rel =>
              refine ⟨k + 1, by omega, by go_num, fun j e' hj he' => ?_, HBB.out⟩
              by_cases hjk : j = k
              · subst hjk
                rw [HEX.out] at he'
                cases he'
                exact hfin
              · exact HZ.out j e' (by omega) he'
            case measure => simp [intOf]; omega
    · obtain rfl : k = 3 := by omega
      have q1 := HZ.out 0 e1 (by omega) rfl
      have q2 := HZ.out 1 e2 (by omega) rfl
      have q3 := HZ.out 2 e3 (by omega) rfl
      subst q1 q2 q3
      have d3 := K.at_box (i := 3) HB.out.2.1 rfl
      have d5 := K.at_box (i := 5) HB.out.2.1 rfl
      have d6 := K.at_box (i := 6) HB.out.2.1 rfl
      have HB3 : Hid (Below w.heap.size w wo) := HB.out.1
      have HO2 : Hid ((if sou.length = 0 then (6 : Int) else if 20 < ta.length then 5 else if e4 = false then 3 else if cu < 0 then 3 else if (ta.length : Int) < cu then 3 else 0) = o) := by
        have h := HO.out
        rw [if_neg (by simp), if_neg (by simp), if_neg (by simp)] at h
        exact h
      by_cases q4 : sou.length = 0
      · go_wp2
        go_ret
        exact ⟨by rw [← HO2.out, if_pos q4]; rfl, HB3.out⟩
      · by_cases q5 : 20 < ta.length
        · go_wp2
          go_ret
          exact ⟨by rw [← HO2.out, if_neg q4, if_pos q5]; rfl, HB3.out⟩
        · have hC4 := C4.out (by omega) wo HB3.out
          go_wp2_with fail
          refine hC4.mono ?_
          rintro e w4 ⟨rfl, hb⟩
          have HB4 : Hid (Below w.heap.size w w4) := HB3.out.trans (hb.mono HB3.out.size)
          have HH4 := K.blk_below HB.out.2.1 hb
          have g5 := K.at_box (i := 5) HH4 rfl
          have g6 := K.at_box (i := 6) HH4 rfl
          clear hb HH4 d3 d5 d6
          have HO3 : Hid ((if e4 = false then (3 : Int) else if cu < 0 then 3 else if (ta.length : Int) < cu then 3 else 0) = o) := by
            have h := HO2.out
            rw [if_neg q4, if_neg q5] at h
            exact h
          cases e4 with
          | false =>
            go_wp2
            go_ret
            exact ⟨by rw [← HO3.out]; rfl, HB4.out⟩
          | true =>
            by_cases q6 : cu < 0
            · go_wp2
              go_ret
              exact ⟨by rw [← HO3.out, if_neg (by simp), if_pos (by omega)]; rfl, HB4.out⟩
            · by_cases q7 : (ta.length : Int) < cu
              · go_wp2
                go_ret
                exact ⟨by rw [← HO3.out, if_neg (by simp), if_neg (by omega), if_pos (by omega)]; rfl, HB4.out⟩
              · go_wp2
                go_ret
                exact ⟨by rw [← HO3.out, if_neg (by simp), if_neg (by omega), if_neg (by omega)]; rfl, HB4.out⟩

end Go.Proofs.YtlmmjefplbcapaaGreat

/-
  append, by its run, at a step of a region that draws its order.
-/
namespace Go.Proofs.YtlmmjefplbcapaaGreat
open Go.RowKit

/-- append, by its run, at a step of a region that draws its order -/
theorem K.step_run {t : TypeId} {ops : Array Oper} {o : Oper} {a : Act} {w : World} {K : Act → World → Prop} {Q : Exit → Act → World → Prop} {E : Prop} (hgd : o.guard = none) (s x : Operand)
    (ho : o.op = .call { callee := .builtin .append, args := #[s, x], argTypes := #[t, t] }) (v vx v' : Value) (w' : World) (hs : a.eval s = v) (hx : a.eval x = vx)
    (hrun : ∀ ty, (Builtin.append_ #[t, t] ty #[v, vx]).run Tryz.prog w = .ok v' w') (h : K (a.put o.dst v') w') :
    if Region.wanted o (yielded ops a.tmps) = true then Oper.wp Tryz.prog o a w K Q else E := by
  have hw : Region.wanted o (yielded ops a.tmps) = true := by simp [Region.wanted, hgd]
  rw [if_pos hw]
  unfold Oper.wp
  simp [execOp, ho, resolve, invoke, builtin, hs, hx, hrun, Result.andThen]
  exact h

end Go.Proofs.YtlmmjefplbcapaaGreat

/-
  Lists of sets that are appended to.
-/
namespace Go.Proofs.YtlmmjefplbcapaaGreat
open Go.RowKit
set_option maxRecDepth 20000
set_option linter.unusedSimpArgs false
set_option linter.unusedVariables false

theorem Tryz.infoSet : (Tryz.prog.info? 70).map (fun i => (i.zero, i.size, i.bytes)) = some (some (.slice none 0 0), 1, 24) := by kernel_rfl

/-- a slice of sets, with the values of its cells -/
def K.SsV (w : World) (v : Value) (l : List (List S.Sp)) (vs : List Value) : Prop :=
  ∃ ao cap, v = .slice ao l.length cap ∧ (ao = none → cap = 0) ∧ K.Sets w vs l ∧ (l ≠ [] → ∃ b off, ao = some ⟨b, off, none⟩ ∧ ∀ (j : Nat) u, vs[j]? = some u → w.cell? ⟨b, off + j, none⟩ = some u)
theorem K.Ss.vals {w : World} {v : Value} {l : List (List S.Sp)} (h : K.Ss w v l) : ∃ vs, K.SsV w v l vs := by
  obtain ⟨ao, cap, vs, h1, h2, _, h3, h4⟩ := h
  exact ⟨vs, ao, cap, h1, h2, h3, h4⟩
theorem K.SsV.below {w w' : World} {v : Value} {l : List (List S.Sp)} {vs : List Value} (h : K.SsV w v l vs) (hb : Below w.heap.size w w') : K.SsV w' v l vs := by
  obtain ⟨ao, cap, rfl, hn, hs, hc⟩ := h
  refine ⟨ao, cap, rfl, hn, hs.below hb, fun hz => ?_⟩
  obtain ⟨b, off, rfl, hc2⟩ := hc hz
  refine ⟨b, off, rfl, fun j u hj => ?_⟩
  have h1 := hc2 j u hj
  have := L.block_lt h1
  rw [hb.cell (p := ⟨b, off + j, none⟩) this]; exact h1

theorem K.app_sets (w : World) (B : Nat) (v : Value) (us : List Value) (own : w.ownsRow B 70 1 v us.length us) (vx : Value) (l : List (List S.Sp)) (vs : List Value) (hx : K.SsV w vx l vs) (hl : us.length + l.length ≤ 1000) (hB : B ≤ w.heap.size) :
    ∃ v' w', (∀ ty, (Builtin.append_ #[53, 53] ty #[v, vx]).run Tryz.prog w = .ok v' w') ∧ w'.ownsRow B 70 1 v' (us ++ vs).length (us ++ vs) ∧ w.grownBy w' v.ownBlock := by
  obtain ⟨i0, hi, hz0, hz1, hz2⟩ := info_parts Tryz.infoSet
  obtain ⟨ao, cap, rfl, hn, hs, hc⟩ := hx
  cases ao with
  | none =>
    have h0 : l = [] := by
      cases l with
      | nil => rfl
      | cons z zs => obtain ⟨b, off, h, _⟩ := hc (by simp); simp at h
    subst h0
    have h1 : vs = [] := List.eq_nil_of_length_eq_zero (by rw [hs.1]; rfl)
    subst h1
    have := hn rfl
    subst this
    refine ⟨v, w, fun ty => run_append_owned_none (P := Tryz.prog) w B _ ty _ i0 1 Tryz.underlying53 hi v _ us own, by simpa using own, ⟨rfl, rfl, rfl, Nat.le_refl _, fun _ _ _ => rfl⟩⟩
  | some ad =>
    have hnews : ∀ j u, vs[j]? = some u → w.cell? (ad.add j) = some u := fun j u hj => by
      have hlt : 0 < l.length := by rw [← hs.1]; have := (List.getElem?_eq_some_iff.1 hj).1; omega
      obtain ⟨b, off, h, hcell⟩ := hc (by intro h; subst h; simp at hlt)
      cases h
      rw [L.addr_add]; exact hcell j u hj
    obtain ⟨v', w', hrun, r1, r2, _⟩ := run_append_own (P := Tryz.prog) w B 53 0 70 i0 (.slice none 0 0) 1 24 Tryz.underlying53 hi hz0 hz1 hz2 rfl (by decide) v us.length us own ad l.length cap vs (by rw [hs.1]; simp) hnews (fun u hu => hs.one hu) (by unfold maxLen; omega) (by omega) hB
    refine ⟨v', w', fun ty => hrun, ?_, r2⟩
    rw [List.length_append, hs.1]; exact r1

end Go.Proofs.YtlmmjefplbcapaaGreat

/-
  What the document's Has answers of any spans.
-/
namespace Go.Proofs.YtlmmjefplbcapaaGreat
open Go.RowKit

theorem memb_take {l : List S.Sp} {k : Nat} {x : S.Sp} {r : Int} (hx : l[k]? = some x) : S.memb (l.take (k + 1)) r = (S.memb (l.take k) r || (decide (x.1 ≤ r) && decide (r ≤ x.2))) := by
  rw [List.take_add_one, hx, S.memb_append]; simp [S.memb_cons, S.memb_nil]

set_option maxHeartbeats 1000000 in
theorem refhas_any (w : World) (v : Value) (l : List S.Sp) (r : Int) (R : S.Rd w v l) (hl : l.length ≤ 4611686018427387903) :
    Calls Tryz.prog 45 #[v, .int .i32 r] w fun e w' => e = .returned (.bool (S.memb l r)) ∧ Below w.heap.size w w' := by
  obtain ⟨ao, cap, rfl, hn, hc⟩ := R
  go_enter Tryz.func45, Tryz.ntmps45
  go_wp2
  go_loopw [9] (fun i wr => ∃ k : Nat, k ≤ l.length ∧ i = .int .i64 k ∧ Hid (S.memb (l.take k) r = false) ∧ Hid (Below w.heap.size w wr)) (fun i _ => l.length - (intOf i).toNat)
  case atStart => exact ⟨0, Nat.zero_le _, rfl, by show S.memb (l.take 0) r = false; simp [S.memb_nil], Below.refl _ w⟩
  case round =>
    obtain ⟨k, hk, rfl, HW, HB⟩ := hrel
    by_cases hlt : k < l.length
    · obtain ⟨b, off, rfl, hcell⟩ := hc (by intro h; subst h; simp at hlt)
      obtain ⟨x, hx⟩ : ∃ x, l[k]? = some x := ⟨l[k], by simp [hlt]⟩
      have c0 := hcell k x hx
      have hb := L.block_lt c0.1
      have cc : ∀ o, wr.cell? ⟨b, o, none⟩ = w.cell? ⟨b, o, none⟩ := fun o => HB.out.cell (p := ⟨b, o, none⟩) hb
      have c1 := c0.1
      have c2 := c0.2
      rw [← cc] at c1 c2
      have HX : Hid (l[k]? = some x) := hx
      have hsz := HB.out.size
      have HM := memb_take (r := r) hx
      rw [HW.out] at HM
      obtain ⟨x1, x2⟩ := x
      simp only [Bool.false_or] at c1 c2 HM
      have HM2 : Hid (S.memb (l.take (k + 1)) r = (decide (x1 ≤ r) && decide (r ≤ x2))) := HM
      have HB2 : Hid (∀ o, Below w.heap.size w (wr.alloc o)) := fun o => HB.out.alloc hsz o
      clear c0 hx hcell hc cc HM
      by_cases h1 : x1 ≤ r
      · by_cases h2 : r ≤ x2
        · go_wp2
          go_ret
          refine ⟨L.ret_bool ?_, HB2.out _⟩
          symm
          rw [S.memb_iff]
          exact ⟨(x1, x2), List.mem_of_getElem? HX.out, h1, h2⟩
        · go_wp2
          go_roundw
          case rel => exact ⟨k + 1, by omega, by go_num, by show _ = _; rw [HM2.out]; simp [h2], HB2.out _⟩
          case measure => simp [intOf]; omega
      · go_wp2
        go_roundw
        case rel => exact ⟨k + 1, by omega, by go_num, by show _ = _; rw [HM2.out]; simp [h1], HB2.out _⟩
        case measure => simp [intOf]; omega
    · go_wp2
      go_ret
      refine ⟨L.ret_bool ?_, HB.out⟩
      rw [← HW.out, List.take_of_length_le (by omega)]


end Go.Proofs.YtlmmjefplbcapaaGreat

/-
  Whether a rule matches: what the document's text answers.
-/
namespace Go.Proofs.YtlmmjefplbcapaaGreat
open Go.RowKit
set_option maxRecDepth 20000
set_option linter.unusedSimpArgs false
set_option linter.unusedVariables false

set_option maxHeartbeats 8000000 in
theorem rMatches_any (w : World) (v : Value) (r : K.Rule) (R : K.RuIs w v r) (hE : K.ruleE r = 0) (vt : Value) (t : List Int) (Rt : L.Rd w vt .i32 t) (ht : t.length ≤ 4000) (k : Int) (hk0 : 0 ≤ k) (hk1 : k ≤ t.length) :
    Calls Tryz.prog 35 #[v, vt, .int .i64 k] w fun e w' => e = .returned (.bool (K.matchB r t k)) ∧ Below w.heap.size w w' := by
  obtain ⟨g1, g2, g3, hsrc, _⟩ := K.ruleE_zero hE
  have l1 := g1.1
  have l2 := g2.1
  have l3 := g3.1
  obtain ⟨bo, bc, so, sc, ao, ac, tgo, tc, rfl, R1, R2, R3, R4, hl4, hcur⟩ := R
  have HT : Hid (L.Rd w vt .i32 t) := Rt
  obtain ⟨xo, xc, rfl, _⟩ := Rt
  have HMB : Hid (K.matchB r t k = (K.runAt t (k - r.before.length) (r.before ++ r.source ++ r.after) && !(r.start && decide (0 < k - r.before.length)) && !(r.fin && decide (k + r.source.length + r.after.length < t.length)))) := rfl
  have hG : ∀ s ∈ r.before ++ r.source ++ r.after, S.Nf 0 s ∧ s.length ≤ 200 := fun s hs => by
    rcases List.mem_append.1 hs with hs | hs
    · rcases List.mem_append.1 hs with hs | hs
      · exact g1.2 s hs
      · exact g2.2 s hs
    · exact g3.2 s hs
  have HG : Hid (∀ s ∈ r.before ++ r.source ++ r.after, S.Nf 0 s ∧ s.length ≤ 200) := hG
  generalize K.matchB r t k = mb at *
  obtain ⟨st, fi, be, sou, af, ta, cu⟩ := r
  simp only at *
  clear g1 g2 g3 hG hE
  obtain ⟨W0, hW0⟩ : ∃ W0, W0 = w.alloc (.cells #[.bool st, .bool fi, .slice bo be.length bc, .slice so sou.length sc, .slice ao af.length ac, .slice tgo ta.length tc, .int .i64 cu] 55) := ⟨_, rfl⟩
  have hH0 : W0.heap[w.heap.size]? = some (.cells #[.bool st, .bool fi, .slice bo be.length bc, .slice so sou.length sc, .slice ao af.length ac, .slice tgo ta.length tc, .int .i64 cu] 55) := by rw [hW0]; exact heap_alloc_new w _
  have hB0 : Below w.heap.size w W0.drew := by rw [hW0]; exact ((Below.refl _ w).alloc (Nat.le_refl _) _).drew
  have hs0 : W0.heap.size = w.heap.size + 1 := by rw [hW0]; simp
  have hs0' : W0.drew.heap.size = w.heap.size + 1 := hs0
  have hH0' : W0.drew.heap[w.heap.size]? = some (.cells #[.bool st, .bool fi, .slice bo be.length bc, .slice so sou.length sc, .slice ao af.length ac, .slice tgo ta.length tc, .int .i64 cu] 55) := hH0
  obtain ⟨u1, V1⟩ := K.Ss.vals R1
  obtain ⟨u2, V2⟩ := K.Ss.vals R2
  obtain ⟨u3, V3⟩ := K.Ss.vals R3
  have sets1 : K.Sets w u1 be := by obtain ⟨_, _, _, _, h, _⟩ := V1; exact h
  have sets2 : K.Sets w u2 sou := by obtain ⟨_, _, _, _, h, _⟩ := V2; exact h
  have sets3 : K.Sets w u3 af := by obtain ⟨_, _, _, _, h, _⟩ := V3; exact h
  obtain ⟨v1, W1, run1, own1, gr1⟩ := K.app_sets W0.drew (w.heap.size + 1) (.slice none 0 0) [] (World.ownsRow_nil _ _ _ _) _ be u1 (V1.below hB0) (by simp; omega) (by omega)
  have hB1 : Below w.heap.size w W1 := hB0.grown gr1 (by omega) (fun g hg => by cases hg)
  have hH1 : W1.heap[w.heap.size]? = some (.cells #[.bool st, .bool fi, .slice bo be.length bc, .slice so sou.length sc, .slice ao af.length ac, .slice tgo ta.length tc, .int .i64 cu] 55) := by rw [gr1.block _ (by omega) (by simp [Value.ownBlock])]; exact hH0'
  have hs1 := gr1.size
  have e1 : u1.length = be.length := sets1.1
  obtain ⟨v2, W2, run2, own2, gr2⟩ := K.app_sets W1 (w.heap.size + 1) v1 _ own1 _ sou u2 (V2.below hB1) (by simp; omega) (by omega)
  have hB2 : Below w.heap.size w W2 := hB1.grown gr2 (by omega) (fun g hg => by have := (own1.lt g hg).1; omega)
  have hH2 : W2.heap[w.heap.size]? = some (.cells #[.bool st, .bool fi, .slice bo be.length bc, .slice so sou.length sc, .slice ao af.length ac, .slice tgo ta.length tc, .int .i64 cu] 55) := by rw [gr2.block _ (by omega) (fun hg => by have := (own1.lt _ hg.symm).1; omega)]; exact hH1
  have hs2 := gr2.size
  have e2 : u2.length = sou.length := sets2.1
  obtain ⟨v3, W3, run3, own3, gr3⟩ := K.app_sets W2 (w.heap.size + 1) v2 _ own2 _ af u3 (V3.below hB2) (by simp; omega) (by omega)
  have hB3 : Below w.heap.size w W3 := hB2.grown gr3 (by omega) (fun g hg => by have := (own2.lt g hg).1; omega)
  have hH3 : W3.heap[w.heap.size]? = some (.cells #[.bool st, .bool fi, .slice bo be.length bc, .slice so sou.length sc, .slice ao af.length ac, .slice tgo ta.length tc, .int .i64 cu] 55) := by rw [gr3.block _ (by omega) (fun hg => by have := (own2.lt _ hg.symm).1; omega)]; exact hH2
  have e3 : u3.length = af.length := sets3.1
  have hs3 := gr3.size
  obtain ⟨us, hus⟩ : ∃ us, us = [] ++ u1 ++ u2 ++ u3 := ⟨_, rfl⟩
  obtain ⟨l, hl⟩ : ∃ l, l = be ++ sou ++ af := ⟨_, rfl⟩
  have hSets : K.Sets w us l := by rw [hus, hl]; simpa using (sets1.append sets2).append sets3
  have hlen : l.length = be.length + sou.length + af.length := by rw [hl]; simp only [List.length_append]
  have HLen : Hid (l.length = be.length + sou.length + af.length) := hlen
  have hl60 : l.length ≤ 60 := by omega
  have hl0 : 0 < l.length := by omega
  rw [← hus] at own3
  rw [← hl] at HMB HG
  have HS : Hid (K.Sets w us l) := hSets
  obtain ⟨g, cap, hv3, hgB, hgc⟩ : ∃ g cap, v3 = .slice (some ⟨g, 0, none⟩) l.length cap ∧ w.heap.size + 1 ≤ g ∧ ∀ (j : Nat) u, us[j]? = some u → W3.cell? ⟨g, 0 + j, none⟩ = some u := by
    have hc := fun g hg => World.ownsRow.cells own3 (g := g) hg
    rcases own3.2 with ⟨_, h0⟩ | ⟨g, cap, cur, hv, hB, _⟩
    · rw [hSets.1] at h0; omega
    · refine ⟨g, cap, by rw [hv, hSets.1], hB, fun j u hj => ?_⟩
      have := hc g (by rw [hv]; rfl) j u hj
      rw [L.addr_add] at this
      exact this
  have HGC : Hid (∀ (j : Nat) u, us[j]? = some u → W3.cell? ⟨g, 0 + j, none⟩ = some u) := hgc
  subst hv3
  have c2 := K.at_box (i := 2) hH0 rfl
  have c3 := K.at_box (i := 3) hH0 rfl
  have c4 := K.at_box (i := 4) hH0 rfl
  have c12 := K.at_box (i := 2) hH1 rfl
  have c13 := K.at_box (i := 3) hH1 rfl
  have c14 := K.at_box (i := 4) hH1 rfl
  have c22 := K.at_box (i := 2) hH2 rfl
  have c23 := K.at_box (i := 3) hH2 rfl
  have c24 := K.at_box (i := 4) hH2 rfl
  have HB3 : Hid (Below w.heap.size w W3) := hB3
  have HH3 : Hid (W3.heap[w.heap.size]? = some (.cells #[.bool st, .bool fi, .slice bo be.length bc, .slice so sou.length sc, .slice ao af.length ac, .slice tgo ta.length tc, .int .i64 cu] 55)) := hH3
  clear hH0 hH0' hH1 hH2 hH3 hB0 hB1 hB2 hB3 own1 own2 own3 gr1 gr2 gr3 V1 V2 V3 sets1 sets2 sets3 hSets hlen hgc R1 R2 R3 R4 hus hl
  go_enter Tryz.func35, Tryz.ntmps35
  go_wp2
  rw [← hW0]
  clear hW0
  have c32 := K.at_box (i := 2) HH3.out rfl
  have c33 := K.at_box (i := 3) HH3.out rfl
  have c34 := K.at_box (i := 4) HH3.out rfl
  have HR1 : Hid (∀ ty, (Builtin.append_ #[53, 53] ty #[.slice none 0 0, .slice bo be.length bc]).run Tryz.prog W0.drew = .ok v1 W1) := run1
  have HR2 : Hid (∀ ty, (Builtin.append_ #[53, 53] ty #[v1, .slice so sou.length sc]).run Tryz.prog W1 = .ok v2 W2) := run2
  have HR3 : Hid (∀ ty, (Builtin.append_ #[53, 53] ty #[v2, .slice ao af.length ac]).run Tryz.prog W2 = .ok (.slice (some ⟨g, 0, none⟩) l.length cap) W3) := run3
  clear run1 run2 run3
  go_region_held3 (fun w' => w'.cell? ⟨w.heap.size, 2, none⟩ = some (.slice bo be.length bc) ∧ w'.cell? ⟨w.heap.size, 3, none⟩ = some (.slice so sou.length sc) ∧ w'.cell? ⟨w.heap.size, 4, none⟩ = some (.slice ao af.length ac))
    (first | exact ⟨c12, c13, c14⟩ | exact ⟨c22, c23, c24⟩ | exact ⟨c32, c33, c34⟩ | go_keep)
    (first | (refine K.step_run (by rfl) (.tmp 12) (.tmp 14) (by rfl) _ _ v1 W1 (by rfl) (by rfl) HR1.out ?_) | (refine K.step_run (by rfl) (.tmp 15) (.tmp 17) (by rfl) _ _ v2 W2 (by rfl) (by rfl) HR2.out ?_) | (refine K.step_run (by rfl) (.tmp 18) (.tmp 20) (by rfl) _ _ _ W3 (by rfl) (by rfl) HR3.out ?_) | fail)
  have hneg : -9223372036854775808 ≤ k - (be.length : Int) := by omega
  clear c2 c3 c4 c12 c13 c14 c22 c23 c24 HR1 HR2 HR3
  go_wp2
  go_loopw [29] (fun i wr => ∃ j : Nat, j ≤ l.length ∧ i = .int .i64 j ∧ Hid (K.runAt t (k - be.length) l = K.runAt t (k - be.length + j) (l.drop j)) ∧ Hid (Below w.heap.size w wr ∧ Below W3.heap.size W3 wr)) (fun i _ => l.length - (intOf i).toNat)
  case atStart => exact ⟨0, Nat.zero_le _, rfl, by show _ = _; simp, HB3.out, Below.refl _ _⟩
  case round =>
    obtain ⟨j, hj, rfl, HW, HB⟩ := hrel
    have HBw : Hid (Below w.heap.size w wr) := HB.out.1
    have HHr : Hid (wr.heap[w.heap.size]? = some (.cells #[.bool st, .bool fi, .slice bo be.length bc, .slice so sou.length sc, .slice ao af.length ac, .slice tgo ta.length tc, .int .i64 cu] 55)) := K.blk_below HH3.out HB.out.2
    by_cases hlt : j < l.length
    · obtain ⟨s, hsj⟩ : ∃ s, l[j]? = some s := ⟨l[j], by simp [hlt]⟩
      obtain ⟨u, hu⟩ : ∃ u, us[j]? = some u := ⟨us[j]'(by rw [HS.out.1]; exact hlt), by simp⟩
      obtain ⟨⟨sso, ssc, rfl⟩, R1, F1⟩ := HS.out.2 j u s hu hsj
      have c1 := HGC.out j _ hu
      have hbg := L.block_lt c1
      rw [← HB.out.2.cell (p := ⟨g, _, none⟩) hbg, Nat.zero_add] at c1
      obtain ⟨hN, hlen⟩ := HG.out s (List.mem_of_getElem? hsj)
      have HD := K.runAt_drop (t := t) (k := k - be.length) hsj
      rw [← HW.out] at HD
      have hfalse : ∀ b, K.runAt t (k - be.length) l = (false && b) → mb = false := fun b h => by rw [HMB.out, h]; simp
      have HF : Hid (∀ b, K.runAt t (k - be.length) l = (false && b) → mb = false) := hfalse
      clear hfalse hu hsj
      by_cases h1 : k - (be.length : Int) + j < 0
      · have hf := HF.out false (by rw [HD, decide_eq_false (show ¬ (0 ≤ k - (be.length : Int) + j) by omega)]; simp only [Bool.false_and])
        clear HD
        go_wp2
        go_ret
        first | exact ⟨L.ret_bool hf.symm, HBw.out⟩ | exact ⟨rfl, HBw.out⟩
      · by_cases h2 : (t.length : Int) ≤ k - (be.length : Int) + j
        · have hf := HF.out false (by rw [HD, decide_eq_false (show ¬ (k - (be.length : Int) + j < t.length) by omega)]; simp only [Bool.and_false, Bool.false_and])
          clear HD
          go_wp2
          go_ret
          first | exact ⟨L.ret_bool hf.symm, HBw.out⟩ | exact ⟨rfl, HBw.out⟩
        · obtain ⟨x, hx⟩ : ∃ x, t[(k - (be.length : Int) + j).toNat]? = some x := ⟨t[(k - (be.length : Int) + j).toNat]'(by omega), by simp⟩
          obtain ⟨_, _, he, _, htc⟩ := HT.out.below HBw.out (Nat.le_refl _)
          cases he
          obtain ⟨bt, offt, rfl, hct⟩ := htc (by intro h; subst h; simp at hx)
          have ct := hct _ x hx
          have hhas := refhas_any wr _ s x (R1.below HBw.out (Nat.le_refl _)) (by omega)
          rw [decide_eq_true (show 0 ≤ k - (be.length : Int) + j by omega), decide_eq_true (show k - (be.length : Int) + j < t.length by omega), Bool.true_and, Bool.true_and] at HD
          have hgd : t.getD (k - (be.length : Int) + j).toNat 0 = x := by simp [List.getD, hx]
          rw [hgd] at HD
          generalize S.memb s x = mm at HD hhas
          have HD2 : Hid (K.runAt t (k - be.length) l = (mm && K.runAt t (k - be.length + (j + 1 : Nat)) (l.drop (j + 1)))) := HD
          have hsz := HBw.out.size
          have hsz2 := HB.out.2.size
          clear HD hct htc hx hgd R1 F1 hN
          go_wp2_with fail
          refine hhas.mono ?_
          rintro e w1 ⟨rfl, hb⟩
          have HB1 : Hid (Below w.heap.size w w1 ∧ Below W3.heap.size W3 w1) := ⟨HBw.out.trans (hb.mono hsz), HB.out.2.trans (hb.mono hsz2)⟩
          clear hhas hb ct c1
          cases mm with
          | false =>
            have hf := HF.out _ HD2.out
            go_wp2
            go_ret
            first | exact ⟨L.ret_bool hf.symm, HB1.out.1⟩ | exact ⟨rfl, HB1.out.1⟩
          | true =>
            go_wp2
            go_roundw
            case rel => exact ⟨j + 1, by omega, by go_num, by show _ = _; rw [HD2.out]; rfl, HB1.out⟩
            case measure => simp [intOf]; omega
    · have hrun : K.runAt t (k - be.length) l = true := by rw [HW.out, List.drop_eq_nil_of_le (by omega)]; rfl
      have HM2 : Hid (mb = (!(st && decide (0 < k - (be.length : Int))) && !(fi && decide (k + sou.length + af.length < (t.length : Int))))) := by
        show _ = _
        rw [HMB.out, hrun]; simp
      have d0 := K.at_box (i := 0) HHr.out rfl
      have d1 := K.at_box (i := 1) HHr.out rfl
      have hsum : k - (be.length : Int) + l.length = k + sou.length + af.length := by have := HLen.out; omega
      have HSum : Hid (k - (be.length : Int) + l.length = k + sou.length + af.length) := hsum
      clear hrun HMB HG HGC HS HT HW HB HH3 HHr hsum
      by_cases h3 : st = true ∧ 0 < k - (be.length : Int)
      · obtain ⟨rfl, h3⟩ := h3
        have hf : mb = false := by rw [HM2.out, decide_eq_true h3]; rfl
        clear HM2
        go_wp2
        go_ret
        first | exact ⟨L.ret_bool hf.symm, HBw.out⟩ | exact ⟨rfl, HBw.out⟩
      · by_cases h4 : fi = true ∧ k - (be.length : Int) + l.length < t.length
        · obtain ⟨rfl, h4⟩ := h4
          have hf : mb = false := by
            rw [HM2.out, ← HSum.out, decide_eq_true h4]; simp
          clear HM2
          cases st with
          | false =>
            go_wp2
            go_ret
            first | exact ⟨L.ret_bool hf.symm, HBw.out⟩ | exact ⟨rfl, HBw.out⟩
          | true =>
            have h5 : ¬ 0 < k - (be.length : Int) := fun h => h3 ⟨rfl, h⟩
            go_wp2
            go_ret
            first | exact ⟨L.ret_bool hf.symm, HBw.out⟩ | exact ⟨rfl, HBw.out⟩
        · have h5 : st = true → k - (be.length : Int) ≤ 0 := fun h => Int.not_lt.1 fun h' => h3 ⟨h, h'⟩
          have h6 : fi = true → (t.length : Int) ≤ k - (be.length : Int) + l.length := fun h => Int.not_lt.1 fun h' => h4 ⟨h, h'⟩
          have hf : mb = true := by
            rw [HM2.out, ← HSum.out]
            cases st <;> cases fi <;> simp at h5 h6 ⊢ <;> omega
          clear HM2 h3 h4
          rcases Bool.eq_false_or_eq_true st with hst | hst <;> rcases Bool.eq_false_or_eq_true fi with hfi | hfi
          all_goals
            subst hst hfi
            simp only [forall_const, Bool.false_eq_true, false_imp_iff] at h5 h6
            go_wp2
            go_ret
            first | exact ⟨L.ret_bool hf.symm, HBw.out⟩ | exact ⟨rfl, HBw.out⟩

end Go.Proofs.YtlmmjefplbcapaaGreat

/-
  Which: what the document answers.
-/
namespace Go.Proofs.YtlmmjefplbcapaaGreat
open Go.RowKit Go.Shelf
set_option maxRecDepth 20000
set_option linter.unusedSimpArgs false
set_option linter.unusedVariables false

set_option maxHeartbeats 2000000 in
theorem rWhich8_any (w : World) (v : Value) (l : List K.Rule) (R0 : V.Rus w v l) (hl : l.length ≤ 200) (hE : ∀ r ∈ l, K.ruleE r = 0) (vt : Value) (t : List Int) (Rt : L.Rd w vt .i32 t) (ht : t.length ≤ 4000) (k : Int) (hk0 : 0 ≤ k) (hk1 : k ≤ t.length) :
    Calls Tryz.prog 22 #[v, vt, .int .i64 k] w fun e w' => e = .returned (.int .i64 (K.which l t k)) ∧ Below w.heap.size w w' := by
  have HR : Hid (V.Rus w v l) := R0
  have HT : Hid (L.Rd w vt .i32 t) := Rt
  have HE0 : Hid (∀ r ∈ l, K.ruleE r = 0) := hE
  obtain ⟨lao, lcap, rfl⟩ := R0.len
  obtain ⟨xo, xc, rfl, _⟩ := Rt
  clear R0 hE
  obtain ⟨o, HO⟩ : ∃ o, Hid (K.whichN t k 0 l = o) := ⟨_, rfl⟩
  unfold K.which
  rw [HO.out]
  go_enter Tryz.func22, Tryz.ntmps22
  go_wp2
  go_loopw [10] (fun i wr => ∃ j : Nat, j ≤ l.length ∧ i = .int .i64 j ∧ Hid (K.whichN t k j (l.drop j) = o) ∧ Hid (Below w.heap.size w wr)) (fun i _ => l.length - (intOf i).toNat)
  case atStart => exact ⟨0, Nat.zero_le _, rfl, HO, Below.refl _ w⟩
  case round =>
    obtain ⟨j, hj, rfl, HW, HB⟩ := hrel
    by_cases hlt : j < l.length
    · obtain ⟨p, hp⟩ : ∃ x, l[j]? = some x := ⟨l[j], by simp [hlt]⟩
      obtain ⟨ao', cap', e', _, hcs⟩ := HR.out.below HB.out
      cases e'
      obtain ⟨b, off, rfl, hcell⟩ := hcs (by intro h; subst h; simp at hlt)
      obtain ⟨bo, bc, so, sc, ao, ac, tgo, tc, a0, a1, a2, a3, a4, a5, a6, hP⟩ := hcell j p hp
      have HE2 : Hid (K.whichN t k j (l.drop j) = if K.matchB p t k = true then (j : Int) else K.whichN t k (j + 1) (l.drop (j + 1))) := K.whichN_drop hp
      have hsz := HB.out.size
      have HW2 : Hid (Calls Tryz.prog 35 #[.agg #[.bool p.start, .bool p.fin, .slice bo p.before.length bc, .slice so p.source.length sc, .slice ao p.after.length ac, .slice tgo p.target.length tc, .int .i64 p.cursor], .slice xo t.length xc, .int .i64 k] wr fun e w' => e = .returned (.bool (K.matchB p t k)) ∧ Below wr.heap.size wr w') := rMatches_any _ _ p hP (HE0.out p (List.mem_of_getElem? hp)) _ t (HT.out.below HB.out (Nat.le_refl _)) ht k hk0 hk1
      obtain ⟨z, HZ⟩ : ∃ z, Hid (K.matchB p t k = z) := ⟨_, rfl⟩
      rw [HZ.out] at HW2 HE2
      clear hp hcell hcs hP
      obtain ⟨st, fi, be, sou, af, ta, cu⟩ := p
      simp only at a0 a1 a2 a3 a4 a5 a6 HW2
      go_wp2_with fail
      refine HW2.out.mono ?_
      rintro e w1 ⟨rfl, B1⟩
      have HB1 : Hid (Below w.heap.size w w1) := HB.out.trans (B1.mono hsz)
      clear B1
      cases z with
      | false =>
        go_wp2
        go_roundw
        case rel => exact ⟨j + 1, by omega, by go_num, by show _ = _; rw [← HW.out, HE2.out]; simp, HB1⟩
        case measure => simp [intOf]; omega
      | true =>
        go_wp2
        go_ret
        have h := HE2.out
        rw [HW.out, if_pos trivial] at h
        exact ⟨by rw [h]; rfl, HB1.out⟩
    · have h := HW.out
      rw [List.drop_eq_nil_of_le (by omega)] at h
      go_wp2
      go_ret
      exact ⟨by rw [← h]; rfl, HB.out⟩


end Go.Proofs.YtlmmjefplbcapaaGreat

/-
  What is wrong with rules: what the document answers.
-/
namespace Go.Proofs.YtlmmjefplbcapaaGreat
open Go.RowKit
set_option maxRecDepth 20000
set_option linter.unusedSimpArgs false
set_option linter.unusedVariables false

set_option maxHeartbeats 2000000 in
theorem rWrong8_any (w : World) (v : Value) (l : List K.Rule) (R0 : V.Rus w v l) :
    Calls Tryz.prog 31 #[v] w fun e w' => e = .returned (.agg #[.int .i64 (K.rulesF l).1, .int .i64 (K.rulesF l).2]) ∧ Below w.heap.size w w' := by
  have HR : Hid (V.Rus w v l) := R0
  have hfew := R0.few
  obtain ⟨ao, cap, rfl⟩ := R0.len
  clear R0
  have HA : Hid (∀ o, Below w.heap.size w (w.alloc o)) := fun o => (Below.refl _ w).alloc (Nat.le_refl _) o
  unfold K.rulesF
  by_cases hbig : 200 < l.length
  · rw [if_pos hbig]
    go_enter Tryz.func31, Tryz.ntmps31
    go_wp2
    refine bodyPost_ret (v := .agg #[.int .i64 5, .int .i64 0]) (by simp [results, Tryz.results31, go_sem]) rfl ?_
    exact ⟨rfl, HA.out _⟩
  · rw [if_neg hbig]
    obtain ⟨⟨o1, o2⟩, HO⟩ : ∃ o, Hid (K.firstR 0 l = o) := ⟨_, rfl⟩
    rw [HO.out]
    go_enter Tryz.func31, Tryz.ntmps31
    go_wp2
    go_loopw [11] (fun i wr => ∃ k : Nat, k ≤ l.length ∧ i = .int .i64 k ∧ Hid (K.firstR k (l.drop k) = (o1, o2)) ∧ Hid (Below w.heap.size w wr) ∧ Hid (wr.heap[w.heap.size]? = some (.cells #[.int .i64 0, .int .i64 0] 27))) (fun i _ => l.length - (intOf i).toNat)
    case atStart => exact ⟨0, Nat.zero_le _, rfl, HO, HA.out _, heap_alloc_new w _⟩
    case round =>
      obtain ⟨k, hk, rfl, HE, HB, HX⟩ := hrel
      have hX := HX.out
      by_cases hlt : k < l.length
      · obtain ⟨p, hp⟩ : ∃ x, l[k]? = some x := ⟨l[k], by simp [hlt]⟩
        obtain ⟨ao', cap', e', _, hcs⟩ := HR.out.below HB.out
        cases e'
        obtain ⟨b, off, rfl, hcell⟩ := hcs (by intro h; subst h; simp at hlt)
        obtain ⟨bo, bc, so, sc, ao, ac, tgo, tc, c0, c1, c2, c3, c4, c5, c6, hP⟩ := hcell k p hp
        have HE2 : Hid (K.firstR k (l.drop k) = if K.ruleE p = 0 then K.firstR (k + 1) (l.drop (k + 1)) else (K.ruleE p, (k : Int))) := K.firstR_drop hp
        have hsz := HB.out.size
        have HW : Hid (Calls Tryz.prog 43 #[.agg #[.bool p.start, .bool p.fin, .slice bo p.before.length bc, .slice so p.source.length sc, .slice ao p.after.length ac, .slice tgo p.target.length tc, .int .i64 p.cursor]] wr fun e w' => e = .returned (.int .i64 (K.ruleE p)) ∧ Below wr.heap.size wr w') := rWrong_any _ _ p hP
        obtain ⟨z, HZ⟩ : ∃ z, Hid (K.ruleE p = z) := ⟨_, rfl⟩
        rw [HZ.out] at HW HE2
        clear hp hcell hcs hP hX
        obtain ⟨st, fi, be, sou, af, ta, cu⟩ := p
        simp only at c0 c1 c2 c3 c4 c5 c6 HW
        go_wp2_with fail
        refine HW.out.mono ?_
        rintro e w1 ⟨rfl, B1⟩
        have hX1 : w1.heap[w.heap.size]? = some (.cells #[.int .i64 0, .int .i64 0] 27) := by
          rw [B1.block _ (Array.getElem?_eq_some_iff.1 HX.out).1]; exact HX.out
        have HB1 : Hid (Below w.heap.size w w1) := HB.out.trans (B1.mono hsz)
        have HX1 : Hid _ := hX1
        obtain ⟨x0, x1, f0, f1⟩ := K.box2 hX1
        clear B1 hX1
        by_cases hz : z = 0
        · subst hz
          go_wp2
          go_roundw
          case rel => exact ⟨k + 1, by omega, by go_num, by show _ = _; rw [← HE.out, HE2.out]; simp, HB1, HX1⟩
          case measure => simp [intOf]; omega
        · go_wp2
          refine bodyPost_ret (v := .agg #[.int .i64 z, .int .i64 k]) (by simp [results, Tryz.results31, go_sem, *]) rfl ?_
          have h := HE2.out
          rw [HE.out, if_neg hz] at h
          cases h
          exact ⟨rfl, (HB1.out.setCell (p := ⟨w.heap.size, 0, none⟩) (Nat.le_refl _) _).setCell (p := ⟨w.heap.size, 1, none⟩) (Nat.le_refl _) _⟩
      · obtain ⟨x0, x1, f0, f1⟩ := K.box2 hX
        have h := HE.out
        rw [List.drop_eq_nil_of_le (by omega)] at h
        cases h
        go_wp2
        refine bodyPost_ret (v := .agg #[.int .i64 0, .int .i64 0]) (by simp [results, Tryz.results31, go_sem, *]) rfl ?_
        exact ⟨rfl, (HB.out.setCell (p := ⟨w.heap.size, 0, none⟩) (Nat.le_refl _) _).setCell (p := ⟨w.heap.size, 1, none⟩) (Nat.le_refl _) _⟩


end Go.Proofs.YtlmmjefplbcapaaGreat

/-
  What is wrong with a text: what the document answers.
-/
namespace Go.Proofs.YtlmmjefplbcapaaGreat
open Go.RowKit
set_option maxRecDepth 20000
set_option linter.unusedSimpArgs false
set_option linter.unusedVariables false

set_option maxHeartbeats 400000 in
theorem rText_any (w : World) (v : Value) (l : List Int) (R : L.Rd w v .i32 l) (hl : l.length ≤ 140737488355328) :
    Calls Tryz.prog 11 #[v] w fun e w' => e = .returned (.int .i64 (K.textE l)) ∧ Below w.heap.size w w' := by
  have h := refall_any w v l R
  obtain ⟨ao, cap, rfl, hn, hc⟩ := R
  clear hc
  unfold K.textE
  by_cases h4 : 4000 < l.length
  · rw [if_pos h4]
    go_enter Tryz.func11, Tryz.ntmps11
    go_wp2
    go_ret
    exact ⟨rfl, Below.refl _ w⟩
  · rw [if_neg h4]
    have h' := h (by omega)
    clear h
    generalize K.allR l = bb at h' ⊢
    cases bb with
    | true =>
      go_enter Tryz.func11, Tryz.ntmps11
      go_wp2_with fail
      refine h'.mono ?_
      rintro e w1 ⟨rfl, hb⟩
      go_wp2
      go_ret
      exact ⟨rfl, hb⟩
    | false =>
      go_enter Tryz.func11, Tryz.ntmps11
      go_wp2_with fail
      refine h'.mono ?_
      rintro e w1 ⟨rfl, hb⟩
      go_wp2
      go_ret
      exact ⟨rfl, hb⟩


end Go.Proofs.YtlmmjefplbcapaaGreat

/-
  What is wrong with rules and a text: what the document answers.
-/
namespace Go.Proofs.YtlmmjefplbcapaaGreat
open Go.RowKit
set_option maxRecDepth 20000
set_option linter.unusedSimpArgs false
set_option linter.unusedVariables false

set_option maxHeartbeats 2000000 in
theorem rCheck_any (w : World) (v : Value) (l : List K.Rule) (R0 : V.Rus w v l) (vt : Value) (t : List Int) (Rt : L.Rd w vt .i32 t) (ht : t.length ≤ 140737488355328) :
    Calls Tryz.prog 19 #[v, vt] w fun e w' => e = .returned (.agg #[.int .i64 (K.checkF l t).1, .int .i64 (K.checkF l t).2]) ∧ Below w.heap.size w w' := by
  have HA : Hid (∀ o, Below w.heap.size w (w.alloc o)) := fun o => (Below.refl _ w).alloc (Nat.le_refl _) o
  have HW : Hid (∀ o, Calls Tryz.prog 31 #[v] (w.alloc o) fun e w' => e = .returned (.agg #[.int .i64 (K.rulesF l).1, .int .i64 (K.rulesF l).2]) ∧ Below (w.alloc o).heap.size (w.alloc o) w') := fun o => rWrong8_any _ _ l (R0.below (HA.out o))
  have HT : Hid (∀ X, Below w.heap.size w X → Calls Tryz.prog 11 #[vt] X fun e w' => e = .returned (.int .i64 (K.textE t)) ∧ Below X.heap.size X w') := fun X hX => rText_any X vt t (Rt.below hX (Nat.le_refl _)) ht
  obtain ⟨ao, cap, rfl⟩ := R0.len
  obtain ⟨xo, xc, rfl, _⟩ := Rt
  unfold K.checkF
  obtain ⟨⟨e1, e2⟩, he⟩ : ∃ o, K.rulesF l = o := ⟨_, rfl⟩
  rw [he] at HW ⊢
  generalize K.textE t = e3 at *
  simp only at HW ⊢
  obtain ⟨⟨o1, o2⟩, HO⟩ : ∃ o : Int × Int, Hid ((if e1 = 0 then (e3, 0) else (e1, e2)) = o) := ⟨_, rfl⟩
  rw [HO.out]
  clear he R0
  go_enter Tryz.func19, Tryz.ntmps19
  go_wp2_with fail
  refine (HW.out _).mono ?_
  rintro e w1 ⟨rfl, b1⟩
  obtain ⟨h1, B1, s1⟩ := K.one_box b1
  have HB1 : Hid (Below w.heap.size w w1) := B1
  have HX1 : Hid (w1.heap[w.heap.size]? = some (.cells #[.int .i64 0, .int .i64 0] 27)) := h1
  clear b1 B1 HW
  by_cases q : e1 = 0
  · subst q
    have ho := HO.out
    rw [if_pos rfl] at ho
    cases ho
    clear h1
    have HB2 : Hid (∀ o, Below w.heap.size w (w1.alloc o)) := fun o => HB1.out.alloc (by omega) o
    go_wp2_with fail
    refine (HT.out _ (HB2.out _)).mono ?_
    rintro e w2 ⟨rfl, b2⟩
    have HB3 : Hid (Below w.heap.size w w2) := (HB2.out _).trans (b2.mono (HB2.out _).size)
    have h2 : w2.heap[w.heap.size]? = some (.cells #[.int .i64 0, .int .i64 0] 27) := by
      rw [(K.one_box b2).2.1.block _ (by omega)]; exact HX1.out
    obtain ⟨x0, x1, f0, f1⟩ := K.box2 h2
    clear b2 h2
    go_wp2
    refine bodyPost_ret (v := .agg #[.int .i64 e3, .int .i64 0]) (by simp [results, Tryz.results19, go_sem, *]) rfl ?_
    exact ⟨rfl, (HB3.out.setCell (p := ⟨w.heap.size, 0, none⟩) (Nat.le_refl _) _).setCell (p := ⟨w.heap.size, 1, none⟩) (Nat.le_refl _) _⟩
  · have ho := HO.out
    rw [if_neg q] at ho
    cases ho
    obtain ⟨x0, x1, f0, f1⟩ := K.box2 h1
    have k0 : ∀ o, (w1.alloc o).cell? ⟨w.heap.size, 0, none⟩ = some (.int .i64 0) := fun o => K.alloc_cell x0 o
    have k1 : ∀ o, (w1.alloc o).cell? ⟨w.heap.size, 1, none⟩ = some (.int .i64 0) := fun o => K.alloc_cell x1 o
    have g0 : ∀ o, (w1.alloc o).frozen? ⟨w.heap.size, 0, none⟩ = false := fun o => K.alloc_free h1 o 0
    have g1 : ∀ o, (w1.alloc o).frozen? ⟨w.heap.size, 1, none⟩ = false := fun o => K.alloc_free h1 o 1
    clear h1
    go_wp2
    refine bodyPost_ret (v := .agg #[.int .i64 e1, .int .i64 e2]) (by simp [results, Tryz.results19, go_sem, *]) rfl ?_
    exact ⟨rfl, ((HB1.out.alloc (by omega) _).setCell (p := ⟨w.heap.size, 0, none⟩) (Nat.le_refl _) _).setCell (p := ⟨w.heap.size, 1, none⟩) (Nat.le_refl _) _⟩


end Go.Proofs.YtlmmjefplbcapaaGreat
