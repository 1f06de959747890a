/-
  Which: what the document answers.
-/
import Derived.Test.YtackaadejnbfmaaMWrong
import Derived.Test.YtackaadejnbfmaaVLib
import Derived.Test.YtackaadejnbfmaaMCut
import Derived.Test.YtackaadejnbfmaaMRefM
import Derived.BigRegion
import Derived.RegionTactic
namespace Go.Proofs.Ytackaadejnbfmaa
open Go.RowKit Go.Shelf
set_option maxRecDepth 20000
set_option linter.unusedSimpArgs false
set_option linter.unusedVariables false

set_option maxHeartbeats 2000000 in
theorem rWhich8_any (w : World) (v : Value) (l : List K.Rule) (R0 : V.Rus w v l) (hl : l.length ≤ 200) (hE : ∀ r ∈ l, K.ruleE r = 0) (vt : Value) (t : List Int) (Rt : L.Rd w vt .i32 t) (ht : t.length ≤ 4000) (k : Int) (hk0 : 0 ≤ k) (hk1 : k ≤ t.length) :
    Calls Try.prog 16 #[v, vt, .int .i64 k] w fun e w' => e = .returned (.int .i64 (K.which l t k)) ∧ Below w.heap.size w w' := by
  have HR : Hid (V.Rus w v l) := R0
  have HT : Hid (L.Rd w vt .i32 t) := Rt
  have HE0 : Hid (∀ r ∈ l, K.ruleE r = 0) := hE
  obtain ⟨lao, lcap, rfl⟩ := R0.len
  obtain ⟨xo, xc, rfl, _⟩ := Rt
  clear R0 hE
  obtain ⟨o, HO⟩ : ∃ o, Hid (K.whichN t k 0 l = o) := ⟨_, rfl⟩
  unfold K.which
  rw [HO.out]
  go_enter Try.func16, Try.ntmps16
  go_wp2
  go_loopw [10] (fun i wr => ∃ j : Nat, j ≤ l.length ∧ i = .int .i64 j ∧ Hid (K.whichN t k j (l.drop j) = o) ∧ Hid (Below w.heap.size w wr)) (fun i _ => l.length - (intOf i).toNat)
  case atStart => exact ⟨0, Nat.zero_le _, rfl, HO, Below.refl _ w⟩
  case round =>
    obtain ⟨j, hj, rfl, HW, HB⟩ := hrel
    by_cases hlt : j < l.length
    · obtain ⟨p, hp⟩ : ∃ x, l[j]? = some x := ⟨l[j], by simp [hlt]⟩
      obtain ⟨ao', cap', e', _, hcs⟩ := HR.out.below HB.out
      cases e'
      obtain ⟨b, off, rfl, hcell⟩ := hcs (by intro h; subst h; simp at hlt)
      obtain ⟨bo, bc, so, sc, ao, ac, tgo, tc, a0, a1, a2, a3, a4, a5, a6, hP⟩ := hcell j p hp
      have HE2 : Hid (K.whichN t k j (l.drop j) = if K.matchB p t k = true then (j : Int) else K.whichN t k (j + 1) (l.drop (j + 1))) := K.whichN_drop hp
      have hsz := HB.out.size
      have HW2 : Hid (Calls Try.prog 28 #[.agg #[.bool p.start, .bool p.fin, .slice bo p.before.length bc, .slice so p.source.length sc, .slice ao p.after.length ac, .slice tgo p.target.length tc, .int .i64 p.cursor], .slice xo t.length xc, .int .i64 k] wr fun e w' => e = .returned (.bool (K.matchB p t k)) ∧ Below wr.heap.size wr w') := rMatches_any _ _ p hP (HE0.out p (List.mem_of_getElem? hp)) _ t (HT.out.below HB.out (Nat.le_refl _)) ht k hk0 hk1
      obtain ⟨z, HZ⟩ : ∃ z, Hid (K.matchB p t k = z) := ⟨_, rfl⟩
      rw [HZ.out] at HW2 HE2
      clear hp hcell hcs hP
      obtain ⟨st, fi, be, sou, af, ta, cu⟩ := p
      simp only at a0 a1 a2 a3 a4 a5 a6 HW2
      go_wp2_with fail
      refine HW2.out.mono ?_
      rintro e w1 ⟨rfl, B1⟩
      have HB1 : Hid (Below w.heap.size w w1) := HB.out.trans (B1.mono hsz)
      clear B1
      cases z with
      | false =>
        go_wp2
        go_roundw
        case rel => exact ⟨j + 1, by omega, by go_num, by show _ = _; rw [← HW.out, HE2.out]; simp, HB1⟩
        case measure => simp [intOf]; omega
      | true =>
        go_wp2
        go_ret
        have h := HE2.out
        rw [HW.out, if_pos trivial] at h
        exact ⟨by rw [h]; rfl, HB1.out⟩
    · have h := HW.out
      rw [List.drop_eq_nil_of_le (by omega)] at h
      go_wp2
      go_ret
      exact ⟨by rw [← h]; rfl, HB.out⟩


end Go.Proofs.Ytackaadejnbfmaa

/-
  What comes in a rule's place: what the document's text answers, in a row of its own.
-/
namespace Go.Proofs.Ytackaadejnbfmaa
open Go.RowKit
set_option maxRecDepth 20000
set_option linter.unusedSimpArgs false
set_option linter.unusedVariables false

set_option maxHeartbeats 4000000 in
theorem rPut2_any (w : World) (v : Value) (r : K.Rule) (R : K.RuIs w v r) (hE : K.ruleE r = 0) (xo : Option Addr) (xc : Nat) (t : List Int) (Rt : L.Rd w (.slice xo t.length xc) .i32 t) (hcap : t.length ≤ xc) (ht : t.length ≤ 4000) (n : Nat) (hn : n + r.source.length ≤ t.length) :
    Calls Try.prog 40 #[v, .slice xo t.length xc, .int .i64 (n : Int)] w fun e w' => ∃ v', e = .returned v' ∧ w'.ownsRow (w.heap.size + 1) 21 1 v' (K.putL r t n).length ((K.putL r t n).map (Value.int .i32)) ∧ Below w.heap.size w w' := by
  obtain ⟨i0, hi, hz0, hz1, hz2⟩ := info_parts Try.infoI32
  obtain ⟨g1, g2, g3, hsrc, hta, _⟩ := K.ruleE_zero hE
  have l2 := g2.1
  obtain ⟨bo, bc, so, sc, ao, ac, tgo, tc, rfl, _, _, _, R4, _, _⟩ := R
  have HR4 : Hid (L.Rd w (.slice tgo r.target.length tc) .i32 r.target) := R4
  obtain ⟨D, hD⟩ : ∃ D : Nat, D = n + r.source.length := ⟨_, rfl⟩
  have hDl : D ≤ t.length := by omega
  obtain ⟨ap, hap⟩ : ∃ ap, ap = (if xc = D then xo else Option.map (fun x => x.add D) xo) := ⟨_, rfl⟩
  obtain ⟨m, hm⟩ : ∃ m : Nat, m = t.length - D := ⟨_, rfl⟩
  obtain ⟨mc, hmc⟩ : ∃ mc : Nat, mc = xc - D := ⟨_, rfl⟩
  have HZ1 : Hid (L.Rd w (.slice xo n xc) .i32 (t.take n)) := K.rd_take Rt (by omega)
  have HZ3 : Hid (L.Rd w (.slice ap m mc) .i32 (t.drop D)) := by
    rw [hap, hm, hmc]; exact K.rd_drop Rt hDl hcap
  have hsl1 : ∀ w', (Instr.slice 23 (.slice xo t.length xc) none (some (.int .i64 (n : Int))) none).run Try.prog w' = .ok (.slice xo n xc) w' := fun w' => K.slice_upto xo _ xc n (by omega) w'
  have hsl2 : ∀ w', (Instr.slice 23 (.slice xo t.length xc) (some (.int .i64 ((n : Int) + (r.source.length : Int)))) none none).run Try.prog w' = .ok (.slice ap m mc) w' := fun w' => by
    have h := K.slice_from xo t.length xc D hDl hcap w'
    rw [hm, hap, hmc, show (n : Int) + (r.source.length : Int) = (D : Int) by omega]
    exact h
  have HP : Hid (K.putL r t n = t.take n ++ r.target ++ t.drop D) := by
    show _ = _
    unfold K.putL; rw [hD]; rfl
  have HL1 : Hid ((t.take n).length = n) := by show _ = _; rw [List.length_take]; omega
  have HL3 : Hid ((t.drop D).length = m) := by show _ = _; rw [List.length_drop, hm]
  have hm4 : m ≤ 4000 := by omega
  have HB0 : Hid (∀ o o', Below w.heap.size w ((w.alloc o).alloc o')) := fun o o' => ((Below.refl _ w).alloc (Nat.le_refl _) o).alloc (by simp) o'
  have OW : Hid (∀ o, ((w.alloc o).alloc (.cells #[] 21)).ownsRow (w.heap.size + 1) 21 1 (.slice (some ⟨w.heap.size + 1, 0, none⟩) 0 0) 0 []) := fun o => by
    have h := World.ownsRow_made (base := w.heap.size + 1) (e := 21) (size := 1) (w.alloc o) #[] 0 (by simp) (by simp) (by simp)
    simpa using h
  have hnt : n ≤ 4000 := by omega
  clear hap hm hmc hD Rt R4 g1 g2 g3
  go_enter Try.func40, Try.ntmps40
  have HBox : Hid (∀ o o', ((w.alloc o).alloc o').heap[w.heap.size]? = some o) := fun o o' => (K.two_boxes (w := w) (Below.refl _ ((w.alloc o).alloc o'))).1
  go_wp2_with first
    | (at_builtin; refine L.wpList_append_rd rfl _ _ 23 rfl (w.heap.size + 1) 21 i0 .i32 4 Try.underlying23 hi hz0 hz1 hz2 _ _ _ rfl (OW.out _) _ (t.take n) rfl (HZ1.out.below (HB0.out _ _) (Nat.le_refl _)) (by unfold maxLen; have := HL1.out; omega) (by have := HL1.out; omega) (by simp) ?_; intro v1 W1 own1 gr1; have HB1 : Hid (Below w.heap.size w W1) := (HB0.out _ _).grown gr1 (by simp; omega) (fun k hk => by have h2 : w.heap.size + 1 = k := Option.some.inj hk; omega); have HH1 : Hid (W1.heap[w.heap.size]? = some (.cells #[.bool r.start, .bool r.fin, .slice bo r.before.length bc, .slice so r.source.length sc, .slice ao r.after.length ac, .slice tgo r.target.length tc, .int .i64 r.cursor] 58)) := ((gr1.block w.heap.size (by simp; omega) (fun hk => by have h2 : w.heap.size = w.heap.size + 1 := Option.some.inj hk; omega)).trans (HBox.out _ _)); have HO1 : Hid (W1.ownsRow (w.heap.size + 1) 21 1 v1 (0 + (t.take n).length) ([] ++ (t.take n).map (Value.int .i32))) := own1; have hs1 : w.heap.size + 2 ≤ W1.heap.size := (by have := gr1.size; simp at this; omega); have d5 := K.at_box (i := 5) HH1.out rfl; clear own1 gr1)
    | (at_builtin; refine L.wpList_append_rd rfl _ _ 23 rfl (w.heap.size + 1) 21 i0 .i32 4 Try.underlying23 hi hz0 hz1 hz2 _ _ _ rfl HO1.out _ r.target rfl (HR4.out.below HB1.out (Nat.le_refl _)) (by unfold maxLen; have := HL1.out; omega) (by have := HL1.out; omega) (by omega) ?_; intro v2 W2 own2 gr2; have HB2 : Hid (Below w.heap.size w W2) := HB1.out.grown gr2 (by omega) (fun k hk => by have := (HO1.out.lt k hk).1; omega); have HH2 : Hid (W2.heap[w.heap.size]? = some (.cells #[.bool r.start, .bool r.fin, .slice bo r.before.length bc, .slice so r.source.length sc, .slice ao r.after.length ac, .slice tgo r.target.length tc, .int .i64 r.cursor] 58)) := ((gr2.block w.heap.size (by omega) (fun hk => by have := (HO1.out.lt _ hk.symm).1; omega)).trans HH1.out); have HO2 : Hid (W2.ownsRow (w.heap.size + 1) 21 1 v2 (0 + (t.take n).length + r.target.length) ([] ++ (t.take n).map (Value.int .i32) ++ r.target.map (Value.int .i32))) := own2; have hs2 : w.heap.size + 2 ≤ W2.heap.size := (by have := gr2.size; omega); have d3 := K.at_box (i := 3) HH2.out rfl; clear own2 gr2 d5)
    | (at_builtin; refine L.wpList_append_rd rfl _ _ 23 rfl (w.heap.size + 1) 21 i0 .i32 4 Try.underlying23 hi hz0 hz1 hz2 _ _ _ rfl HO2.out _ (t.drop D) rfl (HZ3.out.below HB2.out (Nat.le_refl _)) (by unfold maxLen; have := HL1.out; have := HL3.out; omega) (by have := HL1.out; have := HL3.out; omega) (by omega) ?_; intro v3 W3 own3 gr3; have HB3 : Hid (Below w.heap.size w W3) := HB2.out.grown gr3 (by omega) (fun k hk => by have := (HO2.out.lt k hk).1; omega); have HO3 : Hid (W3.ownsRow (w.heap.size + 1) 21 1 v3 (0 + (t.take n).length + r.target.length + (t.drop D).length) ([] ++ (t.take n).map (Value.int .i32) ++ r.target.map (Value.int .i32) ++ (t.drop D).map (Value.int .i32))) := own3; clear own3 gr3 d3)
    | fail
  go_ret
  refine ⟨_, rfl, ?_, HB3.out⟩
  rw [HP.out]
  have h := HO3.out
  rw [show 0 + (t.take n).length + r.target.length + (t.drop D).length = (t.take n ++ r.target ++ t.drop D).length by simp only [List.length_append]; omega, show [] ++ (t.take n).map (Value.int .i32) ++ r.target.map (Value.int .i32) ++ (t.drop D).map (Value.int .i32) = (t.take n ++ r.target ++ t.drop D).map (Value.int .i32) by simp only [List.map_append, List.nil_append]] at h
  exact h

end Go.Proofs.Ytackaadejnbfmaa
