/-
  The first number that a function says yes to; whether a rule matches at the machine's cursor.
-/
import Derived.Test.YtlmmjefplbcapaaGreatXHere
import Derived.Test.YtlmmjefplbcapaaGreatYRus
import Derived.Test.YtlmmjefplbcapaaGreatSHas7
import Derived.Deep.RegionWith
namespace Go.Proofs.YtlmmjefplbcapaaGreat
open Go.RowKit Go.Shelf
set_option maxRecDepth 20000
set_option linter.unusedSimpArgs false
set_option linter.unusedVariables false

/-- the place of the first one of whom P holds -/
def Gm.Idx (P : Int → Bool) (l : List Int) (e : Ending) : Prop :=
  (∃ (j : Nat) (z : Int), l[j]? = some z ∧ P z = true ∧ (∀ i y, i < j → l[i]? = some y → P y = false) ∧ e = .returned (.int .i64 j)) ∨ ((∀ y ∈ l, P y = false) ∧ e = .returned (.int .i64 (-1)))

set_option maxHeartbeats 2000000 in
theorem xIndex_any (w : World) (v : Value) (l : List Int) (R0 : L.Rd w v .i64 l) (hl : l.length ≤ 140737488355328) (g : Nat) (cb : Array Value) (P : Int → Bool) (eg : ∀ args w, (callFunc g args).run Tryz.prog w = .ok (.enter g args) w)
    (hh : ∀ W r, Below w.heap.size w W → r ∈ l → Calls Tryz.prog g (#[.int .i64 r] ++ cb) W fun e w' => e = .returned (.bool (P r)) ∧ Below W.heap.size W w') :
    Calls Tryz.prog 62 #[v, .func (.func g) #[] cb] w fun e w' => Gm.Idx P l e ∧ Below w.heap.size w w' := by
  have HH : Hid (∀ W r, Below w.heap.size w W → r ∈ l → Calls Tryz.prog g (#[.int .i64 r] ++ cb) W fun e w' => e = .returned (.bool (P r)) ∧ Below W.heap.size W w') := hh
  obtain ⟨lao, lcap, rfl, _, hcs⟩ := R0
  have HC : Hid (l ≠ [] → ∃ b off, lao = some ⟨b, off, none⟩ ∧ ∀ j z, l[j]? = some z → w.cell? ⟨b, off + j, none⟩ = some (.int .i64 z)) := hcs
  clear hh hcs
  go_enter Tryz.func62, Tryz.ntmps62
  go_wp2
  go_loopw [8] (fun i wr => ∃ j : Nat, j ≤ l.length ∧ i = .int .i64 j ∧ Hid (∀ i y, i < j → l[i]? = some y → P y = false) ∧ Hid (Below w.heap.size w wr)) (fun i _ => l.length - (RowKit.intOf i).toNat)
  case atStart => exact ⟨0, Nat.zero_le _, rfl, fun i y h => by omega, Below.refl _ w⟩
  case round =>
    obtain ⟨j, hj, rfl, HW, HB⟩ := hrel
    by_cases hlt : j < l.length
    · obtain ⟨p, hp⟩ : ∃ x, l[j]? = some x := ⟨l[j], by simp [hlt]⟩
      obtain ⟨b, off, rfl, hcell⟩ := HC.out (by intro h; subst h; simp at hlt)
      have c0 := hcell j p hp
      rw [← HB.out.cell (p := ⟨b, off + j, none⟩) (L.block_lt c0)] at c0
      have hsz := HB.out.size
      have HW2 : Hid (Calls Tryz.prog g (#[.int .i64 p] ++ cb) wr fun e w' => e = .returned (.bool (P p)) ∧ Below wr.heap.size wr w') := HH.out wr p HB.out (List.mem_of_getElem? hp)
      have HP : Hid (l[j]? = some p) := hp
      generalize hz : P p = z at HW2
      have HZ : Hid (P p = z) := hz
      clear hp hcell hz
      go_wp2_with fail
      refine HW2.out.mono ?_
      rintro e w1 ⟨rfl, B1⟩
      have HB1 : Hid (Below w.heap.size w w1) := HB.out.trans (B1.mono hsz)
      clear B1
      cases z with
      | false =>
        go_wp2
        go_roundw
        case rel =>
          refine ⟨j + 1, by omega, by go_num, fun i y hi hy => ?_, HB1.out⟩
          by_cases hij : i = j
          · subst hij
            have := HP.out
            rw [hy] at this
            cases this
            exact HZ.out
          · exact HW.out i y (by omega) hy
        case measure => simp [RowKit.intOf]; omega
      | true =>
        go_wp2
        go_ret
        exact ⟨.inl ⟨j, p, HP.out, HZ.out, HW.out, rfl⟩, HB1.out⟩
    · go_wp2
      go_ret
      refine ⟨.inr ⟨fun y hy => ?_, rfl⟩, HB.out⟩
      obtain ⟨i, hi⟩ := List.getElem?_of_mem hy
      exact HW.out i y (by have := (List.getElem?_eq_some_iff.1 hi).1; omega) hi

set_option maxHeartbeats 4000000 in
theorem xfirst1_any (w0 w : World) (hB : Below w0.heap.size w0 w) (bm ba mb g k : Nat) (vr vh : Value) (l : List K.Rule) (hR : V.Rus w0 vr l) (t : List Int) (hV : Gm.Vw w0 mb g t) (ht : t.length ≤ 4000) (at' : Nat) (hat : at' ≤ t.length) (r : K.Rule) (hr : l[k]? = some r) (hE : K.ruleE r = 0)
    (c0 : w.cell? ⟨bm, 0, none⟩ = some (.pointer (some ⟨mb, 0, none⟩))) (c1 : w.cell? ⟨ba, 0, none⟩ = some (.int .i64 at')) (c2 : w.cell? ⟨mb, 1, none⟩ = some vr) :
    Calls Tryz.prog 63 (#[.int .i64 k] ++ #[.pointer (some ⟨bm, 0, none⟩), .pointer (some ⟨ba, 0, none⟩)]) w fun e w' => e = .returned (.bool (K.matchB r t at')) ∧ Below w.heap.size w w' := by
  obtain ⟨ao, cap, rfl⟩ := hR.len
  obtain ⟨b9, o9, bo, bc, so, sc, ao2, ac, tt, tc, rfl, a0, a1, a2, a3, a4, a5, a6, hP⟩ := K.Rus.rule (hR.below hB) hr
  have hkl := (List.getElem?_eq_some_iff.1 hr).1
  have hlf := hR.few
  have hVw : ∀ W, Below w.heap.size w W → Gm.Vw W mb g t := fun W hW => ⟨fun X hX => hV.cell X ((hB.trans (hW.mono hB.size)).trans (hX.mono (Nat.le_trans hB.size hW.size))), fun X hX => hV.len X ((hB.trans (hW.mono hB.size)).trans (hX.mono (Nat.le_trans hB.size hW.size))), fun X q hX => hV.at' X q ((hB.trans (hW.mono hB.size)).trans (hX.mono (Nat.le_trans hB.size hW.size)))⟩
  have HC : Hid (∀ W, Below w.heap.size w W → Calls Tryz.prog 64 #[.agg #[.bool r.start, .bool r.fin, .slice bo r.before.length bc, .slice so r.source.length sc, .slice ao2 r.after.length ac, .slice tt r.target.length tc, .int .i64 r.cursor], .iface 63 (.pointer (some ⟨mb, 0, none⟩)), .int .i64 at'] W fun e w' => e = .returned (.bool (K.matchB r t at')) ∧ Below w.heap.size w w') := fun W hW =>
    (mHere_any W _ r (hP.below hW) hE mb g t (hVw W hW) ht at' (by omega) (by omega)).mono fun e w' ⟨h1, h2⟩ => ⟨h1, hW.trans (h2.mono hW.size)⟩
  clear hP hV hVw hR hr hE
  obtain ⟨st, fi, be, sou, af, ta, cu⟩ := r
  simp only at a0 a1 a2 a3 a4 a5 a6 HC
  generalize K.matchB _ t at' = z at HC ⊢
  show Calls Tryz.prog 63 #[_, .pointer (some ⟨bm, 0, none⟩), .pointer (some ⟨ba, 0, none⟩)] w _
  go_enter Tryz.func63, Tryz.ntmps63
  go_wp2_with fail
  go_region_with (go_at_call 64; refine (HC.out _ (by first | exact Below.refl _ _ | exact (Below.refl _ _).drew)).mono ?_; rintro e w1 ⟨rfl, z1⟩)
  all_goals go_wp2
  all_goals go_ret
  all_goals exact ⟨rfl, by assumption⟩

end Go.Proofs.YtlmmjefplbcapaaGreat
