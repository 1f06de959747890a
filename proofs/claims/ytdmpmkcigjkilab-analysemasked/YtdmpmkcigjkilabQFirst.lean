/-
  Which rule is the first that matches: what the program answers, and what the document's text answers.
-/
import Derived.Test.YtdmpmkcigjkilabQCheck
import Derived.Test.YtdmpmkcigjkilabMHere
namespace Go.Proofs.Ytdmpmkcigjkilab
open Go.RowKit Go.Shelf
set_option maxRecDepth 20000
set_option linter.unusedSimpArgs false
set_option linter.unusedVariables false

set_option maxHeartbeats 1000000 in
theorem first1_any (w : World) (v : Value) (r : K.Rule) (R : K.RuIs w v r) (hE : K.ruleE r = 0) (vt : Value) (t : List Int) (Rt : L.Rd w vt .i32 t) (ht : t.length ≤ 4000) (k : Int) (hk0 : 0 ≤ k) (hk1 : k ≤ t.length) (bv ba : Nat) (c1 : w.cell? ⟨bv, 0, none⟩ = some (.iface 66 vt)) (c2 : w.cell? ⟨ba, 0, none⟩ = some (.int .i64 k)) :
    Calls Try.prog 42 (#[v] ++ #[.pointer (some ⟨bv, 0, none⟩), .pointer (some ⟨ba, 0, none⟩)]) w fun e w' => e = .returned (.bool (K.matchB r t k)) ∧ Below w.heap.size w w' := by
  have HA : Hid (∀ o, Below w.heap.size w (w.alloc o)) := fun o => (Below.refl _ w).alloc (Nat.le_refl _) o
  have HH : Hid (∀ o, Calls Try.prog 43 #[v, .iface 66 vt, .int .i64 k] (w.alloc o) fun e w' => e = .returned (.bool (K.matchB r t k)) ∧ Below (w.alloc o).heap.size (w.alloc o) w') := fun o => mHere_any _ v r (R.below (HA.out o)) hE vt t (Rt.below (HA.out o) (Nat.le_refl _)) ht k hk0 hk1
  have d1 : ∀ o, (w.alloc o).cell? ⟨bv, 0, none⟩ = some (.iface 66 vt) := fun o => K.alloc_cell c1 o
  have d2 : ∀ o, (w.alloc o).cell? ⟨ba, 0, none⟩ = some (.int .i64 k) := fun o => K.alloc_cell c2 o
  obtain ⟨bo, bc, so, sc, ao, ac, to, tc, rfl, _⟩ := R
  obtain ⟨xo, xc, rfl, _⟩ := Rt
  generalize K.matchB r t k = mb at *
  clear hE hk0 hk1
  go_enter Try.func42, Try.ntmps42
  go_wp2_with fail
  refine (HH.out _).mono ?_
  rintro e w1 ⟨rfl, b1⟩
  have HB1 : Hid (Below w.heap.size w w1) := (K.one_box b1).2.1
  clear b1 d1 d2 c1 c2
  go_wp2
  go_ret
  exact ⟨by simp, HB1.out⟩

set_option maxHeartbeats 2000000 in
theorem qIndex_any (w : World) (v : Value) (l : List K.Rule) (R0 : V.Rus w v l) (hl : l.length ≤ 200) (hE : ∀ r ∈ l, K.ruleE r = 0) (vt : Value) (t : List Int) (Rt : L.Rd w vt .i32 t) (ht : t.length ≤ 4000) (k : Int) (hk0 : 0 ≤ k) (hk1 : k ≤ t.length) (bv ba : Nat) (c1 : w.cell? ⟨bv, 0, none⟩ = some (.iface 66 vt)) (c2 : w.cell? ⟨ba, 0, none⟩ = some (.int .i64 k)) :
    Calls Try.prog 39 #[v, .func (.func 42) #[] #[.pointer (some ⟨bv, 0, none⟩), .pointer (some ⟨ba, 0, none⟩)]] w fun e w' => e = .returned (.int .i64 (K.which l t k)) ∧ Below w.heap.size w w' := by
  have HR : Hid (V.Rus w v l) := R0
  have HT : Hid (L.Rd w vt .i32 t) := Rt
  have HE0 : Hid (∀ r ∈ l, K.ruleE r = 0) := hE
  have HC : Hid (w.cell? ⟨bv, 0, none⟩ = some (.iface 66 vt) ∧ w.cell? ⟨ba, 0, none⟩ = some (.int .i64 k)) := ⟨c1, c2⟩
  obtain ⟨lao, lcap, rfl⟩ := R0.len
  clear R0 Rt hE c1 c2
  have eg : ∀ args w, (callFunc 42 args).run Try.prog w = .ok (.enter 42 args) w := enters_of Try.func42 (by kernel_rfl) rfl
  obtain ⟨o, HO⟩ : ∃ o, Hid (K.whichN t k 0 l = o) := ⟨_, rfl⟩
  unfold K.which
  rw [HO.out]
  go_enter Try.func39, Try.ntmps39
  go_wp2
  go_loopw [8] (fun i wr => ∃ j : Nat, j ≤ l.length ∧ i = .int .i64 j ∧ Hid (K.whichN t k j (l.drop j) = o) ∧ Hid (Below w.heap.size w wr)) (fun i _ => l.length - (intOf i).toNat)
  case atStart => exact ⟨0, Nat.zero_le _, rfl, HO, Below.refl _ w⟩
  case round =>
    obtain ⟨j, hj, rfl, HW, HB⟩ := hrel
    by_cases hlt : j < l.length
    · obtain ⟨p, hp⟩ : ∃ x, l[j]? = some x := ⟨l[j], by simp [hlt]⟩
      obtain ⟨ao', cap', e', _, hcs⟩ := HR.out.below HB.out
      cases e'
      obtain ⟨b, off, rfl, hcell⟩ := hcs (by intro h; subst h; simp at hlt)
      obtain ⟨bo, bc, so, sc, ao, ac, to, tc, a0, a1, a2, a3, a4, a5, a6, hP⟩ := hcell j p hp
      have HE2 : Hid (K.whichN t k j (l.drop j) = if K.matchB p t k = true then (j : Int) else K.whichN t k (j + 1) (l.drop (j + 1))) := K.whichN_drop hp
      have hsz := HB.out.size
      have g1 : wr.cell? ⟨bv, 0, none⟩ = some (.iface 66 vt) := by rw [HB.out.cell (p := ⟨bv, 0, none⟩) (L.block_lt HC.out.1)]; exact HC.out.1
      have g2 : wr.cell? ⟨ba, 0, none⟩ = some (.int .i64 k) := by rw [HB.out.cell (p := ⟨ba, 0, none⟩) (L.block_lt HC.out.2)]; exact HC.out.2
      have HW2 : Hid (Calls Try.prog 42 (#[.agg #[.bool p.start, .bool p.fin, .slice bo p.before.length bc, .slice so p.source.length sc, .slice ao p.after.length ac, .slice to p.target.length tc, .int .i64 p.cursor]] ++ #[.pointer (some ⟨bv, 0, none⟩), .pointer (some ⟨ba, 0, none⟩)]) wr fun e w' => e = .returned (.bool (K.matchB p t k)) ∧ Below wr.heap.size wr w') := first1_any _ _ p hP (HE0.out p (List.mem_of_getElem? hp)) vt t (HT.out.below HB.out (Nat.le_refl _)) ht k hk0 hk1 bv ba g1 g2
      obtain ⟨z, HZ⟩ : ∃ z, Hid (K.matchB p t k = z) := ⟨_, rfl⟩
      rw [HZ.out] at HW2 HE2
      clear hp hcell hcs hP g1 g2
      obtain ⟨st, fi, be, sou, af, ta, cu⟩ := p
      simp only at a0 a1 a2 a3 a4 a5 a6 HW2
      go_wp2_with fail
      refine HW2.out.mono ?_
      rintro e w1 ⟨rfl, B1⟩
      have HB1 : Hid (Below w.heap.size w w1) := HB.out.trans (B1.mono hsz)
      clear B1
      cases z with
      | false =>
        go_wp2
        go_roundw
        case rel => exact ⟨j + 1, by omega, by go_num, by show _ = _; rw [← HW.out, HE2.out]; simp, HB1⟩
        case measure => simp [intOf]; omega
      | true =>
        go_wp2
        go_ret
        have h := HE2.out
        rw [HW.out, if_pos trivial] at h
        exact ⟨by rw [h]; rfl, HB1.out⟩
    · have h := HW.out
      rw [List.drop_eq_nil_of_le (by omega)] at h
      go_wp2
      go_ret
      exact ⟨by rw [← h]; rfl, HB.out⟩

set_option maxHeartbeats 1000000 in
theorem qFirst_any (w : World) (v : Value) (l : List K.Rule) (R0 : V.Rus w v l) (hl : l.length ≤ 200) (hE : ∀ r ∈ l, K.ruleE r = 0) (vt : Value) (t : List Int) (Rt : L.Rd w vt .i32 t) (ht : t.length ≤ 4000) (k : Int) (hk0 : 0 ≤ k) (hk1 : k ≤ t.length) :
    Calls Try.prog 28 #[v, .iface 66 vt, .int .i64 k] w fun e w' => e = .returned (.int .i64 (K.which l t k)) ∧ Below w.heap.size w w' := by
  have HA : Hid (∀ o1 o2, Below w.heap.size w ((w.alloc o1).alloc o2)) := fun o1 o2 => ((Below.refl _ w).alloc (Nat.le_refl _) o1).alloc (by simp) o2
  have h2 := K.two_boxes (w := w) (Below.refl _ ((w.alloc (.cells #[.iface 66 vt] 85)).alloc (.cells #[.int .i64 k] 3)))
  have HI : Hid (Calls Try.prog 39 #[v, .func (.func 42) #[] #[.pointer (some ⟨w.heap.size, 0, none⟩), .pointer (some ⟨w.heap.size + 1, 0, none⟩)]] ((w.alloc (.cells #[.iface 66 vt] 85)).alloc (.cells #[.int .i64 k] 3)) fun e w' => e = .returned (.int .i64 (K.which l t k)) ∧ Below ((w.alloc (.cells #[.iface 66 vt] 85)).alloc (.cells #[.int .i64 k] 3)).heap.size ((w.alloc (.cells #[.iface 66 vt] 85)).alloc (.cells #[.int .i64 k] 3)) w') :=
    qIndex_any _ v l (R0.below (HA.out _ _)) hl hE vt t (Rt.below (HA.out _ _) (Nat.le_refl _)) ht k hk0 hk1 _ _ (K.at_box (i := 0) h2.1 rfl) (K.at_box (i := 0) h2.2.1 rfl)
  have hmf : ∀ (fn : Fn) (first cap : Array Value) (w : World), (Instr.makeFunc fn first cap).run Try.prog w = .ok (.func fn first cap) w := fun _ _ _ _ => rfl
  obtain ⟨lao, lcap, rfl⟩ := R0.len
  generalize K.which l t k = o at *
  clear h2 hE hk0 hk1 R0 Rt
  go_enter Try.func28, Try.ntmps28
  go_wp2_with fail
  refine HI.out.mono ?_
  rintro e w1 ⟨rfl, b1⟩
  have HB1 : Hid (Below w.heap.size w w1) := (HA.out _ _).trans (b1.mono (HA.out _ _).size)
  clear b1
  go_wp2
  go_ret
  exact ⟨by simp, HB1.out⟩

end Go.Proofs.Ytdmpmkcigjkilab
