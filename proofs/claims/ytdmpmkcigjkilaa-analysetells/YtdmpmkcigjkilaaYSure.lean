/-
  Whether rules always go on, and how far they look: analyse.Sure, analyse.Reach.
-/
import Derived.Test.YtdmpmkcigjkilaaYIdx
import Derived.Test.YtdmpmkcigjkilaaYCov
import Derived.Lib.MinMax
import Derived.Shelf.Abstract
namespace Go.Proofs.Ytdmpmkcigjkilaa
open Go.RowKit Go.Shelf
set_option maxRecDepth 20000
set_option linter.unusedSimpArgs false
set_option linter.unusedVariables false

set_option maxHeartbeats 1000000 in
theorem sure1_any (w : World) (v : Value) (r : K.Rule) (R : K.RuIs w v r) :
    Calls Try.prog 47 #[v] w fun e w' => e = .returned (.bool (!K.goesB r)) ∧ Below w.heap.size w w' := by
  obtain ⟨bo, bc, so, sc, ao, ac, to, tc, rfl, _, _, _, _, h5, hI⟩ := R
  have hI1 : -9223372036854775808 ≤ r.cursor := hI.1
  have hI2 : r.cursor ≤ 9223372036854775807 := hI.2
  unfold K.goesB
  obtain ⟨st, fi, be, sou, af, ta, cu⟩ := r
  simp only at h5 hI1 hI2 ⊢
  clear hI
  by_cases hc : cu = ta.length
  · go_enter Try.func47, Try.ntmps47
    go_wp2
    go_ret
    exact ⟨by simp [hc], (Below.refl _ w).alloc (Nat.le_refl _) _⟩
  · go_enter Try.func47, Try.ntmps47
    go_wp2
    go_ret
    exact ⟨by simp [hc], (Below.refl _ w).alloc (Nat.le_refl _) _⟩

set_option maxHeartbeats 1000000 in
theorem ySure_any (w : World) (v : Value) (l : List K.Rule) (R0 : V.Rus w v l) :
    Calls Try.prog 19 #[v] w fun e w' => e = .returned (.bool (K.sureB l)) ∧ Below w.heap.size w w' := by
  have h := ruAny_any w v l R0 47 #[] (fun r => !K.goesB r) (enters_of Try.func47 (by kernel_rfl) rfl) (fun W r u hW _ hu => by simpa using sure1_any W u r hu)
  have e : K.sureB l = !(l.any fun r => !K.goesB r) := by unfold K.sureB; rw [List.not_any_eq_all_not]; simp
  rw [e]
  generalize (l.any fun r => !K.goesB r) = z at *
  obtain ⟨aa, ca, rfl⟩ := R0.len
  clear R0 e
  go_enter Try.func19, Try.ntmps19
  go_wp2_with fail
  refine h.mono ?_
  rintro e w1 ⟨rfl, b1⟩
  have HB1 : Hid (Below w.heap.size w w1) := b1
  clear b1 h
  cases z with
  | false => go_wp2; go_ret; exact ⟨rfl, HB1.out⟩
  | true => go_wp2; go_ret; exact ⟨rfl, HB1.out⟩

set_option maxHeartbeats 4000000 in
theorem yReach_any (w : World) (v : Value) (l : List K.Rule) (R0 : V.Rus w v l) :
    Calls Try.prog 17 #[v] w fun e w' => e = .returned (.tuple #[.int .i64 (K.behind l), .int .i64 (K.ahead l)]) ∧ Below w.heap.size w w' := by
  have HR : Hid (V.Rus w v l) := R0
  have hl := R0.few
  obtain ⟨lao, lcap, rfl⟩ := R0.len
  clear R0
  go_enter Try.func17, Try.ntmps17
  go_wp2
  go_loopw [2, 3, 8] (fun vb va i wr => ∃ (j m n : Nat), j ≤ l.length ∧ i = .int .i64 j ∧ vb = .int .i64 m ∧ va = .int .i64 n ∧ Hid (K.behind (l.take j) = m ∧ K.ahead (l.take j) = n) ∧ Hid (Below w.heap.size w wr)) (fun _ _ i _ => l.length - (intOf i).toNat)
  case atStart => exact ⟨0, 0, 0, Nat.zero_le _, rfl, rfl, rfl, ⟨rfl, rfl⟩, Below.refl _ w⟩
  case round =>
    obtain ⟨j, m, n, hj, rfl, rfl, rfl, HM, HB⟩ := hrel
    by_cases hlt : j < l.length
    · obtain ⟨p, hp⟩ : ∃ x, l[j]? = some x := ⟨l[j], by simp [hlt]⟩
      obtain ⟨ao', cap', e', _, hcs⟩ := HR.out.below HB.out
      cases e'
      obtain ⟨b, off, rfl, hcell⟩ := hcs (by intro h; subst h; simp at hlt)
      obtain ⟨bo, bc, so, sc, ao, ac, to, tc, a0, a1, a2, a3, a4, a5, a6, hP⟩ := hcell j p hp
      have HM2 : Hid (K.behind (l.take (j + 1)) = max m p.before.length ∧ K.ahead (l.take (j + 1)) = max n (p.source.length + p.after.length)) := ⟨by rw [K.behind_take hp, HM.out.1], by rw [K.ahead_take hp, HM.out.2]⟩
      have hsz := HB.out.size
      obtain ⟨X, hX⟩ : ∃ X, X = wr.alloc (.cells #[.bool p.start, .bool p.fin, .slice bo p.before.length bc, .slice so p.source.length sc, .slice ao p.after.length ac, .slice to p.target.length tc, .int .i64 p.cursor] 64) := ⟨_, rfl⟩
      have hx := K.one_box (w := wr) (Below.refl _ (wr.alloc (.cells #[.bool p.start, .bool p.fin, .slice bo p.before.length bc, .slice so p.source.length sc, .slice ao p.after.length ac, .slice to p.target.length tc, .int .i64 p.cursor] 64)))
      rw [← hX] at hx
      have HX : Hid (X.heap[wr.heap.size]? = some (.cells #[.bool p.start, .bool p.fin, .slice bo p.before.length bc, .slice so p.source.length sc, .slice ao p.after.length ac, .slice to p.target.length tc, .int .i64 p.cursor] 64) ∧ Below wr.heap.size wr X ∧ wr.heap.size + 1 ≤ X.heap.size) := hx
      have HBk : Hid (Calls Try.prog 44 #[.agg #[.bool p.start, .bool p.fin, .slice bo p.before.length bc, .slice so p.source.length sc, .slice ao p.after.length ac, .slice to p.target.length tc, .int .i64 p.cursor]] X fun e w' => ∃ f cb, e = .returned (.agg #[.int .i64 p.before.length, .bool p.start, .func (.func f) #[] cb]) ∧ (∀ args w, (callFunc f args).run Try.prog w = .ok (.enter f args) w) ∧ K.Tell w' f cb p.before.reverse ∧ Below X.heap.size X w') := backward_any X _ p (hP.below hx.2.1)
      have HFw : Hid (∀ W, Below X.heap.size X W → Calls Try.prog 45 #[.agg #[.bool p.start, .bool p.fin, .slice bo p.before.length bc, .slice so p.source.length sc, .slice ao p.after.length ac, .slice to p.target.length tc, .int .i64 p.cursor]] W fun e w' => ∃ f cb, e = .returned (.agg #[.int .i64 ((p.source.length : Int) + p.after.length), .bool p.fin, .func (.func f) #[] cb]) ∧ (∀ args w, (callFunc f args).run Try.prog w = .ok (.enter f args) w) ∧ K.Tell w' f cb (p.source ++ p.after) ∧ Below W.heap.size W w') := fun W hW => forward_any W _ p ((hP.below hx.2.1).below hW)
      clear hp hcell hcs hP hx
      obtain ⟨st, fi, be, sou, af, ta, cu⟩ := p
      simp only at a0 a1 a2 a3 a4 a5 a6 HBk HFw HM2 hX HX
      go_wp2_with fail
      rw [← hX]
      refine HBk.out.mono ?_
      rintro e w1 ⟨f1, c1, rfl, _, _, z1⟩
      have y := K.blk_below HX.out.1 z1
      have x0 := K.at_box (i := 0) y rfl
      have x1 := K.at_box (i := 1) y rfl
      have x2 := K.at_box (i := 2) y rfl
      have x3 := K.at_box (i := 3) y rfl
      have x4 := K.at_box (i := 4) y rfl
      have x5 := K.at_box (i := 5) y rfl
      have x6 := K.at_box (i := 6) y rfl
      have HF2 := HFw.out w1 z1
      have HB1 : Hid (Below w.heap.size w w1) := HB.out.trans ((HX.out.2.1.trans (z1.mono (by have := HX.out.2.2; omega))).mono hsz)
      clear y z1 HBk HFw hX a0 a1 a2 a3 a4 a5 a6
      have hfl1 : (Instr.field 90 (.agg #[.int .i64 be.length, .bool st, .func (.func f1) #[] c1]) 0).run Try.prog w1 = .ok (.int .i64 be.length) w1 := by kernel_rfl
      go_wp2_with fail
      refine HF2.mono ?_
      rintro e w2 ⟨f2, c2, rfl, _, _, z2⟩
      have HB2 : Hid (Below w.heap.size w w2) := HB1.out.trans (z2.mono HB1.out.size)
      clear z2 HF2 x0 x1 x2 x3 x4 x5 x6 hfl1
      have hfl2 : (Instr.field 90 (.agg #[.int .i64 ((sou.length : Int) + af.length), .bool fi, .func (.func f2) #[] c2]) 0).run Try.prog w2 = .ok (.int .i64 ((sou.length : Int) + af.length)) w2 := by kernel_rfl
      go_wp2
      go_roundw
      case rel => exact ⟨j + 1, max m be.length, max n (sou.length + af.length), by omega, by go_num, by congr 1; omega, by congr 1; omega, HM2, HB2⟩
      case measure => simp [intOf]; omega
    · have hkl : j = l.length := by omega
      subst hkl
      go_wp2
      go_ret2
      have h := HM.out
      rw [List.take_length] at h
      rw [h.1, h.2]
      exact ⟨rfl, HB.out⟩

end Go.Proofs.Ytdmpmkcigjkilaa
