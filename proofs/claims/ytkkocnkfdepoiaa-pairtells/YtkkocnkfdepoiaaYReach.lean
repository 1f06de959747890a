/-
  How far rules look: what the program answers.
-/
import Derived.Test.YtkkocnkfdepoiaaYLook
import Derived.Lib.MinMax
import Derived.Shelf.Abstract
namespace Go.Proofs.Ytkkocnkfdepoiaa
open Go.RowKit Go.Shelf
set_option maxRecDepth 20000
set_option linter.unusedSimpArgs false
set_option linter.unusedVariables false

set_option maxHeartbeats 4000000 in
theorem yReach_any (w : World) (v : Value) (l : List K.Rule) (R0 : V.Rus w v l) :
    Calls Try.prog 60 #[v] w fun e w' => e = .returned (.tuple #[.int .i64 (K.behind l), .int .i64 (K.ahead l)]) ∧ Below w.heap.size w w' := by
  have HR : Hid (V.Rus w v l) := R0
  have hl := R0.few
  obtain ⟨lao, lcap, rfl⟩ := R0.len
  clear R0
  go_enter Try.func60, Try.ntmps60
  go_wp2
  go_loopw [2, 3, 8] (fun vb va i wr => ∃ (j m n : Nat), j ≤ l.length ∧ i = .int .i64 j ∧ vb = .int .i64 m ∧ va = .int .i64 n ∧ Hid (K.behind (l.take j) = m ∧ K.ahead (l.take j) = n) ∧ Hid (Below w.heap.size w wr)) (fun _ _ i _ => l.length - (intOf i).toNat)
  case atStart => exact ⟨0, 0, 0, Nat.zero_le _, rfl, rfl, rfl, ⟨rfl, rfl⟩, Below.refl _ w⟩
  case round =>
    obtain ⟨j, m, n, hj, rfl, rfl, rfl, HM, HB⟩ := hrel
    by_cases hlt : j < l.length
    · obtain ⟨p, hp⟩ : ∃ x, l[j]? = some x := ⟨l[j], by simp [hlt]⟩
      obtain ⟨ao', cap', e', _, hcs⟩ := HR.out.below HB.out
      cases e'
      obtain ⟨b, off, rfl, hcell⟩ := hcs (by intro h; subst h; simp at hlt)
      obtain ⟨bo, bc, so, sc, ao, ac, tgo, tc, a0, a1, a2, a3, a4, a5, a6, hP⟩ := hcell j p hp
      have HM2 : Hid (K.behind (l.take (j + 1)) = max m p.before.length ∧ K.ahead (l.take (j + 1)) = max n (p.source.length + p.after.length)) := ⟨by rw [K.behind_take hp, HM.out.1], by rw [K.ahead_take hp, HM.out.2]⟩
      have hsz := HB.out.size
      obtain ⟨X, hX⟩ : ∃ X, X = wr.alloc (.cells #[.bool p.start, .bool p.fin, .slice bo p.before.length bc, .slice so p.source.length sc, .slice ao p.after.length ac, .slice tgo p.target.length tc, .int .i64 p.cursor] 48) := ⟨_, rfl⟩
      have hx := K.one_box (w := wr) (Below.refl _ (wr.alloc (.cells #[.bool p.start, .bool p.fin, .slice bo p.before.length bc, .slice so p.source.length sc, .slice ao p.after.length ac, .slice tgo p.target.length tc, .int .i64 p.cursor] 48)))
      rw [← hX] at hx
      have HX : Hid (X.heap[wr.heap.size]? = some (.cells #[.bool p.start, .bool p.fin, .slice bo p.before.length bc, .slice so p.source.length sc, .slice ao p.after.length ac, .slice tgo p.target.length tc, .int .i64 p.cursor] 48) ∧ Below wr.heap.size wr X ∧ wr.heap.size + 1 ≤ X.heap.size) := hx
      have HBk : Hid (Calls Try.prog 77 #[.agg #[.bool p.start, .bool p.fin, .slice bo p.before.length bc, .slice so p.source.length sc, .slice ao p.after.length ac, .slice tgo p.target.length tc, .int .i64 p.cursor]] X fun e w' => ∃ f cb, e = .returned (.agg #[.int .i64 p.before.length, .bool p.start, .func (.func f) #[] cb]) ∧ (∀ args w, (callFunc f args).run Try.prog w = .ok (.enter f args) w) ∧ K.Tell w' f cb p.before.reverse ∧ Below X.heap.size X w') := backward_any X _ p (hP.below hx.2.1)
      have HFw : Hid (∀ W, Below X.heap.size X W → Calls Try.prog 78 #[.agg #[.bool p.start, .bool p.fin, .slice bo p.before.length bc, .slice so p.source.length sc, .slice ao p.after.length ac, .slice tgo p.target.length tc, .int .i64 p.cursor]] W fun e w' => ∃ f cb, e = .returned (.agg #[.int .i64 ((p.source.length : Int) + p.after.length), .bool p.fin, .func (.func f) #[] cb]) ∧ (∀ args w, (callFunc f args).run Try.prog w = .ok (.enter f args) w) ∧ K.Tell w' f cb (p.source ++ p.after) ∧ Below W.heap.size W w') := fun W hW => forward_any W _ p ((hP.below hx.2.1).below hW)
      clear hp hcell hcs hP hx
      obtain ⟨st, fi, be, sou, af, ta, cu⟩ := p
      simp only at a0 a1 a2 a3 a4 a5 a6 HBk HFw HM2 hX HX
      go_wp2_with fail
      rw [← hX]
      refine HBk.out.mono ?_
      rintro e w1 ⟨f1, c1, rfl, _, _, z1⟩
      have y := K.blk_below HX.out.1 z1
      have x0 := K.at_box (i := 0) y rfl
      have x1 := K.at_box (i := 1) y rfl
      have x2 := K.at_box (i := 2) y rfl
      have x3 := K.at_box (i := 3) y rfl
      have x4 := K.at_box (i := 4) y rfl
      have x5 := K.at_box (i := 5) y rfl
      have x6 := K.at_box (i := 6) y rfl
      have HF2 := HFw.out w1 z1
      have HB1 : Hid (Below w.heap.size w w1) := HB.out.trans ((HX.out.2.1.trans (z1.mono (by have := HX.out.2.2; omega))).mono hsz)
      clear y z1 HBk HFw hX a0 a1 a2 a3 a4 a5 a6
      have hfl1 : (Instr.field 105 (.agg #[.int .i64 be.length, .bool st, .func (.func f1) #[] c1]) 0).run Try.prog w1 = .ok (.int .i64 be.length) w1 := by kernel_rfl
      go_wp2_with fail
      refine HF2.mono ?_
      rintro e w2 ⟨f2, c2, rfl, _, _, z2⟩
      have HB2 : Hid (Below w.heap.size w w2) := HB1.out.trans (z2.mono HB1.out.size)
      clear z2 HF2 x0 x1 x2 x3 x4 x5 x6 hfl1
      have hfl2 : (Instr.field 105 (.agg #[.int .i64 ((sou.length : Int) + af.length), .bool fi, .func (.func f2) #[] c2]) 0).run Try.prog w2 = .ok (.int .i64 ((sou.length : Int) + af.length)) w2 := by kernel_rfl
      go_wp2
      go_roundw
      case rel => exact ⟨j + 1, max m be.length, max n (sou.length + af.length), by omega, by go_num, by congr 1; omega, by congr 1; omega, HM2, HB2⟩
      case measure => simp [intOf]; omega
    · have hkl : j = l.length := by omega
      subst hkl
      go_wp2
      go_ret2
      have h := HM.out
      rw [List.take_length] at h
      rw [h.1, h.2]
      exact ⟨rfl, HB.out⟩

end Go.Proofs.Ytkkocnkfdepoiaa
