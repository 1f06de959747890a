/-
  scriptlaw5.RulesPrint answers true, for every slice of parts.
-/
import Derived.Test.YtafkfnkcabahnaaDoorRRefPrint
namespace Go.Proofs.YtafkfnkcabahnaaDoor
open Go.RowKit
set_option maxRecDepth 20000
set_option linter.unusedSimpArgs false
set_option linter.unusedVariables false

set_option maxHeartbeats 4000000 in
theorem rulesPrint_any (w : World) (v : Value) (l : List R.Part) (R0 : R.Pts w v l) (hT : T.Tz w) :
    Calls Tryd.prog 3 #[v] w fun e w' => e = .returned (.bool true) ∧ Below w.heap.size w w' := by
  have HP : Hid (Calls Tryd.prog 4 #[v] w fun e w' => e = .returned (R.printV l) ∧ Below w.heap.size w w') := Print_any w v l R0 hT
  have HQ : Hid (∀ W, Below w.heap.size w W → Calls Tryd.prog 5 #[v] W fun e w' => e = .returned (R.printV l) ∧ Below W.heap.size W w') := fun W hW => rPrint_any W v l (R0.below hW)
  have HW : Hid (∀ W, Below w.heap.size w W → Calls Tryd.prog 6 #[v] W fun e w' => e = .returned (.agg #[.int .i64 (R.wrong l).1, .int .i64 (R.wrong l).2]) ∧ Below W.heap.size W w') := fun W hW => Wrong_any W v l (R0.below hW)
  have HX : Hid (∀ W, Below w.heap.size w W → Calls Tryd.prog 7 #[v] W fun e w' => e = .returned (.agg #[.int .i64 (R.wrong l).1, .int .i64 (R.wrong l).2]) ∧ Below W.heap.size W w') := fun W hW => rWrong_any W v l (R0.below hW)
  obtain ⟨ao, cap, rfl⟩ := R0.len
  unfold R.printV at HP HQ
  generalize (⟨(if (R.wrong l).1 = 0 then R.printB l else []).toArray⟩ : ByteArray) = tx at HP HQ
  generalize (R.wrong l).1 = z1 at HP HQ HW HX
  generalize (R.wrong l).2 = z2 at HP HQ HW HX
  clear R0 hT
  go_enter Tryd.func3, Tryd.ntmps3
  go_wp2_with fail
  refine HP.out.mono ?_
  rintro e w1 ⟨rfl, b1⟩
  have HB1 : Hid (∀ o, Below w.heap.size w (w1.alloc o)) := fun o => b1.alloc b1.size o
  have hs1 := b1.size
  clear b1
  go_wp2_with fail
  refine (HQ.out _ (HB1.out _)).mono ?_
  rintro e w2 ⟨rfl, b2⟩
  obtain ⟨hb2, B2, hl2⟩ := R.box_kept b2
  have HB2 : Hid (Below w.heap.size w w2) := (HB1.out _).trans (b2.mono (by simp; omega))
  have HX2 : Hid (w2.heap[w1.heap.size]? = some (.cells #[.int .i64 z1, .int .i64 z2] 25)) := hb2
  have HB2b : Hid (∀ o, Below w.heap.size w (w2.alloc o)) := fun o => HB2.out.alloc HB2.out.size o
  have hs2 := HB2.out.size
  clear b2 hb2 B2
  go_wp2_with fail
  refine (HW.out _ (HB2b.out _)).mono ?_
  rintro e w3 ⟨rfl, b3⟩
  obtain ⟨hb3, B3, hl3⟩ := R.box_kept b3
  have HB3 : Hid (Below w.heap.size w w3) := (HB2b.out _).trans (b3.mono (by simp; omega))
  have HX3 : Hid (w3.heap[w1.heap.size]? = some (.cells #[.int .i64 z1, .int .i64 z2] 25)) := by
    show _ = _
    rw [B3.block _ hl2]; exact HX2.out
  have HY3 : Hid (w3.heap[w2.heap.size]? = some (.cells #[.int .i64 z1, .int .i64 z2] 25)) := hb3
  have hs3 := HB3.out.size
  clear b3 hb3 B3
  go_wp2_with fail
  refine (HX.out _ HB3.out).mono ?_
  rintro e w4 ⟨rfl, b4⟩
  have HB4 : Hid (Below w.heap.size w w4) := HB3.out.trans (b4.mono hs3)
  have x4 := R.box_below HX3.out b4
  have y4 := R.box_below HY3.out b4
  obtain ⟨p0, p1, _, _⟩ := R.box2 x4
  obtain ⟨r0, r1, _, _⟩ := R.box2 y4
  clear b4 x4 y4
  go_wp2
  go_ret
  exact ⟨by simp, HB4.out⟩

end Go.Proofs.YtafkfnkcabahnaaDoor
