/-
  append, by its run, at a step of a region that draws its order.
-/
import Derived.Test.YtbclmmkphjknaaaRows
import Derived.BigRegion
import Derived.RegionTactic
import Derived.Deep.RegionHeld3
import Derived.Test.YtbclmmkphjknaaaNmRows
import Derived.Deep.RegionLaw
import Derived.Deep.DeepCutAuto
namespace Go.Proofs.Ytbclmmkphjknaaa
open Go.RowKit

/-- append, by its run, at a step of a region that draws its order -/
theorem K.step_run {t : TypeId} {ops : Array Oper} {o : Oper} {a : Act} {w : World} {K : Act → World → Prop} {Q : Exit → Act → World → Prop} {E : Prop} (hgd : o.guard = none) (s x : Operand)
    (ho : o.op = .call { callee := .builtin .append, args := #[s, x], argTypes := #[t, t] }) (v vx v' : Value) (w' : World) (hs : a.eval s = v) (hx : a.eval x = vx)
    (hrun : ∀ ty, (Builtin.append_ #[t, t] ty #[v, vx]).run Try.prog w = .ok v' w') (h : K (a.put o.dst v') w') :
    if Region.wanted o (yielded ops a.tmps) = true then Oper.wp Try.prog o a w K Q else E := by
  have hw : Region.wanted o (yielded ops a.tmps) = true := by simp [Region.wanted, hgd]
  rw [if_pos hw]
  unfold Oper.wp
  simp [execOp, ho, resolve, invoke, builtin, hs, hx, hrun, Result.andThen]
  exact h

end Go.Proofs.Ytbclmmkphjknaaa

/-
  The pairs of letters and marks, a letter taken apart, a letter and a mark: the document's answer.
-/
namespace Go.Proofs.Ytbclmmkphjknaaa
open Go.RowKit
set_option maxRecDepth 40000
set_option linter.unusedSimpArgs false
set_option linter.unusedVariables false

namespace Nm
/-- block g holds the table, number by number -/
def Tb (w : World) (g : Nat) : Prop := ∀ (j : Nat) x, tab[j]? = some x → w.cell? ⟨g, 3 * j, none⟩ = some (.int .i32 x.1) ∧ w.cell? ⟨g, 3 * j + 1, none⟩ = some (.int .i32 x.2.1) ∧ w.cell? ⟨g, 3 * j + 2, none⟩ = some (.int .i32 x.2.2)
theorem tb_new (w : World) (C : Array Value) (t : TypeId) (hC : C = (pcells tab).toArray) : Tb (w.alloc (.cells C t)) w.heap.size := by
  subst hC
  intro j x hj
  obtain ⟨e0, e1, e2⟩ := trip (fun x : Pr => (Value.int .i32 x.1, Value.int .i32 x.2.1, Value.int .i32 x.2.2)) tab j
  rw [hj] at e0 e1 e2
  rw [Nat.mul_comm 3 j]
  refine ⟨?_, ?_, ?_⟩
  · rw [World.cell?_alloc_mark w (pcells tab).toArray t (0, 0) (j * 3), List.getElem?_toArray]; exact e0
  · rw [World.cell?_alloc_mark w (pcells tab).toArray t (0, 0) (j * 3 + 1), List.getElem?_toArray]; exact e1
  · rw [World.cell?_alloc_mark w (pcells tab).toArray t (0, 0) (j * 3 + 2), List.getElem?_toArray]; exact e2
theorem rd_one (w : World) (z : Int) : L.Rd (w.alloc (.cells #[.int .i32 z] 21)) (.slice (some ⟨w.heap.size, 0, none⟩) 1 1) .i32 [z] := by
  have hnew := heap_alloc_new w (.cells #[.int .i32 z] 21)
  exact ⟨_, _, rfl, fun e => by (cases e), fun _ => ⟨_, 0, rfl, fun j y hj => by
    match j, hj with
    | 0, hj => cases hj; exact K.at_box hnew rfl
    | n + 1, hj => simp at hj⟩⟩
theorem find_step {α : Type} {l : List α} {P : α → Bool} {j : Nat} {x : α} (hx : l[j]? = some x) (h : (l.take j).find? P = none) : (P x = false → (l.take (j + 1)).find? P = none) ∧ (P x = true → l.find? P = some x) := by
  have hj := (List.getElem?_eq_some_iff.1 hx).1
  refine ⟨fun h1 => ?_, fun h1 => ?_⟩
  · rw [List.take_add_one, hx, List.find?_append, h]; simp [h1]
  · have e : l = l.take j ++ x :: l.drop (j + 1) := by
      have h2 := (List.getElem?_eq_some_iff.1 hx).2
      rw [← h2, ← List.drop_eq_getElem_cons hj, List.take_append_drop]
    rw [e, List.find?_append, h]
    simp [h1]
end Nm

theorem Nm.wp_by_run {P : Program} {o : Oper} {a : Act} {w w' : World} {K : Act → World → Prop} {Q : Exit → Act → World → Prop} {v : Value} (h : (execOp a.eval o).run P w = .ok (.value v) w') (hk : K (a.put o.dst v) w') : Oper.wp P o a w K Q := by
  unfold Oper.wp
  rw [h]
  exact hk

theorem nmTable_any (w : World) : Calls Try.prog 25 #[] w fun e w' => ∃ g, e = .returned (.slice (some ⟨g, 0, none⟩) 222 222) ∧ Nm.Tb w' g ∧ Below w.heap.size w w' := by
  have HT : Hid (Nm.Tb (w.alloc (.cells (Nm.pcells Nm.tab).toArray 21)) w.heap.size) := Nm.tb_new w _ _ rfl
  have HB : Hid (Below w.heap.size w (w.alloc (.cells (Nm.pcells Nm.tab).toArray 21))) := (Below.refl _ w).alloc (Nat.le_refl _) _
  go_enter Try.func25, Try.ntmps25
  go_upto_region 1 with fail
  refine wp_region_lit (wpList_plain rfl fun K hK => ?_)
  refine Nm.wp_by_run (v := .slice (some ⟨w.heap.size, 0, none⟩) 222 222) (w' := w.alloc (.cells (Nm.pcells Nm.tab).toArray 21)) (by kernel_rfl) ?_
  refine hK _ _ ?_
  clear hK
  generalize w.alloc (.cells (Nm.pcells Nm.tab).toArray 21) = W at HT HB ⊢
  go_wp2
  go_ret
  exact ⟨_, rfl, HT.out, HB.out⟩

set_option maxHeartbeats 4000000 in
theorem nmRefPairs_any (w : World) : Calls Try.prog 6 #[] w fun e w' => ∃ v, e = .returned v ∧ Nm.Prs w' v Nm.tab ∧ Below w.heap.size w w' := by
  go_enter Try.func6, Try.ntmps6
  go_wp2_with fail
  refine (nmTable_any _).mono ?_
  rintro e wT ⟨g, rfl, hT, bT⟩
  have HT : Hid (Nm.Tb wT g) := hT
  have HBT : Hid (Below w.heap.size w wT) := bT
  clear hT bT
  go_wp2
  go_loopw [2, 3] (fun vt vi wr => ∃ (j : Nat) (vo : Option Addr) (vc : Nat), vt = .slice vo j vc ∧ vi = .int .i64 ((3 * j : Nat) : Int) ∧ j ≤ 74 ∧ Hid (wr.ownsRow wT.heap.size 27 3 (.slice vo j vc) j (Nm.pcells (Nm.tab.take j)) ∧ Below wT.heap.size wT wr)) (fun _ vi _ => 222 - (intOf vi).toNat)
  case atStart => exact ⟨0, none, 0, rfl, rfl, by omega, World.ownsRow_nil _ _ _ _, Below.refl _ _⟩
  case round =>
    obtain ⟨j, vo, vc, rfl, rfl, hj, HO⟩ := hrel
    obtain ⟨i, hi⟩ : ∃ i, i = 3 * j := ⟨_, rfl⟩
    rw [← hi]
    by_cases hlt : j < 74
    · obtain ⟨x, hx⟩ : ∃ x, Nm.tab[j]? = some x := ⟨Nm.tab[j]'(show j < Nm.tab.length from hlt), by simp⟩
      obtain ⟨c0, c1, c2⟩ := HT.out j x hx
      rw [← hi] at c0 c1 c2
      rw [← HO.out.2.cell (p := ⟨g, i, none⟩) (L.block_lt c0)] at c0
      rw [← HO.out.2.cell (p := ⟨g, i + 1, none⟩) (L.block_lt c1)] at c1
      rw [← HO.out.2.cell (p := ⟨g, i + 2, none⟩) (L.block_lt c2)] at c2
      have ownd : wr.drew.ownsRow wT.heap.size 27 3 (.slice vo j vc) j (Nm.pcells (Nm.tab.take j)) := HO.out.1
      obtain ⟨ao1, vc1, w3, run3, own3, _, _, be3⟩ := Al.app (sl := 23) Try.underlying23 Try.infoPair rfl (by decide) (by decide) ownd (by have := HO.out.2.size; exact this) (by omega) [.int .i32 x.1, .int .i32 x.2.1, .int .i32 x.2.2] rfl (fun u hu => by simp at hu; rcases hu with rfl | rfl | rfl <;> rfl)
      have hrun : ∀ ty, (Builtin.append_ #[23, 23] ty #[.slice vo j vc, .slice (some ⟨wr.heap.size, 0, none⟩) 1 1]).run Try.prog ((wr.alloc (.cells #[.int .i32 x.1, .int .i32 x.2.1, .int .i32 x.2.2] 27)).drew) = .ok (.slice ao1 (j + 1) vc1) w3 := run3
      have hb3 : Below wT.heap.size wT w3 := by
        have h := HO.out.2
        have hd : Below wT.heap.size wT wr.drew := ⟨h.os, h.tape, h.output, h.size, h.block⟩
        exact hd.trans be3
      have HN : Hid (w3.ownsRow wT.heap.size 27 3 (.slice ao1 (j + 1) vc1) (j + 1) (Nm.pcells (Nm.tab.take (j + 1))) ∧ Below wT.heap.size wT w3) := ⟨by rw [List.take_add_one, hx]; show w3.ownsRow _ _ _ _ _ (Nm.pcells (_ ++ [x])); rw [Nm.pcells_snoc]; exact own3, hb3⟩
      have hi3 : i + 3 = 3 * (j + 1) := by omega
      have hi1 : i ≤ 219 := by omega
      have hi2 : 3 * j ≤ i := by omega
      have HI : Hid (i + 3 = 3 * (j + 1)) := hi3
      have u0 : (i : Int) < 222 := by omega
      obtain ⟨i1, h1⟩ : ∃ i1, i1 = i + 1 := ⟨_, rfl⟩
      obtain ⟨i2, h2⟩ : ∃ i2, i2 = i + 2 := ⟨_, rfl⟩
      have u1 : IntKind.i64.wrap ((i : Int) + 1) = (i1 : Int) := by rw [IntKind.wrap_i64]; omega
      have u2 : IntKind.i64.wrap ((i : Int) + 2) = (i2 : Int) := by rw [IntKind.wrap_i64]; omega
      have u3 : (i1 : Int) < 222 := by omega
      have u4 : (i2 : Int) < 222 := by omega
      rw [← h1] at c1
      rw [← h2] at c2
      clear h1 h2
      clear run3 own3 be3 ownd hx hb3 hi hi3 HO
      obtain ⟨x1, x2, x3⟩ := x
      simp only at c0 c1 c2 hrun
      go_wp2_with fail
      go_region_law (refine K.step_run (by rfl) (.tmp 12) (.tmp 28) (by rfl) _ _ _ w3 (by rfl) (by rfl) hrun ?_)
      all_goals
        go_wp2
        go_roundw
        case rel => exact ⟨j + 1, ao1, vc1, rfl, by rw [← HI.out]; go_num, by omega, HN⟩
        case measure => simp [intOf]; omega
    · have e : j = 74 := by omega
      subst e
      have hP : Hid (Nm.Prs wr (.slice vo 74 vc) Nm.tab) := Nm.prs_own (l := Nm.tab) HO.out.1 (by decide)
      have HE : Hid (Below w.heap.size w wr) := HBT.out.trans (HO.out.2.mono HBT.out.size)
      have hi2 : ¬ i < 220 := by omega
      have hi3 : i ≤ 222 := by omega
      clear HO HBT HT hi
      go_wp2
      go_ret
      exact ⟨_, rfl, hP.out, HE.out⟩

end Go.Proofs.Ytbclmmkphjknaaa
