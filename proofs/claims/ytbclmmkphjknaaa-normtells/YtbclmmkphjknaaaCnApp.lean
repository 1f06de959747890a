/-
  One rune more: append(out, z).
-/
import Derived.Test.YtbclmmkphjknaaaKInts
namespace Go.Proofs.Ytbclmmkphjknaaa
open Go.RowKit
set_option maxRecDepth 20000
set_option linter.unusedSimpArgs false
set_option linter.unusedVariables false

/-- append(out, z) -/
theorem Cn.app1 {w : World} {B : Nat} {vo : Value} {o : List Int} (own : w.ownsRow B 21 1 vo o.length (K.ints o)) (hB : B ≤ w.heap.size) (hl : o.length ≤ 50000000) (z : Int) :
    ∃ ao' vc' w', (∀ ty, (Builtin.append_ #[22, 22] ty #[vo, .slice (some ⟨w.heap.size, 0, none⟩) 1 1]).run Try.prog (w.alloc (.cells #[.int .i32 z] 21)) = .ok (.slice ao' (o.length + 1) vc') w') ∧ w'.ownsRow B 21 1 (.slice ao' (o.length + 1) vc') (o ++ [z]).length (K.ints (o ++ [z])) ∧ (∀ b, b < w.heap.size → vo.ownBlock ≠ some b → w'.heap[b]? = w.heap[b]?) ∧ w.heap.size ≤ w'.heap.size ∧ Below B w w' := by
  have hal : Below w.heap.size w (w.alloc (.cells #[.int .i32 z] 21)) := (Below.refl _ w).alloc (Nat.le_refl _) _
  have hnew := heap_alloc_new w (.cells #[.int .i32 z] 21)
  have hrx : L.Rd (w.alloc (.cells #[.int .i32 z] 21)) (.slice (some ⟨w.heap.size, 0, none⟩) 1 1) .i32 [z] := ⟨_, _, rfl, fun e => by (cases e), fun _ => ⟨_, 0, rfl, fun j y hj => by
    match j, hj with
    | 0, hj => cases hj; exact K.at_box hnew rfl
    | n + 1, hj => simp at hj⟩⟩
  obtain ⟨v', w', run, own', gr, _⟩ := K.app_rd _ B vo o (own.alloc _) _ [z] hrx (by simp; omega) (by simp; omega)
  have hlen : (o ++ [z]).length = o.length + 1 := by simp
  obtain ⟨ao', vc', rfl⟩ : ∃ ao cap, v' = .slice ao (o.length + 1) cap := by
    rw [← hlen]
    rcases own'.2 with ⟨hv, h0⟩ | ⟨g, cap, cur, hv, _⟩
    · exact ⟨none, 0, by rw [hv, h0]⟩
    · exact ⟨_, cap, hv⟩
  refine ⟨ao', vc', w', run, own', fun b hb hne => ?_, ?_, (hal.mono hB).grown gr (by simp; omega) fun k hk => (own.lt k hk).1⟩
  · rw [gr.block b (by simp; omega) (fun e => hne e.symm)]
    exact hal.block b hb
  · have := gr.size
    simp at this
    omega

end Go.Proofs.Ytbclmmkphjknaaa
