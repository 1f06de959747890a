/-
  Runes that are sorted: which one parts them (any that lies between will do).
-/
import Derived.Test.YtnalcmlhfmgfdaaZHeap2
import Derived.Test.YtnalcmlhfmgfdaaQBox
import Derived.Test.YtnalcmlhfmgfdaaMLib
namespace Go.Proofs.Ytnalcmlhfmgfdaa
open Go.RowKit Go.Sort
set_option maxRecDepth 20000
set_option linter.unusedSimpArgs false
set_option linter.unusedVariables false

namespace Z
/-- all but the box of exchanges counted is as it was -/
def Sb (sb : Nat) (w w' : World) : Prop := RowKit.Below sb w w' ∧ (∀ b, ¬ b = sb → w'.heap[b]? = w.heap[b]?) ∧ (w'.heap.size = w.heap.size ∧ w.drawn ≤ w'.drawn) ∧ ∃ s, w'.heap[sb]? = some (.cells #[.int .i64 s] 3)
theorem Sb.refl {sb : Nat} {w : World} {s : Int} (h : w.heap[sb]? = some (.cells #[.int .i64 s] 3)) : Sb sb w w := ⟨RowKit.Below.refl _ _, fun _ _ => rfl, ⟨rfl, Nat.le_refl _⟩, s, h⟩
theorem Sb.drew {sb : Nat} {w w' : World} (h : Sb sb w w') (q : Nat) : Sb sb w (w'.drewN q) := ⟨below_drewN h.1 q, h.2.1, ⟨h.2.2.1.1, Nat.le_trans h.2.2.1.2 (show w'.drawn ≤ w'.drawn + q from Nat.le_add_right _ _)⟩, h.2.2.2⟩
theorem Sb.set {sb : Nat} {w w' : World} (h : Sb sb w w') (s : Int) : Sb sb w (w'.setCell ⟨sb, 0, none⟩ (.int .i64 s)) := by
  obtain ⟨h1, h2, h3, t, h4⟩ := h
  exact ⟨h1.setCell (p := ⟨sb, 0, none⟩) (Nat.le_refl _) _, fun b hb => (heap_setCell_other w' ⟨sb, 0, none⟩ b _ hb).trans (h2 b hb), ⟨by simp [h3.1], h3.2⟩, s, heap_setCell_same w' sb 0 _ _ _ h4⟩
theorem Sb.trans {sb : Nat} {w w1 w2 : World} (h : Sb sb w w1) (h' : Sb sb w1 w2) : Sb sb w w2 := ⟨h.1.trans h'.1, fun b hb => (h'.2.1 b hb).trans (h.2.1 b hb), ⟨h'.2.2.1.1.trans h.2.2.1.1, Nat.le_trans h.2.2.1.2 h'.2.2.1.2⟩, h'.2.2.2⟩
theorem Sb.holds {sb blk off : Nat} {w w' : World} {d : Array Int} (h : Sb sb w w') (hH : Holds en w blk off d) (hne : ¬ blk = sb) : Holds en w' blk off d := fun j hj => by
  obtain ⟨h1, h2⟩ := hH j hj
  have e := h.2.1 blk hne
  refine ⟨by rw [World.cell?_of_block (a := ⟨blk, off + j, none⟩) e]; exact h1, ?_⟩
  rw [← h2]
  unfold World.frozen?
  simp only [e]
end Z

set_option maxHeartbeats 2000000 in
theorem zorder2_any (w : World) (blk off cap a b sb : Nat) (s : Int) (d : Array Int) (hH : Holds Z.en w blk off d) (ha : a < d.size) (hb : b < d.size) (hsz : d.size < 1152921504606846976) (hne : ¬ blk = sb) (hs : w.heap[sb]? = some (.cells #[.int .i64 s] 3)) :
    Calls Try.prog 96 #[.slice (some ⟨blk, off, none⟩) d.size cap, .int .i64 a, .int .i64 b, .pointer (some ⟨sb, 0, none⟩)] w fun e w' => (e = .returned (.tuple #[.int .i64 a, .int .i64 b]) ∨ e = .returned (.tuple #[.int .i64 b, .int .i64 a])) ∧ Z.Sb sb w w' := by
  obtain ⟨ca, fa⟩ := hH a ha
  obtain ⟨cb, fb⟩ := hH b hb
  generalize d[a]! = x at ca
  generalize d[b]! = y at cb
  have HS : Hid (Z.Sb sb w w) := Z.Sb.refl hs
  have c0 : w.cell? ⟨sb, 0, none⟩ = some (.int .i64 s) := K.at_box (i := 0) hs rfl
  have f0 : w.frozen? ⟨sb, 0, none⟩ = false := frozen_of_row w _ _ _ _ hs
  clear hH fa fb hs
  go_enter Try.func96, Try.ntmps96
  go_wp2
  go_quiet (first | (go_at_call 79; refine Calls.quiet_of_same (zless_any _ _ _)))
  go_wp2
  · refine bodyPost_ret (v := .tuple #[.int .i64 b, .int .i64 a]) (by simp [results, Try.results96, go_sem, *]) rfl ?_
    exact ⟨.inr rfl, (HS.out.drew _).set _⟩
  · refine bodyPost_ret (v := .tuple #[.int .i64 a, .int .i64 b]) (by simp [results, Try.results96, go_sem, *]) rfl ?_
    exact ⟨.inl rfl, HS.out.drew _⟩

end Go.Proofs.Ytnalcmlhfmgfdaa
