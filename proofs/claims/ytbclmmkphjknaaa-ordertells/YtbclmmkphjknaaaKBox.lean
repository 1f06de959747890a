/-
  A row of runes as a list, in a walk that only lets them change their places; classes, and marks held against each other.
-/
import Derived.Test.YtbclmmkphjknaaaNmSymP
import Derived.Test.YtbclmmkphjknaaaOdP
import Derived.Test.YtbclmmkphjknaaaFrame
namespace Go.Proofs.Ytbclmmkphjknaaa
open Go.RowKit Go.Sort
set_option maxRecDepth 20000
set_option linter.unusedSimpArgs false
set_option linter.unusedVariables false

namespace Od
variable [Ck]
/-- the row's n cells hold L, in a world that is w0 but for the row and for draws -/
def In (w0 : World) (blk off n : Nat) (L : List Int) (w : World) : Prop := L.length = n ∧ (∃ d0 : Array Int, Holds Zi.en w0 blk off d0 ∧ d0.size = n) ∧ Zi.At w0 blk off n L.toArray w ∧ ∀ x ∈ L, ok x
theorem In.start {w : World} {blk off : Nat} {L : List Int} (h : Holds Zi.en w blk off L.toArray) (ho : ∀ x ∈ L, ok x) : In w blk off L.length L w := ⟨rfl, ⟨_, h, by simp⟩, by have := Zi.At.start h; simpa using this, ho⟩
theorem In.cell {w0 w : World} {blk off n : Nat} {L : List Int} (h : In w0 blk off n L w) : ∀ t, t < n → w.cell? ⟨blk, off + t, none⟩ = some (.int .i64 L.toArray[t]!) := by
  obtain ⟨hl, ⟨d0, h0, hs⟩, ha, _⟩ := h
  exact fun t ht => ha.cell h0 hs ht
theorem In.free {w0 w : World} {blk off n : Nat} {L : List Int} (h : In w0 blk off n L w) : ∀ t, t < n → w.frozen? ⟨blk, off + t, none⟩ = false := by
  obtain ⟨hl, ⟨d0, h0, hs⟩, ha, _⟩ := h
  exact fun t ht => ha.free h0 hs ht
theorem In.okAt {w0 w : World} {blk off n : Nat} {L : List Int} (h : In w0 blk off n L w) {t : Nat} (ht : t < n) : ok L.toArray[t]! := by
  have hl := h.1
  rw [Nm.at_get (by omega)]
  exact h.2.2.2 _ (List.getElem_mem _)
theorem In.drew {w0 w : World} {blk off n : Nat} {L : List Int} (h : In w0 blk off n L w) (q : Nat) : In w0 blk off n L (w.drewN q) := by
  obtain ⟨hl, h0, ha, ho⟩ := h
  exact ⟨hl, h0, ha.drew q, ho⟩
theorem In.swap {w0 w : World} {blk off n : Nat} {L L' : List Int} (h : In w0 blk off n L w) {i j : Nat} (hi : i < n) (hj : j < n) (e : swp L.toArray i j = L'.toArray) (q : Nat) :
    In w0 blk off n L' (((w.drewN q).setCell ⟨blk, off + i, none⟩ (.int .i64 L.toArray[j]!)).setCell ⟨blk, off + j, none⟩ (.int .i64 L.toArray[i]!)) := by
  have hi' := h.okAt hi
  have hj' := h.okAt hj
  obtain ⟨hl, h0, ha, ho⟩ := h
  have h1 := ha.swap hi hj q
  refine ⟨by rw [e] at h1; have := h1.1; simpa using this, h0, by rw [e] at h1; exact h1, fun x hx => ?_⟩
  have e2 : L' = (L.set i L.toArray[j]!).set j L.toArray[i]! := by
    have := congrArg Array.toList e
    unfold swp at this
    simpa using this.symm
  rw [e2] at hx
  rcases List.mem_or_eq_of_mem_set hx with hx | rfl
  · rcases List.mem_or_eq_of_mem_set hx with hx | rfl
    · exact ho x hx
    · exact hj'
  · exact hi'
theorem In.of {w0 w : World} {blk off n : Nat} {L L' : List Int} (h : In w0 blk off n L w) (e : L = L') : In w0 blk off n L' w := e ▸ h
/-- what the comparing function answers, wherever all but the row is as in w0 -/
def Con (w0 : World) (blk : Nat) : Prop := ∀ (X : World) (x y : Int), (∀ a : Addr, a.block ≠ blk → X.cell? a = w0.cell? a) → ok x → ok y → Calls Try.prog 54 #[.int .i64 x, .int .i64 y, .pointer (some ⟨Ck.kb, 0, none⟩)] X fun e w' => e = .returned (.int .i64 (cmp x y)) ∧ w' = X
theorem In.con {w0 w : World} {blk off n : Nat} {L : List Int} (HK : Con w0 blk) (h : In w0 blk off n L w) {x y : Int} (hx : ok x) (hy : ok y) (X : World) (hX : X.heap = w.heap) : Calls Try.prog 54 #[.int .i64 x, .int .i64 y, .pointer (some ⟨Ck.kb, 0, none⟩)] X fun e w' => e = .returned (.int .i64 (cmp x y)) ∧ w' = X :=
  HK X x y (fun a ha => by rw [show X.cell? a = w.cell? a by simp only [World.cell?, hX]]; exact h.2.2.1.far ha) hx hy
end Od

end Go.Proofs.Ytbclmmkphjknaaa

/-
  Boxes in memory.
-/
namespace Go.Proofs.Ytbclmmkphjknaaa.K
open Go.RowKit

theorem at_box {w : World} {b i : Nat} {c : Array Value} {t : TypeId} {v : Value} (h : w.heap[b]? = some (.cells c t)) (hv : c[i]? = some v) : w.cell? ⟨b, i, none⟩ = some v := by
  rw [World.cell?]; simp [h, hv]
theorem blk_below {w w' : World} {b : Nat} {o : Obj} (h : w.heap[b]? = some o) (hb : Below w.heap.size w w') : w'.heap[b]? = some o := by
  rw [hb.block b (Array.getElem?_eq_some_iff.1 h).1]; exact h
theorem one_box {w w1 : World} {o1 : Obj} (h : Below (w.alloc o1).heap.size (w.alloc o1) w1) : w1.heap[w.heap.size]? = some o1 ∧ Below w.heap.size w w1 ∧ w.heap.size + 1 ≤ w1.heap.size := by
  have hs := h.size
  simp at hs
  refine ⟨blk_below (heap_alloc_new w o1) h, ((Below.refl _ w).alloc (Nat.le_refl _) o1).trans (h.mono (by simp)), hs⟩
theorem two_boxes {w w1 : World} {o1 o2 : Obj} (h : Below ((w.alloc o1).alloc o2).heap.size ((w.alloc o1).alloc o2) w1) :
    w1.heap[w.heap.size]? = some o1 ∧ w1.heap[w.heap.size + 1]? = some o2 ∧ Below w.heap.size w w1 ∧ w.heap.size + 2 ≤ w1.heap.size := by
  have hs := h.size
  simp at hs
  have e1 := heap_alloc_new (w.alloc o1) o2
  simp at e1
  have e2 : ((w.alloc o1).alloc o2).heap[w.heap.size]? = some o1 := (Below.heap_alloc (w.alloc o1) o2 w.heap.size (by simp)).trans (heap_alloc_new w o1)
  exact ⟨blk_below e2 h, blk_below (by simpa using e1) h, (((Below.refl _ w).alloc (Nat.le_refl _) o1).alloc (by simp) o2).trans (h.mono (by simp; omega)), by omega⟩

theorem box2 {w : World} {g : Nat} {a b : Value} {t : TypeId} (hg : w.heap[g]? = some (.cells #[a, b] t)) : w.cell? ⟨g, 0, none⟩ = some a ∧ w.cell? ⟨g, 1, none⟩ = some b ∧ w.frozen? ⟨g, 0, none⟩ = false ∧ w.frozen? ⟨g, 1, none⟩ = false := by
  refine ⟨?_, ?_, ?_, ?_⟩
  · rw [World.cell?]; simp [hg]
  · rw [World.cell?]; simp [hg]
  · rw [World.frozen?]; simp [hg]
  · rw [World.frozen?]; simp [hg]

end Go.Proofs.Ytbclmmkphjknaaa.K
