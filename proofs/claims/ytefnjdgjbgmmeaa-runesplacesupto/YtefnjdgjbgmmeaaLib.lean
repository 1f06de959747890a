/-
  Small laws on worlds, of whatever program: a slice that is grown while a text is ranged over.
-/
import Derived.WalkKit
import Derived.WalkSpells
import Derived.WalkSmall
import Derived.Lib.OthersKept
namespace Go.Proofs.Ytefnjdgjbgmmeaa.L
open Go.RowKit

/-- One element appended to a row that the call owns, while an iterator over a text lies in block B, ahead of the row. -/
theorem iter_push {w W1 w3 : World} {B : Nat} {s : ByteArray} {p : Nat} {e : TypeId} {v v' : Value} {n : Nat} {xs ys : List Value} {o : Obj}
    (hit : W1.heap[B]? = some (.stringIter s p)) (hbw : Below B w W1) (hown : W1.ownsRow (B + 1) e 1 v n xs)
    (hown' : w3.ownsRow (B + 1) e 1 v' (n + 1) (xs ++ ys)) (hgrow : (W1.alloc o).grownBy w3 v.ownBlock) :
    Hid (w3.ownsRow (B + 1) e 1 v' (n + 1) (xs ++ ys) ∧ w3.heap[B]? = some (.stringIter s p) ∧ Below B w w3) := by
  have hlt := lt_of_block hit
  refine ⟨hown', ?_, ?_⟩
  · rw [hgrow.block B (by simp; omega) (fun h => by have := (hown.lt _ h.symm).1; omega), Below.heap_alloc _ _ _ hlt]
    exact hit
  · exact Below.grown (hbw.alloc (by omega) _) hgrow (by simp; omega) (fun j hj => by have := (hown.lt _ hj).1; omega)

theorem ret_bool {a b : Bool} (h : a = b) : Ending.returned (.bool a) = .returned (.bool b) := by rw [h]
theorem ret_int {k : IntKind} {a b : Int} (h : a = b) : Ending.returned (.int k a) = .returned (.int k b) := by rw [h]

/-- what lay below the heap's end reads as before -/
theorem bcell {B : Nat} {W w1 : World} (hb : Below B W w1) : (∀ b o, b < B → w1.cell? ⟨b, o, none⟩ = W.cell? ⟨b, o, none⟩) ∧ (∀ b o, b < B → w1.frozen? ⟨b, o, none⟩ = W.frozen? ⟨b, o, none⟩) :=
  ⟨fun b o h => hb.cell (p := ⟨b, o, none⟩) h, fun b o h => hb.frozen (p := ⟨b, o, none⟩) h⟩


/-- A SLICE VALUE READS AS A LIST OF NUMBERS (what lies behind its length is not looked at). -/
def Rd (w : World) (v : Value) (k : IntKind) (zs : List Int) : Prop :=
  ∃ ao cap, v = .slice ao zs.length cap ∧ (zs ≠ [] → ∃ b off, ao = some ⟨b, off, none⟩ ∧ ∀ j z, zs[j]? = some z → w.cell? ⟨b, off + j, none⟩ = some (.int k z))

theorem addr_add (b off j : Nat) : (⟨b, off, none⟩ : Addr).add j = ⟨b, off + j, none⟩ := by
  by_cases h : j = 0
  · subst h; simp [Addr.add]
  · simp [Addr.add, h]

theorem Rd.of_owns {w : World} {B : Nat} {e : TypeId} {v : Value} {k : IntKind} {zs : List Int} (h : w.ownsRow B e 1 v zs.length (zs.map (Value.int k))) : Rd w v k zs := by
  have hc := fun g hg => World.ownsRow.cells h (g := g) hg
  rcases h.2 with ⟨rfl, h0⟩ | ⟨g, cap, cur, rfl, h0⟩
  · have : zs = [] := by simpa using h0
    subst this
    exact ⟨none, 0, rfl, fun h => absurd rfl h⟩
  · refine ⟨_, cap, rfl, fun _ => ⟨g, 0, rfl, fun j z hj => ?_⟩⟩
    have := hc g rfl j (.int k z) (by simp [hj])
    rw [addr_add] at this
    exact this

theorem Rd.below {w w' : World} {v : Value} {k : IntKind} {zs : List Int} {B : Nat} (h : Rd w v k zs) (hb : Below B w w') (hB : w.heap.size ≤ B) : Rd w' v k zs := by
  obtain ⟨ao, cap, rfl, h⟩ := h
  refine ⟨ao, cap, rfl, fun hz => ?_⟩
  obtain ⟨b, off, rfl, hc⟩ := h hz
  refine ⟨b, off, rfl, fun j z hj => ?_⟩
  have h1 := hc j z hj
  have hlt : b < w.heap.size := by
    simp only [World.cell?] at h1
    by_cases hlt : b < w.heap.size
    · exact hlt
    · simp [Array.getElem?_eq_none (Nat.le_of_not_lt hlt)] at h1
  rw [hb.cell (p := ⟨b, off + j, none⟩) (by show b < B; omega)]
  exact h1

end Go.Proofs.Ytefnjdgjbgmmeaa.L
