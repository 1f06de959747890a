/-
  Boxes, behind an alloc.
-/
import Derived.Test.YtbclmmkphjknaaaLib
namespace Go.Proofs.Ytbclmmkphjknaaa
open Go.RowKit

theorem K.alloc_free {w : World} {g : Nat} {c : Array Value} {t : TypeId} (h : w.heap[g]? = some (.cells c t)) (o : Obj) (i : Nat) : (w.alloc o).frozen? ⟨g, i, none⟩ = false := by
  have e : (w.alloc o).heap[g]? = w.heap[g]? := Below.heap_alloc w o g (Array.getElem?_eq_some_iff.1 h).1
  rw [World.frozen?, show (w.alloc o).heap[(⟨g, i, none⟩ : Addr).block]? = w.heap[g]? from e, h]
  simp

theorem K.alloc_cell {w : World} {a : Addr} {v : Value} (h : w.cell? a = some v) (o : Obj) : (w.alloc o).cell? a = some v := by
  have e : (w.alloc o).heap[a.block]? = w.heap[a.block]? := Below.heap_alloc w o a.block (World.block_lt_of_cell? w a h)
  rw [World.cell?_of_block e]; exact h


end Go.Proofs.Ytbclmmkphjknaaa
