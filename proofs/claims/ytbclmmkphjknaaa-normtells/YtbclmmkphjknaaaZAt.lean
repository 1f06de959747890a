/-
  A row of runes, and two that change their places.
-/
import Derived.Test.YtbclmmkphjknaaaRows
import Derived.Sort.WalkA
import Derived.Sort.WalkB12
namespace Go.Proofs.Ytbclmmkphjknaaa
open Go.RowKit Go.Sort
set_option maxRecDepth 20000
set_option linter.unusedSimpArgs false
set_option linter.unusedVariables false

namespace Z
abbrev en : Int → Value := Value.int .i32
/-- the row's cells hold d in a world that is w but for the row and for draws -/
def At (w : World) (blk off n0 : Nat) (d : Array Int) (wr : World) : Prop := d.size = n0 ∧ ∃ n, wr = putRow en (Sort.ahead w n) blk off d
theorem At.start {w : World} {blk off : Nat} {d : Array Int} (h : Holds en w blk off d) : At w blk off d.size d w := ⟨rfl, 0, (putRow_self en w blk off d h).symm⟩
theorem At.cell {w wr : World} {blk off n0 : Nat} {d0 d : Array Int} (h : At w blk off n0 d wr) (h0 : Holds en w blk off d0) (hn : d0.size = n0) {j : Nat} (hj : j < n0) : wr.cell? ⟨blk, off + j, none⟩ = some (.int .i32 d[j]!) := by
  obtain ⟨hs, n, rfl⟩ := h
  exact cell?_putRow en _ blk off d0 d (holds_ahead en w n blk off d0 h0) (by omega) j (by omega)
theorem At.free {w wr : World} {blk off n0 : Nat} {d0 d : Array Int} (h : At w blk off n0 d wr) (h0 : Holds en w blk off d0) (hn : d0.size = n0) {j : Nat} (hj : j < n0) : wr.frozen? ⟨blk, off + j, none⟩ = false := by
  obtain ⟨hs, n, rfl⟩ := h
  rw [frozen?_putRow]
  exact (holds_ahead en w n blk off d0 h0 j (by omega)).2
theorem At.drew {w wr : World} {blk off n0 : Nat} {d : Array Int} (h : At w blk off n0 d wr) (q : Nat) : At w blk off n0 d (wr.drewN q) := by
  obtain ⟨hs, n, rfl⟩ := h
  exact ⟨hs, n + q, putRow_drewN en w n q blk off d⟩
theorem At.swap {w wr : World} {blk off n0 : Nat} {d : Array Int} (h : At w blk off n0 d wr) {i j : Nat} (hi : i < n0) (hj : j < n0) (q : Nat) : At w blk off n0 (swp d i j) (((wr.drewN q).setCell ⟨blk, off + i, none⟩ (.int .i32 d[j]!)).setCell ⟨blk, off + j, none⟩ (.int .i32 d[i]!)) := by
  obtain ⟨hs, n, rfl⟩ := h
  exact ⟨by rw [size_swp]; exact hs, n + q, swap_worldA en w n q blk off d i j (by omega) (by omega)⟩
theorem At.holds {w wr : World} {blk off n0 : Nat} {d0 d : Array Int} (h : At w blk off n0 d wr) (h0 : Holds en w blk off d0) (hn : d0.size = n0) : Holds en wr blk off d := by
  obtain ⟨hs, n, rfl⟩ := h
  exact holds_putRow en _ blk off d0 d (holds_ahead en w n blk off d0 h0) (by omega)
theorem At.trans {w w1 w2 : World} {blk off n0 : Nat} {d e : Array Int} (h : At w blk off n0 d w1) (h' : At w1 blk off n0 e w2) : At w blk off n0 e w2 := by
  obtain ⟨hs, n, rfl⟩ := h
  obtain ⟨hs', m, rfl⟩ := h'
  exact ⟨hs', n + m, putRow_ahead_putRow en w n m blk off d e (by omega)⟩
theorem At.size {w wr : World} {blk off n0 : Nat} {d : Array Int} (h : At w blk off n0 d wr) : d.size = n0 := h.1
end Z

end Go.Proofs.Ytbclmmkphjknaaa
