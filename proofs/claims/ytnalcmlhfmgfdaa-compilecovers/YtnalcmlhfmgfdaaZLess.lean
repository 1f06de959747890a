/-
  Runes that are sorted: what is less; a row of runes and two that change their places.
-/
import Derived.Test.YtnalcmlhfmgfdaaRows
import Derived.Test.YtnalcmlhfmgfdaaLib
import Derived.Sort.WalkA
import Derived.Sort.WalkB12
namespace Go.Proofs.Ytnalcmlhfmgfdaa
open Go.RowKit Go.Sort
set_option maxRecDepth 20000
set_option linter.unusedSimpArgs false
set_option linter.unusedVariables false

namespace Z
abbrev en : Int → Value := Value.int .i32
/-- the row's cells hold d in a world that is w but for the row and for draws -/
def At (w : World) (blk off n0 : Nat) (d : Array Int) (wr : World) : Prop := d.size = n0 ∧ ∃ n, wr = putRow en (Sort.ahead w n) blk off d
theorem At.start {w : World} {blk off : Nat} {d : Array Int} (h : Holds en w blk off d) : At w blk off d.size d w := ⟨rfl, 0, (putRow_self en w blk off d h).symm⟩
theorem At.cell {w wr : World} {blk off n0 : Nat} {d0 d : Array Int} (h : At w blk off n0 d wr) (h0 : Holds en w blk off d0) (hn : d0.size = n0) {j : Nat} (hj : j < n0) : wr.cell? ⟨blk, off + j, none⟩ = some (.int .i32 d[j]!) := by
  obtain ⟨hs, n, rfl⟩ := h
  exact cell?_putRow en _ blk off d0 d (holds_ahead en w n blk off d0 h0) (by omega) j (by omega)
theorem At.free {w wr : World} {blk off n0 : Nat} {d0 d : Array Int} (h : At w blk off n0 d wr) (h0 : Holds en w blk off d0) (hn : d0.size = n0) {j : Nat} (hj : j < n0) : wr.frozen? ⟨blk, off + j, none⟩ = false := by
  obtain ⟨hs, n, rfl⟩ := h
  rw [frozen?_putRow]
  exact (holds_ahead en w n blk off d0 h0 j (by omega)).2
theorem At.drew {w wr : World} {blk off n0 : Nat} {d : Array Int} (h : At w blk off n0 d wr) (q : Nat) : At w blk off n0 d (wr.drewN q) := by
  obtain ⟨hs, n, rfl⟩ := h
  exact ⟨hs, n + q, putRow_drewN en w n q blk off d⟩
theorem At.swap {w wr : World} {blk off n0 : Nat} {d : Array Int} (h : At w blk off n0 d wr) {i j : Nat} (hi : i < n0) (hj : j < n0) (q : Nat) : At w blk off n0 (swp d i j) (((wr.drewN q).setCell ⟨blk, off + i, none⟩ (.int .i32 d[j]!)).setCell ⟨blk, off + j, none⟩ (.int .i32 d[i]!)) := by
  obtain ⟨hs, n, rfl⟩ := h
  exact ⟨by rw [size_swp]; exact hs, n + q, swap_worldA en w n q blk off d i j (by omega) (by omega)⟩
end Z

set_option maxHeartbeats 400000 in
theorem znan_any (w : World) (x : Int) : Calls Try.prog 94 #[.int .i32 x] w fun e w' => e = .returned (.bool false) ∧ w' = w := by
  go_enter Try.func94, Try.ntmps94
  go_wp2
  go_ret
  exact ⟨by simp, rfl⟩

set_option maxHeartbeats 400000 in
theorem zless_any (w : World) (x y : Int) : Calls Try.prog 79 #[.int .i32 x, .int .i32 y] w fun e w' => e = .returned (.bool (ltInt x y)) ∧ w' = w := by
  go_enter Try.func79, Try.ntmps79
  go_wp2_with (go_at_call 94; refine (znan_any _ _).mono ?_; rintro e w' ⟨rfl, rfl⟩)
  go_ret
  exact ⟨rfl, rfl⟩

end Go.Proofs.Ytnalcmlhfmgfdaa
