/-
  A row of runes, and two that change their places.
-/
import Derived.Test.YtbclmmkphjknaaaRows
import Derived.Sort.WalkA
import Derived.Sort.WalkB12
import Derived.Test.YtbclmmkphjknaaaNmSrt
namespace Go.Proofs.Ytbclmmkphjknaaa
open Go.RowKit Go.Sort
set_option maxRecDepth 20000
set_option linter.unusedSimpArgs false
set_option linter.unusedVariables false

namespace Z
abbrev en : Int → Value := Value.int .i32
/-- the row's cells hold d in a world that is w but for the row and for draws -/
def At (w : World) (blk off n0 : Nat) (d : Array Int) (wr : World) : Prop := d.size = n0 ∧ ∃ n, wr = putRow en (Sort.ahead w n) blk off d
theorem At.start {w : World} {blk off : Nat} {d : Array Int} (h : Holds en w blk off d) : At w blk off d.size d w := ⟨rfl, 0, (putRow_self en w blk off d h).symm⟩
theorem At.cell {w wr : World} {blk off n0 : Nat} {d0 d : Array Int} (h : At w blk off n0 d wr) (h0 : Holds en w blk off d0) (hn : d0.size = n0) {j : Nat} (hj : j < n0) : wr.cell? ⟨blk, off + j, none⟩ = some (.int .i32 d[j]!) := by
  obtain ⟨hs, n, rfl⟩ := h
  exact cell?_putRow en _ blk off d0 d (holds_ahead en w n blk off d0 h0) (by omega) j (by omega)
theorem At.free {w wr : World} {blk off n0 : Nat} {d0 d : Array Int} (h : At w blk off n0 d wr) (h0 : Holds en w blk off d0) (hn : d0.size = n0) {j : Nat} (hj : j < n0) : wr.frozen? ⟨blk, off + j, none⟩ = false := by
  obtain ⟨hs, n, rfl⟩ := h
  rw [frozen?_putRow]
  exact (holds_ahead en w n blk off d0 h0 j (by omega)).2
theorem At.drew {w wr : World} {blk off n0 : Nat} {d : Array Int} (h : At w blk off n0 d wr) (q : Nat) : At w blk off n0 d (wr.drewN q) := by
  obtain ⟨hs, n, rfl⟩ := h
  exact ⟨hs, n + q, putRow_drewN en w n q blk off d⟩
theorem At.swap {w wr : World} {blk off n0 : Nat} {d : Array Int} (h : At w blk off n0 d wr) {i j : Nat} (hi : i < n0) (hj : j < n0) (q : Nat) : At w blk off n0 (swp d i j) (((wr.drewN q).setCell ⟨blk, off + i, none⟩ (.int .i32 d[j]!)).setCell ⟨blk, off + j, none⟩ (.int .i32 d[i]!)) := by
  obtain ⟨hs, n, rfl⟩ := h
  exact ⟨by rw [size_swp]; exact hs, n + q, swap_worldA en w n q blk off d i j (by omega) (by omega)⟩
theorem At.holds {w wr : World} {blk off n0 : Nat} {d0 d : Array Int} (h : At w blk off n0 d wr) (h0 : Holds en w blk off d0) (hn : d0.size = n0) : Holds en wr blk off d := by
  obtain ⟨hs, n, rfl⟩ := h
  exact holds_putRow en _ blk off d0 d (holds_ahead en w n blk off d0 h0) (by omega)
theorem At.trans {w w1 w2 : World} {blk off n0 : Nat} {d e : Array Int} (h : At w blk off n0 d w1) (h' : At w1 blk off n0 e w2) : At w blk off n0 e w2 := by
  obtain ⟨hs, n, rfl⟩ := h
  obtain ⟨hs', m, rfl⟩ := h'
  exact ⟨hs', n + m, putRow_ahead_putRow en w n m blk off d e (by omega)⟩
theorem At.size {w wr : World} {blk off n0 : Nat} {d : Array Int} (h : At w blk off n0 d wr) : d.size = n0 := h.1
end Z

end Go.Proofs.Ytbclmmkphjknaaa

/-
  A row of runes as a list, in a walk that only lets them change their places; classes, and marks held against each other.
-/
namespace Go.Proofs.Ytbclmmkphjknaaa
open Go.RowKit Go.Sort
set_option maxRecDepth 20000
set_option linter.unusedSimpArgs false
set_option linter.unusedVariables false

namespace Nm
/-- the row's n cells hold L, in a world that is w0 but for the row and for draws -/
def In (w0 : World) (blk off n : Nat) (L : List Int) (w : World) : Prop := L.length = n ∧ (∃ d0 : Array Int, Holds Z.en w0 blk off d0 ∧ d0.size = n) ∧ Z.At w0 blk off n L.toArray w
theorem In.start {w : World} {blk off : Nat} {L : List Int} (h : Holds Z.en w blk off L.toArray) : In w blk off L.length L w := ⟨rfl, ⟨_, h, by simp⟩, by have := Z.At.start h; simpa using this⟩
theorem In.cell {w0 w : World} {blk off n : Nat} {L : List Int} (h : In w0 blk off n L w) : ∀ t, t < n → w.cell? ⟨blk, off + t, none⟩ = some (.int .i32 L.toArray[t]!) := by
  obtain ⟨hl, ⟨d0, h0, hs⟩, ha⟩ := h
  exact fun t ht => ha.cell h0 hs ht
theorem In.free {w0 w : World} {blk off n : Nat} {L : List Int} (h : In w0 blk off n L w) : ∀ t, t < n → w.frozen? ⟨blk, off + t, none⟩ = false := by
  obtain ⟨hl, ⟨d0, h0, hs⟩, ha⟩ := h
  exact fun t ht => ha.free h0 hs ht
theorem In.drew {w0 w : World} {blk off n : Nat} {L : List Int} (h : In w0 blk off n L w) (q : Nat) : In w0 blk off n L (w.drewN q) := by
  obtain ⟨hl, h0, ha⟩ := h
  exact ⟨hl, h0, ha.drew q⟩
theorem In.swap {w0 w : World} {blk off n : Nat} {L L' : List Int} (h : In w0 blk off n L w) {i j : Nat} (hi : i < n) (hj : j < n) (e : swp L.toArray i j = L'.toArray) (q : Nat) :
    In w0 blk off n L' (((w.drewN q).setCell ⟨blk, off + i, none⟩ (.int .i32 L.toArray[j]!)).setCell ⟨blk, off + j, none⟩ (.int .i32 L.toArray[i]!)) := by
  obtain ⟨hl, h0, ha⟩ := h
  have h1 := ha.swap hi hj q
  rw [e] at h1
  exact ⟨by have := h1.1; simpa using this, h0, h1⟩
theorem In.of {w0 w : World} {blk off n : Nat} {L L' : List Int} (h : In w0 blk off n L w) (e : L = L') : In w0 blk off n L' w := e ▸ h
end Nm

set_option maxHeartbeats 400000 in
theorem nmClass_any (r : Int) (w : World) : Calls Try.prog 7 #[.int .i32 r] w fun e w' => e = .returned (.int .i64 (Nm.cls r)) ∧ w' = w := by
  have HC : Hid (Nm.cls r = if r = 807 ∨ r = 808 then 202 else if r = 803 then 220 else if r = 768 ∨ r = 769 ∨ r = 770 ∨ r = 771 ∨ r = 776 ∨ r = 778 ∨ r = 780 then 230 else 0) := (rfl : Nm.cls r = _)
  go_enter Try.func7, Try.ntmps7
  go_wp2
  all_goals go_ret
  all_goals refine ⟨?_, rfl⟩
  all_goals rw [HC.out]
  all_goals simp_all

set_option maxHeartbeats 400000 in
theorem nmRefClass_any (r : Int) (w : World) : Calls Try.prog 8 #[.int .i32 r] w fun e w' => e = .returned (.int .i64 (Nm.cls r)) ∧ w' = w := by
  have HC : Hid (Nm.cls r = if r = 807 ∨ r = 808 then 202 else if r = 803 then 220 else if r = 768 ∨ r = 769 ∨ r = 770 ∨ r = 771 ∨ r = 776 ∨ r = 778 ∨ r = 780 then 230 else 0) := (rfl : Nm.cls r = _)
  go_enter Try.func8, Try.ntmps8
  go_wp2
  all_goals go_ret
  all_goals refine ⟨?_, rfl⟩
  all_goals rw [HC.out]
  all_goals simp_all
  all_goals (repeat' split) <;> first | rfl | omega

set_option maxHeartbeats 400000 in
theorem nmNan_any (w : World) (x : Int) : Calls Try.prog 61 #[.int .i64 x] w fun e w' => e = .returned (.bool false) ∧ w' = w := by
  go_enter Try.func61, Try.ntmps61
  go_wp2
  go_ret
  exact ⟨by simp, rfl⟩

set_option maxHeartbeats 400000 in
theorem nmCompare_any (w : World) (x y : Int) : Calls Try.prog 48 #[.int .i64 x, .int .i64 y] w fun e w' => e = .returned (.int .i64 (if x < y then -1 else if y < x then 1 else 0)) ∧ w' = w := by
  go_enter Try.func48, Try.ntmps48
  go_wp2_with (go_at_call 61; refine (nmNan_any _ _).mono ?_; rintro e w' ⟨rfl, rfl⟩)
  all_goals go_ret
  all_goals refine ⟨?_, rfl⟩
  all_goals simp_all
  all_goals (repeat' split) <;> first | rfl | omega

set_option maxHeartbeats 400000 in
theorem nmCmp_any (w : World) (x y : Int) : Calls Try.prog 47 #[.int .i32 x, .int .i32 y] w fun e w' => e = .returned (.int .i64 (Nm.cmp x y)) ∧ w' = w := by
  have HC : Hid (Nm.cmp x y = if Nm.cls x < Nm.cls y then -1 else if Nm.cls y < Nm.cls x then 1 else 0) := (rfl : Nm.cmp x y = _)
  have H1 : Hid (∀ r X, Calls Try.prog 7 #[.int .i32 r] X fun e w' => e = .returned (.int .i64 (Nm.cls r)) ∧ w' = X) := fun r X => nmClass_any r X
  have H2 : Hid (∀ a b X, Calls Try.prog 48 #[.int .i64 a, .int .i64 b] X fun e w' => e = .returned (.int .i64 (if a < b then -1 else if b < a then 1 else 0)) ∧ w' = X) := fun a b X => nmCompare_any X a b
  generalize Nm.cls = f at HC H1
  go_enter Try.func47, Try.ntmps47
  go_wp2_with fail
  refine (H1.out x _).mono ?_
  rintro e w1 ⟨rfl, rfl⟩
  go_wp2_with fail
  refine (H1.out y _).mono ?_
  rintro e w1 ⟨rfl, rfl⟩
  go_wp2_with fail
  refine (H2.out (f x) (f y) _).mono ?_
  rintro e w1 ⟨rfl, rfl⟩
  rw [← HC.out]
  clear HC H1 H2
  go_wp2
  go_ret
  exact ⟨rfl, rfl⟩

end Go.Proofs.Ytbclmmkphjknaaa
