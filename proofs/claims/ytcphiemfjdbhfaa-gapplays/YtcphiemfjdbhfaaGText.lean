/-
  What the methods of gap.Text do that change no rune.
-/
import Derived.Test.YtcphiemfjdbhfaaGLib
import Derived.Deep.QuietTactic
import Derived.BigQuiet
namespace Go.Proofs.Ytcphiemfjdbhfaa
open Go.RowKit

set_option maxHeartbeats 400000 in
theorem behind_any (w : World) (g : Nat) (ao : Option Addr) (n t : Nat) (v1 : Value) (h : G.Bx3 w g (.slice ao n n) v1 (.int .i64 t)) (hn : n ≤ 8000) (ht : t ≤ n) :
    Calls Try.prog 18 #[.pointer (some ⟨g, 0, none⟩)] w fun e w' => e = .returned (.int .i64 (n - t : Nat)) ∧ ∃ q, w' = w.drewN q := by
  have c0 := h.c0
  have c2 := h.c2
  go_enter Try.func18, Try.ntmps18
  go_wp2
  go_quiet (fail)
  go_wp2
  go_ret
  exact ⟨L.ret_int (by omega), _, rfl⟩

set_option maxHeartbeats 400000 in
theorem len_any (w : World) (g : Nat) (ao : Option Addr) (n f t : Nat) (h : G.Bx3 w g (.slice ao n n) (.int .i64 f) (.int .i64 t)) (hn : n ≤ 8000) (ht : t ≤ n) (hf : f ≤ n) :
    Calls Try.prog 16 #[.pointer (some ⟨g, 0, none⟩)] w fun e w' => e = .returned (.int .i64 (f + (n - t) : Nat)) ∧ ∃ q, w' = w.drewN q := by
  have c1 := h.c1
  have H : Hid _ := h
  clear h
  go_enter Try.func16, Try.ntmps16
  go_wp2
  go_quiet ((go_at_call 18; exact Calls.quiet_of (behind_any _ g ao n t _ H.out hn ht)))
  go_wp2
  go_ret
  exact ⟨L.ret_int (by omega), _, rfl⟩

set_option maxHeartbeats 400000 in
theorem cursor_any (w : World) (g f : Nat) (v0 v2 : Value) (h : G.Bx3 w g v0 (.int .i64 f) v2) :
    Calls Try.prog 10 #[.pointer (some ⟨g, 0, none⟩)] w fun e w' => e = .returned (.int .i64 f) ∧ w' = w := by
  have c1 := h.c1
  go_enter Try.func10, Try.ntmps10
  go_wp2
  go_ret
  exact ⟨rfl, rfl⟩

end Go.Proofs.Ytcphiemfjdbhfaa
