/-
  The machine as what a rule is held against.
-/
import Derived.Test.YtfhgenllefhgkaaXAt
namespace Go.Proofs.Ytfhgenllefhgkaa
open Go.RowKit
set_option maxRecDepth 20000
set_option linter.unusedSimpArgs false
set_option linter.unusedVariables false

theorem xmeth_at0 (w : World) (mb : Nat) : (method 255 53 (.pointer (some ⟨mb, 0, none⟩)) "At").run Try.prog w = ((loadVar 79 ⟨mb, 0, none⟩) >>= fun p => pure (48, p)).run Try.prog w := by
  kernel_rfl

theorem xmeth_len0 (w : World) (mb : Nat) : (method 255 53 (.pointer (some ⟨mb, 0, none⟩)) "Len").run Try.prog w = ((loadVar 79 ⟨mb, 0, none⟩) >>= fun p => pure (35, p)).run Try.prog w := by
  kernel_rfl
theorem xload (w : World) (mb g : Nat) (h : w.cell? ⟨mb, 0, none⟩ = some (.pointer (some ⟨g, 0, none⟩))) : (loadVar 79 ⟨mb, 0, none⟩).run Try.prog w = .ok (.pointer (some ⟨g, 0, none⟩)) w := by
  have hs : ∀ w : World, (Go.sizeOf 79).run Try.prog w = .ok 1 w := fun w => by kernel_rfl
  have hu : ∀ w : World, (underlying 79).run Try.prog w = .ok (.pointer 91) w := fun w => by kernel_rfl
  unfold loadVar
  simp [go_sem, hs, hu, h, Result.andThen]
theorem xmeth_at (w : World) (mb g : Nat) (h : w.cell? ⟨mb, 0, none⟩ = some (.pointer (some ⟨g, 0, none⟩))) : (method 255 53 (.pointer (some ⟨mb, 0, none⟩)) "At").run Try.prog w = .ok (48, .pointer (some ⟨g, 0, none⟩)) w := by
  rw [xmeth_at0, Sem.run_bind, xload w mb g h]
  rfl
theorem xmeth_len (w : World) (mb g : Nat) (h : w.cell? ⟨mb, 0, none⟩ = some (.pointer (some ⟨g, 0, none⟩))) : (method 255 53 (.pointer (some ⟨mb, 0, none⟩)) "Len").run Try.prog w = .ok (35, .pointer (some ⟨g, 0, none⟩)) w := by
  rw [xmeth_len0, Sem.run_bind, xload w mb g h]
  rfl

end Go.Proofs.Ytfhgenllefhgkaa
