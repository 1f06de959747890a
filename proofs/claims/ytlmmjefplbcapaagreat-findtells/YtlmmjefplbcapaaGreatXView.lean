/-
  The machine as what a rule is held against.
-/
import Derived.Test.YtlmmjefplbcapaaGreatXAt
namespace Go.Proofs.YtlmmjefplbcapaaGreat
open Go.RowKit
set_option maxRecDepth 20000
set_option linter.unusedSimpArgs false
set_option linter.unusedVariables false

theorem xmeth_at0 (w : World) (mb : Nat) : (method 263 63 (.pointer (some ⟨mb, 0, none⟩)) "At").run Tryz.prog w = ((loadVar 89 ⟨mb, 0, none⟩) >>= fun p => pure (61, p)).run Tryz.prog w := by
  kernel_rfl

theorem xmeth_len0 (w : World) (mb : Nat) : (method 263 63 (.pointer (some ⟨mb, 0, none⟩)) "Len").run Tryz.prog w = ((loadVar 89 ⟨mb, 0, none⟩) >>= fun p => pure (49, p)).run Tryz.prog w := by
  kernel_rfl
theorem xload (w : World) (mb g : Nat) (h : w.cell? ⟨mb, 0, none⟩ = some (.pointer (some ⟨g, 0, none⟩))) : (loadVar 89 ⟨mb, 0, none⟩).run Tryz.prog w = .ok (.pointer (some ⟨g, 0, none⟩)) w := by
  have hs : ∀ w : World, (Go.sizeOf 89).run Tryz.prog w = .ok 1 w := fun w => by kernel_rfl
  have hu : ∀ w : World, (underlying 89).run Tryz.prog w = .ok (.pointer 101) w := fun w => by kernel_rfl
  unfold loadVar
  simp [go_sem, hs, hu, h, Result.andThen]
theorem xmeth_at (w : World) (mb g : Nat) (h : w.cell? ⟨mb, 0, none⟩ = some (.pointer (some ⟨g, 0, none⟩))) : (method 263 63 (.pointer (some ⟨mb, 0, none⟩)) "At").run Tryz.prog w = .ok (61, .pointer (some ⟨g, 0, none⟩)) w := by
  rw [xmeth_at0, Sem.run_bind, xload w mb g h]
  rfl
theorem xmeth_len (w : World) (mb g : Nat) (h : w.cell? ⟨mb, 0, none⟩ = some (.pointer (some ⟨g, 0, none⟩))) : (method 263 63 (.pointer (some ⟨mb, 0, none⟩)) "Len").run Tryz.prog w = .ok (49, .pointer (some ⟨g, 0, none⟩)) w := by
  rw [xmeth_len0, Sem.run_bind, xload w mb g h]
  rfl

end Go.Proofs.YtlmmjefplbcapaaGreat
