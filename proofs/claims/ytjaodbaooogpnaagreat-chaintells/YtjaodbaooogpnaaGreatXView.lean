/-
  The machine as what a rule is held against.
-/
import Derived.Test.YtjaodbaooogpnaaGreatXAt
namespace Go.Proofs.YtjaodbaooogpnaaGreat
open Go.RowKit
set_option maxRecDepth 20000
set_option linter.unusedSimpArgs false
set_option linter.unusedVariables false

theorem xmeth_at0 (w : World) (mb : Nat) : (method 276 102 (.pointer (some ⟨mb, 0, none⟩)) "At").run Tryz.prog w = ((loadVar 106 ⟨mb, 0, none⟩) >>= fun p => pure (83, p)).run Tryz.prog w := by
  kernel_rfl

theorem xmeth_len0 (w : World) (mb : Nat) : (method 276 102 (.pointer (some ⟨mb, 0, none⟩)) "Len").run Tryz.prog w = ((loadVar 106 ⟨mb, 0, none⟩) >>= fun p => pure (73, p)).run Tryz.prog w := by
  kernel_rfl
theorem xload (w : World) (mb g : Nat) (h : w.cell? ⟨mb, 0, none⟩ = some (.pointer (some ⟨g, 0, none⟩))) : (loadVar 106 ⟨mb, 0, none⟩).run Tryz.prog w = .ok (.pointer (some ⟨g, 0, none⟩)) w := by
  have hs : ∀ w : World, (Go.sizeOf 106).run Tryz.prog w = .ok 1 w := fun w => by kernel_rfl
  have hu : ∀ w : World, (underlying 106).run Tryz.prog w = .ok (.pointer 113) w := fun w => by kernel_rfl
  unfold loadVar
  simp [go_sem, hs, hu, h, Result.andThen]
theorem xmeth_at (w : World) (mb g : Nat) (h : w.cell? ⟨mb, 0, none⟩ = some (.pointer (some ⟨g, 0, none⟩))) : (method 276 102 (.pointer (some ⟨mb, 0, none⟩)) "At").run Tryz.prog w = .ok (83, .pointer (some ⟨g, 0, none⟩)) w := by
  rw [xmeth_at0, Sem.run_bind, xload w mb g h]
  rfl
theorem xmeth_len (w : World) (mb g : Nat) (h : w.cell? ⟨mb, 0, none⟩ = some (.pointer (some ⟨g, 0, none⟩))) : (method 276 102 (.pointer (some ⟨mb, 0, none⟩)) "Len").run Tryz.prog w = .ok (73, .pointer (some ⟨g, 0, none⟩)) w := by
  rw [xmeth_len0, Sem.run_bind, xload w mb g h]
  rfl

end Go.Proofs.YtjaodbaooogpnaaGreat
