/-
 The machine as what a rule is held against.
-/
import Derived.Test.YtddiojckgjobmaaGreatXAt
namespace Go.Proofs.YtddiojckgjobmaaGreat
open Go.RowKit
set_option maxRecDepth 20000
set_option linter.unusedSimpArgs false
set_option linter.unusedVariables false
theorem zhx (w:World)(mb:Nat):(method 285 113 (.pointer (some ⟨mb,0,none⟩)) "At").run Tryz.prog w=((loadVar 117 ⟨mb,0,none⟩) >>= fun p=>pure (93,p)).run Tryz.prog w:=by
 kernel_rfl
theorem zgl (w:World)(mb:Nat):(method 285 113 (.pointer (some ⟨mb,0,none⟩)) "Len").run Tryz.prog w=((loadVar 117 ⟨mb,0,none⟩) >>= fun p=>pure (83,p)).run Tryz.prog w:=by
 kernel_rfl
theorem xload (w:World)(mb g:Nat)(h:w.cell? ⟨mb,0,none⟩=some (.pointer (some ⟨g,0,none⟩))):(loadVar 117 ⟨mb,0,none⟩).run Tryz.prog w= .ok (.pointer (some ⟨g,0,none⟩)) w:=by
 have hs:∀w:World,(Go.sizeOf 117).run Tryz.prog w= .ok 1 w:=fun w=>by kernel_rfl
 have hu:∀w:World,(underlying 117).run Tryz.prog w= .ok (.pointer 124) w:=fun w=>by kernel_rfl
 unfold loadVar;simp[go_sem,hs,hu,h,Result.andThen]
theorem zje (w:World)(mb g:Nat)(h:w.cell? ⟨mb,0,none⟩=some (.pointer (some ⟨g,0,none⟩))):(method 285 113 (.pointer (some ⟨mb,0,none⟩)) "At").run Tryz.prog w= .ok (93,.pointer (some ⟨g,0,none⟩)) w:=by
 rw[zhx,Sem.run_bind,xload w mb g h];rfl
theorem zhw (w:World)(mb g:Nat)(h:w.cell? ⟨mb,0,none⟩=some (.pointer (some ⟨g,0,none⟩))):(method 285 113 (.pointer (some ⟨mb,0,none⟩)) "Len").run Tryz.prog w= .ok (83,.pointer (some ⟨g,0,none⟩)) w:=by
 rw[zgl,Sem.run_bind,xload w mb g h];rfl
end Go.Proofs.YtddiojckgjobmaaGreat
