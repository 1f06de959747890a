/-
  What is read of the files quotes, edges, squeeze.
-/
import Derived.Test.YtdfjokdknanlfaaGreatDoorShOneA
import Derived.Test.YtdfjokdknanlfaaGreatDoorShCtx
import Derived.Test.YtdfjokdknanlfaaGreatDoorShSqP
import Derived.Test.YtdfjokdknanlfaaGreatDoorRName
namespace Go.Proofs.YtdfjokdknanlfaaGreatDoor.Sh
open Go.RowKit
set_option maxRecDepth 40000
def uQuotes : List Int := [94, 32, 123, 32, 39, 34, 39, 32, 62, 32, 8220, 32, 59, 10, 39, 32, 39, 32, 123, 32, 39, 34, 39, 32, 62, 32, 8220, 32, 59, 10, 39, 34, 39, 32, 62, 32, 8221, 32, 59, 10]
theorem scr_q : Scr nQuotes (oneS [rQ1, rQ2, rQ3]) := by
  have hx : M.rn tQuotes = uQuotes := by
    have h := T.zdk (l := uQuotes) (by unfold T.rightL; decide)
    have e : T.bytesR uQuotes = tQuotes.data.toList := by decide +kernel
    rw [e] at h
    exact h
  have key : (match R.read uQuotes with | .ok l _ => V.forthF l | .bad _ _ => (oneS [rQ1, rQ2, rQ3], 1, 1)) = (oneS [rQ1, rQ2, rQ3], 0, 0) := by kernel_rfl
  cases h : R.read uQuotes with
  | ok l q => rw [h] at key; exact ⟨tQuotes, l, q, by decide +kernel, by decide, by rw [hx]; exact h, key⟩
  | bad e q => rw [h] at key; simp at key
def uEdges : List Int := [35, 32, 110, 111, 32, 98, 108, 97, 110, 107, 32, 97, 116, 32, 101, 105, 116, 104, 101, 114, 32, 101, 110, 100, 10, 94, 32, 123, 32, 39, 32, 39, 32, 62, 32, 59, 10, 39, 32, 39, 32, 125, 32, 36, 32, 62, 32, 59, 10]
theorem scr_e : Scr nEdges (oneS [rE1, rE2]) := by
  have hx : M.rn tEdges = uEdges := by
    have h := T.zdk (l := uEdges) (by unfold T.rightL; decide)
    have e : T.bytesR uEdges = tEdges.data.toList := by decide +kernel
    rw [e] at h
    exact h
  have key : (match R.read uEdges with | .ok l _ => V.forthF l | .bad _ _ => (oneS [rE1, rE2], 1, 1)) = (oneS [rE1, rE2], 0, 0) := by kernel_rfl
  cases h : R.read uEdges with
  | ok l q => rw [h] at key; exact ⟨tEdges, l, q, by decide +kernel, by decide, by rw [hx]; exact h, key⟩
  | bad e q => rw [h] at key; simp at key
def uSqueeze : List Int := [35, 32, 111, 102, 32, 114, 117, 110, 115, 32, 111, 102, 32, 116, 104, 101, 32, 115, 97, 109, 101, 32, 99, 111, 110, 115, 111, 110, 97, 110, 116, 32, 111, 110, 101, 32, 105, 115, 32, 108, 101, 102, 116, 10, 98, 32, 98, 32, 62, 32, 124, 32, 98, 32, 59, 10, 99, 32, 99, 32, 62, 32, 124, 32, 99, 32, 59, 10, 100, 32, 100, 32, 62, 32, 124, 32, 100, 32, 59, 10]
theorem scr_z : Scr nSqueeze (oneS [rZ 98, rZ 99, rZ 100]) := by
  have hx : M.rn tSqueeze = uSqueeze := by
    have h := T.zdk (l := uSqueeze) (by unfold T.rightL; decide)
    have e : T.bytesR uSqueeze = tSqueeze.data.toList := by decide +kernel
    rw [e] at h
    exact h
  have key : (match R.read uSqueeze with | .ok l _ => V.forthF l | .bad _ _ => (oneS [rZ 98, rZ 99, rZ 100], 1, 1)) = (oneS [rZ 98, rZ 99, rZ 100], 0, 0) := by kernel_rfl
  cases h : R.read uSqueeze with
  | ok l q => rw [h] at key; exact ⟨tSqueeze, l, q, by decide +kernel, by decide, by rw [hx]; exact h, key⟩
  | bad e q => rw [h] at key; simp at key
end Go.Proofs.YtdfjokdknanlfaaGreatDoor.Sh
