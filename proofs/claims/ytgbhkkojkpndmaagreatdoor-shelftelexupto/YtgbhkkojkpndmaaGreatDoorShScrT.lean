/-
  What is read of the files arrows, dashes, points and telex.
-/
import Derived.Test.YtgbhkkojkpndmaaGreatDoorShOneA
import Derived.Test.YtgbhkkojkpndmaaGreatDoorShScanM
import Derived.Test.YtgbhkkojkpndmaaGreatDoorTChar
namespace Go.Proofs.YtgbhkkojkpndmaaGreatDoor.Sh
open Go.RowKit
set_option maxRecDepth 40000
def lArrows : List Sr := [([45, 62], [8594]), ([60, 45], [8592])]
def uArrows : List Int := [39, 45, 62, 39, 32, 62, 32, 8594, 32, 59, 10, 39, 60, 45, 39, 32, 62, 32, 8592, 32, 59, 10]
set_option maxHeartbeats 2000000 in
theorem scr_arrows : Scr nArrows (oneS (lArrows.map rl)) := by
  have hx : M.rn tArrows = uArrows := by
    have h := T.zdh (l := uArrows) (by unfold T.rightL; decide)
    have e : T.bytesR uArrows = tArrows.data.toList := by decide +kernel
    rw [e] at h
    exact h
  have key : (match R.read uArrows with | .ok l _ => V.forthF l | .bad _ _ => (oneS (lArrows.map rl), 1, 1)) = (oneS (lArrows.map rl), 0, 0) := by kernel_rfl
  cases h : R.read uArrows with
  | ok l q => rw [h] at key; exact ⟨tArrows, l, q, by decide +kernel, by decide, by rw [hx]; exact h, key⟩
  | bad e q => rw [h] at key; simp at key
def lDashes : List Sr := [([45, 45, 45], [8212]), ([45, 45], [8211])]
def uDashes : List Int := [39, 45, 45, 45, 39, 32, 62, 32, 8212, 32, 59, 10, 39, 45, 45, 39, 32, 62, 32, 8211, 32, 59, 10]
set_option maxHeartbeats 2000000 in
theorem scr_dashes : Scr nDashes (oneS (lDashes.map rl)) := by
  have hx : M.rn tDashes = uDashes := by
    have h := T.zdh (l := uDashes) (by unfold T.rightL; decide)
    have e : T.bytesR uDashes = tDashes.data.toList := by decide +kernel
    rw [e] at h
    exact h
  have key : (match R.read uDashes with | .ok l _ => V.forthF l | .bad _ _ => (oneS (lDashes.map rl), 1, 1)) = (oneS (lDashes.map rl), 0, 0) := by kernel_rfl
  cases h : R.read uDashes with
  | ok l q => rw [h] at key; exact ⟨tDashes, l, q, by decide +kernel, by decide, by rw [hx]; exact h, key⟩
  | bad e q => rw [h] at key; simp at key
def lPoints : List Sr := [([46, 46, 46], [8230])]
def uPoints : List Int := [39, 46, 46, 46, 39, 32, 62, 32, 8230, 32, 59, 10]
set_option maxHeartbeats 2000000 in
theorem scr_points : Scr nPoints (oneS (lPoints.map rl)) := by
  have hx : M.rn tPoints = uPoints := by
    have h := T.zdh (l := uPoints) (by unfold T.rightL; decide)
    have e : T.bytesR uPoints = tPoints.data.toList := by decide +kernel
    rw [e] at h
    exact h
  have key : (match R.read uPoints with | .ok l _ => V.forthF l | .bad _ _ => (oneS (lPoints.map rl), 1, 1)) = (oneS (lPoints.map rl), 0, 0) := by kernel_rfl
  cases h : R.read uPoints with
  | ok l q => rw [h] at key; exact ⟨tPoints, l, q, by decide +kernel, by decide, by rw [hx]; exact h, key⟩
  | bad e q => rw [h] at key; simp at key
def lTelex : List Sr := [([97, 119], [259]), ([97, 97], [226]), ([101, 101], [234]), ([111, 111], [244]), ([111, 119], [417]), ([117, 119], [432]), ([100, 100], [273])]
def uTelex : List Int := [97, 119, 32, 62, 32, 259, 32, 59, 10, 97, 97, 32, 62, 32, 226, 32, 59, 10, 101, 101, 32, 62, 32, 234, 32, 59, 10, 111, 111, 32, 62, 32, 244, 32, 59, 10, 111, 119, 32, 62, 32, 417, 32, 59, 10, 117, 119, 32, 62, 32, 432, 32, 59, 10, 100, 100, 32, 62, 32, 273, 32, 59, 10]
set_option maxHeartbeats 2000000 in
theorem scr_telex : Scr nTelex (oneS (lTelex.map rl)) := by
  have hx : M.rn tTelex = uTelex := by
    have h := T.zdh (l := uTelex) (by unfold T.rightL; decide)
    have e : T.bytesR uTelex = tTelex.data.toList := by decide +kernel
    rw [e] at h
    exact h
  have key : (match R.read uTelex with | .ok l _ => V.forthF l | .bad _ _ => (oneS (lTelex.map rl), 1, 1)) = (oneS (lTelex.map rl), 0, 0) := by kernel_rfl
  cases h : R.read uTelex with
  | ok l q => rw [h] at key; exact ⟨tTelex, l, q, by decide +kernel, by decide, by rw [hx]; exact h, key⟩
  | bad e q => rw [h] at key; simp at key
end Go.Proofs.YtgbhkkojkpndmaaGreatDoor.Sh
