/-
  What is read of the files german, rovar, leet.
-/
import Derived.Test.YtgbhkkojkpndmaaGreatDoorShOneA
import Derived.Test.YtgbhkkojkpndmaaGreatDoorShByP
import Derived.Test.YtgbhkkojkpndmaaGreatDoorShLeeP
import Derived.Test.YtgbhkkojkpndmaaGreatDoorTChar
namespace Go.Proofs.YtgbhkkojkpndmaaGreatDoor.Sh
open Go.RowKit
set_option maxRecDepth 40000
def uGerman : List Int := [228, 32, 62, 32, 97, 101, 32, 59, 10, 246, 32, 62, 32, 111, 101, 32, 59, 10, 252, 32, 62, 32, 117, 101, 32, 59, 10, 223, 32, 62, 32, 115, 115, 32, 59, 10, 196, 32, 62, 32, 65, 101, 32, 59, 10, 214, 32, 62, 32, 79, 101, 32, 59, 10, 220, 32, 62, 32, 85, 101, 32, 59, 10]
theorem scr_g : Scr nGerman (oneS (gmL.map r1)) := by
  have hx : M.rn tGerman = uGerman := by
    have h := T.zdh (l := uGerman) (by unfold T.rightL; decide)
    have e : T.bytesR uGerman = tGerman.data.toList := by decide +kernel
    rw [e] at h
    exact h
  have key : (match R.read uGerman with | .ok l _ => V.forthF l | .bad _ _ => (oneS (gmL.map r1), 1, 1)) = (oneS (gmL.map r1), 0, 0) := by kernel_rfl
  cases h : R.read uGerman with
  | ok l q => rw [h] at key; exact ⟨tGerman, l, q, by decide +kernel, by decide, by rw [hx]; exact h, key⟩
  | bad e q => rw [h] at key; simp at key
def uRovar : List Int := [98, 32, 62, 32, 98, 111, 98, 32, 59, 10, 99, 32, 62, 32, 99, 111, 99, 32, 59, 10, 100, 32, 62, 32, 100, 111, 100, 32, 59, 10, 102, 32, 62, 32, 102, 111, 102, 32, 59, 10, 103, 32, 62, 32, 103, 111, 103, 32, 59, 10, 104, 32, 62, 32, 104, 111, 104, 32, 59, 10, 106, 32, 62, 32, 106, 111, 106, 32, 59, 10, 107, 32, 62, 32, 107, 111, 107, 32, 59, 10, 108, 32, 62, 32, 108, 111, 108, 32, 59, 10, 109, 32, 62, 32, 109, 111, 109, 32, 59, 10, 110, 32, 62, 32, 110, 111, 110, 32, 59, 10, 112, 32, 62, 32, 112, 111, 112, 32, 59, 10, 113, 32, 62, 32, 113, 111, 113, 32, 59, 10, 114, 32, 62, 32, 114, 111, 114, 32, 59, 10, 115, 32, 62, 32, 115, 111, 115, 32, 59, 10, 116, 32, 62, 32, 116, 111, 116, 32, 59, 10, 118, 32, 62, 32, 118, 111, 118, 32, 59, 10, 119, 32, 62, 32, 119, 111, 119, 32, 59, 10, 120, 32, 62, 32, 120, 111, 120, 32, 59, 10, 122, 32, 62, 32, 122, 111, 122, 32, 59, 10]
theorem scr_r : Scr nRovar (oneS (rvL.map r1)) := by
  have hx : M.rn tRovar = uRovar := by
    have h := T.zdh (l := uRovar) (by unfold T.rightL; decide)
    have e : T.bytesR uRovar = tRovar.data.toList := by decide +kernel
    rw [e] at h
    exact h
  have key : (match R.read uRovar with | .ok l _ => V.forthF l | .bad _ _ => (oneS (rvL.map r1), 1, 1)) = (oneS (rvL.map r1), 0, 0) := by kernel_rfl
  cases h : R.read uRovar with
  | ok l q => rw [h] at key; exact ⟨tRovar, l, q, by decide +kernel, by decide, by rw [hx]; exact h, key⟩
  | bad e q => rw [h] at key; simp at key
def uLeet : List Int := [58, 58, 32, 108, 111, 119, 101, 114, 32, 59, 10, 97, 32, 62, 32, 52, 32, 59, 10, 101, 32, 62, 32, 51, 32, 59, 10, 105, 32, 62, 32, 49, 32, 59, 10, 111, 32, 62, 32, 48, 32, 59, 10, 115, 32, 62, 32, 53, 32, 59, 10, 116, 32, 62, 32, 55, 32, 59, 10]
theorem scr_l : Scr nLeet (lowerS (ltL.map r1)) := by
  have hx : M.rn tLeet = uLeet := by
    have h := T.zdh (l := uLeet) (by unfold T.rightL; decide)
    have e : T.bytesR uLeet = tLeet.data.toList := by decide +kernel
    rw [e] at h
    exact h
  have key : (match R.read uLeet with | .ok l _ => V.forthF l | .bad _ _ => (lowerS (ltL.map r1), 1, 1)) = (lowerS (ltL.map r1), 0, 0) := by kernel_rfl
  cases h : R.read uLeet with
  | ok l q => rw [h] at key; exact ⟨tLeet, l, q, by decide +kernel, by decide, by rw [hx]; exact h, key⟩
  | bad e q => rw [h] at key; simp at key
end Go.Proofs.YtgbhkkojkpndmaaGreatDoor.Sh
