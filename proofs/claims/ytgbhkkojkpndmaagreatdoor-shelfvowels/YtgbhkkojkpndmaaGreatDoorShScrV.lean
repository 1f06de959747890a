/-
  What is read of the file vowels.
-/
import Derived.Test.YtgbhkkojkpndmaaGreatDoorShOneA
import Derived.Test.YtgbhkkojkpndmaaGreatDoorShByP
import Derived.Test.YtgbhkkojkpndmaaGreatDoorTChar
namespace Go.Proofs.YtgbhkkojkpndmaaGreatDoor.Sh
open Go.RowKit
set_option maxRecDepth 40000
/-- one part of a set more -/
theorem made_is {P : Int → Bool} {s : List S.Sp} {p : Nat} (h : S.Is P s) (hl : s.length ≤ 200) : T.made P p = .ok s p := by
  unfold T.made
  rw [S.zss h, if_neg (by omega)]
def uVowels : List Int := [91, 91, 58, 118, 111, 119, 101, 108, 58, 93, 93, 32, 62, 32, 59, 10]
theorem x_v : M.rn tVowels = uVowels := by
  have h := T.zdh (l := uVowels) (by unfold T.rightL; decide)
  have e : T.bytesR uVowels = tVowels.data.toList := by decide +kernel
  rw [e] at h
  exact h
theorem vPart0 : T.part (T.setN 19 uVowels) uVowels [] 1 = .ok vwS 10 := by
  have e : T.part (T.setN 19 uVowels) uVowels [] 1 = T.made (S.orP [] vwS) 10 := by kernel_rfl
  rw [e]
  exact made_is ⟨(S.zav.1 (by decide)).2, fun r => by rw [Bool.eq_iff_iff]; unfold vwS; simp [S.orP, S.memb, S.inR]; try omega⟩ (by decide)
theorem vSet : T.setN 20 uVowels 0 = .ok vwS 11 := by
  have e0 : T.setN 20 uVowels 0 = T.loop 17 (T.setN 19 uVowels) uVowels [] 1 := by kernel_rfl
  have e1 : T.loop 17 (T.setN 19 uVowels) uVowels [] 1 = (match T.part (T.setN 19 uVowels) uVowels [] 1 with | .bad e q => .bad e q | .ok t q => T.loop 16 (T.setN 19 uVowels) uVowels t (T.skipW T.blank uVowels q)) := by kernel_rfl
  rw [vPart0] at e1
  have e2 : T.loop 16 (T.setN 19 uVowels) uVowels vwS (T.skipW T.blank uVowels 10) = .ok vwS 11 := by kernel_rfl
  rw [e0, e1]
  simp only
  rw [e2]
theorem vItem : R.item uVowels 0 = .ok (some [R.setI vwS]) 11 := by
  have h : T.see uVowels 0 = 91 := by decide +kernel
  unfold R.item
  rw [if_pos h, vSet]
theorem vItems : R.items uVowels 0 = .ok ([R.setI vwS], -1) 12 := by
  have g : R.gap uVowels 0 = 0 := by decide +kernel
  have h : ¬ T.see uVowels 0 = 124 := by decide +kernel
  have e : R.items uVowels 0 = R.itemsN 18 uVowels [] (-1) 0 := by kernel_rfl
  rw [e, R.itemsN, g, if_neg h, vItem]
  show _ = _
  kernel_rfl
def vSide : R.Side := ⟨false, false, [], [R.setI vwS], [], -1⟩
def vPart : R.Part := ⟨2, ⟨#[]⟩, [], 1, vSide, ⟨false, false, [], [], [], -1⟩⟩
theorem vPart_at : R.part uVowels (R.gap uVowels 0) = T.Out.ok vPart 14 := by
  have e1 : R.part uVowels (R.gap uVowels 0) = (match (match R.items uVowels 0 with | .bad e q => T.Out.bad e q | .ok (xs, c) q => R.sideTail uVowels ⟨false, false, [], xs, [], c⟩ q) with | .bad e q => .bad e q | .ok a q => (match R.dirAt uVowels q with | .bad e r => .bad e r | .ok d r => (match R.side uVowels r with | .bad e t => .bad e t | .ok b t => .ok ⟨2, ⟨#[]⟩, [], d, a, b⟩ t))) := by
    have e2 : R.part uVowels (R.gap uVowels 0) = (match R.side uVowels 0 with | .bad e q => .bad e q | .ok a q => (match R.dirAt uVowels q with | .bad e r => .bad e r | .ok d r => (match R.side uVowels r with | .bad e t => .bad e t | .ok b t => .ok ⟨2, ⟨#[]⟩, [], d, a, b⟩ t))) := by kernel_rfl
    have e3 : R.side uVowels 0 = (match R.items uVowels 0 with | .bad e q => .bad e q | .ok (xs, c) q => R.sideTail uVowels ⟨false, false, [], xs, [], c⟩ q) := by
      have h1 : decide (T.see uVowels (R.gap uVowels 0) = 94) = false := by decide +kernel
      have h2 : R.gap uVowels 0 = 0 := by decide +kernel
      have h3 : ¬ T.see uVowels 12 = 123 := by decide +kernel
      unfold R.side
      rw [h2] at h1
      simp only [h2, h1]
      rw [if_neg (by decide), vItems]
      simp only
      rw [if_neg (fun h => h.elim (fun h => by cases h) h3)]
    rw [e2, e3]
  rw [e1, vItems]
  show _ = _
  kernel_rfl
theorem vEnded : R.ended uVowels (R.gap uVowels 0) = .ok vPart 15 := by
  have h1 : ¬ (T.see uVowels (R.gap uVowels 14) ≠ 59) := by decide +kernel
  have h2 : ¬ (R.partE vPart ≠ 0) := by decide +kernel
  have h3 : R.gap uVowels 14 + 1 = 15 := by decide +kernel
  unfold R.ended
  rw [vPart_at]
  simp only
  rw [if_neg h1, if_neg h2, h3]
theorem scr_v : Scr nVowels (oneS (vwL.map r1)) := by
  have e1 : R.read uVowels = (match R.ended uVowels (R.gap uVowels 0) with | .bad e q => .bad e q | .ok x q => R.partsN 201 uVowels ([] ++ [x]) (R.gap uVowels q)) := by kernel_rfl
  rw [vEnded] at e1
  simp only at e1
  have key : (match R.partsN 201 uVowels ([] ++ [vPart]) (R.gap uVowels 15) with | .ok l _ => V.forthF l | .bad _ _ => (oneS (vwL.map r1), 1, 1)) = (oneS (vwL.map r1), 0, 0) := by kernel_rfl
  cases h : R.partsN 201 uVowels ([] ++ [vPart]) (R.gap uVowels 15) with
  | ok l q => rw [h] at key e1; exact ⟨tVowels, l, q, by decide +kernel, by decide, by rw [x_v]; exact e1, key⟩
  | bad e q => rw [h] at key; simp at key
end Go.Proofs.YtgbhkkojkpndmaaGreatDoor.Sh
