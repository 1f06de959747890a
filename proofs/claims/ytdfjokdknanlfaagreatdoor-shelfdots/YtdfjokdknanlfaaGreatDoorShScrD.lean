/-
  What is read of the files dots and sigma.
-/
import Derived.Test.YtdfjokdknanlfaaGreatDoorShOneA
import Derived.Test.YtdfjokdknanlfaaGreatDoorShCtx
import Derived.Test.YtdfjokdknanlfaaGreatDoorRName
namespace Go.Proofs.YtdfjokdknanlfaaGreatDoor.Sh
open Go.RowKit
set_option maxRecDepth 40000
/-- one part of a set more -/
theorem made_is {P : Int → Bool} {s : List S.Sp} {p : Nat} (h : S.Is P s) (hl : s.length ≤ 200) : T.made P p = .ok s p := by
  unfold T.made
  rw [S.zsx h, if_neg (by omega)]
def uDots : List Int := [35, 32, 110, 111, 32, 98, 108, 97, 110, 107, 32, 97, 104, 101, 97, 100, 32, 111, 102, 32, 97, 32, 115, 105, 103, 110, 10, 39, 32, 39, 32, 125, 32, 91, 46, 33, 63, 92, 44, 92, 59, 92, 58, 93, 32, 62, 32, 59, 10]
theorem x_d : M.rn tDots = uDots := by
  have h := T.zdk (l := uDots) (by unfold T.rightL; decide)
  have e : T.bytesR uDots = tDots.data.toList := by decide +kernel
  rw [e] at h
  exact h
theorem dp0 : T.part (T.setN 19 uDots) uDots [] 34 = .ok [(46, 46)] 35 := by
  have e : T.part (T.setN 19 uDots) uDots [] 34 = T.made (S.orP [] [(46, 46)]) 35 := by kernel_rfl
  rw [e]
  exact made_is ⟨(S.zan.1 (by decide)).2, fun r => by rw [Bool.eq_iff_iff]; simp [S.orP, S.memb, S.inR]; try omega⟩ (by decide)
theorem dp1 : T.part (T.setN 19 uDots) uDots [(46, 46)] 35 = .ok [(33, 33), (46, 46)] 36 := by
  have e : T.part (T.setN 19 uDots) uDots [(46, 46)] 35 = T.made (S.orP [(46, 46)] [(33, 33)]) 36 := by kernel_rfl
  rw [e]
  exact made_is ⟨(S.zan.1 (by decide)).2, fun r => by rw [Bool.eq_iff_iff]; simp [S.orP, S.memb, S.inR]; try omega⟩ (by decide)
theorem dp2 : T.part (T.setN 19 uDots) uDots [(33, 33), (46, 46)] 36 = .ok [(33, 33), (46, 46), (63, 63)] 37 := by
  have e : T.part (T.setN 19 uDots) uDots [(33, 33), (46, 46)] 36 = T.made (S.orP [(33, 33), (46, 46)] [(63, 63)]) 37 := by kernel_rfl
  rw [e]
  exact made_is ⟨(S.zan.1 (by decide)).2, fun r => by rw [Bool.eq_iff_iff]; simp [S.orP, S.memb, S.inR]; try omega⟩ (by decide)
theorem dp3 : T.part (T.setN 19 uDots) uDots [(33, 33), (46, 46), (63, 63)] 37 = .ok [(33, 33), (44, 44), (46, 46), (63, 63)] 39 := by
  have e : T.part (T.setN 19 uDots) uDots [(33, 33), (46, 46), (63, 63)] 37 = T.made (S.orP [(33, 33), (46, 46), (63, 63)] [(44, 44)]) 39 := by kernel_rfl
  rw [e]
  exact made_is ⟨(S.zan.1 (by decide)).2, fun r => by rw [Bool.eq_iff_iff]; simp [S.orP, S.memb, S.inR]; try omega⟩ (by decide)
theorem dp4 : T.part (T.setN 19 uDots) uDots [(33, 33), (44, 44), (46, 46), (63, 63)] 39 = .ok [(33, 33), (44, 44), (46, 46), (59, 59), (63, 63)] 41 := by
  have e : T.part (T.setN 19 uDots) uDots [(33, 33), (44, 44), (46, 46), (63, 63)] 39 = T.made (S.orP [(33, 33), (44, 44), (46, 46), (63, 63)] [(59, 59)]) 41 := by kernel_rfl
  rw [e]
  exact made_is ⟨(S.zan.1 (by decide)).2, fun r => by rw [Bool.eq_iff_iff]; simp [S.orP, S.memb, S.inR]; try omega⟩ (by decide)
theorem dp5 : T.part (T.setN 19 uDots) uDots [(33, 33), (44, 44), (46, 46), (59, 59), (63, 63)] 41 = .ok [(33, 33), (44, 44), (46, 46), (58, 59), (63, 63)] 43 := by
  have e : T.part (T.setN 19 uDots) uDots [(33, 33), (44, 44), (46, 46), (59, 59), (63, 63)] 41 = T.made (S.orP [(33, 33), (44, 44), (46, 46), (59, 59), (63, 63)] [(58, 58)]) 43 := by kernel_rfl
  rw [e]
  exact made_is ⟨(S.zan.1 (by decide)).2, fun r => by rw [Bool.eq_iff_iff]; simp [S.orP, S.memb, S.inR]; try omega⟩ (by decide)
theorem dSet : T.setN 20 uDots 33 = .ok dtN 44 := by
  have e0 : T.setN 20 uDots 33 = T.loop 50 (T.setN 19 uDots) uDots [] 34 := by kernel_rfl
  have e1 : T.loop 50 (T.setN 19 uDots) uDots [] 34 = (match T.part (T.setN 19 uDots) uDots [] 34 with | .bad e q => .bad e q | .ok t q => T.loop 49 (T.setN 19 uDots) uDots t (T.skipW T.blank uDots q)) := by kernel_rfl
  rw [dp0] at e1
  have g1 : T.skipW T.blank uDots 35 = 35 := by decide +kernel
  simp only [g1] at e1
  have e2 : T.loop 49 (T.setN 19 uDots) uDots [(46, 46)] 35 = (match T.part (T.setN 19 uDots) uDots [(46, 46)] 35 with | .bad e q => .bad e q | .ok t q => T.loop 48 (T.setN 19 uDots) uDots t (T.skipW T.blank uDots q)) := by kernel_rfl
  rw [dp1] at e2
  have g2 : T.skipW T.blank uDots 36 = 36 := by decide +kernel
  simp only [g2] at e2
  have e3 : T.loop 48 (T.setN 19 uDots) uDots [(33, 33), (46, 46)] 36 = (match T.part (T.setN 19 uDots) uDots [(33, 33), (46, 46)] 36 with | .bad e q => .bad e q | .ok t q => T.loop 47 (T.setN 19 uDots) uDots t (T.skipW T.blank uDots q)) := by kernel_rfl
  rw [dp2] at e3
  have g3 : T.skipW T.blank uDots 37 = 37 := by decide +kernel
  simp only [g3] at e3
  have e4 : T.loop 47 (T.setN 19 uDots) uDots [(33, 33), (46, 46), (63, 63)] 37 = (match T.part (T.setN 19 uDots) uDots [(33, 33), (46, 46), (63, 63)] 37 with | .bad e q => .bad e q | .ok t q => T.loop 46 (T.setN 19 uDots) uDots t (T.skipW T.blank uDots q)) := by kernel_rfl
  rw [dp3] at e4
  have g4 : T.skipW T.blank uDots 39 = 39 := by decide +kernel
  simp only [g4] at e4
  have e5 : T.loop 46 (T.setN 19 uDots) uDots [(33, 33), (44, 44), (46, 46), (63, 63)] 39 = (match T.part (T.setN 19 uDots) uDots [(33, 33), (44, 44), (46, 46), (63, 63)] 39 with | .bad e q => .bad e q | .ok t q => T.loop 45 (T.setN 19 uDots) uDots t (T.skipW T.blank uDots q)) := by kernel_rfl
  rw [dp4] at e5
  have g5 : T.skipW T.blank uDots 41 = 41 := by decide +kernel
  simp only [g5] at e5
  have e6 : T.loop 45 (T.setN 19 uDots) uDots [(33, 33), (44, 44), (46, 46), (59, 59), (63, 63)] 41 = (match T.part (T.setN 19 uDots) uDots [(33, 33), (44, 44), (46, 46), (59, 59), (63, 63)] 41 with | .bad e q => .bad e q | .ok t q => T.loop 44 (T.setN 19 uDots) uDots t (T.skipW T.blank uDots q)) := by kernel_rfl
  rw [dp5] at e6
  have g6 : T.skipW T.blank uDots 43 = 43 := by decide +kernel
  simp only [g6] at e6
  have e : T.loop 44 (T.setN 19 uDots) uDots dtN 43 = .ok dtN 44 := by kernel_rfl
  rw [e0, e1, e2, e3, e4, e5, e6]
  exact e
theorem dItem : R.item uDots 33 = .ok (some [R.setI dtN]) 44 := by
  have h : T.see uDots 33 = 91 := by decide +kernel
  unfold R.item
  rw [if_pos h, dSet]
theorem dItems : R.items uDots 32 = .ok ([R.setI dtN], -1) 45 := by
  have g : R.gap uDots 32 = 33 := by decide +kernel
  have h : ¬ T.see uDots 33 = 124 := by decide +kernel
  have e : R.items uDots 32 = R.itemsN 51 uDots [] (-1) 32 := by kernel_rfl
  rw [e, R.itemsN, g, if_neg h, dItem]
  show _ = _
  kernel_rfl
def dSide : R.Side := ⟨false, false, [], [R.runeI 32], [R.setI dtN], -1⟩
theorem dTail : R.sideTail uDots ⟨false, false, [], [R.runeI 32], [], -1⟩ 31 = .ok dSide 45 := by
  have h : T.see uDots 31 = 125 := by decide +kernel
  have h2 : ¬ T.see uDots 45 = 36 := by decide +kernel
  unfold R.sideTail
  rw [if_pos h, dItems]
  simp only
  rw [if_neg (by decide), if_neg h2]
  rfl
def dPart : R.Part := ⟨2, ⟨#[]⟩, [], 1, dSide, ⟨false, false, [], [], [], -1⟩⟩
theorem dPart_at : R.part uDots (R.gap uDots 0) = .ok dPart 47 := by
  have e1 : R.part uDots (R.gap uDots 0) = (match R.sideTail uDots ⟨false, false, [], [R.runeI 32], [], -1⟩ 31 with | .bad e q => .bad e q | .ok a q => (match R.dirAt uDots q with | .bad e r => .bad e r | .ok d r => (match R.side uDots r with | .bad e t => .bad e t | .ok b t => .ok ⟨2, ⟨#[]⟩, [], d, a, b⟩ t))) := by kernel_rfl
  rw [e1, dTail]
  show _ = _
  kernel_rfl
theorem dEnded : R.ended uDots (R.gap uDots 0) = .ok dPart 48 := by
  have h1 : ¬ (T.see uDots (R.gap uDots 47) ≠ 59) := by decide +kernel
  have h2 : ¬ (R.partE dPart ≠ 0) := by decide +kernel
  have h3 : R.gap uDots 47 + 1 = 48 := by decide +kernel
  unfold R.ended
  rw [dPart_at]
  simp only
  rw [if_neg h1, if_neg h2, h3]
theorem scr_d : Scr nDots (oneS [rD]) := by
  have e1 : R.read uDots = (match R.ended uDots (R.gap uDots 0) with | .bad e q => .bad e q | .ok x q => R.partsN 201 uDots ([] ++ [x]) (R.gap uDots q)) := by kernel_rfl
  rw [dEnded] at e1
  simp only at e1
  have key : (match R.partsN 201 uDots ([] ++ [dPart]) (R.gap uDots 48) with | .ok l _ => V.forthF l | .bad _ _ => (oneS [rD], 1, 1)) = (oneS [rD], 0, 0) := by kernel_rfl
  cases h : R.partsN 201 uDots ([] ++ [dPart]) (R.gap uDots 48) with
  | ok l q => rw [h] at key e1; exact ⟨tDots, l, q, by decide +kernel, by decide, by rw [x_d]; exact e1, key⟩
  | bad e q => rw [h] at key; simp at key
def uSigma : List Int := [963, 32, 125, 32, 91, 94, 32, 91, 58, 103, 114, 101, 101, 107, 58, 93, 93, 32, 62, 32, 962, 32, 59, 10, 963, 32, 125, 32, 36, 32, 62, 32, 962, 32, 59, 10]
theorem x_s : M.rn tSigma = uSigma := by
  have h := T.zdk (l := uSigma) (by unfold T.rightL; decide)
  have e : T.bytesR uSigma = tSigma.data.toList := by decide +kernel
  rw [e] at h
  exact h
theorem sPart0 : T.part (T.setN 19 uSigma) uSigma [] 7 = .ok [(880, 1023)] 16 := by
  have e : T.part (T.setN 19 uSigma) uSigma [] 7 = T.made (S.orP [] [(880, 1023)]) 16 := by kernel_rfl
  rw [e]
  exact made_is ⟨(S.zan.1 (by decide)).2, fun r => by rw [Bool.eq_iff_iff]; simp [S.orP, S.memb, S.inR]; try omega⟩ (by decide)
theorem sSet : T.setN 20 uSigma 4 = .ok sgN 17 := by
  have e0 : T.setN 20 uSigma 4 = (match T.loop 37 (T.setN 19 uSigma) uSigma [] 7 with | .bad e q => .bad e q | .ok s q => T.made (S.notP s) q) := by kernel_rfl
  have e1 : T.loop 37 (T.setN 19 uSigma) uSigma [] 7 = (match T.part (T.setN 19 uSigma) uSigma [] 7 with | .bad e q => .bad e q | .ok t q => T.loop 36 (T.setN 19 uSigma) uSigma t (T.skipW T.blank uSigma q)) := by kernel_rfl
  rw [sPart0] at e1
  have e2 : T.loop 36 (T.setN 19 uSigma) uSigma [(880, 1023)] (T.skipW T.blank uSigma 16) = .ok [(880, 1023)] 17 := by kernel_rfl
  rw [e0, e1]
  simp only
  rw [e2]
  exact made_is ⟨(S.zan.1 (by decide)).2, fun r => by rw [Bool.eq_iff_iff]; unfold sgN; simp [S.notP, S.memb, S.inR]; try omega⟩ (by decide)
theorem sItem : R.item uSigma 4 = .ok (some [R.setI sgN]) 17 := by
  have h : T.see uSigma 4 = 91 := by decide +kernel
  unfold R.item
  rw [if_pos h, sSet]
theorem sItems : R.items uSigma 3 = .ok ([R.setI sgN], -1) 18 := by
  have g : R.gap uSigma 3 = 4 := by decide +kernel
  have h : ¬ T.see uSigma 4 = 124 := by decide +kernel
  have e : R.items uSigma 3 = R.itemsN 38 uSigma [] (-1) 3 := by kernel_rfl
  rw [e, R.itemsN, g, if_neg h, sItem]
  show _ = _
  kernel_rfl
def sSide : R.Side := ⟨false, false, [], [R.runeI 963], [R.setI sgN], -1⟩
theorem sTail : R.sideTail uSigma ⟨false, false, [], [R.runeI 963], [], -1⟩ 2 = .ok sSide 18 := by
  have h : T.see uSigma 2 = 125 := by decide +kernel
  have h2 : ¬ T.see uSigma 18 = 36 := by decide +kernel
  unfold R.sideTail
  rw [if_pos h, sItems]
  simp only
  rw [if_neg (by decide), if_neg h2]
  rfl
def sPart : R.Part := ⟨2, ⟨#[]⟩, [], 1, sSide, ⟨false, false, [], [R.runeI 962], [], -1⟩⟩
theorem sPart_at : R.part uSigma (R.gap uSigma 0) = .ok sPart 22 := by
  have e1 : R.part uSigma (R.gap uSigma 0) = (match R.sideTail uSigma ⟨false, false, [], [R.runeI 963], [], -1⟩ 2 with | .bad e q => .bad e q | .ok a q => (match R.dirAt uSigma q with | .bad e r => .bad e r | .ok d r => (match R.side uSigma r with | .bad e t => .bad e t | .ok b t => .ok ⟨2, ⟨#[]⟩, [], d, a, b⟩ t))) := by kernel_rfl
  rw [e1, sTail]
  show _ = _
  kernel_rfl
theorem sEnded : R.ended uSigma (R.gap uSigma 0) = .ok sPart 23 := by
  have h1 : ¬ (T.see uSigma (R.gap uSigma 22) ≠ 59) := by decide +kernel
  have h2 : ¬ (R.partE sPart ≠ 0) := by decide +kernel
  have h3 : R.gap uSigma 22 + 1 = 23 := by decide +kernel
  unfold R.ended
  rw [sPart_at]
  simp only
  rw [if_neg h1, if_neg h2, h3]
theorem scr_s : Scr nSigma (oneS [rS1, rS2]) := by
  have e1 : R.read uSigma = (match R.ended uSigma (R.gap uSigma 0) with | .bad e q => .bad e q | .ok x q => R.partsN 201 uSigma ([] ++ [x]) (R.gap uSigma q)) := by kernel_rfl
  rw [sEnded] at e1
  simp only at e1
  have key : (match R.partsN 201 uSigma ([] ++ [sPart]) (R.gap uSigma 23) with | .ok l _ => V.forthF l | .bad _ _ => (oneS [rS1, rS2], 1, 1)) = (oneS [rS1, rS2], 0, 0) := by kernel_rfl
  cases h : R.partsN 201 uSigma ([] ++ [sPart]) (R.gap uSigma 23) with
  | ok l q => rw [h] at key e1; exact ⟨tSigma, l, q, by decide +kernel, by decide, by rw [x_s]; exact e1, key⟩
  | bad e q => rw [h] at key; simp at key
end Go.Proofs.YtdfjokdknanlfaaGreatDoor.Sh
