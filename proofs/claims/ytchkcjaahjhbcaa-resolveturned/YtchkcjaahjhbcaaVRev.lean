/-
  slices.Reverse of passes, whose row is one's own.
-/
import Derived.Test.YtchkcjaahjhbcaaVFit
import Derived.Test.YtchkcjaahjhbcaaQBox
import Derived.BigRegion
namespace Go.Proofs.Ytchkcjaahjhbcaa
open Go.RowKit Go.Lib
set_option maxRecDepth 20000
set_option linter.unusedSimpArgs false
set_option linter.unusedVariables false

namespace V
abbrev PC := ByteArray × Option Addr × Nat × Nat
/-- a row of passes' cells in a block -/
def PRow (w : World) (g : Nat) (f : Nat → PC) (n : Nat) : Prop :=
  ∃ cur, w.heap[g]? = some (.cells cur 83) ∧ ∀ t, t < n → cur[t * 2]? = some (.string (f t).1) ∧ cur[t * 2 + 1]? = some (.slice (f t).2.1 (f t).2.2.1 (f t).2.2.2)
theorem PRow.at {w : World} {g : Nat} {f : Nat → PC} {n : Nat} (h : PRow w g f n) {t : Nat} (ht : t < n) : w.cell? ⟨g, t * 2, none⟩ = some (.string (f t).1) ∧ w.cell? ⟨g, t * 2 + 1, none⟩ = some (.slice (f t).2.1 (f t).2.2.1 (f t).2.2.2) := by
  obtain ⟨cur, hg, hc⟩ := h
  exact ⟨K.at_box hg (hc t ht).1, K.at_box hg (hc t ht).2⟩
theorem PRow.free {w : World} {g : Nat} {f : Nat → PC} {n : Nat} (h : PRow w g f n) (i : Nat) : w.frozen? ⟨g, i, none⟩ = false := by
  obtain ⟨cur, hg, hc⟩ := h
  exact frozen_of_row w g _ _ _ hg
theorem PRow.congr {w : World} {g : Nat} {f f' : Nat → PC} {n : Nat} (h : PRow w g f n) (he : ∀ t, t < n → f' t = f t) : PRow w g f' n := by
  obtain ⟨cur, hg, hc⟩ := h
  exact ⟨cur, hg, fun t ht => by rw [he t ht]; exact hc t ht⟩
theorem PRow.put {w : World} {g : Nat} {f : Nat → PC} {n : Nat} (h : PRow w g f n) {i : Nat} (hi : i < n) (x : PC) : PRow ((w.setCell ⟨g, i * 2, none⟩ (.string x.1)).setCell ⟨g, i * 2 + 1, none⟩ (.slice x.2.1 x.2.2.1 x.2.2.2)) g (fun t => if t = i then x else f t) n := by
  obtain ⟨cur, hg, hc⟩ := h
  have b1 := heap_setCell_same w g (i * 2) _ _ (.string x.1) hg
  have b2 := heap_setCell_same _ g (i * 2 + 1) _ _ (.slice x.2.1 x.2.2.1 x.2.2.2) b1
  have s0 := (Array.getElem?_eq_some_iff.1 (hc i hi).1).1
  have s1 := (Array.getElem?_eq_some_iff.1 (hc i hi).2).1
  refine ⟨_, b2, fun t ht => ?_⟩
  simp only [Array.getElem?_setIfInBounds, Array.size_setIfInBounds]
  by_cases e : t = i
  · subst e
    simp [s0, s1]
  · rw [if_neg e]
    rw [if_neg (by omega), if_neg (by omega), if_neg (by omega), if_neg (by omega)]
    exact hc t ht
theorem PRow.swap {w : World} {g : Nat} {f : Nat → PC} {n : Nat} (h : PRow w g f n) {i j : Nat} (hi : i < n) (hj : j < n) :
    PRow ((((w.setCell ⟨g, i * 2, none⟩ (.string (f j).1)).setCell ⟨g, i * 2 + 1, none⟩ (.slice (f j).2.1 (f j).2.2.1 (f j).2.2.2)).setCell ⟨g, j * 2, none⟩ (.string (f i).1)).setCell ⟨g, j * 2 + 1, none⟩ (.slice (f i).2.1 (f i).2.2.1 (f i).2.2.2)) g (fun t => if t = j then f i else if t = i then f j else f t) n := (h.put hi (f j)).put hj (f i)
theorem PRow.drew {w : World} {g : Nat} {f : Nat → PC} {n : Nat} (h : PRow w g f n) : PRow w.drew g f n := h
/-- all but one block as it was -/
def But (g : Nat) (w w' : World) : Prop := Below g w w' ∧ (∀ b, ¬ b = g → w'.heap[b]? = w.heap[b]?) ∧ w'.heap.size = w.heap.size
theorem But.set {g : Nat} {w w' : World} (h : But g w w') (i : Nat) (v : Value) : But g w (w'.setCell ⟨g, i, none⟩ v) := ⟨h.1.setCell (p := ⟨g, i, none⟩) (Nat.le_refl _) v, fun b hb => (heap_setCell_other w' ⟨g, i, none⟩ b v hb).trans (h.2.1 b hb), by simp [h.2.2]⟩
theorem But.drew {g : Nat} {w w' : World} (h : But g w w') : But g w w'.drew := ⟨h.1.drew, h.2⟩
end V

set_option maxHeartbeats 4000000 in
theorem reverse_some (w : World) (g n cap : Nat) (f : Nat → V.PC) (h : V.PRow w g f n) (hn : 0 < n) (hl : n ≤ 1000) :
    Calls Try.prog 43 #[.slice (some ⟨g, 0, none⟩) n cap] w fun e w' => e = .returned (.tuple #[]) ∧ V.PRow w' g (fun t => f (n - 1 - t)) n ∧ V.But g w w' := by
  have H0 : Hid (V.PRow w g f n) := h
  clear h
  go_enter Try.func43, Try.ntmps43
  go_wp2
  go_loopw [2, 3] (fun a b wr => ∃ i j : Nat, a = .int .i64 i ∧ b = .int .i64 j ∧ i + j + 1 = n ∧ i ≤ j + 1 ∧ Hid (V.PRow wr g (fun t => if t < i ∨ j < t then f (n - 1 - t) else f t) n ∧ V.But g w wr)) (fun a _ _ => n - (RowKit.intOf a).toNat)
  case atStart => exact ⟨0, n - 1, rfl, by congr 1; omega, by omega, by omega, H0.out.congr fun t ht => if_neg (by omega), Below.refl _ _, fun b _ => rfl, rfl⟩
  case round =>
    obtain ⟨i, j, rfl, rfl, hij, hle, HI⟩ := hrel
    by_cases hlt : i < j
    · obtain ⟨F, hF⟩ : ∃ F : Nat → V.PC, F = fun t => if t < i ∨ j < t then f (n - 1 - t) else f t := ⟨_, rfl⟩
      have hrow := HI.out.1
      rw [← hF] at hrow
      obtain ⟨i0, i1⟩ := hrow.at (t := i) (by omega)
      obtain ⟨j0, j1⟩ := hrow.at (t := j) (by omega)
      have fr : ∀ k, wr.frozen? ⟨g, k, none⟩ = false := fun k => hrow.free k
      have HS := hrow.swap (i := i) (j := j) (by omega) (by omega)
      have HN : Hid (∀ t, t < n → (if t < i + 1 ∨ j - 1 < t then f (n - 1 - t) else f t) = (if t = j then F i else if t = i then F j else F t)) := fun t ht => by
        have hv : ∀ x, F x = if x < i ∨ j < x then f (n - 1 - x) else f x := fun x => by rw [hF]
        by_cases e1 : t = j
        · rw [if_pos (by omega), if_pos e1, hv, if_neg (by omega)]
          congr 1; omega
        · by_cases e2 : t = i
          · rw [if_pos (by omega), if_neg e1, if_pos e2, hv, if_neg (by omega)]
            congr 1; omega
          · rw [if_neg e1, if_neg e2, hv]
            by_cases e3 : t < i ∨ j < t
            · rw [if_pos (by omega), if_pos e3]
            · rw [if_neg (by omega), if_neg e3]
      have HB : Hid (V.But g w wr) := HI.out.2
      generalize hfi : F i = fi at i0 i1 HS HN
      generalize hfj : F j = fj at j0 j1 HS HN
      obtain ⟨a1, a2, a3, a4⟩ := fi
      obtain ⟨b1, b2, b3, b4⟩ := fj
      simp only at i0 i1 j0 j1 HS HN
      have HS2 : Hid (V.PRow ((((wr.setCell ⟨g, i * 2, none⟩ (.string b1)).setCell ⟨g, i * 2 + 1, none⟩ (.slice b2 b3 b4)).setCell ⟨g, j * 2, none⟩ (.string a1)).setCell ⟨g, j * 2 + 1, none⟩ (.slice a2 a3 a4)) g (fun t => if t = j then (a1, a2, a3, a4) else if t = i then (b1, b2, b3, b4) else F t) n) := HS
      have hbl := L.block_lt i0
      clear HS hrow hF hfi hfj HI H0
      go_wp2_with fail
      go_region
      go_wp2
      go_roundw
      case rel => exact ⟨i + 1, j - 1, by go_num, by congr 1; omega, by omega, by omega, HS2.out.drew.congr HN.out, ((((HB.out.set _ _).set _ _).set _ _).set _ _).drew⟩
      case measure => simp [RowKit.intOf]; omega
    · clear H0
      go_wp2
      go_end0
      exact ⟨rfl, HI.out.1.congr fun t ht => by
        by_cases e : t < i ∨ j < t
        · rw [if_pos e]
        · rw [if_neg e]; congr 1; omega, HI.out.2⟩

set_option maxHeartbeats 1000000 in
theorem reverse_none (w : World) (ao : Option Addr) (cap : Nat) :
    Calls Try.prog 43 #[.slice ao 0 cap] w fun e w' => e = .returned (.tuple #[]) ∧ w' = w := by
  go_enter Try.func43, Try.ntmps43
  go_wp2
  go_loopw [2, 3] (fun a b wr => a = .int .i64 0 ∧ b = .int .i64 (-1) ∧ wr = w) (fun a _ _ => 0)
  case atStart => exact ⟨rfl, rfl, rfl⟩
  case round =>
    obtain ⟨rfl, rfl, rfl⟩ := hrel
    go_wp2
    go_end0
    exact ⟨rfl, rfl⟩

end Go.Proofs.Ytchkcjaahjhbcaa
