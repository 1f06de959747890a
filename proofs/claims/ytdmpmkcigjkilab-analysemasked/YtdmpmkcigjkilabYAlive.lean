/-
  The closed fact of the statements of chapter 9 holds.
-/
import Derived.Test.YtdmpmkcigjkilabYMasked
namespace Go.Proofs.Ytdmpmkcigjkilab
open Go.RowKit Go.Shelf
set_option maxRecDepth 20000
set_option linter.unusedSimpArgs false
set_option linter.unusedVariables false

def yRule : K.Rule := ⟨false, false, [], [[(97, 97)]], [], [], 0⟩
theorem yRule_masked : K.maskedF [yRule, yRule] = ([1], 0, 0) := by decide +kernel
theorem yRule_reach : K.behind [yRule] = 0 ∧ K.ahead [yRule] = 1 := by decide +kernel

set_option maxHeartbeats 400000 in
theorem yOne_any (w : World) (r : Int) : Calls Try.prog 19 #[.int .i32 r] w fun e w' => e = .returned (.slice (some ⟨w.heap.size, 0, none⟩) 1 1) ∧ w' = w.alloc (.cells #[.int .i32 r, .int .i32 r] 75) := by
  go_enter Try.func19, Try.ntmps19
  go_wp2
  go_ret
  exact ⟨rfl, rfl⟩

/-- the rule, wherever its two slices lie -/
theorem yRule_is {W : World} {b1 b2 : Nat} (h1 : W.heap[b1]? = some (.cells #[.int .i32 97, .int .i32 97] 75)) (h2 : W.heap[b2]? = some (.cells #[.slice (some ⟨b1, 0, none⟩) 1 1] 43)) :
    K.RuIs W (.agg #[.bool yRule.start, .bool yRule.fin, .slice none yRule.before.length 0, .slice (some ⟨b2, 0, none⟩) yRule.source.length 1, .slice none yRule.after.length 0, .slice none yRule.target.length 0, .int .i64 yRule.cursor]) yRule := by
  have hs : S.Rd W (.slice (some ⟨b1, 0, none⟩) 1 1) [(97, 97)] := ⟨_, 1, rfl, fun h => by simp at h, fun _ => ⟨b1, 0, rfl, fun j x hj => by
    match j, hj with
    | 0, hj => simp at hj; subst hj; exact ⟨K.at_box (i := 0) h1 rfl, K.at_box (i := 1) h1 rfl⟩
    | j + 1, hj => simp at hj⟩⟩
  have hnil : ∀ c, K.Ss W (.slice none 0 c) [] → K.Ss W (.slice none 0 c) [] := fun _ h => h
  have hn : K.Ss W (.slice none 0 0) [] := ⟨none, 0, [], rfl, fun _ => rfl, by simp, ⟨rfl, fun j u s hu => by simp at hu⟩, fun h => absurd rfl h⟩
  refine ⟨none, 0, some ⟨b2, 0, none⟩, 1, none, 0, none, 0, rfl, hn, ⟨_, 1, [.slice (some ⟨b1, 0, none⟩) 1 1], rfl, fun h => by simp at h, by simp [yRule], ⟨rfl, fun j u s hu hj => ?_⟩, fun _ => ⟨b2, 0, rfl, fun j u hj => ?_⟩⟩, hn, ⟨none, 0, rfl, fun _ => rfl, fun h => absurd rfl h⟩, by simp [yRule], by simp [yRule, K.I64]⟩
  · match j, hu, hj with
    | 0, hu, hj =>
      simp [yRule] at hu hj
      subst hu; subst hj
      exact ⟨⟨_, _, rfl⟩, hs, fun x hx => by simp at hx; subst hx; decide⟩
    | j + 1, hu, hj => simp at hu
  · match j, hj with
    | 0, hj => simp at hj; subst hj; exact K.at_box (i := 0) h2 rfl
    | j + 1, hj => simp at hj

theorem yRow1 {W : World} {b b1 b2 : Nat} (h1 : W.heap[b1]? = some (.cells #[.int .i32 97, .int .i32 97] 75)) (h2 : W.heap[b2]? = some (.cells #[.slice (some ⟨b1, 0, none⟩) 1 1] 43)) (h : W.heap[b]? = some (.cells #[.bool false, .bool false, .slice none 0 0, .slice (some ⟨b2, 0, none⟩) 1 1, .slice none 0 0, .slice none 0 0, .int .i64 0] 53)) : V.Rus W (.slice (some ⟨b, 0, none⟩) 1 1) [yRule] :=
  ⟨_, 1, rfl, by simp, fun _ => ⟨b, 0, rfl, fun j r hj => by
    match j, hj with
    | 0, hj => simp at hj; subst hj; exact ⟨none, 0, some ⟨b2, 0, none⟩, 1, none, 0, none, 0, K.at_box (i := 0) h rfl, K.at_box (i := 1) h rfl, K.at_box (i := 2) h rfl, K.at_box (i := 3) h rfl, K.at_box (i := 4) h rfl, K.at_box (i := 5) h rfl, K.at_box (i := 6) h rfl, yRule_is h1 h2⟩
    | j + 1, hj => simp at hj⟩⟩
theorem yRow2 {W : World} {b b1 b2 : Nat} (h1 : W.heap[b1]? = some (.cells #[.int .i32 97, .int .i32 97] 75)) (h2 : W.heap[b2]? = some (.cells #[.slice (some ⟨b1, 0, none⟩) 1 1] 43)) (h : W.heap[b]? = some (.cells #[.bool false, .bool false, .slice none 0 0, .slice (some ⟨b2, 0, none⟩) 1 1, .slice none 0 0, .slice none 0 0, .int .i64 0, .bool false, .bool false, .slice none 0 0, .slice (some ⟨b2, 0, none⟩) 1 1, .slice none 0 0, .slice none 0 0, .int .i64 0] 53)) : V.Rus W (.slice (some ⟨b, 0, none⟩) 2 2) [yRule, yRule] :=
  ⟨_, 2, rfl, by simp, fun _ => ⟨b, 0, rfl, fun j r hj => by
    match j, hj with
    | 0, hj => simp at hj; subst hj; exact ⟨none, 0, some ⟨b2, 0, none⟩, 1, none, 0, none, 0, K.at_box (i := 0) h rfl, K.at_box (i := 1) h rfl, K.at_box (i := 2) h rfl, K.at_box (i := 3) h rfl, K.at_box (i := 4) h rfl, K.at_box (i := 5) h rfl, K.at_box (i := 6) h rfl, yRule_is h1 h2⟩
    | 1, hj => simp at hj; subst hj; exact ⟨none, 0, some ⟨b2, 0, none⟩, 1, none, 0, none, 0, K.at_box (i := 7) h rfl, K.at_box (i := 8) h rfl, K.at_box (i := 9) h rfl, K.at_box (i := 10) h rfl, K.at_box (i := 11) h rfl, K.at_box (i := 12) h rfl, K.at_box (i := 13) h rfl, yRule_is h1 h2⟩
    | j + 2, hj => simp at hj⟩⟩

set_option maxHeartbeats 4000000 in
theorem yAlive_any (w : World) : Calls Try.prog 8 #[] w fun e w' => e = .returned (.bool true) ∧ Below w.heap.size w w' := by
  go_enter Try.func8, Try.ntmps8
  go_wp2_with fail
  refine (yOne_any w 97).mono ?_
  rintro e w1 ⟨rfl, hw1⟩
  have hy1 : w1.heap[w.heap.size]? = some (.cells #[.int .i32 97, .int .i32 97] 75) := by rw [hw1]; exact heap_alloc_new w _
  have HB1 : Hid (Below w.heap.size w w1 ∧ w.heap.size < w1.heap.size) := ⟨by rw [hw1]; exact (Below.refl _ w).alloc (Nat.le_refl _) _, by rw [hw1]; simp⟩
  have HY1 : Hid (w1.heap[w.heap.size]? = some (.cells #[.int .i32 97, .int .i32 97] 75)) := hy1
  clear hw1 hy1
  obtain ⟨X, hX⟩ : ∃ X, X = ((w1.alloc (.cells #[.slice (some ⟨w.heap.size, 0, none⟩) 1 1] 43)).alloc (.cells #[.bool false, .bool false, .slice none 0 0, .slice (some ⟨w1.heap.size, 0, none⟩) 1 1, .slice none 0 0, .slice none 0 0, .int .i64 0] 53)).alloc (.cells #[.bool false, .bool false, .slice none 0 0, .slice (some ⟨w1.heap.size, 0, none⟩) 1 1, .slice none 0 0, .slice none 0 0, .int .i64 0, .bool false, .bool false, .slice none 0 0, .slice (some ⟨w1.heap.size, 0, none⟩) 1 1, .slice none 0 0, .slice none 0 0, .int .i64 0] 53) := ⟨_, rfl⟩
  have hx := K.three_new w1 (.cells #[.slice (some ⟨w.heap.size, 0, none⟩) 1 1] 43) (.cells #[.bool false, .bool false, .slice none 0 0, .slice (some ⟨w1.heap.size, 0, none⟩) 1 1, .slice none 0 0, .slice none 0 0, .int .i64 0] 53) (.cells #[.bool false, .bool false, .slice none 0 0, .slice (some ⟨w1.heap.size, 0, none⟩) 1 1, .slice none 0 0, .slice none 0 0, .int .i64 0, .bool false, .bool false, .slice none 0 0, .slice (some ⟨w1.heap.size, 0, none⟩) 1 1, .slice none 0 0, .slice none 0 0, .int .i64 0] 53)
  rw [← hX] at hx
  have hx0 : X.heap[w.heap.size]? = some (.cells #[.int .i32 97, .int .i32 97] 75) := by rw [hx.2.2.2.block w.heap.size HB1.out.2]; exact HY1.out
  have HX : Hid (X.heap[w.heap.size]? = some (.cells #[.int .i32 97, .int .i32 97] 75) ∧ X.heap[w1.heap.size]? = some (.cells #[.slice (some ⟨w.heap.size, 0, none⟩) 1 1] 43) ∧ X.heap[w1.heap.size + 1]? = some (.cells #[.bool false, .bool false, .slice none 0 0, .slice (some ⟨w1.heap.size, 0, none⟩) 1 1, .slice none 0 0, .slice none 0 0, .int .i64 0] 53) ∧ Below w.heap.size w X) := ⟨hx0, hx.1, hx.2.1, HB1.out.1.trans (hx.2.2.2.mono (by have := HB1.out.2; omega))⟩
  have HM := yMasked_any X (.slice (some ⟨w1.heap.size + 1 + 1, 0, none⟩) 2 2) [yRule, yRule] (yRow2 hx0 hx.1 hx.2.2.1) (fun ao n c h => by cases h; exact Nat.le_refl _)
  rw [yRule_masked] at HM
  clear hx hx0
  go_wp2_with fail
  rw [← hX]
  refine HM.mono ?_
  rintro e w2 ⟨v2, rfl, r2, z2⟩
  obtain ⟨ao, c2, rfl, _, hc⟩ := r2
  obtain ⟨g, off, rfl, hcell⟩ := hc (by simp)
  have d0 := hcell 0 1 rfl
  rw [Nat.add_zero] at d0
  have y1 := K.blk_below HX.out.1 z2
  have y2 := K.blk_below HX.out.2.1 z2
  have y3 := K.blk_below HX.out.2.2.1 z2
  have l3 := (Array.getElem?_eq_some_iff.1 y3).1
  have lg := L.block_lt d0
  have c0 : ∀ o, (w2.alloc o).cell? ⟨w1.heap.size + 1, 0, none⟩ = some (.bool false) := fun o => K.alloc_cell (K.at_box (i := 0) y3 rfl) o
  have c1 : ∀ o, (w2.alloc o).cell? ⟨w1.heap.size + 1, 1, none⟩ = some (.bool false) := fun o => K.alloc_cell (K.at_box (i := 1) y3 rfl) o
  have c2' : ∀ o, (w2.alloc o).cell? ⟨w1.heap.size + 1, 2, none⟩ = some (.slice none 0 0) := fun o => K.alloc_cell (K.at_box (i := 2) y3 rfl) o
  have c3 : ∀ o, (w2.alloc o).cell? ⟨w1.heap.size + 1, 3, none⟩ = some (.slice (some ⟨w1.heap.size, 0, none⟩) 1 1) := fun o => K.alloc_cell (K.at_box (i := 3) y3 rfl) o
  have c4 : ∀ o, (w2.alloc o).cell? ⟨w1.heap.size + 1, 4, none⟩ = some (.slice none 0 0) := fun o => K.alloc_cell (K.at_box (i := 4) y3 rfl) o
  have c5 : ∀ o, (w2.alloc o).cell? ⟨w1.heap.size + 1, 5, none⟩ = some (.slice none 0 0) := fun o => K.alloc_cell (K.at_box (i := 5) y3 rfl) o
  have c6 : ∀ o, (w2.alloc o).cell? ⟨w1.heap.size + 1, 6, none⟩ = some (.int .i64 0) := fun o => K.alloc_cell (K.at_box (i := 6) y3 rfl) o
  obtain ⟨Z, hZ⟩ : ∃ Z, Z = (w2.alloc (.cells #[.int .i64 0, .int .i64 0] 28)).alloc (.cells #[.bool false, .bool false, .slice none 0 0, .slice (some ⟨w1.heap.size, 0, none⟩) 1 1, .slice none 0 0, .slice none 0 0, .int .i64 0] 53) := ⟨_, rfl⟩
  have hz := K.two_boxes (w := w2) (Below.refl _ ((w2.alloc (.cells #[.int .i64 0, .int .i64 0] 28)).alloc (.cells #[.bool false, .bool false, .slice none 0 0, .slice (some ⟨w1.heap.size, 0, none⟩) 1 1, .slice none 0 0, .slice none 0 0, .int .i64 0] 53)))
  rw [← hZ] at hz
  have HRe := yReach_any Z (.slice (some ⟨w2.heap.size + 1, 0, none⟩) 1 1) [yRule] (yRow1 (K.blk_below y1 (hz.2.2.1)) (K.blk_below y2 (hz.2.2.1)) hz.2.1)
  rw [yRule_reach.1, yRule_reach.2] at HRe
  have HZ : Hid (Z.heap[w2.heap.size]? = some (.cells #[.int .i64 0, .int .i64 0] 28) ∧ Z.cell? ⟨g, off, none⟩ = some (.int .i64 1) ∧ Below w.heap.size w Z) := ⟨hz.1, by rw [hz.2.2.1.cell (p := ⟨g, off, none⟩) lg]; exact d0, (HX.out.2.2.2.trans (z2.mono HX.out.2.2.2.size)).trans (hz.2.2.1.mono (HX.out.2.2.2.trans (z2.mono HX.out.2.2.2.size)).size)⟩
  clear hz y1 y2 y3 hX HM hc hcell z2 HX HY1 HB1
  go_wp2_with fail
  rw [← hZ]
  refine HRe.mono ?_
  rintro e w3 ⟨rfl, z3⟩
  obtain ⟨f0, f1, _, _⟩ := K.box2 (K.blk_below HZ.out.1 z3)
  have d1 : w3.cell? ⟨g, off, none⟩ = some (.int .i64 1) := by rw [z3.cell (p := ⟨g, off, none⟩) (L.block_lt HZ.out.2.1)]; exact HZ.out.2.1
  have HB3 : Hid (Below w.heap.size w w3) := HZ.out.2.2.trans (z3.mono HZ.out.2.2.size)
  have HS := ySure_any w3 (.slice none 0 0) [] (V.Rus.nil w3)
  rw [show K.sureB [] = true from rfl] at HS
  clear z3 HRe hZ HZ c0 c1 c2' c3 c4 c5 c6 d0
  go_wp2_with fail
  refine HS.mono ?_
  rintro e w4 ⟨rfl, z4⟩
  have HB4 : Hid (Below w.heap.size w w4) := HB3.out.trans (z4.mono HB3.out.size)
  clear z4 HS
  go_wp2
  go_ret
  exact ⟨rfl, HB4.out⟩

end Go.Proofs.Ytdmpmkcigjkilab
