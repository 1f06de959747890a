/-
  The closed fact of the statements of chapter 10 holds.
-/
import Derived.Test.YtnalcmlhfmgfdaaJRead
namespace Go.Proofs.Ytnalcmlhfmgfdaa
open Go.RowKit Go.Shelf
set_option maxRecDepth 20000
set_option linter.unusedSimpArgs false
set_option linter.unusedVariables false

theorem jThree (w : World) (o1 o2 o3 : Obj) : (((w.alloc o1).alloc o2).alloc o3).heap[w.heap.size]? = some o1 ∧ (((w.alloc o1).alloc o2).alloc o3).heap[w.heap.size + 1]? = some o2 ∧ (((w.alloc o1).alloc o2).alloc o3).heap[w.heap.size + 1 + 1]? = some o3 ∧ Below w.heap.size w (((w.alloc o1).alloc o2).alloc o3) := by
  refine ⟨?_, ?_, ?_, (((Below.refl _ w).alloc (Nat.le_refl _) _).alloc (by simp) _).alloc (by simp; omega) _⟩
  · show ((((w.heap.push o1).push o2).push o3))[w.heap.size]? = _
    simp [Array.getElem?_push]; omega
  · show ((((w.heap.push o1).push o2).push o3))[w.heap.size + 1]? = _
    rw [Array.getElem?_push, if_neg (by simp), show w.heap.size + 1 = (w.heap.push o1).size by simp]
    exact Array.getElem?_push_size
  · show ((((w.heap.push o1).push o2).push o3))[w.heap.size + 1 + 1]? = _
    rw [show w.heap.size + 1 + 1 = ((w.heap.push o1).push o2).size by simp]
    exact Array.getElem?_push_size

theorem jRule_is {W : World} {b1 b2 : Nat} (h1 : W.heap[b1]? = some (.cells #[.int .i32 97, .int .i32 98] 70)) (h2 : W.heap[b2]? = some (.cells #[.slice (some ⟨b1, 0, none⟩) 1 1] 63)) :
    K.RuIs W (.agg #[.bool J.aRule.start, .bool J.aRule.fin, .slice none J.aRule.before.length 0, .slice (some ⟨b2, 0, none⟩) J.aRule.source.length 1, .slice none J.aRule.after.length 0, .slice none J.aRule.target.length 0, .int .i64 J.aRule.cursor]) J.aRule := by
  have hs : S.Rd W (.slice (some ⟨b1, 0, none⟩) 1 1) [(97, 98)] := ⟨_, 1, rfl, fun h => by simp at h, fun _ => ⟨b1, 0, rfl, fun j x hj => by
    match j, hj with
    | 0, hj => simp at hj; subst hj; exact ⟨K.at_box (i := 0) h1 rfl, K.at_box (i := 1) h1 rfl⟩
    | j + 1, hj => simp at hj⟩⟩
  have hn : K.Ss W (.slice none 0 0) [] := ⟨none, 0, [], rfl, fun _ => rfl, by simp, ⟨rfl, fun j u s hu => by simp at hu⟩, fun h => absurd rfl h⟩
  refine ⟨none, 0, some ⟨b2, 0, none⟩, 1, none, 0, none, 0, rfl, hn, ⟨_, 1, [.slice (some ⟨b1, 0, none⟩) 1 1], rfl, fun h => by simp at h, by simp [J.aRule], ⟨rfl, fun j u s hu hj => ?_⟩, fun _ => ⟨b2, 0, rfl, fun j u hj => ?_⟩⟩, hn, ⟨none, 0, rfl, fun _ => rfl, fun h => absurd rfl h⟩, by simp [J.aRule], by unfold K.I64 J.aRule; decide⟩
  · match j, hu, hj with
    | 0, hu, hj =>
      simp [J.aRule] at hu hj
      subst hu; subst hj
      exact ⟨⟨_, _, rfl⟩, hs, fun x hx => by simp at hx; subst hx; decide⟩
    | j + 1, hu, hj => simp at hu
  · match j, hj with
    | 0, hj => simp at hj; subst hj; exact K.at_box (i := 0) h2 rfl
    | j + 1, hj => simp at hj

theorem jRow1 {W : World} {b b1 b2 : Nat} (h1 : W.heap[b1]? = some (.cells #[.int .i32 97, .int .i32 98] 70)) (h2 : W.heap[b2]? = some (.cells #[.slice (some ⟨b1, 0, none⟩) 1 1] 63)) (h : W.heap[b]? = some (.cells #[.bool false, .bool false, .slice none 0 0, .slice (some ⟨b2, 0, none⟩) 1 1, .slice none 0 0, .slice none 0 0, .int .i64 0] 60)) : V.Rus W (.slice (some ⟨b, 0, none⟩) 1 1) [J.aRule] :=
  ⟨_, 1, rfl, by simp, fun _ => ⟨b, 0, rfl, fun j r hj => by
    match j, hj with
    | 0, hj => simp at hj; subst hj; exact ⟨none, 0, some ⟨b2, 0, none⟩, 1, none, 0, none, 0, K.at_box (i := 0) h rfl, K.at_box (i := 1) h rfl, K.at_box (i := 2) h rfl, K.at_box (i := 3) h rfl, K.at_box (i := 4) h rfl, K.at_box (i := 5) h rfl, K.at_box (i := 6) h rfl, jRule_is h1 h2⟩
    | j + 1, hj => simp at hj⟩⟩

set_option maxHeartbeats 4000000 in
theorem jAlive_any (w : World) : Calls Try.prog 14 #[] w fun e w' => e = .returned (.bool true) ∧ Below w.heap.size w w' := by
  obtain ⟨X, hX⟩ : ∃ X, X = ((w.alloc (.cells #[.int .i32 97, .int .i32 98] 70)).alloc (.cells #[.slice (some ⟨w.heap.size, 0, none⟩) 1 1] 63)).alloc (.cells #[.bool false, .bool false, .slice none 0 0, .slice (some ⟨w.heap.size + 1, 0, none⟩) 1 1, .slice none 0 0, .slice none 0 0, .int .i64 0] 60) := ⟨_, rfl⟩
  have hx := jThree w (.cells #[.int .i32 97, .int .i32 98] 70) (.cells #[.slice (some ⟨w.heap.size, 0, none⟩) 1 1] 63) (.cells #[.bool false, .bool false, .slice none 0 0, .slice (some ⟨w.heap.size + 1, 0, none⟩) 1 1, .slice none 0 0, .slice none 0 0, .int .i64 0] 60)
  rw [← hX] at hx
  have HC := jCompile_any X (.slice (some ⟨w.heap.size + 1 + 1, 0, none⟩) 1 1) [J.aRule] (jRow1 hx.1 hx.2.1 hx.2.2.1)
  have HCC : Hid (Calls Try.prog 12 #[.slice (some ⟨w.heap.size + 1 + 1, 0, none⟩) 1 1] X fun e w' => ∃ v' : Value, e = .returned (.tuple #[v', .agg #[.int .i64 0, .int .i64 0]]) ∧ J.Rd w' v' [(0, 96, []), (97, 98, [0]), (99, 1114111, [])] ∧ Below w.heap.size w w') := by
    refine HC.mono ?_
    rintro e w' ⟨v', o, ho, he, hO, hB⟩
    have := J.aRule_comp ho
    subst this
    exact ⟨v', he, hO.rd, hx.2.2.2.trans (hB.mono hx.2.2.2.size)⟩
  clear HC hx
  go_enter Try.func14, Try.ntmps14
  go_wp2_with fail
  rw [← hX]
  refine HCC.out.mono ?_
  rintro e w2 ⟨v2, rfl, r2, z2⟩
  have HB2 : Hid (Below w.heap.size w w2) := z2
  obtain ⟨ao, cap, rfl, _⟩ := id r2
  obtain ⟨Y, off, ro, rc, rfl, c0, c1, c2, _⟩ := r2.at (k := 1) (p := (97, 98, [0])) rfl
  have d0 : ∀ o, (w2.alloc o).cell? ⟨Y, off + 3, none⟩ = some (.int .i32 97) := fun o => K.alloc_cell c0 o
  have d1 : ∀ o, (w2.alloc o).cell? ⟨Y, off + 3 + 1, none⟩ = some (.int .i32 98) := fun o => K.alloc_cell c1 o
  have d2 : ∀ o, (w2.alloc o).cell? ⟨Y, off + 3 + 2, none⟩ = some (.slice ro 1 rc) := fun o => K.alloc_cell c2 o
  have hbw := z2.size
  clear r2 c0 c1 c2 z2 hX HCC
  go_wp2
  go_ret
  exact ⟨rfl, HB2.out.alloc hbw _⟩

end Go.Proofs.Ytnalcmlhfmgfdaa
