/-
  Whether a rule masks another: analyse.Masks.
-/
import Derived.Test.YtdmpmkcigjkilaaYMasks
namespace Go.Proofs.Ytdmpmkcigjkilaa
open Go.RowKit Go.Shelf
set_option maxRecDepth 20000
set_option linter.unusedSimpArgs false
set_option linter.unusedVariables false

namespace K
/-- all that Masks answers -/
def masksF (l : List Rule) (i j : Int) : Bool × Int × Int :=
  if (rulesF l).1 = 0 then (if i < 0 ∨ j < 0 ∨ (l.length : Int) ≤ i ∨ (l.length : Int) ≤ j then (false, 3, 0) else (masksB ((l[i.toNat]?).getD noRule) ((l[j.toNat]?).getD noRule), 0, 0)) else (false, rulesF l)
end K

set_option maxHeartbeats 4000000 in
theorem yMasks_any (w : World) (v : Value) (l : List K.Rule) (R0 : V.Rus w v l) (i j : Int) (hi : K.I64 i) (hj : K.I64 j) :
    Calls Try.prog 21 #[v, .int .i64 i, .int .i64 j] w fun e w' => e = .returned (.tuple #[.bool (K.masksF l i j).1, .agg #[.int .i64 (K.masksF l i j).2.1, .int .i64 (K.masksF l i j).2.2]]) ∧ Below w.heap.size w w' := by
  have HA : Hid (∀ o, Below w.heap.size w (w.alloc o)) := fun o => (Below.refl _ w).alloc (Nat.le_refl _) o
  have HC : Hid (∀ o, Calls Try.prog 48 #[v] (w.alloc o) fun e w' => e = .returned (.agg #[.int .i64 (K.rulesF l).1, .int .i64 (K.rulesF l).2]) ∧ Below (w.alloc o).heap.size (w.alloc o) w') := fun o => qWrong_any _ _ l (R0.below (HA.out o))
  have HM : Hid ((K.rulesF l).1 = 0 → ∀ X va vb a b, K.RuIs X va a → K.RuIs X vb b → a ∈ l → b ∈ l → Calls Try.prog 49 #[va, vb] X fun e w' => e = .returned (.bool (K.masksB a b)) ∧ Below X.heap.size X w') := fun h0 X va vb a b ra rb ha hb => masks_any X va vb a b ra rb ((K.rulesF_zero h0).2.1 a ha) ((K.rulesF_zero h0).2.1 b hb)
  have HR : Hid (V.Rus w v l) := R0
  have hl := R0.few
  have hI1 : -9223372036854775808 ≤ i := hi.1
  have hI2 : i ≤ 9223372036854775807 := hi.2
  have hJ1 : -9223372036854775808 ≤ j := hj.1
  have hJ2 : j ≤ 9223372036854775807 := hj.2
  obtain ⟨ao, cap, rfl⟩ := R0.len
  obtain ⟨⟨o0, o1, o2⟩, HO⟩ : ∃ o, Hid (K.masksF l i j = o) := ⟨_, rfl⟩
  rw [HO.out]
  unfold K.masksF at HO
  obtain ⟨⟨e1, e2⟩, he⟩ : ∃ o, K.rulesF l = o := ⟨_, rfl⟩
  rw [he] at HC HM HO
  simp only at HC HM HO ⊢
  clear he R0 hi hj
  go_enter Try.func21, Try.ntmps21
  go_wp2_with fail
  refine (HC.out _).mono ?_
  rintro e w1 ⟨rfl, b1⟩
  obtain ⟨h1, B1, s1⟩ := K.one_box b1
  have HB1 : Hid (Below w.heap.size w w1) := B1
  have HX1 : Hid (w1.heap[w.heap.size]? = some (.cells #[.int .i64 0, .int .i64 0] 29)) := h1
  obtain ⟨x0, x1, f0, f1⟩ := K.box2 h1
  have k0 : ∀ o, (w1.alloc o).cell? ⟨w.heap.size, 0, none⟩ = some (.int .i64 0) := fun o => K.alloc_cell x0 o
  have k1 : ∀ o, (w1.alloc o).cell? ⟨w.heap.size, 1, none⟩ = some (.int .i64 0) := fun o => K.alloc_cell x1 o
  have g0 : ∀ o, (w1.alloc o).frozen? ⟨w.heap.size, 0, none⟩ = false := fun o => K.alloc_free h1 o 0
  have g1 : ∀ o, (w1.alloc o).frozen? ⟨w.heap.size, 1, none⟩ = false := fun o => K.alloc_free h1 o 1
  have HB2 : Hid (∀ o, Below w.heap.size w (w1.alloc o)) := fun o => HB1.out.alloc (by omega) o
  clear b1 B1 HC x0 x1 f0 f1 h1
  by_cases q : e1 = 0
  · subst q
    by_cases q1 : i < 0 ∨ j < 0 ∨ (l.length : Int) ≤ i ∨ (l.length : Int) ≤ j
    · have ho := HO.out
      rw [if_pos rfl, if_pos q1] at ho
      cases ho
      by_cases q2 : min i j < 0
      · go_wp2
        refine bodyPost_ret (v := .tuple #[.bool false, .agg #[.int .i64 3, .int .i64 0]]) (by simp [results, Try.results21, go_sem, *]) rfl ?_
        exact ⟨rfl, ((HB2.out _).setCell (p := ⟨w.heap.size, 0, none⟩) (Nat.le_refl _) _).setCell (p := ⟨w.heap.size, 1, none⟩) (Nat.le_refl _) _⟩
      · have q3 : (l.length : Int) ≤ max i j := by omega
        clear q1
        go_wp2
        refine bodyPost_ret (v := .tuple #[.bool false, .agg #[.int .i64 3, .int .i64 0]]) (by simp [results, Try.results21, go_sem, *]) rfl ?_
        exact ⟨rfl, ((HB2.out _).setCell (p := ⟨w.heap.size, 0, none⟩) (Nat.le_refl _) _).setCell (p := ⟨w.heap.size, 1, none⟩) (Nat.le_refl _) _⟩
    · have ho := HO.out
      rw [if_pos rfl, if_neg q1] at ho
      cases ho
      have q2 : ¬ min i j < 0 := by omega
      have q3 : ¬ (l.length : Int) ≤ max i j := by omega
      obtain ⟨i', rfl⟩ : ∃ i' : Nat, i = i' := ⟨i.toNat, by omega⟩
      obtain ⟨j', rfl⟩ : ∃ j' : Nat, j = j' := ⟨j.toNat, by omega⟩
      have hi2 : i' < l.length := by omega
      have hj2 : j' < l.length := by omega
      obtain ⟨a, ha⟩ : ∃ x, l[i']? = some x := ⟨l[i'], by simp [hi2]⟩
      obtain ⟨b, hb⟩ : ∃ x, l[j']? = some x := ⟨l[j'], by simp [hj2]⟩
      simp only [Int.toNat_natCast, ha, hb, Option.getD_some]
      obtain ⟨X, hX⟩ : ∃ X, X = w1.alloc (.cells #[.int .i64 0, .int .i64 e2] 29) := ⟨_, rfl⟩
      have hBX : Below w.heap.size w X := by rw [hX]; exact HB2.out _
      obtain ⟨ba, oa, abo, abc, aso, asc, aao, aac, ato, atc, rfl, a0, a1, a2, a3, a4, a5, a6, hA⟩ := K.Rus.rule (HR.out.below hBX) ha
      obtain ⟨bb, ob, bbo, bbc, bso, bsc, bao, bac, bto, btc, heq, b0, b1, b2, b3, b4, b5, b6, hBb⟩ := K.Rus.rule (HR.out.below hBX) hb
      cases heq
      have hba : ba < w.heap.size := by
        obtain ⟨c1, c2, _, _, _, _, _, _, _, _, heq, z0, _⟩ := K.Rus.rule HR.out ha
        cases heq
        exact L.block_lt z0
      have HKp : Hid (∀ W, Below w.heap.size X W → W.cell? ⟨ba, oa + i' * 7, none⟩ = some (.bool a.start) ∧ W.cell? ⟨ba, oa + i' * 7 + 1, none⟩ = some (.bool a.fin) ∧ W.cell? ⟨ba, oa + i' * 7 + 2, none⟩ = some (.slice abo a.before.length abc) ∧ W.cell? ⟨ba, oa + i' * 7 + 3, none⟩ = some (.slice aso a.source.length asc) ∧ W.cell? ⟨ba, oa + i' * 7 + 4, none⟩ = some (.slice aao a.after.length aac) ∧ W.cell? ⟨ba, oa + i' * 7 + 5, none⟩ = some (.slice ato a.target.length atc) ∧ W.cell? ⟨ba, oa + i' * 7 + 6, none⟩ = some (.int .i64 a.cursor) ∧ W.cell? ⟨ba, oa + j' * 7, none⟩ = some (.bool b.start) ∧ W.cell? ⟨ba, oa + j' * 7 + 1, none⟩ = some (.bool b.fin) ∧ W.cell? ⟨ba, oa + j' * 7 + 2, none⟩ = some (.slice bbo b.before.length bbc) ∧ W.cell? ⟨ba, oa + j' * 7 + 3, none⟩ = some (.slice bso b.source.length bsc) ∧ W.cell? ⟨ba, oa + j' * 7 + 4, none⟩ = some (.slice bao b.after.length bac) ∧ W.cell? ⟨ba, oa + j' * 7 + 5, none⟩ = some (.slice bto b.target.length btc) ∧ W.cell? ⟨ba, oa + j' * 7 + 6, none⟩ = some (.int .i64 b.cursor)) := fun W hW => by
        have e : ∀ o, W.cell? ⟨ba, o, none⟩ = X.cell? ⟨ba, o, none⟩ := fun o => hW.cell (p := ⟨ba, o, none⟩) hba
        simp only [e]
        exact ⟨a0, a1, a2, a3, a4, a5, a6, b0, b1, b2, b3, b4, b5, b6⟩
      have HBX : Hid (Below w.heap.size w X) := hBX
      have HMs : Hid (∀ W, Below X.heap.size X W → Calls Try.prog 49 #[.agg #[.bool a.start, .bool a.fin, .slice abo a.before.length abc, .slice aso a.source.length asc, .slice aao a.after.length aac, .slice ato a.target.length atc, .int .i64 a.cursor], .agg #[.bool b.start, .bool b.fin, .slice bbo b.before.length bbc, .slice bso b.source.length bsc, .slice bao b.after.length bac, .slice bto b.target.length btc, .int .i64 b.cursor]] W fun e w' => e = .returned (.bool (K.masksB a b)) ∧ Below W.heap.size W w') := fun W hW => HM.out rfl W _ _ a b (hA.below hW) (hBb.below hW) (List.mem_of_getElem? ha) (List.mem_of_getElem? hb)
      have hXs : w.heap.size ≤ X.heap.size := hBX.size
      have HQ0 : Hid (Below X.heap.size X X.drew) := (Below.refl _ X).drew
      have HXb : Hid (X.heap[w.heap.size]? = some (.cells #[.int .i64 0, .int .i64 0] 29)) := by
        show X.heap[w.heap.size]? = _
        rw [hX, Below.heap_alloc w1 _ w.heap.size (by omega)]; exact HX1.out
      have HmE : Hid (K.masksB (l[(i' : Int).toNat]?.getD K.noRule) (l[(j' : Int).toNat]?.getD K.noRule) = K.masksB a b) := by
        show _ = _
        rw [Int.toNat_natCast, Int.toNat_natCast, ha, hb]; rfl
      clear ha hb hA hBb q1 HM k0 k1 g0 g1
      generalize K.masksB a b = mm at HMs HmE
      have HKs : Hid (∀ W u v, Below w.heap.size X W → ((W.setCell ⟨w.heap.size, 0, none⟩ u).setCell ⟨w.heap.size, 1, none⟩ v).cell? ⟨ba, oa + i' * 7, none⟩ = some (.bool a.start) ∧ ((W.setCell ⟨w.heap.size, 0, none⟩ u).setCell ⟨w.heap.size, 1, none⟩ v).cell? ⟨ba, oa + i' * 7 + 1, none⟩ = some (.bool a.fin) ∧ ((W.setCell ⟨w.heap.size, 0, none⟩ u).setCell ⟨w.heap.size, 1, none⟩ v).cell? ⟨ba, oa + i' * 7 + 2, none⟩ = some (.slice abo a.before.length abc) ∧ ((W.setCell ⟨w.heap.size, 0, none⟩ u).setCell ⟨w.heap.size, 1, none⟩ v).cell? ⟨ba, oa + i' * 7 + 3, none⟩ = some (.slice aso a.source.length asc) ∧ ((W.setCell ⟨w.heap.size, 0, none⟩ u).setCell ⟨w.heap.size, 1, none⟩ v).cell? ⟨ba, oa + i' * 7 + 4, none⟩ = some (.slice aao a.after.length aac) ∧ ((W.setCell ⟨w.heap.size, 0, none⟩ u).setCell ⟨w.heap.size, 1, none⟩ v).cell? ⟨ba, oa + i' * 7 + 5, none⟩ = some (.slice ato a.target.length atc) ∧ ((W.setCell ⟨w.heap.size, 0, none⟩ u).setCell ⟨w.heap.size, 1, none⟩ v).cell? ⟨ba, oa + i' * 7 + 6, none⟩ = some (.int .i64 a.cursor) ∧ ((W.setCell ⟨w.heap.size, 0, none⟩ u).setCell ⟨w.heap.size, 1, none⟩ v).cell? ⟨ba, oa + j' * 7, none⟩ = some (.bool b.start) ∧ ((W.setCell ⟨w.heap.size, 0, none⟩ u).setCell ⟨w.heap.size, 1, none⟩ v).cell? ⟨ba, oa + j' * 7 + 1, none⟩ = some (.bool b.fin) ∧ ((W.setCell ⟨w.heap.size, 0, none⟩ u).setCell ⟨w.heap.size, 1, none⟩ v).cell? ⟨ba, oa + j' * 7 + 2, none⟩ = some (.slice bbo b.before.length bbc) ∧ ((W.setCell ⟨w.heap.size, 0, none⟩ u).setCell ⟨w.heap.size, 1, none⟩ v).cell? ⟨ba, oa + j' * 7 + 3, none⟩ = some (.slice bso b.source.length bsc) ∧ ((W.setCell ⟨w.heap.size, 0, none⟩ u).setCell ⟨w.heap.size, 1, none⟩ v).cell? ⟨ba, oa + j' * 7 + 4, none⟩ = some (.slice bao b.after.length bac) ∧ ((W.setCell ⟨w.heap.size, 0, none⟩ u).setCell ⟨w.heap.size, 1, none⟩ v).cell? ⟨ba, oa + j' * 7 + 5, none⟩ = some (.slice bto b.target.length btc) ∧ ((W.setCell ⟨w.heap.size, 0, none⟩ u).setCell ⟨w.heap.size, 1, none⟩ v).cell? ⟨ba, oa + j' * 7 + 6, none⟩ = some (.int .i64 b.cursor)) := fun W u v hW => HKp.out _ ((hW.setCell (p := ⟨w.heap.size, 0, none⟩) (Nat.le_refl _) _).setCell (p := ⟨w.heap.size, 1, none⟩) (Nat.le_refl _) _)
      go_wp2
      rw [← hX]
      clear hX
      go_region_held3 (fun w' => w'.cell? ⟨ba, oa + i' * 7, none⟩ = some (.bool a.start) ∧ w'.cell? ⟨ba, oa + i' * 7 + 1, none⟩ = some (.bool a.fin) ∧ w'.cell? ⟨ba, oa + i' * 7 + 2, none⟩ = some (.slice abo a.before.length abc) ∧ w'.cell? ⟨ba, oa + i' * 7 + 3, none⟩ = some (.slice aso a.source.length asc) ∧ w'.cell? ⟨ba, oa + i' * 7 + 4, none⟩ = some (.slice aao a.after.length aac) ∧ w'.cell? ⟨ba, oa + i' * 7 + 5, none⟩ = some (.slice ato a.target.length atc) ∧ w'.cell? ⟨ba, oa + i' * 7 + 6, none⟩ = some (.int .i64 a.cursor) ∧ w'.cell? ⟨ba, oa + j' * 7, none⟩ = some (.bool b.start) ∧ w'.cell? ⟨ba, oa + j' * 7 + 1, none⟩ = some (.bool b.fin) ∧ w'.cell? ⟨ba, oa + j' * 7 + 2, none⟩ = some (.slice bbo b.before.length bbc) ∧ w'.cell? ⟨ba, oa + j' * 7 + 3, none⟩ = some (.slice bso b.source.length bsc) ∧ w'.cell? ⟨ba, oa + j' * 7 + 4, none⟩ = some (.slice bao b.after.length bac) ∧ w'.cell? ⟨ba, oa + j' * 7 + 5, none⟩ = some (.slice bto b.target.length btc) ∧ w'.cell? ⟨ba, oa + j' * 7 + 6, none⟩ = some (.int .i64 b.cursor))
        (first | with_reducible exact HKp.out _ (HQ0.out.mono hXs) | with_reducible exact k2 | with_reducible exact HKs.out _ _ _ q2 | (go_keep; done))
        (first
          | (go_at_call 49; refine (HMs.out _ HQ0.out).mono ?_; rintro e w2 ⟨rfl, z2⟩; have p2 : Below X.heap.size X w2 := HQ0.out.trans (z2.mono (Nat.le_refl _)); have q2 : Below w.heap.size X w2 := p2.mono hXs; have k2 := HKp.out _ q2; obtain ⟨x0, x1, f0, f1⟩ := K.box2 (K.blk_below HXb.out p2))
          | fail)
      all_goals
        have HB9 : Hid (Below w.heap.size w w2) := HBX.out.trans q2
        clear k2 z2 a0 a1 a2 a3 a4 a5 a6 b0 b1 b2 b3 b4 b5 b6
        go_wp2
        refine bodyPost_ret (v := .tuple #[.bool mm, .agg #[.int .i64 0, .int .i64 0]]) (by simp [results, Try.results21, go_sem, *]) rfl ?_
        exact ⟨by rw [HmE.out], (HB9.out.setCell (p := ⟨w.heap.size, 0, none⟩) (Nat.le_refl _) _).setCell (p := ⟨w.heap.size, 1, none⟩) (Nat.le_refl _) _⟩
  · have ho := HO.out
    rw [if_neg q] at ho
    cases ho
    go_wp2
    go_region
    go_wp2
    refine bodyPost_ret (v := .tuple #[.bool false, .agg #[.int .i64 o1, .int .i64 o2]]) (by simp [results, Try.results21, go_sem, *]) rfl ?_
    exact ⟨rfl, (((HB2.out _).setCell (p := ⟨w.heap.size, 0, none⟩) (Nat.le_refl _) _).setCell (p := ⟨w.heap.size, 1, none⟩) (Nat.le_refl _) _).drew⟩

end Go.Proofs.Ytdmpmkcigjkilaa
