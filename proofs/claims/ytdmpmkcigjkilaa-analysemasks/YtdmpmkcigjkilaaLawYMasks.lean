/-
  scriptlaw9.AnalyseMasks: it returns true.
-/
import Derived.Test.YtdmpmkcigjkilaaYAlive
import Derived.Test.YtdmpmkcigjkilaaYMasksF
import Derived.Test.YtdmpmkcigjkilaaMMatch
namespace Go.Proofs.Ytdmpmkcigjkilaa
open Go.RowKit Go.Shelf
set_option maxRecDepth 20000
set_option linter.unusedSimpArgs false
set_option linter.unusedVariables false

set_option maxHeartbeats 4000000 in
theorem analyseMasks_any (w : World) (vl : Value) (l : List K.Rule) (R0 : V.Rus w vl l) (i j : Int) (hi : K.I64 i) (hj : K.I64 j) (vt : Value) (t : List Int) (Rt : L.Rd w vt .i32 t) (ht : t.length ≤ 140737488355328) (k : Int) (hk : K.I64 k) :
    Calls Try.prog 7 #[vl, .int .i64 i, .int .i64 j, vt, .int .i64 k] w fun e w' => e = .returned (.bool true) ∧ Below w.heap.size w w' := by
  have HM : Hid (∀ X, Below w.heap.size w X → Calls Try.prog 21 #[vl, .int .i64 i, .int .i64 j] X fun e w' => e = .returned (.tuple #[.bool (K.masksF l i j).1, .agg #[.int .i64 (K.masksF l i j).2.1, .int .i64 (K.masksF l i j).2.2]]) ∧ Below X.heap.size X w') := fun X hX => yMasks_any X _ l (R0.below hX) i j hi hj
  have HT : Hid (∀ X v r, Below w.heap.size w X → K.RuIs X v r → Calls Try.prog 32 #[v, vt, .int .i64 k] X fun e w' => e = .returned (.tuple #[.bool (K.matchesB r t k), .int .i64 (K.matchesE r t k)]) ∧ Below X.heap.size X w') := fun X v r hX hr => mMatches_any X v r hr vt t (Rt.below hX (Nat.le_refl _)) ht k hk
  have HR : Hid (V.Rus w vl l) := R0
  have hl := R0.few
  have hI1 : -9223372036854775808 ≤ i := hi.1
  have hI2 : i ≤ 9223372036854775807 := hi.2
  have hJ1 : -9223372036854775808 ≤ j := hj.1
  have hJ2 : j ≤ 9223372036854775807 := hj.2
  have hK1 : -9223372036854775808 ≤ k := hk.1
  have hK2 : k ≤ 9223372036854775807 := hk.2
  obtain ⟨ao, cap, rfl⟩ := R0.len
  obtain ⟨xo, xc, rfl, _⟩ := Rt
  obtain ⟨⟨o0, o1, o2⟩, HO⟩ : ∃ o, Hid (K.masksF l i j = o) := ⟨_, rfl⟩
  rw [HO.out] at HM
  simp only at HM
  clear R0 hi hj hk
  go_enter Try.func7, Try.ntmps7
  go_wp2_with fail
  refine (yAlive_any w).mono ?_
  rintro e w1 ⟨rfl, b1⟩
  have HB1 : Hid (Below w.heap.size w w1) := b1
  clear b1
  go_wp2_with fail
  refine (HM.out _ HB1.out).mono ?_
  rintro e w2 ⟨rfl, b2⟩
  have HB2 : Hid (Below w.heap.size w w2) := HB1.out.trans (b2.mono HB1.out.size)
  have HBa : Hid (∀ o, Below w.heap.size w (w2.alloc o)) := fun o => HB2.out.alloc HB2.out.size o
  clear b2 HM HB1
  by_cases hq : o1 = 0
  · cases o0 with
    | false =>
      subst hq
      go_wp2
      go_ret
      exact ⟨rfl, HBa.out _⟩
    | true =>
      subst hq
      have h := HO.out
      unfold K.masksF at h
      by_cases hc : (K.rulesF l).1 = 0
      · rw [if_pos hc] at h
        by_cases hkr : i < 0 ∨ j < 0 ∨ (l.length : Int) ≤ i ∨ (l.length : Int) ≤ j
        · rw [if_pos hkr] at h
          cases h
        · rw [if_neg hkr] at h
          simp only [Prod.mk.injEq] at h
          obtain ⟨h1, _, h3⟩ := h
          subst h3
          obtain ⟨i', rfl⟩ : ∃ i' : Nat, i = i' := ⟨i.toNat, by omega⟩
          obtain ⟨j', rfl⟩ : ∃ j' : Nat, j = j' := ⟨j.toNat, by omega⟩
          have hi2 : i' < l.length := by omega
          have hj2 : j' < l.length := by omega
          obtain ⟨a, ha⟩ : ∃ x, l[i']? = some x := ⟨l[i'], by simp [hi2]⟩
          obtain ⟨b, hb⟩ : ∃ x, l[j']? = some x := ⟨l[j'], by simp [hj2]⟩
          rw [Int.toNat_natCast, Int.toNat_natCast, ha, hb] at h1
          have hE := (K.rulesF_zero hc).2.1
          have HMm : Hid (K.matchesE b t k = 0 → K.matchesB b t k = true → K.matchesE a t k = 0 ∧ K.matchesB a t k = true) := fun e1 e2 => by
            obtain ⟨m1, m2, m3, m4⟩ := K.matchesE_zero e1
            have ea := hE a (List.mem_of_getElem? ha)
            have h2 : K.matchesE a t k = 0 := by unfold K.matchesE; rw [if_neg (by simp [ea]), if_neg (by simp [m2]), if_neg (by omega)]
            unfold K.matchesB at e2 ⊢
            rw [if_pos e1] at e2
            exact ⟨h2, by rw [if_pos h2]; exact K.masks_match ea m1 h1 e2⟩
          obtain ⟨X, hX⟩ : ∃ X, X = w2.alloc (.cells #[.int .i64 0, .int .i64 0] 29) := ⟨_, rfl⟩
          have hXB : Below w.heap.size w X := by rw [hX]; exact HBa.out _
          have HXB : Hid (Below w.heap.size w X) := hXB
          obtain ⟨ba, oa, abo, abc, aso, asc, aao, aac, ato, atc, rfl, a0, a1, a2, a3, a4, a5, a6, hA⟩ := K.Rus.rule HR.out ha
          obtain ⟨bb, ob, bbo, bbc, bso, bsc, bao, bac, bto, btc, heq, b0, b1, b2, b3, b4, b5, b6, hBb⟩ := K.Rus.rule HR.out hb
          cases heq
          have hba : ba < w.heap.size := L.block_lt a0
          have HCA : Hid (∀ W, Below w.heap.size w W → ∀ o, W.cell? ⟨ba, o, none⟩ = w.cell? ⟨ba, o, none⟩) := fun W hW o => hW.cell (p := ⟨ba, o, none⟩) hba
          have HCB := HT.out X _ b hXB (hBb.below hXB)
          have HCa : Hid (∀ W, Below w.heap.size w W → Calls Try.prog 32 #[.agg #[.bool a.start, .bool a.fin, .slice abo a.before.length abc, .slice aso a.source.length asc, .slice aao a.after.length aac, .slice ato a.target.length atc, .int .i64 a.cursor], .slice xo t.length xc, .int .i64 k] W fun e w' => e = .returned (.tuple #[.bool (K.matchesB a t k), .int .i64 (K.matchesE a t k)]) ∧ Below W.heap.size W w') := fun W hW => HT.out W _ a hW (hA.below hW)
          have HA0 : Hid (w.cell? ⟨ba, oa + i' * 7, none⟩ = some (.bool a.start) ∧ w.cell? ⟨ba, oa + i' * 7 + 1, none⟩ = some (.bool a.fin) ∧ w.cell? ⟨ba, oa + i' * 7 + 2, none⟩ = some (.slice abo a.before.length abc) ∧ w.cell? ⟨ba, oa + i' * 7 + 3, none⟩ = some (.slice aso a.source.length asc) ∧ w.cell? ⟨ba, oa + i' * 7 + 4, none⟩ = some (.slice aao a.after.length aac) ∧ w.cell? ⟨ba, oa + i' * 7 + 5, none⟩ = some (.slice ato a.target.length atc) ∧ w.cell? ⟨ba, oa + i' * 7 + 6, none⟩ = some (.int .i64 a.cursor)) := ⟨a0, a1, a2, a3, a4, a5, a6⟩
          rw [← HCA.out X hXB, hX] at b0 b1 b2 b3 b4 b5 b6
          generalize K.matchesB b t k = mb at *
          generalize K.matchesE b t k = me at *
          generalize K.matchesB a t k = ma at *
          generalize K.matchesE a t k = mea at *
          clear HT HR hA hBb ha hb h1 hkr HO hc hE hXB a0 a1 a2 a3 a4 a5 a6
          go_wp2_with fail
          rw [← hX]
          refine HCB.mono ?_
          rintro e w3 ⟨rfl, z3⟩
          have HB3 : Hid (Below w.heap.size w w3) := HXB.out.trans (z3.mono HXB.out.size)
          clear z3 hX HCB b0 b1 b2 b3 b4 b5 b6
          by_cases hme : me = 0
          · cases mb with
            | false =>
              subst hme
              go_wp2
              go_ret
              exact ⟨rfl, HB3.out⟩
            | true =>
              obtain ⟨r1, r2⟩ := HMm.out hme rfl
              subst r1 r2 hme
              obtain ⟨a0, a1, a2, a3, a4, a5, a6⟩ := HA0.out
              rw [← HCA.out w3 HB3.out] at a0 a1 a2 a3 a4 a5 a6
              have hC := HCa.out w3 HB3.out
              clear HMm HA0 HCA HCa
              go_wp2_with fail
              refine hC.mono ?_
              rintro e w4 ⟨rfl, z4⟩
              have HB4 : Hid (Below w.heap.size w w4) := HB3.out.trans (z4.mono HB3.out.size)
              clear z4 hC a0 a1 a2 a3 a4 a5 a6
              go_wp2
              go_ret
              exact ⟨rfl, HB4.out⟩
          · go_wp2
            go_ret
            exact ⟨rfl, HB3.out⟩
      · rw [if_neg hc] at h
        have := congrArg (fun x => x.1) h
        cases this
  · go_wp2
    go_ret
    exact ⟨rfl, HBa.out _⟩

end Go.Proofs.Ytdmpmkcigjkilaa
