/-
  scriptlaw15.AlignTells: it returns true.
-/
import Derived.Test.YtfhgenllefhgkaaAlRef
namespace Go.Proofs.Ytfhgenllefhgkaa
open Go.RowKit Go.Shelf
set_option maxRecDepth 20000
set_option linter.unusedSimpArgs false
set_option linter.unusedVariables false

set_option maxHeartbeats 8000000 in
theorem alignTells_any (w : World) (v : Value) (l : List K.Rule) (R0 : V.Rus w v l) (vt : Value) (t : List Int) (Rt : L.Rd w vt .i32 t) (ht : t.length ≤ 140737488355328) :
    Calls Try.prog 3 #[v, vt] w fun e w' => e = .returned (.bool true) ∧ Below w.heap.size w w' := by
  have H1 := alLinks_any w v l R0 vt t Rt ht
  have H2 : Hid (∀ X, Below w.heap.size w X → Calls Try.prog 5 #[v, vt] X fun e w' => ∃ (v' : Value) (o : List J.Hd × Int × Int), e = .returned (.tuple #[v', .agg #[.int .i64 (Al.ans l t o).2.1, .int .i64 (Al.ans l t o).2.2]]) ∧ Gm.Chk l t o ∧ w'.ownsRow X.heap.size 31 5 v' (Al.ans l t o).1.length (Al.lcells (Al.ans l t o).1) ∧ Below X.heap.size X w') := fun X hX => alRef_any X v l (R0.below hX) vt t (Rt.below hX (Nat.le_refl _)) ht
  have HS : Hid (∀ o : List J.Hd × Int × Int, Gm.Chk l t o → (Al.ans l t o).1.length ≤ 100000) := fun o ho => by
    unfold Al.ans
    split
    · simp
    · rename_i h0
      split
      · simp
      · split
        · show (Al.links l 0 (Al.shots l (8 * t.length + 40) [] t)).length ≤ 100000
          rw [Al.links_len]
          have h1 := Al.shots_len (l := l) (left := 8 * t.length + 40) (A := []) (Z := t)
          have ho1 : o.2.1 = 0 := by simpa using h0
          obtain ⟨hs, o1, o2⟩ := o
          cases ho1
          have := ho.ok.1
          omega
        · simp
  obtain ⟨va, vc, rfl⟩ := R0.len
  obtain ⟨xo, xc, rfl, _⟩ := Rt
  clear R0
  go_enter Try.func3, Try.ntmps3
  go_wp2_with fail
  refine H1.mono ?_
  rintro e w1 ⟨v1, o, rfl, hch, own1, b1⟩
  have hX := HS.out o hch
  have HCh : Hid (Gm.Chk l t o) := hch
  have HO : Hid (∀ o', Gm.Chk l t o' → Al.ans l t o' = Al.ans l t o) := fun o' ho' => by rw [Al.chk_one ho' HCh.out]
  generalize Al.ans l t o = z at *
  obtain ⟨X, f1, f2⟩ := z
  simp only at own1 hX HO
  obtain ⟨p1, pc1, rfl, hc1⟩ := Al.lies own1
  have HOwn1 : Hid (0 < X.length → ∃ g, p1 = some ⟨g, 0, none⟩ ∧ g < w1.heap.size ∧ ∀ j u, (Al.lcells X)[j]? = some u → w1.cell? ⟨g, j, none⟩ = some u) := hc1
  have HB1 : Hid (Below w.heap.size w w1) := b1
  have H2o : Hid (∀ o, Calls Try.prog 5 #[.slice va l.length vc, .slice xo t.length xc] (w1.alloc o) fun e w' => ∃ (v' : Value), e = .returned (.tuple #[v', .agg #[.int .i64 f1, .int .i64 f2]]) ∧ w'.ownsRow (w1.alloc o).heap.size 31 5 v' X.length (Al.lcells X) ∧ Below (w1.alloc o).heap.size (w1.alloc o) w') := fun o1 => by
    refine (H2.out _ (HB1.out.alloc HB1.out.size o1)).mono ?_
    rintro e w2 ⟨v2, o2, h1, h2, h3, h4⟩
    rw [HO.out o2 h2] at h1 h3
    exact ⟨v2, h1, h3, h4⟩
  clear H1 H2 HS hch own1 b1 hc1 HCh HO
  go_wp2_with fail
  go_at_call 5
  refine (H2o.out _).mono ?_
  rintro e w2 ⟨v2, rfl, own2, b2⟩
  obtain ⟨h9, B2, s2⟩ := K.one_box b2
  obtain ⟨p2, pc2, rfl, hc2⟩ := Al.lies own2
  have HOwn2 : Hid (0 < X.length → ∃ g, p2 = some ⟨g, 0, none⟩ ∧ g < w2.heap.size ∧ ∀ j u, (Al.lcells X)[j]? = some u → w2.cell? ⟨g, j, none⟩ = some u) := hc2
  have HB2 : Hid (Below w1.heap.size w1 w2) := B2
  obtain ⟨x0, x1, _, _⟩ := K.box2 h9
  have k0 : ∀ o, (w2.alloc o).cell? ⟨w1.heap.size, 0, none⟩ = some (.int .i64 f1) := fun o => K.alloc_cell x0 o
  have k1 : ∀ o, (w2.alloc o).cell? ⟨w1.heap.size, 1, none⟩ = some (.int .i64 f2) := fun o => K.alloc_cell x1 o
  obtain ⟨W, hW⟩ : ∃ W, W = w2.alloc (.cells #[.int .i64 f1, .int .i64 f2] 27) := ⟨_, rfl⟩
  have HW : Hid (Below w2.heap.size w2 W) := by show Below _ _ _; rw [hW]; exact (Below.refl _ w2).alloc (Nat.le_refl _) _
  clear H2o own2 b2 B2 h9 hc2 x0 x1
  go_wp2
  try rw [← hW]
  go_loopw [9, 34] (fun i9 i34 wr => ∃ (k : Nat), k ≤ X.length ∧ i34 = .int .i64 k ∧ Hid (Below W.heap.size W wr)) (fun _ i34 _ => X.length - (RowKit.intOf i34).toNat)
  case atStart => exact ⟨0, Nat.zero_le _, rfl, Below.refl _ _⟩
  case round =>
    obtain ⟨k, hk, rfl, HI⟩ := hrel
    by_cases hlt : k < X.length
    · obtain ⟨x, hx⟩ : ∃ x, X[k]? = some x := ⟨X[k], by simp [hlt]⟩
      obtain ⟨g1, rfl, hg1, hc1⟩ := HOwn1.out (by omega)
      obtain ⟨g2, rfl, hg2, hc2⟩ := HOwn2.out (by omega)
      have hB1 : Below w1.heap.size w1 wr := (HB2.out.trans (HW.out.mono HB2.out.size)).trans (HI.out.mono (by have := HB2.out.size; have := HW.out.size; omega))
      have hB2 : Below w2.heap.size w2 wr := HW.out.trans (HI.out.mono HW.out.size)
      obtain ⟨a0, a1, a2, a3, a4⟩ := Al.lcells_at hx
      have c0 : wr.cell? ⟨g1, k * 5, none⟩ = _ := (hB1.cell (p := ⟨g1, _, none⟩) hg1).trans (hc1 _ _ a0)
      have c1 : wr.cell? ⟨g1, k * 5 + 1, none⟩ = _ := (hB1.cell (p := ⟨g1, _, none⟩) hg1).trans (hc1 _ _ a1)
      have c2 : wr.cell? ⟨g1, k * 5 + 2, none⟩ = _ := (hB1.cell (p := ⟨g1, _, none⟩) hg1).trans (hc1 _ _ a2)
      have c3 : wr.cell? ⟨g1, k * 5 + 3, none⟩ = _ := (hB1.cell (p := ⟨g1, _, none⟩) hg1).trans (hc1 _ _ a3)
      have c4 : wr.cell? ⟨g1, k * 5 + 4, none⟩ = _ := (hB1.cell (p := ⟨g1, _, none⟩) hg1).trans (hc1 _ _ a4)
      have d0 : wr.cell? ⟨g2, k * 5, none⟩ = _ := (hB2.cell (p := ⟨g2, _, none⟩) hg2).trans (hc2 _ _ a0)
      have d1 : wr.cell? ⟨g2, k * 5 + 1, none⟩ = _ := (hB2.cell (p := ⟨g2, _, none⟩) hg2).trans (hc2 _ _ a1)
      have d2 : wr.cell? ⟨g2, k * 5 + 2, none⟩ = _ := (hB2.cell (p := ⟨g2, _, none⟩) hg2).trans (hc2 _ _ a2)
      have d3 : wr.cell? ⟨g2, k * 5 + 3, none⟩ = _ := (hB2.cell (p := ⟨g2, _, none⟩) hg2).trans (hc2 _ _ a3)
      have d4 : wr.cell? ⟨g2, k * 5 + 4, none⟩ = _ := (hB2.cell (p := ⟨g2, _, none⟩) hg2).trans (hc2 _ _ a4)
      clear hx a0 a1 a2 a3 a4 hc1 hc2 hB1 hB2
      obtain ⟨q1, q2, q3, q4, q5⟩ := x
      simp only at c0 c1 c2 c3 c4 d0 d1 d2 d3 d4
      go_wp2
      go_quiet (fail)
      go_wp2
      go_roundw
      case rel => exact ⟨k + 1, by omega, by go_num, below_drewN HI.out _⟩
      case measure => simp [RowKit.intOf]; omega
    · go_wp2
      go_ret
      refine ⟨rfl, ?_⟩
      have h1 := HB1.out.trans (HB2.out.mono HB1.out.size)
      have h2 := h1.trans (HW.out.mono h1.size)
      exact h2.trans (HI.out.mono h2.size)

end Go.Proofs.Ytfhgenllefhgkaa
