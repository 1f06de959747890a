/-
  What the State's put does, where the State is embedded: its box begins with the State's two cells.
-/
import Derived.Test.YtackaadejnbfmaaQPut
import Derived.Test.YtackaadejnbfmaaQStep
namespace Go.Proofs.Ytackaadejnbfmaa
open Go.RowKit Go.Lib
set_option maxRecDepth 20000
set_option linter.unusedSimpArgs false
set_option linter.unusedVariables false

namespace K
/-- a box whose first two cells are a State's, its text in a row of its own -/
def Stx (ty : TypeId) (rest : List Value) (B bs : Nat) (w : World) (g cap : Nat) (T : List Int) (k : Int) : Prop :=
  B ≤ bs ∧ w.heap[bs]? = some (.cells (.slice (some ⟨g, 0, none⟩) T.length cap :: .int .i64 k :: rest).toArray ty) ∧ B ≤ g ∧ OwnT w g cap T
theorem at_list {w : World} {b i : Nat} {c : List Value} {t : TypeId} {v : Value} (h : w.heap[b]? = some (.cells c.toArray t)) (hv : c[i]? = some v) : w.cell? ⟨b, i, none⟩ = some v := at_box h (by simpa using hv)
theorem set_list {w : World} {b : Nat} {c : List Value} {t : TypeId} (i : Nat) (v : Value) (h : w.heap[b]? = some (.cells c.toArray t)) : (w.setCell ⟨b, i, none⟩ v).heap[b]? = some (.cells (c.set i v).toArray t) := by
  have := heap_setCell_same w b i _ _ v h
  simpa using this
end K

set_option maxHeartbeats 4000000 in
theorem wput_any (ty : TypeId) (rest : List Value) (hty : ty ≠ 21) (w : World) (B bs g cap : Nat) (T : List Int) (k : Nat) (hS : K.Stx ty rest B bs w g cap T k) (h4 : T.length ≤ 4000) (v : Value) (r : K.Rule) (R0 : ∀ w', (∀ b, b < B → w'.heap[b]? = w.heap[b]?) → K.RuIs w' v r) (hE : K.ruleE r = 0) (hvb : ∀ g', B ≤ g' → ∀ bo bc so sc ao ac tgo tc, v = .agg #[.bool r.start, .bool r.fin, .slice bo r.before.length bc, .slice so r.source.length sc, .slice ao r.after.length ac, .slice tgo r.target.length tc, .int .i64 r.cursor] → r.target ≠ [] → (Value.slice tgo r.target.length tc).ownBlock ≠ some g') (hk : k + r.source.length ≤ T.length) (hlen : T.length - r.source.length + r.target.length ≤ 4000) :
    Calls Try.prog 72 #[.pointer (some ⟨bs, 0, none⟩), v] w fun e w' => e = .returned (.int .i64 0) ∧ ∃ g' cap', K.Stx ty rest B bs w' g' cap' (T.take k ++ r.target ++ T.drop (k + r.source.length)) (k + r.cursor) ∧ Below B w w' ∧ (∀ j, j < w.heap.size → j ≠ bs → j ≠ g → w'.heap[j]? = w.heap[j]?) ∧ (g' = g ∨ w.heap.size ≤ g') := by
  obtain ⟨T2, hT2⟩ : ∃ T2, T2 = T.take k ++ r.target ++ T.drop (k + r.source.length) := ⟨_, rfl⟩
  rw [← hT2]
  obtain ⟨_, _, g2, hsrc, hta, _, hc0, hc1⟩ := K.ruleE_zero hE
  obtain ⟨hBs, hbox, hBg, hO⟩ := hS
  have l2 := (K.ruleE_zero hE).2.1.1
  obtain ⟨bo, bc, so, sc, ao, ac, tgo, tc, rfl, _⟩ := R0 w fun _ _ => rfl
  have hcap := hO
  obtain ⟨_, _, _, hTc, hcm, _⟩ := hcap
  have hcur := hc1
  obtain ⟨W0, hW0⟩ : ∃ W0, W0 = w.alloc (.cells #[.bool r.start, .bool r.fin, .slice bo r.before.length bc, .slice so r.source.length sc, .slice ao r.after.length ac, .slice tgo r.target.length tc, .int .i64 r.cursor] 58) := ⟨_, rfl⟩
  have hbl0 : ∀ b, b < w.heap.size → W0.heap[b]? = w.heap[b]? := fun b hb => by rw [hW0]; exact Below.heap_alloc w _ b hb
  have hlt : bs < w.heap.size := (Array.getElem?_eq_some_iff.1 hbox).1
  have hglt : g < w.heap.size := by obtain ⟨_, row, _⟩ := hO; exact row.lt
  have hbox0 : W0.heap[bs]? = some (.cells (.slice (some ⟨g, 0, none⟩) T.length cap :: .int .i64 k :: rest).toArray ty) := by rw [hbl0 bs hlt]; exact hbox
  have hO0 : K.OwnT W0 g cap T := by obtain ⟨cur, row, h⟩ := hO; exact ⟨cur, row.block (hbl0 g hglt), h⟩
  have hrb0 : W0.heap[w.heap.size]? = some (.cells #[.bool r.start, .bool r.fin, .slice bo r.before.length bc, .slice so r.source.length sc, .slice ao r.after.length ac, .slice tgo r.target.length tc, .int .i64 r.cursor] 58) := by rw [hW0]; exact heap_alloc_new w _
  have hB0 : Below B w W0 := by rw [hW0]; exact (Below.refl _ w).alloc (by omega) _
  obtain ⟨x0, x1⟩ : W0.cell? ⟨bs, 0, none⟩ = some (.slice (some ⟨g, 0, none⟩) T.length cap) ∧ W0.cell? ⟨bs, 1, none⟩ = some (.int .i64 k) := ⟨K.at_list (i := 0) hbox0 rfl, K.at_list (i := 1) hbox0 rfl⟩
  have r3 := K.at_box (i := 3) hrb0 rfl
  have r5 := K.at_box (i := 5) hrb0 rfl
  have r6 := K.at_box (i := 6) hrb0 rfl
  have hlong : (T.length : Int) - r.source.length + r.target.length ≤ 4000 := by omega
  unfold maxLen at hcm
  go_enter Try.func72, Try.ntmps72
  go_wp2
  rw [← hW0]
  clear hW0
  go_quiet (fail)
  obtain ⟨W, hW⟩ : ∃ W, W = W0.drewN nq := ⟨_, rfl⟩
  rw [← hW]
  have yb : W.heap[bs]? = some (.cells (.slice (some ⟨g, 0, none⟩) T.length cap :: .int .i64 k :: rest).toArray ty) := by rw [hW]; exact hbox0
  have yr : W.heap[w.heap.size]? = some (.cells #[.bool r.start, .bool r.fin, .slice bo r.before.length bc, .slice so r.source.length sc, .slice ao r.after.length ac, .slice tgo r.target.length tc, .int .i64 r.cursor] 58) := by rw [hW]; exact hrb0
  have yO : K.OwnT W g cap T := by rw [hW]; exact hO0
  have yB : ∀ b, b < w.heap.size → W.heap[b]? = w.heap[b]? := by rw [hW]; exact hbl0
  have yw : Below B w W := by rw [hW]; exact below_drewN hB0 _
  have hgs : g ≠ bs := fun e => by
    obtain ⟨_, row, _⟩ := yO
    rw [e] at row
    have := row.symm.trans yb
    simp at this
    exact hty this.2.symm
  have HC : Hid (Calls Try.prog 89 #[.slice (some ⟨g, 0, none⟩) T.length cap, .int .i64 (k : Int), .int .i64 ((k : Int) + r.source.length), .slice tgo r.target.length tc] W.drew fun e w' => ∃ g' cap', e = .returned (.slice (some ⟨g', 0, none⟩) T2.length cap') ∧ B ≤ g' ∧ K.OwnT w' g' cap' T2 ∧ W.drew.grownBy w' (some g) ∧ (g' = g ∨ W.drew.heap.size ≤ g')) := by
    have h := repl_any2 W.drew B g hBg cap T yO h4 k r.source.length hsrc hk (.slice tgo r.target.length tc) r.target (fun w' hw' => (by
      have hR := R0 w' fun b hb => (hw' b hb).trans (yB b (by omega))
      obtain ⟨_, _, _, _, _, _, _, _, he, _, _, _, h5, _⟩ := hR
      simp at he
      obtain ⟨_, _, _, ⟨e1, e2⟩⟩ := he
      subst e1 e2
      exact h5)) (hvb g hBg _ _ _ _ _ _ _ _ rfl) hta
    rw [Int.natCast_add, ← hT2] at h
    exact h
  have x1 := K.at_list (i := 1) yb rfl
  have x0 := K.at_list (i := 0) yb rfl
  have r3 := K.at_box (i := 3) yr rfl
  have r5 := K.at_box (i := 5) yr rfl
  have HY : Hid (W.heap[bs]? = some (.cells (.slice (some ⟨g, 0, none⟩) T.length cap :: .int .i64 k :: rest).toArray ty) ∧ W.heap[w.heap.size]? = some (.cells #[.bool r.start, .bool r.fin, .slice bo r.before.length bc, .slice so r.source.length sc, .slice ao r.after.length ac, .slice tgo r.target.length tc, .int .i64 r.cursor] 58) ∧ Below B w W) := ⟨yb, yr, yw⟩
  have HYK : Hid ((∀ j, j < w.heap.size → W.heap[j]? = w.heap[j]?) ∧ w.heap.size ≤ W.heap.size) := ⟨yB, yw.size⟩
  have hwr : IntKind.i64.wrap ((k : Int) + r.source.length) = (k : Int) + r.source.length := by rw [IntKind.wrap_i64]; omega
  clear hT2 hW yb yr yO yB yw hbox0 hrb0 hO0 hbl0 R0 hvb hbox hO r6 hE
  go_wp2
  refine wp_region_held_drew (S := fun w' => w'.cell? ⟨bs, 1, none⟩ = some (.int .i64 k) ∧ w'.cell? ⟨w.heap.size, 3, none⟩ = some (.slice so r.source.length sc) ∧ w'.cell? ⟨w.heap.size, 5, none⟩ = some (.slice tgo r.target.length tc)) (by kernel_rfl) ⟨x1, r3, r5⟩ (fun hHeld => ?_)
  refine wpAnyH_take (i := 0) (oi := _) (v := .pointer (some ⟨bs, 0, none⟩)) rfl (by kernel_rfl) (by kernel_rfl) (by kernel_rfl) (fun _ _ _ h => h) (Or.inl ⟨by rfl, ?_⟩) hHeld ?_
  · intro wz hSw
    go_simp
  simp only [Act.put, List.setIfInBounds_toArray, List.set_cons_zero, List.set_cons_succ]
  refine wpAnyH_take (i := 1) (oi := _) (v := .pointer (some ⟨bs, 0, none⟩)) rfl (by kernel_rfl) (by kernel_rfl) (by kernel_rfl) (fun _ _ _ h => h) (Or.inl ⟨by rfl, ?_⟩) hHeld ?_
  · intro wz hSw
    go_simp
  simp only [Act.put, List.setIfInBounds_toArray, List.set_cons_zero, List.set_cons_succ]
  refine wpAnyH_take (i := 2) (oi := _) (v := .pointer (some ⟨bs, 0, none⟩)) rfl (by kernel_rfl) (by kernel_rfl) (by kernel_rfl) (fun _ _ _ h => h) (Or.inl ⟨by rfl, ?_⟩) hHeld ?_
  · intro wz hSw
    go_simp
  simp only [Act.put, List.setIfInBounds_toArray, List.set_cons_zero, List.set_cons_succ]
  refine wpAnyH_take (i := 3) (oi := _) (v := .pointer (some ⟨bs, 0, none⟩)) rfl (by kernel_rfl) (by kernel_rfl) (by kernel_rfl) (fun _ _ _ h => h) (Or.inl ⟨by rfl, ?_⟩) hHeld ?_
  · intro wz hSw
    go_simp
  simp only [Act.put, List.setIfInBounds_toArray, List.set_cons_zero, List.set_cons_succ]
  refine wpAnyH_take (i := 5) (oi := _) (v := .pointer (some ⟨bs, 0, none⟩)) rfl (by kernel_rfl) (by kernel_rfl) (by kernel_rfl) (fun _ _ _ h => h) (Or.inl ⟨by rfl, ?_⟩) hHeld ?_
  · intro wz hSw
    go_simp
  simp only [Act.put, List.setIfInBounds_toArray, List.set_cons_zero, List.set_cons_succ]
  refine wpAnyH_take (i := 6) (oi := _) (v := .pointer (some ⟨bs, 0, none⟩)) rfl (by kernel_rfl) (by kernel_rfl) (by kernel_rfl) (fun _ _ _ h => h) (Or.inl ⟨by rfl, ?_⟩) hHeld ?_
  · intro wz hSw
    go_simp
  simp only [Act.put, List.setIfInBounds_toArray, List.set_cons_zero, List.set_cons_succ]
  refine wpAnyH_take (i := 7) (oi := _) (v := .pointer (some ⟨bs, 1, none⟩)) rfl (by kernel_rfl) (by kernel_rfl) (by kernel_rfl) (fun _ _ _ h => h) (Or.inl ⟨by rfl, ?_⟩) hHeld ?_
  · intro wz hSw
    go_simp
  simp only [Act.put, List.setIfInBounds_toArray, List.set_cons_zero, List.set_cons_succ]
  refine wpAnyH_take (i := 8) (oi := _) (v := .int .i64 k) rfl (by kernel_rfl) (by kernel_rfl) (by kernel_rfl) (fun _ _ _ h => h) (Or.inl ⟨by rfl, ?_⟩) hHeld ?_
  · intro wz hSw
    go_simp
  simp only [Act.put, List.setIfInBounds_toArray, List.set_cons_zero, List.set_cons_succ]
  refine wpAnyH_take (i := 9) (oi := _) (v := .pointer (some ⟨bs, 0, none⟩)) rfl (by kernel_rfl) (by kernel_rfl) (by kernel_rfl) (fun _ _ _ h => h) (Or.inl ⟨by rfl, ?_⟩) hHeld ?_
  · intro wz hSw
    go_simp
  simp only [Act.put, List.setIfInBounds_toArray, List.set_cons_zero, List.set_cons_succ]
  refine wpAnyH_take (i := 10) (oi := _) (v := .pointer (some ⟨bs, 0, none⟩)) rfl (by kernel_rfl) (by kernel_rfl) (by kernel_rfl) (fun _ _ _ h => h) (Or.inl ⟨by rfl, ?_⟩) hHeld ?_
  · intro wz hSw
    go_simp
  simp only [Act.put, List.setIfInBounds_toArray, List.set_cons_zero, List.set_cons_succ]
  refine wpAnyH_take (i := 11) (oi := _) (v := .pointer (some ⟨bs, 1, none⟩)) rfl (by kernel_rfl) (by kernel_rfl) (by kernel_rfl) (fun _ _ _ h => h) (Or.inl ⟨by rfl, ?_⟩) hHeld ?_
  · intro wz hSw
    go_simp
  simp only [Act.put, List.setIfInBounds_toArray, List.set_cons_zero, List.set_cons_succ]
  refine wpAnyH_take (i := 12) (oi := _) (v := .int .i64 k) rfl (by kernel_rfl) (by kernel_rfl) (by kernel_rfl) (fun _ _ _ h => h) (Or.inl ⟨by rfl, ?_⟩) hHeld ?_
  · intro wz hSw
    go_simp
  simp only [Act.put, List.setIfInBounds_toArray, List.set_cons_zero, List.set_cons_succ]
  refine wpAnyH_take (i := 13) (oi := _) (v := .pointer (some ⟨w.heap.size, 3, none⟩)) rfl (by kernel_rfl) (by kernel_rfl) (by kernel_rfl) (fun _ _ _ h => h) (Or.inl ⟨by rfl, ?_⟩) hHeld ?_
  · intro wz hSw
    go_simp
  simp only [Act.put, List.setIfInBounds_toArray, List.set_cons_zero, List.set_cons_succ]
  refine wpAnyH_take (i := 14) (oi := _) (v := .slice so r.source.length sc) rfl (by kernel_rfl) (by kernel_rfl) (by kernel_rfl) (fun _ _ _ h => h) (Or.inl ⟨by rfl, ?_⟩) hHeld ?_
  · intro wz hSw
    go_simp
  simp only [Act.put, List.setIfInBounds_toArray, List.set_cons_zero, List.set_cons_succ]
  refine wpAnyH_take (i := 15) (oi := _) (v := .int .i64 r.source.length) rfl (by kernel_rfl) (by kernel_rfl) (by kernel_rfl) (fun _ _ _ h => h) (Or.inl ⟨by rfl, ?_⟩) hHeld ?_
  · intro wz hSw
    go_simp
  simp only [Act.put, List.setIfInBounds_toArray, List.set_cons_zero, List.set_cons_succ]
  refine wpAnyH_take (i := 16) (oi := _) (v := .int .i64 ((k : Int) + r.source.length)) rfl (by kernel_rfl) (by kernel_rfl) (by kernel_rfl) (fun _ _ _ h => h) (Or.inl ⟨by rfl, ?_⟩) hHeld ?_
  · intro wz hSw
    go_simp
  simp only [Act.put, List.setIfInBounds_toArray, List.set_cons_zero, List.set_cons_succ]
  refine wpAnyH_take (i := 17) (oi := _) (v := .pointer (some ⟨w.heap.size, 5, none⟩)) rfl (by kernel_rfl) (by kernel_rfl) (by kernel_rfl) (fun _ _ _ h => h) (Or.inl ⟨by rfl, ?_⟩) hHeld ?_
  · intro wz hSw
    go_simp
  simp only [Act.put, List.setIfInBounds_toArray, List.set_cons_zero, List.set_cons_succ]
  refine wpAnyH_take (i := 18) (oi := _) (v := .slice tgo r.target.length tc) rfl (by kernel_rfl) (by kernel_rfl) (by kernel_rfl) (fun _ _ _ h => h) (Or.inl ⟨by rfl, ?_⟩) hHeld ?_
  · intro wz hSw
    go_simp
  simp only [Act.put, List.setIfInBounds_toArray, List.set_cons_zero, List.set_cons_succ]
  refine wpAnyH_ready (rs := [4]) (by kernel_rfl) (by simp) ?_
  refine AllReadyH.cons (o := _) rfl (fun KK hK => ?_) AllReadyH.nil
  go_simp
  refine hK.out _ _ hHeld (fun hHeld => ?_)
  clear hK
  try simp only [Act.put, List.setIfInBounds_toArray, List.set_cons_zero, List.set_cons_succ]
  refine wpAnyH_ready (rs := [19]) (by kernel_rfl) (by simp) ?_
  refine AllReadyH.cons (o := _) rfl (fun KK hK => ?_) AllReadyH.nil
  go_simp
  refine HC.out.mono ?_
  rintro e w1 ⟨g', cap', rfl, hB', hO', hg', hgn⟩
  have zb : w1.heap[bs]? = some (.cells (.slice (some ⟨g, 0, none⟩) T.length cap :: .int .i64 k :: rest).toArray ty) := (hg'.block bs (Array.getElem?_eq_some_iff.1 HY.out.1).1 (by simpa using hgs.symm)).trans HY.out.1
  have zr : w1.heap[w.heap.size]? = some (.cells #[.bool r.start, .bool r.fin, .slice bo r.before.length bc, .slice so r.source.length sc, .slice ao r.after.length ac, .slice tgo r.target.length tc, .int .i64 r.cursor] 58) := (hg'.block w.heap.size (Array.getElem?_eq_some_iff.1 HY.out.2.1).1 (by simp; omega)).trans HY.out.2.1
  have hgs' : g' ≠ bs := fun e => by
    obtain ⟨_, row, _⟩ := hO'
    rw [e] at row
    have := row.symm.trans zb
    simp at this
    exact hty this.2.symm
  have zB : Below B w w1 := (HY.out.2.2.drew).grown hg' (by show B ≤ W.heap.size; have := (Array.getElem?_eq_some_iff.1 HY.out.1).1; omega) (fun q hq => by cases hq; exact hBg)
  obtain ⟨W2, hW2⟩ : ∃ W2, W2 = w1.setCell ⟨bs, 0, none⟩ (.slice (some ⟨g', 0, none⟩) T2.length cap') := ⟨_, rfl⟩
  have yb2 : W2.heap[bs]? = some (.cells (.slice (some ⟨g', 0, none⟩) T2.length cap' :: .int .i64 k :: rest).toArray ty) := by rw [hW2]; exact K.set_list 0 _ zb
  have yr2 : W2.heap[w.heap.size]? = some (.cells #[.bool r.start, .bool r.fin, .slice bo r.before.length bc, .slice so r.source.length sc, .slice ao r.after.length ac, .slice tgo r.target.length tc, .int .i64 r.cursor] 58) := by rw [hW2]; exact (heap_setCell_other w1 ⟨bs, 0, none⟩ w.heap.size _ (by simp; omega)).trans zr
  have yO2 : K.OwnT W2 g' cap' T2 := by
    obtain ⟨cur, row, h⟩ := hO'
    exact ⟨cur, by rw [hW2]; exact row.block (heap_setCell_other w1 ⟨bs, 0, none⟩ g' _ (by simpa using hgs')), h⟩
  have yB2 : Below B w W2 := by rw [hW2]; exact zB.setCell (p := ⟨bs, 0, none⟩) hBs _
  have yK2 : ∀ j, j < w.heap.size → j ≠ bs → j ≠ g → W2.heap[j]? = w.heap[j]? := fun j hj h1 h2 => by
    rw [hW2, heap_setCell_other w1 ⟨bs, 0, none⟩ j _ (by simpa using h1), hg'.block j (by show j < W.heap.size; have := HYK.out.2; omega) (by simpa using h2)]
    exact HYK.out.1 j hj
  have HK2 : Hid ((∀ j, j < w.heap.size → j ≠ bs → j ≠ g → W2.heap[j]? = w.heap[j]?) ∧ (g' = g ∨ w.heap.size ≤ g')) := ⟨yK2, by
    rcases hgn with h | h
    · exact .inl h
    · refine .inr ?_
      have h2 : W.heap.size ≤ g' := h
      have := HYK.out.2
      omega⟩
  have q0 := K.at_list (i := 0) zb rfl
  have q1 := K.at_list (i := 1) zb rfl
  have q3 := K.at_box (i := 3) zr rfl
  have q5 := K.at_box (i := 5) zr rfl
  have f0 : w1.frozen? ⟨bs, 0, none⟩ = false := frozen_of_row w1 bs 0 _ _ zb
  have u1 := K.at_list (i := 1) yb2 rfl
  have u3 := K.at_box (i := 3) yr2 rfl
  have u5 := K.at_box (i := 5) yr2 rfl
  have u6 := K.at_box (i := 6) yr2 rfl
  have fu : W2.frozen? ⟨bs, 1, none⟩ = false := frozen_of_row W2 bs 1 _ _ yb2
  have HF : Hid (W2.heap[bs]? = some (.cells (.slice (some ⟨g', 0, none⟩) T2.length cap' :: .int .i64 k :: rest).toArray ty) ∧ K.OwnT W2 g' cap' T2 ∧ Below B w W2 ∧ B ≤ g' ∧ g' ≠ bs) := ⟨yb2, yO2, yB2, hB', hgs'⟩
  clear zb zr zB yb2 yr2 yO2 yB2 yK2 hgn hO' hg' hB' hgs' HC HY HYK x0 x1 r3 r5 hHeld
  refine hK.out _ _ ⟨q1, q3, q5⟩ (fun hHeld => ?_)
  clear hK
  refine wpAnyH_take (i := 20) (oi := _) (v := .pointer (some ⟨bs, 0, none⟩)) rfl (by kernel_rfl) (by kernel_rfl) (by kernel_rfl) (fun _ _ _ h => h) (Or.inl ⟨by rfl, ?_⟩) hHeld ?_
  · intro wz hSw
    go_simp
  simp only [Act.put, List.setIfInBounds_toArray, List.set_cons_zero, List.set_cons_succ]
  refine wpAnyH_take (i := 21) (oi := _) (v := .pointer (some ⟨bs, 0, none⟩)) rfl (by kernel_rfl) (by kernel_rfl) (by kernel_rfl) (fun _ _ _ h => h) (Or.inl ⟨by rfl, ?_⟩) hHeld ?_
  · intro wz hSw
    go_simp
  simp only [Act.put, List.setIfInBounds_toArray, List.set_cons_zero, List.set_cons_succ]
  refine wpAnyH_ready (rs := [22]) (by kernel_rfl) (by simp) ?_
  refine AllReadyH.cons (o := _) rfl (fun KK hK => ?_) AllReadyH.nil
  go_simp
  rw [← hW2]
  refine hK.out _ _ ⟨u1, u3, u5⟩ (fun hHeld => ?_)
  clear hK hHeld hW2 q0 q1 q3 q5 f0
  refine wpAnyH_done (by kernel_rfl) ?_ _
  have hwr2 : IntKind.i64.wrap ((k : Int) + r.cursor) = (k : Int) + r.cursor := by rw [IntKind.wrap_i64]; omega
  go_wp2
  go_region
  go_wp2
  go_ret
  obtain ⟨cur, row, hcu⟩ := HF.out.2.1
  exact ⟨rfl, g', cap', ⟨hBs, K.set_list 1 _ HF.out.1, HF.out.2.2.2.1, cur, row.block (heap_setCell_other W2 ⟨bs, 1, none⟩ g' _ (by simpa using HF.out.2.2.2.2)), hcu⟩, (HF.out.2.2.1.setCell (p := ⟨bs, 1, none⟩) hBs _).drew, fun j hj h1 h2 => (heap_setCell_other W2 ⟨bs, 1, none⟩ j _ (by simpa using h1)).trans (HK2.out.1 j hj h1 h2), HK2.out.2⟩

set_option maxHeartbeats 2000000 in
theorem wput_much (ty : TypeId) (rest : List Value) (w : World) (B bs g cap : Nat) (T : List Int) (k : Nat) (hS : K.Stx ty rest B bs w g cap T k) (h4 : T.length ≤ 4000) (v : Value) (r : K.Rule) (R0 : K.RuIs w v r) (hE : K.ruleE r = 0) (hk : k + r.source.length ≤ T.length) (hlen : 4000 < T.length - r.source.length + r.target.length) :
    Calls Try.prog 72 #[.pointer (some ⟨bs, 0, none⟩), v] w fun e w' => e = .returned (.int .i64 4) ∧ Below w.heap.size w w' := by
  obtain ⟨_, _, g2, hsrc, hta, _, hc0, hc1⟩ := K.ruleE_zero hE
  obtain ⟨hBs, hbox, hBg, hO⟩ := hS
  have l2 := (K.ruleE_zero hE).2.1.1
  obtain ⟨bo, bc, so, sc, ao, ac, tgo, tc, rfl, _⟩ := R0
  obtain ⟨W0, hW0⟩ : ∃ W0, W0 = w.alloc (.cells #[.bool r.start, .bool r.fin, .slice bo r.before.length bc, .slice so r.source.length sc, .slice ao r.after.length ac, .slice tgo r.target.length tc, .int .i64 r.cursor] 58) := ⟨_, rfl⟩
  have hlt : bs < w.heap.size := (Array.getElem?_eq_some_iff.1 hbox).1
  have hbox0 : W0.heap[bs]? = some (.cells (.slice (some ⟨g, 0, none⟩) T.length cap :: .int .i64 k :: rest).toArray ty) := by rw [hW0, Below.heap_alloc w _ bs hlt]; exact hbox
  have hrb0 : W0.heap[w.heap.size]? = some (.cells #[.bool r.start, .bool r.fin, .slice bo r.before.length bc, .slice so r.source.length sc, .slice ao r.after.length ac, .slice tgo r.target.length tc, .int .i64 r.cursor] 58) := by rw [hW0]; exact heap_alloc_new w _
  have HB0 : Hid (Below w.heap.size w W0) := by rw [hW0]; exact (Below.refl _ w).alloc (Nat.le_refl _) _
  have x0 := K.at_list (i := 0) hbox0 rfl
  have x1 := K.at_list (i := 1) hbox0 rfl
  have r3 := K.at_box (i := 3) hrb0 rfl
  have r5 := K.at_box (i := 5) hrb0 rfl
  have hlong : ¬ (T.length : Int) - r.source.length + r.target.length ≤ 4000 := by omega
  clear hbox hbox0 hrb0 hO hE
  go_enter Try.func72, Try.ntmps72
  go_wp2
  rw [← hW0]
  clear hW0
  go_quiet (fail)
  go_wp2
  go_ret
  exact ⟨rfl, below_drewN HB0.out _⟩

end Go.Proofs.Ytackaadejnbfmaa

/-
  What a step of the State does, where the State is embedded.
-/
namespace Go.Proofs.Ytackaadejnbfmaa
open Go.RowKit Go.Lib
set_option maxRecDepth 20000
set_option linter.unusedSimpArgs false
set_option linter.unusedVariables false

theorem K.Stx.below {ty : TypeId} {rest : List Value} {B bs g cap : Nat} {w w' : World} {T : List Int} {k : Int} (h : K.Stx ty rest B bs w g cap T k) (hb : Below w.heap.size w w') : K.Stx ty rest B bs w' g cap T k :=
  ⟨h.1, K.blk_below h.2.1 hb, h.2.2.1, h.2.2.2.below hb⟩

set_option maxHeartbeats 4000000 in
theorem wstep_none (ty : TypeId) (rest : List Value) (hty : ty ≠ 21) (w0 : World) (vl : Value) (l : List K.Rule) (R0 : V.Rus w0 vl l) (hl : l.length ≤ 200) (hE : ∀ r ∈ l, K.ruleE r = 0) (w : World) (hX : Below w0.heap.size w0 w) (bs g cap : Nat) (T : List Int) (k : Nat) (hS : K.Stx ty rest w0.heap.size bs w g cap T k) (h4 : T.length ≤ 4000) (hk : k < T.length) (hw : K.which l T k = -1) :
    Calls Try.prog 55 #[.pointer (some ⟨bs, 0, none⟩), vl] w fun e w' => e = .returned (.tuple #[.int .i64 (-1), .int .i64 0]) ∧ K.Stx ty rest w0.heap.size bs w' g cap T (k + 1) ∧ Below w0.heap.size w w' ∧ (∀ j, j < w.heap.size → j ≠ bs → w'.heap[j]? = w.heap[j]?) := by
  have HS : Hid (K.Stx ty rest w0.heap.size bs w g cap T k) := hS
  have HX : Hid (Below w0.heap.size w0 w) := hX
  have HF : Hid (Calls Try.prog 71 #[vl, .iface 122 (.slice (some ⟨g, 0, none⟩) T.length cap), .int .i64 k] w.drew fun e w' => e = .returned (.int .i64 (K.which l T k)) ∧ Below w.drew.heap.size w.drew w') := qFirst_any w.drew vl l (R0.below hX.drew) hl hE _ T hS.2.2.2.rd h4 k (by omega) (by omega)
  have HK : Hid (∀ w1, Below w.drew.heap.size w.drew w1 → w1.cell? ⟨bs, 0, none⟩ = some (.slice (some ⟨g, 0, none⟩) T.length cap) ∧ w1.cell? ⟨bs, 1, none⟩ = some (.int .i64 k)) := fun w1 hb => by
    have h := K.blk_below (w := w.drew) hS.2.1 hb
    exact ⟨K.at_list (i := 0) h rfl, K.at_list (i := 1) h rfl⟩
  have x0 := K.at_list (i := 0) hS.2.1 rfl
  have x1 := K.at_list (i := 1) hS.2.1 rfl
  have HR0 : Hid (V.Rus w0 vl l) := R0
  have HE : Hid (∀ r ∈ l, K.ruleE r = 0) := hE
  obtain ⟨lao, lcap, rfl⟩ := R0.len
  rw [hw] at HF
  clear R0 hE hX hS
  go_enter Try.func55, Try.ntmps55
  go_wp2
  go_region_held3 (fun w' => w'.cell? ⟨bs, 0, none⟩ = some (.slice (some ⟨g, 0, none⟩) T.length cap) ∧ w'.cell? ⟨bs, 1, none⟩ = some (.int .i64 k)) (first | exact HK.out _ b1 | go_keep) (first | (go_at_call 71; refine HF.out.mono ?_; rintro e w1 ⟨rfl, b1⟩) | fail)
  have HB1 : Hid (Below w0.heap.size w0 w1) := (HX.out.drew).trans (b1.mono (by show w0.heap.size ≤ w.heap.size; exact HX.out.size))
  have HW1 : Hid (Below w0.heap.size w w1) := ((Below.refl _ w).drew).trans (b1.mono (by show w0.heap.size ≤ w.heap.size; exact HX.out.size))
  have HS1 : Hid (K.Stx ty rest w0.heap.size bs w1 g cap T k) := K.Stx.below (w := w.drew) HS.out b1
  have HWW : Hid (Below w.heap.size w w1) := ((Below.refl _ w).drew).trans b1
  clear b1 HK HF x0 x1
  have x1 := K.at_list (i := 1) HS1.out.2.1 rfl
  have f1 : w1.frozen? ⟨bs, 1, none⟩ = false := frozen_of_row w1 bs 1 _ _ HS1.out.2.1
  go_wp2
  go_ret2
  obtain ⟨cur, row, hcu⟩ := HS1.out.2.2.2
  have hgs : g ≠ bs := fun e => by
    have h1 := row
    rw [e] at h1
    have := h1.symm.trans HS1.out.2.1
    simp at this
    exact hty this.2.symm
  have hwr : IntKind.i64.wrap ((k : Int) + 1) = (k : Int) + 1 := by rw [IntKind.wrap_i64]; omega
  refine ⟨by simp, ⟨HS1.out.1, ?_, HS1.out.2.2.1, cur, row.block (heap_setCell_other w1 ⟨bs, 1, none⟩ g _ (by simpa using hgs)), hcu⟩, HW1.out.setCell (p := ⟨bs, 1, none⟩) HS1.out.1 _, fun j hj h1 => (heap_setCell_other w1 ⟨bs, 1, none⟩ j _ (by simpa using h1)).trans (HWW.out.block j hj)⟩
  exact K.set_list 1 _ HS1.out.2.1

set_option maxHeartbeats 4000000 in
theorem wstep_much (ty : TypeId) (rest : List Value) (w0 : World) (vl : Value) (l : List K.Rule) (R0 : V.Rus w0 vl l) (hl : l.length ≤ 200) (hE : ∀ r ∈ l, K.ruleE r = 0) (w : World) (hX : Below w0.heap.size w0 w) (bs g cap : Nat) (T : List Int) (k : Nat) (hS : K.Stx ty rest w0.heap.size bs w g cap T k) (h4 : T.length ≤ 4000) (hk : k < T.length) (j : Nat) (r : K.Rule) (hw : K.which l T k = (j : Int)) (hr : l[j]? = some r) (hm : K.matchB r T k = true) (hlen : 4000 < T.length - r.source.length + r.target.length) :
    Calls Try.prog 55 #[.pointer (some ⟨bs, 0, none⟩), vl] w fun e w' => e = .returned (.tuple #[.int .i64 0, .int .i64 4]) ∧ Below w.heap.size w w' := by
  have HS : Hid (K.Stx ty rest w0.heap.size bs w g cap T k) := hS
  have HX : Hid (Below w0.heap.size w0 w) := hX
  have HF : Hid (Calls Try.prog 71 #[vl, .iface 122 (.slice (some ⟨g, 0, none⟩) T.length cap), .int .i64 k] w.drew fun e w' => e = .returned (.int .i64 (K.which l T k)) ∧ Below w.drew.heap.size w.drew w') := qFirst_any w.drew vl l (R0.below hX.drew) hl hE _ T hS.2.2.2.rd h4 k (by omega) (by omega)
  have HK : Hid (∀ w1, Below w.drew.heap.size w.drew w1 → w1.cell? ⟨bs, 0, none⟩ = some (.slice (some ⟨g, 0, none⟩) T.length cap) ∧ w1.cell? ⟨bs, 1, none⟩ = some (.int .i64 k)) := fun w1 hb => by
    have h := K.blk_below (w := w.drew) hS.2.1 hb
    exact ⟨K.at_list (i := 0) h rfl, K.at_list (i := 1) h rfl⟩
  have x0 := K.at_list (i := 0) hS.2.1 rfl
  have x1 := K.at_list (i := 1) hS.2.1 rfl
  have HR0 : Hid (V.Rus w0 vl l) := R0
  have HE : Hid (∀ r ∈ l, K.ruleE r = 0) := hE
  obtain ⟨lao, lcap, rfl⟩ := R0.len
  rw [hw] at HF
  clear R0 hE hX hS
  go_enter Try.func55, Try.ntmps55
  go_wp2
  go_region_held3 (fun w' => w'.cell? ⟨bs, 0, none⟩ = some (.slice (some ⟨g, 0, none⟩) T.length cap) ∧ w'.cell? ⟨bs, 1, none⟩ = some (.int .i64 k)) (first | exact HK.out _ b1 | go_keep) (first | (go_at_call 71; refine HF.out.mono ?_; rintro e w1 ⟨rfl, b1⟩) | fail)
  have HB1 : Hid (Below w0.heap.size w0 w1) := (HX.out.drew).trans (b1.mono (by show w0.heap.size ≤ w.heap.size; exact HX.out.size))
  have HW1 : Hid (Below w0.heap.size w w1) := ((Below.refl _ w).drew).trans (b1.mono (by show w0.heap.size ≤ w.heap.size; exact HX.out.size))
  have HS1 : Hid (K.Stx ty rest w0.heap.size bs w1 g cap T k) := K.Stx.below (w := w.drew) HS.out b1
  have HWW : Hid (Below w.heap.size w w1) := ((Below.refl _ w).drew).trans b1
  clear b1 HK HF x0 x1
  obtain ⟨ao', cap', e', _, hcs⟩ := HR0.out
  cases e'
  obtain ⟨b, off, rfl, hcell⟩ := hcs (by intro h; subst h; simp at hr)
  obtain ⟨bo, bc, so, sc, ao, ac, tgo, tc, c0, c1, c2, c3, c4, c5, c6, hP⟩ := hcell j r hr
  have HP : Hid (K.RuIs w0 (.agg #[.bool r.start, .bool r.fin, .slice bo r.before.length bc, .slice so r.source.length sc, .slice ao r.after.length ac, .slice tgo r.target.length tc, .int .i64 r.cursor]) r) := hP
  have lb := L.block_lt c0
  rw [← HB1.out.cell (p := ⟨b, off + j * 7, none⟩) lb] at c0
  rw [← HB1.out.cell (p := ⟨b, off + j * 7 + 1, none⟩) lb] at c1
  rw [← HB1.out.cell (p := ⟨b, off + j * 7 + 2, none⟩) lb] at c2
  rw [← HB1.out.cell (p := ⟨b, off + j * 7 + 3, none⟩) lb] at c3
  rw [← HB1.out.cell (p := ⟨b, off + j * 7 + 4, none⟩) lb] at c4
  rw [← HB1.out.cell (p := ⟨b, off + j * 7 + 5, none⟩) lb] at c5
  rw [← HB1.out.cell (p := ⟨b, off + j * 7 + 6, none⟩) lb] at c6
  have hjl : j < l.length := (List.getElem?_eq_some_iff.1 hr).1
  have hr0 := HE.out r (List.mem_of_getElem? hr)
  have hin := K.match_in (K.ruleE_zero hr0).2.2.2.1 hm
  have HP2 : Hid (Calls Try.prog 72 #[.pointer (some ⟨bs, 0, none⟩), .agg #[.bool r.start, .bool r.fin, .slice bo r.before.length bc, .slice so r.source.length sc, .slice ao r.after.length ac, .slice tgo r.target.length tc, .int .i64 r.cursor]] w1 fun e w' => e = .returned (.int .i64 4) ∧ Below w1.heap.size w1 w') := wput_much ty rest w1 w0.heap.size bs g cap T k HS1.out h4 _ r (HP.out.below HB1.out) hr0 (by omega) hlen
  have hj0 : (0 : Int) ≤ j := by omega
  clear hcs hcell hP HP hr hm hin hr0
  obtain ⟨st, fi, be, sou, af, ta, cu⟩ := r
  simp only at c0 c1 c2 c3 c4 c5 c6 HP2
  go_wp2_with fail
  refine HP2.out.mono ?_
  rintro e w2 ⟨rfl, b2⟩
  have HB2 : Hid (Below w.heap.size w w2) := HWW.out.trans (b2.mono HWW.out.size)
  clear b2 HP2
  go_wp2
  go_ret2
  exact ⟨by simp, HB2.out⟩

set_option maxHeartbeats 4000000 in
theorem wstep_put (ty : TypeId) (rest : List Value) (hty : ty ≠ 21) (w0 : World) (vl : Value) (l : List K.Rule) (R0 : V.Rus w0 vl l) (hl : l.length ≤ 200) (hE : ∀ r ∈ l, K.ruleE r = 0) (w : World) (hX : Below w0.heap.size w0 w) (bs g cap : Nat) (T : List Int) (k : Nat) (hS : K.Stx ty rest w0.heap.size bs w g cap T k) (h4 : T.length ≤ 4000) (hk : k < T.length) (j : Nat) (r : K.Rule) (hw : K.which l T k = (j : Int)) (hr : l[j]? = some r) (hm : K.matchB r T k = true) (hlen : T.length - r.source.length + r.target.length ≤ 4000) (T2 : List Int) (hT2 : T2 = T.take k ++ r.target ++ T.drop (k + r.source.length)) :
    Calls Try.prog 55 #[.pointer (some ⟨bs, 0, none⟩), vl] w fun e w' => e = .returned (.tuple #[.int .i64 (j : Int), .int .i64 0]) ∧ ∃ g' cap', K.Stx ty rest w0.heap.size bs w' g' cap' T2 (k + r.cursor) ∧ Below w0.heap.size w w' ∧ (∀ j, j < w.heap.size → j ≠ bs → j ≠ g → w'.heap[j]? = w.heap[j]?) ∧ (g' = g ∨ w.heap.size ≤ g') := by
  have HS : Hid (K.Stx ty rest w0.heap.size bs w g cap T k) := hS
  have HX : Hid (Below w0.heap.size w0 w) := hX
  have HF : Hid (Calls Try.prog 71 #[vl, .iface 122 (.slice (some ⟨g, 0, none⟩) T.length cap), .int .i64 k] w.drew fun e w' => e = .returned (.int .i64 (K.which l T k)) ∧ Below w.drew.heap.size w.drew w') := qFirst_any w.drew vl l (R0.below hX.drew) hl hE _ T hS.2.2.2.rd h4 k (by omega) (by omega)
  have HK : Hid (∀ w1, Below w.drew.heap.size w.drew w1 → w1.cell? ⟨bs, 0, none⟩ = some (.slice (some ⟨g, 0, none⟩) T.length cap) ∧ w1.cell? ⟨bs, 1, none⟩ = some (.int .i64 k)) := fun w1 hb => by
    have h := K.blk_below (w := w.drew) hS.2.1 hb
    exact ⟨K.at_list (i := 0) h rfl, K.at_list (i := 1) h rfl⟩
  have x0 := K.at_list (i := 0) hS.2.1 rfl
  have x1 := K.at_list (i := 1) hS.2.1 rfl
  have HR0 : Hid (V.Rus w0 vl l) := R0
  have HE : Hid (∀ r ∈ l, K.ruleE r = 0) := hE
  obtain ⟨lao, lcap, rfl⟩ := R0.len
  rw [hw] at HF
  clear R0 hE hX hS
  go_enter Try.func55, Try.ntmps55
  go_wp2
  go_region_held3 (fun w' => w'.cell? ⟨bs, 0, none⟩ = some (.slice (some ⟨g, 0, none⟩) T.length cap) ∧ w'.cell? ⟨bs, 1, none⟩ = some (.int .i64 k)) (first | exact HK.out _ b1 | go_keep) (first | (go_at_call 71; refine HF.out.mono ?_; rintro e w1 ⟨rfl, b1⟩) | fail)
  have HB1 : Hid (Below w0.heap.size w0 w1) := (HX.out.drew).trans (b1.mono (by show w0.heap.size ≤ w.heap.size; exact HX.out.size))
  have HW1 : Hid (Below w0.heap.size w w1) := ((Below.refl _ w).drew).trans (b1.mono (by show w0.heap.size ≤ w.heap.size; exact HX.out.size))
  have HS1 : Hid (K.Stx ty rest w0.heap.size bs w1 g cap T k) := K.Stx.below (w := w.drew) HS.out b1
  have HWW : Hid (Below w.heap.size w w1) := ((Below.refl _ w).drew).trans b1
  clear b1 HK HF x0 x1
  obtain ⟨ao', cap', e', _, hcs⟩ := HR0.out
  cases e'
  obtain ⟨b, off, rfl, hcell⟩ := hcs (by intro h; subst h; simp at hr)
  obtain ⟨bo, bc, so, sc, ao, ac, tgo, tc, c0, c1, c2, c3, c4, c5, c6, hP⟩ := hcell j r hr
  have HP : Hid (K.RuIs w0 (.agg #[.bool r.start, .bool r.fin, .slice bo r.before.length bc, .slice so r.source.length sc, .slice ao r.after.length ac, .slice tgo r.target.length tc, .int .i64 r.cursor]) r) := hP
  have lb := L.block_lt c0
  rw [← HB1.out.cell (p := ⟨b, off + j * 7, none⟩) lb] at c0
  rw [← HB1.out.cell (p := ⟨b, off + j * 7 + 1, none⟩) lb] at c1
  rw [← HB1.out.cell (p := ⟨b, off + j * 7 + 2, none⟩) lb] at c2
  rw [← HB1.out.cell (p := ⟨b, off + j * 7 + 3, none⟩) lb] at c3
  rw [← HB1.out.cell (p := ⟨b, off + j * 7 + 4, none⟩) lb] at c4
  rw [← HB1.out.cell (p := ⟨b, off + j * 7 + 5, none⟩) lb] at c5
  rw [← HB1.out.cell (p := ⟨b, off + j * 7 + 6, none⟩) lb] at c6
  have hjl : j < l.length := (List.getElem?_eq_some_iff.1 hr).1
  have hr0 := HE.out r (List.mem_of_getElem? hr)
  have hin := K.match_in (K.ruleE_zero hr0).2.2.2.1 hm
  have HP2 : Hid (Calls Try.prog 72 #[.pointer (some ⟨bs, 0, none⟩), .agg #[.bool r.start, .bool r.fin, .slice bo r.before.length bc, .slice so r.source.length sc, .slice ao r.after.length ac, .slice tgo r.target.length tc, .int .i64 r.cursor]] w1 fun e w' => e = .returned (.int .i64 0) ∧ ∃ g' cap', K.Stx ty rest w0.heap.size bs w' g' cap' (T.take k ++ r.target ++ T.drop (k + r.source.length)) (k + r.cursor) ∧ Below w0.heap.size w1 w' ∧ (∀ j, j < w1.heap.size → j ≠ bs → j ≠ g → w'.heap[j]? = w1.heap[j]?) ∧ (g' = g ∨ w1.heap.size ≤ g')) := by
    refine wput_any ty rest hty w1 w0.heap.size bs g cap T k HS1.out h4 _ r (fun w' hw' => V.rule_keeps HP.out (K.keeps_blocks fun b hb => (hw' b hb).trans (HB1.out.block b hb))) hr0 (fun g' hg' bo' bc' so' sc' ao' ac' tgo' tc' he hne => ?_) (by omega) hlen
    obtain ⟨_, _, _, _, _, _, _, _, he2, _, _, _, h5, _⟩ := HP.out
    rw [he2] at he
    simp at he
    obtain ⟨_, _, _, ⟨e1, e2⟩⟩ := he
    subst e1 e2
    obtain ⟨_, _, e3, _, hc5⟩ := h5
    cases e3
    obtain ⟨b5, off5, e4, hcell5⟩ := hc5 hne
    obtain ⟨z, hz⟩ : ∃ z, r.target[0]? = some z := ⟨r.target[0]'(List.length_pos_iff.2 hne), by simp⟩
    have := L.block_lt (hcell5 0 z hz)
    rw [e4]
    intro h6
    have h7 : b5 = g' := by simpa [Value.ownBlock] using h6
    omega
  rw [← hT2] at HP2
  have hj0 : (0 : Int) ≤ j := by omega
  clear hT2 hcs hcell hP HP hr hm hin hr0 hlen
  obtain ⟨st, fi, be, sou, af, ta, cu⟩ := r
  simp only at c0 c1 c2 c3 c4 c5 c6 HP2
  go_wp2_with fail
  refine HP2.out.mono ?_
  rintro e w2 ⟨rfl, g', cap', s2, b2, f2, n2⟩
  have HB2 : Hid (K.Stx ty rest w0.heap.size bs w2 g' cap' T2 (k + cu) ∧ Below w0.heap.size w w2 ∧ (∀ j, j < w.heap.size → j ≠ bs → j ≠ g → w2.heap[j]? = w.heap[j]?) ∧ (g' = g ∨ w.heap.size ≤ g')) := ⟨s2, HW1.out.trans b2, fun j hj h1 h2 => (f2 j (by have := HWW.out.size; omega) h1 h2).trans (HWW.out.block j hj), by have := HWW.out.size; omega⟩
  clear b2 s2 f2 n2 HP2
  go_wp2
  go_ret2
  exact ⟨by simp, g', ⟨cap', HB2.out.1⟩, HB2.out.2⟩

end Go.Proofs.Ytackaadejnbfmaa
