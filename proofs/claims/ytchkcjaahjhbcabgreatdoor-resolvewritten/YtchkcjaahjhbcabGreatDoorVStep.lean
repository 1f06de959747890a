/-
  Forth and Back, where something is wrong.
-/
import Derived.Test.YtchkcjaahjhbcabGreatDoorQBox
import Derived.Test.YtchkcjaahjhbcabGreatDoorVScript
import Derived.Test.YtchkcjaahjhbcabGreatDoorVPlain
import Derived.Test.YtchkcjaahjhbcabGreatDoorTBack
import Derived.Test.YtchkcjaahjhbcabGreatDoorSLib
import Derived.Deep.RegionHeld3
import Derived.Deep.MidRow
namespace Go.Proofs.YtchkcjaahjhbcabGreatDoor
open Go.RowKit Go.Lib
set_option maxRecDepth 20000
set_option linter.unusedSimpArgs false
set_option linter.unusedVariables false

/-- five stores into a box of three and one of two -/
theorem V.five {w W : World} {B a b : Nat} (hb : Below B w W) (ha : B ≤ a) (hbb : B ≤ b) (v0 v1 v2 v3 v4 : Value) :
    Below B w (((((W.setCell ⟨a, 0, none⟩ v0).setCell ⟨a, 1, none⟩ v1).setCell ⟨a, 2, none⟩ v2).setCell ⟨b, 0, none⟩ v3).setCell ⟨b, 1, none⟩ v4) :=
  ((((hb.setCell (p := ⟨a, 0, none⟩) ha _).setCell (p := ⟨a, 1, none⟩) ha _).setCell (p := ⟨a, 2, none⟩) ha _).setCell (p := ⟨b, 0, none⟩) hbb _).setCell (p := ⟨b, 1, none⟩) hbb _

set_option maxHeartbeats 4000000 in
theorem forth_bad (w : World) (v : Value) (l : List R.Part) (R0 : R.Pts w v l) (hbad : (V.varsF l).1.1 ≠ 0) :
    Calls Tryz.prog 7 #[v] w fun e w' => e = .returned (.tuple #[.agg #[.bool false, .slice none 0 0, .slice none 0 0], .agg #[.int .i64 (V.varsF l).1.1, .int .i64 (V.varsF l).1.2]]) ∧ Below w.heap.size w w' := by
  have HA : Hid (∀ o1 o2, Below w.heap.size w ((w.alloc o1).alloc o2)) := fun o1 o2 => ((Below.refl _ w).alloc (Nat.le_refl _) o1).alloc (by simp) o2
  have HC : Hid (∀ o1 o2, Calls Tryz.prog 22 #[v] ((w.alloc o1).alloc o2) fun e w' => e = .returned (.tuple #[.map none, .agg #[.int .i64 (V.varsF l).1.1, .int .i64 (V.varsF l).1.2]]) ∧ Below ((w.alloc o1).alloc o2).heap.size ((w.alloc o1).alloc o2) w') := fun o1 o2 =>
    (variables_any _ _ l (R0.below (HA.out _ _))).mono fun e w' ⟨h1, h2⟩ => ⟨h1.elim (fun h => absurd h.1 hbad) fun h => h.2, h2⟩
  obtain ⟨ao, cap, rfl⟩ := R0.len
  obtain ⟨⟨⟨e1, e2⟩, kn⟩, he⟩ : ∃ o, V.varsF l = o := ⟨_, rfl⟩
  rw [he] at HC hbad ⊢
  simp only at HC hbad ⊢
  clear he R0
  go_enter Tryz.func7, Tryz.ntmps7
  go_wp2_with fail
  refine (HC.out _ _).mono ?_
  rintro e w1 ⟨rfl, b1⟩
  obtain ⟨h1, h2, B1, s1⟩ := K.two_boxes b1
  have HB2 : Hid (∀ o, Below w.heap.size w (w1.alloc o)) := fun o => B1.alloc (by omega) o
  have k0 : ∀ o, (w1.alloc o).cell? ⟨w.heap.size, 0, none⟩ = some (.bool false) := fun o => K.alloc_cell (K.at_box h1 rfl) o
  have k1 : ∀ o, (w1.alloc o).cell? ⟨w.heap.size, 1, none⟩ = some (.slice none 0 0) := fun o => K.alloc_cell (K.at_box h1 rfl) o
  have k2 : ∀ o, (w1.alloc o).cell? ⟨w.heap.size, 2, none⟩ = some (.slice none 0 0) := fun o => K.alloc_cell (K.at_box h1 rfl) o
  have k3 : ∀ o, (w1.alloc o).cell? ⟨w.heap.size + 1, 0, none⟩ = some (.int .i64 0) := fun o => K.alloc_cell (K.at_box h2 rfl) o
  have k4 : ∀ o, (w1.alloc o).cell? ⟨w.heap.size + 1, 1, none⟩ = some (.int .i64 0) := fun o => K.alloc_cell (K.at_box h2 rfl) o
  have g0 : ∀ o i, (w1.alloc o).frozen? ⟨w.heap.size, i, none⟩ = false := fun o i => K.alloc_free h1 o i
  have g1 : ∀ o i, (w1.alloc o).frozen? ⟨w.heap.size + 1, i, none⟩ = false := fun o i => K.alloc_free h2 o i
  clear b1 B1 HC h1 h2
  go_wp2
  go_region
  go_wp2
  refine bodyPost_ret (v := .tuple #[.agg #[.bool false, .slice none 0 0, .slice none 0 0], .agg #[.int .i64 e1, .int .i64 e2]]) (by simp [results, Tryz.results7, go_sem, *]) rfl ?_
  exact ⟨rfl, (V.five (HB2.out _) (Nat.le_refl _) (by omega) _ _ _ _ _).drew⟩

set_option maxHeartbeats 4000000 in
theorem back_bad (w : World) (v : Value) (l : List R.Part) (R0 : R.Pts w v l) (hbad : (V.varsF l).1.1 ≠ 0) :
    Calls Tryz.prog 11 #[v] w fun e w' => e = .returned (.tuple #[.agg #[.bool false, .slice none 0 0, .slice none 0 0], .agg #[.int .i64 (V.varsF l).1.1, .int .i64 (V.varsF l).1.2]]) ∧ Below w.heap.size w w' := by
  have HA : Hid (∀ o1 o2, Below w.heap.size w ((w.alloc o1).alloc o2)) := fun o1 o2 => ((Below.refl _ w).alloc (Nat.le_refl _) o1).alloc (by simp) o2
  have HC : Hid (∀ o1 o2, Calls Tryz.prog 22 #[v] ((w.alloc o1).alloc o2) fun e w' => e = .returned (.tuple #[.map none, .agg #[.int .i64 (V.varsF l).1.1, .int .i64 (V.varsF l).1.2]]) ∧ Below ((w.alloc o1).alloc o2).heap.size ((w.alloc o1).alloc o2) w') := fun o1 o2 =>
    (variables_any _ _ l (R0.below (HA.out _ _))).mono fun e w' ⟨h1, h2⟩ => ⟨h1.elim (fun h => absurd h.1 hbad) fun h => h.2, h2⟩
  obtain ⟨ao, cap, rfl⟩ := R0.len
  obtain ⟨⟨⟨e1, e2⟩, kn⟩, he⟩ : ∃ o, V.varsF l = o := ⟨_, rfl⟩
  rw [he] at HC hbad ⊢
  simp only at HC hbad ⊢
  clear he R0
  go_enter Tryz.func11, Tryz.ntmps11
  go_wp2_with fail
  refine (HC.out _ _).mono ?_
  rintro e w1 ⟨rfl, b1⟩
  obtain ⟨h1, h2, B1, s1⟩ := K.two_boxes b1
  have HB2 : Hid (∀ o, Below w.heap.size w (w1.alloc o)) := fun o => B1.alloc (by omega) o
  have k0 : ∀ o, (w1.alloc o).cell? ⟨w.heap.size, 0, none⟩ = some (.bool false) := fun o => K.alloc_cell (K.at_box h1 rfl) o
  have k1 : ∀ o, (w1.alloc o).cell? ⟨w.heap.size, 1, none⟩ = some (.slice none 0 0) := fun o => K.alloc_cell (K.at_box h1 rfl) o
  have k2 : ∀ o, (w1.alloc o).cell? ⟨w.heap.size, 2, none⟩ = some (.slice none 0 0) := fun o => K.alloc_cell (K.at_box h1 rfl) o
  have k3 : ∀ o, (w1.alloc o).cell? ⟨w.heap.size + 1, 0, none⟩ = some (.int .i64 0) := fun o => K.alloc_cell (K.at_box h2 rfl) o
  have k4 : ∀ o, (w1.alloc o).cell? ⟨w.heap.size + 1, 1, none⟩ = some (.int .i64 0) := fun o => K.alloc_cell (K.at_box h2 rfl) o
  have g0 : ∀ o i, (w1.alloc o).frozen? ⟨w.heap.size, i, none⟩ = false := fun o i => K.alloc_free h1 o i
  have g1 : ∀ o i, (w1.alloc o).frozen? ⟨w.heap.size + 1, i, none⟩ = false := fun o i => K.alloc_free h2 o i
  clear b1 B1 HC h1 h2
  go_wp2
  go_region
  go_wp2
  refine bodyPost_ret (v := .tuple #[.agg #[.bool false, .slice none 0 0, .slice none 0 0], .agg #[.int .i64 e1, .int .i64 e2]]) (by simp [results, Tryz.results11, go_sem, *]) rfl ?_
  exact ⟨rfl, (V.five (HB2.out _) (Nat.le_refl _) (by omega) _ _ _ _ _).drew⟩

end Go.Proofs.YtchkcjaahjhbcabGreatDoor

/-
  Forth.
-/
namespace Go.Proofs.YtchkcjaahjhbcabGreatDoor
open Go.RowKit Go.Lib
set_option maxRecDepth 20000
set_option linter.unusedSimpArgs false
set_option linter.unusedVariables false

namespace V
/-- a script in the result's boxes -/
theorem done {F : Nat} {tops : List Nat} {w : World} {vo vp : Value} {s : Script} {rvs : List Value} (hL : Leaf tops w fun W => S.Rd W vo s.only) (hn : s.only.length ≤ 17592186044160) (hP : PS F tops w vp s.passes rvs) (hl : s.passes.length ≤ 1000) (hr : ∀ p ∈ s.passes, p.rules.length ≤ 1000) {a b : Nat} (ha : a ∈ tops) (hb : b ∈ tops) (haF : a < F) (hbF : b < F) (v0 v1 v2 v3 v4 : Value) :
    ScIs (((((w.setCell ⟨a, 0, none⟩ v0).setCell ⟨a, 1, none⟩ v1).setCell ⟨a, 2, none⟩ v2).setCell ⟨b, 0, none⟩ v3).setCell ⟨b, 1, none⟩ v4) (.agg #[.bool s.has, vo, vp]) s := by
  have h1 := (((((hL.moves (Moves.store w 0 v0 ha)).moves (Moves.store _ 1 v1 ha)).moves (Moves.store _ 2 v2 ha)).moves (Moves.store _ 0 v3 hb)).moves (Moves.store _ 1 v4 hb)).here
  have h2 := (((((hP.store 0 v0 ha haF).store 1 v1 ha haF).store 2 v2 ha haF).store 0 v3 hb hbF).store 1 v4 hb hbF).pas hl hr
  obtain ⟨oo, oc, rfl⟩ := rd_form h1
  obtain ⟨po, pc, rfl⟩ := h2.len
  exact ⟨oo, oc, po, pc, rfl, h1, by omega, h2⟩
/-- where nothing is wrong -/
theorem vars_ok {l : List R.Part} (h : (varsF l).1.1 = 0) : l.length ≤ 200 ∧ (∀ p ∈ l, R.partE p = 0) := by
  unfold varsF at h
  by_cases hg : (R.wrong l).1 = 0
  · have := R.wrong_zero hg; exact ⟨this.1, this.2.1⟩
  · rw [if_neg hg] at h; exact absurd h hg
theorem part_ok {g : ByteArray → List S.Sp} (hg : ∀ s, S.Fit (g s)) {p : R.Part} (h : R.partE p = 0) : PartOk g p := by
  rcases R.partE_cases h with ⟨h1, h2, h3⟩ | ⟨h1, h2⟩ | ⟨h1, h2⟩ | ⟨h1, h2⟩
  · exact ⟨fun e => by omega, fun e => by omega, fun e => by omega⟩
  · exact ⟨fun e => by have := (S.wrongE_zero.1 h2).1; omega, fun e => by omega, fun e => by omega⟩
  · refine ⟨fun e => by omega, fun _ => ?_, fun e => by omega⟩
    unfold R.passes at h2
    have h3 := of_decide_eq_true h2
    have hs : p.name.size = p.name.toList.length := by simp [ByteArray.toList_eq]
    rw [hs]
    rcases h3 with h3 | h3 | h3 | h3 <;> rw [h3] <;> decide
  · refine ⟨fun e => by omega, fun e => by omega, fun _ _ => ?_⟩
    obtain ⟨_, hl, hr, _⟩ := R.ruleE_zero h2
    obtain ⟨a1, a2, a3, _⟩ := R.sideE_zero hl
    obtain ⟨b1, b2, b3, _⟩ := R.sideE_zero hr
    have r1 := right_of a1
    have r2 := right_of a2
    have r3 := right_of a3
    exact ⟨⟨r1, r2, r3⟩, right_of b2, fun x hx => by
      rcases hx with hx | hx | hx
      · exact fit_of hg (r1.2 x hx)
      · exact fit_of hg (r2.2 x hx)
      · exact fit_of hg (r3.2 x hx)⟩
end V

set_option maxHeartbeats 8000000 in
theorem forth_ok (w : World) (v : Value) (l : List R.Part) (R0 : R.Pts w v l) (hg : (V.varsF l).1.1 = 0) :
    Calls Tryz.prog 7 #[v] w fun e w' => ∃ v', e = .returned (.tuple #[v', .agg #[.int .i64 0, .int .i64 0]]) ∧ V.ScIs w' v' (V.scr (V.gOf (V.varsF l).2) l) ∧ Below w.heap.size w w' := by
  obtain ⟨hlen, hE⟩ := V.vars_ok hg
  have HA : Hid (∀ o1 o2, Below w.heap.size w ((w.alloc o1).alloc o2)) := fun o1 o2 => ((Below.refl _ w).alloc (Nat.le_refl _) o1).alloc (by simp) o2
  have HC : Hid (∀ o1 o2, Calls Tryz.prog 22 #[v] ((w.alloc o1).alloc o2) fun e w' => (∃ B, e = .returned (.tuple #[.map (some B), .agg #[.int .i64 0, .int .i64 0]]) ∧ V.VarsIs w' B (V.varsF l).2) ∧ Below ((w.alloc o1).alloc o2).heap.size ((w.alloc o1).alloc o2) w') := fun o1 o2 =>
    (variables_any _ _ l (R0.below (HA.out _ _))).mono fun e w' ⟨h1, h2⟩ => ⟨h1.elim (fun h => h.2) fun h => absurd hg h.1, h2⟩
  have HR : Hid (R.Pts w v l) := R0
  obtain ⟨ao, cap, rfl⟩ := R0.len
  obtain ⟨kn, hk⟩ : ∃ o, (V.varsF l).2 = o := ⟨_, rfl⟩
  rw [hk] at HC ⊢
  have HE : Hid (∀ p ∈ l, R.partE p = 0) := hE
  clear hk R0 hg hE
  go_enter Tryz.func7, Tryz.ntmps7
  go_wp2_with fail
  refine (HC.out _ _).mono ?_
  rintro e w1 ⟨⟨B, rfl, n, f, hM, hT⟩, b1⟩
  obtain ⟨h1, h2, B1, s1⟩ := K.two_boxes b1
  obtain ⟨w2, hw2⟩ : ∃ w2, w2 = w1.alloc (.cells #[.int .i64 0, .int .i64 0] 26) := ⟨_, rfl⟩
  have bb : Below w1.heap.size w1 w2 := by rw [hw2]; exact (Below.refl _ w1).alloc (Nat.le_refl _) _
  have hB2 : Below w.heap.size w w2 := B1.trans (bb.mono (by omega))
  have hs2 : w.heap.size + 2 < w2.heap.size := by rw [hw2]; simp; omega
  have x2 := (bb.block _ (by omega)).trans h1
  have y2 := (bb.block _ (by omega)).trans h2
  have HX : Hid (w2.heap[w.heap.size]? = some (.cells #[.bool false, .slice none 0 0, .slice none 0 0] 34) ∧ w2.heap[w.heap.size + 1]? = some (.cells #[.int .i64 0, .int .i64 0] 26)) := ⟨x2, y2⟩
  have hT2 := hT.below bb (Nat.le_refl _)
  have hgf : ∀ s, S.Fit (V.gOf kn s) := fun s => (hT s).2.2.2
  have HS : Hid (Calls Tryz.prog 23 #[.slice ao l.length cap, .map (some B)] (w1.alloc (.cells #[.int .i64 0, .int .i64 0] 26)) fun e w' => ∃ tops vo vp rvs, e = .returned (.agg #[.bool (V.scr (V.gOf kn) l).has, vo, vp]) ∧ V.Leaf tops w' (fun W => S.Rd W vo (V.scr (V.gOf kn) l).only) ∧ (V.scr (V.gOf kn) l).only.length ≤ 17592186044160 ∧ V.PS (w2.heap.size + 2) tops w' vp (V.scr (V.gOf kn) l).passes rvs ∧ ((V.scr (V.gOf kn) l).passes = [] → vp = .slice none 0 0) ∧ (∀ q, q ≤ w2.heap.size → q ∈ tops) ∧ Below w2.heap.size w2 w') := by
    rw [← hw2]
    exact script_any w2 _ l (HR.out.below hB2) (by omega) B n f (V.gOf kn) (hM.below bb hM.lt) (fun s => ⟨(hT2 s).2.1, by have := (hT2 s).2.2.1; unfold V.gOf; omega⟩) (fun p hp => V.part_ok hgf (HE.out p hp)) (fun k hk => V.scr_small _ l k hk)
  have HSm : Hid ((V.scr (V.gOf kn) l).passes.length ≤ 1000 ∧ ∀ p ∈ (V.scr (V.gOf kn) l).passes, p.rules.length ≤ 1000) := by
    have h := V.scr_small (V.gOf kn) l l.length (Nat.le_refl _)
    rw [List.take_length] at h
    exact ⟨by have := h.1; omega, fun p hp => by have := h.2 p hp; omega⟩
  have HB2 : Hid (Below w.heap.size w w2) := hB2
  clear hM hT b1 h1 h2 B1 bb hB2 x2 y2 hT2 hgf HC HE HR HA hw2
  go_wp2_with fail
  refine HS.out.mono ?_
  rintro e w3 ⟨tops, vo, vp, rvs, rfl, hL, hfew, hPS, _, hall, b3⟩
  have x3 := (b3.block _ (by omega)).trans HX.out.1
  have y3 := (b3.block _ (by omega)).trans HX.out.2
  obtain ⟨r0, r1, r2, f0, f1, f2⟩ := V.box3 x3
  obtain ⟨u0, u1, g0, g1⟩ := V.box2 y3
  have HD : Hid (∀ v0 v1 v2 v3 v4, V.ScIs (((((w3.setCell ⟨w.heap.size, 0, none⟩ v0).setCell ⟨w.heap.size, 1, none⟩ v1).setCell ⟨w.heap.size, 2, none⟩ v2).setCell ⟨w.heap.size + 1, 0, none⟩ v3).setCell ⟨w.heap.size + 1, 1, none⟩ v4) (.agg #[.bool (V.scr (V.gOf kn) l).has, vo, vp]) (V.scr (V.gOf kn) l)) := fun v0 v1 v2 v3 v4 => V.done hL hfew hPS HSm.out.1 HSm.out.2 (hall _ (by omega)) (hall _ (by omega)) (by omega) (by omega) v0 v1 v2 v3 v4
  have HB3 : Hid (Below w.heap.size w w3) := HB2.out.trans (b3.mono (by omega))
  obtain ⟨oo, oc, hvo⟩ := V.rd_form hL.here
  obtain ⟨po, pn, pc, hvp⟩ := V.ps_form hPS
  have l3 := L.block_lt r0
  have l4 := L.block_lt u0
  subst hvo hvp
  clear hL hfew hPS hall b3 x3 y3 HX HS HSm HB2
  go_wp2
  refine bodyPost_ret (v := .tuple #[.agg #[.bool (V.scr (V.gOf kn) l).has, .slice oo (V.scr (V.gOf kn) l).only.length oc, .slice po pn pc], .agg #[.int .i64 0, .int .i64 0]]) (by simp [results, Tryz.results7, go_sem, *]) rfl ?_
  exact ⟨_, rfl, HD.out _ _ _ _ _, V.five HB3.out (Nat.le_refl _) (by omega) _ _ _ _ _⟩

/-- all that Forth answers -/
theorem forth_any (w : World) (v : Value) (l : List R.Part) (R0 : R.Pts w v l) :
    Calls Tryz.prog 7 #[v] w fun e w' => ∃ v', e = .returned (.tuple #[v', .agg #[.int .i64 (V.forthF l).2.1, .int .i64 ((V.forthF l).2.2 : Nat)]]) ∧ V.ScIs w' v' (V.forthF l).1 ∧ Below w.heap.size w w' := by
  unfold V.forthF
  by_cases hg : (V.varsF l).1.1 = 0
  · rw [if_pos hg]; exact forth_ok w v l R0 hg
  · rw [if_neg hg]
    exact (forth_bad w v l R0 hg).mono fun e w' ⟨h1, h2⟩ => ⟨_, h1, ⟨none, 0, none, 0, rfl, S.Rd.nil _, by simp, V.Pas.nil _⟩, h2⟩

end Go.Proofs.YtchkcjaahjhbcabGreatDoor

/-
  turned: the parts as they would be written, if back were forth. First the parts' cells, a clone of them, stores into it.
-/
namespace Go.Proofs.YtchkcjaahjhbcabGreatDoor
open Go.RowKit Go.Lib
set_option maxRecDepth 20000
set_option linter.unusedSimpArgs false
set_option linter.unusedVariables false

theorem Tryz.vinfoPt : (Tryz.prog.info? 47).map (fun i => (i.zero, i.size, i.bytes)) = some (some (.agg #[.int .i64 0, .string ⟨#[]⟩, .slice none 0 0, .int .i64 0, .bool false, .bool false, .slice none 0 0, .slice none 0 0, .slice none 0 0, .int .i64 0, .bool false, .bool false, .slice none 0 0, .slice none 0 0, .slice none 0 0, .int .i64 0]), 16, 232) := by kernel_rfl

namespace V
/-- where a cell of a row of rows lies -/
theorem flat_inv {k : Nat} : ∀ {cs : List (List Value)}, (∀ c ∈ cs, c.length = k) → ∀ {j : Nat} {u : Value}, cs.flatten[j]? = some u → ∃ i q c, cs[i]? = some c ∧ c[q]? = some u ∧ j = i * k + q
  | [], _, j, u, h => by simp at h
  | c :: cs, hc, j, u, h => by
    have hl : c.length = k := hc c (by simp)
    rw [List.flatten_cons] at h
    by_cases hj : j < c.length
    · rw [List.getElem?_append_left hj] at h
      exact ⟨0, j, c, rfl, h, by simp⟩
    · rw [List.getElem?_append_right (by omega)] at h
      obtain ⟨i, q, c', h1, h2, h3⟩ := flat_inv (fun c' hc' => hc c' (by simp [hc'])) h
      refine ⟨i + 1, q, c', by simpa using h1, h2, ?_⟩
      rw [Nat.succ_mul]; omega
theorem flat_len {k : Nat} : ∀ {cs : List (List Value)}, (∀ c ∈ cs, c.length = k) → cs.flatten.length = cs.length * k
  | [], _ => by simp
  | c :: cs, hc => by
    rw [List.flatten_cons, List.length_append, hc c (by simp), flat_len (fun c' hc' => hc c' (by simp [hc'])), List.length_cons, Nat.succ_mul]; omega
/-- parts' cells -/
def PCs (w : World) (cs : List (List Value)) (l : List R.Part) : Prop := cs.length = l.length ∧ (∀ c ∈ cs, c.length = 16 ∧ ∀ u ∈ c, u.oneCell' = true) ∧ ∀ (j : Nat) p c, l[j]? = some p → cs[j]? = some c → R.PtIs w (.agg c.toArray) p
theorem pts_cells {w : World} {b off cap : Nat} {l : List R.Part} (h : R.Pts w (.slice (some ⟨b, off, none⟩) l.length cap) l) : ∃ cs, PCs w cs l ∧ ∀ (j : Nat) c q u, cs[j]? = some c → c[q]? = some u → w.cell? ⟨b, off + j * 16 + q, none⟩ = some u := by
  obtain ⟨ao, cap', e, hc⟩ := h
  obtain ⟨rfl, -, rfl⟩ := Value.slice.inj e
  have H : ∀ j, ∃ c : List Value, ∀ p, l[j]? = some p → (c.length = 16 ∧ ∀ u ∈ c, u.oneCell' = true) ∧ R.PtIs w (.agg c.toArray) p ∧ ∀ q u, c[q]? = some u → w.cell? ⟨b, off + j * 16 + q, none⟩ = some u := by
    intro j
    cases hj : l[j]? with
    | none => exact ⟨[], fun p h => by cases h⟩
    | some p =>
      obtain ⟨b', off', hao, hcell⟩ := hc (by intro h; subst h; simp at hj)
      cases hao
      obtain ⟨so, sc, lbo, lbc, lso, lsc, lao, lac, rbo, rbc, rso, rsc, rao, rac, c0, c1, c2, c3, c4, c5, c6, c7, c8, c9, c10, c11, c12, c13, c14, c15, hP⟩ := hcell j p hj
      refine ⟨[.int .i64 p.kind, .string p.name, .slice so p.set.length sc, .int .i64 p.dir, .bool p.left.start, .bool p.left.fin, .slice lbo p.left.before.length lbc, .slice lso p.left.source.length lsc, .slice lao p.left.after.length lac, .int .i64 p.left.cursor, .bool p.right.start, .bool p.right.fin, .slice rbo p.right.before.length rbc, .slice rso p.right.source.length rsc, .slice rao p.right.after.length rac, .int .i64 p.right.cursor], fun p' h => ?_⟩
      cases h
      refine ⟨⟨rfl, fun u hu => ?_⟩, hP, fun q u hq => ?_⟩
      · simp only [List.mem_cons, List.not_mem_nil, or_false] at hu
        rcases hu with rfl | rfl | rfl | rfl | rfl | rfl | rfl | rfl | rfl | rfl | rfl | rfl | rfl | rfl | rfl | rfl <;> rfl
      · match q, hq with
        | 0, hq => cases hq; exact c0
        | 1, hq => cases hq; exact c1
        | 2, hq => cases hq; exact c2
        | 3, hq => cases hq; exact c3
        | 4, hq => cases hq; exact c4
        | 5, hq => cases hq; exact c5
        | 6, hq => cases hq; exact c6
        | 7, hq => cases hq; exact c7
        | 8, hq => cases hq; exact c8
        | 9, hq => cases hq; exact c9
        | 10, hq => cases hq; exact c10
        | 11, hq => cases hq; exact c11
        | 12, hq => cases hq; exact c12
        | 13, hq => cases hq; exact c13
        | 14, hq => cases hq; exact c14
        | 15, hq => cases hq; exact c15
        | n + 16, hq => simp at hq
  obtain ⟨f, hf⟩ := Classical.skolem.1 H
  have hcs : ∀ (j : Nat) c, ((List.range l.length).map f)[j]? = some c → ∃ p, l[j]? = some p ∧ c = f j := fun j c h => by
    have hlt := (List.getElem?_eq_some_iff.1 h).1
    simp at hlt
    refine ⟨l[j], by simp [hlt], ?_⟩
    simp [hlt] at h
    exact h.symm
  refine ⟨(List.range l.length).map f, ⟨by simp, fun c hc => ?_, fun j p c h1 h2 => ?_⟩, fun j c q u h1 h2 => ?_⟩
  · obtain ⟨j, hj⟩ := List.getElem?_of_mem hc
    obtain ⟨p, hp, rfl⟩ := hcs j c hj
    exact (hf j p hp).1
  · obtain ⟨p', hp, rfl⟩ := hcs j c h2
    exact (hf j p h1).2.1
  · obtain ⟨p', hp, rfl⟩ := hcs j c h1
    exact (hf j p' hp).2.2 q u h2
/-- cells that read as parts -/
theorem cells_pts {w : World} {g cap : Nat} {l : List R.Part} {cs : List (List Value)} (h : PCs w cs l) (hc : ∀ (j : Nat) c q u, cs[j]? = some c → c[q]? = some u → w.cell? ⟨g, j * 16 + q, none⟩ = some u) : R.Pts w (.slice (some ⟨g, 0, none⟩) l.length cap) l := by
  refine ⟨some ⟨g, 0, none⟩, cap, rfl, fun _ => ⟨g, 0, rfl, fun j p hp => ?_⟩⟩
  obtain ⟨c, hcj⟩ : ∃ c, cs[j]? = some c := by
    have : j < cs.length := by rw [h.1]; exact (List.getElem?_eq_some_iff.1 hp).1
    exact ⟨cs[j], by simp [this]⟩
  have hP := h.2.2 j p c hp hcj
  obtain ⟨so, sc, lbo, lbc, lso, lsc, lao, lac, rbo, rbc, rso, rsc, rao, rac, he, _⟩ := hP.open
  have he2 : c = [.int .i64 p.kind, .string p.name, .slice so p.set.length sc, .int .i64 p.dir, .bool p.left.start, .bool p.left.fin, .slice lbo p.left.before.length lbc, .slice lso p.left.source.length lsc, .slice lao p.left.after.length lac, .int .i64 p.left.cursor, .bool p.right.start, .bool p.right.fin, .slice rbo p.right.before.length rbc, .slice rso p.right.source.length rsc, .slice rao p.right.after.length rac, .int .i64 p.right.cursor] := by
    simpa using congrArg Array.toList (Value.agg.inj he)
  subst he2
  have at' : ∀ q u, ([Value.int .i64 p.kind, .string p.name, .slice so p.set.length sc, .int .i64 p.dir, .bool p.left.start, .bool p.left.fin, .slice lbo p.left.before.length lbc, .slice lso p.left.source.length lsc, .slice lao p.left.after.length lac, .int .i64 p.left.cursor, .bool p.right.start, .bool p.right.fin, .slice rbo p.right.before.length rbc, .slice rso p.right.source.length rsc, .slice rao p.right.after.length rac, .int .i64 p.right.cursor] : List Value)[q]? = some u → w.cell? ⟨g, 0 + j * 16 + q, none⟩ = some u := fun q u hq => by
    rw [Nat.zero_add]; exact hc j _ q u hcj hq
  exact ⟨so, sc, lbo, lbc, lso, lsc, lao, lac, rbo, rbc, rso, rsc, rao, rac, at' 0 _ rfl, at' 1 _ rfl, at' 2 _ rfl, at' 3 _ rfl, at' 4 _ rfl, at' 5 _ rfl, at' 6 _ rfl, at' 7 _ rfl, at' 8 _ rfl, at' 9 _ rfl, at' 10 _ rfl, at' 11 _ rfl, at' 12 _ rfl, at' 13 _ rfl, at' 14 _ rfl, at' 15 _ rfl, hP⟩

/-- a row of parts' cells in a block -/
def OutIs (W : World) (g : Nat) (cs : List (List Value)) : Prop := (∀ c ∈ cs, c.length = 16) ∧ ∃ cur, W.heap[g]? = some (.cells cur 47) ∧ ∀ (j : Nat) c q u, cs[j]? = some c → c[q]? = some u → cur[j * 16 + q]? = some u
theorem OutIs.cell {W : World} {g : Nat} {cs : List (List Value)} (h : OutIs W g cs) {j : Nat} {c : List Value} {q : Nat} {u : Value} (h1 : cs[j]? = some c) (h2 : c[q]? = some u) : W.cell? ⟨g, j * 16 + q, none⟩ = some u := by
  obtain ⟨_, cur, hg, hc⟩ := h
  exact K.at_box hg (hc j c q u h1 h2)
theorem OutIs.free {W : World} {g : Nat} {cs : List (List Value)} (h : OutIs W g cs) (i : Nat) : W.frozen? ⟨g, i, none⟩ = false := by
  obtain ⟨_, cur, hg, hc⟩ := h
  exact frozen_of_row W g _ _ _ hg
theorem OutIs.other {W W' : World} {g : Nat} {cs : List (List Value)} (h : OutIs W g cs) (he : W'.heap[g]? = W.heap[g]?) : OutIs W' g cs := by
  obtain ⟨h0, cur, hg, hc⟩ := h
  exact ⟨h0, cur, he.trans hg, hc⟩
theorem OutIs.lt {W : World} {g : Nat} {cs : List (List Value)} (h : OutIs W g cs) : g < W.heap.size := by
  obtain ⟨h0, cur, hg, hc⟩ := h
  exact (Array.getElem?_eq_some_iff.1 hg).1
theorem OutIs.set {W : World} {g k : Nat} {A B : List (List Value)} {c : List Value} (h : OutIs W g (A ++ c :: B)) (hA : A.length = k) (q : Nat) (hq : q < 16) (v : Value) : OutIs (W.setCell ⟨g, k * 16 + q, none⟩ v) g (A ++ c.set q v :: B) := by
  obtain ⟨h0, cur, hg, hc⟩ := h
  have hcl : c.length = 16 := h0 c (by simp)
  subst hA
  refine ⟨fun c' hc' => ?_, _, heap_setCell_same W g _ _ _ v hg, fun j c' q' u h1 h2 => ?_⟩
  · simp at hc'
    rcases hc' with h | rfl | h
    · exact h0 c' (by simp [h])
    · simp [hcl]
    · exact h0 c' (by simp [h])
  · have hold : (A ++ c :: B)[A.length]? = some c := by simp
    have hin : A.length * 16 + q < cur.size := by
      have := hc A.length c q (c[q]'(by omega)) hold (by simp [hcl, hq])
      exact (Array.getElem?_eq_some_iff.1 this).1
    rw [Array.getElem?_setIfInBounds]
    by_cases hj : j = A.length
    · subst hj
      rw [List.getElem?_append_right (Nat.le_refl _), Nat.sub_self] at h1
      cases h1
      by_cases hqq : q = q'
      · subst hqq
        rw [if_pos rfl, if_pos hin]
        rw [List.getElem?_set_self (by omega)] at h2
        exact h2
      · rw [if_neg (by omega)]
        rw [List.getElem?_set_ne hqq] at h2
        exact hc A.length c q' u hold h2
    · have hold2 : (A ++ c :: B)[j]? = some c' := by
        by_cases hlt : j < A.length
        · rw [List.getElem?_append_left hlt] at h1 ⊢; exact h1
        · rw [List.getElem?_append_right (by omega)] at h1 ⊢
          obtain ⟨m, hm⟩ : ∃ m, j - A.length = m + 1 := ⟨j - A.length - 1, by omega⟩
          rw [hm] at h1 ⊢
          simpa using h1
      have hl' : c'.length = 16 := h0 c' (List.mem_of_getElem? hold2)
      have hq' : q' < 16 := by rw [← hl']; exact (List.getElem?_eq_some_iff.1 h2).1
      rw [if_neg (by omega)]
      exact hc j c' q' u hold2 h2
end V

set_option maxHeartbeats 1000000 in
theorem pclone_any (w : World) (b off cap : Nat) (l : List R.Part) (cs : List (List Value)) (hP : V.PCs w cs l) (hc : ∀ (j : Nat) c q u, cs[j]? = some c → c[q]? = some u → w.cell? ⟨b, off + j * 16 + q, none⟩ = some u) (hl : l.length ≤ 1000) (h0 : 0 < l.length) :
    Calls Tryz.prog 45 #[.slice (some ⟨b, off, none⟩) l.length cap] w fun e w' => ∃ g cap', e = .returned (.slice (some ⟨g, 0, none⟩) l.length cap') ∧ w.heap.size ≤ g ∧ V.OutIs w' g cs ∧ Below w.heap.size w w' := by
  obtain ⟨i0, hi, hz0, hz1, hz2⟩ := info_parts Tryz.vinfoPt
  have q22 : ∀ (w : World) (a : Option Addr) (n c n' c' : Nat), (binOp .eql 22 (.slice a n c) (.slice none n' c')).run Tryz.prog w = .ok (.bool a.isNone) w := fun w a n c n' c' => Lib.run_eql_slice_nil w _ _ a n c n' c' Tryz.underlying22
  have h16 : ∀ c ∈ cs, c.length = 16 := fun c hc => (hP.2.1 c hc).1
  have HC : Hid (∀ j u, cs.flatten[j]? = some u → w.cell? ((⟨b, off, none⟩ : Addr).add j) = some u) := by
    intro j u hj
    obtain ⟨i, q, c, h1, h2, rfl⟩ := V.flat_inv h16 hj
    rw [L.addr_add, ← Nat.add_assoc]
    exact hc i c q u h1 h2
  have HO : Hid (∀ u ∈ cs.flatten, u.oneCell' = true) := fun u hu => by
    obtain ⟨c, hc, hu⟩ := List.mem_flatten.1 hu
    exact (hP.2.1 c hc).2 u hu
  have HF : Hid (cs.flatten.length = l.length * 16) := by
    rw [← hP.1]; exact V.flat_len h16
  have H16 : Hid (∀ c ∈ cs, c.length = 16) := h16
  have OW : Hid ((w.alloc (.cells #[] 47)).ownsRow w.heap.size 47 16 (.slice (some ⟨w.heap.size, 0, none⟩) 0 0) 0 []) := World.ownsRow_made w #[] 0 (Nat.le_refl _) (Nat.zero_le _) (by simp)
  clear hc hP h16
  go_enter Tryz.func45, Tryz.ntmps45
  go_wp2_with (at_builtin; go_must (refine wpList_append_own _ rfl _ _ 22 rfl w.heap.size 47 i0 _ 16 232 Tryz.underlying22 hi hz0 hz1 hz2 rfl (by decide) _ _ _ rfl OW.out ⟨b, off, none⟩ l.length cap cs.flatten rfl HF.out (fun j u hj => Lib.cell?_alloc_some _ (HC.out j u hj)) HO.out (by unfold maxLen; omega) (by omega) (by simp) ?_; intro v' w3 hown' hgrow3 hnil3))
  go_ret
  rcases hown'.2 with ⟨_, h1⟩ | ⟨g, cap', cur, hv, hB, hg, hle, hmax, hsz, htk⟩
  · omega
  · refine ⟨g, cap', by rw [hv]; simp, hB, ⟨H16.out, cur, hg, fun j c q u h1 h2 => ?_⟩, ((Below.refl _ w).alloc (Nat.le_refl _) _).grown hgrow3 (by simp) (fun k hk => (OW.out.lt k hk).1)⟩
    have h3 := R.flat_get (k := 16) H16.out j q c u h1 h2
    rw [← (show cur.toList.take ((0 + l.length) * 16) = cs.flatten by simpa using htk)] at h3
    rw [List.getElem?_take] at h3
    split at h3
    · simpa using h3
    · cases h3

end Go.Proofs.YtchkcjaahjhbcabGreatDoor

/-
  Steps of a region that draws, by hand: an operation that is taken first, with its place told; a store where nothing else may come.
-/
namespace Go.Proofs.YtchkcjaahjhbcabGreatDoor
open Go.RowKit Go.Lib
namespace V
/-- an operation that is taken first, its place told -/
theorem take {P : Program} {ops : Array Oper} {Q : Exit → Act → World → Prop} {md : Region.Mode} {S : World → Prop} (i d : Nat) (v : Value) (L' : List Bool) {oi : Oper} {fuel : Nat} {listed : Array Bool} {a : Act} {w : World} (hi : ops[i]? = some oi) (hd : oi.dst = some d)
    (hl : listed.setIfInBounds i true = L'.toArray) (hs : Region.noSelect ops = true) (hf : Region.free md ops listed i = true) (hr : (Region.ready md ops listed).contains i = true)
    (hQ : ∀ c a w, Q (.panic c) (a.put (some d) v) w → Q (.panic c) a w) (hy : YieldsIf P ops S oi v a) (hS : S w)
    (h : wpAnyH P md ops Q S fuel L'.toArray (a.put (some d) v) w) : wpAnyH P md ops Q S (fuel + 1) listed a w :=
  wpAnyH_take hi hs hf hr (by rw [hd]; exact hQ) hy hS (by rw [hd, hl]; exact h)
/-- a struct that is stored, where nothing else may come -/
theorem stored {P : Program} {ops : Array Oper} {Q : Exit → Act → World → Prop} {md : Region.Mode} {S : World → Prop} (i : Nat) (L' : List Bool) (ty : TypeId) (x y : Operand) {oi : Oper} {fuel : Nat} {listed : Array Bool} {a : Act} {w : World} (hi : ops[i]? = some oi) (ho : oi.op = .store ty x y) (hgd : oi.guard = none) (hd : oi.dst = none)
    (hl : listed.setIfInBounds i true = L'.toArray) (hr : Region.ready md ops listed = [i]) (b o : Nat) (cells : List Value) (hx : a.eval x = .pointer (some ⟨b, o, none⟩)) (hy : a.eval y = .agg cells.toArray) (ht : w.there b o cells.length) (hinf : (P.info? ty).map (·.size) = some cells.length) (h1 : cells.all (·.oneCell') = true)
    (hS : S (w.setCells b o cells)) (h : wpAnyH P md ops Q S fuel L'.toArray a (w.setCells b o cells)) : wpAnyH P md ops Q S (fuel + 1) listed a w :=
  wpAnyH_ready hr (by simp) (AllReadyH.cons hi (fun KK hK => by
    have hw : Region.wanted oi (yielded ops a.tmps) = true := by simp [Region.wanted, hgd]
    rw [if_pos hw]
    refine wp_store_mid ty x y ho b o cells.toArray hx hy (by simpa using ht) (by simpa using hinf) (by simpa using h1) ?_
    rw [hd]
    exact hK.out _ _ (by simpa using hS) (fun _ => by rw [hl, show a.put none undef = a from rfl]; simpa using h)) AllReadyH.nil)
theorem run_storeVar_cell {P : Program} (w : World) (b o : Nat) (ty : TypeId) (u v : Value) (hc : w.cell? ⟨b, o, none⟩ = some u) (hf : w.frozen? ⟨b, o, none⟩ = false) (hi : (P.info? ty).map (·.size) = some 1) (h1 : v.oneCell' = true) :
    (storeVar ty ⟨b, o, none⟩ v).run P w = .ok () (w.setCell ⟨b, o, none⟩ v) := by
  have hcs : v.cells = #[v] := by cases v <;> first | rfl | cases h1
  cases hq : P.info? ty with
  | none => simp [hq] at hi
  | some i =>
    have hs : i.size = 1 := by simpa [hq] using hi
    have hz : (⟨b, o, none⟩ : Addr).add 0 = ⟨b, o, none⟩ := Addr.add_mid b o 0
    simp [storeVar, sizeOf, typeInfo, hq, hcs, hs, storeCells, run_store P w _ v _ h1, hz, hc, hf]
theorem stored1 {P : Program} {ops : Array Oper} {Q : Exit → Act → World → Prop} {md : Region.Mode} {S : World → Prop} (i : Nat) (L' : List Bool) (ty : TypeId) (x y : Operand) {oi : Oper} {fuel : Nat} {listed : Array Bool} {a : Act} {w : World} (hi : ops[i]? = some oi) (ho : oi.op = .store ty x y) (hgd : oi.guard = none) (hd : oi.dst = none)
    (hl : listed.setIfInBounds i true = L'.toArray) (hr : Region.ready md ops listed = [i]) (b o : Nat) (u v : Value) (hx : a.eval x = .pointer (some ⟨b, o, none⟩)) (hy : a.eval y = v) (hc : w.cell? ⟨b, o, none⟩ = some u) (hf : w.frozen? ⟨b, o, none⟩ = false) (hinf : (P.info? ty).map (·.size) = some 1) (h1 : v.oneCell' = true)
    (hS : S (w.setCell ⟨b, o, none⟩ v)) (h : wpAnyH P md ops Q S fuel L'.toArray a (w.setCell ⟨b, o, none⟩ v)) : wpAnyH P md ops Q S (fuel + 1) listed a w :=
  wpAnyH_ready hr (by simp) (AllReadyH.cons hi (fun KK hK => by
    have hw : Region.wanted oi (yielded ops a.tmps) = true := by simp [Region.wanted, hgd]
    rw [if_pos hw]
    unfold Oper.wp execOp
    simp only [ho, hx, hy, Instr.storeAt, Instr.sureAddr, Sem.run_bind, Sem.run_pure, Result.andThen_ok, run_storeVar_cell w b o ty u v hc hf hinf h1]
    show KK (a.put oi.dst undef) _
    rw [hd]
    exact hK.out _ _ hS (fun _ => by rw [hl, show a.put none undef = a from rfl]; exact h)) AllReadyH.nil)
end V
end Go.Proofs.YtchkcjaahjhbcabGreatDoor
