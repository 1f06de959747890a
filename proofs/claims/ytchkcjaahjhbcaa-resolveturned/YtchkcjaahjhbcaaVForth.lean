/-
  Forth.
-/
import Derived.Test.YtchkcjaahjhbcaaVScript
import Derived.Test.YtchkcjaahjhbcaaVBad
namespace Go.Proofs.Ytchkcjaahjhbcaa
open Go.RowKit Go.Lib
set_option maxRecDepth 20000
set_option linter.unusedSimpArgs false
set_option linter.unusedVariables false

namespace V
/-- a script in the result's boxes -/
theorem done {F : Nat} {tops : List Nat} {w : World} {vo vp : Value} {s : Script} {rvs : List Value} (hL : Leaf tops w fun W => S.Rd W vo s.only) (hn : s.only.length ≤ 17592186044160) (hP : PS F tops w vp s.passes rvs) (hl : s.passes.length ≤ 1000) (hr : ∀ p ∈ s.passes, p.rules.length ≤ 1000) {a b : Nat} (ha : a ∈ tops) (hb : b ∈ tops) (haF : a < F) (hbF : b < F) (v0 v1 v2 v3 v4 : Value) :
    ScIs (((((w.setCell ⟨a, 0, none⟩ v0).setCell ⟨a, 1, none⟩ v1).setCell ⟨a, 2, none⟩ v2).setCell ⟨b, 0, none⟩ v3).setCell ⟨b, 1, none⟩ v4) (.agg #[.bool s.has, vo, vp]) s := by
  have h1 := (((((hL.moves (Moves.store w 0 v0 ha)).moves (Moves.store _ 1 v1 ha)).moves (Moves.store _ 2 v2 ha)).moves (Moves.store _ 0 v3 hb)).moves (Moves.store _ 1 v4 hb)).here
  have h2 := (((((hP.store 0 v0 ha haF).store 1 v1 ha haF).store 2 v2 ha haF).store 0 v3 hb hbF).store 1 v4 hb hbF).pas hl hr
  obtain ⟨oo, oc, rfl⟩ := rd_form h1
  obtain ⟨po, pc, rfl⟩ := h2.len
  exact ⟨oo, oc, po, pc, rfl, h1, by omega, h2⟩
/-- where nothing is wrong -/
theorem vars_ok {l : List R.Part} (h : (varsF l).1.1 = 0) : l.length ≤ 200 ∧ (∀ p ∈ l, R.partE p = 0) := by
  unfold varsF at h
  by_cases hg : (R.wrong l).1 = 0
  · have := R.wrong_zero hg; exact ⟨this.1, this.2.1⟩
  · rw [if_neg hg] at h; exact absurd h hg
theorem part_ok {g : ByteArray → List S.Sp} (hg : ∀ s, S.Fit (g s)) {p : R.Part} (h : R.partE p = 0) : PartOk g p := by
  rcases R.partE_cases h with ⟨h1, h2, h3⟩ | ⟨h1, h2⟩ | ⟨h1, h2⟩ | ⟨h1, h2⟩
  · exact ⟨fun e => by omega, fun e => by omega, fun e => by omega⟩
  · exact ⟨fun e => by have := (S.wrongE_zero.1 h2).1; omega, fun e => by omega, fun e => by omega⟩
  · refine ⟨fun e => by omega, fun _ => ?_, fun e => by omega⟩
    unfold R.passes at h2
    have h3 := of_decide_eq_true h2
    have hs : p.name.size = p.name.toList.length := by simp [ByteArray.toList_eq]
    rw [hs]
    rcases h3 with h3 | h3 | h3 | h3 <;> rw [h3] <;> decide
  · refine ⟨fun e => by omega, fun e => by omega, fun _ _ => ?_⟩
    obtain ⟨_, hl, hr, _⟩ := R.ruleE_zero h2
    obtain ⟨a1, a2, a3, _⟩ := R.sideE_zero hl
    obtain ⟨b1, b2, b3, _⟩ := R.sideE_zero hr
    have r1 := right_of a1
    have r2 := right_of a2
    have r3 := right_of a3
    exact ⟨⟨r1, r2, r3⟩, right_of b2, fun x hx => by
      rcases hx with hx | hx | hx
      · exact fit_of hg (r1.2 x hx)
      · exact fit_of hg (r2.2 x hx)
      · exact fit_of hg (r3.2 x hx)⟩
end V

set_option maxHeartbeats 8000000 in
theorem forth_ok (w : World) (v : Value) (l : List R.Part) (R0 : R.Pts w v l) (hg : (V.varsF l).1.1 = 0) :
    Calls Try.prog 16 #[v] w fun e w' => ∃ v', e = .returned (.tuple #[v', .agg #[.int .i64 0, .int .i64 0]]) ∧ V.ScIs w' v' (V.scr (V.gOf (V.varsF l).2) l) ∧ Below w.heap.size w w' := by
  obtain ⟨hlen, hE⟩ := V.vars_ok hg
  have HA : Hid (∀ o1 o2, Below w.heap.size w ((w.alloc o1).alloc o2)) := fun o1 o2 => ((Below.refl _ w).alloc (Nat.le_refl _) o1).alloc (by simp) o2
  have HC : Hid (∀ o1 o2, Calls Try.prog 35 #[v] ((w.alloc o1).alloc o2) fun e w' => (∃ B, e = .returned (.tuple #[.map (some B), .agg #[.int .i64 0, .int .i64 0]]) ∧ V.VarsIs w' B (V.varsF l).2) ∧ Below ((w.alloc o1).alloc o2).heap.size ((w.alloc o1).alloc o2) w') := fun o1 o2 =>
    (variables_any _ _ l (R0.below (HA.out _ _))).mono fun e w' ⟨h1, h2⟩ => ⟨h1.elim (fun h => h.2) fun h => absurd hg h.1, h2⟩
  have HR : Hid (R.Pts w v l) := R0
  obtain ⟨ao, cap, rfl⟩ := R0.len
  obtain ⟨kn, hk⟩ : ∃ o, (V.varsF l).2 = o := ⟨_, rfl⟩
  rw [hk] at HC ⊢
  have HE : Hid (∀ p ∈ l, R.partE p = 0) := hE
  clear hk R0 hg hE
  go_enter Try.func16, Try.ntmps16
  go_wp2_with fail
  refine (HC.out _ _).mono ?_
  rintro e w1 ⟨⟨B, rfl, n, f, hM, hT⟩, b1⟩
  obtain ⟨h1, h2, B1, s1⟩ := K.two_boxes b1
  obtain ⟨w2, hw2⟩ : ∃ w2, w2 = w1.alloc (.cells #[.int .i64 0, .int .i64 0] 26) := ⟨_, rfl⟩
  have bb : Below w1.heap.size w1 w2 := by rw [hw2]; exact (Below.refl _ w1).alloc (Nat.le_refl _) _
  have hB2 : Below w.heap.size w w2 := B1.trans (bb.mono (by omega))
  have hs2 : w.heap.size + 2 < w2.heap.size := by rw [hw2]; simp; omega
  have x2 := (bb.block _ (by omega)).trans h1
  have y2 := (bb.block _ (by omega)).trans h2
  have HX : Hid (w2.heap[w.heap.size]? = some (.cells #[.bool false, .slice none 0 0, .slice none 0 0] 43) ∧ w2.heap[w.heap.size + 1]? = some (.cells #[.int .i64 0, .int .i64 0] 26)) := ⟨x2, y2⟩
  have hT2 := hT.below bb (Nat.le_refl _)
  have hgf : ∀ s, S.Fit (V.gOf kn s) := fun s => (hT s).2.2.2
  have HS : Hid (Calls Try.prog 36 #[.slice ao l.length cap, .map (some B)] (w1.alloc (.cells #[.int .i64 0, .int .i64 0] 26)) fun e w' => ∃ tops vo vp rvs, e = .returned (.agg #[.bool (V.scr (V.gOf kn) l).has, vo, vp]) ∧ V.Leaf tops w' (fun W => S.Rd W vo (V.scr (V.gOf kn) l).only) ∧ (V.scr (V.gOf kn) l).only.length ≤ 17592186044160 ∧ V.PS (w2.heap.size + 2) tops w' vp (V.scr (V.gOf kn) l).passes rvs ∧ ((V.scr (V.gOf kn) l).passes = [] → vp = .slice none 0 0) ∧ (∀ q, q ≤ w2.heap.size → q ∈ tops) ∧ Below w2.heap.size w2 w') := by
    rw [← hw2]
    exact script_any w2 _ l (HR.out.below hB2) (by omega) B n f (V.gOf kn) (hM.below bb hM.lt) (fun s => ⟨(hT2 s).2.1, by have := (hT2 s).2.2.1; unfold V.gOf; omega⟩) (fun p hp => V.part_ok hgf (HE.out p hp)) (fun k hk => V.scr_small _ l k hk)
  have HSm : Hid ((V.scr (V.gOf kn) l).passes.length ≤ 1000 ∧ ∀ p ∈ (V.scr (V.gOf kn) l).passes, p.rules.length ≤ 1000) := by
    have h := V.scr_small (V.gOf kn) l l.length (Nat.le_refl _)
    rw [List.take_length] at h
    exact ⟨by have := h.1; omega, fun p hp => by have := h.2 p hp; omega⟩
  have HB2 : Hid (Below w.heap.size w w2) := hB2
  clear hM hT b1 h1 h2 B1 bb hB2 x2 y2 hT2 hgf HC HE HR HA hw2
  go_wp2_with fail
  refine HS.out.mono ?_
  rintro e w3 ⟨tops, vo, vp, rvs, rfl, hL, hfew, hPS, _, hall, b3⟩
  have x3 := (b3.block _ (by omega)).trans HX.out.1
  have y3 := (b3.block _ (by omega)).trans HX.out.2
  obtain ⟨r0, r1, r2, f0, f1, f2⟩ := V.box3 x3
  obtain ⟨u0, u1, g0, g1⟩ := V.box2 y3
  have HD : Hid (∀ v0 v1 v2 v3 v4, V.ScIs (((((w3.setCell ⟨w.heap.size, 0, none⟩ v0).setCell ⟨w.heap.size, 1, none⟩ v1).setCell ⟨w.heap.size, 2, none⟩ v2).setCell ⟨w.heap.size + 1, 0, none⟩ v3).setCell ⟨w.heap.size + 1, 1, none⟩ v4) (.agg #[.bool (V.scr (V.gOf kn) l).has, vo, vp]) (V.scr (V.gOf kn) l)) := fun v0 v1 v2 v3 v4 => V.done hL hfew hPS HSm.out.1 HSm.out.2 (hall _ (by omega)) (hall _ (by omega)) (by omega) (by omega) v0 v1 v2 v3 v4
  have HB3 : Hid (Below w.heap.size w w3) := HB2.out.trans (b3.mono (by omega))
  obtain ⟨oo, oc, hvo⟩ := V.rd_form hL.here
  obtain ⟨po, pn, pc, hvp⟩ := V.ps_form hPS
  have l3 := L.block_lt r0
  have l4 := L.block_lt u0
  subst hvo hvp
  clear hL hfew hPS hall b3 x3 y3 HX HS HSm HB2
  go_wp2
  refine bodyPost_ret (v := .tuple #[.agg #[.bool (V.scr (V.gOf kn) l).has, .slice oo (V.scr (V.gOf kn) l).only.length oc, .slice po pn pc], .agg #[.int .i64 0, .int .i64 0]]) (by simp [results, Try.results16, go_sem, *]) rfl ?_
  exact ⟨_, rfl, HD.out _ _ _ _ _, V.five HB3.out (Nat.le_refl _) (by omega) _ _ _ _ _⟩

/-- all that Forth answers -/
theorem forth_any (w : World) (v : Value) (l : List R.Part) (R0 : R.Pts w v l) :
    Calls Try.prog 16 #[v] w fun e w' => ∃ v', e = .returned (.tuple #[v', .agg #[.int .i64 (V.forthF l).2.1, .int .i64 ((V.forthF l).2.2 : Nat)]]) ∧ V.ScIs w' v' (V.forthF l).1 ∧ Below w.heap.size w w' := by
  unfold V.forthF
  by_cases hg : (V.varsF l).1.1 = 0
  · rw [if_pos hg]; exact forth_ok w v l R0 hg
  · rw [if_neg hg]
    exact (forth_bad w v l R0 hg).mono fun e w' ⟨h1, h2⟩ => ⟨_, h1, ⟨none, 0, none, 0, rfl, S.Rd.nil _, by simp, V.Pas.nil _⟩, h2⟩

end Go.Proofs.Ytchkcjaahjhbcaa
