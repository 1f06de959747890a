/-
  Lists of parts that are the same: what the document's Same answers of them.
-/
import Derived.Test.YtajbcgobfkaahaaGreatDoorRLib
import Derived.Test.YtajbcgobfkaahaaGreatDoorRWrong3
import Derived.Test.YtajbcgobfkaahaaGreatDoorTBits
import Derived.Deep.RegionHeld3
import Derived.BigRegion
import Derived.Laws.Tables
namespace Go.Proofs.YtajbcgobfkaahaaGreatDoor
open Go.RowKit
set_option maxRecDepth 20000
set_option linter.unusedSimpArgs false
set_option linter.unusedVariables false

set_option maxHeartbeats 8000000 in
theorem sameItems_eq (w : World) (va vb : Value) (l : List R.Item) (R1 : R.Its w va l) (R2 : R.Its w vb l) (hl : l.length ≤ 1000) (hs : ∀ x ∈ l, x.set.length ≤ 1000) :
    Calls Tryz.prog 41 #[va, vb] w fun e w' => e = .returned (.bool true) ∧ Below w.heap.size w w' := by
  have HR1 : Hid (R.Its w va l) := R1
  have HR2 : Hid (R.Its w vb l) := R2
  have HS : Hid (∀ x ∈ l, x.set.length ≤ 1000) := hs
  obtain ⟨ao, ca, rfl⟩ := R1.len
  obtain ⟨bo, cb, rfl⟩ := R2.len
  clear R1 R2 hs
  go_enter Tryz.func41, Tryz.ntmps41
  go_wp2
  go_loopw [13] (fun i wr => ∃ k : Nat, k ≤ l.length ∧ i = .int .i64 k ∧ Hid (Below w.heap.size w wr)) (fun i _ => l.length - (intOf i).toNat)
  case atStart => exact ⟨0, Nat.zero_le _, rfl, Below.refl _ w⟩
  case round =>
    obtain ⟨k, hk, rfl, HB⟩ := hrel
    by_cases hlt : k < l.length
    · obtain ⟨x, hx⟩ : ∃ x, l[k]? = some x := ⟨l[k], by simp [hlt]⟩
      obtain ⟨ao', ca', e', hcs⟩ := HR1.out.below HB.out
      cases e'
      obtain ⟨b, off, rfl, hcell⟩ := hcs (by intro h; subst h; simp at hlt)
      obtain ⟨c0, c1, c3, ⟨so, sc, c2, r2⟩, hf, _⟩ := hcell k x hx
      obtain ⟨bo', cb', e2, hds⟩ := HR2.out.below HB.out
      cases e2
      obtain ⟨d, of2, rfl, hdell⟩ := hds (by intro h; subst h; simp at hlt)
      obtain ⟨d0, d1, d3, ⟨so2, sc2, d2, r2'⟩, _, _⟩ := hdell k x hx
      have hsl := HS.out x (List.mem_of_getElem? hx)
      have HSm : Hid (∀ W, Below wr.heap.size wr W → Calls Tryz.prog 25 #[.slice so x.set.length sc, .slice so2 x.set.length sc2] W fun e w' => e = .returned (.bool true) ∧ Below W.heap.size W w') := fun W hW => by
        refine (same_any W _ _ x.set x.set (r2.below hW (Nat.le_refl _)) (r2'.below hW (Nat.le_refl _)) (by omega) (by omega)).mono ?_
        rintro e w' ⟨h1, h2⟩
        exact ⟨by rw [h1]; simp, h2⟩
      clear hx hcell hcs r2 hf hdell hds r2'
      obtain ⟨xk, xr, xs, xn⟩ := x
      simp only at c0 c1 c2 c3 d0 d1 d2 d3 HSm hsl
      have bD : Below wr.heap.size wr wr.drew := (Below.refl _ wr).drew
      have kp0 : wr.drew.cell? ⟨b, off + k * 4, none⟩ = some (.int .i64 xk) ∧ wr.drew.cell? ⟨b, off + k * 4 + 1, none⟩ = some (.int .i32 xr) ∧ wr.drew.cell? ⟨b, off + k * 4 + 3, none⟩ = some (.string xn) ∧ wr.drew.cell? ⟨b, off + k * 4 + 2, none⟩ = some (.slice so xs.length sc) ∧ wr.drew.cell? ⟨d, of2 + k * 4, none⟩ = some (.int .i64 xk) ∧ wr.drew.cell? ⟨d, of2 + k * 4 + 1, none⟩ = some (.int .i32 xr) ∧ wr.drew.cell? ⟨d, of2 + k * 4 + 3, none⟩ = some (.string xn) ∧ wr.drew.cell? ⟨d, of2 + k * 4 + 2, none⟩ = some (.slice so2 xs.length sc2) := ⟨c0, c1, c3, c2, d0, d1, d3, d2⟩
      have hks : k ≤ 1000 := by omega
      go_wp2
      go_region_held3 (fun w' => w'.cell? ⟨b, off + k * 4, none⟩ = some (.int .i64 xk) ∧ w'.cell? ⟨b, off + k * 4 + 1, none⟩ = some (.int .i32 xr) ∧ w'.cell? ⟨b, off + k * 4 + 3, none⟩ = some (.string xn) ∧ w'.cell? ⟨b, off + k * 4 + 2, none⟩ = some (.slice so xs.length sc) ∧ w'.cell? ⟨d, of2 + k * 4, none⟩ = some (.int .i64 xk) ∧ w'.cell? ⟨d, of2 + k * 4 + 1, none⟩ = some (.int .i32 xr) ∧ w'.cell? ⟨d, of2 + k * 4 + 3, none⟩ = some (.string xn) ∧ w'.cell? ⟨d, of2 + k * 4 + 2, none⟩ = some (.slice so2 xs.length sc2))
        (first | exact kp1 | exact kp0 | go_keep)
        (first
          | (go_at_call 25; refine (HSm.out _ bD).mono ?_; rintro e w5 ⟨rfl, b5⟩; have kk := R.Keeps.of_below b5 (Nat.le_refl _); have kp1 : w5.cell? ⟨b, off + k * 4, none⟩ = some (.int .i64 xk) ∧ w5.cell? ⟨b, off + k * 4 + 1, none⟩ = some (.int .i32 xr) ∧ w5.cell? ⟨b, off + k * 4 + 3, none⟩ = some (.string xn) ∧ w5.cell? ⟨b, off + k * 4 + 2, none⟩ = some (.slice so xs.length sc) ∧ w5.cell? ⟨d, of2 + k * 4, none⟩ = some (.int .i64 xk) ∧ w5.cell? ⟨d, of2 + k * 4 + 1, none⟩ = some (.int .i32 xr) ∧ w5.cell? ⟨d, of2 + k * 4 + 3, none⟩ = some (.string xn) ∧ w5.cell? ⟨d, of2 + k * 4 + 2, none⟩ = some (.slice so2 xs.length sc2) := ⟨kk _ _ _ c0, kk _ _ _ c1, kk _ _ _ c3, kk _ _ _ c2, kk _ _ _ d0, kk _ _ _ d1, kk _ _ _ d3, kk _ _ _ d2⟩; have HB5 : Hid (Below wr.drew.heap.size wr.drew w5) := b5; clear b5 kk)
          | fail)
      all_goals clear kp0 kp1
      all_goals have HB6 : Hid (Below w.heap.size w w5) := (HB.out.trans (bD.mono HB.out.size)).trans (HB5.out.mono (HB.out.trans (bD.mono HB.out.size)).size)
      all_goals go_wp2
      all_goals go_roundw
      all_goals first
        | exact ⟨k + 1, by omega, by go_num, HB6⟩
        | (simp [intOf]; omega)
    · go_wp2
      go_ret
      exact ⟨rfl, HB.out⟩

set_option maxHeartbeats 8000000 in
theorem sameSide_eq (w : World) (va vb : Value) (s : R.Side) (R1 : R.SdIs w va s) (R2 : R.SdIs w vb s) (h20 : s.before.length ≤ 1000 ∧ s.source.length ≤ 1000 ∧ s.after.length ≤ 1000) (hs : ∀ x ∈ s.before ++ s.source ++ s.after, x.set.length ≤ 1000) :
    Calls Tryz.prog 26 #[va, vb] w fun e w' => e = .returned (.bool true) ∧ Below w.heap.size w w' := by
  obtain ⟨bo, bc, so, sc, ao, ac, rfl, i1, i2, i3, _⟩ := R1
  obtain ⟨bo', bc', so', sc', ao', ac', rfl, j1, j2, j3, _⟩ := R2
  have H1 : Hid (∀ W, Below w.heap.size w W → Calls Tryz.prog 41 #[.slice bo s.before.length bc, .slice bo' s.before.length bc'] W fun e w' => e = .returned (.bool true) ∧ Below W.heap.size W w') := fun W hW => sameItems_eq W _ _ s.before (i1.below hW) (j1.below hW) h20.1 (fun x hx => hs x (by simp [hx]))
  have H2 : Hid (∀ W, Below w.heap.size w W → Calls Tryz.prog 41 #[.slice so s.source.length sc, .slice so' s.source.length sc'] W fun e w' => e = .returned (.bool true) ∧ Below W.heap.size W w') := fun W hW => sameItems_eq W _ _ s.source (i2.below hW) (j2.below hW) h20.2.1 (fun x hx => hs x (by simp [hx]))
  have H3 : Hid (∀ W, Below w.heap.size w W → Calls Tryz.prog 41 #[.slice ao s.after.length ac, .slice ao' s.after.length ac'] W fun e w' => e = .returned (.bool true) ∧ Below W.heap.size W w') := fun W hW => sameItems_eq W _ _ s.after (i3.below hW) (j3.below hW) h20.2.2 (fun x hx => hs x (by simp [hx]))
  obtain ⟨st, fi, be, sr, af, cu⟩ := s
  simp only at H1 H2 H3
  clear i1 i2 i3 j1 j2 j3 h20 hs
  have B0 : Below w.heap.size w ((w.alloc (.cells #[.bool st, .bool fi, .slice bo be.length bc, .slice so sr.length sc, .slice ao af.length ac, .int .i64 cu] 47)).alloc (.cells #[.bool st, .bool fi, .slice bo' be.length bc', .slice so' sr.length sc', .slice ao' af.length ac', .int .i64 cu] 47)) := ((Below.refl _ w).alloc (Nat.le_refl _) _).alloc (by simp) _
  have x1 := heap_alloc_new w (.cells #[.bool st, .bool fi, .slice bo be.length bc, .slice so sr.length sc, .slice ao af.length ac, .int .i64 cu] 47)
  have x2 := heap_alloc_new (w.alloc (.cells #[.bool st, .bool fi, .slice bo be.length bc, .slice so sr.length sc, .slice ao af.length ac, .int .i64 cu] 47)) (.cells #[.bool st, .bool fi, .slice bo' be.length bc', .slice so' sr.length sc', .slice ao' af.length ac', .int .i64 cu] 47)
  have x1' := R.box_below x1 ((Below.refl _ _).alloc (Nat.le_refl _) (.cells #[.bool st, .bool fi, .slice bo' be.length bc', .slice so' sr.length sc', .slice ao' af.length ac', .int .i64 cu] 47))
  have hsz : (w.alloc (.cells #[.bool st, .bool fi, .slice bo be.length bc, .slice so sr.length sc, .slice ao af.length ac, .int .i64 cu] 47)).heap.size = w.heap.size + 1 := by simp
  rw [hsz] at x2
  have HX : Hid _ := And.intro x1' (And.intro x2 B0)
  clear x1 x2 x1' hsz B0
  go_enter Tryz.func26, Tryz.ntmps26
  go_wp2_with fail
  refine (H1.out _ HX.out.2.2).mono ?_
  rintro e w1 ⟨rfl, b1⟩
  have B1 := HX.out.2.2.trans (b1.mono HX.out.2.2.size)
  have y1 := R.box_below HX.out.1 b1
  have y2 := R.box_below HX.out.2.1 b1
  have p3 := R.at_box (i := 3) y1 rfl
  have q3 := R.at_box (i := 3) y2 rfl
  have HY : Hid _ := And.intro y1 (And.intro y2 B1)
  clear y1 y2 B1 b1
  go_wp2_with fail
  refine (H2.out _ HY.out.2.2).mono ?_
  rintro e w2 ⟨rfl, b2⟩
  have B2 := HY.out.2.2.trans (b2.mono HY.out.2.2.size)
  have y1 := R.box_below HY.out.1 b2
  have y2 := R.box_below HY.out.2.1 b2
  have p4 := R.at_box (i := 4) y1 rfl
  have q4 := R.at_box (i := 4) y2 rfl
  have HZ : Hid (Below w.heap.size w w2) := B2
  clear y1 y2 B2 b2 p3 q3
  go_wp2_with fail
  refine (H3.out _ HZ.out).mono ?_
  rintro e w3 ⟨rfl, b3⟩
  have HB3 : Hid (Below w.heap.size w w3) := HZ.out.trans (b3.mono HZ.out.size)
  clear b3
  go_wp2
  go_ret
  exact ⟨rfl, HB3.out⟩

end Go.Proofs.YtajbcgobfkaahaaGreatDoor

/-
  Lists of parts that are the same, whole.
-/
namespace Go.Proofs.YtajbcgobfkaahaaGreatDoor
open Go.RowKit
set_option maxRecDepth 20000
set_option linter.unusedSimpArgs false
set_option linter.unusedVariables false

theorem R.row_put {w : World} {g : Nat} {t : TypeId} {old : Array Value} (h : w.heap[g]? = some (.cells old t)) (new : Array Value) : (w.setRow g new).heap[g]? = some (.cells new t) ∧ w.grownBy (w.setRow g new) (some g) :=
  ⟨setRow_heap w g old new t _ h, rfl, rfl, rfl, by simp, fun k _ hk => setRow_other w g k _ (fun e => hk (by simp [e]))⟩
theorem R.blk_put {w w' : World} {b g : Nat} {o : Obj} (h : w.heap[b]? = some o) (hg : w.grownBy w' (some g)) (hne : b ≠ g) : w'.heap[b]? = some o := by
  rw [hg.block b (Array.getElem?_eq_some_iff.1 h).1 (by simpa using hne)]; exact h
theorem R.keeps_row {w0 w w' : World} {g : Nat} (h : R.Keeps w0 w) (hg : w.grownBy w' (some g)) (hne : w0.heap.size ≤ g) : R.Keeps w0 w' := fun b o u hu => by
  have h1 := L.block_lt hu
  have h2 := h b o u hu
  rw [World.cell?_of_block (a := ⟨b, o, none⟩) (hg.block b (L.block_lt h2) (by simp; omega))]
  exact h2

/-- small enough to be held against each other -/
def R.Small (p : R.Part) : Prop := p.set.length ≤ 1000 ∧ (p.left.before.length ≤ 1000 ∧ p.left.source.length ≤ 1000 ∧ p.left.after.length ≤ 1000) ∧ (∀ x ∈ p.left.before ++ p.left.source ++ p.left.after, x.set.length ≤ 1000) ∧ (p.right.before.length ≤ 1000 ∧ p.right.source.length ≤ 1000 ∧ p.right.after.length ≤ 1000) ∧ (∀ x ∈ p.right.before ++ p.right.source ++ p.right.after, x.set.length ≤ 1000)

set_option maxHeartbeats 16000000 in
theorem Same_eq (w : World) (va vb : Value) (l : List R.Part) (R1 : R.Pts w va l) (R2 : R.Pts w vb l) (hl : l.length ≤ 1000) (hs : ∀ p ∈ l, R.Small p) :
    Calls Tryz.prog 10 #[va, vb] w fun e w' => e = .returned (.bool true) ∧ Below w.heap.size w w' := by
  have HR1 : Hid (R.Pts w va l) := R1
  have HR2 : Hid (R.Pts w vb l) := R2
  have HS : Hid (∀ p ∈ l, R.Small p) := hs
  obtain ⟨ao, ca, rfl⟩ := R1.len
  obtain ⟨bo, cb, rfl⟩ := R2.len
  clear R1 R2 hs
  go_enter Tryz.func10, Tryz.ntmps10
  go_wp2
  go_loopw [15] (fun i wr => ∃ k : Nat, k ≤ l.length ∧ i = .int .i64 k ∧ Hid (Below w.heap.size w wr)) (fun i _ => l.length - (intOf i).toNat)
  case atStart => exact ⟨0, Nat.zero_le _, rfl, Below.refl _ w⟩
  case round =>
    obtain ⟨k, hk, rfl, HB⟩ := hrel
    by_cases hlt : k < l.length
    · obtain ⟨x, hx⟩ : ∃ x, l[k]? = some x := ⟨l[k], by simp [hlt]⟩
      obtain ⟨ao', ca', e', hcs⟩ := HR1.out.below HB.out
      cases e'
      obtain ⟨b, off, rfl, hcell⟩ := hcs (by intro h; subst h; simp at hlt)
      obtain ⟨so, sc, lb, lbc, ls, lsc, la, lac, rb, rbc, rs, rsc, ra, rac, c0, c1, c2, c3, c4, c5, c6, c7, c8, c9, c10, c11, c12, c13, c14, c15, hP⟩ := hcell k x hx
      obtain ⟨bo', cb', e2, hds⟩ := HR2.out.below HB.out
      cases e2
      obtain ⟨d, of2, rfl, hdell⟩ := hds (by intro h; subst h; simp at hlt)
      obtain ⟨so2, sc2, Lb, Lbc, Ls, Lsc, La, Lac, Qb, Qbc, Qs, Qsc, Qa, Qac, d0, d1, d2, d3, d4, d5, d6, d7, d8, d9, d10, d11, d12, d13, d14, d15, hQ⟩ := hdell k x hx
      obtain ⟨hs0, hs1, hs2, hs3, hs4⟩ := HS.out x (List.mem_of_getElem? hx)
      obtain ⟨so', sc', lb', lbc', ls', lsc', la', lac', rb', rbc', rs', rsc', ra', rac', he, hA, _, hL, hR, _, _⟩ := hP.open
      simp only [Value.agg.injEq, Array.mk.injEq, List.cons.injEq, Value.slice.injEq, true_and, and_true] at he
      obtain ⟨⟨rfl, rfl⟩, ⟨rfl, rfl⟩, ⟨rfl, rfl⟩, ⟨rfl, rfl⟩, ⟨rfl, rfl⟩, ⟨rfl, rfl⟩, ⟨rfl, rfl⟩⟩ := he
      obtain ⟨so', sc', lb', lbc', ls', lsc', la', lac', rb', rbc', rs', rsc', ra', rac', he, hA2, _, hL2, hR2, _, _⟩ := hQ.open
      simp only [Value.agg.injEq, Array.mk.injEq, List.cons.injEq, Value.slice.injEq, true_and, and_true] at he
      obtain ⟨⟨rfl, rfl⟩, ⟨rfl, rfl⟩, ⟨rfl, rfl⟩, ⟨rfl, rfl⟩, ⟨rfl, rfl⟩, ⟨rfl, rfl⟩, ⟨rfl, rfl⟩⟩ := he
      have H1 : Hid (∀ W, Below wr.heap.size wr W → Calls Tryz.prog 25 #[.slice so x.set.length sc, .slice so2 x.set.length sc2] W fun e w' => e = .returned (.bool true) ∧ Below W.heap.size W w') := fun W hW => by
        refine (same_any W _ _ x.set x.set (hA.below hW (Nat.le_refl _)) (hA2.below hW (Nat.le_refl _)) (by omega) (by omega)).mono ?_
        rintro e w' ⟨h1, h2⟩
        exact ⟨by rw [h1]; simp, h2⟩
      have H2 : Hid (∀ W, Below wr.heap.size wr W → Calls Tryz.prog 26 #[.agg #[.bool x.left.start, .bool x.left.fin, .slice lb x.left.before.length lbc, .slice ls x.left.source.length lsc, .slice la x.left.after.length lac, .int .i64 x.left.cursor], .agg #[.bool x.left.start, .bool x.left.fin, .slice Lb x.left.before.length Lbc, .slice Ls x.left.source.length Lsc, .slice La x.left.after.length Lac, .int .i64 x.left.cursor]] W fun e w' => e = .returned (.bool true) ∧ Below W.heap.size W w') := fun W hW => sameSide_eq W _ _ x.left (hL.below hW) (hL2.below hW) hs1 hs2
      have H3 : Hid (∀ W, Below wr.heap.size wr W → Calls Tryz.prog 26 #[.agg #[.bool x.right.start, .bool x.right.fin, .slice rb x.right.before.length rbc, .slice rs x.right.source.length rsc, .slice ra x.right.after.length rac, .int .i64 x.right.cursor], .agg #[.bool x.right.start, .bool x.right.fin, .slice Qb x.right.before.length Qbc, .slice Qs x.right.source.length Qsc, .slice Qa x.right.after.length Qac, .int .i64 x.right.cursor]] W fun e w' => e = .returned (.bool true) ∧ Below W.heap.size W w') := fun W hW => sameSide_eq W _ _ x.right (hR.below hW) (hR2.below hW) hs3 hs4
      clear hx hcell hcs hP hdell hds hQ hA hA2 hL hL2 hR hR2 hs0 hs1 hs2 hs3 hs4
      obtain ⟨pk, pn, ps, pd, ⟨lst, lfi, lbe, lsr, laf, lcu⟩, ⟨rst, rfi, rbe, rsr, raf, rcu⟩⟩ := x
      simp only at c0 c1 c2 c3 c4 c5 c6 c7 c8 c9 c10 c11 c12 c13 c14 c15 d0 d1 d2 d3 d4 d5 d6 d7 d8 d9 d10 d11 d12 d13 d14 d15 H1 H2 H3
      have hks : k ≤ 1000 := by omega
      have h0 : R.Keeps wr wr.drew := fun b o u h => h
      go_wp2
      refine wp_region_held_drew (S := fun w' => R.Keeps wr w') (by kernel_rfl) h0 (fun hHeld => ?_)
      refine wpAnyH_take (i := 0) (v := ?v0_1) rfl (by kernel_rfl) (by kernel_rfl) (by kernel_rfl) (fun _ _ _ h => h) (Or.inl ⟨by rfl, ?hy0_1⟩) (by assumption) ?rest0_1
      case hy0_1 => (intro w hSw; (try dsimp only at hSw); go_simp; try (with_reducible rfl))
      try simp only [Act.put, List.setIfInBounds_toArray, List.set_cons_zero, List.set_cons_succ]
      refine wpAnyH_take (i := 1) (v := ?v1_2) rfl (by kernel_rfl) (by kernel_rfl) (by kernel_rfl) (fun _ _ _ h => h) (Or.inl ⟨by rfl, ?hy1_2⟩) (by assumption) ?rest1_2
      case hy1_2 => (intro w hSw; (try dsimp only at hSw); go_simp; try (with_reducible rfl))
      try simp only [Act.put, List.setIfInBounds_toArray, List.set_cons_zero, List.set_cons_succ]
      refine wpAnyH_take (i := 2) (v := ?v2_3) rfl (by kernel_rfl) (by kernel_rfl) (by kernel_rfl) (fun _ _ _ h => h) (Or.inl ⟨by rfl, ?hy2_3⟩) (by assumption) ?rest2_3
      case hy2_3 => (intro w hSw; (try dsimp only at hSw); go_simp; try (with_reducible rfl))
      try simp only [Act.put, List.setIfInBounds_toArray, List.set_cons_zero, List.set_cons_succ]
      refine wpAnyH_take (i := 3) (v := ?v3_4) rfl (by kernel_rfl) (by kernel_rfl) (by kernel_rfl) (fun _ _ _ h => h) (Or.inl ⟨by rfl, ?hy3_4⟩) (by assumption) ?rest3_4
      case hy3_4 =>
        intro w hSw
        have e0 := hSw _ _ _ c0
        have e1 := hSw _ _ _ c1
        have e2 := hSw _ _ _ c2
        have e3 := hSw _ _ _ c3
        have e4 := hSw _ _ _ c4
        have e5 := hSw _ _ _ c5
        have e6 := hSw _ _ _ c6
        have e7 := hSw _ _ _ c7
        have e8 := hSw _ _ _ c8
        have e9 := hSw _ _ _ c9
        have e10 := hSw _ _ _ c10
        have e11 := hSw _ _ _ c11
        have e12 := hSw _ _ _ c12
        have e13 := hSw _ _ _ c13
        have e14 := hSw _ _ _ c14
        have e15 := hSw _ _ _ c15
        go_simp
        try (with_reducible rfl)
      try simp only [Act.put, List.setIfInBounds_toArray, List.set_cons_zero, List.set_cons_succ]
      refine wpAnyH_take (i := 4) (v := ?v4_5) rfl (by kernel_rfl) (by kernel_rfl) (by kernel_rfl) (fun _ _ _ h => h) (Or.inl ⟨by rfl, ?hy4_5⟩) (by assumption) ?rest4_5
      case hy4_5 => (intro w hSw; (try dsimp only at hSw); go_simp; try (with_reducible rfl))
      try simp only [Act.put, List.setIfInBounds_toArray, List.set_cons_zero, List.set_cons_succ]
      refine wpAnyH_take (i := 5) (v := ?v5_6) rfl (by kernel_rfl) (by kernel_rfl) (by kernel_rfl) (fun _ _ _ h => h) (Or.inl ⟨by rfl, ?hy5_6⟩) (by assumption) ?rest5_6
      case hy5_6 => (intro w hSw; (try dsimp only at hSw); go_simp; try (with_reducible rfl))
      try simp only [Act.put, List.setIfInBounds_toArray, List.set_cons_zero, List.set_cons_succ]
      refine wpAnyH_take (i := 6) (v := ?v6_7) rfl (by kernel_rfl) (by kernel_rfl) (by kernel_rfl) (fun _ _ _ h => h) (Or.inl ⟨by rfl, ?hy6_7⟩) (by assumption) ?rest6_7
      case hy6_7 => (intro w hSw; (try dsimp only at hSw); go_simp; try (with_reducible rfl))
      try simp only [Act.put, List.setIfInBounds_toArray, List.set_cons_zero, List.set_cons_succ]
      refine wpAnyH_take (i := 7) (v := ?v7_8) rfl (by kernel_rfl) (by kernel_rfl) (by kernel_rfl) (fun _ _ _ h => h) (Or.inl ⟨by rfl, ?hy7_8⟩) (by assumption) ?rest7_8
      case hy7_8 =>
        intro w hSw
        have e0 := hSw _ _ _ d0
        have e1 := hSw _ _ _ d1
        have e2 := hSw _ _ _ d2
        have e3 := hSw _ _ _ d3
        have e4 := hSw _ _ _ d4
        have e5 := hSw _ _ _ d5
        have e6 := hSw _ _ _ d6
        have e7 := hSw _ _ _ d7
        have e8 := hSw _ _ _ d8
        have e9 := hSw _ _ _ d9
        have e10 := hSw _ _ _ d10
        have e11 := hSw _ _ _ d11
        have e12 := hSw _ _ _ d12
        have e13 := hSw _ _ _ d13
        have e14 := hSw _ _ _ d14
        have e15 := hSw _ _ _ d15
        go_simp
        try (with_reducible rfl)
      try simp only [Act.put, List.setIfInBounds_toArray, List.set_cons_zero, List.set_cons_succ]
      clear c0 c1 c2 c3 c4 c5 c6 c7 c8 c9 c10 c11 c12 c13 c14 c15 d0 d1 d2 d3 d4 d5 d6 d7 d8 d9 d10 d11 d12 d13 d14 d15
      refine wpAnyH_ready (rs := [8, 9]) (by kernel_rfl) (by simp) ?_
      refine AllReadyH.cons rfl (fun K hK => ?_) ?_
      · go_simp
        refine hK.out _ _ (h0.trans (R.Keeps.alloc _ _)) (fun hH1 => ?_)
        clear hK K
        try simp only [Act.put, List.setIfInBounds_toArray, List.set_cons_zero, List.set_cons_succ]
        refine wpAnyH_ready (rs := [9]) (by kernel_rfl) (by simp) ?_
        refine AllReadyH.cons rfl (fun K hK => ?_) AllReadyH.nil
        go_simp
        refine hK.out _ _ ((h0.trans (R.Keeps.alloc _ _)).trans (R.Keeps.alloc _ _)) (fun hH2 => ?_)
        clear hK K
        try simp only [Act.put, List.setIfInBounds_toArray, List.set_cons_zero, List.set_cons_succ]
        have B0 : Below wr.heap.size wr ((wr.alloc (.cells #[.int .i64 0, .string ⟨#[]⟩, .slice none 0 0, .int .i64 0, .bool false, .bool false, .slice none 0 0, .slice none 0 0, .slice none 0 0, .int .i64 0, .bool false, .bool false, .slice none 0 0, .slice none 0 0, .slice none 0 0, .int .i64 0] 49)).alloc (.cells #[.int .i64 0, .string ⟨#[]⟩, .slice none 0 0, .int .i64 0, .bool false, .bool false, .slice none 0 0, .slice none 0 0, .slice none 0 0, .int .i64 0, .bool false, .bool false, .slice none 0 0, .slice none 0 0, .slice none 0 0, .int .i64 0] 49)).drew := (((Below.refl _ wr).alloc (Nat.le_refl _) _).alloc (by simp) _).drew
        have x1 : ((wr.alloc (.cells #[.int .i64 0, .string ⟨#[]⟩, .slice none 0 0, .int .i64 0, .bool false, .bool false, .slice none 0 0, .slice none 0 0, .slice none 0 0, .int .i64 0, .bool false, .bool false, .slice none 0 0, .slice none 0 0, .slice none 0 0, .int .i64 0] 49)).alloc (.cells #[.int .i64 0, .string ⟨#[]⟩, .slice none 0 0, .int .i64 0, .bool false, .bool false, .slice none 0 0, .slice none 0 0, .slice none 0 0, .int .i64 0, .bool false, .bool false, .slice none 0 0, .slice none 0 0, .slice none 0 0, .int .i64 0] 49)).drew.heap[wr.heap.size]? = some (.cells #[.int .i64 0, .string ⟨#[]⟩, .slice none 0 0, .int .i64 0, .bool false, .bool false, .slice none 0 0, .slice none 0 0, .slice none 0 0, .int .i64 0, .bool false, .bool false, .slice none 0 0, .slice none 0 0, .slice none 0 0, .int .i64 0] 49) := heap_alloc2_old wr _ _
        have x2 : ((wr.alloc (.cells #[.int .i64 0, .string ⟨#[]⟩, .slice none 0 0, .int .i64 0, .bool false, .bool false, .slice none 0 0, .slice none 0 0, .slice none 0 0, .int .i64 0, .bool false, .bool false, .slice none 0 0, .slice none 0 0, .slice none 0 0, .int .i64 0] 49)).alloc (.cells #[.int .i64 0, .string ⟨#[]⟩, .slice none 0 0, .int .i64 0, .bool false, .bool false, .slice none 0 0, .slice none 0 0, .slice none 0 0, .int .i64 0, .bool false, .bool false, .slice none 0 0, .slice none 0 0, .slice none 0 0, .int .i64 0] 49)).drew.heap[wr.heap.size + 1]? = some (.cells #[.int .i64 0, .string ⟨#[]⟩, .slice none 0 0, .int .i64 0, .bool false, .bool false, .slice none 0 0, .slice none 0 0, .slice none 0 0, .int .i64 0, .bool false, .bool false, .slice none 0 0, .slice none 0 0, .slice none 0 0, .int .i64 0] 49) := heap_alloc2_new wr _ _
        have hH2' : R.Keeps wr ((wr.alloc (.cells #[.int .i64 0, .string ⟨#[]⟩, .slice none 0 0, .int .i64 0, .bool false, .bool false, .slice none 0 0, .slice none 0 0, .slice none 0 0, .int .i64 0, .bool false, .bool false, .slice none 0 0, .slice none 0 0, .slice none 0 0, .int .i64 0] 49)).alloc (.cells #[.int .i64 0, .string ⟨#[]⟩, .slice none 0 0, .int .i64 0, .bool false, .bool false, .slice none 0 0, .slice none 0 0, .slice none 0 0, .int .i64 0, .bool false, .bool false, .slice none 0 0, .slice none 0 0, .slice none 0 0, .int .i64 0] 49)).drew := hH2
        clear hH2 hH1 hHeld
        generalize ((wr.alloc (.cells #[.int .i64 0, .string ⟨#[]⟩, .slice none 0 0, .int .i64 0, .bool false, .bool false, .slice none 0 0, .slice none 0 0, .slice none 0 0, .int .i64 0, .bool false, .bool false, .slice none 0 0, .slice none 0 0, .slice none 0 0, .int .i64 0] 49)).alloc (.cells #[.int .i64 0, .string ⟨#[]⟩, .slice none 0 0, .int .i64 0, .bool false, .bool false, .slice none 0 0, .slice none 0 0, .slice none 0 0, .int .i64 0, .bool false, .bool false, .slice none 0 0, .slice none 0 0, .slice none 0 0, .int .i64 0] 49)).drew = wz at B0 x1 x2 hH2' ⊢
        refine wpAnyH_ready (rs := [10]) (by kernel_rfl) (by simp) ?_
        refine AllReadyH.cons rfl (fun K hK => ?_) AllReadyH.nil
        rw [if_pos (by rfl)]
        refine wp_store_row 49 (.tmp 6) (.tmp 21) rfl (wr.heap.size) #[.int .i64 pk, .string pn, .slice so ps.length sc, .int .i64 pd, .bool lst, .bool lfi, .slice lb lbe.length lbc, .slice ls lsr.length lsc, .slice la laf.length lac, .int .i64 lcu, .bool rst, .bool rfi, .slice rb rbe.length rbc, .slice rs rsr.length rsc, .slice ra raf.length rac, .int .i64 rcu] rfl rfl 49 _ x1 (by kernel_rfl) rfl (by simp [Value.oneCell']) ?_
        obtain ⟨r6, gr6⟩ := R.row_put x1 #[.int .i64 pk, .string pn, .slice so ps.length sc, .int .i64 pd, .bool lst, .bool lfi, .slice lb lbe.length lbc, .slice ls lsr.length lsc, .slice la laf.length lac, .int .i64 lcu, .bool rst, .bool rfi, .slice rb rbe.length rbc, .slice rs rsr.length rsc, .slice ra raf.length rac, .int .i64 rcu]
        have hK6 : R.Keeps wr (wz.setRow (wr.heap.size) #[.int .i64 pk, .string pn, .slice so ps.length sc, .int .i64 pd, .bool lst, .bool lfi, .slice lb lbe.length lbc, .slice ls lsr.length lsc, .slice la laf.length lac, .int .i64 lcu, .bool rst, .bool rfi, .slice rb rbe.length rbc, .slice rs rsr.length rsc, .slice ra raf.length rac, .int .i64 rcu]) := R.keeps_row hH2' gr6 (by omega)
        have r7 := R.blk_put x2 gr6 (by omega)
        have B6 := Below.grown B0 gr6 B0.size (fun g hg => by cases hg; omega)
        refine hK.out _ _ hK6 (fun hH3 => ?_)
        clear hK K hK6
        try simp only [Act.put, List.setIfInBounds_toArray, List.set_cons_zero, List.set_cons_succ]
        have hH3' : R.Keeps wr (wz.setRow (wr.heap.size) #[.int .i64 pk, .string pn, .slice so ps.length sc, .int .i64 pd, .bool lst, .bool lfi, .slice lb lbe.length lbc, .slice ls lsr.length lsc, .slice la laf.length lac, .int .i64 lcu, .bool rst, .bool rfi, .slice rb rbe.length rbc, .slice rs rsr.length rsc, .slice ra raf.length rac, .int .i64 rcu]) := hH3
        clear hH3 gr6 B0 x1 x2 hH2'
        generalize wz.setRow (wr.heap.size) #[.int .i64 pk, .string pn, .slice so ps.length sc, .int .i64 pd, .bool lst, .bool lfi, .slice lb lbe.length lbc, .slice ls lsr.length lsc, .slice la laf.length lac, .int .i64 lcu, .bool rst, .bool rfi, .slice rb rbe.length rbc, .slice rs rsr.length rsc, .slice ra raf.length rac, .int .i64 rcu] = wy at r6 r7 B6 hH3' ⊢
        refine wpAnyH_ready (rs := [11]) (by kernel_rfl) (by simp) ?_
        refine AllReadyH.cons rfl (fun K hK => ?_) AllReadyH.nil
        rw [if_pos (by rfl)]
        refine wp_store_row 49 (.tmp 7) (.tmp 25) rfl (wr.heap.size + 1) #[.int .i64 pk, .string pn, .slice so2 ps.length sc2, .int .i64 pd, .bool lst, .bool lfi, .slice Lb lbe.length Lbc, .slice Ls lsr.length Lsc, .slice La laf.length Lac, .int .i64 lcu, .bool rst, .bool rfi, .slice Qb rbe.length Qbc, .slice Qs rsr.length Qsc, .slice Qa raf.length Qac, .int .i64 rcu] rfl rfl 49 _ r7 (by kernel_rfl) rfl (by simp [Value.oneCell']) ?_
        obtain ⟨r7b, gr7⟩ := R.row_put r7 #[.int .i64 pk, .string pn, .slice so2 ps.length sc2, .int .i64 pd, .bool lst, .bool lfi, .slice Lb lbe.length Lbc, .slice Ls lsr.length Lsc, .slice La laf.length Lac, .int .i64 lcu, .bool rst, .bool rfi, .slice Qb rbe.length Qbc, .slice Qs rsr.length Qsc, .slice Qa raf.length Qac, .int .i64 rcu]
        have hK7 : R.Keeps wr (wy.setRow (wr.heap.size + 1) #[.int .i64 pk, .string pn, .slice so2 ps.length sc2, .int .i64 pd, .bool lst, .bool lfi, .slice Lb lbe.length Lbc, .slice Ls lsr.length Lsc, .slice La laf.length Lac, .int .i64 lcu, .bool rst, .bool rfi, .slice Qb rbe.length Qbc, .slice Qs rsr.length Qsc, .slice Qa raf.length Qac, .int .i64 rcu]) := R.keeps_row hH3' gr7 (by omega)
        have r6b := R.blk_put r6 gr7 (by omega)
        have B7 := Below.grown B6 gr7 B6.size (fun g hg => by cases hg; omega)
        refine hK.out _ _ hK7 (fun hH4 => ?_)
        clear hK K hK7 hH4
        try simp only [Act.put, List.setIfInBounds_toArray, List.set_cons_zero, List.set_cons_succ]
        clear gr7 B6 r6 r7 hH3'
        generalize wy.setRow (wr.heap.size + 1) #[.int .i64 pk, .string pn, .slice so2 ps.length sc2, .int .i64 pd, .bool lst, .bool lfi, .slice Lb lbe.length Lbc, .slice Ls lsr.length Lsc, .slice La laf.length Lac, .int .i64 lcu, .bool rst, .bool rfi, .slice Qb rbe.length Qbc, .slice Qs rsr.length Qsc, .slice Qa raf.length Qac, .int .i64 rcu] = wx at r6b r7b B7 ⊢
        refine wpAnyH_done (by kernel_rfl) ?_ _
        have p0 := R.at_box (i := 0) r6b rfl
        have q0 := R.at_box (i := 0) r7b rfl
        have p1 := R.at_box (i := 1) r6b rfl
        have q1 := R.at_box (i := 1) r7b rfl
        have p2 := R.at_box (i := 2) r6b rfl
        have q2 := R.at_box (i := 2) r7b rfl
        have HX : Hid _ := And.intro r6b (And.intro r7b B7)
        clear r6b r7b B7
        go_wp2_with fail
        refine (H1.out _ HX.out.2.2).mono ?_
        rintro e w1 ⟨rfl, b1⟩
        have B1 := HX.out.2.2.trans (b1.mono HX.out.2.2.size)
        have y6 := R.box_below HX.out.1 b1
        have y7 := R.box_below HX.out.2.1 b1
        clear p0 q0 p1 q1 p2 q2
        have p3 := R.at_box (i := 3) y6 rfl
        have q3 := R.at_box (i := 3) y7 rfl
        have p4 := R.at_box (i := 4) y6 rfl
        have q4 := R.at_box (i := 4) y7 rfl
        have p5 := R.at_box (i := 5) y6 rfl
        have q5 := R.at_box (i := 5) y7 rfl
        have p6 := R.at_box (i := 6) y6 rfl
        have q6 := R.at_box (i := 6) y7 rfl
        have p7 := R.at_box (i := 7) y6 rfl
        have q7 := R.at_box (i := 7) y7 rfl
        have p8 := R.at_box (i := 8) y6 rfl
        have q8 := R.at_box (i := 8) y7 rfl
        have p9 := R.at_box (i := 9) y6 rfl
        have q9 := R.at_box (i := 9) y7 rfl
        have HY : Hid _ := And.intro y6 (And.intro y7 B1)
        clear y6 y7 B1 b1 HX
        go_wp2_with fail
        refine (H2.out _ HY.out.2.2).mono ?_
        rintro e w2 ⟨rfl, b2⟩
        have B2 := HY.out.2.2.trans (b2.mono HY.out.2.2.size)
        have y6 := R.box_below HY.out.1 b2
        have y7 := R.box_below HY.out.2.1 b2
        clear p3 q3 p4 q4 p5 q5 p6 q6 p7 q7 p8 q8 p9 q9
        have p10 := R.at_box (i := 10) y6 rfl
        have q10 := R.at_box (i := 10) y7 rfl
        have p11 := R.at_box (i := 11) y6 rfl
        have q11 := R.at_box (i := 11) y7 rfl
        have p12 := R.at_box (i := 12) y6 rfl
        have q12 := R.at_box (i := 12) y7 rfl
        have p13 := R.at_box (i := 13) y6 rfl
        have q13 := R.at_box (i := 13) y7 rfl
        have p14 := R.at_box (i := 14) y6 rfl
        have q14 := R.at_box (i := 14) y7 rfl
        have p15 := R.at_box (i := 15) y6 rfl
        have q15 := R.at_box (i := 15) y7 rfl
        have HB2 : Hid (Below wr.heap.size wr w2) := B2
        clear y6 y7 B2 b2 HY
        go_wp2_with fail
        refine (H3.out _ HB2.out).mono ?_
        rintro e w3 ⟨rfl, b3⟩
        have HB3 : Hid (Below w.heap.size w w3) := HB.out.trans ((HB2.out.trans (b3.mono HB2.out.size)).mono HB.out.size)
        clear b3
        go_wp2
        go_roundw
        case rel => exact ⟨k + 1, by omega, by go_num, HB3⟩
        case measure => simp [intOf]; omega
      refine AllReadyH.cons rfl (fun K hK => ?_) AllReadyH.nil
      · go_simp
        refine hK.out _ _ (h0.trans (R.Keeps.alloc _ _)) (fun hH1 => ?_)
        clear hK K
        try simp only [Act.put, List.setIfInBounds_toArray, List.set_cons_zero, List.set_cons_succ]
        refine wpAnyH_ready (rs := [8]) (by kernel_rfl) (by simp) ?_
        refine AllReadyH.cons rfl (fun K hK => ?_) AllReadyH.nil
        go_simp
        refine hK.out _ _ ((h0.trans (R.Keeps.alloc _ _)).trans (R.Keeps.alloc _ _)) (fun hH2 => ?_)
        clear hK K
        try simp only [Act.put, List.setIfInBounds_toArray, List.set_cons_zero, List.set_cons_succ]
        have B0 : Below wr.heap.size wr ((wr.alloc (.cells #[.int .i64 0, .string ⟨#[]⟩, .slice none 0 0, .int .i64 0, .bool false, .bool false, .slice none 0 0, .slice none 0 0, .slice none 0 0, .int .i64 0, .bool false, .bool false, .slice none 0 0, .slice none 0 0, .slice none 0 0, .int .i64 0] 49)).alloc (.cells #[.int .i64 0, .string ⟨#[]⟩, .slice none 0 0, .int .i64 0, .bool false, .bool false, .slice none 0 0, .slice none 0 0, .slice none 0 0, .int .i64 0, .bool false, .bool false, .slice none 0 0, .slice none 0 0, .slice none 0 0, .int .i64 0] 49)).drew := (((Below.refl _ wr).alloc (Nat.le_refl _) _).alloc (by simp) _).drew
        have x1 : ((wr.alloc (.cells #[.int .i64 0, .string ⟨#[]⟩, .slice none 0 0, .int .i64 0, .bool false, .bool false, .slice none 0 0, .slice none 0 0, .slice none 0 0, .int .i64 0, .bool false, .bool false, .slice none 0 0, .slice none 0 0, .slice none 0 0, .int .i64 0] 49)).alloc (.cells #[.int .i64 0, .string ⟨#[]⟩, .slice none 0 0, .int .i64 0, .bool false, .bool false, .slice none 0 0, .slice none 0 0, .slice none 0 0, .int .i64 0, .bool false, .bool false, .slice none 0 0, .slice none 0 0, .slice none 0 0, .int .i64 0] 49)).drew.heap[wr.heap.size]? = some (.cells #[.int .i64 0, .string ⟨#[]⟩, .slice none 0 0, .int .i64 0, .bool false, .bool false, .slice none 0 0, .slice none 0 0, .slice none 0 0, .int .i64 0, .bool false, .bool false, .slice none 0 0, .slice none 0 0, .slice none 0 0, .int .i64 0] 49) := heap_alloc2_old wr _ _
        have x2 : ((wr.alloc (.cells #[.int .i64 0, .string ⟨#[]⟩, .slice none 0 0, .int .i64 0, .bool false, .bool false, .slice none 0 0, .slice none 0 0, .slice none 0 0, .int .i64 0, .bool false, .bool false, .slice none 0 0, .slice none 0 0, .slice none 0 0, .int .i64 0] 49)).alloc (.cells #[.int .i64 0, .string ⟨#[]⟩, .slice none 0 0, .int .i64 0, .bool false, .bool false, .slice none 0 0, .slice none 0 0, .slice none 0 0, .int .i64 0, .bool false, .bool false, .slice none 0 0, .slice none 0 0, .slice none 0 0, .int .i64 0] 49)).drew.heap[wr.heap.size + 1]? = some (.cells #[.int .i64 0, .string ⟨#[]⟩, .slice none 0 0, .int .i64 0, .bool false, .bool false, .slice none 0 0, .slice none 0 0, .slice none 0 0, .int .i64 0, .bool false, .bool false, .slice none 0 0, .slice none 0 0, .slice none 0 0, .int .i64 0] 49) := heap_alloc2_new wr _ _
        have hH2' : R.Keeps wr ((wr.alloc (.cells #[.int .i64 0, .string ⟨#[]⟩, .slice none 0 0, .int .i64 0, .bool false, .bool false, .slice none 0 0, .slice none 0 0, .slice none 0 0, .int .i64 0, .bool false, .bool false, .slice none 0 0, .slice none 0 0, .slice none 0 0, .int .i64 0] 49)).alloc (.cells #[.int .i64 0, .string ⟨#[]⟩, .slice none 0 0, .int .i64 0, .bool false, .bool false, .slice none 0 0, .slice none 0 0, .slice none 0 0, .int .i64 0, .bool false, .bool false, .slice none 0 0, .slice none 0 0, .slice none 0 0, .int .i64 0] 49)).drew := hH2
        clear hH2 hH1 hHeld
        generalize ((wr.alloc (.cells #[.int .i64 0, .string ⟨#[]⟩, .slice none 0 0, .int .i64 0, .bool false, .bool false, .slice none 0 0, .slice none 0 0, .slice none 0 0, .int .i64 0, .bool false, .bool false, .slice none 0 0, .slice none 0 0, .slice none 0 0, .int .i64 0] 49)).alloc (.cells #[.int .i64 0, .string ⟨#[]⟩, .slice none 0 0, .int .i64 0, .bool false, .bool false, .slice none 0 0, .slice none 0 0, .slice none 0 0, .int .i64 0, .bool false, .bool false, .slice none 0 0, .slice none 0 0, .slice none 0 0, .int .i64 0] 49)).drew = wz at B0 x1 x2 hH2' ⊢
        refine wpAnyH_ready (rs := [10]) (by kernel_rfl) (by simp) ?_
        refine AllReadyH.cons rfl (fun K hK => ?_) AllReadyH.nil
        rw [if_pos (by rfl)]
        refine wp_store_row 49 (.tmp 6) (.tmp 21) rfl (wr.heap.size + 1) #[.int .i64 pk, .string pn, .slice so ps.length sc, .int .i64 pd, .bool lst, .bool lfi, .slice lb lbe.length lbc, .slice ls lsr.length lsc, .slice la laf.length lac, .int .i64 lcu, .bool rst, .bool rfi, .slice rb rbe.length rbc, .slice rs rsr.length rsc, .slice ra raf.length rac, .int .i64 rcu] rfl rfl 49 _ x2 (by kernel_rfl) rfl (by simp [Value.oneCell']) ?_
        obtain ⟨r6, gr6⟩ := R.row_put x2 #[.int .i64 pk, .string pn, .slice so ps.length sc, .int .i64 pd, .bool lst, .bool lfi, .slice lb lbe.length lbc, .slice ls lsr.length lsc, .slice la laf.length lac, .int .i64 lcu, .bool rst, .bool rfi, .slice rb rbe.length rbc, .slice rs rsr.length rsc, .slice ra raf.length rac, .int .i64 rcu]
        have hK6 : R.Keeps wr (wz.setRow (wr.heap.size + 1) #[.int .i64 pk, .string pn, .slice so ps.length sc, .int .i64 pd, .bool lst, .bool lfi, .slice lb lbe.length lbc, .slice ls lsr.length lsc, .slice la laf.length lac, .int .i64 lcu, .bool rst, .bool rfi, .slice rb rbe.length rbc, .slice rs rsr.length rsc, .slice ra raf.length rac, .int .i64 rcu]) := R.keeps_row hH2' gr6 (by omega)
        have r7 := R.blk_put x1 gr6 (by omega)
        have B6 := Below.grown B0 gr6 B0.size (fun g hg => by cases hg; omega)
        refine hK.out _ _ hK6 (fun hH3 => ?_)
        clear hK K hK6
        try simp only [Act.put, List.setIfInBounds_toArray, List.set_cons_zero, List.set_cons_succ]
        have hH3' : R.Keeps wr (wz.setRow (wr.heap.size + 1) #[.int .i64 pk, .string pn, .slice so ps.length sc, .int .i64 pd, .bool lst, .bool lfi, .slice lb lbe.length lbc, .slice ls lsr.length lsc, .slice la laf.length lac, .int .i64 lcu, .bool rst, .bool rfi, .slice rb rbe.length rbc, .slice rs rsr.length rsc, .slice ra raf.length rac, .int .i64 rcu]) := hH3
        clear hH3 gr6 B0 x1 x2 hH2'
        generalize wz.setRow (wr.heap.size + 1) #[.int .i64 pk, .string pn, .slice so ps.length sc, .int .i64 pd, .bool lst, .bool lfi, .slice lb lbe.length lbc, .slice ls lsr.length lsc, .slice la laf.length lac, .int .i64 lcu, .bool rst, .bool rfi, .slice rb rbe.length rbc, .slice rs rsr.length rsc, .slice ra raf.length rac, .int .i64 rcu] = wy at r6 r7 B6 hH3' ⊢
        refine wpAnyH_ready (rs := [11]) (by kernel_rfl) (by simp) ?_
        refine AllReadyH.cons rfl (fun K hK => ?_) AllReadyH.nil
        rw [if_pos (by rfl)]
        refine wp_store_row 49 (.tmp 7) (.tmp 25) rfl (wr.heap.size) #[.int .i64 pk, .string pn, .slice so2 ps.length sc2, .int .i64 pd, .bool lst, .bool lfi, .slice Lb lbe.length Lbc, .slice Ls lsr.length Lsc, .slice La laf.length Lac, .int .i64 lcu, .bool rst, .bool rfi, .slice Qb rbe.length Qbc, .slice Qs rsr.length Qsc, .slice Qa raf.length Qac, .int .i64 rcu] rfl rfl 49 _ r7 (by kernel_rfl) rfl (by simp [Value.oneCell']) ?_
        obtain ⟨r7b, gr7⟩ := R.row_put r7 #[.int .i64 pk, .string pn, .slice so2 ps.length sc2, .int .i64 pd, .bool lst, .bool lfi, .slice Lb lbe.length Lbc, .slice Ls lsr.length Lsc, .slice La laf.length Lac, .int .i64 lcu, .bool rst, .bool rfi, .slice Qb rbe.length Qbc, .slice Qs rsr.length Qsc, .slice Qa raf.length Qac, .int .i64 rcu]
        have hK7 : R.Keeps wr (wy.setRow (wr.heap.size) #[.int .i64 pk, .string pn, .slice so2 ps.length sc2, .int .i64 pd, .bool lst, .bool lfi, .slice Lb lbe.length Lbc, .slice Ls lsr.length Lsc, .slice La laf.length Lac, .int .i64 lcu, .bool rst, .bool rfi, .slice Qb rbe.length Qbc, .slice Qs rsr.length Qsc, .slice Qa raf.length Qac, .int .i64 rcu]) := R.keeps_row hH3' gr7 (by omega)
        have r6b := R.blk_put r6 gr7 (by omega)
        have B7 := Below.grown B6 gr7 B6.size (fun g hg => by cases hg; omega)
        refine hK.out _ _ hK7 (fun hH4 => ?_)
        clear hK K hK7 hH4
        try simp only [Act.put, List.setIfInBounds_toArray, List.set_cons_zero, List.set_cons_succ]
        clear gr7 B6 r6 r7 hH3'
        generalize wy.setRow (wr.heap.size) #[.int .i64 pk, .string pn, .slice so2 ps.length sc2, .int .i64 pd, .bool lst, .bool lfi, .slice Lb lbe.length Lbc, .slice Ls lsr.length Lsc, .slice La laf.length Lac, .int .i64 lcu, .bool rst, .bool rfi, .slice Qb rbe.length Qbc, .slice Qs rsr.length Qsc, .slice Qa raf.length Qac, .int .i64 rcu] = wx at r6b r7b B7 ⊢
        refine wpAnyH_done (by kernel_rfl) ?_ _
        have p0 := R.at_box (i := 0) r6b rfl
        have q0 := R.at_box (i := 0) r7b rfl
        have p1 := R.at_box (i := 1) r6b rfl
        have q1 := R.at_box (i := 1) r7b rfl
        have p2 := R.at_box (i := 2) r6b rfl
        have q2 := R.at_box (i := 2) r7b rfl
        have HX : Hid _ := And.intro r6b (And.intro r7b B7)
        clear r6b r7b B7
        go_wp2_with fail
        refine (H1.out _ HX.out.2.2).mono ?_
        rintro e w1 ⟨rfl, b1⟩
        have B1 := HX.out.2.2.trans (b1.mono HX.out.2.2.size)
        have y6 := R.box_below HX.out.1 b1
        have y7 := R.box_below HX.out.2.1 b1
        clear p0 q0 p1 q1 p2 q2
        have p3 := R.at_box (i := 3) y6 rfl
        have q3 := R.at_box (i := 3) y7 rfl
        have p4 := R.at_box (i := 4) y6 rfl
        have q4 := R.at_box (i := 4) y7 rfl
        have p5 := R.at_box (i := 5) y6 rfl
        have q5 := R.at_box (i := 5) y7 rfl
        have p6 := R.at_box (i := 6) y6 rfl
        have q6 := R.at_box (i := 6) y7 rfl
        have p7 := R.at_box (i := 7) y6 rfl
        have q7 := R.at_box (i := 7) y7 rfl
        have p8 := R.at_box (i := 8) y6 rfl
        have q8 := R.at_box (i := 8) y7 rfl
        have p9 := R.at_box (i := 9) y6 rfl
        have q9 := R.at_box (i := 9) y7 rfl
        have HY : Hid _ := And.intro y6 (And.intro y7 B1)
        clear y6 y7 B1 b1 HX
        go_wp2_with fail
        refine (H2.out _ HY.out.2.2).mono ?_
        rintro e w2 ⟨rfl, b2⟩
        have B2 := HY.out.2.2.trans (b2.mono HY.out.2.2.size)
        have y6 := R.box_below HY.out.1 b2
        have y7 := R.box_below HY.out.2.1 b2
        clear p3 q3 p4 q4 p5 q5 p6 q6 p7 q7 p8 q8 p9 q9
        have p10 := R.at_box (i := 10) y6 rfl
        have q10 := R.at_box (i := 10) y7 rfl
        have p11 := R.at_box (i := 11) y6 rfl
        have q11 := R.at_box (i := 11) y7 rfl
        have p12 := R.at_box (i := 12) y6 rfl
        have q12 := R.at_box (i := 12) y7 rfl
        have p13 := R.at_box (i := 13) y6 rfl
        have q13 := R.at_box (i := 13) y7 rfl
        have p14 := R.at_box (i := 14) y6 rfl
        have q14 := R.at_box (i := 14) y7 rfl
        have p15 := R.at_box (i := 15) y6 rfl
        have q15 := R.at_box (i := 15) y7 rfl
        have HB2 : Hid (Below wr.heap.size wr w2) := B2
        clear y6 y7 B2 b2 HY
        go_wp2_with fail
        refine (H3.out _ HB2.out).mono ?_
        rintro e w3 ⟨rfl, b3⟩
        have HB3 : Hid (Below w.heap.size w w3) := HB.out.trans ((HB2.out.trans (b3.mono HB2.out.size)).mono HB.out.size)
        clear b3
        go_wp2
        go_roundw
        case rel => exact ⟨k + 1, by omega, by go_num, HB3⟩
        case measure => simp [intOf]; omega
    · go_wp2
      go_ret
      exact ⟨rfl, HB.out⟩

end Go.Proofs.YtajbcgobfkaahaaGreatDoor
