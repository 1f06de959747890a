/-
  Lists of parts that are the same, whole.
-/
import Derived.Test.YtajbcgobfkaahaaGreatDoorRSame
import Derived.Deep.RegionHeld3
import Derived.Laws.Tables
namespace Go.Proofs.YtajbcgobfkaahaaGreatDoor
open Go.RowKit
set_option maxRecDepth 20000
set_option linter.unusedSimpArgs false
set_option linter.unusedVariables false

theorem R.row_put {w : World} {g : Nat} {t : TypeId} {old : Array Value} (h : w.heap[g]? = some (.cells old t)) (new : Array Value) : (w.setRow g new).heap[g]? = some (.cells new t) ∧ w.grownBy (w.setRow g new) (some g) :=
  ⟨setRow_heap w g old new t _ h, rfl, rfl, rfl, by simp, fun k _ hk => setRow_other w g k _ (fun e => hk (by simp [e]))⟩
theorem R.blk_put {w w' : World} {b g : Nat} {o : Obj} (h : w.heap[b]? = some o) (hg : w.grownBy w' (some g)) (hne : b ≠ g) : w'.heap[b]? = some o := by
  rw [hg.block b (Array.getElem?_eq_some_iff.1 h).1 (by simpa using hne)]; exact h
theorem R.keeps_row {w0 w w' : World} {g : Nat} (h : R.Keeps w0 w) (hg : w.grownBy w' (some g)) (hne : w0.heap.size ≤ g) : R.Keeps w0 w' := fun b o u hu => by
  have h1 := L.block_lt hu
  have h2 := h b o u hu
  rw [World.cell?_of_block (a := ⟨b, o, none⟩) (hg.block b (L.block_lt h2) (by simp; omega))]
  exact h2

/-- small enough to be held against each other -/
def R.Small (p : R.Part) : Prop := p.set.length ≤ 1000 ∧ (p.left.before.length ≤ 1000 ∧ p.left.source.length ≤ 1000 ∧ p.left.after.length ≤ 1000) ∧ (∀ x ∈ p.left.before ++ p.left.source ++ p.left.after, x.set.length ≤ 1000) ∧ (p.right.before.length ≤ 1000 ∧ p.right.source.length ≤ 1000 ∧ p.right.after.length ≤ 1000) ∧ (∀ x ∈ p.right.before ++ p.right.source ++ p.right.after, x.set.length ≤ 1000)

set_option maxHeartbeats 16000000 in
theorem Same_eq (w : World) (va vb : Value) (l : List R.Part) (R1 : R.Pts w va l) (R2 : R.Pts w vb l) (hl : l.length ≤ 1000) (hs : ∀ p ∈ l, R.Small p) :
    Calls Tryz.prog 10 #[va, vb] w fun e w' => e = .returned (.bool true) ∧ Below w.heap.size w w' := by
  have HR1 : Hid (R.Pts w va l) := R1
  have HR2 : Hid (R.Pts w vb l) := R2
  have HS : Hid (∀ p ∈ l, R.Small p) := hs
  obtain ⟨ao, ca, rfl⟩ := R1.len
  obtain ⟨bo, cb, rfl⟩ := R2.len
  clear R1 R2 hs
  go_enter Tryz.func10, Tryz.ntmps10
  go_wp2
  go_loopw [15] (fun i wr => ∃ k : Nat, k ≤ l.length ∧ i = .int .i64 k ∧ Hid (Below w.heap.size w wr)) (fun i _ => l.length - (intOf i).toNat)
  case atStart => exact ⟨0, Nat.zero_le _, rfl, Below.refl _ w⟩
  case round =>
    obtain ⟨k, hk, rfl, HB⟩ := hrel
    by_cases hlt : k < l.length
    · obtain ⟨x, hx⟩ : ∃ x, l[k]? = some x := ⟨l[k], by simp [hlt]⟩
      obtain ⟨ao', ca', e', hcs⟩ := HR1.out.below HB.out
      cases e'
      obtain ⟨b, off, rfl, hcell⟩ := hcs (by intro h; subst h; simp at hlt)
      obtain ⟨so, sc, lb, lbc, ls, lsc, la, lac, rb, rbc, rs, rsc, ra, rac, c0, c1, c2, c3, c4, c5, c6, c7, c8, c9, c10, c11, c12, c13, c14, c15, hP⟩ := hcell k x hx
      obtain ⟨bo', cb', e2, hds⟩ := HR2.out.below HB.out
      cases e2
      obtain ⟨d, of2, rfl, hdell⟩ := hds (by intro h; subst h; simp at hlt)
      obtain ⟨so2, sc2, Lb, Lbc, Ls, Lsc, La, Lac, Qb, Qbc, Qs, Qsc, Qa, Qac, d0, d1, d2, d3, d4, d5, d6, d7, d8, d9, d10, d11, d12, d13, d14, d15, hQ⟩ := hdell k x hx
      obtain ⟨hs0, hs1, hs2, hs3, hs4⟩ := HS.out x (List.mem_of_getElem? hx)
      obtain ⟨so', sc', lb', lbc', ls', lsc', la', lac', rb', rbc', rs', rsc', ra', rac', he, hA, _, hL, hR, _, _⟩ := hP.open
      simp only [Value.agg.injEq, Array.mk.injEq, List.cons.injEq, Value.slice.injEq, true_and, and_true] at he
      obtain ⟨⟨rfl, rfl⟩, ⟨rfl, rfl⟩, ⟨rfl, rfl⟩, ⟨rfl, rfl⟩, ⟨rfl, rfl⟩, ⟨rfl, rfl⟩, ⟨rfl, rfl⟩⟩ := he
      obtain ⟨so', sc', lb', lbc', ls', lsc', la', lac', rb', rbc', rs', rsc', ra', rac', he, hA2, _, hL2, hR2, _, _⟩ := hQ.open
      simp only [Value.agg.injEq, Array.mk.injEq, List.cons.injEq, Value.slice.injEq, true_and, and_true] at he
      obtain ⟨⟨rfl, rfl⟩, ⟨rfl, rfl⟩, ⟨rfl, rfl⟩, ⟨rfl, rfl⟩, ⟨rfl, rfl⟩, ⟨rfl, rfl⟩, ⟨rfl, rfl⟩⟩ := he
      have H1 : Hid (∀ W, Below wr.heap.size wr W → Calls Tryz.prog 25 #[.slice so x.set.length sc, .slice so2 x.set.length sc2] W fun e w' => e = .returned (.bool true) ∧ Below W.heap.size W w') := fun W hW => by
        refine (same_any W _ _ x.set x.set (hA.below hW (Nat.le_refl _)) (hA2.below hW (Nat.le_refl _)) (by omega) (by omega)).mono ?_
        rintro e w' ⟨h1, h2⟩
        exact ⟨by rw [h1]; simp, h2⟩
      have H2 : Hid (∀ W, Below wr.heap.size wr W → Calls Tryz.prog 26 #[.agg #[.bool x.left.start, .bool x.left.fin, .slice lb x.left.before.length lbc, .slice ls x.left.source.length lsc, .slice la x.left.after.length lac, .int .i64 x.left.cursor], .agg #[.bool x.left.start, .bool x.left.fin, .slice Lb x.left.before.length Lbc, .slice Ls x.left.source.length Lsc, .slice La x.left.after.length Lac, .int .i64 x.left.cursor]] W fun e w' => e = .returned (.bool true) ∧ Below W.heap.size W w') := fun W hW => sameSide_eq W _ _ x.left (hL.below hW) (hL2.below hW) hs1 hs2
      have H3 : Hid (∀ W, Below wr.heap.size wr W → Calls Tryz.prog 26 #[.agg #[.bool x.right.start, .bool x.right.fin, .slice rb x.right.before.length rbc, .slice rs x.right.source.length rsc, .slice ra x.right.after.length rac, .int .i64 x.right.cursor], .agg #[.bool x.right.start, .bool x.right.fin, .slice Qb x.right.before.length Qbc, .slice Qs x.right.source.length Qsc, .slice Qa x.right.after.length Qac, .int .i64 x.right.cursor]] W fun e w' => e = .returned (.bool true) ∧ Below W.heap.size W w') := fun W hW => sameSide_eq W _ _ x.right (hR.below hW) (hR2.below hW) hs3 hs4
      clear hx hcell hcs hP hdell hds hQ hA hA2 hL hL2 hR hR2 hs0 hs1 hs2 hs3 hs4
      obtain ⟨pk, pn, ps, pd, ⟨lst, lfi, lbe, lsr, laf, lcu⟩, ⟨rst, rfi, rbe, rsr, raf, rcu⟩⟩ := x
      simp only at c0 c1 c2 c3 c4 c5 c6 c7 c8 c9 c10 c11 c12 c13 c14 c15 d0 d1 d2 d3 d4 d5 d6 d7 d8 d9 d10 d11 d12 d13 d14 d15 H1 H2 H3
      have hks : k ≤ 1000 := by omega
      have h0 : R.Keeps wr wr.drew := fun b o u h => h
      go_wp2
      refine wp_region_held_drew (S := fun w' => R.Keeps wr w') (by kernel_rfl) h0 (fun hHeld => ?_)
      refine wpAnyH_take (i := 0) (v := ?v0_1) rfl (by kernel_rfl) (by kernel_rfl) (by kernel_rfl) (fun _ _ _ h => h) (Or.inl ⟨by rfl, ?hy0_1⟩) (by assumption) ?rest0_1
      case hy0_1 => (intro w hSw; (try dsimp only at hSw); go_simp; try (with_reducible rfl))
      try simp only [Act.put, List.setIfInBounds_toArray, List.set_cons_zero, List.set_cons_succ]
      refine wpAnyH_take (i := 1) (v := ?v1_2) rfl (by kernel_rfl) (by kernel_rfl) (by kernel_rfl) (fun _ _ _ h => h) (Or.inl ⟨by rfl, ?hy1_2⟩) (by assumption) ?rest1_2
      case hy1_2 => (intro w hSw; (try dsimp only at hSw); go_simp; try (with_reducible rfl))
      try simp only [Act.put, List.setIfInBounds_toArray, List.set_cons_zero, List.set_cons_succ]
      refine wpAnyH_take (i := 2) (v := ?v2_3) rfl (by kernel_rfl) (by kernel_rfl) (by kernel_rfl) (fun _ _ _ h => h) (Or.inl ⟨by rfl, ?hy2_3⟩) (by assumption) ?rest2_3
      case hy2_3 => (intro w hSw; (try dsimp only at hSw); go_simp; try (with_reducible rfl))
      try simp only [Act.put, List.setIfInBounds_toArray, List.set_cons_zero, List.set_cons_succ]
      refine wpAnyH_take (i := 3) (v := ?v3_4) rfl (by kernel_rfl) (by kernel_rfl) (by kernel_rfl) (fun _ _ _ h => h) (Or.inl ⟨by rfl, ?hy3_4⟩) (by assumption) ?rest3_4
      case hy3_4 =>
        intro w hSw
        have e0 := hSw _ _ _ c0
        have e1 := hSw _ _ _ c1
        have e2 := hSw _ _ _ c2
        have e3 := hSw _ _ _ c3
        have e4 := hSw _ _ _ c4
        have e5 := hSw _ _ _ c5
        have e6 := hSw _ _ _ c6
        have e7 := hSw _ _ _ c7
        have e8 := hSw _ _ _ c8
        have e9 := hSw _ _ _ c9
        have e10 := hSw _ _ _ c10
        have e11 := hSw _ _ _ c11
        have e12 := hSw _ _ _ c12
        have e13 := hSw _ _ _ c13
        have e14 := hSw _ _ _ c14
        have e15 := hSw _ _ _ c15
        go_simp
        try (with_reducible rfl)
      try simp only [Act.put, List.setIfInBounds_toArray, List.set_cons_zero, List.set_cons_succ]
      refine wpAnyH_take (i := 4) (v := ?v4_5) rfl (by kernel_rfl) (by kernel_rfl) (by kernel_rfl) (fun _ _ _ h => h) (Or.inl ⟨by rfl, ?hy4_5⟩) (by assumption) ?rest4_5
      case hy4_5 => (intro w hSw; (try dsimp only at hSw); go_simp; try (with_reducible rfl))
      try simp only [Act.put, List.setIfInBounds_toArray, List.set_cons_zero, List.set_cons_succ]
      refine wpAnyH_take (i := 5) (v := ?v5_6) rfl (by kernel_rfl) (by kernel_rfl) (by kernel_rfl) (fun _ _ _ h => h) (Or.inl ⟨by rfl, ?hy5_6⟩) (by assumption) ?rest5_6
      case hy5_6 => (intro w hSw; (try dsimp only at hSw); go_simp; try (with_reducible rfl))
      try simp only [Act.put, List.setIfInBounds_toArray, List.set_cons_zero, List.set_cons_succ]
      refine wpAnyH_take (i := 6) (v := ?v6_7) rfl (by kernel_rfl) (by kernel_rfl) (by kernel_rfl) (fun _ _ _ h => h) (Or.inl ⟨by rfl, ?hy6_7⟩) (by assumption) ?rest6_7
      case hy6_7 => (intro w hSw; (try dsimp only at hSw); go_simp; try (with_reducible rfl))
      try simp only [Act.put, List.setIfInBounds_toArray, List.set_cons_zero, List.set_cons_succ]
      refine wpAnyH_take (i := 7) (v := ?v7_8) rfl (by kernel_rfl) (by kernel_rfl) (by kernel_rfl) (fun _ _ _ h => h) (Or.inl ⟨by rfl, ?hy7_8⟩) (by assumption) ?rest7_8
      case hy7_8 =>
        intro w hSw
        have e0 := hSw _ _ _ d0
        have e1 := hSw _ _ _ d1
        have e2 := hSw _ _ _ d2
        have e3 := hSw _ _ _ d3
        have e4 := hSw _ _ _ d4
        have e5 := hSw _ _ _ d5
        have e6 := hSw _ _ _ d6
        have e7 := hSw _ _ _ d7
        have e8 := hSw _ _ _ d8
        have e9 := hSw _ _ _ d9
        have e10 := hSw _ _ _ d10
        have e11 := hSw _ _ _ d11
        have e12 := hSw _ _ _ d12
        have e13 := hSw _ _ _ d13
        have e14 := hSw _ _ _ d14
        have e15 := hSw _ _ _ d15
        go_simp
        try (with_reducible rfl)
      try simp only [Act.put, List.setIfInBounds_toArray, List.set_cons_zero, List.set_cons_succ]
      clear c0 c1 c2 c3 c4 c5 c6 c7 c8 c9 c10 c11 c12 c13 c14 c15 d0 d1 d2 d3 d4 d5 d6 d7 d8 d9 d10 d11 d12 d13 d14 d15
      refine wpAnyH_ready (rs := [8, 9]) (by kernel_rfl) (by simp) ?_
      refine AllReadyH.cons rfl (fun K hK => ?_) ?_
      · go_simp
        refine hK.out _ _ (h0.trans (R.Keeps.alloc _ _)) (fun hH1 => ?_)
        clear hK K
        try simp only [Act.put, List.setIfInBounds_toArray, List.set_cons_zero, List.set_cons_succ]
        refine wpAnyH_ready (rs := [9]) (by kernel_rfl) (by simp) ?_
        refine AllReadyH.cons rfl (fun K hK => ?_) AllReadyH.nil
        go_simp
        refine hK.out _ _ ((h0.trans (R.Keeps.alloc _ _)).trans (R.Keeps.alloc _ _)) (fun hH2 => ?_)
        clear hK K
        try simp only [Act.put, List.setIfInBounds_toArray, List.set_cons_zero, List.set_cons_succ]
        have B0 : Below wr.heap.size wr ((wr.alloc (.cells #[.int .i64 0, .string ⟨#[]⟩, .slice none 0 0, .int .i64 0, .bool false, .bool false, .slice none 0 0, .slice none 0 0, .slice none 0 0, .int .i64 0, .bool false, .bool false, .slice none 0 0, .slice none 0 0, .slice none 0 0, .int .i64 0] 49)).alloc (.cells #[.int .i64 0, .string ⟨#[]⟩, .slice none 0 0, .int .i64 0, .bool false, .bool false, .slice none 0 0, .slice none 0 0, .slice none 0 0, .int .i64 0, .bool false, .bool false, .slice none 0 0, .slice none 0 0, .slice none 0 0, .int .i64 0] 49)).drew := (((Below.refl _ wr).alloc (Nat.le_refl _) _).alloc (by simp) _).drew
        have x1 : ((wr.alloc (.cells #[.int .i64 0, .string ⟨#[]⟩, .slice none 0 0, .int .i64 0, .bool false, .bool false, .slice none 0 0, .slice none 0 0, .slice none 0 0, .int .i64 0, .bool false, .bool false, .slice none 0 0, .slice none 0 0, .slice none 0 0, .int .i64 0] 49)).alloc (.cells #[.int .i64 0, .string ⟨#[]⟩, .slice none 0 0, .int .i64 0, .bool false, .bool false, .slice none 0 0, .slice none 0 0, .slice none 0 0, .int .i64 0, .bool false, .bool false, .slice none 0 0, .slice none 0 0, .slice none 0 0, .int .i64 0] 49)).drew.heap[wr.heap.size]? = some (.cells #[.int .i64 0, .string ⟨#[]⟩, .slice none 0 0, .int .i64 0, .bool false, .bool false, .slice none 0 0, .slice none 0 0, .slice none 0 0, .int .i64 0, .bool false, .bool false, .slice none 0 0, .slice none 0 0, .slice none 0 0, .int .i64 0] 49) := heap_alloc2_old wr _ _
        have x2 : ((wr.alloc (.cells #[.int .i64 0, .string ⟨#[]⟩, .slice none 0 0, .int .i64 0, .bool false, .bool false, .slice none 0 0, .slice none 0 0, .slice none 0 0, .int .i64 0, .bool false, .bool false, .slice none 0 0, .slice none 0 0, .slice none 0 0, .int .i64 0] 49)).alloc (.cells #[.int .i64 0, .string ⟨#[]⟩, .slice none 0 0, .int .i64 0, .bool false, .bool false, .slice none 0 0, .slice none 0 0, .slice none 0 0, .int .i64 0, .bool false, .bool false, .slice none 0 0, .slice none 0 0, .slice none 0 0, .int .i64 0] 49)).drew.heap[wr.heap.size + 1]? = some (.cells #[.int .i64 0, .string ⟨#[]⟩, .slice none 0 0, .int .i64 0, .bool false, .bool false, .slice none 0 0, .slice none 0 0, .slice none 0 0, .int .i64 0, .bool false, .bool false, .slice none 0 0, .slice none 0 0, .slice none 0 0, .int .i64 0] 49) := heap_alloc2_new wr _ _
        have hH2' : R.Keeps wr ((wr.alloc (.cells #[.int .i64 0, .string ⟨#[]⟩, .slice none 0 0, .int .i64 0, .bool false, .bool false, .slice none 0 0, .slice none 0 0, .slice none 0 0, .int .i64 0, .bool false, .bool false, .slice none 0 0, .slice none 0 0, .slice none 0 0, .int .i64 0] 49)).alloc (.cells #[.int .i64 0, .string ⟨#[]⟩, .slice none 0 0, .int .i64 0, .bool false, .bool false, .slice none 0 0, .slice none 0 0, .slice none 0 0, .int .i64 0, .bool false, .bool false, .slice none 0 0, .slice none 0 0, .slice none 0 0, .int .i64 0] 49)).drew := hH2
        clear hH2 hH1 hHeld
        generalize ((wr.alloc (.cells #[.int .i64 0, .string ⟨#[]⟩, .slice none 0 0, .int .i64 0, .bool false, .bool false, .slice none 0 0, .slice none 0 0, .slice none 0 0, .int .i64 0, .bool false, .bool false, .slice none 0 0, .slice none 0 0, .slice none 0 0, .int .i64 0] 49)).alloc (.cells #[.int .i64 0, .string ⟨#[]⟩, .slice none 0 0, .int .i64 0, .bool false, .bool false, .slice none 0 0, .slice none 0 0, .slice none 0 0, .int .i64 0, .bool false, .bool false, .slice none 0 0, .slice none 0 0, .slice none 0 0, .int .i64 0] 49)).drew = wz at B0 x1 x2 hH2' ⊢
        refine wpAnyH_ready (rs := [10]) (by kernel_rfl) (by simp) ?_
        refine AllReadyH.cons rfl (fun K hK => ?_) AllReadyH.nil
        rw [if_pos (by rfl)]
        refine wp_store_row 49 (.tmp 6) (.tmp 21) rfl (wr.heap.size) #[.int .i64 pk, .string pn, .slice so ps.length sc, .int .i64 pd, .bool lst, .bool lfi, .slice lb lbe.length lbc, .slice ls lsr.length lsc, .slice la laf.length lac, .int .i64 lcu, .bool rst, .bool rfi, .slice rb rbe.length rbc, .slice rs rsr.length rsc, .slice ra raf.length rac, .int .i64 rcu] rfl rfl 49 _ x1 (by kernel_rfl) rfl (by simp [Value.oneCell']) ?_
        obtain ⟨r6, gr6⟩ := R.row_put x1 #[.int .i64 pk, .string pn, .slice so ps.length sc, .int .i64 pd, .bool lst, .bool lfi, .slice lb lbe.length lbc, .slice ls lsr.length lsc, .slice la laf.length lac, .int .i64 lcu, .bool rst, .bool rfi, .slice rb rbe.length rbc, .slice rs rsr.length rsc, .slice ra raf.length rac, .int .i64 rcu]
        have hK6 : R.Keeps wr (wz.setRow (wr.heap.size) #[.int .i64 pk, .string pn, .slice so ps.length sc, .int .i64 pd, .bool lst, .bool lfi, .slice lb lbe.length lbc, .slice ls lsr.length lsc, .slice la laf.length lac, .int .i64 lcu, .bool rst, .bool rfi, .slice rb rbe.length rbc, .slice rs rsr.length rsc, .slice ra raf.length rac, .int .i64 rcu]) := R.keeps_row hH2' gr6 (by omega)
        have r7 := R.blk_put x2 gr6 (by omega)
        have B6 := Below.grown B0 gr6 B0.size (fun g hg => by cases hg; omega)
        refine hK.out _ _ hK6 (fun hH3 => ?_)
        clear hK K hK6
        try simp only [Act.put, List.setIfInBounds_toArray, List.set_cons_zero, List.set_cons_succ]
        have hH3' : R.Keeps wr (wz.setRow (wr.heap.size) #[.int .i64 pk, .string pn, .slice so ps.length sc, .int .i64 pd, .bool lst, .bool lfi, .slice lb lbe.length lbc, .slice ls lsr.length lsc, .slice la laf.length lac, .int .i64 lcu, .bool rst, .bool rfi, .slice rb rbe.length rbc, .slice rs rsr.length rsc, .slice ra raf.length rac, .int .i64 rcu]) := hH3
        clear hH3 gr6 B0 x1 x2 hH2'
        generalize wz.setRow (wr.heap.size) #[.int .i64 pk, .string pn, .slice so ps.length sc, .int .i64 pd, .bool lst, .bool lfi, .slice lb lbe.length lbc, .slice ls lsr.length lsc, .slice la laf.length lac, .int .i64 lcu, .bool rst, .bool rfi, .slice rb rbe.length rbc, .slice rs rsr.length rsc, .slice ra raf.length rac, .int .i64 rcu] = wy at r6 r7 B6 hH3' ⊢
        refine wpAnyH_ready (rs := [11]) (by kernel_rfl) (by simp) ?_
        refine AllReadyH.cons rfl (fun K hK => ?_) AllReadyH.nil
        rw [if_pos (by rfl)]
        refine wp_store_row 49 (.tmp 7) (.tmp 25) rfl (wr.heap.size + 1) #[.int .i64 pk, .string pn, .slice so2 ps.length sc2, .int .i64 pd, .bool lst, .bool lfi, .slice Lb lbe.length Lbc, .slice Ls lsr.length Lsc, .slice La laf.length Lac, .int .i64 lcu, .bool rst, .bool rfi, .slice Qb rbe.length Qbc, .slice Qs rsr.length Qsc, .slice Qa raf.length Qac, .int .i64 rcu] rfl rfl 49 _ r7 (by kernel_rfl) rfl (by simp [Value.oneCell']) ?_
        obtain ⟨r7b, gr7⟩ := R.row_put r7 #[.int .i64 pk, .string pn, .slice so2 ps.length sc2, .int .i64 pd, .bool lst, .bool lfi, .slice Lb lbe.length Lbc, .slice Ls lsr.length Lsc, .slice La laf.length Lac, .int .i64 lcu, .bool rst, .bool rfi, .slice Qb rbe.length Qbc, .slice Qs rsr.length Qsc, .slice Qa raf.length Qac, .int .i64 rcu]
        have hK7 : R.Keeps wr (wy.setRow (wr.heap.size + 1) #[.int .i64 pk, .string pn, .slice so2 ps.length sc2, .int .i64 pd, .bool lst, .bool lfi, .slice Lb lbe.length Lbc, .slice Ls lsr.length Lsc, .slice La laf.length Lac, .int .i64 lcu, .bool rst, .bool rfi, .slice Qb rbe.length Qbc, .slice Qs rsr.length Qsc, .slice Qa raf.length Qac, .int .i64 rcu]) := R.keeps_row hH3' gr7 (by omega)
        have r6b := R.blk_put r6 gr7 (by omega)
        have B7 := Below.grown B6 gr7 B6.size (fun g hg => by cases hg; omega)
        refine hK.out _ _ hK7 (fun hH4 => ?_)
        clear hK K hK7 hH4
        try simp only [Act.put, List.setIfInBounds_toArray, List.set_cons_zero, List.set_cons_succ]
        clear gr7 B6 r6 r7 hH3'
        generalize wy.setRow (wr.heap.size + 1) #[.int .i64 pk, .string pn, .slice so2 ps.length sc2, .int .i64 pd, .bool lst, .bool lfi, .slice Lb lbe.length Lbc, .slice Ls lsr.length Lsc, .slice La laf.length Lac, .int .i64 lcu, .bool rst, .bool rfi, .slice Qb rbe.length Qbc, .slice Qs rsr.length Qsc, .slice Qa raf.length Qac, .int .i64 rcu] = wx at r6b r7b B7 ⊢
        refine wpAnyH_done (by kernel_rfl) ?_ _
        have p0 := R.at_box (i := 0) r6b rfl
        have q0 := R.at_box (i := 0) r7b rfl
        have p1 := R.at_box (i := 1) r6b rfl
        have q1 := R.at_box (i := 1) r7b rfl
        have p2 := R.at_box (i := 2) r6b rfl
        have q2 := R.at_box (i := 2) r7b rfl
        have HX : Hid _ := And.intro r6b (And.intro r7b B7)
        clear r6b r7b B7
        go_wp2_with fail
        refine (H1.out _ HX.out.2.2).mono ?_
        rintro e w1 ⟨rfl, b1⟩
        have B1 := HX.out.2.2.trans (b1.mono HX.out.2.2.size)
        have y6 := R.box_below HX.out.1 b1
        have y7 := R.box_below HX.out.2.1 b1
        clear p0 q0 p1 q1 p2 q2
        have p3 := R.at_box (i := 3) y6 rfl
        have q3 := R.at_box (i := 3) y7 rfl
        have p4 := R.at_box (i := 4) y6 rfl
        have q4 := R.at_box (i := 4) y7 rfl
        have p5 := R.at_box (i := 5) y6 rfl
        have q5 := R.at_box (i := 5) y7 rfl
        have p6 := R.at_box (i := 6) y6 rfl
        have q6 := R.at_box (i := 6) y7 rfl
        have p7 := R.at_box (i := 7) y6 rfl
        have q7 := R.at_box (i := 7) y7 rfl
        have p8 := R.at_box (i := 8) y6 rfl
        have q8 := R.at_box (i := 8) y7 rfl
        have p9 := R.at_box (i := 9) y6 rfl
        have q9 := R.at_box (i := 9) y7 rfl
        have HY : Hid _ := And.intro y6 (And.intro y7 B1)
        clear y6 y7 B1 b1 HX
        go_wp2_with fail
        refine (H2.out _ HY.out.2.2).mono ?_
        rintro e w2 ⟨rfl, b2⟩
        have B2 := HY.out.2.2.trans (b2.mono HY.out.2.2.size)
        have y6 := R.box_below HY.out.1 b2
        have y7 := R.box_below HY.out.2.1 b2
        clear p3 q3 p4 q4 p5 q5 p6 q6 p7 q7 p8 q8 p9 q9
        have p10 := R.at_box (i := 10) y6 rfl
        have q10 := R.at_box (i := 10) y7 rfl
        have p11 := R.at_box (i := 11) y6 rfl
        have q11 := R.at_box (i := 11) y7 rfl
        have p12 := R.at_box (i := 12) y6 rfl
        have q12 := R.at_box (i := 12) y7 rfl
        have p13 := R.at_box (i := 13) y6 rfl
        have q13 := R.at_box (i := 13) y7 rfl
        have p14 := R.at_box (i := 14) y6 rfl
        have q14 := R.at_box (i := 14) y7 rfl
        have p15 := R.at_box (i := 15) y6 rfl
        have q15 := R.at_box (i := 15) y7 rfl
        have HB2 : Hid (Below wr.heap.size wr w2) := B2
        clear y6 y7 B2 b2 HY
        go_wp2_with fail
        refine (H3.out _ HB2.out).mono ?_
        rintro e w3 ⟨rfl, b3⟩
        have HB3 : Hid (Below w.heap.size w w3) := HB.out.trans ((HB2.out.trans (b3.mono HB2.out.size)).mono HB.out.size)
        clear b3
        go_wp2
        go_roundw
        case rel => exact ⟨k + 1, by omega, by go_num, HB3⟩
        case measure => simp [intOf]; omega
      refine AllReadyH.cons rfl (fun K hK => ?_) AllReadyH.nil
      · go_simp
        refine hK.out _ _ (h0.trans (R.Keeps.alloc _ _)) (fun hH1 => ?_)
        clear hK K
        try simp only [Act.put, List.setIfInBounds_toArray, List.set_cons_zero, List.set_cons_succ]
        refine wpAnyH_ready (rs := [8]) (by kernel_rfl) (by simp) ?_
        refine AllReadyH.cons rfl (fun K hK => ?_) AllReadyH.nil
        go_simp
        refine hK.out _ _ ((h0.trans (R.Keeps.alloc _ _)).trans (R.Keeps.alloc _ _)) (fun hH2 => ?_)
        clear hK K
        try simp only [Act.put, List.setIfInBounds_toArray, List.set_cons_zero, List.set_cons_succ]
        have B0 : Below wr.heap.size wr ((wr.alloc (.cells #[.int .i64 0, .string ⟨#[]⟩, .slice none 0 0, .int .i64 0, .bool false, .bool false, .slice none 0 0, .slice none 0 0, .slice none 0 0, .int .i64 0, .bool false, .bool false, .slice none 0 0, .slice none 0 0, .slice none 0 0, .int .i64 0] 49)).alloc (.cells #[.int .i64 0, .string ⟨#[]⟩, .slice none 0 0, .int .i64 0, .bool false, .bool false, .slice none 0 0, .slice none 0 0, .slice none 0 0, .int .i64 0, .bool false, .bool false, .slice none 0 0, .slice none 0 0, .slice none 0 0, .int .i64 0] 49)).drew := (((Below.refl _ wr).alloc (Nat.le_refl _) _).alloc (by simp) _).drew
        have x1 : ((wr.alloc (.cells #[.int .i64 0, .string ⟨#[]⟩, .slice none 0 0, .int .i64 0, .bool false, .bool false, .slice none 0 0, .slice none 0 0, .slice none 0 0, .int .i64 0, .bool false, .bool false, .slice none 0 0, .slice none 0 0, .slice none 0 0, .int .i64 0] 49)).alloc (.cells #[.int .i64 0, .string ⟨#[]⟩, .slice none 0 0, .int .i64 0, .bool false, .bool false, .slice none 0 0, .slice none 0 0, .slice none 0 0, .int .i64 0, .bool false, .bool false, .slice none 0 0, .slice none 0 0, .slice none 0 0, .int .i64 0] 49)).drew.heap[wr.heap.size]? = some (.cells #[.int .i64 0, .string ⟨#[]⟩, .slice none 0 0, .int .i64 0, .bool false, .bool false, .slice none 0 0, .slice none 0 0, .slice none 0 0, .int .i64 0, .bool false, .bool false, .slice none 0 0, .slice none 0 0, .slice none 0 0, .int .i64 0] 49) := heap_alloc2_old wr _ _
        have x2 : ((wr.alloc (.cells #[.int .i64 0, .string ⟨#[]⟩, .slice none 0 0, .int .i64 0, .bool false, .bool false, .slice none 0 0, .slice none 0 0, .slice none 0 0, .int .i64 0, .bool false, .bool false, .slice none 0 0, .slice none 0 0, .slice none 0 0, .int .i64 0] 49)).alloc (.cells #[.int .i64 0, .string ⟨#[]⟩, .slice none 0 0, .int .i64 0, .bool false, .bool false, .slice none 0 0, .slice none 0 0, .slice none 0 0, .int .i64 0, .bool false, .bool false, .slice none 0 0, .slice none 0 0, .slice none 0 0, .int .i64 0] 49)).drew.heap[wr.heap.size + 1]? = some (.cells #[.int .i64 0, .string ⟨#[]⟩, .slice none 0 0, .int .i64 0, .bool false, .bool false, .slice none 0 0, .slice none 0 0, .slice none 0 0, .int .i64 0, .bool false, .bool false, .slice none 0 0, .slice none 0 0, .slice none 0 0, .int .i64 0] 49) := heap_alloc2_new wr _ _
        have hH2' : R.Keeps wr ((wr.alloc (.cells #[.int .i64 0, .string ⟨#[]⟩, .slice none 0 0, .int .i64 0, .bool false, .bool false, .slice none 0 0, .slice none 0 0, .slice none 0 0, .int .i64 0, .bool false, .bool false, .slice none 0 0, .slice none 0 0, .slice none 0 0, .int .i64 0] 49)).alloc (.cells #[.int .i64 0, .string ⟨#[]⟩, .slice none 0 0, .int .i64 0, .bool false, .bool false, .slice none 0 0, .slice none 0 0, .slice none 0 0, .int .i64 0, .bool false, .bool false, .slice none 0 0, .slice none 0 0, .slice none 0 0, .int .i64 0] 49)).drew := hH2
        clear hH2 hH1 hHeld
        generalize ((wr.alloc (.cells #[.int .i64 0, .string ⟨#[]⟩, .slice none 0 0, .int .i64 0, .bool false, .bool false, .slice none 0 0, .slice none 0 0, .slice none 0 0, .int .i64 0, .bool false, .bool false, .slice none 0 0, .slice none 0 0, .slice none 0 0, .int .i64 0] 49)).alloc (.cells #[.int .i64 0, .string ⟨#[]⟩, .slice none 0 0, .int .i64 0, .bool false, .bool false, .slice none 0 0, .slice none 0 0, .slice none 0 0, .int .i64 0, .bool false, .bool false, .slice none 0 0, .slice none 0 0, .slice none 0 0, .int .i64 0] 49)).drew = wz at B0 x1 x2 hH2' ⊢
        refine wpAnyH_ready (rs := [10]) (by kernel_rfl) (by simp) ?_
        refine AllReadyH.cons rfl (fun K hK => ?_) AllReadyH.nil
        rw [if_pos (by rfl)]
        refine wp_store_row 49 (.tmp 6) (.tmp 21) rfl (wr.heap.size + 1) #[.int .i64 pk, .string pn, .slice so ps.length sc, .int .i64 pd, .bool lst, .bool lfi, .slice lb lbe.length lbc, .slice ls lsr.length lsc, .slice la laf.length lac, .int .i64 lcu, .bool rst, .bool rfi, .slice rb rbe.length rbc, .slice rs rsr.length rsc, .slice ra raf.length rac, .int .i64 rcu] rfl rfl 49 _ x2 (by kernel_rfl) rfl (by simp [Value.oneCell']) ?_
        obtain ⟨r6, gr6⟩ := R.row_put x2 #[.int .i64 pk, .string pn, .slice so ps.length sc, .int .i64 pd, .bool lst, .bool lfi, .slice lb lbe.length lbc, .slice ls lsr.length lsc, .slice la laf.length lac, .int .i64 lcu, .bool rst, .bool rfi, .slice rb rbe.length rbc, .slice rs rsr.length rsc, .slice ra raf.length rac, .int .i64 rcu]
        have hK6 : R.Keeps wr (wz.setRow (wr.heap.size + 1) #[.int .i64 pk, .string pn, .slice so ps.length sc, .int .i64 pd, .bool lst, .bool lfi, .slice lb lbe.length lbc, .slice ls lsr.length lsc, .slice la laf.length lac, .int .i64 lcu, .bool rst, .bool rfi, .slice rb rbe.length rbc, .slice rs rsr.length rsc, .slice ra raf.length rac, .int .i64 rcu]) := R.keeps_row hH2' gr6 (by omega)
        have r7 := R.blk_put x1 gr6 (by omega)
        have B6 := Below.grown B0 gr6 B0.size (fun g hg => by cases hg; omega)
        refine hK.out _ _ hK6 (fun hH3 => ?_)
        clear hK K hK6
        try simp only [Act.put, List.setIfInBounds_toArray, List.set_cons_zero, List.set_cons_succ]
        have hH3' : R.Keeps wr (wz.setRow (wr.heap.size + 1) #[.int .i64 pk, .string pn, .slice so ps.length sc, .int .i64 pd, .bool lst, .bool lfi, .slice lb lbe.length lbc, .slice ls lsr.length lsc, .slice la laf.length lac, .int .i64 lcu, .bool rst, .bool rfi, .slice rb rbe.length rbc, .slice rs rsr.length rsc, .slice ra raf.length rac, .int .i64 rcu]) := hH3
        clear hH3 gr6 B0 x1 x2 hH2'
        generalize wz.setRow (wr.heap.size + 1) #[.int .i64 pk, .string pn, .slice so ps.length sc, .int .i64 pd, .bool lst, .bool lfi, .slice lb lbe.length lbc, .slice ls lsr.length lsc, .slice la laf.length lac, .int .i64 lcu, .bool rst, .bool rfi, .slice rb rbe.length rbc, .slice rs rsr.length rsc, .slice ra raf.length rac, .int .i64 rcu] = wy at r6 r7 B6 hH3' ⊢
        refine wpAnyH_ready (rs := [11]) (by kernel_rfl) (by simp) ?_
        refine AllReadyH.cons rfl (fun K hK => ?_) AllReadyH.nil
        rw [if_pos (by rfl)]
        refine wp_store_row 49 (.tmp 7) (.tmp 25) rfl (wr.heap.size) #[.int .i64 pk, .string pn, .slice so2 ps.length sc2, .int .i64 pd, .bool lst, .bool lfi, .slice Lb lbe.length Lbc, .slice Ls lsr.length Lsc, .slice La laf.length Lac, .int .i64 lcu, .bool rst, .bool rfi, .slice Qb rbe.length Qbc, .slice Qs rsr.length Qsc, .slice Qa raf.length Qac, .int .i64 rcu] rfl rfl 49 _ r7 (by kernel_rfl) rfl (by simp [Value.oneCell']) ?_
        obtain ⟨r7b, gr7⟩ := R.row_put r7 #[.int .i64 pk, .string pn, .slice so2 ps.length sc2, .int .i64 pd, .bool lst, .bool lfi, .slice Lb lbe.length Lbc, .slice Ls lsr.length Lsc, .slice La laf.length Lac, .int .i64 lcu, .bool rst, .bool rfi, .slice Qb rbe.length Qbc, .slice Qs rsr.length Qsc, .slice Qa raf.length Qac, .int .i64 rcu]
        have hK7 : R.Keeps wr (wy.setRow (wr.heap.size) #[.int .i64 pk, .string pn, .slice so2 ps.length sc2, .int .i64 pd, .bool lst, .bool lfi, .slice Lb lbe.length Lbc, .slice Ls lsr.length Lsc, .slice La laf.length Lac, .int .i64 lcu, .bool rst, .bool rfi, .slice Qb rbe.length Qbc, .slice Qs rsr.length Qsc, .slice Qa raf.length Qac, .int .i64 rcu]) := R.keeps_row hH3' gr7 (by omega)
        have r6b := R.blk_put r6 gr7 (by omega)
        have B7 := Below.grown B6 gr7 B6.size (fun g hg => by cases hg; omega)
        refine hK.out _ _ hK7 (fun hH4 => ?_)
        clear hK K hK7 hH4
        try simp only [Act.put, List.setIfInBounds_toArray, List.set_cons_zero, List.set_cons_succ]
        clear gr7 B6 r6 r7 hH3'
        generalize wy.setRow (wr.heap.size) #[.int .i64 pk, .string pn, .slice so2 ps.length sc2, .int .i64 pd, .bool lst, .bool lfi, .slice Lb lbe.length Lbc, .slice Ls lsr.length Lsc, .slice La laf.length Lac, .int .i64 lcu, .bool rst, .bool rfi, .slice Qb rbe.length Qbc, .slice Qs rsr.length Qsc, .slice Qa raf.length Qac, .int .i64 rcu] = wx at r6b r7b B7 ⊢
        refine wpAnyH_done (by kernel_rfl) ?_ _
        have p0 := R.at_box (i := 0) r6b rfl
        have q0 := R.at_box (i := 0) r7b rfl
        have p1 := R.at_box (i := 1) r6b rfl
        have q1 := R.at_box (i := 1) r7b rfl
        have p2 := R.at_box (i := 2) r6b rfl
        have q2 := R.at_box (i := 2) r7b rfl
        have HX : Hid _ := And.intro r6b (And.intro r7b B7)
        clear r6b r7b B7
        go_wp2_with fail
        refine (H1.out _ HX.out.2.2).mono ?_
        rintro e w1 ⟨rfl, b1⟩
        have B1 := HX.out.2.2.trans (b1.mono HX.out.2.2.size)
        have y6 := R.box_below HX.out.1 b1
        have y7 := R.box_below HX.out.2.1 b1
        clear p0 q0 p1 q1 p2 q2
        have p3 := R.at_box (i := 3) y6 rfl
        have q3 := R.at_box (i := 3) y7 rfl
        have p4 := R.at_box (i := 4) y6 rfl
        have q4 := R.at_box (i := 4) y7 rfl
        have p5 := R.at_box (i := 5) y6 rfl
        have q5 := R.at_box (i := 5) y7 rfl
        have p6 := R.at_box (i := 6) y6 rfl
        have q6 := R.at_box (i := 6) y7 rfl
        have p7 := R.at_box (i := 7) y6 rfl
        have q7 := R.at_box (i := 7) y7 rfl
        have p8 := R.at_box (i := 8) y6 rfl
        have q8 := R.at_box (i := 8) y7 rfl
        have p9 := R.at_box (i := 9) y6 rfl
        have q9 := R.at_box (i := 9) y7 rfl
        have HY : Hid _ := And.intro y6 (And.intro y7 B1)
        clear y6 y7 B1 b1 HX
        go_wp2_with fail
        refine (H2.out _ HY.out.2.2).mono ?_
        rintro e w2 ⟨rfl, b2⟩
        have B2 := HY.out.2.2.trans (b2.mono HY.out.2.2.size)
        have y6 := R.box_below HY.out.1 b2
        have y7 := R.box_below HY.out.2.1 b2
        clear p3 q3 p4 q4 p5 q5 p6 q6 p7 q7 p8 q8 p9 q9
        have p10 := R.at_box (i := 10) y6 rfl
        have q10 := R.at_box (i := 10) y7 rfl
        have p11 := R.at_box (i := 11) y6 rfl
        have q11 := R.at_box (i := 11) y7 rfl
        have p12 := R.at_box (i := 12) y6 rfl
        have q12 := R.at_box (i := 12) y7 rfl
        have p13 := R.at_box (i := 13) y6 rfl
        have q13 := R.at_box (i := 13) y7 rfl
        have p14 := R.at_box (i := 14) y6 rfl
        have q14 := R.at_box (i := 14) y7 rfl
        have p15 := R.at_box (i := 15) y6 rfl
        have q15 := R.at_box (i := 15) y7 rfl
        have HB2 : Hid (Below wr.heap.size wr w2) := B2
        clear y6 y7 B2 b2 HY
        go_wp2_with fail
        refine (H3.out _ HB2.out).mono ?_
        rintro e w3 ⟨rfl, b3⟩
        have HB3 : Hid (Below w.heap.size w w3) := HB.out.trans ((HB2.out.trans (b3.mono HB2.out.size)).mono HB.out.size)
        clear b3
        go_wp2
        go_roundw
        case rel => exact ⟨k + 1, by omega, by go_num, HB3⟩
        case measure => simp [intOf]; omega
    · go_wp2
      go_ret
      exact ⟨rfl, HB.out⟩

end Go.Proofs.YtajbcgobfkaahaaGreatDoor
