/-
  vm.Play$1 counts each step into Play's box, which lies below the machine.
-/
import Derived.Test.YtjaodbaooogpnaaGreatXPlay2
import Derived.Test.YtjaodbaooogpnaaGreatJRead
import Derived.BigRegion
import Derived.Test.YtjaodbaooogpnaaGreatXAt
import Derived.Lib.AppendZerosOnto
import Derived.Lib.Walk
namespace Go.Proofs.YtjaodbaooogpnaaGreat
open Go.RowKit Go.Shelf
set_option maxRecDepth 20000
set_option linter.unusedSimpArgs false
set_option linter.unusedVariables false

/-- Play's box, and that heads hang on no block of it -/
def Gm.Cn (b ob : Nat) (vh : Value) (l : List K.Rule) (c : List Int) (W : World) (s p : Int) : Prop :=
  W.heap[ob]? = some (.cells #[.slice none 0 0, .int .i64 s, .int .i64 p] 67) ∧ ∀ W', (∀ j, j < b → j ≠ ob → W'.heap[j]? = W.heap[j]?) → J.Rd W' vh (J.heads (J.begins l) c (c.length - 1))

/-- the machine stays where Play's box alone is changed -/
theorem Gm.Mx.count {b ob mb : Nat} {ms : List Nat} {wb w w' : World} {g : Nat} {vr vh : Value} {l : List K.Rule} {c A Z : List Int} {s p : Int} (M : Gm.Mx b ms mb wb w g vr vh l c A Z) (hob : wb.heap.size ≤ ob) (hb : ob < b) (hmb : mb ≠ ob) (C : Gm.Cn b ob vh l c w s p)
    (hs : w.heap.size ≤ w'.heap.size) (hbel : Below wb.heap.size wb w') (e : ∀ j, j < w.heap.size → j ≠ ob → w'.heap[j]? = w.heap[j]?) : Gm.Mx b ms mb wb w' g vr vh l c A Z := by
  obtain ⟨ao, cur, hT⟩ := M.tx
  have hg : b ≤ g := hT.hB.1
  have htop := M.top
  have hm : mb < w.heap.size := (Array.getElem?_eq_some_iff.1 M.box).1
  refine ⟨M.base, hbel, (e mb hm hmb).trans M.box, M.mem, fun j hj => by have := M.old j hj; omega, ⟨ao, cur, hT.hB, hT.box.block (e g hT.box.lt (by omega)), hT.room.block fun r hr => ?_, hT.ne, hT.fit, hT.most, hT.few, hT.ahead, hT.behind⟩, M.rus, fun W hW => ?_⟩
  · have h1 := hT.room.lt r hr
    have h2 : b ≤ r := h1.1.1
    exact e r h1.2 (by omega)
  · exact C.2 W fun j hj hne => (hW.block j hj).trans (e j (by omega) hne)

set_option maxHeartbeats 4000000 in
theorem xcount_any (W : World) (ob : Nat) (s p at_ k : Int) (h : W.heap[ob]? = some (.cells #[.slice none 0 0, .int .i64 s, .int .i64 p] 67)) (hs0 : 0 ≤ s) (hs : s ≤ 100000) (hp0 : 0 ≤ p) (hp : p ≤ 100000) (hk : k = -1 ∨ 0 ≤ k) :
    Calls Tryz.prog 64 #[.agg #[.int .i64 at_, .int .i64 k], .pointer (some ⟨ob, 0, none⟩)] W fun e w' => e = .returned (.tuple #[]) ∧ w'.heap[ob]? = some (.cells #[.slice none 0 0, .int .i64 (s + 1), .int .i64 (p + if k = -1 then 0 else 1)] 67) ∧ W.heap.size ≤ w'.heap.size ∧ (∀ B, B ≤ ob → Below B W w') ∧ (∀ j, j < W.heap.size → j ≠ ob → w'.heap[j]? = W.heap[j]?) := by
  have hob : ob < W.heap.size := (Array.getElem?_eq_some_iff.1 h).1
  have e1 : ∀ x, (W.setCell ⟨ob, 1, none⟩ x).heap[ob]? = some (.cells #[.slice none 0 0, x, .int .i64 p] 67) := fun x => heap_setCell_same W ob 1 _ _ x h
  have e2 : ∀ x y, ((W.setCell ⟨ob, 1, none⟩ x).setCell ⟨ob, 2, none⟩ y).heap[ob]? = some (.cells #[.slice none 0 0, x, y] 67) := fun x y => heap_setCell_same _ ob 2 _ _ y (e1 x)
  have f1 : ∀ x j, j ≠ ob → (W.setCell ⟨ob, 1, none⟩ x).heap[j]? = W.heap[j]? := fun x j hne => heap_setCell_other W _ j x (by simpa using hne)
  have f2 : ∀ x y j, j ≠ ob → ((W.setCell ⟨ob, 1, none⟩ x).setCell ⟨ob, 2, none⟩ y).heap[j]? = W.heap[j]? := fun x y j hne => (heap_setCell_other _ _ j y (by simpa using hne)).trans (f1 x j hne)
  have al : ∀ (V : World) (o v : Obj), V.heap[ob]? = some v → (∀ B, B ≤ ob → Below B W V) → (∀ j, j ≠ ob → V.heap[j]? = W.heap[j]?) → (V.alloc o).heap[ob]? = some v ∧ W.heap.size ≤ (V.alloc o).heap.size ∧ (∀ B, B ≤ ob → Below B W (V.alloc o)) ∧ (∀ j, j < W.heap.size → ¬ j = ob → (V.alloc o).heap[j]? = W.heap[j]?) := fun V o v h1 h2 h3 => by
    have hs := (h2 0 (Nat.zero_le _)).size
    refine ⟨(Below.heap_alloc V o ob (by omega)).trans h1, by simp; omega, fun B hB => (h2 B hB).alloc (by omega) o, fun j hj hne => (Below.heap_alloc V o j (by omega)).trans (h3 j hne)⟩
  have H1 : Hid (∀ x o, _) := fun x o => al (W.setCell ⟨ob, 1, none⟩ x) o _ (e1 x) (fun B hB => (Below.refl B W).setCell hB x) (f1 x)
  have H2 : Hid (∀ x y o, _) := fun x y o => al ((W.setCell ⟨ob, 1, none⟩ x).setCell ⟨ob, 2, none⟩ y) o _ (e2 x y) (fun B hB => ((Below.refl B W).setCell hB x).setCell hB y) (f2 x y)
  have c1 : W.cell? ⟨ob, 1, none⟩ = some (.int .i64 s) := K.at_box (i := 1) h rfl
  have c2 : W.cell? ⟨ob, 2, none⟩ = some (.int .i64 p) := K.at_box (i := 2) h rfl
  have fr : ∀ i, W.frozen? ⟨ob, i, none⟩ = false := fun i => frozen_of_row W _ i _ _ h
  have hne : W.heap.size ≠ ob := by omega
  have hne2 : ob ≠ W.heap.size := by omega
  clear e1 e2 f1 f2 al h
  go_enter Tryz.func64, Tryz.ntmps64
  rcases hk with rfl | hk
  · go_wp2
    refine bodyPost_end (results_none rfl _ _ _) rfl ?_
    exact ⟨rfl, H1.out _ _⟩
  · have hk1 : ¬ k = -1 := by omega
    go_wp2
    refine bodyPost_end (results_none rfl _ _ _) rfl ?_
    exact ⟨rfl, H2.out _ _ _⟩

theorem Gm.Cn.keep {b ob : Nat} {vh : Value} {l : List K.Rule} {c : List Int} {W W' : World} {s p : Int} (h : Gm.Cn b ob vh l c W s p) (hob : ob < b) (hb : Below b W W') : Gm.Cn b ob vh l c W' s p :=
  ⟨(hb.block ob hob).trans h.1, fun W2 e => h.2 W2 fun j hj hne => (e j hj hne).trans (hb.block j hj)⟩

/-- what play asks of a function that is told the steps -/
theorem Gm.told_count {b ob mb : Nat} {wb : World} {g : Nat} {vr vh : Value} {l : List K.Rule} {c : List Int} {n : Nat} (hob : wb.heap.size ≤ ob) (hb : ob < b) (hmb : mb ≠ ob) (hn : n ≤ 4000) :
    ∀ W A Z (s p at_ k : Int), Gm.Mx b [mb] mb wb W g vr vh l c A Z → Gm.Cn b ob vh l c W s p → 0 ≤ p → p ≤ s → s < 8 * n + 40 → (k = -1 ∨ 0 ≤ k) → Calls Tryz.prog 64 (#[.agg #[.int .i64 at_, .int .i64 k]] ++ #[.pointer (some ⟨ob, 0, none⟩)]) W fun e w' => e = .returned (.tuple #[]) ∧ Gm.Mx b [mb] mb wb w' g vr vh l c A Z ∧ Gm.Cn b ob vh l c w' (s + 1) (p + if k = -1 then 0 else 1) := by
  intro W A Z s p at_ k M C h0 h1 h2 hk
  refine (xcount_any W ob s p at_ k C.1 (by omega) (by omega) h0 (by omega) hk).mono ?_
  rintro e w' ⟨rfl, g1, g2, g3, g4⟩
  have htop := M.top
  refine ⟨rfl, M.count hob hb hmb C g2 (M.bel.trans (g3 _ hob)) g4, g1, fun W' e => C.2 W' fun j hj hne => (e j hj hne).trans (g4 j (by omega) hne)⟩

end Go.Proofs.YtjaodbaooogpnaaGreat

/-
  vm.check: what is wrong with the rules, then with the text, then the heads.
-/
namespace Go.Proofs.YtjaodbaooogpnaaGreat
open Go.RowKit Go.Shelf
set_option maxRecDepth 20000
set_option linter.unusedSimpArgs false
set_option linter.unusedVariables false

/-- what check answers -/
def Gm.Chk (l : List K.Rule) (t : List Int) (o : List J.Hd × Int × Int) : Prop :=
  ((K.rulesF l).1 ≠ 0 ∧ o = ([], K.rulesF l)) ∨ ((K.rulesF l).1 = 0 ∧ K.textE t ≠ 0 ∧ o = ([], K.textE t, 0)) ∨ ((K.rulesF l).1 = 0 ∧ K.textE t = 0 ∧ J.Comp l o)

set_option maxHeartbeats 8000000 in
theorem xcheck_any (w : World) (v : Value) (l : List K.Rule) (R0 : V.Rus w v l) (vt : Value) (t : List Int) (Rt : L.Rd w vt .i32 t) (ht : t.length ≤ 140737488355328) :
    Calls Tryz.prog 70 #[v, vt] w fun e w' => ∃ (v' : Value) (o : List J.Hd × Int × Int), Gm.Chk l t o ∧ e = .returned (.tuple #[v', .agg #[.int .i64 o.2.1, .int .i64 o.2.2]]) ∧ J.Own w.heap.size w' v' o.1 ∧ Below w.heap.size w w' := by
  have HA : Hid (∀ o, Below w.heap.size w (w.alloc o)) := fun o => (Below.refl _ w).alloc (Nat.le_refl _) o
  have HC : Hid (∀ o, Calls Tryz.prog 37 #[v] (w.alloc o) fun e w' => e = .returned (.agg #[.int .i64 (K.rulesF l).1, .int .i64 (K.rulesF l).2]) ∧ Below (w.alloc o).heap.size (w.alloc o) w') := fun o => qWrong_any _ _ l (R0.below (HA.out o))
  have HR : Hid (V.Rus w v l) := R0
  have HT : Hid (L.Rd w vt .i32 t) := Rt
  have HN : Hid ((K.rulesF l).1 ≠ 0 → Gm.Chk l t ([], K.rulesF l)) := fun h => .inl ⟨h, rfl⟩
  have HN2 : Hid ((K.rulesF l).1 = 0 → K.textE t ≠ 0 → Gm.Chk l t ([], K.textE t, 0)) := fun h h2 => .inr (.inl ⟨h, h2, rfl⟩)
  have HY : Hid ((K.rulesF l).1 = 0 → K.textE t = 0 → ∀ o, J.Comp l o → Gm.Chk l t o) := fun h h2 o ho => .inr (.inr ⟨h, h2, ho⟩)
  obtain ⟨⟨e1, e2⟩, he⟩ : ∃ o, K.rulesF l = o := ⟨_, rfl⟩
  rw [he] at HC HN HN2 HY
  simp only at HC HN HN2 HY
  clear he R0 Rt
  go_enter Tryz.func70, Tryz.ntmps70
  go_wp2_with fail
  refine (HC.out _).mono ?_
  rintro e w1 ⟨rfl, b1⟩
  obtain ⟨h1, B1, s1⟩ := K.one_box b1
  have HB1 : Hid (Below w.heap.size w w1) := B1
  have HX1 : Hid (w1.heap[w.heap.size]? = some (.cells #[.int .i64 0, .int .i64 0] 29)) := h1
  obtain ⟨x0, x1, f0, f1⟩ := K.box2 h1
  have k0 : ∀ o, (w1.alloc o).cell? ⟨w.heap.size, 0, none⟩ = some (.int .i64 0) := fun o => K.alloc_cell x0 o
  have k1 : ∀ o, (w1.alloc o).cell? ⟨w.heap.size, 1, none⟩ = some (.int .i64 0) := fun o => K.alloc_cell x1 o
  have g0 : ∀ o, (w1.alloc o).frozen? ⟨w.heap.size, 0, none⟩ = false := fun o => K.alloc_free h1 o 0
  have g1 : ∀ o, (w1.alloc o).frozen? ⟨w.heap.size, 1, none⟩ = false := fun o => K.alloc_free h1 o 1
  have HB2 : Hid (∀ o, Below w.heap.size w (w1.alloc o)) := fun o => HB1.out.alloc (by omega) o
  clear b1 B1 HC x0 x1 f0 f1 h1
  by_cases q : e1 = 0
  · subst q
    obtain ⟨X, hX⟩ : ∃ X, X = w1.alloc (.cells #[.int .i64 0, .int .i64 e2] 29) := ⟨_, rfl⟩
    have HXX : Hid (X = w1.alloc (.cells #[.int .i64 0, .int .i64 e2] 29)) := hX
    have HBX : Hid (Below w.heap.size w X) := by show Below _ _ _; rw [hX]; exact HB2.out _
    have hXs : w.heap.size < X.heap.size := by rw [hX]; simp; omega
    have HXb : Hid (X.heap[w.heap.size]? = some (.cells #[.int .i64 0, .int .i64 0] 29)) := by
      show X.heap[w.heap.size]? = _
      rw [hX, Below.heap_alloc w1 _ w.heap.size (by omega)]; exact HX1.out
    have HTx : Hid (∀ Y, Y = X → Calls Tryz.prog 13 #[vt] Y fun e w' => e = .returned (.int .i64 (K.textE t)) ∧ Below X.heap.size X w') := fun Y hY => by rw [hY]; exact mText_any X vt t (HT.out.below HBX.out (Nat.le_refl _)) ht
    have HN2' := HN2.out rfl
    have HY' := HY.out rfl
    generalize K.textE t = z at HTx HN2' HY'
    have HN3 : Hid (z ≠ 0 → Gm.Chk l t ([], z, 0)) := HN2'
    have HY3 : Hid (z = 0 → ∀ o, J.Comp l o → Gm.Chk l t o) := HY'
    clear hX k0 k1 g0 g1 HN HN2 HY HN2' HY'
    go_wp2_with fail
    go_at_call 13
    refine (HTx.out _ HXX.out.symm).mono ?_
    rintro e w2 ⟨rfl, b2⟩
    have HB3 : Hid (Below X.heap.size X w2) := b2
    have hx2 := K.blk_below HXb.out b2
    have hw2 : w.heap.size < w2.heap.size := by have := b2.size; omega
    have HX2 : Hid (w2.heap[w.heap.size]? = some (.cells #[.int .i64 0, .int .i64 0] 29)) := hx2
    have HBW : Hid (Below w.heap.size w w2) := HBX.out.trans (b2.mono (by omega))
    obtain ⟨x0, x1, f0, f1⟩ := K.box2 hx2
    clear b2 hx2 HTx HXX HXb HB1 HX1 HB2
    by_cases hz : z = 0
    · subst hz
      have HY4 : Hid (∀ o, J.Comp l o → Gm.Chk l t o) := HY3.out rfl
      have HCo : Hid (Calls Tryz.prog 78 #[v] w2 fun e w' => ∃ (v' : Value) (o : List J.Hd × Int × Int), J.Comp l o ∧ e = .returned (.tuple #[v', .agg #[.int .i64 o.2.1, .int .i64 o.2.2]]) ∧ J.Own w2.heap.size w' v' o.1 ∧ Below w2.heap.size w2 w') := jCompile_any w2 v l (HR.out.below HBW.out)
      clear x0 x1 f0 f1
      go_wp2_with fail
      go_at_call 78
      refine HCo.out.mono ?_
      rintro e w3 ⟨v', ⟨hs, o1, o2⟩, hC, rfl, own, b3⟩
      have hx3 := K.blk_below HX2.out b3
      obtain ⟨x0, x1, f0, f1⟩ := K.box2 hx3
      have HCh : Hid (Gm.Chk l t (hs, o1, o2)) := HY4.out _ hC
      have HBW3 : Hid (Below w.heap.size w w3) := HBW.out.trans (b3.mono (by omega))
      have HOw : Hid (∀ x y, J.Own w.heap.size ((w3.setCell ⟨w.heap.size, 0, none⟩ x).setCell ⟨w.heap.size, 1, none⟩ y) v' hs) := fun x y => by
        have h9 : J.Own w2.heap.size ((w3.setCell ⟨w.heap.size, 0, none⟩ x).setCell ⟨w.heap.size, 1, none⟩ y) v' hs := own.kept fun g hg => by
          rw [heap_setCell_other _ _ g y (by simp; omega), heap_setCell_other _ _ g x (by simp; omega)]
        exact h9.base (by omega)
      clear own b3 hx3 hC HCo HBW HX2
      go_wp2
      refine bodyPost_ret (v := .tuple #[v', .agg #[.int .i64 o1, .int .i64 o2]]) (by simp [results, Tryz.results70, go_sem, *]) rfl ?_
      exact ⟨_, _, HCh.out, rfl, HOw.out _ _, (HBW3.out.setCell (p := ⟨w.heap.size, 0, none⟩) (Nat.le_refl _) _).setCell (p := ⟨w.heap.size, 1, none⟩) (Nat.le_refl _) _⟩
    · have HN4 : Hid (Gm.Chk l t ([], z, 0)) := HN3.out hz
      go_wp2
      refine bodyPost_ret (v := .tuple #[.slice none 0 0, .agg #[.int .i64 z, .int .i64 0]]) (by simp [results, Tryz.results70, go_sem, *]) rfl ?_
      exact ⟨_, _, HN4.out, rfl, J.Own.nil _ _, (HBW.out.setCell (p := ⟨w.heap.size, 0, none⟩) (Nat.le_refl _) _).setCell (p := ⟨w.heap.size, 1, none⟩) (Nat.le_refl _) _⟩
  · have HN' : Hid (Gm.Chk l t ([], e1, e2)) := HN.out q
    clear HN HN2 HY
    go_wp2
    go_region
    go_wp2
    refine bodyPost_ret (v := .tuple #[.slice none 0 0, .agg #[.int .i64 e1, .int .i64 e2]]) (by simp [results, Tryz.results70, go_sem, *]) rfl ?_
    exact ⟨_, _, HN'.out, rfl, J.Own.nil _ _, (((HB2.out _).setCell (p := ⟨w.heap.size, 0, none⟩) (Nat.le_refl _) _).setCell (p := ⟨w.heap.size, 1, none⟩) (Nat.le_refl _) _).drew⟩

end Go.Proofs.YtjaodbaooogpnaaGreat

/-
  What slices.Concat makes of two slices of runes, and Runes of a text.
-/
namespace Go.Proofs.YtjaodbaooogpnaaGreat
open Go.RowKit Go.Lib
set_option maxRecDepth 20000

attribute [local go_sem ↓] Go.wp_at_zero Go.wp_at_succ

set_option maxHeartbeats 2000000 in
theorem xgrow_any (w : World) (n : Nat) (hn : n ≤ 8000) :
    Calls Tryz.prog 77 #[.slice none 0 0, .int .i64 n] w fun e w' => ∃ v, e = .returned v ∧ w'.ownsRow w.heap.size 21 1 v 0 [] ∧ Below w.heap.size w w' := by
  by_cases h0 : n = 0
  · subst h0
    go_enter Tryz.func77, Tryz.ntmps77
    go_wp2
    go_ret
    exact ⟨_, rfl, World.ownsRow_nil _ _ _ _, Below.refl _ _⟩
  · obtain ⟨i0, hi, hz0, hz1, hz2⟩ := info_parts Tryz.infoI32
    have hG : n ≤ grownCap w n 0 21 := grownCap_ge w _ _ _
    have hG63 := grownCap_le_maxLen w n 0 21 (by unfold maxLen; omega)
    have hrz : ∀ ty, (Builtin.append_ #[26, 3] ty #[.slice none 0 0, .int .i64 (n : Int)]).run Tryz.prog w =
        .ok (.slice (some ⟨w.heap.size, 0, none⟩) n (grownCap w n 0 21)) (w.drew.alloc (.cells (([] : List Value).toArray ++ Builtin.zeroCells (Value.int .i32 0).cells n ++ Builtin.zeroCells (Value.int .i32 0).cells (grownCap w n 0 21 - n)) 21)) := fun ty => by
      have h := Lib.run_append_grow_zeros w 26 3 ty 21 i0 (.int .i32 0) .i64 .i64 Tryz.underlying26 Tryz.underlying3 hi hz0 none 0 0 [] (run_firstCells_none w.drew i0.size 0 0 0) n (by omega) (by omega) (by omega) (by omega)
        (by rw [hz2]; omega) (by rw [hz2]; exact growslice_fits (by omega) (by omega))
      simpa using h
    obtain ⟨Gc, hGc⟩ : ∃ Gc, Gc = grownCap w n 0 21 := ⟨_, rfl⟩
    rw [← hGc] at hrz hG hG63
    have HO : Hid ((w.drew.alloc (.cells (([] : List Value).toArray ++ Builtin.zeroCells (Value.int .i32 0).cells n ++ Builtin.zeroCells (Value.int .i32 0).cells (Gc - n)) 21)).ownsRow w.heap.size 21 1 (.slice (some ⟨w.heap.size, 0, none⟩) 0 Gc) 0 []) :=
      World.ownsRow_made w.drew _ Gc (Nat.le_refl _) hG63 (by simp [Builtin.zeroCells, Value.cells]; omega)
    have HB : Hid (Below w.heap.size w (w.drew.alloc (.cells (([] : List Value).toArray ++ Builtin.zeroCells (Value.int .i32 0).cells n ++ Builtin.zeroCells (Value.int .i32 0).cells (Gc - n)) 21))) := (Below.refl _ w).drew.alloc (Nat.le_refl _) _
    generalize (w.drew.alloc (.cells (([] : List Value).toArray ++ Builtin.zeroCells (Value.int .i32 0).cells n ++ Builtin.zeroCells (Value.int .i32 0).cells (Gc - n)) 21)) = W at *
    unfold maxLen at hG63
    clear hGc
    go_enter Tryz.func77, Tryz.ntmps77
    go_wp2_with (at_builtin; refine Lib.wpList_append_run _ rfl _ _ _ _ rfl _ _ rfl rfl _ _ (hrz _) ?_)
    all_goals
      go_ret
      exact ⟨_, rfl, HO.out, HB.out⟩

set_option maxHeartbeats 4000000 in
theorem xconcat_any (w : World) (b : Nat) (v1 v2 : Value) (z1 z2 : List Int) (c1 : w.cell? ⟨b, 0, none⟩ = some v1) (c2 : w.cell? ⟨b, 1, none⟩ = some v2) (R1 : L.Rd w v1 .i32 z1) (R2 : L.Rd w v2 .i32 z2) (hl : z1.length + z2.length ≤ 4000) :
    Calls Tryz.prog 69 #[.slice (some ⟨b, 0, none⟩) 2 2] w fun e w' => ∃ v, e = .returned v ∧ w'.ownsRow w.heap.size 21 1 v (z1 ++ z2).length ((z1 ++ z2).map (Value.int .i32)) ∧ Below w.heap.size w w' := by
  obtain ⟨i0, hi, hz0, hz1, hz2⟩ := info_parts Tryz.infoI32
  have HR1 : Hid (L.Rd w v1 .i32 z1) := R1
  have HR2 : Hid (L.Rd w v2 .i32 z2) := R2
  obtain ⟨a1, k1, rfl, _⟩ := R1
  obtain ⟨a2, k2, rfl, _⟩ := R2
  have hb := L.block_lt c1
  go_enter Tryz.func69, Tryz.ntmps69
  go_wp2
  refine wp_loop_rounds 3 ?_
  rw [rounds_succ]; go_wp2
  rw [rounds_succ]; go_wp2
  rw [rounds_succ]; go_wp2_with fail
  have hgr := xgrow_any w (z1.length + z2.length) (by omega)
  rw [Int.natCast_add] at hgr
  refine hgr.mono ?_
  clear hgr
  rintro e W ⟨v, rfl, own, hbl⟩
  have HO : Hid (W.ownsRow w.heap.size 21 1 v 0 []) := own
  have HB : Hid (Below w.heap.size w W) := hbl
  have d1 : W.cell? ⟨b, 0, none⟩ = some (.slice a1 z1.length k1) := by rw [hbl.cell (p := ⟨b, 0, none⟩) hb]; exact c1
  have d2 : W.cell? ⟨b, 1, none⟩ = some (.slice a2 z2.length k2) := by rw [hbl.cell (p := ⟨b, 1, none⟩) hb]; exact c2
  have HC2 : Hid (w.cell? ⟨b, 1, none⟩ = some (.slice a2 z2.length k2)) := c2
  clear own hbl c1 c2
  go_wp2
  refine wp_loop_rounds 3 ?_
  rw [rounds_succ]
  go_wp2_with (at_builtin; go_must (refine L.wpList_append_rd rfl _ _ 26 rfl w.heap.size 21 i0 .i32 4 Tryz.underlying26 hi hz0 hz1 hz2 _ _ _ rfl HO.out _ z1 rfl (HR1.out.below HB.out (Nat.le_refl _)) (by unfold maxLen; omega) (by omega) HB.out.size ?_; intro v' W1 own1 grown1))
  have HO1 : Hid (W1.ownsRow w.heap.size 21 1 v' (0 + z1.length) ([] ++ z1.map (Value.int .i32))) := own1
  have HB1 : Hid (Below w.heap.size w W1) := HB.out.grown grown1 HB.out.size fun k hk => (HO.out.lt k hk).1
  have f2 : W1.cell? ⟨b, 1, none⟩ = some (.slice a2 z2.length k2) := by rw [HB1.out.cell (p := ⟨b, 1, none⟩) hb]; exact HC2.out
  clear own1 grown1 d1 d2
  rw [rounds_succ]
  go_wp2_with (at_builtin; go_must (refine L.wpList_append_rd rfl _ _ 26 rfl w.heap.size 21 i0 .i32 4 Tryz.underlying26 hi hz0 hz1 hz2 _ _ _ rfl HO1.out _ z2 rfl (HR2.out.below HB1.out (Nat.le_refl _)) (by unfold maxLen; omega) (by omega) HB1.out.size ?_; intro v'' W2 own2 grown2))
  have HO2 : Hid (W2.ownsRow w.heap.size 21 1 v'' (0 + z1.length + z2.length) ([] ++ z1.map (Value.int .i32) ++ z2.map (Value.int .i32))) := own2
  have HB2 : Hid (Below w.heap.size w W2) := HB1.out.grown grown2 HB1.out.size fun k hk => (HO1.out.lt k hk).1
  clear own2 grown2 f2
  rw [rounds_succ]
  go_wp2
  go_ret
  refine ⟨_, rfl, ?_, HB2.out⟩
  have h := HO2.out
  rw [show 0 + z1.length + z2.length = (z1 ++ z2).length by simp, show [] ++ z1.map (Value.int .i32) ++ z2.map (Value.int .i32) = (z1 ++ z2).map (Value.int .i32) by simp] at h
  exact h

namespace Gm
theorem Tx.rdA {B : Gm.Bs} {g : Nat} {ao : Option Addr} {cur A Z : List Int} {w : World} (h : Tx B g ao cur A Z w) (c : Nat) (hc : ao = none → c = 0) : L.Rd w (.slice ao A.length c) .i32 A :=
  ⟨ao, c, rfl, hc, fun hz => by
    obtain ⟨b, so, hao, hcell⟩ := h.cellsA (List.length_pos_iff.2 hz)
    exact ⟨b, so, hao, fun j z hj => hcell j z hj⟩⟩
theorem Tx.rdZ {B : Gm.Bs} {g : Nat} {ao : Option Addr} {cur A Z : List Int} {w : World} (h : Tx B g ao cur A Z w) {T : Nat} (hT : T = cur.length - Z.length) : L.Rd w (.slice (if cur.length = T then ao else Option.map (fun x => x.add T) ao) (cur.length - T) (cur.length - T)) .i32 Z := by
  have hf := h.fit
  have hl : cur.length - T = Z.length := by omega
  refine ⟨_, _, by rw [hl], fun e => ?_, fun hz => ?_⟩
  · rcases h.room with ⟨_, hc⟩ | ⟨r, hr, _⟩
    · have : cur.length = 0 := by rw [hc]; rfl
      omega
    · rw [hr] at e; split at e <;> cases e
  · obtain ⟨r, hr, hc⟩ := h.cellsZ hT (List.length_pos_iff.2 hz)
    have := List.length_pos_iff.2 hz
    rw [if_neg (by omega), hr]
    exact ⟨r, T, by rw [Option.map_some, L.addr_add, Nat.zero_add], fun j z hj => hc j z hj⟩
theorem keep3b {w w' : World} {o : Obj} {g : Nat} {v0 v1 v2 : Value} (h : Bx3 w g v0 v1 v2) (hb : Below (w.alloc o).drew.heap.size (w.alloc o).drew w') : (w'.cell? ⟨g, 0, none⟩ = some v0 ∧ w'.cell? ⟨g, 1, none⟩ = some v1) ∧ w'.cell? ⟨g, 2, none⟩ = some v2 :=
  have hb' : Bx3 w' g v0 v1 v2 := h.block ((hb.block g (by have := h.lt; show g < (w.alloc o).heap.size; simp; omega)).trans (Below.heap_alloc w o g h.lt))
  ⟨⟨hb'.c0, hb'.c1⟩, hb'.c2⟩
end Gm

set_option maxHeartbeats 4000000 in
theorem xrunes_any (w : World) (B : Gm.Bs) (g : Nat) (ao : Option Addr) (cur A Z : List Int) (h : Gm.Tx B g ao cur A Z w) :
    Calls Tryz.prog 66 #[.pointer (some ⟨g, 0, none⟩)] w fun e w' => ∃ v, e = .returned v ∧ w'.ownsRow w.heap.size 21 1 v (A ++ Z).length ((A ++ Z).map (Value.int .i32)) ∧ Below w.heap.size w w' := by
  have hf := h.fit
  have hm := h.most
  have hw := h.few
  have c0 := h.box.c0
  have c1 := h.box.c1
  have c2 := h.box.c2
  have H : Hid (Gm.Tx B g ao cur A Z w) := h
  have hgl := h.box.lt
  obtain ⟨T, hT⟩ : ∃ T : Nat, T = cur.length - Z.length := ⟨_, rfl⟩
  have HT : Hid (T = cur.length - Z.length) := hT
  rw [← hT] at c2
  have hT0 : (0 : Int) ≤ T := by omega
  have hT1 : (T : Int) ≤ cur.length := by omega
  have hA0 : (0 : Int) ≤ A.length := by omega
  have hA1 : (A.length : Int) ≤ cur.length := by omega
  have n0 := World.new_ne w _ c0
  have n1 := World.new_ne w _ c1
  have n2 := World.new_ne w _ c2
  have HC : Hid (∀ v2, (∀ o, L.Rd (w.alloc o).drew v2 .i32 Z) → Calls Tryz.prog 69 #[.slice (some ⟨w.heap.size, 0, none⟩) 2 2] (w.alloc (.cells #[.slice ao A.length cur.length, v2] 26)).drew fun e w' => ∃ v, e = .returned v ∧ w'.ownsRow w.heap.size 21 1 v (A ++ Z).length ((A ++ Z).map (Value.int .i32)) ∧ Below (w.alloc (.cells #[.slice ao A.length cur.length, v2] 26)).drew.heap.size (w.alloc (.cells #[.slice ao A.length cur.length, v2] 26)).drew w') := by
    intro v2 h2
    have hx : ∀ o, Gm.Tx B g ao cur A Z (w.alloc o).drew := fun o => h.kept fun k hk => Below.heap_alloc w o k hk
    refine (xconcat_any _ _ (.slice ao A.length cur.length) v2 _ _ ?_ ?_ ((hx _).rdA cur.length fun e => ?_) (h2 _) hw).mono fun e w' ⟨v, he, ho, hb⟩ => ⟨v, he, L.owns_base ho (by show w.heap.size ≤ (w.alloc _).heap.size; simp), hb⟩
    · exact World.cell?_alloc_at _ _ _ _ (by simp)
    · exact World.cell?_alloc_at _ _ _ _ (by simp)
    · rcases h.room with ⟨_, hc⟩ | ⟨r, hr, _⟩
      · rw [hc]; rfl
      · rw [e] at hr; cases hr
  have HZ : Hid (∀ o, L.Rd (w.alloc o).drew (.slice (if cur.length = T then ao else Option.map (fun x => x.add T) ao) (cur.length - T) (cur.length - T)) .i32 Z) := fun o =>
    have hx : Gm.Tx B g ao cur A Z (w.alloc o).drew := h.kept fun k hk => Below.heap_alloc w o k hk
    hx.rdZ hT
  clear h hT
  obtain ⟨m, hmT⟩ : ∃ m : Nat, m = cur.length - T := ⟨_, rfl⟩
  obtain ⟨ap, hap⟩ : ∃ ap, ap = (if cur.length = T then ao else Option.map (fun x => x.add T) ao) := ⟨_, rfl⟩
  rw [← hmT, ← hap] at HZ
  have hsl : ∀ w', (Instr.slice 26 (.slice ao cur.length cur.length) (some (.int .i64 (T : Int))) none none).run Tryz.prog w' = .ok (.slice ap m m) w' := fun w' => by
    rw [hmT, hap]
    go_simp
  clear hmT hap
  go_enter Tryz.func66, Tryz.ntmps66
  go_wp2
  go_region_held3 (fun w' => (w'.cell? ⟨g, 0, none⟩ = some (.slice ao cur.length cur.length) ∧ w'.cell? ⟨g, 1, none⟩ = some (.int .i64 A.length)) ∧ w'.cell? ⟨g, 2, none⟩ = some (.int .i64 T)) (first | exact Gm.keep3b (Gm.Bx3.toT H.out.box HT.out) bw | go_keep) (first | (go_at_call 69; refine (HC.out _ HZ.out).mono ?_; rintro e w' ⟨v, rfl, rv, bw⟩))
  have HV : Hid (w'.ownsRow w.heap.size 21 1 v (A ++ Z).length ((A ++ Z).map (Value.int .i32))) := rv
  have HB : Hid (Below w.heap.size w w') := ((Below.refl _ w).alloc (Nat.le_refl _) _).drew.trans (bw.mono (by show w.heap.size ≤ (w.alloc _).heap.size; simp))
  clear rv bw HC
  go_wp2
  all_goals
    go_ret
    exact ⟨_, rfl, HV.out, HB.out⟩

end Go.Proofs.YtjaodbaooogpnaaGreat
