/-
  vm.ready: a machine ahead of its first step.
-/
import Derived.Test.YtackaadejnbfmaaXCount
import Derived.Test.YtackaadejnbfmaaXNew
namespace Go.Proofs.Ytackaadejnbfmaa
open Go.RowKit Go.Shelf
set_option maxRecDepth 20000
set_option linter.unusedSimpArgs false
set_option linter.unusedVariables false

theorem J.held {F : Nat} {e : TypeId} {k : Nat} {w w' : World} {v : Value} {n : Nat} {xs : List Value} (h : w.ownsRow F e k v n xs) (hb : ∀ g, F ≤ g → g < w.heap.size → w'.heap[g]? = w.heap[g]?) : w'.ownsRow F e k v n xs := by
  obtain ⟨h1, h2⟩ := h
  refine ⟨h1, ?_⟩
  rcases h2 with h2 | ⟨g, cap, cur, hv, hg, hx, r⟩
  · exact .inl h2
  · exact .inr ⟨g, cap, cur, hv, hg, by rw [hb g hg (lt_of_block hx)]; exact hx, r⟩
theorem J.Own.held {F : Nat} {w w' : World} {v : Value} {hs : List J.Hd} (h : J.Own F w v hs) (hb : ∀ g, F ≤ g → g < w.heap.size → w'.heap[g]? = w.heap[g]?) : J.Own F w' v hs := by
  obtain ⟨ps, h1, h2, h3⟩ := h
  exact ⟨ps, h1, J.held h2 hb, fun p hp => J.held (h3 p hp) hb⟩

theorem Gm.Chk.ok {l : List K.Rule} {t : List Int} {hs : List J.Hd} {e2 : Int} (h : Gm.Chk l t (hs, 0, e2)) : t.length ≤ 4000 ∧ K.allR t = true ∧ e2 = 0 ∧ ∃ c, Gm.Ok l c ∧ hs = J.heads (J.begins l) c (c.length - 1) := by
  rcases h with ⟨h, h2⟩ | ⟨h, h2, h3⟩ | ⟨h, h2, h3⟩
  · simp only [Prod.mk.injEq] at h2
    exact absurd (by rw [← h2.2]) h
  · simp only [Prod.mk.injEq] at h3; exact absurd h3.2.1.symm h2
  · have h4 := K.textE_zero h2
    have h5 : K.allR t = true := by
      unfold K.textE at h2
      rw [if_neg (by omega)] at h2
      by_cases h : K.allR t = true
      · exact h
      · rw [if_neg h] at h2; cases h2
    rcases h3 with ⟨g, _⟩ | ⟨_, c, hc, _, ⟨_, g⟩ | ⟨h9, g⟩⟩
    · exact absurd h g
    · simp at g
    · simp only [Prod.mk.injEq] at g
      exact ⟨h4, h5, g.2.2, c, ⟨(K.rulesF_zero h).1, (K.rulesF_zero h).2.1, hc, h9⟩, g.1⟩

/-- what stands ahead of the first step -/
def Gm.Rdy (wb w w' : World) (v : Value) (l : List K.Rule) (t : List Int) (mb : Nat) : Prop :=
  ∃ b g vh c, w.heap.size ≤ b ∧ b ≤ mb ∧ Gm.Mx b [mb] mb wb w' g v vh l c [] t ∧ Gm.Ok l c ∧ K.allR t = true ∧ ∀ W', (∀ j, w.heap.size ≤ j → j < b → W'.heap[j]? = w'.heap[j]?) → J.Rd W' vh (J.heads (J.begins l) c (c.length - 1))

theorem Gm.ready_of {wb w X w2 : World} {va : Value} {l : List K.Rule} {t c : List Int} {vh : Value} (hwb : Below wb.heap.size wb w) (R0 : V.Rus wb va l) (hBX : Below w.heap.size w X) (hXs : w.heap.size < X.heap.size) (hO : J.Own (w.heap.size + 1) X vh (J.heads (J.begins l) c (c.length - 1))) (hok : Gm.Ok l c) (hall : K.allR t = true) (hTo : Gm.Told ⟨X.heap.size, []⟩ X.heap.size X [] t w2) (x y : Value) :
    Gm.Rdy wb w (((w2.alloc (.cells #[.pointer (some ⟨X.heap.size, 0, none⟩), va, vh] 54)).setCell ⟨w.heap.size, 0, none⟩ x).setCell ⟨w.heap.size, 1, none⟩ y) va l t w2.heap.size ∧ Below w.heap.size w (((w2.alloc (.cells #[.pointer (some ⟨X.heap.size, 0, none⟩), va, vh] 54)).setCell ⟨w.heap.size, 0, none⟩ x).setCell ⟨w.heap.size, 1, none⟩ y) := by
  obtain ⟨⟨ao, cur, hT⟩, hF⟩ := hTo
  have hb2 : Below X.heap.size X w2 := hF.1
  have hs2 := hb2.size
  have hsw := hwb.size
  obtain ⟨M, hM⟩ : ∃ M, M = w2.alloc (.cells #[.pointer (some ⟨X.heap.size, 0, none⟩), va, vh] 54) := ⟨_, rfl⟩
  have hM0 : M.heap[w2.heap.size]? = some (.cells #[.pointer (some ⟨X.heap.size, 0, none⟩), va, vh] 54) := by rw [hM]; exact heap_alloc_new w2 _
  have hMb : Below w.heap.size w M := by rw [hM]; exact (hBX.trans (hb2.mono (by omega))).alloc (by omega) _
  have hM1 : ∀ j, j < w2.heap.size → M.heap[j]? = w2.heap[j]? := fun j hj => by rw [hM]; exact Below.heap_alloc w2 _ j hj
  rw [← hM]
  have hWb : Below w.heap.size w ((M.setCell ⟨w.heap.size, 0, none⟩ x).setCell ⟨w.heap.size, 1, none⟩ y) := (hMb.setCell (p := ⟨w.heap.size, 0, none⟩) (Nat.le_refl _) _).setCell (p := ⟨w.heap.size, 1, none⟩) (Nat.le_refl _) _
  have hW1 : ∀ j, j ≠ w.heap.size → ((M.setCell ⟨w.heap.size, 0, none⟩ x).setCell ⟨w.heap.size, 1, none⟩ y).heap[j]? = M.heap[j]? := fun j hj => by
    rw [heap_setCell_other _ _ j y (by simpa using hj), heap_setCell_other _ _ j x (by simpa using hj)]
  generalize (M.setCell ⟨w.heap.size, 0, none⟩ x).setCell ⟨w.heap.size, 1, none⟩ y = W at *
  have hbox : W.heap[w2.heap.size]? = some (.cells #[.pointer (some ⟨X.heap.size, 0, none⟩), va, vh] 54) := (hW1 _ (by omega)).trans hM0
  have hhd : ∀ W', (∀ j, w.heap.size ≤ j → j < X.heap.size → W'.heap[j]? = W.heap[j]?) → J.Rd W' vh (J.heads (J.begins l) c (c.length - 1)) := fun W' h => (hO.held fun g h1 h2 => by rw [h g (by omega) h2, hW1 g (by omega), hM1 g (by omega)]; exact hb2.block g h2).rd
  have hgl := hT.box.lt
  have h2 := hT.re (B' := ⟨X.heap.size, [w2.heap.size]⟩) ⟨Nat.le_refl _, by simp; omega⟩ fun q hq => by
    have h1 := hT.room.lt q hq
    exact ⟨h1.1.1, by simp; have := h1.2; omega⟩
  refine ⟨⟨X.heap.size, X.heap.size, vh, c, by omega, hs2, ⟨by omega, hwb.trans (hWb.mono hsw), hbox, by simp, fun j hj => ?_, ⟨ao, cur, h2.hB, h2.box.block ?_, h2.room.block fun r hr => ?_, h2.ne, h2.fit, h2.most, h2.few, h2.ahead, h2.behind⟩, R0, fun W' hW' => hhd W' fun j h3 h4 => hW'.block j h4⟩, hok, hall, hhd⟩, hWb⟩
  · simp at hj; subst hj; exact lt_of_block hbox
  · rw [hW1 _ (by omega), hM1 _ hgl]
  · have h1 := hT.room.lt r hr
    have h3 : X.heap.size ≤ r := h1.1.1
    rw [hW1 _ (by omega), hM1 _ h1.2]

set_option maxHeartbeats 8000000 in
theorem xready_any (wb w : World) (v : Value) (l : List K.Rule) (hwb : Below wb.heap.size wb w) (R0 : V.Rus wb v l) (vt : Value) (t : List Int) (Rt : L.Rd w vt .i32 t) (ht : t.length ≤ 140737488355328) :
    Calls Try.prog 25 #[v, vt] w fun e w' => ∃ o, Gm.Chk l t o ∧ Below w.heap.size w w' ∧ ((o.2.1 ≠ 0 ∧ e = .returned (.tuple #[.pointer none, .agg #[.int .i64 o.2.1, .int .i64 o.2.2]])) ∨ (o.2.1 = 0 ∧ ∃ mb, e = .returned (.tuple #[.pointer (some ⟨mb, 0, none⟩), .agg #[.int .i64 0, .int .i64 0]]) ∧ Gm.Rdy wb w w' v l t mb)) := by
  have HA : Hid (∀ o, Below w.heap.size w (w.alloc o)) := fun o => (Below.refl _ w).alloc (Nat.le_refl _) o
  have HC : Hid (∀ o, Calls Try.prog 41 #[v, vt] (w.alloc o) fun e w' => ∃ (v' : Value) (o' : List J.Hd × Int × Int), Gm.Chk l t o' ∧ e = .returned (.tuple #[v', .agg #[.int .i64 o'.2.1, .int .i64 o'.2.2]]) ∧ J.Own (w.alloc o).heap.size w' v' o'.1 ∧ Below (w.alloc o).heap.size (w.alloc o) w') := fun o => xcheck_any _ v l ((R0.below hwb).below (HA.out o)) vt t (Rt.below (HA.out o) (Nat.le_refl _)) ht
  have HR : Hid (V.Rus wb v l ∧ Below wb.heap.size wb w) := ⟨R0, hwb⟩
  have HT : Hid (L.Rd w vt .i32 t) := Rt
  obtain ⟨va, vc, rfl⟩ := R0.len
  clear R0 Rt hwb
  go_enter Try.func25, Try.ntmps25
  go_wp2_with fail
  refine (HC.out _).mono ?_
  rintro e w1 ⟨v', ⟨hs, e1, e2⟩, hch, rfl, own, b1⟩
  obtain ⟨h1, B1, s1⟩ := K.one_box b1
  have HB1 : Hid (Below w.heap.size w w1) := B1
  have HX1 : Hid (w1.heap[w.heap.size]? = some (.cells #[.int .i64 0, .int .i64 0] 28)) := h1
  have HCh : Hid (Gm.Chk l t (hs, e1, e2)) := hch
  have hOw : J.Own (w.heap.size + 1) w1 v' hs := by simpa using own
  have HOw : Hid (J.Own (w.heap.size + 1) w1 v' hs) := hOw
  obtain ⟨x0, x1, f0, f1⟩ := K.box2 h1
  have k0 : ∀ o, (w1.alloc o).cell? ⟨w.heap.size, 0, none⟩ = some (.int .i64 0) := fun o => K.alloc_cell x0 o
  have k1 : ∀ o, (w1.alloc o).cell? ⟨w.heap.size, 1, none⟩ = some (.int .i64 0) := fun o => K.alloc_cell x1 o
  have g0 : ∀ o, (w1.alloc o).frozen? ⟨w.heap.size, 0, none⟩ = false := fun o => K.alloc_free h1 o 0
  have g1 : ∀ o, (w1.alloc o).frozen? ⟨w.heap.size, 1, none⟩ = false := fun o => K.alloc_free h1 o 1
  have HB2 : Hid (∀ o, Below w.heap.size w (w1.alloc o)) := fun o => HB1.out.alloc (by omega) o
  clear b1 B1 HC x0 x1 f0 f1 h1 hch own hOw
  by_cases q : e1 = 0
  · subst q
    obtain ⟨ht4, hall, rfl, c, hok, rfl⟩ := HCh.out.ok
    have HOk : Hid (Gm.Ok l c ∧ K.allR t = true) := ⟨hok, hall⟩
    obtain ⟨X, hX⟩ : ∃ X, X = w1.alloc (.cells #[.int .i64 0, .int .i64 0] 28) := ⟨_, rfl⟩
    have HXX : Hid (X = w1.alloc (.cells #[.int .i64 0, .int .i64 0] 28)) := hX
    have HBX : Hid (Below w.heap.size w X) := by show Below _ _ _; rw [hX]; exact HB2.out _
    have hXs : w.heap.size < X.heap.size := by rw [hX]; simp; omega
    have HXb : Hid (X.heap[w.heap.size]? = some (.cells #[.int .i64 0, .int .i64 0] 28)) := by
      show X.heap[w.heap.size]? = _
      rw [hX, Below.heap_alloc w1 _ w.heap.size (by omega)]; exact HX1.out
    have HOX : Hid (J.Own (w.heap.size + 1) X v' (J.heads (J.begins l) c (c.length - 1))) := by
      show J.Own _ _ _ _
      rw [hX]; exact HOw.out.below ((Below.refl _ w1).alloc (Nat.le_refl _) _)
    have HNw : Hid (∀ Y, Y = X → Calls Try.prog 42 #[vt] Y fun e w' => e = .returned (.tuple #[.pointer (some ⟨X.heap.size, 0, none⟩), .int .i64 0]) ∧ Gm.Told ⟨X.heap.size, []⟩ X.heap.size X [] t w') := fun Y hY => by rw [hY]; exact xnew_ok X vt t (HT.out.below HBX.out (Nat.le_refl _)) ht4
    clear hX k0 k1 g0 g1 hok hall HOw
    obtain ⟨ua, uc, rfl⟩ := HOX.out.len
    generalize hhs : J.heads (J.begins l) c (c.length - 1) = hs at *
    go_wp2_with fail
    go_at_call 42
    refine (HNw.out _ HXX.out.symm).mono ?_
    rintro e w2 ⟨rfl, told⟩
    have HTo : Hid (Gm.Told ⟨X.heap.size, []⟩ X.heap.size X [] t w2) := told
    have hb2 : Below X.heap.size X w2 := told.2.1
    have hx2 := K.blk_below HXb.out hb2
    have HX2 : Hid (w2.heap[w.heap.size]? = some (.cells #[.int .i64 0, .int .i64 0] 28)) := hx2
    obtain ⟨x0, x1, f0, f1⟩ := K.box2 hx2
    have k0 : ∀ o, (w2.alloc o).cell? ⟨w.heap.size, 0, none⟩ = some (.int .i64 0) := fun o => K.alloc_cell x0 o
    have k1 : ∀ o, (w2.alloc o).cell? ⟨w.heap.size, 1, none⟩ = some (.int .i64 0) := fun o => K.alloc_cell x1 o
    have g0 : ∀ o, (w2.alloc o).frozen? ⟨w.heap.size, 0, none⟩ = false := fun o => K.alloc_free hx2 o 0
    have g1 : ∀ o, (w2.alloc o).frozen? ⟨w.heap.size, 1, none⟩ = false := fun o => K.alloc_free hx2 o 1
    have hs2 := hb2.size
    have HFin : Hid (∀ x y, _) := fun x y => Gm.ready_of (c := c) HR.out.2 HR.out.1 HBX.out hXs (by rw [hhs]; exact HOX.out) HOk.out.1 HOk.out.2 HTo.out x y
    clear told hb2 hx2 HNw HXX HXb HB1 HX1 HB2 x0 x1 f0 f1
    go_wp2
    refine bodyPost_ret (v := .tuple #[.pointer (some ⟨w2.heap.size, 0, none⟩), .agg #[.int .i64 0, .int .i64 0]]) (by simp [results, Try.results25, go_sem, *]) rfl ?_
    exact ⟨_, HCh.out, (HFin.out _ _).2, .inr ⟨rfl, _, rfl, (HFin.out _ _).1⟩⟩
  · go_wp2
    go_region
    go_wp2
    refine bodyPost_ret (v := .tuple #[.pointer none, .agg #[.int .i64 e1, .int .i64 e2]]) (by simp [results, Try.results25, go_sem, *]) rfl ?_
    exact ⟨_, HCh.out, (((HB2.out _).setCell (p := ⟨w.heap.size, 0, none⟩) (Nat.le_refl _) _).setCell (p := ⟨w.heap.size, 1, none⟩) (Nat.le_refl _) _).drew, .inl ⟨q, rfl⟩⟩

end Go.Proofs.Ytackaadejnbfmaa

/-
  What outlasts the machine's play besides: a box below it.
-/
namespace Go.Proofs.Ytackaadejnbfmaa
open Go.RowKit Go.Shelf
set_option maxRecDepth 20000
set_option linter.unusedSimpArgs false
set_option linter.unusedVariables false

/-- Play's box, and one box more that stays -/
def Gm.Cb (b ob rb : Nat) (o : Obj) (vh : Value) (l : List K.Rule) (c : List Int) (W : World) (s p : Int) : Prop := Gm.Cn b ob vh l c W s p ∧ W.heap[rb]? = some o
theorem Gm.Cb.keep {b ob rb : Nat} {o : Obj} {vh : Value} {l : List K.Rule} {c : List Int} {W W' : World} {s p : Int} (h : Gm.Cb b ob rb o vh l c W s p) (hob : ob < b) (hrb : rb < b) (hb : Below b W W') : Gm.Cb b ob rb o vh l c W' s p :=
  ⟨h.1.keep hob hb, (hb.block rb hrb).trans h.2⟩
theorem Gm.told_box {b ob rb mb : Nat} {o : Obj} {wb : World} {g : Nat} {vr vh : Value} {l : List K.Rule} {c : List Int} {n : Nat} (hob : wb.heap.size ≤ ob) (hb : ob < b) (hmb : mb ≠ ob) (hrb : rb ≠ ob) (hn : n ≤ 4000) :
    ∀ W A Z (s p at_ k : Int), Gm.Mx b [mb] mb wb W g vr vh l c A Z → Gm.Cb b ob rb o vh l c W s p → 0 ≤ p → p ≤ s → s < 8 * n + 40 → (k = -1 ∨ 0 ≤ k) → Calls Try.prog 13 (#[.agg #[.int .i64 at_, .int .i64 k]] ++ #[.pointer (some ⟨ob, 0, none⟩)]) W fun e w' => e = .returned (.tuple #[]) ∧ Gm.Mx b [mb] mb wb w' g vr vh l c A Z ∧ Gm.Cb b ob rb o vh l c w' (s + 1) (p + if k = -1 then 0 else 1) := by
  intro W A Z s p at_ k M C h0 h1 h2 hk
  refine (xcount_any W ob s p at_ k C.1.1 (by omega) (by omega) h0 (by omega) hk).mono ?_
  rintro e w' ⟨rfl, g1, g2, g3, g4⟩
  have htop := M.top
  refine ⟨rfl, M.count hob hb hmb C.1 g2 (M.bel.trans (g3 _ hob)) g4, ⟨g1, fun W' e => C.1.2 W' fun j hj hne => (e j hj hne).trans (g4 j (by omega) hne)⟩, (g4 rb (lt_of_block C.2) hrb).trans C.2⟩

end Go.Proofs.Ytackaadejnbfmaa

/-
  vm.play: the machine, when all steps have been taken, told to Play's count.
-/
namespace Go.Proofs.Ytackaadejnbfmaa
open Go.RowKit Go.Shelf
set_option maxRecDepth 20000
set_option linter.unusedSimpArgs false
set_option linter.unusedVariables false

/-- a store of what is there already -/
theorem Gm.idle {w : World} {r : Nat} {x y : Value} {ty : TypeId} (h : w.heap[r]? = some (.cells #[x, y] ty)) : Below w.heap.size w ((w.setCell ⟨r, 0, none⟩ x).setCell ⟨r, 1, none⟩ y) := by
  refine ⟨rfl, rfl, rfl, by simp, fun k hk => ?_⟩
  by_cases e : k = r
  · subst e
    rw [h]
    exact heap_setCell_same _ k 1 _ _ y (heap_setCell_same w k 0 _ _ x h)
  · rw [heap_setCell_other _ ⟨r, 1, none⟩ k y (by simpa using e), heap_setCell_other _ ⟨r, 0, none⟩ k x (by simpa using e)]

/-- what the machine's whole play leaves -/
def Gm.Vm (wb w' : World) (v : Value) (l : List K.Rule) (t : List Int) (ob : Nat) (mp : Value) (f1 f2 : Int) : Prop :=
  ∃ o : List J.Hd × Int × Int, Gm.Chk l t o ∧ ((o.2.1 ≠ 0 ∧ mp = .pointer none ∧ f1 = o.2.1 ∧ f2 = o.2.2) ∨ (o.2.1 = 0 ∧ ∃ p1 p2 p3 p4, K.play l (8 * t.length + 40) [] t 0 0 = (p1, p2, p3, p4) ∧ f1 = p1 ∧ f2 = 0 ∧
    ((p1 ≠ 0 ∧ mp = .pointer none) ∨ (p1 = 0 ∧ ∃ mb, mp = .pointer (some ⟨mb, 0, none⟩) ∧ w'.heap[ob]? = some (.cells #[.slice none 0 0, .int .i64 p3, .int .i64 p4] 25) ∧ ∃ b g vh c, ob < b ∧ mb ≠ ob ∧ Gm.Mx b [mb] mb wb w' g v vh l c p2 []))))

set_option maxHeartbeats 8000000 in
theorem xvmplay_any (wb w : World) (v : Value) (l : List K.Rule) (hwb : Below wb.heap.size wb w) (R0 : V.Rus wb v l) (vt : Value) (t : List Int) (Rt : L.Rd w vt .i32 t) (ht : t.length ≤ 140737488355328) (ob : Nat) (hob : wb.heap.size ≤ ob) (hout : w.heap[ob]? = some (.cells #[.slice none 0 0, .int .i64 0, .int .i64 0] 25)) :
    Calls Try.prog 14 #[v, vt, .func (.func 13) #[] #[.pointer (some ⟨ob, 0, none⟩)]] w fun e w' => ∃ mp f1 f2, e = .returned (.tuple #[mp, .agg #[.int .i64 f1, .int .i64 f2]]) ∧ Below wb.heap.size wb w' ∧ Gm.Vm wb w' v l t ob mp f1 f2 := by
  have eg : ∀ args w, (callFunc 13 args).run Try.prog w = .ok (.enter 13 args) w := enters_of Try.func13 (by kernel_rfl) rfl
  have hobl : ob < w.heap.size := lt_of_block hout
  have hsb := hwb.size
  have HA : Hid (∀ o, Below w.heap.size w (w.alloc o)) := fun o => (Below.refl _ w).alloc (Nat.le_refl _) o
  have HRe : Hid (∀ o, Calls Try.prog 25 #[v, vt] (w.alloc o) fun e w' => ∃ o', Gm.Chk l t o' ∧ Below (w.alloc o).heap.size (w.alloc o) w' ∧ ((o'.2.1 ≠ 0 ∧ e = .returned (.tuple #[.pointer none, .agg #[.int .i64 o'.2.1, .int .i64 o'.2.2]])) ∨ (o'.2.1 = 0 ∧ ∃ mb, e = .returned (.tuple #[.pointer (some ⟨mb, 0, none⟩), .agg #[.int .i64 0, .int .i64 0]]) ∧ Gm.Rdy wb (w.alloc o) w' v l t mb))) := fun o => xready_any wb (w.alloc o) v l (hwb.trans ((HA.out o).mono hsb)) R0 vt t (Rt.below (HA.out o) (Nat.le_refl _)) ht
  have HWB : Hid (Below wb.heap.size wb w) := hwb
  have HOut : Hid (w.heap[ob]? = some (.cells #[.slice none 0 0, .int .i64 0, .int .i64 0] 25)) := hout
  obtain ⟨va, vc, rfl⟩ := R0.len
  clear R0 Rt hwb hout
  go_enter Try.func14, Try.ntmps14
  go_wp2_with fail
  refine (HRe.out _).mono ?_
  rintro e w1 ⟨⟨hs, e1, e2⟩, hch, b1, ⟨hq, rfl⟩ | ⟨hq, mb, rfl, hrdy⟩⟩
  · obtain ⟨h1, B1, s1⟩ := K.one_box b1
    have HCh : Hid (Gm.Chk l t (hs, e1, e2)) := hch
    have HB2 : Hid (∀ o, Below w.heap.size w (w1.alloc o)) := fun o => B1.alloc (by omega) o
    obtain ⟨x0, x1, f0, f1⟩ := K.box2 h1
    have k0 : ∀ o, (w1.alloc o).cell? ⟨w.heap.size, 0, none⟩ = some (.int .i64 0) := fun o => K.alloc_cell x0 o
    have k1 : ∀ o, (w1.alloc o).cell? ⟨w.heap.size, 1, none⟩ = some (.int .i64 0) := fun o => K.alloc_cell x1 o
    have g0 : ∀ o, (w1.alloc o).frozen? ⟨w.heap.size, 0, none⟩ = false := fun o => K.alloc_free h1 o 0
    have g1 : ∀ o, (w1.alloc o).frozen? ⟨w.heap.size, 1, none⟩ = false := fun o => K.alloc_free h1 o 1
    have hq' : ¬ e1 = 0 := hq
    clear b1 B1 HRe x0 x1 f0 f1 h1 hch hq
    go_wp2
    go_region
    go_wp2
    refine bodyPost_ret (v := .tuple #[.pointer none, .agg #[.int .i64 e1, .int .i64 e2]]) (by simp [results, Try.results14, go_sem, *]) rfl ?_
    exact ⟨_, _, _, rfl, HWB.out.trans (((((HB2.out _).setCell (p := ⟨w.heap.size, 0, none⟩) (Nat.le_refl _) _).setCell (p := ⟨w.heap.size, 1, none⟩) (Nat.le_refl _) _).drew).mono hsb), _, HCh.out, .inl ⟨hq', rfl, rfl, rfl⟩⟩
  · obtain ⟨h1, B1, s1⟩ := K.one_box b1
    have hq' : e1 = 0 := hq
    subst hq'
    have HCh : Hid (Gm.Chk l t (hs, 0, e2)) := hch
    obtain ⟨b, g, vh, c, hb1, hb2, hMx, hok, hall, hhd⟩ := hrdy
    have hsz : (w.alloc (.cells #[.int .i64 0, .int .i64 0] 28)).heap.size = w.heap.size + 1 := by simp
    have hbt := hMx.top
    have hmlt : mb < w1.heap.size := hMx.old mb (by simp)
    obtain ⟨⟨p1, p2, p3, p4⟩, hO⟩ : ∃ o, K.play l (8 * t.length + 40) [] t 0 0 = o := ⟨_, rfl⟩
    have HPl : Hid (∀ o, Calls Try.prog 26 #[.pointer (some ⟨mb, 0, none⟩), .func (.func 13) #[] #[.pointer (some ⟨ob, 0, none⟩)]] (w1.alloc o) fun e w' => e = .returned (.int .i64 p1) ∧ Below wb.heap.size wb w' ∧ w'.heap[w.heap.size]? = some (.cells #[.int .i64 0, .int .i64 0] 28) ∧ (p1 = 0 → Gm.Mx b [mb] mb wb w' g (.slice va l.length vc) vh l c p2 [] ∧ w'.heap[ob]? = some (.cells #[.slice none 0 0, .int .i64 p3, .int .i64 p4] 25))) := fun o => by
      have hal : Below w1.heap.size w1 (w1.alloc o) := (Below.refl _ w1).alloc (Nat.le_refl _) o
      have hbo : (w1.alloc o).heap[ob]? = some (.cells #[.slice none 0 0, .int .i64 0, .int .i64 0] 25) := (hal.block ob (by omega)).trans ((B1.block ob hobl).trans HOut.out)
      have hbr : (w1.alloc o).heap[w.heap.size]? = some (.cells #[.int .i64 0, .int .i64 0] 28) := K.blk_below h1 hal
      refine (xplay_any b mb wb (w1.alloc o) g _ vh l c t (hMx.below hal) hok hall (Gm.Cb b ob w.heap.size (.cells #[.int .i64 0, .int .i64 0] 28) vh l c) ⟨⟨hbo, fun W' hW' => hhd W' fun j hj1 hj2 => ?_⟩, hbr⟩ (fun W W' s p hC hB => hC.keep (by omega) (by omega) hB) 13 #[.pointer (some ⟨ob, 0, none⟩)] eg (Gm.told_box hob (by omega) (by omega) (by omega) (HCh.out.ok).1) p1 p2 p3 p4 hO).mono ?_
      · rw [hW' j hj2 (by omega)]; exact hal.block j (by omega)
      · rintro e w' ⟨h1, h2, ⟨s, p, hC⟩, h3⟩
        exact ⟨h1, h2, hC.2, fun h => ⟨(h3 h).1, (h3 h).2.1.1⟩⟩
    obtain ⟨ht4, _, rfl, _⟩ := HCh.out.ok
    have HO : Hid (K.play l (8 * t.length + 40) [] t 0 0 = (p1, p2, p3, p4)) := hO
    have hobb : ob < b := by omega
    have hmo : mb ≠ ob := by omega
    have hss := b1.size
    clear b1 B1 HRe h1 hch hq hMx hok hall hhd hO HOut
    go_wp2_with fail
    go_at_call 26
    refine (HPl.out _).mono ?_
    rintro e w2 ⟨rfl, hB2, hbx, hfin⟩
    have HB2 : Hid (Below wb.heap.size wb w2) := hB2
    have HF : Hid (p1 = 0 → Gm.Mx b [mb] mb wb w2 g (.slice va l.length vc) vh l c p2 [] ∧ w2.heap[ob]? = some (.cells #[.slice none 0 0, .int .i64 p3, .int .i64 p4] 25)) := hfin
    obtain ⟨x0, x1, f0, f1⟩ := K.box2 hbx
    have HBx : Hid (w2.heap[w.heap.size]? = some (.cells #[.int .i64 0, .int .i64 0] 28)) := hbx
    clear HPl hB2 hfin hbx
    by_cases q : p1 = 0
    · subst q
      obtain ⟨hM, hOb⟩ := HF.out rfl
      have HM : Hid (Gm.Mx b [mb] mb wb w2 g (.slice va l.length vc) vh l c p2 []) := hM
      have HOb : Hid (w2.heap[ob]? = some (.cells #[.slice none 0 0, .int .i64 p3, .int .i64 p4] 25)) := hOb
      clear hM hOb HF
      go_wp2
      refine bodyPost_ret (v := .tuple #[.pointer (some ⟨mb, 0, none⟩), .agg #[.int .i64 0, .int .i64 0]]) (by simp [results, Try.results14, go_sem, *]) rfl ?_
      have hid := Gm.idle HBx.out
      exact ⟨_, _, _, rfl, HB2.out.trans (hid.mono (by have := HB2.out.size; omega)), _, HCh.out, .inr ⟨rfl, 0, p2, p3, p4, HO.out, rfl, rfl, .inr ⟨rfl, mb, rfl, K.blk_below HOb.out hid, b, g, vh, c, hobb, hmo, HM.out.below hid⟩⟩⟩
    · clear HF
      go_wp2
      refine bodyPost_ret (v := .tuple #[.pointer none, .agg #[.int .i64 p1, .int .i64 0]]) (by simp [results, Try.results14, go_sem, *]) rfl ?_
      exact ⟨_, _, _, rfl, (HB2.out.setCell (p := ⟨w.heap.size, 0, none⟩) hsb _).setCell (p := ⟨w.heap.size, 1, none⟩) hsb _, _, HCh.out, .inr ⟨rfl, p1, p2, p3, p4, HO.out, rfl, rfl, .inl ⟨q, rfl⟩⟩⟩

end Go.Proofs.Ytackaadejnbfmaa
