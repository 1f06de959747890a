/-
  gap.New of runes, where what lies below stays.
-/
import Derived.Test.YtfhgenllefhgkaaXAt
import Derived.Test.YtfhgenllefhgkaaXMove
import Derived.Test.YtfhgenllefhgkaaXPlay2
import Derived.Test.YtfhgenllefhgkaaXCheck
import Derived.Lib.AppendZeros
namespace Go.Proofs.Ytfhgenllefhgkaa
open Go.RowKit
set_option maxRecDepth 20000
set_option linter.unusedVariables false

theorem xmove_ok (w : World) (B : Gm.Bs) (g : Nat) (ao : Option Addr) (cur A Z : List Int) (h : Gm.Tx B g ao cur A Z w) (k : Nat) (hk : k ≤ A.length + Z.length) :
    Calls Try.prog 45 #[.pointer (some ⟨g, 0, none⟩), .int .i64 k] w fun e w' => e = .returned (.int .i64 0) ∧ Gm.Told B g w ((A ++ Z).take k) ((A ++ Z).drop k) w' := by
  have hf := h.fit
  by_cases h1 : k < A.length
  · obtain ⟨r, rfl⟩ := h.room.some (by omega)
    rw [List.take_append_of_le_length (by omega), List.drop_append_of_le_length (by omega)]
    exact move_left w B g r cur A Z h k h1
  · by_cases h2 : k = A.length
    · subst h2
      rw [List.take_left, List.drop_left]
      exact move_stay w B g ao cur A Z h
    · obtain ⟨m, rfl⟩ : ∃ m, k = A.length + m := ⟨k - A.length, by omega⟩
      obtain ⟨r, rfl⟩ := h.room.some (by omega)
      rw [List.take_length_add_append, List.drop_length_add_append]
      exact move_right w B g r cur A Z h _ m rfl (by omega) (by omega)

namespace Gm
theorem Told.from {B : Gm.Bs} {g : Nat} {w w1 : World} {A Z : List Int} {w' : World} (h : Told B g w1 A Z w') (hb : Gm.Fr B w w1) : Told B g w A Z w' := ⟨h.1, hb.trans h.2⟩
theorem Tx.new (w : World) : Tx ⟨w.heap.size, []⟩ w.heap.size none [] [] [] (w.alloc (.cells #[.slice none 0 0, .int .i64 0, .int .i64 0] 91)) :=
  ⟨⟨Nat.le_refl _, by simp⟩, Go.heap_alloc_new w _, .inl ⟨rfl, rfl⟩, (fun r h => by cases h), Nat.le_refl 0, Nat.zero_le _, Nat.zero_le _, rfl, rfl⟩
end Gm

set_option maxHeartbeats 4000000 in
theorem xnew_ok (w : World) (v : Value) (R : List Int) (hv : L.Rd w v .i32 R) (h4 : R.length ≤ 4000) :
    Calls Try.prog 33 #[v] w fun e w' => e = .returned (.tuple #[.pointer (some ⟨w.heap.size, 0, none⟩), .int .i64 0]) ∧ Gm.Told ⟨w.heap.size, []⟩ w.heap.size w [] R w' := by
  have HV : Hid (L.Rd w v .i32 R) := hv
  obtain ⟨sp, c, rfl, _⟩ := hv
  obtain ⟨w1, hw1⟩ : ∃ w1, w1 = w.alloc (.cells #[.slice none 0 0, .int .i64 0, .int .i64 0] 91) := ⟨_, rfl⟩
  have HX : Hid (Gm.Tx ⟨w.heap.size, []⟩ w.heap.size none [] [] [] w1) := by rw [hw1]; exact Gm.Tx.new w
  have HB : Hid (Below w.heap.size w w1) := by rw [hw1]; exact (Below.refl _ w).alloc (Nat.le_refl _) _
  have HW : Hid (w1 = w.alloc (.cells #[.slice none 0 0, .int .i64 0, .int .i64 0] 91)) := hw1
  clear hw1
  go_enter Try.func33, Try.ntmps33
  go_wp2_with fail
  rw [← HW.out]
  refine (put_ok _ _ _ none [] [] [] HX.out _ R (fun w' hb => HV.out.below (HB.out.trans hb.1) (Nat.le_refl _)) (by simpa using h4) (by simp)).mono ?_
  rintro e w2 ⟨rfl, ⟨ao2, cur2, hx2⟩, hb2⟩
  have HX2 : Hid (Gm.Tx ⟨w.heap.size, []⟩ w.heap.size ao2 cur2 ([] ++ R) [] w2) := hx2
  have HB2 : Hid (Gm.Fr ⟨w.heap.size, []⟩ w w2) := ⟨HB.out.trans hb2.1, fun j hj => absurd hj (by simp)⟩
  clear hx2 hb2 HW
  go_wp2_with fail
  refine (xmove_ok _ _ _ ao2 cur2 ([] ++ R) [] HX2.out 0 (Nat.zero_le _)).mono ?_
  rintro e w3 ⟨rfl, ht⟩
  have HE : Hid (Gm.Told ⟨w.heap.size, []⟩ w.heap.size w [] R w3) := by
    have := ht.from HB2.out
    show Gm.Told _ _ _ _ _ _
    simpa using this
  clear ht
  go_wp2
  go_ret2
  exact ⟨rfl, HE.out⟩

end Go.Proofs.Ytfhgenllefhgkaa

/-
  vm.ready: a machine ahead of its first step.
-/
namespace Go.Proofs.Ytfhgenllefhgkaa
open Go.RowKit Go.Shelf
set_option maxRecDepth 20000
set_option linter.unusedSimpArgs false
set_option linter.unusedVariables false

theorem J.held {F : Nat} {e : TypeId} {k : Nat} {w w' : World} {v : Value} {n : Nat} {xs : List Value} (h : w.ownsRow F e k v n xs) (hb : ∀ g, F ≤ g → g < w.heap.size → w'.heap[g]? = w.heap[g]?) : w'.ownsRow F e k v n xs := by
  obtain ⟨h1, h2⟩ := h
  refine ⟨h1, ?_⟩
  rcases h2 with h2 | ⟨g, cap, cur, hv, hg, hx, r⟩
  · exact .inl h2
  · exact .inr ⟨g, cap, cur, hv, hg, by rw [hb g hg (lt_of_block hx)]; exact hx, r⟩
theorem J.Own.held {F : Nat} {w w' : World} {v : Value} {hs : List J.Hd} (h : J.Own F w v hs) (hb : ∀ g, F ≤ g → g < w.heap.size → w'.heap[g]? = w.heap[g]?) : J.Own F w' v hs := by
  obtain ⟨ps, h1, h2, h3⟩ := h
  exact ⟨ps, h1, J.held h2 hb, fun p hp => J.held (h3 p hp) hb⟩

theorem Gm.Chk.ok {l : List K.Rule} {t : List Int} {hs : List J.Hd} {e2 : Int} (h : Gm.Chk l t (hs, 0, e2)) : t.length ≤ 4000 ∧ K.allR t = true ∧ e2 = 0 ∧ ∃ c, Gm.Ok l c ∧ hs = J.heads (J.begins l) c (c.length - 1) := by
  rcases h with ⟨h, h2⟩ | ⟨h, h2, h3⟩ | ⟨h, h2, h3⟩
  · simp only [Prod.mk.injEq] at h2
    exact absurd (by rw [← h2.2]) h
  · simp only [Prod.mk.injEq] at h3; exact absurd h3.2.1.symm h2
  · have h4 := K.textE_zero h2
    have h5 : K.allR t = true := by
      unfold K.textE at h2
      rw [if_neg (by omega)] at h2
      by_cases h : K.allR t = true
      · exact h
      · rw [if_neg h] at h2; cases h2
    rcases h3 with ⟨g, _⟩ | ⟨_, c, hc, _, ⟨_, g⟩ | ⟨h9, g⟩⟩
    · exact absurd h g
    · simp at g
    · simp only [Prod.mk.injEq] at g
      exact ⟨h4, h5, g.2.2, c, ⟨(K.rulesF_zero h).1, (K.rulesF_zero h).2.1, hc, h9⟩, g.1⟩

/-- what stands ahead of the first step -/
def Gm.Rdy (wb w w' : World) (v : Value) (l : List K.Rule) (t : List Int) (mb : Nat) : Prop :=
  ∃ b g vh c, w.heap.size ≤ b ∧ b ≤ mb ∧ Gm.Mx b [mb] mb wb w' g v vh l c [] t ∧ Gm.Ok l c ∧ K.allR t = true ∧ ∀ W', (∀ j, w.heap.size ≤ j → j < b → W'.heap[j]? = w'.heap[j]?) → J.Rd W' vh (J.heads (J.begins l) c (c.length - 1))

theorem Gm.ready_of {wb w X w2 : World} {va : Value} {l : List K.Rule} {t c : List Int} {vh : Value} (hwb : Below wb.heap.size wb w) (R0 : V.Rus wb va l) (hBX : Below w.heap.size w X) (hXs : w.heap.size < X.heap.size) (hO : J.Own (w.heap.size + 1) X vh (J.heads (J.begins l) c (c.length - 1))) (hok : Gm.Ok l c) (hall : K.allR t = true) (hTo : Gm.Told ⟨X.heap.size, []⟩ X.heap.size X [] t w2) (x y : Value) :
    Gm.Rdy wb w (((w2.alloc (.cells #[.pointer (some ⟨X.heap.size, 0, none⟩), va, vh] 83)).setCell ⟨w.heap.size, 0, none⟩ x).setCell ⟨w.heap.size, 1, none⟩ y) va l t w2.heap.size ∧ Below w.heap.size w (((w2.alloc (.cells #[.pointer (some ⟨X.heap.size, 0, none⟩), va, vh] 83)).setCell ⟨w.heap.size, 0, none⟩ x).setCell ⟨w.heap.size, 1, none⟩ y) := by
  obtain ⟨⟨ao, cur, hT⟩, hF⟩ := hTo
  have hb2 : Below X.heap.size X w2 := hF.1
  have hs2 := hb2.size
  have hsw := hwb.size
  obtain ⟨M, hM⟩ : ∃ M, M = w2.alloc (.cells #[.pointer (some ⟨X.heap.size, 0, none⟩), va, vh] 83) := ⟨_, rfl⟩
  have hM0 : M.heap[w2.heap.size]? = some (.cells #[.pointer (some ⟨X.heap.size, 0, none⟩), va, vh] 83) := by rw [hM]; exact heap_alloc_new w2 _
  have hMb : Below w.heap.size w M := by rw [hM]; exact (hBX.trans (hb2.mono (by omega))).alloc (by omega) _
  have hM1 : ∀ j, j < w2.heap.size → M.heap[j]? = w2.heap[j]? := fun j hj => by rw [hM]; exact Below.heap_alloc w2 _ j hj
  rw [← hM]
  have hWb : Below w.heap.size w ((M.setCell ⟨w.heap.size, 0, none⟩ x).setCell ⟨w.heap.size, 1, none⟩ y) := (hMb.setCell (p := ⟨w.heap.size, 0, none⟩) (Nat.le_refl _) _).setCell (p := ⟨w.heap.size, 1, none⟩) (Nat.le_refl _) _
  have hW1 : ∀ j, j ≠ w.heap.size → ((M.setCell ⟨w.heap.size, 0, none⟩ x).setCell ⟨w.heap.size, 1, none⟩ y).heap[j]? = M.heap[j]? := fun j hj => by
    rw [heap_setCell_other _ _ j y (by simpa using hj), heap_setCell_other _ _ j x (by simpa using hj)]
  generalize (M.setCell ⟨w.heap.size, 0, none⟩ x).setCell ⟨w.heap.size, 1, none⟩ y = W at *
  have hbox : W.heap[w2.heap.size]? = some (.cells #[.pointer (some ⟨X.heap.size, 0, none⟩), va, vh] 83) := (hW1 _ (by omega)).trans hM0
  have hhd : ∀ W', (∀ j, w.heap.size ≤ j → j < X.heap.size → W'.heap[j]? = W.heap[j]?) → J.Rd W' vh (J.heads (J.begins l) c (c.length - 1)) := fun W' h => (hO.held fun g h1 h2 => by rw [h g (by omega) h2, hW1 g (by omega), hM1 g (by omega)]; exact hb2.block g h2).rd
  have hgl := hT.box.lt
  have h2 := hT.re (B' := ⟨X.heap.size, [w2.heap.size]⟩) ⟨Nat.le_refl _, by simp; omega⟩ fun q hq => by
    have h1 := hT.room.lt q hq
    exact ⟨h1.1.1, by simp; have := h1.2; omega⟩
  refine ⟨⟨X.heap.size, X.heap.size, vh, c, by omega, hs2, ⟨by omega, hwb.trans (hWb.mono hsw), hbox, by simp, fun j hj => ?_, ⟨ao, cur, h2.hB, h2.box.block ?_, h2.room.block fun r hr => ?_, h2.ne, h2.fit, h2.most, h2.few, h2.ahead, h2.behind⟩, R0, fun W' hW' => hhd W' fun j h3 h4 => hW'.block j h4⟩, hok, hall, hhd⟩, hWb⟩
  · simp at hj; subst hj; exact lt_of_block hbox
  · rw [hW1 _ (by omega), hM1 _ hgl]
  · have h1 := hT.room.lt r hr
    have h3 : X.heap.size ≤ r := h1.1.1
    rw [hW1 _ (by omega), hM1 _ h1.2]

set_option maxHeartbeats 8000000 in
theorem xready_any (wb w : World) (v : Value) (l : List K.Rule) (hwb : Below wb.heap.size wb w) (R0 : V.Rus wb v l) (vt : Value) (t : List Int) (Rt : L.Rd w vt .i32 t) (ht : t.length ≤ 140737488355328) :
    Calls Try.prog 25 #[v, vt] w fun e w' => ∃ o, Gm.Chk l t o ∧ Below w.heap.size w w' ∧ ((o.2.1 ≠ 0 ∧ e = .returned (.tuple #[.pointer none, .agg #[.int .i64 o.2.1, .int .i64 o.2.2]])) ∨ (o.2.1 = 0 ∧ ∃ mb, e = .returned (.tuple #[.pointer (some ⟨mb, 0, none⟩), .agg #[.int .i64 0, .int .i64 0]]) ∧ Gm.Rdy wb w w' v l t mb)) := by
  have HA : Hid (∀ o, Below w.heap.size w (w.alloc o)) := fun o => (Below.refl _ w).alloc (Nat.le_refl _) o
  have HC : Hid (∀ o, Calls Try.prog 32 #[v, vt] (w.alloc o) fun e w' => ∃ (v' : Value) (o' : List J.Hd × Int × Int), Gm.Chk l t o' ∧ e = .returned (.tuple #[v', .agg #[.int .i64 o'.2.1, .int .i64 o'.2.2]]) ∧ J.Own (w.alloc o).heap.size w' v' o'.1 ∧ Below (w.alloc o).heap.size (w.alloc o) w') := fun o => xcheck_any _ v l ((R0.below hwb).below (HA.out o)) vt t (Rt.below (HA.out o) (Nat.le_refl _)) ht
  have HR : Hid (V.Rus wb v l ∧ Below wb.heap.size wb w) := ⟨R0, hwb⟩
  have HT : Hid (L.Rd w vt .i32 t) := Rt
  obtain ⟨va, vc, rfl⟩ := R0.len
  clear R0 Rt hwb
  go_enter Try.func25, Try.ntmps25
  go_wp2_with fail
  refine (HC.out _).mono ?_
  rintro e w1 ⟨v', ⟨hs, e1, e2⟩, hch, rfl, own, b1⟩
  obtain ⟨h1, B1, s1⟩ := K.one_box b1
  have HB1 : Hid (Below w.heap.size w w1) := B1
  have HX1 : Hid (w1.heap[w.heap.size]? = some (.cells #[.int .i64 0, .int .i64 0] 27)) := h1
  have HCh : Hid (Gm.Chk l t (hs, e1, e2)) := hch
  have hOw : J.Own (w.heap.size + 1) w1 v' hs := by simpa using own
  have HOw : Hid (J.Own (w.heap.size + 1) w1 v' hs) := hOw
  obtain ⟨x0, x1, f0, f1⟩ := K.box2 h1
  have k0 : ∀ o, (w1.alloc o).cell? ⟨w.heap.size, 0, none⟩ = some (.int .i64 0) := fun o => K.alloc_cell x0 o
  have k1 : ∀ o, (w1.alloc o).cell? ⟨w.heap.size, 1, none⟩ = some (.int .i64 0) := fun o => K.alloc_cell x1 o
  have g0 : ∀ o, (w1.alloc o).frozen? ⟨w.heap.size, 0, none⟩ = false := fun o => K.alloc_free h1 o 0
  have g1 : ∀ o, (w1.alloc o).frozen? ⟨w.heap.size, 1, none⟩ = false := fun o => K.alloc_free h1 o 1
  have HB2 : Hid (∀ o, Below w.heap.size w (w1.alloc o)) := fun o => HB1.out.alloc (by omega) o
  clear b1 B1 HC x0 x1 f0 f1 h1 hch own hOw
  by_cases q : e1 = 0
  · subst q
    obtain ⟨ht4, hall, rfl, c, hok, rfl⟩ := HCh.out.ok
    have HOk : Hid (Gm.Ok l c ∧ K.allR t = true) := ⟨hok, hall⟩
    obtain ⟨X, hX⟩ : ∃ X, X = w1.alloc (.cells #[.int .i64 0, .int .i64 0] 27) := ⟨_, rfl⟩
    have HXX : Hid (X = w1.alloc (.cells #[.int .i64 0, .int .i64 0] 27)) := hX
    have HBX : Hid (Below w.heap.size w X) := by show Below _ _ _; rw [hX]; exact HB2.out _
    have hXs : w.heap.size < X.heap.size := by rw [hX]; simp; omega
    have HXb : Hid (X.heap[w.heap.size]? = some (.cells #[.int .i64 0, .int .i64 0] 27)) := by
      show X.heap[w.heap.size]? = _
      rw [hX, Below.heap_alloc w1 _ w.heap.size (by omega)]; exact HX1.out
    have HOX : Hid (J.Own (w.heap.size + 1) X v' (J.heads (J.begins l) c (c.length - 1))) := by
      show J.Own _ _ _ _
      rw [hX]; exact HOw.out.below ((Below.refl _ w1).alloc (Nat.le_refl _) _)
    have HNw : Hid (∀ Y, Y = X → Calls Try.prog 33 #[vt] Y fun e w' => e = .returned (.tuple #[.pointer (some ⟨X.heap.size, 0, none⟩), .int .i64 0]) ∧ Gm.Told ⟨X.heap.size, []⟩ X.heap.size X [] t w') := fun Y hY => by rw [hY]; exact xnew_ok X vt t (HT.out.below HBX.out (Nat.le_refl _)) ht4
    clear hX k0 k1 g0 g1 hok hall HOw
    obtain ⟨ua, uc, rfl⟩ := HOX.out.len
    generalize hhs : J.heads (J.begins l) c (c.length - 1) = hs at *
    go_wp2_with fail
    go_at_call 33
    refine (HNw.out _ HXX.out.symm).mono ?_
    rintro e w2 ⟨rfl, told⟩
    have HTo : Hid (Gm.Told ⟨X.heap.size, []⟩ X.heap.size X [] t w2) := told
    have hb2 : Below X.heap.size X w2 := told.2.1
    have hx2 := K.blk_below HXb.out hb2
    have HX2 : Hid (w2.heap[w.heap.size]? = some (.cells #[.int .i64 0, .int .i64 0] 27)) := hx2
    obtain ⟨x0, x1, f0, f1⟩ := K.box2 hx2
    have k0 : ∀ o, (w2.alloc o).cell? ⟨w.heap.size, 0, none⟩ = some (.int .i64 0) := fun o => K.alloc_cell x0 o
    have k1 : ∀ o, (w2.alloc o).cell? ⟨w.heap.size, 1, none⟩ = some (.int .i64 0) := fun o => K.alloc_cell x1 o
    have g0 : ∀ o, (w2.alloc o).frozen? ⟨w.heap.size, 0, none⟩ = false := fun o => K.alloc_free hx2 o 0
    have g1 : ∀ o, (w2.alloc o).frozen? ⟨w.heap.size, 1, none⟩ = false := fun o => K.alloc_free hx2 o 1
    have hs2 := hb2.size
    have HFin : Hid (∀ x y, _) := fun x y => Gm.ready_of (c := c) HR.out.2 HR.out.1 HBX.out hXs (by rw [hhs]; exact HOX.out) HOk.out.1 HOk.out.2 HTo.out x y
    clear told hb2 hx2 HNw HXX HXb HB1 HX1 HB2 x0 x1 f0 f1
    go_wp2
    refine bodyPost_ret (v := .tuple #[.pointer (some ⟨w2.heap.size, 0, none⟩), .agg #[.int .i64 0, .int .i64 0]]) (by simp [results, Try.results25, go_sem, *]) rfl ?_
    exact ⟨_, HCh.out, (HFin.out _ _).2, .inr ⟨rfl, _, rfl, (HFin.out _ _).1⟩⟩
  · go_wp2
    go_region
    go_wp2
    refine bodyPost_ret (v := .tuple #[.pointer none, .agg #[.int .i64 e1, .int .i64 e2]]) (by simp [results, Try.results25, go_sem, *]) rfl ?_
    exact ⟨_, HCh.out, (((HB2.out _).setCell (p := ⟨w.heap.size, 0, none⟩) (Nat.le_refl _) _).setCell (p := ⟨w.heap.size, 1, none⟩) (Nat.le_refl _) _).drew, .inl ⟨q, rfl⟩⟩

end Go.Proofs.Ytfhgenllefhgkaa

/-
  Rows of structs of numbers that are being made: one more.
-/
namespace Go.Proofs.Ytfhgenllefhgkaa
open Go.RowKit Go.Shelf
set_option maxRecDepth 20000
set_option linter.unusedSimpArgs false
set_option linter.unusedVariables false

theorem Try.infoShot : (Try.prog.info? 38).map (fun i => (i.zero, i.size, i.bytes)) = some (some (.agg #[.int .i64 0, .int .i64 0]), 2, 16) := by kernel_rfl
theorem Try.infoLink : (Try.prog.info? 31).map (fun i => (i.zero, i.size, i.bytes)) = some (some (.agg #[.int .i64 0, .int .i64 0, .int .i64 0, .int .i64 0, .int .i64 0]), 5, 40) := by kernel_rfl

namespace Al
/-- one struct more: append(out, x) -/
theorem app {sl e : TypeId} {z : Value} {k y : Nat} (hs : Try.prog.underlying sl = some (.slice e)) (hinfo : (Try.prog.info? e).map (fun i => (i.zero, i.size, i.bytes)) = some (some z, k, y)) (hzk : z.cells.size = k) (hk : 0 < k) (hy : y ≤ 100)
    {w : World} {B n : Nat} {vo : Value} {xs : List Value} (own : w.ownsRow B e k vo n xs) (hB : B ≤ w.heap.size) (hl : n ≤ 1000000) (news : List Value) (hn : news.length = k) (h1 : ∀ u ∈ news, u.oneCell' = true) :
    ∃ ao' vc' w', (∀ ty, (Builtin.append_ #[sl, sl] ty #[vo, .slice (some ⟨w.heap.size, 0, none⟩) 1 1]).run Try.prog (w.alloc (.cells news.toArray e)) = .ok (.slice ao' (n + 1) vc') w') ∧ w'.ownsRow B e k (.slice ao' (n + 1) vc') (n + 1) (xs ++ news) ∧ (∀ b, b < w.heap.size → vo.ownBlock ≠ some b → w'.heap[b]? = w.heap[b]?) ∧ w.heap.size ≤ w'.heap.size ∧ Below B w w' := by
  have hal : Below w.heap.size w (w.alloc (.cells news.toArray e)) := (Below.refl _ w).alloc (Nat.le_refl _) _
  have hnew := heap_alloc_new w (.cells news.toArray e)
  obtain ⟨i0, hi, hz0, hz1, hz2⟩ := info_parts hinfo
  have hcells : ∀ j u, news[j]? = some u → (w.alloc (.cells news.toArray e)).cell? ((⟨w.heap.size, 0, none⟩ : Addr).add j) = some u := fun j u hj => by
    rw [L.addr_add, Nat.zero_add]
    exact K.at_box hnew (by simpa using hj)
  have hyb : (n + 1) * y ≤ 140737488355328 := Nat.le_trans (Nat.mul_le_mul (Nat.succ_le_succ hl) hy) (by decide)
  obtain ⟨v', w', run, own', gr, _⟩ := run_append_own (P := Try.prog) (w.alloc (.cells news.toArray e)) B sl sl e i0 _ k y hs hi hz0 hz1 hz2 hzk hk vo n xs (own.alloc _) ⟨w.heap.size, 0, none⟩ 1 1 news (by rw [hn]; omega) hcells h1 (by unfold maxLen; omega) hyb (by simp; omega)
  obtain ⟨ao', vc', rfl⟩ : ∃ ao cap, v' = .slice ao (n + 1) cap := by
    rcases own'.2 with ⟨hv, h0⟩ | ⟨g, cap, cur, hv, _⟩
    · omega
    · exact ⟨_, cap, hv⟩
  refine ⟨ao', vc', w', fun ty => run, own', fun b hb hne => ?_, ?_, (hal.mono hB).grown gr (by simp; omega) fun k hk => (own.lt k hk).1⟩
  · rw [gr.block b (by simp; omega) (fun e => hne e.symm)]
    exact hal.block b hb
  · have := gr.size
    simp at this
    omega

def scells (sh : List (Int × Int)) : List Value := sh.flatMap fun x => [.int .i64 x.1, .int .i64 x.2]
theorem scells_append (a b : List (Int × Int)) : scells (a ++ b) = scells a ++ scells b := by simp [scells]
def lcells (sh : List Lk) : List Value := sh.flatMap fun x => [.int .i64 x.fr, .int .i64 x.up, .int .i64 x.beg, .int .i64 x.fin, .int .i64 x.rule]
theorem lcells_append (a b : List Lk) : lcells (a ++ b) = lcells a ++ lcells b := by simp [lcells]

/-- a row stays where its block does -/
theorem held {F : Nat} {e : TypeId} {k : Nat} {w w' : World} {v : Value} {n : Nat} {xs : List Value} (h : w.ownsRow F e k v n xs) (hb : ∀ q, v.ownBlock = some q → q < w.heap.size → w'.heap[q]? = w.heap[q]?) : w'.ownsRow F e k v n xs := by
  obtain ⟨h1, h2⟩ := h
  refine ⟨h1, ?_⟩
  rcases h2 with h2 | ⟨g, cap, cur, hv, hg, hx, r⟩
  · exact .inl h2
  · exact .inr ⟨g, cap, cur, hv, hg, by rw [hb g (by rw [hv]; rfl) (lt_of_block hx)]; exact hx, r⟩
/-- what lies in its block -/
theorem block {F : Nat} {e : TypeId} {k : Nat} {w : World} {v : Value} {n : Nat} {xs : List Value} (h : w.ownsRow F e k v n xs) {q : Nat} (hq : v.ownBlock = some q) : F ≤ q ∧ ∃ cs p, w.heap[q]? = some (.cells cs e p) := by
  obtain ⟨h1, h2⟩ := h
  rcases h2 with ⟨h2, _⟩ | ⟨g, cap, cur, hv, hg, hx, r⟩
  · rw [h2] at hq; cases hq
  · rw [hv] at hq
    have hq' : some g = some q := hq
    cases hq'
    exact ⟨hg, _, _, hx⟩
end Al
end Go.Proofs.Ytfhgenllefhgkaa
