/-
  vm.check: what is wrong with the rules, then with the text, then the heads.
-/
import Derived.Test.YtlmmjefplbcapaaGreatJMath
import Derived.BigRegion
import Derived.Test.YtlmmjefplbcapaaGreatXAt
import Derived.Test.YtlmmjefplbcapaaGreatXMove
import Derived.Test.YtlmmjefplbcapaaGreatSSubP
namespace Go.Proofs.YtlmmjefplbcapaaGreat
open Go.RowKit Go.Shelf
set_option maxRecDepth 20000
set_option linter.unusedSimpArgs false
set_option linter.unusedVariables false

/-- what check answers -/
def Gm.Chk (l : List K.Rule) (t : List Int) (o : List J.Hd × Int × Int) : Prop :=
  ((K.rulesF l).1 ≠ 0 ∧ o = ([], K.rulesF l)) ∨ ((K.rulesF l).1 = 0 ∧ K.textE t ≠ 0 ∧ o = ([], K.textE t, 0)) ∨ ((K.rulesF l).1 = 0 ∧ K.textE t = 0 ∧ J.Comp l o)

set_option maxHeartbeats 8000000 in
theorem xcheck_any (w : World) (v : Value) (l : List K.Rule) (R0 : V.Rus w v l) (vt : Value) (t : List Int) (Rt : L.Rd w vt .i32 t) (ht : t.length ≤ 140737488355328) :
    Calls Tryz.prog 46 #[v, vt] w fun e w' => ∃ (v' : Value) (o : List J.Hd × Int × Int), Gm.Chk l t o ∧ e = .returned (.tuple #[v', .agg #[.int .i64 o.2.1, .int .i64 o.2.2]]) ∧ J.Own w.heap.size w' v' o.1 ∧ Below w.heap.size w w' := by
  have HA : Hid (∀ o, Below w.heap.size w (w.alloc o)) := fun o => (Below.refl _ w).alloc (Nat.le_refl _) o
  have HC : Hid (∀ o, Calls Tryz.prog 55 #[v] (w.alloc o) fun e w' => e = .returned (.agg #[.int .i64 (K.rulesF l).1, .int .i64 (K.rulesF l).2]) ∧ Below (w.alloc o).heap.size (w.alloc o) w') := fun o => qWrong_any _ _ l (R0.below (HA.out o))
  have HR : Hid (V.Rus w v l) := R0
  have HT : Hid (L.Rd w vt .i32 t) := Rt
  have HN : Hid ((K.rulesF l).1 ≠ 0 → Gm.Chk l t ([], K.rulesF l)) := fun h => .inl ⟨h, rfl⟩
  have HN2 : Hid ((K.rulesF l).1 = 0 → K.textE t ≠ 0 → Gm.Chk l t ([], K.textE t, 0)) := fun h h2 => .inr (.inl ⟨h, h2, rfl⟩)
  have HY : Hid ((K.rulesF l).1 = 0 → K.textE t = 0 → ∀ o, J.Comp l o → Gm.Chk l t o) := fun h h2 o ho => .inr (.inr ⟨h, h2, ho⟩)
  obtain ⟨⟨e1, e2⟩, he⟩ : ∃ o, K.rulesF l = o := ⟨_, rfl⟩
  rw [he] at HC HN HN2 HY
  simp only at HC HN HN2 HY
  clear he R0 Rt
  go_enter Tryz.func46, Tryz.ntmps46
  go_wp2_with fail
  refine (HC.out _).mono ?_
  rintro e w1 ⟨rfl, b1⟩
  obtain ⟨h1, B1, s1⟩ := K.one_box b1
  have HB1 : Hid (Below w.heap.size w w1) := B1
  have HX1 : Hid (w1.heap[w.heap.size]? = some (.cells #[.int .i64 0, .int .i64 0] 27)) := h1
  obtain ⟨x0, x1, f0, f1⟩ := K.box2 h1
  have k0 : ∀ o, (w1.alloc o).cell? ⟨w.heap.size, 0, none⟩ = some (.int .i64 0) := fun o => K.alloc_cell x0 o
  have k1 : ∀ o, (w1.alloc o).cell? ⟨w.heap.size, 1, none⟩ = some (.int .i64 0) := fun o => K.alloc_cell x1 o
  have g0 : ∀ o, (w1.alloc o).frozen? ⟨w.heap.size, 0, none⟩ = false := fun o => K.alloc_free h1 o 0
  have g1 : ∀ o, (w1.alloc o).frozen? ⟨w.heap.size, 1, none⟩ = false := fun o => K.alloc_free h1 o 1
  have HB2 : Hid (∀ o, Below w.heap.size w (w1.alloc o)) := fun o => HB1.out.alloc (by omega) o
  clear b1 B1 HC x0 x1 f0 f1 h1
  by_cases q : e1 = 0
  · subst q
    obtain ⟨X, hX⟩ : ∃ X, X = w1.alloc (.cells #[.int .i64 0, .int .i64 e2] 27) := ⟨_, rfl⟩
    have HXX : Hid (X = w1.alloc (.cells #[.int .i64 0, .int .i64 e2] 27)) := hX
    have HBX : Hid (Below w.heap.size w X) := by show Below _ _ _; rw [hX]; exact HB2.out _
    have hXs : w.heap.size < X.heap.size := by rw [hX]; simp; omega
    have HXb : Hid (X.heap[w.heap.size]? = some (.cells #[.int .i64 0, .int .i64 0] 27)) := by
      show X.heap[w.heap.size]? = _
      rw [hX, Below.heap_alloc w1 _ w.heap.size (by omega)]; exact HX1.out
    have HTx : Hid (∀ Y, Y = X → Calls Tryz.prog 17 #[vt] Y fun e w' => e = .returned (.int .i64 (K.textE t)) ∧ Below X.heap.size X w') := fun Y hY => by rw [hY]; exact mText_any X vt t (HT.out.below HBX.out (Nat.le_refl _)) ht
    have HN2' := HN2.out rfl
    have HY' := HY.out rfl
    generalize K.textE t = z at HTx HN2' HY'
    have HN3 : Hid (z ≠ 0 → Gm.Chk l t ([], z, 0)) := HN2'
    have HY3 : Hid (z = 0 → ∀ o, J.Comp l o → Gm.Chk l t o) := HY'
    clear hX k0 k1 g0 g1 HN HN2 HY HN2' HY'
    go_wp2_with fail
    go_at_call 17
    refine (HTx.out _ HXX.out.symm).mono ?_
    rintro e w2 ⟨rfl, b2⟩
    have HB3 : Hid (Below X.heap.size X w2) := b2
    have hx2 := K.blk_below HXb.out b2
    have hw2 : w.heap.size < w2.heap.size := by have := b2.size; omega
    have HX2 : Hid (w2.heap[w.heap.size]? = some (.cells #[.int .i64 0, .int .i64 0] 27)) := hx2
    have HBW : Hid (Below w.heap.size w w2) := HBX.out.trans (b2.mono (by omega))
    obtain ⟨x0, x1, f0, f1⟩ := K.box2 hx2
    clear b2 hx2 HTx HXX HXb HB1 HX1 HB2
    by_cases hz : z = 0
    · subst hz
      have HY4 : Hid (∀ o, J.Comp l o → Gm.Chk l t o) := HY3.out rfl
      have HCo : Hid (Calls Tryz.prog 56 #[v] w2 fun e w' => ∃ (v' : Value) (o : List J.Hd × Int × Int), J.Comp l o ∧ e = .returned (.tuple #[v', .agg #[.int .i64 o.2.1, .int .i64 o.2.2]]) ∧ J.Own w2.heap.size w' v' o.1 ∧ Below w2.heap.size w2 w') := jCompile_any w2 v l (HR.out.below HBW.out)
      clear x0 x1 f0 f1
      go_wp2_with fail
      go_at_call 56
      refine HCo.out.mono ?_
      rintro e w3 ⟨v', ⟨hs, o1, o2⟩, hC, rfl, own, b3⟩
      have hx3 := K.blk_below HX2.out b3
      obtain ⟨x0, x1, f0, f1⟩ := K.box2 hx3
      have HCh : Hid (Gm.Chk l t (hs, o1, o2)) := HY4.out _ hC
      have HBW3 : Hid (Below w.heap.size w w3) := HBW.out.trans (b3.mono (by omega))
      have HOw : Hid (∀ x y, J.Own w.heap.size ((w3.setCell ⟨w.heap.size, 0, none⟩ x).setCell ⟨w.heap.size, 1, none⟩ y) v' hs) := fun x y => by
        have h9 : J.Own w2.heap.size ((w3.setCell ⟨w.heap.size, 0, none⟩ x).setCell ⟨w.heap.size, 1, none⟩ y) v' hs := own.kept fun g hg => by
          rw [heap_setCell_other _ _ g y (by simp; omega), heap_setCell_other _ _ g x (by simp; omega)]
        exact h9.base (by omega)
      clear own b3 hx3 hC HCo HBW HX2
      go_wp2
      refine bodyPost_ret (v := .tuple #[v', .agg #[.int .i64 o1, .int .i64 o2]]) (by simp [results, Tryz.results46, go_sem, *]) rfl ?_
      exact ⟨_, _, HCh.out, rfl, HOw.out _ _, (HBW3.out.setCell (p := ⟨w.heap.size, 0, none⟩) (Nat.le_refl _) _).setCell (p := ⟨w.heap.size, 1, none⟩) (Nat.le_refl _) _⟩
    · have HN4 : Hid (Gm.Chk l t ([], z, 0)) := HN3.out hz
      go_wp2
      refine bodyPost_ret (v := .tuple #[.slice none 0 0, .agg #[.int .i64 z, .int .i64 0]]) (by simp [results, Tryz.results46, go_sem, *]) rfl ?_
      exact ⟨_, _, HN4.out, rfl, J.Own.nil _ _, (HBW.out.setCell (p := ⟨w.heap.size, 0, none⟩) (Nat.le_refl _) _).setCell (p := ⟨w.heap.size, 1, none⟩) (Nat.le_refl _) _⟩
  · have HN' : Hid (Gm.Chk l t ([], e1, e2)) := HN.out q
    clear HN HN2 HY
    go_wp2
    go_region
    go_wp2
    refine bodyPost_ret (v := .tuple #[.slice none 0 0, .agg #[.int .i64 e1, .int .i64 e2]]) (by simp [results, Tryz.results46, go_sem, *]) rfl ?_
    exact ⟨_, _, HN'.out, rfl, J.Own.nil _ _, (((HB2.out _).setCell (p := ⟨w.heap.size, 0, none⟩) (Nat.le_refl _) _).setCell (p := ⟨w.heap.size, 1, none⟩) (Nat.le_refl _) _).drew⟩

end Go.Proofs.YtlmmjefplbcapaaGreat

/-
  gap.New of runes, where what lies below stays.
-/
namespace Go.Proofs.YtlmmjefplbcapaaGreat
open Go.RowKit
set_option maxRecDepth 20000
set_option linter.unusedVariables false

theorem xmove_ok (w : World) (B : Gm.Bs) (g : Nat) (ao : Option Addr) (cur A Z : List Int) (h : Gm.Tx B g ao cur A Z w) (k : Nat) (hk : k ≤ A.length + Z.length) :
    Calls Tryz.prog 58 #[.pointer (some ⟨g, 0, none⟩), .int .i64 k] w fun e w' => e = .returned (.int .i64 0) ∧ Gm.Told B g w ((A ++ Z).take k) ((A ++ Z).drop k) w' := by
  have hf := h.fit
  by_cases h1 : k < A.length
  · obtain ⟨r, rfl⟩ := h.room.some (by omega)
    rw [List.take_append_of_le_length (by omega), List.drop_append_of_le_length (by omega)]
    exact move_left w B g r cur A Z h k h1
  · by_cases h2 : k = A.length
    · subst h2
      rw [List.take_left, List.drop_left]
      exact move_stay w B g ao cur A Z h
    · obtain ⟨m, rfl⟩ : ∃ m, k = A.length + m := ⟨k - A.length, by omega⟩
      obtain ⟨r, rfl⟩ := h.room.some (by omega)
      rw [List.take_length_add_append, List.drop_length_add_append]
      exact move_right w B g r cur A Z h _ m rfl (by omega) (by omega)

namespace Gm
theorem Told.from {B : Gm.Bs} {g : Nat} {w w1 : World} {A Z : List Int} {w' : World} (h : Told B g w1 A Z w') (hb : Gm.Fr B w w1) : Told B g w A Z w' := ⟨h.1, hb.trans h.2⟩
theorem Tx.new (w : World) : Tx ⟨w.heap.size, []⟩ w.heap.size none [] [] [] (w.alloc (.cells #[.slice none 0 0, .int .i64 0, .int .i64 0] 101)) :=
  ⟨⟨Nat.le_refl _, by simp⟩, Go.heap_alloc_new w _, .inl ⟨rfl, rfl⟩, (fun r h => by cases h), Nat.le_refl 0, Nat.zero_le _, Nat.zero_le _, rfl, rfl⟩
end Gm

set_option maxHeartbeats 4000000 in
theorem xnew_ok (w : World) (v : Value) (R : List Int) (hv : L.Rd w v .i32 R) (h4 : R.length ≤ 4000) :
    Calls Tryz.prog 47 #[v] w fun e w' => e = .returned (.tuple #[.pointer (some ⟨w.heap.size, 0, none⟩), .int .i64 0]) ∧ Gm.Told ⟨w.heap.size, []⟩ w.heap.size w [] R w' := by
  have HV : Hid (L.Rd w v .i32 R) := hv
  obtain ⟨sp, c, rfl, _⟩ := hv
  obtain ⟨w1, hw1⟩ : ∃ w1, w1 = w.alloc (.cells #[.slice none 0 0, .int .i64 0, .int .i64 0] 101) := ⟨_, rfl⟩
  have HX : Hid (Gm.Tx ⟨w.heap.size, []⟩ w.heap.size none [] [] [] w1) := by rw [hw1]; exact Gm.Tx.new w
  have HB : Hid (Below w.heap.size w w1) := by rw [hw1]; exact (Below.refl _ w).alloc (Nat.le_refl _) _
  have HW : Hid (w1 = w.alloc (.cells #[.slice none 0 0, .int .i64 0, .int .i64 0] 101)) := hw1
  clear hw1
  go_enter Tryz.func47, Tryz.ntmps47
  go_wp2_with fail
  rw [← HW.out]
  refine (put_ok _ _ _ none [] [] [] HX.out _ R (fun w' hb => HV.out.below (HB.out.trans hb.1) (Nat.le_refl _)) (by simpa using h4) (by simp)).mono ?_
  rintro e w2 ⟨rfl, ⟨ao2, cur2, hx2⟩, hb2⟩
  have HX2 : Hid (Gm.Tx ⟨w.heap.size, []⟩ w.heap.size ao2 cur2 ([] ++ R) [] w2) := hx2
  have HB2 : Hid (Gm.Fr ⟨w.heap.size, []⟩ w w2) := ⟨HB.out.trans hb2.1, fun j hj => absurd hj (by simp)⟩
  clear hx2 hb2 HW
  go_wp2_with fail
  refine (xmove_ok _ _ _ ao2 cur2 ([] ++ R) [] HX2.out 0 (Nat.zero_le _)).mono ?_
  rintro e w3 ⟨rfl, ht⟩
  have HE : Hid (Gm.Told ⟨w.heap.size, []⟩ w.heap.size w [] R w3) := by
    have := ht.from HB2.out
    show Gm.Told _ _ _ _ _ _
    simpa using this
  clear ht
  go_wp2
  go_ret2
  exact ⟨rfl, HE.out⟩

end Go.Proofs.YtlmmjefplbcapaaGreat

/-
  vm.ready: a machine ahead of its first step.
-/
namespace Go.Proofs.YtlmmjefplbcapaaGreat
open Go.RowKit Go.Shelf
set_option maxRecDepth 20000
set_option linter.unusedSimpArgs false
set_option linter.unusedVariables false

theorem J.held {F : Nat} {e : TypeId} {k : Nat} {w w' : World} {v : Value} {n : Nat} {xs : List Value} (h : w.ownsRow F e k v n xs) (hb : ∀ g, F ≤ g → g < w.heap.size → w'.heap[g]? = w.heap[g]?) : w'.ownsRow F e k v n xs := by
  obtain ⟨h1, h2⟩ := h
  refine ⟨h1, ?_⟩
  rcases h2 with h2 | ⟨g, cap, cur, hv, hg, hx, r⟩
  · exact .inl h2
  · exact .inr ⟨g, cap, cur, hv, hg, by rw [hb g hg (lt_of_block hx)]; exact hx, r⟩
theorem J.Own.held {F : Nat} {w w' : World} {v : Value} {hs : List J.Hd} (h : J.Own F w v hs) (hb : ∀ g, F ≤ g → g < w.heap.size → w'.heap[g]? = w.heap[g]?) : J.Own F w' v hs := by
  obtain ⟨ps, h1, h2, h3⟩ := h
  exact ⟨ps, h1, J.held h2 hb, fun p hp => J.held (h3 p hp) hb⟩

theorem Gm.Chk.ok {l : List K.Rule} {t : List Int} {hs : List J.Hd} {e2 : Int} (h : Gm.Chk l t (hs, 0, e2)) : t.length ≤ 4000 ∧ K.allR t = true ∧ e2 = 0 ∧ ∃ c, Gm.Ok l c ∧ hs = J.heads (J.begins l) c (c.length - 1) := by
  rcases h with ⟨h, h2⟩ | ⟨h, h2, h3⟩ | ⟨h, h2, h3⟩
  · simp only [Prod.mk.injEq] at h2
    exact absurd (by rw [← h2.2]) h
  · simp only [Prod.mk.injEq] at h3; exact absurd h3.2.1.symm h2
  · have h4 := K.textE_zero h2
    have h5 : K.allR t = true := by
      unfold K.textE at h2
      rw [if_neg (by omega)] at h2
      by_cases h : K.allR t = true
      · exact h
      · rw [if_neg h] at h2; cases h2
    rcases h3 with ⟨g, _⟩ | ⟨_, c, hc, _, ⟨_, g⟩ | ⟨h9, g⟩⟩
    · exact absurd h g
    · simp at g
    · simp only [Prod.mk.injEq] at g
      exact ⟨h4, h5, g.2.2, c, ⟨(K.rulesF_zero h).1, (K.rulesF_zero h).2.1, hc, h9⟩, g.1⟩

/-- what stands ahead of the first step -/
def Gm.Rdy (wb w w' : World) (v : Value) (l : List K.Rule) (t : List Int) (mb : Nat) : Prop :=
  ∃ b g vh c, w.heap.size ≤ b ∧ b ≤ mb ∧ Gm.Mx b [mb] mb wb w' g v vh l c [] t ∧ Gm.Ok l c ∧ K.allR t = true ∧ ∀ W', (∀ j, w.heap.size ≤ j → j < b → W'.heap[j]? = w'.heap[j]?) → J.Rd W' vh (J.heads (J.begins l) c (c.length - 1))

theorem Gm.ready_of {wb w X w2 : World} {va : Value} {l : List K.Rule} {t c : List Int} {vh : Value} (hwb : Below wb.heap.size wb w) (R0 : V.Rus wb va l) (hBX : Below w.heap.size w X) (hXs : w.heap.size < X.heap.size) (hO : J.Own (w.heap.size + 1) X vh (J.heads (J.begins l) c (c.length - 1))) (hok : Gm.Ok l c) (hall : K.allR t = true) (hTo : Gm.Told ⟨X.heap.size, []⟩ X.heap.size X [] t w2) (x y : Value) :
    Gm.Rdy wb w (((w2.alloc (.cells #[.pointer (some ⟨X.heap.size, 0, none⟩), va, vh] 93)).setCell ⟨w.heap.size, 0, none⟩ x).setCell ⟨w.heap.size, 1, none⟩ y) va l t w2.heap.size ∧ Below w.heap.size w (((w2.alloc (.cells #[.pointer (some ⟨X.heap.size, 0, none⟩), va, vh] 93)).setCell ⟨w.heap.size, 0, none⟩ x).setCell ⟨w.heap.size, 1, none⟩ y) := by
  obtain ⟨⟨ao, cur, hT⟩, hF⟩ := hTo
  have hb2 : Below X.heap.size X w2 := hF.1
  have hs2 := hb2.size
  have hsw := hwb.size
  obtain ⟨M, hM⟩ : ∃ M, M = w2.alloc (.cells #[.pointer (some ⟨X.heap.size, 0, none⟩), va, vh] 93) := ⟨_, rfl⟩
  have hM0 : M.heap[w2.heap.size]? = some (.cells #[.pointer (some ⟨X.heap.size, 0, none⟩), va, vh] 93) := by rw [hM]; exact heap_alloc_new w2 _
  have hMb : Below w.heap.size w M := by rw [hM]; exact (hBX.trans (hb2.mono (by omega))).alloc (by omega) _
  have hM1 : ∀ j, j < w2.heap.size → M.heap[j]? = w2.heap[j]? := fun j hj => by rw [hM]; exact Below.heap_alloc w2 _ j hj
  rw [← hM]
  have hWb : Below w.heap.size w ((M.setCell ⟨w.heap.size, 0, none⟩ x).setCell ⟨w.heap.size, 1, none⟩ y) := (hMb.setCell (p := ⟨w.heap.size, 0, none⟩) (Nat.le_refl _) _).setCell (p := ⟨w.heap.size, 1, none⟩) (Nat.le_refl _) _
  have hW1 : ∀ j, j ≠ w.heap.size → ((M.setCell ⟨w.heap.size, 0, none⟩ x).setCell ⟨w.heap.size, 1, none⟩ y).heap[j]? = M.heap[j]? := fun j hj => by
    rw [heap_setCell_other _ _ j y (by simpa using hj), heap_setCell_other _ _ j x (by simpa using hj)]
  generalize (M.setCell ⟨w.heap.size, 0, none⟩ x).setCell ⟨w.heap.size, 1, none⟩ y = W at *
  have hbox : W.heap[w2.heap.size]? = some (.cells #[.pointer (some ⟨X.heap.size, 0, none⟩), va, vh] 93) := (hW1 _ (by omega)).trans hM0
  have hhd : ∀ W', (∀ j, w.heap.size ≤ j → j < X.heap.size → W'.heap[j]? = W.heap[j]?) → J.Rd W' vh (J.heads (J.begins l) c (c.length - 1)) := fun W' h => (hO.held fun g h1 h2 => by rw [h g (by omega) h2, hW1 g (by omega), hM1 g (by omega)]; exact hb2.block g h2).rd
  have hgl := hT.box.lt
  have h2 := hT.re (B' := ⟨X.heap.size, [w2.heap.size]⟩) ⟨Nat.le_refl _, by simp; omega⟩ fun q hq => by
    have h1 := hT.room.lt q hq
    exact ⟨h1.1.1, by simp; have := h1.2; omega⟩
  refine ⟨⟨X.heap.size, X.heap.size, vh, c, by omega, hs2, ⟨by omega, hwb.trans (hWb.mono hsw), hbox, by simp, fun j hj => ?_, ⟨ao, cur, h2.hB, h2.box.block ?_, h2.room.block fun r hr => ?_, h2.ne, h2.fit, h2.most, h2.few, h2.ahead, h2.behind⟩, R0, fun W' hW' => hhd W' fun j h3 h4 => hW'.block j h4⟩, hok, hall, hhd⟩, hWb⟩
  · simp at hj; subst hj; exact lt_of_block hbox
  · rw [hW1 _ (by omega), hM1 _ hgl]
  · have h1 := hT.room.lt r hr
    have h3 : X.heap.size ≤ r := h1.1.1
    rw [hW1 _ (by omega), hM1 _ h1.2]

set_option maxHeartbeats 8000000 in
theorem xready_any (wb w : World) (v : Value) (l : List K.Rule) (hwb : Below wb.heap.size wb w) (R0 : V.Rus wb v l) (vt : Value) (t : List Int) (Rt : L.Rd w vt .i32 t) (ht : t.length ≤ 140737488355328) :
    Calls Tryz.prog 37 #[v, vt] w fun e w' => ∃ o, Gm.Chk l t o ∧ Below w.heap.size w w' ∧ ((o.2.1 ≠ 0 ∧ e = .returned (.tuple #[.pointer none, .agg #[.int .i64 o.2.1, .int .i64 o.2.2]])) ∨ (o.2.1 = 0 ∧ ∃ mb, e = .returned (.tuple #[.pointer (some ⟨mb, 0, none⟩), .agg #[.int .i64 0, .int .i64 0]]) ∧ Gm.Rdy wb w w' v l t mb)) := by
  have HA : Hid (∀ o, Below w.heap.size w (w.alloc o)) := fun o => (Below.refl _ w).alloc (Nat.le_refl _) o
  have HC : Hid (∀ o, Calls Tryz.prog 46 #[v, vt] (w.alloc o) fun e w' => ∃ (v' : Value) (o' : List J.Hd × Int × Int), Gm.Chk l t o' ∧ e = .returned (.tuple #[v', .agg #[.int .i64 o'.2.1, .int .i64 o'.2.2]]) ∧ J.Own (w.alloc o).heap.size w' v' o'.1 ∧ Below (w.alloc o).heap.size (w.alloc o) w') := fun o => xcheck_any _ v l ((R0.below hwb).below (HA.out o)) vt t (Rt.below (HA.out o) (Nat.le_refl _)) ht
  have HR : Hid (V.Rus wb v l ∧ Below wb.heap.size wb w) := ⟨R0, hwb⟩
  have HT : Hid (L.Rd w vt .i32 t) := Rt
  obtain ⟨va, vc, rfl⟩ := R0.len
  clear R0 Rt hwb
  go_enter Tryz.func37, Tryz.ntmps37
  go_wp2_with fail
  refine (HC.out _).mono ?_
  rintro e w1 ⟨v', ⟨hs, e1, e2⟩, hch, rfl, own, b1⟩
  obtain ⟨h1, B1, s1⟩ := K.one_box b1
  have HB1 : Hid (Below w.heap.size w w1) := B1
  have HX1 : Hid (w1.heap[w.heap.size]? = some (.cells #[.int .i64 0, .int .i64 0] 27)) := h1
  have HCh : Hid (Gm.Chk l t (hs, e1, e2)) := hch
  have hOw : J.Own (w.heap.size + 1) w1 v' hs := by simpa using own
  have HOw : Hid (J.Own (w.heap.size + 1) w1 v' hs) := hOw
  obtain ⟨x0, x1, f0, f1⟩ := K.box2 h1
  have k0 : ∀ o, (w1.alloc o).cell? ⟨w.heap.size, 0, none⟩ = some (.int .i64 0) := fun o => K.alloc_cell x0 o
  have k1 : ∀ o, (w1.alloc o).cell? ⟨w.heap.size, 1, none⟩ = some (.int .i64 0) := fun o => K.alloc_cell x1 o
  have g0 : ∀ o, (w1.alloc o).frozen? ⟨w.heap.size, 0, none⟩ = false := fun o => K.alloc_free h1 o 0
  have g1 : ∀ o, (w1.alloc o).frozen? ⟨w.heap.size, 1, none⟩ = false := fun o => K.alloc_free h1 o 1
  have HB2 : Hid (∀ o, Below w.heap.size w (w1.alloc o)) := fun o => HB1.out.alloc (by omega) o
  clear b1 B1 HC x0 x1 f0 f1 h1 hch own hOw
  by_cases q : e1 = 0
  · subst q
    obtain ⟨ht4, hall, rfl, c, hok, rfl⟩ := HCh.out.ok
    have HOk : Hid (Gm.Ok l c ∧ K.allR t = true) := ⟨hok, hall⟩
    obtain ⟨X, hX⟩ : ∃ X, X = w1.alloc (.cells #[.int .i64 0, .int .i64 0] 27) := ⟨_, rfl⟩
    have HXX : Hid (X = w1.alloc (.cells #[.int .i64 0, .int .i64 0] 27)) := hX
    have HBX : Hid (Below w.heap.size w X) := by show Below _ _ _; rw [hX]; exact HB2.out _
    have hXs : w.heap.size < X.heap.size := by rw [hX]; simp; omega
    have HXb : Hid (X.heap[w.heap.size]? = some (.cells #[.int .i64 0, .int .i64 0] 27)) := by
      show X.heap[w.heap.size]? = _
      rw [hX, Below.heap_alloc w1 _ w.heap.size (by omega)]; exact HX1.out
    have HOX : Hid (J.Own (w.heap.size + 1) X v' (J.heads (J.begins l) c (c.length - 1))) := by
      show J.Own _ _ _ _
      rw [hX]; exact HOw.out.below ((Below.refl _ w1).alloc (Nat.le_refl _) _)
    have HNw : Hid (∀ Y, Y = X → Calls Tryz.prog 47 #[vt] Y fun e w' => e = .returned (.tuple #[.pointer (some ⟨X.heap.size, 0, none⟩), .int .i64 0]) ∧ Gm.Told ⟨X.heap.size, []⟩ X.heap.size X [] t w') := fun Y hY => by rw [hY]; exact xnew_ok X vt t (HT.out.below HBX.out (Nat.le_refl _)) ht4
    clear hX k0 k1 g0 g1 hok hall HOw
    obtain ⟨ua, uc, rfl⟩ := HOX.out.len
    generalize hhs : J.heads (J.begins l) c (c.length - 1) = hs at *
    go_wp2_with fail
    go_at_call 47
    refine (HNw.out _ HXX.out.symm).mono ?_
    rintro e w2 ⟨rfl, told⟩
    have HTo : Hid (Gm.Told ⟨X.heap.size, []⟩ X.heap.size X [] t w2) := told
    have hb2 : Below X.heap.size X w2 := told.2.1
    have hx2 := K.blk_below HXb.out hb2
    have HX2 : Hid (w2.heap[w.heap.size]? = some (.cells #[.int .i64 0, .int .i64 0] 27)) := hx2
    obtain ⟨x0, x1, f0, f1⟩ := K.box2 hx2
    have k0 : ∀ o, (w2.alloc o).cell? ⟨w.heap.size, 0, none⟩ = some (.int .i64 0) := fun o => K.alloc_cell x0 o
    have k1 : ∀ o, (w2.alloc o).cell? ⟨w.heap.size, 1, none⟩ = some (.int .i64 0) := fun o => K.alloc_cell x1 o
    have g0 : ∀ o, (w2.alloc o).frozen? ⟨w.heap.size, 0, none⟩ = false := fun o => K.alloc_free hx2 o 0
    have g1 : ∀ o, (w2.alloc o).frozen? ⟨w.heap.size, 1, none⟩ = false := fun o => K.alloc_free hx2 o 1
    have hs2 := hb2.size
    have HFin : Hid (∀ x y, _) := fun x y => Gm.ready_of (c := c) HR.out.2 HR.out.1 HBX.out hXs (by rw [hhs]; exact HOX.out) HOk.out.1 HOk.out.2 HTo.out x y
    clear told hb2 hx2 HNw HXX HXb HB1 HX1 HB2 x0 x1 f0 f1
    go_wp2
    refine bodyPost_ret (v := .tuple #[.pointer (some ⟨w2.heap.size, 0, none⟩), .agg #[.int .i64 0, .int .i64 0]]) (by simp [results, Tryz.results37, go_sem, *]) rfl ?_
    exact ⟨_, HCh.out, (HFin.out _ _).2, .inr ⟨rfl, _, rfl, (HFin.out _ _).1⟩⟩
  · go_wp2
    go_region
    go_wp2
    refine bodyPost_ret (v := .tuple #[.pointer none, .agg #[.int .i64 e1, .int .i64 e2]]) (by simp [results, Tryz.results37, go_sem, *]) rfl ?_
    exact ⟨_, HCh.out, (((HB2.out _).setCell (p := ⟨w.heap.size, 0, none⟩) (Nat.le_refl _) _).setCell (p := ⟨w.heap.size, 1, none⟩) (Nat.le_refl _) _).drew, .inl ⟨q, rfl⟩⟩

end Go.Proofs.YtlmmjefplbcapaaGreat
