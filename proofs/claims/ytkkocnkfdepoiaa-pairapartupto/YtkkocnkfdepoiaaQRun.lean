/-
  Run's two boxes.
-/
import Derived.Test.YtkkocnkfdepoiaaQBox
import Derived.Test.YtkkocnkfdepoiaaQStep
import Derived.Test.YtkkocnkfdepoiaaQClone
namespace Go.Proofs.Ytkkocnkfdepoiaa
open Go.RowKit Go.Lib
set_option maxRecDepth 20000
set_option linter.unusedSimpArgs false
set_option linter.unusedVariables false

namespace K
/-- Run's boxes: what came, what is wrong -/
def Boxes (w W : World) : Prop := W.heap[w.heap.size]? = some (.cells #[.slice none 0 0, .int .i64 0, .int .i64 0] 32) ∧ W.heap[w.heap.size + 1]? = some (.cells #[.int .i64 0, .int .i64 0] 34)
end K

/-- five stores into two boxes -/
theorem K.five {w W : World} {B a b : Nat} (hb : Below B w W) (ha : B ≤ a) (hbb : B ≤ b) (v0 v1 v2 v3 v4 : Value) :
    Below B w (((((W.setCell ⟨a, 0, none⟩ v0).setCell ⟨a, 1, none⟩ v1).setCell ⟨a, 2, none⟩ v2).setCell ⟨b, 0, none⟩ v3).setCell ⟨b, 1, none⟩ v4) ∧
    ∀ g, g ≠ a → g ≠ b → (((((W.setCell ⟨a, 0, none⟩ v0).setCell ⟨a, 1, none⟩ v1).setCell ⟨a, 2, none⟩ v2).setCell ⟨b, 0, none⟩ v3).setCell ⟨b, 1, none⟩ v4).heap[g]? = W.heap[g]? := by
  refine ⟨((((hb.setCell (p := ⟨a, 0, none⟩) ha _).setCell (p := ⟨a, 1, none⟩) ha _).setCell (p := ⟨a, 2, none⟩) ha _).setCell (p := ⟨b, 0, none⟩) hbb _).setCell (p := ⟨b, 1, none⟩) hbb _, fun g h1 h2 => ?_⟩
  rw [heap_setCell_other _ ⟨b, 1, none⟩ g _ (by simpa using h2), heap_setCell_other _ ⟨b, 0, none⟩ g _ (by simpa using h2), heap_setCell_other _ ⟨a, 2, none⟩ g _ (by simpa using h1), heap_setCell_other _ ⟨a, 1, none⟩ g _ (by simpa using h1), heap_setCell_other _ ⟨a, 0, none⟩ g _ (by simpa using h1)]

/-- where nothing is wrong -/
theorem K.boxes_below {w W W' : World} (h : K.Boxes w W) (hb : Below W.heap.size W W') : K.Boxes w W' := ⟨K.blk_below h.1 hb, K.blk_below h.2 hb⟩

end Go.Proofs.Ytkkocnkfdepoiaa

/-
  What Run answers: the program.
-/
namespace Go.Proofs.Ytkkocnkfdepoiaa
open Go.RowKit Go.Lib
set_option maxRecDepth 20000
set_option linter.unusedSimpArgs false
set_option linter.unusedVariables false

set_option maxHeartbeats 1000000 in
theorem most_any (w : World) (n : Nat) (hn : n ≤ 4000) :
    Calls Try.prog 28 #[.int .i64 (n : Int)] w fun e w' => e = .returned (.int .i64 (8 * (n : Int) + 40)) ∧ w' = w := by
  have e1 : IntKind.i64.wrap (8 * (n : Int)) = 8 * (n : Int) := by rw [IntKind.wrap_i64]; omega
  have e2 : IntKind.i64.wrap (8 * (n : Int) + 40) = 8 * (n : Int) + 40 := by rw [IntKind.wrap_i64]; omega
  go_enter Try.func28, Try.ntmps28
  go_wp2
  go_ret
  exact ⟨by simp [e1, e2], rfl⟩

namespace K
/-- what a row that is owned reads as, where it is not empty -/
theorem own_of {w : World} {B : Nat} {v : Value} {t : List Int} (h : w.ownsRow B 21 1 v t.length (ints t)) (h0 : 0 < t.length) : ∃ g cap, v = .slice (some ⟨g, 0, none⟩) t.length cap ∧ B ≤ g ∧ OwnT w g cap t := by
  rcases h.2 with ⟨_, h1⟩ | ⟨g, cap, cur, hv, hB, hg, hle, hmax, hsz, htk⟩
  · omega
  · exact ⟨g, cap, hv, hB, cur.toList, by simpa [Row] using hg, by simpa using hsz, hle, hmax, by simpa using htk⟩
end K

set_option maxHeartbeats 4000000 in
theorem run_bad (w : World) (v : Value) (l : List K.Rule) (R0 : V.Rus w v l) (vt : Value) (t : List Int) (Rt : L.Rd w vt .i32 t) (ht : t.length ≤ 140737488355328) (hbad : ¬ (K.checkF l t).1 = 0) :
    Calls Try.prog 10 #[v, vt] w fun e w' => e = .returned (.tuple #[.agg #[.slice none 0 0, .int .i64 0, .int .i64 0], .agg #[.int .i64 (K.checkF l t).1, .int .i64 (K.checkF l t).2]]) ∧ Below w.heap.size w w' := by
  have HA : Hid (∀ o1 o2, Below w.heap.size w ((w.alloc o1).alloc o2)) := fun o1 o2 => ((Below.refl _ w).alloc (Nat.le_refl _) o1).alloc (by simp) o2
  have HC : Hid (∀ o1 o2, Calls Try.prog 26 #[v, vt] ((w.alloc o1).alloc o2) fun e w' => e = .returned (.agg #[.int .i64 (K.checkF l t).1, .int .i64 (K.checkF l t).2]) ∧ Below ((w.alloc o1).alloc o2).heap.size ((w.alloc o1).alloc o2) w') := fun o1 o2 => qCheck_any _ _ l (R0.below (HA.out _ _)) vt t (Rt.below (HA.out _ _) (Nat.le_refl _)) ht
  obtain ⟨ao, cap, rfl⟩ := R0.len
  obtain ⟨xo, xc, rfl, _⟩ := Rt
  obtain ⟨⟨e1, e2⟩, he⟩ : ∃ o, K.checkF l t = o := ⟨_, rfl⟩
  rw [he] at HC hbad ⊢
  simp only at HC hbad ⊢
  clear he R0
  go_enter Try.func10, Try.ntmps10
  go_wp2_with fail
  refine (HC.out _ _).mono ?_
  rintro e w1 ⟨rfl, b1⟩
  obtain ⟨h1, h2, B1, s1⟩ := K.two_boxes b1
  have HB2 : Hid (∀ o, Below w.heap.size w (w1.alloc o)) := fun o => B1.alloc (by omega) o
  have k0 : ∀ o, (w1.alloc o).cell? ⟨w.heap.size, 0, none⟩ = some (.slice none 0 0) := fun o => K.alloc_cell (K.at_box h1 rfl) o
  have k1 : ∀ o, (w1.alloc o).cell? ⟨w.heap.size, 1, none⟩ = some (.int .i64 0) := fun o => K.alloc_cell (K.at_box h1 rfl) o
  have k2 : ∀ o, (w1.alloc o).cell? ⟨w.heap.size, 2, none⟩ = some (.int .i64 0) := fun o => K.alloc_cell (K.at_box h1 rfl) o
  have k3 : ∀ o, (w1.alloc o).cell? ⟨w.heap.size + 1, 0, none⟩ = some (.int .i64 0) := fun o => K.alloc_cell (K.at_box h2 rfl) o
  have k4 : ∀ o, (w1.alloc o).cell? ⟨w.heap.size + 1, 1, none⟩ = some (.int .i64 0) := fun o => K.alloc_cell (K.at_box h2 rfl) o
  have g0 : ∀ o i, (w1.alloc o).frozen? ⟨w.heap.size, i, none⟩ = false := fun o i => K.alloc_free h1 o i
  have g1 : ∀ o i, (w1.alloc o).frozen? ⟨w.heap.size + 1, i, none⟩ = false := fun o i => K.alloc_free h2 o i
  clear b1 B1 HC h1 h2
  go_wp2
  go_region
  go_wp2
  refine bodyPost_ret (v := .tuple #[.agg #[.slice none 0 0, .int .i64 0, .int .i64 0], .agg #[.int .i64 e1, .int .i64 e2]]) (by simp [results, Try.results10, go_sem, *]) rfl ?_
  exact ⟨rfl, (K.five (HB2.out _) (Nat.le_refl _) (by omega) _ _ _ _ _).1.drew⟩

set_option maxHeartbeats 8000000 in
theorem run_ok (w : World) (v : Value) (l : List K.Rule) (R0 : V.Rus w v l) (vt : Value) (t : List Int) (Rt : L.Rd w vt .i32 t) (hgood : (K.checkF l t).1 = 0) (h0 : 0 < t.length) (o1 : Int) (o2 : List Int) (o3 o4 : Int) (hO : K.play l (8 * t.length + 40) [] t 0 0 = (o1, o2, o3, o4)) :
    Calls Try.prog 10 #[v, vt] w fun e w' => ∃ v', e = .returned (.tuple #[.agg #[v', .int .i64 o3, .int .i64 o4], .agg #[.int .i64 o1, .int .i64 0]]) ∧ L.Rd w' v' .i32 o2 ∧ Below w.heap.size w w' := by
  obtain ⟨z1, z2, hck⟩ := K.checkF_zero hgood
  obtain ⟨hl, hE, _⟩ := K.rulesF_zero z1
  have ht := K.textE_zero z2
  have HO : Hid (K.play l (8 * t.length + 40) [] t 0 0 = (o1, o2, o3, o4)) := hO
  have HE : Hid (∀ r ∈ l, K.ruleE r = 0) := hE
  have HA : Hid (∀ o1 o2, Below w.heap.size w ((w.alloc o1).alloc o2)) := fun o1 o2 => ((Below.refl _ w).alloc (Nat.le_refl _) o1).alloc (by simp) o2
  have HC : Hid (∀ o1 o2, Calls Try.prog 26 #[v, vt] ((w.alloc o1).alloc o2) fun e w' => e = .returned (.agg #[.int .i64 0, .int .i64 0]) ∧ Below ((w.alloc o1).alloc o2).heap.size ((w.alloc o1).alloc o2) w') := fun o1 o2 => by
    have h := qCheck_any _ _ l (R0.below (HA.out o1 o2)) vt t (Rt.below (HA.out o1 o2) (Nat.le_refl _)) (by omega)
    rw [hck] at h
    exact h
  have HR : Hid (V.Rus w v l) := R0
  have HT : Hid (L.Rd w vt .i32 t) := Rt
  obtain ⟨ao, cap, rfl⟩ := R0.len
  obtain ⟨xo, xc, rfl, _⟩ := Rt
  clear R0 hO hE hck z1 z2 hgood
  go_enter Try.func10, Try.ntmps10
  go_wp2_with fail
  refine (HC.out _ _).mono ?_
  rintro e w1 ⟨rfl, b1⟩
  obtain ⟨h1, h2, B1, s1⟩ := K.two_boxes b1
  obtain ⟨w2, hw2⟩ : ∃ w2, w2 = w1.alloc (.cells #[.int .i64 0, .int .i64 0] 34) := ⟨_, rfl⟩
  have hB2 : Below w.heap.size w w2 := by rw [hw2]; exact B1.alloc (by omega) _
  have hX2 : K.Boxes w w2 := by rw [hw2]; exact ⟨(Below.heap_alloc w1 _ _ (by omega)).trans h1, (Below.heap_alloc w1 _ _ (by omega)).trans h2⟩
  have hs2 : w.heap.size + 2 ≤ w2.heap.size := by rw [hw2]; simp; omega
  have HCl : Hid (Calls Try.prog 27 #[.slice xo t.length xc] (w1.alloc (.cells #[.int .i64 0, .int .i64 0] 34)) fun e w' => ∃ v', e = .returned v' ∧ w'.ownsRow w2.heap.size 21 1 v' t.length (K.ints t) ∧ Below w2.heap.size w2 w') := by
    rw [← hw2]
    exact qclone_any w2 _ t (HT.out.below hB2 (Nat.le_refl _)) ht
  have HR2 : Hid (V.Rus w2 (.slice ao l.length cap) l) := HR.out.below hB2
  have HB2 : Hid (Below w.heap.size w w2) := hB2
  have HX2 : Hid (K.Boxes w w2) := hX2
  clear b1 B1 HC h1 h2 hw2 hB2 hX2 HA HR
  go_wp2_with fail
  refine HCl.out.mono ?_
  rintro e w3 ⟨v', rfl, own, b3⟩
  obtain ⟨g, gc, rfl, hg, hOwn⟩ := K.own_of own h0
  obtain ⟨w4, hw4⟩ : ∃ w4, w4 = w3.alloc (.cells #[.slice (some ⟨g, 0, none⟩) t.length gc, .int .i64 0] 63) := ⟨_, rfl⟩
  have hb34 : Below w3.heap.size w3 w4 := by rw [hw4]; exact (Below.refl _ w3).alloc (Nat.le_refl _) _
  have hs3 := b3.size
  have HS4 : Hid (K.St w2.heap.size w3.heap.size w4 g gc ([] ++ t) (0 : Nat)) := by
    refine ⟨hs3, ?_, hg, hOwn.below hb34⟩
    rw [hw4]; exact heap_alloc_new w3 _
  have HB4 : Hid (Below w2.heap.size w2 w4) := b3.trans (hb34.mono hs3)
  obtain ⟨bs, hbs⟩ : ∃ bs, bs = w3.heap.size := ⟨_, rfl⟩
  rw [← hbs] at HS4
  clear own hOwn b3 hb34 HCl hg
  go_wp2
  rw [← hw4, ← hbs]
  clear hw4 hbs hs3
  go_loopw [8, 9] (fun i8 i9 wr => ∃ (left : Nat) (done rest : List Int) (s p g gc : Nat), i8 = .int .i64 s ∧ i9 = .int .i64 p ∧ s + left ≤ 8 * t.length + 40 ∧ 8 * t.length + 40 ≤ s + left ∧ p ≤ s ∧ Hid (K.play l left done rest s p = (o1, o2, o3, o4)) ∧ Hid (K.St w2.heap.size bs wr g gc (done ++ rest) done.length) ∧ Hid (Below w2.heap.size w2 wr) ∧ done.length + rest.length ≤ 4000) (fun i8 _ _ => 8 * t.length + 41 - (intOf i8).toNat)
  case atStart => exact ⟨8 * t.length + 40, [], t, 0, 0, g, gc, rfl, rfl, by omega, by omega, by omega, HO, HS4, HB4, by simpa using ht⟩
  case round =>
    obtain ⟨left, done, rest, s, p, g, gc, rfl, rfl, hs1, hs2', hps, HP, HS, HB, h4⟩ := hrel
    have x0 := K.at_box (i := 0) HS.out.2.1 rfl
    have x1 := K.at_box (i := 1) HS.out.2.1 rfl
    obtain ⟨N, hN⟩ : ∃ N, N = (done ++ rest).length := ⟨_, rfl⟩
    have hN2 : N = done.length + rest.length := by rw [hN]; simp
    rw [← hN] at x0
    have HBW : Hid (Below w.heap.size w wr) := HB2.out.trans (HB.out.mono (by omega))
    have HBX : Hid (K.Boxes w wr) := K.boxes_below HX2.out HB.out
    by_cases hr : rest.length = 0
    · have hrn : rest = [] := List.eq_nil_of_length_eq_zero hr
      have hp := HP.out
      rw [K.play_end hr] at hp
      have HP2 : Hid (((0 : Int), done, (s : Int), (p : Int)) = (o1, o2, o3, o4)) := hp
      obtain ⟨y0, y1, y2⟩ : wr.cell? ⟨w.heap.size, 0, none⟩ = some (.slice none 0 0) ∧ wr.cell? ⟨w.heap.size, 1, none⟩ = some (.int .i64 0) ∧ wr.cell? ⟨w.heap.size, 2, none⟩ = some (.int .i64 0) := ⟨K.at_box HBX.out.1 rfl, K.at_box HBX.out.1 rfl, K.at_box HBX.out.1 rfl⟩
      obtain ⟨y3, y4⟩ : wr.cell? ⟨w.heap.size + 1, 0, none⟩ = some (.int .i64 0) ∧ wr.cell? ⟨w.heap.size + 1, 1, none⟩ = some (.int .i64 0) := ⟨K.at_box HBX.out.2 rfl, K.at_box HBX.out.2 rfl⟩
      have fa : ∀ i, wr.frozen? ⟨w.heap.size, i, none⟩ = false := fun i => frozen_of_row wr _ i _ _ HBX.out.1
      have fb : ∀ i, wr.frozen? ⟨w.heap.size + 1, i, none⟩ = false := fun i => frozen_of_row wr _ i _ _ HBX.out.2
      have hlt : ¬ (done.length : Int) < N := by omega
      have HRd : Hid (g ≠ w.heap.size ∧ g ≠ w.heap.size + 1 ∧ K.OwnT wr g gc done ∧ N = done.length) := by
        have h1 := HS.out.2.2.1
        have h2 := HS.out.2.2.2
        rw [hrn, List.append_nil] at h2
        exact ⟨by omega, by omega, h2, by omega⟩
      clear hp hN hN2 HX2 HBX HS HB HB2 HR2 HP
      go_wp2
      refine bodyPost_ret (v := .tuple #[.agg #[.slice (some ⟨g, 0, none⟩) N gc, .int .i64 s, .int .i64 p], .agg #[.int .i64 0, .int .i64 0]]) (by simp [results, Try.results10, go_sem, *]) rfl ?_
      obtain ⟨f1, f2⟩ := K.five HBW.out (Nat.le_refl _) (by omega : w.heap.size ≤ w.heap.size + 1) (.slice (some ⟨g, 0, none⟩) N gc) (.int .i64 s) (.int .i64 p) (.int .i64 0) (.int .i64 0)
      have he := HP2.out
      simp only [Prod.mk.injEq] at he
      obtain ⟨rfl, rfl, rfl, rfl⟩ := he
      obtain ⟨cur, row, hcu⟩ := HRd.out.2.2.1
      refine ⟨_, rfl, ?_, f1⟩
      rw [HRd.out.2.2.2]
      exact K.OwnT.rd ⟨cur, row.block (by rw [← HRd.out.2.2.2]; exact f2 g HRd.out.1 HRd.out.2.1), hcu⟩
    · have hlt : (done.length : Int) < N := by omega
      cases left with
      | zero =>
        have hp := HP.out
        rw [K.play_out hr] at hp
        have HP2 : Hid (((9 : Int), ([] : List Int), (0 : Int), (0 : Int)) = (o1, o2, o3, o4)) := hp
        obtain ⟨y0, y1, y2⟩ : wr.cell? ⟨w.heap.size, 0, none⟩ = some (.slice none 0 0) ∧ wr.cell? ⟨w.heap.size, 1, none⟩ = some (.int .i64 0) ∧ wr.cell? ⟨w.heap.size, 2, none⟩ = some (.int .i64 0) := ⟨K.at_box HBX.out.1 rfl, K.at_box HBX.out.1 rfl, K.at_box HBX.out.1 rfl⟩
        obtain ⟨y3, y4⟩ : wr.cell? ⟨w.heap.size + 1, 0, none⟩ = some (.int .i64 0) ∧ wr.cell? ⟨w.heap.size + 1, 1, none⟩ = some (.int .i64 0) := ⟨K.at_box HBX.out.2 rfl, K.at_box HBX.out.2 rfl⟩
        have fa : ∀ i, wr.frozen? ⟨w.heap.size, i, none⟩ = false := fun i => frozen_of_row wr _ i _ _ HBX.out.1
        have fb : ∀ i, wr.frozen? ⟨w.heap.size + 1, i, none⟩ = false := fun i => frozen_of_row wr _ i _ _ HBX.out.2
        have heq : (s : Int) = 8 * (t.length : Int) + 40 := by omega
        clear hp hN hN2 HX2 HBX HS HB HB2 HR2 HP
        go_wp2_with (go_at_call 28; refine (most_any _ t.length ht).mono ?_; rintro e wq ⟨rfl, rfl⟩)
        refine bodyPost_ret (v := .tuple #[.agg #[.slice none 0 0, .int .i64 0, .int .i64 0], .agg #[.int .i64 9, .int .i64 0]]) (by simp [results, Try.results10, go_sem, *]) rfl ?_
        have he := HP2.out
        simp only [Prod.mk.injEq] at he
        obtain ⟨rfl, rfl, rfl, rfl⟩ := he
        exact ⟨_, rfl, ⟨none, 0, rfl, fun _ => rfl, fun h => absurd rfl h⟩, (K.five HBW.out (Nat.le_refl _) (by omega : w.heap.size ≤ w.heap.size + 1) _ _ _ _ _).1⟩
      | succ left =>
        have hneq : ¬ (s : Int) = 8 * (t.length : Int) + 40 := by omega
        have hNl : (done ++ rest).length ≤ 4000 := by omega
        have hdl : done.length < (done ++ rest).length := by omega
        rcases K.which_is (l := l) (t := done ++ rest) (k := (done.length : Int)) with hw | ⟨j, r, hj, hm, hw⟩
        · have hp := HP.out
          rw [K.play_on hr hw] at hp
          have HP2 : Hid (K.play l left (done ++ rest.take 1) (rest.drop 1) ((s + 1 : Nat) : Int) p = (o1, o2, o3, o4)) := by rw [Int.natCast_add]; exact hp
          have HStep := step_none w2 _ l HR2.out hl HE.out wr HB.out bs g gc (done ++ rest) done.length HS.out hNl hdl hw
          have HSt2 : Hid (∀ W, K.St w2.heap.size bs W g gc (done ++ rest) ((done.length : Int) + 1) → K.St w2.heap.size bs W g gc ((done ++ rest.take 1) ++ rest.drop 1) ((done ++ rest.take 1).length : Nat)) := fun W h => by
            rw [List.append_assoc, List.take_append_drop, show (((done ++ rest.take 1).length : Nat) : Int) = (done.length : Int) + 1 by simp; omega]
            exact h
          have HLen : Hid ((done ++ rest.take 1).length + (rest.drop 1).length ≤ 4000) := by show _ ≤ _; simp; omega
          clear hp hN hN2 HX2 HBX HS HR2 HP
          go_wp2_with (go_at_call 28; refine (most_any _ t.length ht).mono ?_; rintro e wq ⟨rfl, rfl⟩)
          refine HStep.mono ?_
          rintro e w5 ⟨rfl, s5, b5⟩
          have HS5 := HSt2.out _ s5
          have HB5 : Hid (Below w2.heap.size w2 w5) := HB.out.trans b5
          have HS6 : Hid (K.St w2.heap.size bs w5 g gc ((done ++ rest.take 1) ++ rest.drop 1) ((done ++ rest.take 1).length : Nat)) := HS5
          clear s5 b5 HS5 HStep x0 x1
          go_wp2
          go_roundw
          case rel => exact ⟨left, _, _, s + 1, p, g, gc, by go_num, rfl, by omega, by omega, by omega, HP2, HS6, HB5, HLen.out⟩
          case measure => simp [intOf]; omega
        · have hrE := HE.out r (List.mem_of_getElem? hj)
          have hfit := K.fits hrE hm
          obtain ⟨_, _, _, hsrc, hta, _, hc0, hc1⟩ := K.ruleE_zero hrE
          have hrl := K.restOf_length (r := r) (rest := rest)
          by_cases hlong : 4000 < done.length + (K.restOf r rest).length
          · have hp := HP.out
            rw [K.play_much hr hw hj hlong] at hp
            have HP2 : Hid (((4 : Int), ([] : List Int), (0 : Int), (0 : Int)) = (o1, o2, o3, o4)) := hp
            have HStep := step_much w2 _ l HR2.out hl HE.out wr HB.out bs g gc (done ++ rest) done.length HS.out hNl hdl j r hw hj hm (by rw [List.length_append]; omega)
            clear hp hN hN2 HX2 HS HR2 HP
            go_wp2_with (go_at_call 28; refine (most_any _ t.length ht).mono ?_; rintro e wq ⟨rfl, rfl⟩)
            refine HStep.mono ?_
            rintro e w5 ⟨rfl, b5⟩
            have bx := K.boxes_below HBX.out b5
            obtain ⟨y0, y1, y2⟩ : w5.cell? ⟨w.heap.size, 0, none⟩ = some (.slice none 0 0) ∧ w5.cell? ⟨w.heap.size, 1, none⟩ = some (.int .i64 0) ∧ w5.cell? ⟨w.heap.size, 2, none⟩ = some (.int .i64 0) := ⟨K.at_box bx.1 rfl, K.at_box bx.1 rfl, K.at_box bx.1 rfl⟩
            obtain ⟨y3, y4⟩ : w5.cell? ⟨w.heap.size + 1, 0, none⟩ = some (.int .i64 0) ∧ w5.cell? ⟨w.heap.size + 1, 1, none⟩ = some (.int .i64 0) := ⟨K.at_box bx.2 rfl, K.at_box bx.2 rfl⟩
            have fa : ∀ i, w5.frozen? ⟨w.heap.size, i, none⟩ = false := fun i => frozen_of_row w5 _ i _ _ bx.1
            have fb : ∀ i, w5.frozen? ⟨w.heap.size + 1, i, none⟩ = false := fun i => frozen_of_row w5 _ i _ _ bx.2
            have HB5 : Hid (Below w.heap.size w w5) := HBW.out.trans (b5.mono HBW.out.size)
            clear b5 bx HStep x0 x1 HBX
            go_wp2
            refine bodyPost_ret (v := .tuple #[.agg #[.slice none 0 0, .int .i64 0, .int .i64 0], .agg #[.int .i64 4, .int .i64 0]]) (by simp [results, Try.results10, go_sem, *]) rfl ?_
            have he := HP2.out
            simp only [Prod.mk.injEq] at he
            obtain ⟨rfl, rfl, rfl, rfl⟩ := he
            exact ⟨_, rfl, ⟨none, 0, rfl, fun _ => rfl, fun h => absurd rfl h⟩, (K.five HB5.out (Nat.le_refl _) (by omega : w.heap.size ≤ w.heap.size + 1) _ _ _ _ _).1⟩
          · have hp := HP.out
            rw [K.play_put hr hw hj hlong] at hp
            have HP2 : Hid (K.play l left (done ++ (K.restOf r rest).take r.cursor.toNat) ((K.restOf r rest).drop r.cursor.toNat) ((s + 1 : Nat) : Int) ((p + 1 : Nat) : Int) = (o1, o2, o3, o4)) := by rw [Int.natCast_add, Int.natCast_add]; exact hp
            have hT2 : done ++ K.restOf r rest = (done ++ rest).take done.length ++ r.target ++ (done ++ rest).drop (done.length + r.source.length) := by
              unfold K.restOf
              rw [List.take_left, List.drop_append, List.append_assoc]
              simp
            have HStep := step_put w2 _ l HR2.out hl HE.out wr HB.out bs g gc (done ++ rest) done.length HS.out hNl hdl j r hw hj hm (by rw [List.length_append]; omega) (done ++ K.restOf r rest) hT2
            have HSt2 : Hid (∀ W g' gc', K.St w2.heap.size bs W g' gc' (done ++ K.restOf r rest) ((done.length : Int) + r.cursor) → K.St w2.heap.size bs W g' gc' ((done ++ (K.restOf r rest).take r.cursor.toNat) ++ (K.restOf r rest).drop r.cursor.toNat) ((done ++ (K.restOf r rest).take r.cursor.toNat).length : Nat)) := fun W g' gc' h => by
              rw [List.append_assoc, List.take_append_drop, show (((done ++ (K.restOf r rest).take r.cursor.toNat).length : Nat) : Int) = (done.length : Int) + r.cursor by simp; omega]
              exact h
            have HLen : Hid ((done ++ (K.restOf r rest).take r.cursor.toNat).length + ((K.restOf r rest).drop r.cursor.toNat).length ≤ 4000) := by show _ ≤ _; simp; omega
            have hj0 : (0 : Int) ≤ j := by omega
            clear hp hN hN2 HX2 HBX HS HR2 HP hT2
            go_wp2_with (go_at_call 28; refine (most_any _ t.length ht).mono ?_; rintro e wq ⟨rfl, rfl⟩)
            refine HStep.mono ?_
            rintro e w5 ⟨rfl, g', gc', s5, b5⟩
            have HS5 := HSt2.out _ _ _ s5
            have HB5 : Hid (Below w2.heap.size w2 w5) := HB.out.trans b5
            have HS6 : Hid (K.St w2.heap.size bs w5 g' gc' ((done ++ (K.restOf r rest).take r.cursor.toNat) ++ (K.restOf r rest).drop r.cursor.toNat) ((done ++ (K.restOf r rest).take r.cursor.toNat).length : Nat)) := HS5
            clear s5 b5 HS5 HStep x0 x1
            go_wp2
            go_roundw
            case rel => exact ⟨left, _, _, s + 1, p + 1, g', gc', by go_num, by go_num, by omega, by omega, by omega, HP2, HS6, HB5, HLen.out⟩
            case measure => simp [intOf]; omega

set_option maxHeartbeats 4000000 in
theorem run_empty (w : World) (v : Value) (l : List K.Rule) (R0 : V.Rus w v l) (vt : Value) (Rt : L.Rd w vt .i32 []) (hgood : (K.checkF l []).1 = 0) :
    Calls Try.prog 10 #[v, vt] w fun e w' => ∃ v', e = .returned (.tuple #[.agg #[v', .int .i64 0, .int .i64 0], .agg #[.int .i64 0, .int .i64 0]]) ∧ L.Rd w' v' .i32 [] ∧ Below w.heap.size w w' := by
  obtain ⟨z1, z2, hck⟩ := K.checkF_zero hgood
  have HA : Hid (∀ o1 o2, Below w.heap.size w ((w.alloc o1).alloc o2)) := fun o1 o2 => ((Below.refl _ w).alloc (Nat.le_refl _) o1).alloc (by simp) o2
  have HC : Hid (∀ o1 o2, Calls Try.prog 26 #[v, vt] ((w.alloc o1).alloc o2) fun e w' => e = .returned (.agg #[.int .i64 0, .int .i64 0]) ∧ Below ((w.alloc o1).alloc o2).heap.size ((w.alloc o1).alloc o2) w') := fun o1 o2 => by
    have h := qCheck_any _ _ l (R0.below (HA.out o1 o2)) vt [] (Rt.below (HA.out o1 o2) (Nat.le_refl _)) (by simp)
    rw [hck] at h
    exact h
  have HT : Hid (L.Rd w vt .i32 []) := Rt
  obtain ⟨ao, cap, rfl⟩ := R0.len
  obtain ⟨xo, xc, rfl, _⟩ := Rt
  simp only [List.length_nil] at *
  clear R0 hck z1 z2 hgood
  go_enter Try.func10, Try.ntmps10
  go_wp2_with fail
  refine (HC.out _ _).mono ?_
  rintro e w1 ⟨rfl, b1⟩
  obtain ⟨h1, h2, B1, s1⟩ := K.two_boxes b1
  obtain ⟨w2, hw2⟩ : ∃ w2, w2 = w1.alloc (.cells #[.int .i64 0, .int .i64 0] 34) := ⟨_, rfl⟩
  have hB2 : Below w.heap.size w w2 := by rw [hw2]; exact B1.alloc (by omega) _
  have hX2 : K.Boxes w w2 := by rw [hw2]; exact ⟨(Below.heap_alloc w1 _ _ (by omega)).trans h1, (Below.heap_alloc w1 _ _ (by omega)).trans h2⟩
  have hs2 : w.heap.size + 2 ≤ w2.heap.size := by rw [hw2]; simp; omega
  have HCl : Hid (Calls Try.prog 27 #[.slice xo 0 xc] (w1.alloc (.cells #[.int .i64 0, .int .i64 0] 34)) fun e w' => ∃ v', e = .returned v' ∧ w'.ownsRow w2.heap.size 21 1 v' 0 [] ∧ Below w2.heap.size w2 w') := by
    rw [← hw2]
    exact qclone_any w2 _ [] (HT.out.below hB2 (Nat.le_refl _)) (by simp)
  have HB2 : Hid (Below w.heap.size w w2) := hB2
  have HX2 : Hid (K.Boxes w w2) := hX2
  clear b1 B1 HC h1 h2 hw2 hB2 hX2 HA
  go_wp2_with fail
  refine HCl.out.mono ?_
  rintro e w3 ⟨v', rfl, own, b3⟩
  obtain ⟨ga, gc, rfl, hgn⟩ : ∃ ga gc, v' = .slice ga 0 gc ∧ (ga = none → gc = 0) := by
    rcases own.2 with ⟨h, _⟩ | ⟨g, cap, cur, h, _⟩
    · exact ⟨none, 0, h, fun _ => rfl⟩
    · exact ⟨_, cap, h, fun e => by cases e⟩
  have hs3 := b3.size
  have bx := K.boxes_below HX2.out b3
  have k0 : ∀ o, (w3.alloc o).cell? ⟨w.heap.size, 0, none⟩ = some (.slice none 0 0) := fun o => K.alloc_cell (K.at_box bx.1 rfl) o
  have k1 : ∀ o, (w3.alloc o).cell? ⟨w.heap.size, 1, none⟩ = some (.int .i64 0) := fun o => K.alloc_cell (K.at_box bx.1 rfl) o
  have k2 : ∀ o, (w3.alloc o).cell? ⟨w.heap.size, 2, none⟩ = some (.int .i64 0) := fun o => K.alloc_cell (K.at_box bx.1 rfl) o
  have k3 : ∀ o, (w3.alloc o).cell? ⟨w.heap.size + 1, 0, none⟩ = some (.int .i64 0) := fun o => K.alloc_cell (K.at_box bx.2 rfl) o
  have k4 : ∀ o, (w3.alloc o).cell? ⟨w.heap.size + 1, 1, none⟩ = some (.int .i64 0) := fun o => K.alloc_cell (K.at_box bx.2 rfl) o
  have g0 : ∀ o i, (w3.alloc o).frozen? ⟨w.heap.size, i, none⟩ = false := fun o i => K.alloc_free bx.1 o i
  have g1 : ∀ o i, (w3.alloc o).frozen? ⟨w.heap.size + 1, i, none⟩ = false := fun o i => K.alloc_free bx.2 o i
  have HB4 : Hid (∀ o, Below w.heap.size w (w3.alloc o)) := fun o => (HB2.out.trans (b3.mono (by omega))).alloc (by omega) o
  clear own b3 bx HCl HX2
  go_wp2
  refine wp_loop_rounds 1 ?_
  rw [rounds_succ]
  go_wp2
  refine bodyPost_ret (v := .tuple #[.agg #[.slice ga 0 gc, .int .i64 0, .int .i64 0], .agg #[.int .i64 0, .int .i64 0]]) (by simp [results, Try.results10, go_sem, *]) rfl ?_
  exact ⟨_, rfl, ⟨ga, gc, rfl, hgn, fun h => absurd rfl h⟩, (K.five (HB4.out _) (Nat.le_refl _) (by omega : w.heap.size ≤ w.heap.size + 1) _ _ _ _ _).1⟩

/-- all that Run answers -/
theorem qRun_any (w : World) (v : Value) (l : List K.Rule) (R0 : V.Rus w v l) (vt : Value) (t : List Int) (Rt : L.Rd w vt .i32 t) (ht : t.length ≤ 140737488355328) :
    Calls Try.prog 10 #[v, vt] w fun e w' => ∃ v', e = .returned (.tuple #[.agg #[v', .int .i64 (K.runF l t).1.2.1, .int .i64 (K.runF l t).1.2.2], .agg #[.int .i64 (K.runF l t).2.1, .int .i64 (K.runF l t).2.2]]) ∧ L.Rd w' v' .i32 (K.runF l t).1.1 ∧ Below w.heap.size w w' := by
  unfold K.runF
  by_cases hg : (K.checkF l t).1 = 0
  · rw [if_pos hg]
    by_cases h0 : t.length = 0
    · obtain rfl : t = [] := List.eq_nil_of_length_eq_zero h0
      rw [K.play_end (by simp)]
      exact run_empty w v l R0 vt Rt hg
    · obtain ⟨⟨o1, o2, o3, o4⟩, hO⟩ : ∃ o, K.play l (8 * t.length + 40) [] t 0 0 = o := ⟨_, rfl⟩
      rw [hO]
      exact run_ok w v l R0 vt t Rt hg (by omega) o1 o2 o3 o4 hO
  · rw [if_neg hg]
    exact (run_bad w v l R0 vt t Rt ht hg).mono fun e w' ⟨h1, h2⟩ => ⟨_, h1, ⟨none, 0, rfl, fun _ => rfl, fun h => absurd rfl h⟩, h2⟩

end Go.Proofs.Ytkkocnkfdepoiaa
