/-
  Seven stores into a box.
-/
import Derived.Test.YtkkocnkfdepoiaaMLib
import Derived.Laws.ResultCell
import Derived.Test.YtkkocnkfdepoiaaPrSure
import Derived.Laws.IdiomStrings
namespace Go.Proofs.Ytkkocnkfdepoiaa
open Go.RowKit
set_option maxRecDepth 20000
set_option linter.unusedSimpArgs false
set_option linter.unusedVariables false

namespace V
theorem cells7 {w : World} {b : Nat} {v0 v1 v2 v3 v4 v5 v6 : Value} {t : TypeId} (h : w.heap[b]? = some (.cells #[v0, v1, v2, v3, v4, v5, v6] t)) :
    (w.cell? ⟨b, 0, none⟩ = some v0 ∧ w.cell? ⟨b, 1, none⟩ = some v1 ∧ w.cell? ⟨b, 2, none⟩ = some v2 ∧ w.cell? ⟨b, 3, none⟩ = some v3 ∧ w.cell? ⟨b, 4, none⟩ = some v4 ∧ w.cell? ⟨b, 5, none⟩ = some v5 ∧ w.cell? ⟨b, 6, none⟩ = some v6) ∧ ∀ i, w.frozen? ⟨b, i, none⟩ = false :=
  ⟨⟨K.at_box h rfl, K.at_box h rfl, K.at_box h rfl, K.at_box h rfl, K.at_box h rfl, K.at_box h rfl, K.at_box h rfl⟩, fun i => frozen_of_row w b i _ _ h⟩
/-- seven stores into a box -/
theorem set1_is {W : World} {b i : Nat} {c : Array Value} {t : TypeId} (h : W.heap[b]? = some (.cells c t)) (v : Value) :
    (W.setCell ⟨b, i, none⟩ v).heap[b]? = some (.cells (c.setIfInBounds i v) t) ∧ W.grownBy (W.setCell ⟨b, i, none⟩ v) (some b) :=
  ⟨heap_setCell_same W b i _ _ v h, rfl, rfl, rfl, by simp, fun k _ hk => heap_setCell_other W ⟨b, i, none⟩ k _ fun e => hk (by rw [e])⟩
theorem set7_is {W : World} {b : Nat} {u0 u1 u2 u3 u4 u5 u6 : Value} {t : TypeId} (h : W.heap[b]? = some (.cells #[u0, u1, u2, u3, u4, u5, u6] t)) (v0 v1 v2 v3 v4 v5 v6 : Value) :
    (((((((W.setCell ⟨b, 0, none⟩ v0).setCell ⟨b, 1, none⟩ v1).setCell ⟨b, 2, none⟩ v2).setCell ⟨b, 3, none⟩ v3).setCell ⟨b, 4, none⟩ v4).setCell ⟨b, 5, none⟩ v5).setCell ⟨b, 6, none⟩ v6).heap[b]? = some (.cells #[v0, v1, v2, v3, v4, v5, v6] t) ∧ W.grownBy (((((((W.setCell ⟨b, 0, none⟩ v0).setCell ⟨b, 1, none⟩ v1).setCell ⟨b, 2, none⟩ v2).setCell ⟨b, 3, none⟩ v3).setCell ⟨b, 4, none⟩ v4).setCell ⟨b, 5, none⟩ v5).setCell ⟨b, 6, none⟩ v6) (some b) := by
  obtain ⟨e0, g0⟩ := set1_is (i := 0) h v0
  generalize W.setCell ⟨b, 0, none⟩ v0 = X0 at *
  obtain ⟨e1, g1⟩ := set1_is (i := 1) e0 v1
  generalize X0.setCell ⟨b, 1, none⟩ v1 = X1 at *
  obtain ⟨e2, g2⟩ := set1_is (i := 2) e1 v2
  generalize X1.setCell ⟨b, 2, none⟩ v2 = X2 at *
  obtain ⟨e3, g3⟩ := set1_is (i := 3) e2 v3
  generalize X2.setCell ⟨b, 3, none⟩ v3 = X3 at *
  obtain ⟨e4, g4⟩ := set1_is (i := 4) e3 v4
  generalize X3.setCell ⟨b, 4, none⟩ v4 = X4 at *
  obtain ⟨e5, g5⟩ := set1_is (i := 5) e4 v5
  generalize X4.setCell ⟨b, 5, none⟩ v5 = X5 at *
  obtain ⟨e6, g6⟩ := set1_is (i := 6) e5 v6
  generalize X5.setCell ⟨b, 6, none⟩ v6 = X6 at *
  exact ⟨by rw [e6]; simp, S.grown_trans (S.grown_trans (S.grown_trans (S.grown_trans (S.grown_trans (S.grown_trans g0 g1) g2) g3) g4) g5) g6⟩
end V

end Go.Proofs.Ytkkocnkfdepoiaa

/-
  The closed fact of the statements of chapter 14 holds.
-/
namespace Go.Proofs.Ytkkocnkfdepoiaa
open Go.RowKit Go.Shelf
set_option maxRecDepth 20000
set_option linter.unusedSimpArgs false
set_option linter.unusedVariables false

namespace Pr
def toR (r c : Int) : K.Rule := ⟨false, false, [], [[(r, r)]], [], [c], 1⟩
theorem conv_one (s : ByteArray) (c : Int) (hs : Conv.runesFrom s s.size 0 #[] = #[.int .i32 c]) (w : World) : ∃ cap W, (convert 9 28 (.string s)).run Try.prog w = .ok (.slice (some ⟨w.heap.size, 0, none⟩) 1 cap) W ∧ W.heap.size = w.heap.size + 1 ∧ (∃ cs, W.heap[w.heap.size]? = some (.cells cs 21) ∧ cs[0]? = some (.int .i32 c)) ∧ Below w.heap.size w W := by
  have h := run_runes_of_string (P := Try.prog) w 9 28 21 s Try.underlying9 Try.underlying28 Try.underlying21 (by rw [hs]; simp)
  rw [hs] at h
  refine ⟨_, _, h, by simp, ⟨_, heap_alloc_new w.drew _, by rw [Array.getElem?_append_left (by simp)]; rfl⟩, ((Below.refl _ w).drew).alloc (Nat.le_refl _) _⟩
/-- such a rule, wherever it lies -/
theorem toR_is {W : World} {b1 b2 b3 : Nat} {r c : Int} {cap : Nat} {cs : Array Value} (h1 : W.heap[b1]? = some (.cells #[.int .i32 r, .int .i32 r] 57)) (h2 : W.heap[b2]? = some (.cells #[.slice (some ⟨b1, 0, none⟩) 1 1] 23)) (h3 : W.heap[b3]? = some (.cells cs 21)) (h4 : cs[0]? = some (.int .i32 c)) (hr : 0 ≤ r ∧ r ≤ 1000) :
    K.RuIs W (.agg #[.bool false, .bool false, .slice none 0 0, .slice (some ⟨b2, 0, none⟩) 1 1, .slice none 0 0, .slice (some ⟨b3, 0, none⟩) 1 cap, .int .i64 1]) (toR r c) := by
  have hs : S.Rd W (.slice (some ⟨b1, 0, none⟩) 1 1) [(r, r)] := ⟨_, 1, rfl, fun h => by simp at h, fun _ => ⟨b1, 0, rfl, fun j x hj => by
    match j, hj with
    | 0, hj => simp at hj; subst hj; exact ⟨K.at_box (i := 0) h1 rfl, K.at_box (i := 1) h1 rfl⟩
    | j + 1, hj => simp at hj⟩⟩
  have hn : K.Ss W (.slice none 0 0) [] := ⟨none, 0, [], rfl, fun _ => rfl, by simp, ⟨rfl, fun j u s hu => by simp at hu⟩, fun h => absurd rfl h⟩
  refine ⟨none, 0, some ⟨b2, 0, none⟩, 1, none, 0, some ⟨b3, 0, none⟩, cap, rfl, hn, ⟨_, 1, [.slice (some ⟨b1, 0, none⟩) 1 1], rfl, fun h => by simp at h, by simp [toR], ⟨rfl, fun j u s hu hj => ?_⟩, fun _ => ⟨b2, 0, rfl, fun j u hj => ?_⟩⟩, hn, ⟨_, cap, rfl, fun h => by simp at h, fun _ => ⟨b3, 0, rfl, fun j u hj => ?_⟩⟩, by simp [toR], by simp [toR, K.I64]⟩
  · match j, hu, hj with
    | 0, hu, hj =>
      simp [toR] at hu hj
      subst hu; subst hj
      exact ⟨⟨_, _, rfl⟩, hs, fun x hx => by simp at hx; subst hx; exact ⟨by omega, by omega, by omega, by omega⟩⟩
    | j + 1, hu, hj => simp at hu
  · match j, hj with
    | 0, hj => simp at hj; subst hj; exact K.at_box (i := 0) h2 rfl
    | j + 1, hj => simp at hj
  · match j, hj with
    | 0, hj => simp [toR] at hj; subst hj; exact K.at_box h3 h4
    | j + 1, hj => simp [toR] at hj
end Pr

set_option maxHeartbeats 4000000 in
theorem to_any (w : World) (r c : Int) (s : ByteArray) (hs : Conv.runesFrom s s.size 0 #[] = #[.int .i32 c]) (hr : 0 ≤ r ∧ r ≤ 1000) :
    Calls Try.prog 24 #[.int .i32 r, .string s] w fun e w' => ∃ v', e = .returned v' ∧ K.RuIs w' v' (Pr.toR r c) ∧ Below w.heap.size w w' := by
  obtain ⟨X1, hX1⟩ : ∃ X, X = w.alloc (.cells #[.bool false, .bool false, .slice none 0 0, .slice none 0 0, .slice none 0 0, .slice none 0 0, .int .i64 0] 48) := ⟨_, rfl⟩
  have hsz1 : X1.heap.size = w.heap.size + 1 := by rw [hX1]; simp
  obtain ⟨X3, hX3⟩ : ∃ X, X = (X1.alloc (.cells #[.int .i32 r, .int .i32 r] 57)).alloc (.cells #[.slice (some ⟨w.heap.size + 1, 0, none⟩) 1 1] 23) := ⟨_, rfl⟩
  have k1 := K.one_box (w := w) (Below.refl _ (w.alloc (.cells #[.bool false, .bool false, .slice none 0 0, .slice none 0 0, .slice none 0 0, .slice none 0 0, .int .i64 0] 48)))
  have k3 := K.two_boxes (w := X1) (Below.refl _ ((X1.alloc (.cells #[.int .i32 r, .int .i32 r] 57)).alloc (.cells #[.slice (some ⟨w.heap.size + 1, 0, none⟩) 1 1] 23)))
  rw [← hX1] at k1
  rw [← hX3, hsz1] at k3
  have hsz3 : X3.heap.size = w.heap.size + 3 := by rw [hX3]; simp [hsz1]
  obtain ⟨c4, W4, run4, s4, ⟨cs4, n4, z4⟩, b4⟩ := Pr.conv_one s c hs X3
  obtain ⟨c5, W5, run5, s5, _, b5⟩ := Pr.conv_one s c hs W4
  have hB5 : Below X3.heap.size X3 W5 := b4.trans (b5.mono (by omega))
  have r5 := K.blk_below (K.blk_below k1.1 (by rw [hsz1]; exact k3.2.2.1)) hB5
  have a1 := K.blk_below k3.1 hB5
  have a2 := K.blk_below k3.2.1 hB5
  have a3 := K.blk_below n4 b5
  have hBw : Below w.heap.size w W5 := (k1.2.1.trans (k3.2.2.1.mono (by omega))).trans (hB5.mono (by omega))
  have hw5 : w.heap.size < W5.heap.size := by omega
  rw [hsz3] at run4 a3
  rw [s4, hsz3] at run5
  obtain ⟨hF, hG⟩ := V.set7_is r5 (.bool false) (.bool false) (.slice none 0 0) (.slice (some ⟨w.heap.size + 1 + 1, 0, none⟩) 1 1) (.slice none 0 0) (.slice (some ⟨w.heap.size + 3, 0, none⟩) 1 c4) (.int .i64 1)
  obtain ⟨cc, ff⟩ := V.cells7 r5
  obtain ⟨y0, y1, y2, y3, y4, y5, y6⟩ := cc
  have HG : Hid (∀ k, w.heap.size ≠ k → k < W5.heap.size → ((((((((W5.setCell ⟨w.heap.size, 0, none⟩ (.bool false)).setCell ⟨w.heap.size, 1, none⟩ (.bool false)).setCell ⟨w.heap.size, 2, none⟩ (.slice none 0 0)).setCell ⟨w.heap.size, 3, none⟩ (.slice (some ⟨w.heap.size + 1 + 1, 0, none⟩) 1 1)).setCell ⟨w.heap.size, 4, none⟩ (.slice none 0 0)).setCell ⟨w.heap.size, 5, none⟩ (.slice (some ⟨w.heap.size + 3, 0, none⟩) 1 c4)).setCell ⟨w.heap.size, 6, none⟩ (.int .i64 1))).heap[k]? = W5.heap[k]?) := fun k hk hl => hG.block k hl (fun e => hk (by cases e; rfl))
  have HB : Hid (Below w.heap.size w ((((((((W5.setCell ⟨w.heap.size, 0, none⟩ (.bool false)).setCell ⟨w.heap.size, 1, none⟩ (.bool false)).setCell ⟨w.heap.size, 2, none⟩ (.slice none 0 0)).setCell ⟨w.heap.size, 3, none⟩ (.slice (some ⟨w.heap.size + 1 + 1, 0, none⟩) 1 1)).setCell ⟨w.heap.size, 4, none⟩ (.slice none 0 0)).setCell ⟨w.heap.size, 5, none⟩ (.slice (some ⟨w.heap.size + 3, 0, none⟩) 1 c4)).setCell ⟨w.heap.size, 6, none⟩ (.int .i64 1)))) := hBw.grown hG hBw.size (fun k hk => by cases hk; exact Nat.le_refl _)
  have HK : Hid (W5.heap[w.heap.size + 1]? = some (.cells #[.int .i32 r, .int .i32 r] 57) ∧ W5.heap[w.heap.size + 1 + 1]? = some (.cells #[.slice (some ⟨w.heap.size + 1, 0, none⟩) 1 1] 23) ∧ W5.heap[w.heap.size + 3]? = some (.cells cs4 21) ∧ cs4[0]? = some (.int .i32 c) ∧ w.heap.size + 3 < W5.heap.size) := ⟨a1, a2, a3, z4, by omega⟩
  clear b4 b5 hB5 hBw hG r5 a1 a2 a3 n4 z4 k1 k3
  have hF2 := V.cells7 hF
  obtain ⟨⟨q0, q1, q2, q3, q4, q5, q6⟩, _⟩ := hF2
  go_enter Try.func24, Try.ntmps24
  go_wp2_with fail
  rw [← hX1, ← hX3, run4]
  clear run4 hX1 hX3 hsz1 hsz3 hF
  go_wp2
  generalize hV : ((((((((W5.setCell ⟨w.heap.size, 0, none⟩ (.bool false)).setCell ⟨w.heap.size, 1, none⟩ (.bool false)).setCell ⟨w.heap.size, 2, none⟩ (.slice none 0 0)).setCell ⟨w.heap.size, 3, none⟩ (.slice (some ⟨w.heap.size + 1 + 1, 0, none⟩) 1 1)).setCell ⟨w.heap.size, 4, none⟩ (.slice none 0 0)).setCell ⟨w.heap.size, 5, none⟩ (.slice (some ⟨w.heap.size + 3, 0, none⟩) 1 c4)).setCell ⟨w.heap.size, 6, none⟩ (.int .i64 1))) = V at *
  refine bodyPost_ret (v := .agg #[.bool false, .bool false, .slice none 0 0, .slice (some ⟨w.heap.size + 1 + 1, 0, none⟩) 1 1, .slice none 0 0, .slice (some ⟨w.heap.size + 3, 0, none⟩) 1 c4, .int .i64 1]) (by simp [results, Try.results24, go_sem, *]) rfl ?_
  obtain ⟨h1, h2, h3, h4, h5⟩ := HK.out
  exact ⟨_, rfl, Pr.toR_is ((HG.out _ (by omega) (by omega)).trans h1) ((HG.out _ (by omega) (by omega)).trans h2) ((HG.out _ (by omega) (by omega)).trans h3) h4 hr, HB.out⟩

namespace Pr
theorem row1 {W : World} {b : Nat} {r : K.Rule} {bo so ao tgo : Option Addr} {bc sc ac tc : Nat} (h : W.heap[b]? = some (.cells #[.bool r.start, .bool r.fin, .slice bo r.before.length bc, .slice so r.source.length sc, .slice ao r.after.length ac, .slice tgo r.target.length tc, .int .i64 r.cursor] 48))
    (hr : K.RuIs W (.agg #[.bool r.start, .bool r.fin, .slice bo r.before.length bc, .slice so r.source.length sc, .slice ao r.after.length ac, .slice tgo r.target.length tc, .int .i64 r.cursor]) r) : V.Rus W (.slice (some ⟨b, 0, none⟩) 1 1) [r] :=
  ⟨_, 1, rfl, by simp, fun _ => ⟨b, 0, rfl, fun j q hj => by
    match j, hj with
    | 0, hj => simp at hj; subst hj; exact ⟨bo, bc, so, sc, ao, ac, tgo, tc, K.at_box (i := 0) h rfl, K.at_box (i := 1) h rfl, K.at_box (i := 2) h rfl, K.at_box (i := 3) h rfl, K.at_box (i := 4) h rfl, K.at_box (i := 5) h rfl, K.at_box (i := 6) h rfl, hr⟩
    | j + 1, hj => simp at hj⟩⟩
theorem span1 {W : World} {b : Nat} (h : W.heap[b]? = some (.cells #[.int .i32 97, .int .i32 97] 57)) : S.Rd W (.slice (some ⟨b, 0, none⟩) 1 1) [(97, 97)] := ⟨_, 1, rfl, fun h => by simp at h, fun _ => ⟨b, 0, rfl, fun j x hj => by
    match j, hj with
    | 0, hj => simp at hj; subst hj; exact ⟨K.at_box (i := 0) h rfl, K.at_box (i := 1) h rfl⟩
    | j + 1, hj => simp at hj⟩⟩
theorem fit1 : S.Fit [((97 : Int), (97 : Int))] := fun x hx => by simp at hx; subst hx; decide
theorem sure_yes : sureF [toR 97 98] [toR 98 97] [(97, 97)] = (true, 0) := by decide +kernel
theorem sure_no : sureF [toR 97 98] [] [(97, 97)] = (false, 0) := by decide +kernel
end Pr

set_option maxHeartbeats 4000000 in
theorem pAlive_any (w : World) : Calls Try.prog 8 #[] w fun e w' => e = .returned (.bool true) ∧ Below w.heap.size w w' := by
  go_enter Try.func8, Try.ntmps8
  go_wp2_with fail
  refine (to_any w 97 98 ⟨#[98]⟩ (by kernel_rfl) (by decide)).mono ?_
  rintro e w1 ⟨v1, rfl, R1, b1⟩
  obtain ⟨bo, bc, so, sc, ao, ac, tgo, tc, hv, _⟩ := id R1
  subst hv
  obtain ⟨X1, hX1⟩ : ∃ X, X = w1.alloc (.cells #[.bool (Pr.toR 97 98).start, .bool (Pr.toR 97 98).fin, .slice bo (Pr.toR 97 98).before.length bc, .slice so (Pr.toR 97 98).source.length sc, .slice ao (Pr.toR 97 98).after.length ac, .slice tgo (Pr.toR 97 98).target.length tc, .int .i64 (Pr.toR 97 98).cursor] 48) := ⟨_, rfl⟩
  have k1 := K.one_box (w := w1) (Below.refl _ (w1.alloc (.cells #[.bool (Pr.toR 97 98).start, .bool (Pr.toR 97 98).fin, .slice bo (Pr.toR 97 98).before.length bc, .slice so (Pr.toR 97 98).source.length sc, .slice ao (Pr.toR 97 98).after.length ac, .slice tgo (Pr.toR 97 98).target.length tc, .int .i64 (Pr.toR 97 98).cursor] 48)))
  rw [← hX1] at k1
  have HR1 : Hid (V.Rus X1 (.slice (some ⟨w1.heap.size, 0, none⟩) 1 1) [Pr.toR 97 98] ∧ Below w.heap.size w X1) := ⟨Pr.row1 k1.1 (R1.below k1.2.1), b1.trans (k1.2.1.mono b1.size)⟩
  clear R1 b1 k1
  go_wp2_with fail
  rw [← hX1]
  refine (to_any X1 98 97 ⟨#[97]⟩ (by kernel_rfl) (by decide)).mono ?_
  clear hX1
  rintro e w2 ⟨v2, rfl, R2, b2⟩
  obtain ⟨bo2, bc2, so2, sc2, ao2, ac2, to2, tc2, hv, _⟩ := id R2
  subst hv
  obtain ⟨X2, hX2⟩ : ∃ X, X = (w2.alloc (.cells #[.bool (Pr.toR 98 97).start, .bool (Pr.toR 98 97).fin, .slice bo2 (Pr.toR 98 97).before.length bc2, .slice so2 (Pr.toR 98 97).source.length sc2, .slice ao2 (Pr.toR 98 97).after.length ac2, .slice to2 (Pr.toR 98 97).target.length tc2, .int .i64 (Pr.toR 98 97).cursor] 48)).alloc (.cells #[.int .i32 97, .int .i32 97] 57) := ⟨_, rfl⟩
  have k2 := K.two_boxes (w := w2) (Below.refl _ ((w2.alloc (.cells #[.bool (Pr.toR 98 97).start, .bool (Pr.toR 98 97).fin, .slice bo2 (Pr.toR 98 97).before.length bc2, .slice so2 (Pr.toR 98 97).source.length sc2, .slice ao2 (Pr.toR 98 97).after.length ac2, .slice to2 (Pr.toR 98 97).target.length tc2, .int .i64 (Pr.toR 98 97).cursor] 48)).alloc (.cells #[.int .i32 97, .int .i32 97] 57)))
  rw [← hX2] at k2
  have HB2 : Hid (Below w.heap.size w X2) := (HR1.out.2.trans (b2.mono HR1.out.2.size)).trans (k2.2.2.1.mono (HR1.out.2.trans (b2.mono HR1.out.2.size)).size)
  have HS := pSure_any X2 _ _ [Pr.toR 97 98] [Pr.toR 98 97] ((HR1.out.1.below b2).below k2.2.2.1) (Pr.row1 k2.1 (R2.below k2.2.2.1)) _ [(97, 97)] (Pr.span1 k2.2.1) Pr.fit1
  rw [Pr.sure_yes] at HS
  clear R2 b2 k2 HR1
  go_wp2_with fail
  rw [← hX2]
  refine HS.mono ?_
  clear HS hX2
  rintro e w3 ⟨rfl, b3⟩
  have HB3 : Hid (Below w.heap.size w w3) := HB2.out.trans (b3.mono HB2.out.size)
  clear b3 HB2
  go_wp2_with fail
  refine (to_any w3 97 98 ⟨#[98]⟩ (by kernel_rfl) (by decide)).mono ?_
  rintro e w4 ⟨v4, rfl, R4, b4⟩
  obtain ⟨bo4, bc4, so4, sc4, ao4, ac4, to4, tc4, hv, _⟩ := id R4
  subst hv
  obtain ⟨X4, hX4⟩ : ∃ X, X = (w4.alloc (.cells #[.bool (Pr.toR 97 98).start, .bool (Pr.toR 97 98).fin, .slice bo4 (Pr.toR 97 98).before.length bc4, .slice so4 (Pr.toR 97 98).source.length sc4, .slice ao4 (Pr.toR 97 98).after.length ac4, .slice to4 (Pr.toR 97 98).target.length tc4, .int .i64 (Pr.toR 97 98).cursor] 48)).alloc (.cells #[.int .i32 97, .int .i32 97] 57) := ⟨_, rfl⟩
  have k4 := K.two_boxes (w := w4) (Below.refl _ ((w4.alloc (.cells #[.bool (Pr.toR 97 98).start, .bool (Pr.toR 97 98).fin, .slice bo4 (Pr.toR 97 98).before.length bc4, .slice so4 (Pr.toR 97 98).source.length sc4, .slice ao4 (Pr.toR 97 98).after.length ac4, .slice to4 (Pr.toR 97 98).target.length tc4, .int .i64 (Pr.toR 97 98).cursor] 48)).alloc (.cells #[.int .i32 97, .int .i32 97] 57)))
  rw [← hX4] at k4
  have HB4 : Hid (Below w.heap.size w X4) := (HB3.out.trans (b4.mono HB3.out.size)).trans (k4.2.2.1.mono (HB3.out.trans (b4.mono HB3.out.size)).size)
  have HS := pSure_any X4 _ _ [Pr.toR 97 98] [] (Pr.row1 k4.1 (R4.below k4.2.2.1)) (V.Rus.nil _) _ [(97, 97)] (Pr.span1 k4.2.1) Pr.fit1
  rw [Pr.sure_no] at HS
  clear R4 b4 k4
  go_wp2_with fail
  rw [← hX4]
  refine HS.mono ?_
  clear HS hX4
  rintro e w5 ⟨rfl, b5⟩
  have HB5 : Hid (Below w.heap.size w w5) := HB4.out.trans (b5.mono HB4.out.size)
  clear b5
  go_wp2
  go_ret
  exact ⟨rfl, HB5.out⟩

end Go.Proofs.Ytkkocnkfdepoiaa
