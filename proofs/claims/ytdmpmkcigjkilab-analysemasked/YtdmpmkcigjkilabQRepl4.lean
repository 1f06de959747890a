/-
  What slices.Replace makes of a text of the call's own, where there is no room.
-/
import Derived.Test.YtdmpmkcigjkilabQRepl3
namespace Go.Proofs.Ytdmpmkcigjkilab
open Go.RowKit Go.Lib
set_option maxRecDepth 20000
set_option linter.unusedSimpArgs false
set_option linter.unusedVariables false

set_option maxHeartbeats 8000000 in
theorem repl_grow (w : World) (B g : Nat) (hBg : B ≤ g) (cur : List Value) (h : K.Row w g cur) (T : List Int) (hT : T.length ≤ cur.length) (hcap : cur.length ≤ maxLen) (hcur : cur.take T.length = K.ints T) (h4 : T.length ≤ 4000) (i j D : Nat) (hi : i < j) (hN : T.length = j + D) (hD : 0 < D) (vr : Value) (R : List Int) (hR : ∀ w', w.grownBy w' (some g) → L.Rd w' vr .i32 R) (hR2 : ∀ w', w.grownBy w' (some w.heap.size) → L.Rd w' vr .i32 R) (hfit : cur.length < i + R.length + D) (hm : R.length ≤ 20) :
    Calls Try.prog 61 #[.slice (some ⟨g, 0, none⟩) T.length cur.length, .int .i64 (i : Int), .int .i64 (j : Int), vr] w fun e w' => ∃ g' cap', e = .returned (.slice (some ⟨g', 0, none⟩) (i + R.length + D) cap') ∧ B ≤ g' ∧ K.OwnT w' g' cap' (T.take i ++ R ++ T.drop j) ∧ w.grownBy w' (some g) := by
  have hgetT : ∀ k, k < T.length → cur[k]? = (K.ints T)[k]? := fun k hk => by rw [← hcur, List.getElem?_take, if_pos hk]
  have hdl : (T.drop j).length = D := by rw [List.length_drop]; omega
  obtain ⟨cap', cur', W0, hrun0, row0, hl0, hp0, hle0, hmax0, gr0⟩ := K.grow_zeros w.drew g cur h.drew i (R.length + D) (by omega) (by omega) (by omega) (by omega)
  have row0 : K.Row W0 w.heap.size cur' := row0
  have hbl : ∀ X, w.grownBy X (some w.heap.size) → ∀ Y, X.grownBy Y (some w.heap.size) → w.grownBy Y (some w.heap.size) := fun X h1 Y h2 => S.grown_trans h1 h2
  have gw0 : w.grownBy W0 (some w.heap.size) := ⟨gr0.os, gr0.tape, gr0.output, gr0.size, fun k hk hne => gr0.block k hk (by simp)⟩
  obtain ⟨W1, hrun1, row1, gr1⟩ := row0.copyR i (i + R.length + D - i) (cap' - i) vr R (hR2 _ gw0) (by omega) (by omega)
  have hsp1 : (K.spl cur' i (K.ints R)).length = cap' := by rw [K.spl_length (by rw [K.ints_length]; omega)]; exact hl0
  have gw1 : w.grownBy W1 (some w.heap.size) := S.grown_trans gw0 gr1
  have hRow : K.Row W1.drew g cur := h.block (gw1.block g h.lt (by have := h.lt; simp; omega))
  obtain ⟨W2, hrun2, row2, gr2⟩ := row1.drew.copyR (i + R.length) D (cap' - (i + R.length)) (.slice (some ⟨g, j, none⟩) D (cur.length - j)) (T.drop j) (hRow.rdBehind hN fun k hk => hgetT _ (by omega)) (by rw [hdl]; omega) (by rw [hdl, hsp1]; omega)
  have gw2 : w.grownBy W2 (some w.heap.size) := S.grown_trans gw1 (S.grown_trans (K.grown_drew _ _) gr2)
  have hsp2 : (K.spl (K.spl cur' i (K.ints R)) (i + R.length) (K.ints (T.drop j))).length = cap' := by rw [K.spl_length (by rw [K.ints_length, hdl, hsp1]; omega)]; exact hsp1
  have htk : (K.spl (K.spl cur' i (K.ints R)) (i + R.length) (K.ints (T.drop j))).take (i + R.length + D) = K.ints (T.take i ++ R ++ T.drop j) := by
    have e1 := K.spl_upto (cur := K.spl cur' i (K.ints R)) (o := i + R.length) (vs := K.ints (T.drop j)) (by rw [hsp1]; omega)
    have e2 := K.spl_upto (cur := cur') (o := i) (vs := K.ints R) (by omega)
    rw [K.ints_length, hdl] at e1
    rw [K.ints_length] at e2
    rw [e1, e2, hp0]
    have h2 : cur.take i = (cur.take T.length).take i := by rw [List.take_take, Nat.min_eq_left (by omega)]
    rw [h2, hcur]
    unfold K.ints
    rw [List.map_append, List.map_append, List.map_take]
  have hT' : (T.take i ++ R ++ T.drop j).length = i + R.length + D := by simp; omega
  rw [hdl] at hrun2
  have HF : Hid (B ≤ w.heap.size ∧ K.OwnT W2 w.heap.size cap' (T.take i ++ R ++ T.drop j) ∧ w.grownBy W2 (some g)) := by
    refine ⟨by have := h.lt; omega, ⟨_, row2, hsp2, by rw [hT']; omega, hmax0, by rw [hT']; exact htk⟩, gw2.os, gw2.tape, gw2.output, gw2.size, fun k hk _ => gw2.block k hk (by simp; omega)⟩
  have hs0 := K.slice_mid (some ⟨g, 0, none⟩) T.length cur.length i j (by omega) (by omega)
  have hs1 := K.slice_upto (some ⟨g, 0, none⟩) T.length cur.length i (by omega)
  have hsj := K.slice_from (some ⟨g, 0, none⟩) T.length cur.length j (by omega) hT
  rw [if_neg (by omega), Option.map_some, L.addr_add, Nat.zero_add, show T.length - j = D by omega] at hsj
  have hri := K.slice_from (some ⟨w.heap.size, 0, none⟩) (i + R.length + D) cap' i (by omega) (by omega)
  rw [if_neg (by omega), Option.map_some, L.addr_add, Nat.zero_add] at hri
  have hrim := K.slice_from (some ⟨w.heap.size, 0, none⟩) (i + R.length + D) cap' (i + R.length) (by omega) (by omega)
  rw [if_neg (by omega), Option.map_some, L.addr_add, Nat.zero_add, show i + R.length + D - (i + R.length) = D by omega] at hrim
  have hne : ¬ (i : Int) = j := by omega
  have hne2 : ¬ (j : Int) = T.length := by omega
  obtain ⟨ao, c, rfl, _⟩ := hR w ⟨rfl, rfl, rfl, Nat.le_refl _, fun _ _ _ => rfl⟩
  unfold maxLen at hcap hmax0
  have hN1 : T.length ≤ j + D := by omega
  have hN2 : j + D ≤ T.length := by omega
  clear hgetT row0 row1 row2 gr0 gw0 gr1 gw1 gr2 gw2 htk h hcur hR hR2 hdl hN hsp1 hsp2 hT' hRow hbl hp0 hl0
  rw [show w.drew.heap.size = w.heap.size from rfl] at hrun0
  have HX : Hid ((Builtin.append_ #[23, 3] 23 #[.slice (some ⟨g, 0, none⟩) i cur.length, .int .i64 ((i : Int) + R.length + D - i)]).run Try.prog w.drew = .ok (.slice (some ⟨w.heap.size, 0, none⟩) (i + R.length + D) cap') W0) := by
    have := hrun0 23
    rw [show (i : Int) + R.length + D - i = ((R.length + D : Nat) : Int) by omega, Nat.add_assoc]
    exact this
  go_enter Try.func61, Try.ntmps61
  go_wp2
  go_region
  go_wp2_with (at_builtin; first | refine Lib.wpList_append_run _ rfl _ _ _ _ rfl _ _ rfl rfl _ _ HX.out ?_ | refine K.wpl_copy _ rfl _ _ _ _ rfl _ _ rfl rfl (hrun1 _) ?_)
  clear hrun1 HX hrun0
  go_region
  clear hrun2
  go_wp2
  go_ret
  exact ⟨_, _, rfl, HF.out⟩

end Go.Proofs.Ytdmpmkcigjkilab
