/-
  What slices.Replace makes of a text of the call's own, where something stands behind.
-/
import Derived.Test.YtkkocnkfdepoiaaQRepl
import Derived.Deep.QuietTactic
import Derived.BigQuiet
namespace Go.Proofs.Ytkkocnkfdepoiaa
open Go.RowKit Go.Lib
set_option maxRecDepth 20000
set_option linter.unusedSimpArgs false
set_option linter.unusedVariables false

namespace K
/-- copy of a slice of runes into the row -/
theorem Row.copyR {w : World} {g : Nat} {cur : List Value} (h : Row w g cur) (o dl dc : Nat) (vr : Value) (R : List Int) (hR : L.Rd w vr .i32 R) (hd : R.length ≤ dl) (hfit : o + R.length ≤ cur.length) :
    ∃ W, (∀ ty, (Builtin.copy_ #[28, 28] ty #[.slice (some ⟨g, o, none⟩) dl dc, vr]).run Try.prog w = .ok (goInt R.length) W) ∧ Row W g (spl cur o (ints R)) ∧ w.grownBy W (some g) := by
  obtain ⟨ao, c, rfl, hn, hc⟩ := hR
  by_cases h0 : R = []
  · subst h0
    exact ⟨w, fun ty => copy_nothing w _ _ _ _ _ ty, by simpa [spl, ints] using h, ⟨rfl, rfl, rfl, Nat.le_refl _, fun _ _ _ => rfl⟩⟩
  · obtain ⟨b, off, rfl, hcell⟩ := hc h0
    obtain ⟨W, h1, h2, h3⟩ := h.copy o dl dc ⟨b, off, none⟩ R.length c (ints R) (by rw [ints_length, Nat.min_eq_left hd]) (fun j u hj => by
      obtain ⟨z, hz, rfl⟩ := ints_get hj
      rw [L.addr_add]; exact hcell j z hz) (by rw [ints_length]; exact hfit) (ints_one R)
    exact ⟨W, fun ty => by rw [h1 ty, ints_length], h2, h3⟩
theorem clear0 (w : World) (ao : Option Addr) (c : Nat) (ty : TypeId) : (Builtin.clear_ #[28] ty #[.slice ao 0 c]).run Try.prog w = .ok (.tuple #[]) w := by
  obtain ⟨i0, hi, hz0, hz1, hz2⟩ := info_parts Try.infoI32
  have hv : ∀ w, (zeroValue 21).run Try.prog w = .ok (.int .i32 0) w := fun w => by simp [zeroValue, typeInfo, hi, hz0]
  cases ao <;> simp [Builtin.clear_, run_underlying Try.underlying28, hv, Builtin.zeroCells, storeCells]
/-- the text behind, read in a row that keeps it -/
theorem Row.rdBehind {w : World} {g : Nat} {cur : List Value} (h : Row w g cur) {T : List Int} {j D c : Nat} (hN : T.length = j + D) (hd : ∀ k, k < D → cur[j + k]? = (ints T)[j + k]?) : L.Rd w (.slice (some ⟨g, j, none⟩) D c) .i32 (T.drop j) := by
  refine ⟨some ⟨g, j, none⟩, c, (by rw [List.length_drop, hN]; congr 1; omega), (fun e => by cases e), fun _ => ⟨g, j, rfl, fun k z hk => ?_⟩⟩
  have hlt : k < D := by
    have := (List.getElem?_eq_some_iff.1 hk).1
    rw [List.length_drop] at this; omega
  rw [h.cell, hd k hlt]
  rw [List.getElem?_drop] at hk
  unfold ints
  rw [List.getElem?_map, hk]; rfl
theorem grown_drew (w : World) (r : Option Nat) : w.grownBy w.drew r := ⟨rfl, rfl, rfl, Nat.le_refl _, fun _ _ _ => rfl⟩
end K

set_option maxHeartbeats 8000000 in
theorem repl_in (w : World) (g : Nat) (cur : List Value) (h : K.Row w g cur) (T : List Int) (hT : T.length ≤ cur.length) (hcap : cur.length ≤ maxLen) (hcur : cur.take T.length = K.ints T) (h4 : T.length ≤ 4000) (i j D : Nat) (hi : i < j) (hN : T.length = j + D) (hD : 0 < D) (vr : Value) (R : List Int) (hR : ∀ w', w.grownBy w' (some g) → L.Rd w' vr .i32 R) (hfit : i + R.length ≤ j) :
    Calls Try.prog 70 #[.slice (some ⟨g, 0, none⟩) T.length cur.length, .int .i64 (i : Int), .int .i64 (j : Int), vr] w fun e w' => e = .returned (.slice (some ⟨g, 0, none⟩) (i + R.length + D) cur.length) ∧ K.OwnT w' g cur.length (T.take i ++ R ++ T.drop j) ∧ w.grownBy w' (some g) := by
  have hgetT : ∀ k, k < T.length → cur[k]? = (K.ints T)[k]? := fun k hk => by rw [← hcur, List.getElem?_take, if_pos hk]
  have gr0 : w.grownBy w.drew (some g) := K.grown_drew w _
  obtain ⟨W1, hrun1, row1, gr1⟩ := h.drew.copyR i (i + R.length + D - i) (cur.length - i) vr R (hR _ gr0) (by omega) (by omega)
  have hsp1 : (K.spl cur i (K.ints R)).length = cur.length := K.spl_length (by rw [K.ints_length]; omega)
  have hRd : L.Rd W1.drew (.slice (some ⟨g, j, none⟩) D (cur.length - j)) .i32 (T.drop j) := row1.drew.rdBehind hN fun k hk => by
    have e : (K.spl cur i (K.ints R)).drop j = cur.drop j := K.spl_drop (by omega) (by rw [K.ints_length]; omega)
    have e2 := congrArg (fun l : List Value => l[k]?) e
    simp only [List.getElem?_drop] at e2
    rw [e2]
    exact hgetT _ (by omega)
  obtain ⟨W2, hrun2, row2, gr2⟩ := row1.drew.copyR (i + R.length) D (cur.length - (i + R.length)) _ (T.drop j) hRd (by rw [List.length_drop]; omega) (by rw [List.length_drop, hsp1]; omega)
  have hdl : (T.drop j).length = D := by rw [List.length_drop]; omega
  have hsp2 : (K.spl (K.spl cur i (K.ints R)) (i + R.length) (K.ints (T.drop j))).length = cur.length := by rw [K.spl_length (by rw [K.ints_length, hdl, hsp1]; omega)]; exact hsp1
  have htk : (K.spl (K.spl cur i (K.ints R)) (i + R.length) (K.ints (T.drop j))).take (i + R.length + D) = K.ints (T.take i ++ R ++ T.drop j) := by
    have e1 := K.spl_upto (cur := K.spl cur i (K.ints R)) (o := i + R.length) (vs := K.ints (T.drop j)) (by rw [hsp1]; omega)
    have e2 := K.spl_upto (cur := cur) (o := i) (vs := K.ints R) (by omega)
    rw [K.ints_length, hdl] at e1
    rw [K.ints_length] at e2
    rw [e1, e2]
    have h2 : cur.take i = (cur.take T.length).take i := by rw [List.take_take, Nat.min_eq_left (by omega)]
    rw [h2, hcur]
    unfold K.ints
    rw [List.map_append, List.map_append, List.map_take]
  have hT' : (T.take i ++ R ++ T.drop j).length = i + R.length + D := by simp; omega
  rw [hdl] at hrun2
  have hs0 := K.slice_mid (some ⟨g, 0, none⟩) T.length cur.length i j (by omega) (by omega)
  have hs1 := K.slice_upto (some ⟨g, 0, none⟩) T.length cur.length i (by omega)
  have hsj := K.slice_from (some ⟨g, 0, none⟩) T.length cur.length j (by omega) hT
  rw [if_neg (by omega), Option.map_some, L.addr_add, Nat.zero_add, show T.length - j = D by omega] at hsj
  have hstot := K.slice_upto (some ⟨g, 0, none⟩) T.length cur.length (i + R.length + D) (by omega)
  have hri := K.slice_from (some ⟨g, 0, none⟩) (i + R.length + D) cur.length i (by omega) (by omega)
  rw [if_neg (by omega), Option.map_some, L.addr_add, Nat.zero_add] at hri
  have hrim := K.slice_from (some ⟨g, 0, none⟩) (i + R.length + D) cur.length (i + R.length) (by omega) (by omega)
  rw [if_neg (by omega), Option.map_some, L.addr_add, Nat.zero_add, show i + R.length + D - (i + R.length) = D by omega] at hrim
  have gr02 : w.grownBy W2 (some g) := S.grown_trans (S.grown_trans gr0 gr1) (S.grown_trans (K.grown_drew _ _) gr2)
  have hne : ¬ (i : Int) = j := by omega
  have hne2 : ¬ (j : Int) = T.length := by omega
  obtain ⟨ao, c, rfl, _⟩ := hR w ⟨rfl, rfl, rfl, Nat.le_refl _, fun _ _ _ => rfl⟩
  unfold maxLen at hcap
  have HF0 : Hid (K.Row W2 g (K.spl (K.spl cur i (K.ints R)) (i + R.length) (K.ints (T.drop j))) ∧ (K.spl (K.spl cur i (K.ints R)) (i + R.length) (K.ints (T.drop j))).take (i + R.length + D) = K.ints (T.take i ++ R ++ T.drop j) ∧ w.grownBy W2 (some g)) := ⟨row2, htk, gr02⟩
  have hN1 : T.length ≤ j + D := by omega
  have hN2 : j + D ≤ T.length := by omega
  clear hgetT row1 gr0 gr1 gr2 gr02 htk h hcur hR hRd hdl hN
  by_cases hlt : i + R.length + D < T.length
  · obtain ⟨W3, hrun3, row3, gr3⟩ := row2.clear (i + R.length + D) (T.length - (i + R.length + D)) (cur.length - (i + R.length + D)) (by omega) (by rw [hsp2]; omega)
    have hclr := K.slice_from (some ⟨g, 0, none⟩) T.length cur.length (i + R.length + D) (by omega) hT
    rw [if_neg (by omega), Option.map_some, L.addr_add, Nat.zero_add] at hclr
    have HF : Hid (K.OwnT W3 g cur.length (T.take i ++ R ++ T.drop j) ∧ w.grownBy W3 (some g)) := by
      refine ⟨⟨_, row3, by rw [K.spl_length (by rw [hsp2]; simp; omega)]; exact hsp2, by rw [hT']; omega, by unfold maxLen; omega, ?_⟩, S.grown_trans HF0.out.2.2 gr3⟩
      rw [hT', K.spl_take (by rw [hsp2]; omega)]
      exact HF0.out.2.1
    clear row2 row3 gr3 hsp1 hsp2 HF0
    go_enter Try.func70, Try.ntmps70
    go_wp2
    go_region
    go_wp2_with (at_builtin; first | refine K.wpl_copy _ rfl _ _ _ _ rfl _ _ rfl rfl (hrun1 _) ?_)
    clear hrun1
    go_region
    clear hrun2
    go_wp2_with (at_builtin; first | refine K.wpl_clear _ rfl _ _ rfl _ rfl (hrun3 _) ?_)
    go_ret
    exact ⟨rfl, HF.out⟩
  · have hfull : i + R.length + D = T.length := by omega
    have HF : Hid (K.OwnT W2 g cur.length (T.take i ++ R ++ T.drop j) ∧ w.grownBy W2 (some g)) := ⟨⟨_, row2, hsp2, by rw [hT']; omega, by unfold maxLen; omega, by rw [hT']; exact HF0.out.2.1⟩, HF0.out.2.2⟩
    have hrun3 := K.clear0 W2
    have hf1 : T.length ≤ i + R.length + D := by omega
    have hf2 : i + R.length + D ≤ T.length := by omega
    clear row2 hsp1 hsp2 HF0 hfull hlt
    go_enter Try.func70, Try.ntmps70
    go_wp2
    go_region
    go_wp2_with (at_builtin; first | refine K.wpl_copy _ rfl _ _ _ _ rfl _ _ rfl rfl (hrun1 _) ?_)
    clear hrun1
    go_region
    clear hrun2
    go_wp2_with (at_builtin; first | refine K.wpl_clear _ rfl _ _ rfl _ rfl (hrun3 _ _ _) ?_)
    all_goals
      go_ret
      have hh := HF.out
      first
        | exact ⟨rfl, hh⟩
        | (simp only [List.append_assoc] at hh; exact ⟨rfl, hh⟩)
        | (simp only [List.append_assoc] at hh; rw [show cur.length = i + R.length + D by assumption] at hh; exact ⟨rfl, hh⟩)

end Go.Proofs.Ytkkocnkfdepoiaa
