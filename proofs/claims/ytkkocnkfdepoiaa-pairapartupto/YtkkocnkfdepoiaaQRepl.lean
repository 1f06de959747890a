/-
  What slices.Replace makes of a text of the call's own.
-/
import Derived.Test.YtkkocnkfdepoiaaQRow
import Derived.BigRegion
import Derived.RegionTactic
import Derived.Deep.Upon
import Derived.ArgAppend
namespace Go.Proofs.Ytkkocnkfdepoiaa
open Go.RowKit Go.Lib
set_option maxRecDepth 20000
set_option linter.unusedSimpArgs false
set_option linter.unusedVariables false

namespace K
/-- a text in a row of its own -/
def OwnT (w : World) (g cap : Nat) (T : List Int) : Prop := ∃ cur, Row w g cur ∧ cur.length = cap ∧ T.length ≤ cap ∧ cap ≤ maxLen ∧ cur.take T.length = ints T
theorem slice_mid (xo : Option Addr) (N xc i j : Nat) (h : i ≤ j) (hj : j ≤ xc) (w' : World) : (Instr.slice 28 (.slice xo N xc) (some (.int .i64 (i : Int))) (some (.int .i64 (j : Int))) none).run Try.prog w' = .ok (.slice (if xc = i then xo else Option.map (fun x => x.add i) xo) (j - i) (xc - i)) w' := by
  have a1 : (i : Int) ≤ j := by omega
  have a2 : (j : Int) ≤ xc := by omega
  have a0 : (0 : Int) ≤ i := by omega
  have a3 : (0 : Int) ≤ j := by omega
  go_simp

/-- append in place -/
theorem Row.app {w : World} {g : Nat} {cur : List Value} (h : Row w g cur) (i : Nat) (vr : Value) (R : List Int) (hR : L.Rd w vr .i32 R) (hfit : i + R.length ≤ cur.length) :
    ∃ W, (∀ ty, (Builtin.append_ #[28, 28] ty #[.slice (some ⟨g, 0, none⟩) i cur.length, vr]).run Try.prog w = .ok (.slice (some ⟨g, 0, none⟩) (i + R.length) cur.length) W) ∧ Row W g (spl cur i (ints R)) ∧ w.grownBy W (some g) := by
  obtain ⟨i0, hi, hz0, hz1, hz2⟩ := info_parts Try.infoI32
  obtain ⟨ao, c, rfl, hn, hc⟩ := hR
  by_cases h0 : R = []
  · subst h0
    refine ⟨w, fun ty => ?_, by simpa [spl, ints] using h, ⟨rfl, rfl, rfl, Nat.le_refl _, fun _ _ _ => rfl⟩⟩
    have := Go.run_append_nothing (P := Try.prog) w _ _ ty 21 i0 Try.underlying28 hi (some ⟨g, 0, none⟩) i cur.length (by simpa using hfit) (.slice ao 0 c) (by
      cases ao with
      | none => exact Go.Src.ofNil w Try.underlying28 c
      | some ad => exact Go.Src.ofSlice w Try.underlying28 ad 0 c [] (by simp) (fun j u h => by simp at h) (fun u h => by simp at h))
    simpa using this
  · obtain ⟨b, off, rfl, hcell⟩ := hc h0
    refine ⟨_, fun ty => ?_, h.set (spl cur i (ints R)), grown_set _ _ _⟩
    have := run_append_room (P := Try.prog) w 28 ty 21 i0 Try.underlying28 hi g i cur.length _ h ⟨b, off, none⟩ R.length c (ints R) (by rw [ints_length, hz1]; omega) (fun j u hj => by
      obtain ⟨z, hz, rfl⟩ := ints_get hj
      rw [L.addr_add]; exact hcell j z hz) (ints_one R) hfit (by rw [hz1, ints_length]; simpa using hfit)
    simpa [hz1, spl] using this
end K

set_option maxHeartbeats 4000000 in
theorem repl_end (w : World) (g : Nat) (cur : List Value) (h : K.Row w g cur) (T : List Int) (hT : T.length ≤ cur.length) (hcap : cur.length ≤ maxLen) (hcur : cur.take T.length = K.ints T) (h4 : T.length ≤ 4000) (i : Nat) (hi : i < T.length) (vr : Value) (R : List Int) (hR : L.Rd w vr .i32 R) (hm : R.length ≤ 20) (hfit : i + R.length ≤ cur.length) :
    Calls Try.prog 70 #[.slice (some ⟨g, 0, none⟩) T.length cur.length, .int .i64 (i : Int), .int .i64 (T.length : Int), vr] w fun e w' => e = .returned (.slice (some ⟨g, 0, none⟩) (i + R.length) cur.length) ∧ K.OwnT w' g cur.length (T.take i ++ R) ∧ w.grownBy w' (some g) := by
  obtain ⟨W1, hrun1, row1, gr1⟩ := h.app i vr R hR hfit
  have hsp : (K.spl cur i (K.ints R)).length = cur.length := K.spl_length (by rw [K.ints_length]; omega)
  have hT' : (T.take i ++ R).length = i + R.length := by simp; omega
  have hspt : (K.spl cur i (K.ints R)).take (i + R.length) = K.ints (T.take i ++ R) := by
    have h1 := K.spl_upto (cur := cur) (o := i) (vs := K.ints R) (by omega)
    rw [K.ints_length] at h1
    rw [h1]
    unfold K.ints
    rw [List.map_append, List.map_take]
    have h2 : cur.take i = (cur.take T.length).take i := by rw [List.take_take, Nat.min_eq_left (by omega)]
    rw [h2, hcur]; rfl
  have hs0 := K.slice_mid (some ⟨g, 0, none⟩) T.length cur.length i T.length (by omega) hT
  have hs1 := K.slice_upto (some ⟨g, 0, none⟩) T.length cur.length i (by omega)
  unfold maxLen at hcap
  obtain ⟨ao, c, rfl, _⟩ := hR
  have HH : Hid (K.Row W1 g (K.spl cur i (K.ints R)) ∧ w.grownBy W1 (some g) ∧ (K.spl cur i (K.ints R)).take (i + R.length) = K.ints (T.take i ++ R) ∧ (K.spl cur i (K.ints R)).length = cur.length) := ⟨row1, gr1, hspt, hsp⟩
  by_cases hlt : i + R.length < T.length
  · obtain ⟨W2, hrun2, row2, gr2⟩ := row1.clear (i + R.length) (T.length - (i + R.length)) (cur.length - (i + R.length)) (by omega) (by rw [hsp]; omega)
    have hs2 := K.slice_from (some ⟨g, 0, none⟩) T.length cur.length (i + R.length) (by omega) hT
    rw [if_neg (by omega), Option.map_some, L.addr_add, Nat.zero_add] at hs2
    have hne : ¬ (i : Int) = T.length := by omega
    have HF : Hid (K.OwnT W2 g cur.length (T.take i ++ R) ∧ w.grownBy W2 (some g)) := by
      refine ⟨⟨_, row2, by rw [K.spl_length (by rw [hsp]; simp; omega)]; exact hsp, by rw [hT']; omega, by unfold maxLen; omega, ?_⟩, S.grown_trans gr1 gr2⟩
      rw [hT', K.spl_take (by rw [hsp]; omega)]
      exact hspt
    clear row1 gr1 hspt hsp row2 gr2 HH h hcur
    go_enter Try.func70, Try.ntmps70
    go_wp2_with (at_builtin; first | refine Lib.wpList_append_run _ rfl _ _ _ _ rfl _ _ rfl rfl _ _ (hrun1 _) ?_ | refine K.wpl_clear _ rfl _ _ rfl _ rfl (hrun2 _) ?_)
    go_ret
    exact ⟨rfl, HF.out⟩
  · have hne : ¬ (i : Int) = T.length := by omega
    have HF : Hid (K.OwnT W1 g cur.length (T.take i ++ R) ∧ w.grownBy W1 (some g)) := ⟨⟨_, row1, hsp, by rw [hT']; omega, by unfold maxLen; omega, by rw [hT']; exact hspt⟩, gr1⟩
    clear row1 gr1 hspt hsp HH h hcur
    go_enter Try.func70, Try.ntmps70
    go_wp2_with (at_builtin; first | refine Lib.wpList_append_run _ rfl _ _ _ _ rfl _ _ rfl rfl _ _ (hrun1 _) ?_)
    go_ret
    exact ⟨rfl, HF.out⟩

/-- the same, where there is no room -/
theorem K.own_take {w : World} {B g : Nat} {cur : List Value} (h : K.Row w g cur) (hB : B ≤ g) {T : List Int} (hT : T.length ≤ cur.length) (hcap : cur.length ≤ maxLen) (hcur : cur.take T.length = K.ints T) {i : Nat} (hi : i ≤ T.length) : w.ownsRow B 21 1 (.slice (some ⟨g, 0, none⟩) i cur.length) i (K.ints (T.take i)) := by
  refine ⟨by rw [K.ints_length]; simp; omega, .inr ⟨g, cur.length, cur.toArray, rfl, hB, h, by omega, hcap, by simp, ?_⟩⟩
  have h2 : cur.take i = (cur.take T.length).take i := by rw [List.take_take, Nat.min_eq_left (by omega)]
  rw [Nat.mul_one, show cur.toArray.toList = cur from rfl, h2, hcur]
  unfold K.ints
  rw [List.map_take]

set_option maxHeartbeats 4000000 in
theorem repl_end2 (w : World) (B g : Nat) (hBg : B ≤ g) (cur : List Value) (h : K.Row w g cur) (T : List Int) (hT : T.length ≤ cur.length) (hcap : cur.length ≤ maxLen) (hcur : cur.take T.length = K.ints T) (h4 : T.length ≤ 4000) (i : Nat) (hi : i < T.length) (vr : Value) (R : List Int) (hR : L.Rd w vr .i32 R) (hm : R.length ≤ 20) (hfit : cur.length < i + R.length) :
    Calls Try.prog 70 #[.slice (some ⟨g, 0, none⟩) T.length cur.length, .int .i64 (i : Int), .int .i64 (T.length : Int), vr] w fun e w' => ∃ g' cap', e = .returned (.slice (some ⟨g', 0, none⟩) (i + R.length) cap') ∧ w.heap.size ≤ g' ∧ K.OwnT w' g' cap' (T.take i ++ R) ∧ w.grownBy w' (some g) := by
  obtain ⟨i0, hi0, hz0, hz1, hz2⟩ := info_parts Try.infoI32
  obtain ⟨ao, c, rfl, _, hc⟩ := hR
  obtain ⟨b, off, rfl, hcell⟩ := hc (by intro h; subst h; simp at hfit; omega)
  have hT' : (T.take i ++ R).length = i + R.length := by simp; omega
  obtain ⟨v', W1, hrun1, own1, gr0⟩ := run_append_arg_grows (P := Try.prog) w 28 0 21 i0 (.int .i32 0) 1 4 Try.underlying28 hi0 hz0 hz1 hz2 rfl (by decide) ⟨g, 0, none⟩ i cur.length (K.ints (T.take i)) (by rw [K.ints_length, List.length_take]; omega) (fun j u hj => by
      obtain ⟨z, hz, rfl⟩ := K.ints_get hj
      have hjl : j < i := by have := (List.getElem?_eq_some_iff.1 hz).1; rw [List.length_take] at this; omega
      rw [L.addr_add, Nat.zero_add, h.cell]
      have e : cur[j]? = (cur.take T.length)[j]? := by rw [List.getElem?_take, if_pos (by omega)]
      rw [e, hcur]
      unfold K.ints
      rw [List.getElem?_take, if_pos hjl] at hz
      rw [List.getElem?_map, hz]; rfl) ⟨b, off, none⟩ R.length c (K.ints R) (by rw [K.ints_length]; omega) (fun j u hj => by
      obtain ⟨z, hz, rfl⟩ := K.ints_get hj
      rw [L.addr_add]; exact hcell j z hz) (by omega) (by unfold maxLen; omega) (by omega)
  have gr1 : w.grownBy W1 (some g) := ⟨gr0.os, gr0.tape, gr0.output, gr0.size, fun k hk _ => gr0.block k hk (by simp)⟩
  obtain ⟨g', cap', cur', rfl, hB', hg', hle, hmax, hsz, htk⟩ : ∃ g' cap' cur', v' = .slice (some ⟨g', 0, none⟩) (i + R.length) cap' ∧ w.heap.size ≤ g' ∧ W1.heap[g']? = some (.cells cur' 21 (0, 0)) ∧ i + R.length ≤ cap' ∧ cap' ≤ maxLen ∧ cur'.size = cap' * 1 ∧ cur'.toList.take ((i + R.length) * 1) = K.ints (T.take i) ++ K.ints R := by
    rcases own1.2 with ⟨_, h0⟩ | h
    · omega
    · exact h
  have hty : ∀ ty, (Builtin.append_ #[28, 28] ty #[.slice (some ⟨g, 0, none⟩) i cur.length, .slice (some ⟨b, off, none⟩) R.length c]).run Try.prog w = .ok (.slice (some ⟨g', 0, none⟩) (i + R.length) cap') W1 := fun ty => hrun1
  have HF : Hid (w.heap.size ≤ g' ∧ K.OwnT W1 g' cap' (T.take i ++ R) ∧ w.grownBy W1 (some g)) := by
    refine ⟨hB', ⟨cur'.toList, by simpa [K.Row] using hg', by simpa using hsz, by rw [hT']; exact hle, hmax, ?_⟩, gr1⟩
    rw [hT', ← Nat.mul_one (i + R.length), htk]
    unfold K.ints
    rw [List.map_append]
  have hs0 := K.slice_mid (some ⟨g, 0, none⟩) T.length cur.length i T.length (by omega) hT
  have hs1 := K.slice_upto (some ⟨g, 0, none⟩) T.length cur.length i (by omega)
  have hne : ¬ (i : Int) = T.length := by omega
  have hlt : ¬ (i : Int) + R.length < T.length := by omega
  unfold maxLen at hcap
  clear hc hcell own1 gr1 hg' hsz htk hrun1 h hcur hB'
  go_enter Try.func70, Try.ntmps70
  go_wp2_with (at_builtin; first | refine Lib.wpList_append_run _ rfl _ _ _ _ rfl _ _ rfl rfl _ _ (hty _) ?_)
  go_ret
  exact ⟨g', cap', rfl, HF.out⟩

end Go.Proofs.Ytkkocnkfdepoiaa
