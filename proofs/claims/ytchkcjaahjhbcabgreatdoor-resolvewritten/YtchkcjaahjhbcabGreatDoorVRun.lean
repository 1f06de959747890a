/-
  slices.Reverse of passes, whose row is one's own.
-/
import Derived.Test.YtchkcjaahjhbcabGreatDoorQBox
import Derived.BigRegion
import Derived.Test.YtchkcjaahjhbcabGreatDoorVStep
import Derived.Test.YtchkcjaahjhbcabGreatDoorVTurned
import Derived.Test.YtchkcjaahjhbcabGreatDoorRows
import Derived.Test.YtchkcjaahjhbcabGreatDoorSLib
import Derived.Deep.QuietTactic
import Derived.BigQuiet
namespace Go.Proofs.YtchkcjaahjhbcabGreatDoor
open Go.RowKit Go.Lib
set_option maxRecDepth 20000
set_option linter.unusedSimpArgs false
set_option linter.unusedVariables false

namespace V
abbrev PC := ByteArray × Option Addr × Nat × Nat
/-- a row of passes' cells in a block -/
def PRow (w : World) (g : Nat) (f : Nat → PC) (n : Nat) : Prop :=
  ∃ cur, w.heap[g]? = some (.cells cur 50) ∧ ∀ t, t < n → cur[t * 2]? = some (.string (f t).1) ∧ cur[t * 2 + 1]? = some (.slice (f t).2.1 (f t).2.2.1 (f t).2.2.2)
theorem PRow.at {w : World} {g : Nat} {f : Nat → PC} {n : Nat} (h : PRow w g f n) {t : Nat} (ht : t < n) : w.cell? ⟨g, t * 2, none⟩ = some (.string (f t).1) ∧ w.cell? ⟨g, t * 2 + 1, none⟩ = some (.slice (f t).2.1 (f t).2.2.1 (f t).2.2.2) := by
  obtain ⟨cur, hg, hc⟩ := h
  exact ⟨K.at_box hg (hc t ht).1, K.at_box hg (hc t ht).2⟩
theorem PRow.free {w : World} {g : Nat} {f : Nat → PC} {n : Nat} (h : PRow w g f n) (i : Nat) : w.frozen? ⟨g, i, none⟩ = false := by
  obtain ⟨cur, hg, hc⟩ := h
  exact frozen_of_row w g _ _ _ hg
theorem PRow.congr {w : World} {g : Nat} {f f' : Nat → PC} {n : Nat} (h : PRow w g f n) (he : ∀ t, t < n → f' t = f t) : PRow w g f' n := by
  obtain ⟨cur, hg, hc⟩ := h
  exact ⟨cur, hg, fun t ht => by rw [he t ht]; exact hc t ht⟩
theorem PRow.put {w : World} {g : Nat} {f : Nat → PC} {n : Nat} (h : PRow w g f n) {i : Nat} (hi : i < n) (x : PC) : PRow ((w.setCell ⟨g, i * 2, none⟩ (.string x.1)).setCell ⟨g, i * 2 + 1, none⟩ (.slice x.2.1 x.2.2.1 x.2.2.2)) g (fun t => if t = i then x else f t) n := by
  obtain ⟨cur, hg, hc⟩ := h
  have b1 := heap_setCell_same w g (i * 2) _ _ (.string x.1) hg
  have b2 := heap_setCell_same _ g (i * 2 + 1) _ _ (.slice x.2.1 x.2.2.1 x.2.2.2) b1
  have s0 := (Array.getElem?_eq_some_iff.1 (hc i hi).1).1
  have s1 := (Array.getElem?_eq_some_iff.1 (hc i hi).2).1
  refine ⟨_, b2, fun t ht => ?_⟩
  simp only [Array.getElem?_setIfInBounds, Array.size_setIfInBounds]
  by_cases e : t = i
  · subst e
    simp [s0, s1]
  · rw [if_neg e]
    rw [if_neg (by omega), if_neg (by omega), if_neg (by omega), if_neg (by omega)]
    exact hc t ht
theorem PRow.swap {w : World} {g : Nat} {f : Nat → PC} {n : Nat} (h : PRow w g f n) {i j : Nat} (hi : i < n) (hj : j < n) :
    PRow ((((w.setCell ⟨g, i * 2, none⟩ (.string (f j).1)).setCell ⟨g, i * 2 + 1, none⟩ (.slice (f j).2.1 (f j).2.2.1 (f j).2.2.2)).setCell ⟨g, j * 2, none⟩ (.string (f i).1)).setCell ⟨g, j * 2 + 1, none⟩ (.slice (f i).2.1 (f i).2.2.1 (f i).2.2.2)) g (fun t => if t = j then f i else if t = i then f j else f t) n := (h.put hi (f j)).put hj (f i)
theorem PRow.drew {w : World} {g : Nat} {f : Nat → PC} {n : Nat} (h : PRow w g f n) : PRow w.drew g f n := h
/-- all but one block as it was -/
def But (g : Nat) (w w' : World) : Prop := Below g w w' ∧ (∀ b, ¬ b = g → w'.heap[b]? = w.heap[b]?) ∧ w'.heap.size = w.heap.size
theorem But.set {g : Nat} {w w' : World} (h : But g w w') (i : Nat) (v : Value) : But g w (w'.setCell ⟨g, i, none⟩ v) := ⟨h.1.setCell (p := ⟨g, i, none⟩) (Nat.le_refl _) v, fun b hb => (heap_setCell_other w' ⟨g, i, none⟩ b v hb).trans (h.2.1 b hb), by simp [h.2.2]⟩
theorem But.drew {g : Nat} {w w' : World} (h : But g w w') : But g w w'.drew := ⟨h.1.drew, h.2⟩
end V

set_option maxHeartbeats 4000000 in
theorem reverse_some (w : World) (g n cap : Nat) (f : Nat → V.PC) (h : V.PRow w g f n) (hn : 0 < n) (hl : n ≤ 1000) :
    Calls Tryz.prog 28 #[.slice (some ⟨g, 0, none⟩) n cap] w fun e w' => e = .returned (.tuple #[]) ∧ V.PRow w' g (fun t => f (n - 1 - t)) n ∧ V.But g w w' := by
  have H0 : Hid (V.PRow w g f n) := h
  clear h
  go_enter Tryz.func28, Tryz.ntmps28
  go_wp2
  go_loopw [2, 3] (fun a b wr => ∃ i j : Nat, a = .int .i64 i ∧ b = .int .i64 j ∧ i + j + 1 = n ∧ i ≤ j + 1 ∧ Hid (V.PRow wr g (fun t => if t < i ∨ j < t then f (n - 1 - t) else f t) n ∧ V.But g w wr)) (fun a _ _ => n - (RowKit.intOf a).toNat)
  case atStart => exact ⟨0, n - 1, rfl, by congr 1; omega, by omega, by omega, H0.out.congr fun t ht => if_neg (by omega), Below.refl _ _, fun b _ => rfl, rfl⟩
  case round =>
    obtain ⟨i, j, rfl, rfl, hij, hle, HI⟩ := hrel
    by_cases hlt : i < j
    · obtain ⟨F, hF⟩ : ∃ F : Nat → V.PC, F = fun t => if t < i ∨ j < t then f (n - 1 - t) else f t := ⟨_, rfl⟩
      have hrow := HI.out.1
      rw [← hF] at hrow
      obtain ⟨i0, i1⟩ := hrow.at (t := i) (by omega)
      obtain ⟨j0, j1⟩ := hrow.at (t := j) (by omega)
      have fr : ∀ k, wr.frozen? ⟨g, k, none⟩ = false := fun k => hrow.free k
      have HS := hrow.swap (i := i) (j := j) (by omega) (by omega)
      have HN : Hid (∀ t, t < n → (if t < i + 1 ∨ j - 1 < t then f (n - 1 - t) else f t) = (if t = j then F i else if t = i then F j else F t)) := fun t ht => by
        have hv : ∀ x, F x = if x < i ∨ j < x then f (n - 1 - x) else f x := fun x => by rw [hF]
        by_cases e1 : t = j
        · rw [if_pos (by omega), if_pos e1, hv, if_neg (by omega)]
          congr 1; omega
        · by_cases e2 : t = i
          · rw [if_pos (by omega), if_neg e1, if_pos e2, hv, if_neg (by omega)]
            congr 1; omega
          · rw [if_neg e1, if_neg e2, hv]
            by_cases e3 : t < i ∨ j < t
            · rw [if_pos (by omega), if_pos e3]
            · rw [if_neg (by omega), if_neg e3]
      have HB : Hid (V.But g w wr) := HI.out.2
      generalize hfi : F i = fi at i0 i1 HS HN
      generalize hfj : F j = fj at j0 j1 HS HN
      obtain ⟨a1, a2, a3, a4⟩ := fi
      obtain ⟨b1, b2, b3, b4⟩ := fj
      simp only at i0 i1 j0 j1 HS HN
      have HS2 : Hid (V.PRow ((((wr.setCell ⟨g, i * 2, none⟩ (.string b1)).setCell ⟨g, i * 2 + 1, none⟩ (.slice b2 b3 b4)).setCell ⟨g, j * 2, none⟩ (.string a1)).setCell ⟨g, j * 2 + 1, none⟩ (.slice a2 a3 a4)) g (fun t => if t = j then (a1, a2, a3, a4) else if t = i then (b1, b2, b3, b4) else F t) n) := HS
      have hbl := L.block_lt i0
      clear HS hrow hF hfi hfj HI H0
      go_wp2_with fail
      go_region
      go_wp2
      go_roundw
      case rel => exact ⟨i + 1, j - 1, by go_num, by congr 1; omega, by omega, by omega, HS2.out.drew.congr HN.out, ((((HB.out.set _ _).set _ _).set _ _).set _ _).drew⟩
      case measure => simp [RowKit.intOf]; omega
    · clear H0
      go_wp2
      go_end0
      exact ⟨rfl, HI.out.1.congr fun t ht => by
        by_cases e : t < i ∨ j < t
        · rw [if_pos e]
        · rw [if_neg e]; congr 1; omega, HI.out.2⟩

set_option maxHeartbeats 1000000 in
theorem reverse_none (w : World) (ao : Option Addr) (cap : Nat) :
    Calls Tryz.prog 28 #[.slice ao 0 cap] w fun e w' => e = .returned (.tuple #[]) ∧ w' = w := by
  go_enter Tryz.func28, Tryz.ntmps28
  go_wp2
  go_loopw [2, 3] (fun a b wr => a = .int .i64 0 ∧ b = .int .i64 (-1) ∧ wr = w) (fun a _ _ => 0)
  case atStart => exact ⟨rfl, rfl, rfl⟩
  case round =>
    obtain ⟨rfl, rfl, rfl⟩ := hrel
    go_wp2
    go_end0
    exact ⟨rfl, rfl⟩

end Go.Proofs.YtchkcjaahjhbcabGreatDoor

/-
  Back.
-/
namespace Go.Proofs.YtchkcjaahjhbcabGreatDoor
open Go.RowKit Go.Lib
set_option maxRecDepth 20000
set_option linter.unusedSimpArgs false
set_option linter.unusedVariables false

set_option maxHeartbeats 1000000 in
theorem pclone_none (w : World) (ao : Option Addr) (cap : Nat) :
    Calls Tryz.prog 45 #[.slice ao 0 cap] w fun e w' => ∃ ao' cap', e = .returned (.slice ao' 0 cap') ∧ Below w.heap.size w w' := by
  obtain ⟨i0, hi, hz0, hz1, hz2⟩ := info_parts Tryz.vinfoPt
  have q22 : ∀ (w : World) (a : Option Addr) (n c n' c' : Nat), (binOp .eql 22 (.slice a n c) (.slice none n' c')).run Tryz.prog w = .ok (.bool a.isNone) w := fun w a n c n' c' => Lib.run_eql_slice_nil w _ _ a n c n' c' Tryz.underlying22
  cases ao with
  | none =>
    go_enter Tryz.func45, Tryz.ntmps45
    go_wp2
    go_ret
    exact ⟨_, _, rfl, Below.refl _ _⟩
  | some ad =>
    have OW : Hid ((w.alloc (.cells #[] 47)).ownsRow w.heap.size 47 16 (.slice (some ⟨w.heap.size, 0, none⟩) 0 0) 0 []) := World.ownsRow_made w #[] 0 (Nat.le_refl _) (Nat.zero_le _) (by simp)
    go_enter Tryz.func45, Tryz.ntmps45
    go_wp2_with (at_builtin; go_must (refine wpList_append_own _ rfl _ _ 22 rfl w.heap.size 47 i0 _ 16 232 Tryz.underlying22 hi hz0 hz1 hz2 rfl (by decide) _ _ _ rfl OW.out ad 0 cap [] rfl rfl (fun j u hj => by simp at hj) (fun u hu => by simp at hu) (by unfold maxLen; omega) (by omega) (by simp) ?_; intro v' w3 hown' hgrow3 hnil3))
    go_ret
    have hb := ((Below.refl _ w).alloc (Nat.le_refl _) (.cells #[] 47)).grown hgrow3 (by simp) (fun k hk => (OW.out.lt k hk).1)
    rcases hown'.2 with ⟨h1, _⟩ | ⟨g, cap', cur, hv, _⟩
    · exact ⟨⟨none, 0, by rw [h1]; rfl⟩, hb⟩
    · exact ⟨⟨some ⟨g, 0, none⟩, cap', by rw [hv]; rfl⟩, hb⟩

set_option maxHeartbeats 1000000 in
theorem turned_none (w : World) (ao : Option Addr) (cap : Nat) :
    Calls Tryz.prog 27 #[.slice ao 0 cap] w fun e w' => ∃ ao' cap', e = .returned (.slice ao' 0 cap') ∧ Below w.heap.size w w' := by
  have H := pclone_none w ao cap
  go_enter Tryz.func27, Tryz.ntmps27
  go_wp2_with fail
  refine H.mono ?_
  rintro e w1 ⟨ao', cap', rfl, b1⟩
  clear H
  go_wp2
  go_loopw [10] (fun i wr => i = .int .i64 0 ∧ wr = w1) (fun i _ => 0)
  case atStart => exact ⟨rfl, rfl⟩
  case round =>
    obtain ⟨rfl, rfl⟩ := hrel
    go_wp2
    go_ret
    exact ⟨_, _, rfl, b1⟩

theorem turned_any (w : World) (v : Value) (l : List R.Part) (R0 : R.Pts w v l) (hl : l.length ≤ 1000) :
    Calls Tryz.prog 27 #[v] w fun e w' => ∃ v', e = .returned v' ∧ R.Pts w' v' (l.map V.turn) ∧ Below w.heap.size w w' := by
  cases l with
  | nil =>
    obtain ⟨ao, cap, rfl, _⟩ := R0
    exact (turned_none w ao cap).mono fun e w' ⟨ao', cap', h1, h2⟩ => ⟨_, h1, ⟨ao', cap', rfl, fun h => absurd rfl h⟩, h2⟩
  | cons p l =>
    obtain ⟨ao, cap, e, hc⟩ := R0
    obtain ⟨b, off, rfl, _⟩ := hc (by simp)
    subst e
    exact turned_some w b off cap (p :: l) ⟨_, _, rfl, hc⟩ hl (by simp)

namespace V
theorem turn_ok {g : ByteArray → List S.Sp} (hg : ∀ s, S.Fit (g s)) {p : R.Part} (h : R.partE p = 0) : PartOk g (turn p) := by
  by_cases h4 : p.kind = 4
  · have e : turn p = { p with name := opp p.name } := by unfold turn; rw [if_pos h4]
    rw [e]
    exact ⟨fun (k : p.kind = 3) => by omega, fun _ => opp_size _, fun (k : p.kind = 2) => by omega⟩
  · by_cases h2 : p.kind = 2
    · have e : turn p = { p with left := p.right, dir := against p.dir, right := p.left } := by unfold turn; rw [if_neg h4, if_pos h2]
      rw [e]
      rcases R.partE_cases h with ⟨k1, _⟩ | ⟨k1, _⟩ | ⟨k1, _⟩ | ⟨_, k2⟩
      · omega
      · omega
      · omega
      obtain ⟨_, hl, hr, _⟩ := R.ruleE_zero k2
      obtain ⟨a1, a2, a3, _⟩ := R.sideE_zero hl
      obtain ⟨b1, b2, b3, _⟩ := R.sideE_zero hr
      have r1 := right_of b1
      have r2 := right_of b2
      have r3 := right_of b3
      exact ⟨fun (k : p.kind = 3) => by omega, fun (k : p.kind = 4) => by omega, fun _ _ => ⟨⟨r1, r2, r3⟩, right_of a2, fun x hx => by
        rcases hx with hx | hx | hx
        · exact fit_of hg (r1.2 x hx)
        · exact fit_of hg (r2.2 x hx)
        · exact fit_of hg (r3.2 x hx)⟩⟩
    · have e : turn p = p := by unfold turn; rw [if_neg h4, if_neg h2]
      rw [e]; exact part_ok hg h
/-- which cells the passes are -/
def PCells (f : Nat → PC) (ps : List Pass) (rvs : List Value) : Prop := ∀ (t : Nat) p rv, ps[t]? = some p → rvs[t]? = some rv → (f t).1 = p.name ∧ rv = .slice (f t).2.1 (f t).2.2.1 (f t).2.2.2
theorem PS.prow {F : Nat} {tops : List Nat} {w : World} {g n cap : Nat} {ps : List Pass} {rvs : List Value} (h : PS F tops w (.slice (some ⟨g, 0, none⟩) n cap) ps rvs) : n = ps.length ∧ F ≤ g ∧ g < w.heap.size ∧ g ∈ tops ∧ ∃ f, PCells f ps rvs ∧ PRow w g f n := by
  have hf : ∀ t : Nat, ∃ x : PC, ∀ (p : Pass) (rv : Value), ps[t]? = some p → rvs[t]? = some rv → x.1 = p.name ∧ rv = .slice x.2.1 x.2.2.1 x.2.2.2 := fun t => by
    cases hp : ps[t]? with
    | none => exact ⟨(⟨#[]⟩, none, 0, 0), fun p rv h => by cases h⟩
    | some p =>
      cases hr : rvs[t]? with
      | none => exact ⟨(⟨#[]⟩, none, 0, 0), fun p rv _ h => by cases h⟩
      | some rv =>
        obtain ⟨⟨cs, own, _⟩, _⟩ := h.rows t p rv hp hr
        rcases own.2 with ⟨e, _⟩ | ⟨g', cap', cur', e, _⟩
        · exact ⟨(p.name, none, 0, 0), fun p' rv' h1 h2 => by cases h1; cases h2; exact ⟨rfl, e⟩⟩
        · exact ⟨(p.name, _, _, _), fun p' rv' h1 h2 => by cases h1; cases h2; exact ⟨rfl, e⟩⟩
  obtain ⟨f, hf⟩ := Classical.skolem.1 hf
  have hlt := h.own.lt g rfl
  rcases h.own.2 with ⟨e, _⟩ | ⟨g', cap', cur, e, hB, hg, hle, hmax, hsz, htk⟩
  · cases e
  · obtain ⟨e1, e2, e3⟩ := Value.slice.inj e
    cases e1
    subst e2
    refine ⟨rfl, hlt.1, hlt.2, h.top g (.inl rfl), f, hf, cur, hg, fun t ht => ?_⟩
    have hr : t < rvs.length := by rw [h.len]; exact ht
    obtain ⟨a1, a2⟩ := pcells_at (ps := ps) (rvs := rvs) (j := t) (p := ps[t]) (rv := rvs[t]) (by simp) (by simp)
    obtain ⟨f1, f2⟩ := hf t ps[t] rvs[t] (by simp) (by simp)
    rw [← htk, List.getElem?_take] at a1 a2
    split at a1
    · split at a2
      · rw [← f1] at a1
        rw [f2] at a2
        exact ⟨by simpa using a1, by simpa using a2⟩
      · cases a2
    · cases a1
theorem PRow.other {w W : World} {g : Nat} {f : Nat → PC} {n : Nat} (h : PRow w g f n) (he : W.heap[g]? = w.heap[g]?) : PRow W g f n := by
  obtain ⟨cur, hg, hc⟩ := h
  exact ⟨cur, he.trans hg, hc⟩
/-- a script turned round, in the result's boxes -/
theorem doneB {F : Nat} {tops : List Nat} {w W : World} {vo : Value} {g n cap : Nat} {s : Script} {rvs : List Value} {f : Nat → PC} (hL : Leaf tops w fun W => S.Rd W vo s.only) (hn : s.only.length ≤ 17592186044160) (hP : PS F tops w (.slice (some ⟨g, 0, none⟩) n cap) s.passes rvs) (hl : s.passes.length ≤ 1000) (hr : ∀ p ∈ s.passes, p.rules.length ≤ 1000) (hf : PCells f s.passes rvs)
    (hs : w.heap.size ≤ W.heap.size) (hk : ∀ b, b < w.heap.size → b ∉ tops → W.heap[b]? = w.heap[b]?) (hkr : ∀ b, F ≤ b → b < w.heap.size → ¬ b = g → W.heap[b]? = w.heap[b]?) (hrow : PRow W g (fun t => f (n - 1 - t)) n) :
    ScIs W (.agg #[.bool s.has, vo, .slice (some ⟨g, 0, none⟩) n cap]) ⟨s.has, s.only, s.passes.reverse⟩ := by
  have h1 : S.Rd W vo s.only := hL W hs hk
  obtain ⟨oo, oc, rfl⟩ := rd_form h1
  obtain ⟨hnl, _, _, _, _⟩ := hP.prow
  refine ⟨oo, oc, some ⟨g, 0, none⟩, cap, by rw [hnl]; simp, h1, by show s.only.length ≤ _; omega, some ⟨g, 0, none⟩, cap, rfl, by simp; omega, fun _ => ⟨g, 0, rfl, fun j p hj => ?_⟩⟩
  have hjn : j < s.passes.length := by have := (List.getElem?_eq_some_iff.1 hj).1; simpa using this
  have hp : s.passes[n - 1 - j]? = some p := by
    rw [List.getElem?_reverse hjn] at hj
    rw [hnl]; exact hj
  have hlt : n - 1 - j < rvs.length := by rw [hP.len]; omega
  obtain ⟨f1, f2⟩ := hf (n - 1 - j) p rvs[n - 1 - j] hp (by simp)
  obtain ⟨hrw, hnm⟩ := hP.rows (n - 1 - j) p rvs[n - 1 - j] hp (by simp)
  have hrw2 : RuRow F tops W rvs[n - 1 - j] p.rules := hrw.step hs hk (fun k hk => .inl hk) fun k hk => by
    have hm : rvs[n - 1 - j] ∈ rvs := List.getElem_mem _
    have h3 := hP.rvlt hm k hk
    exact hkr k h3.1 h3.2 fun e => hP.apart _ hm k hk (by rw [e]; rfl)
  have hrus := hrw2.rus (hr p (List.mem_of_getElem? hp))
  obtain ⟨c1, c2⟩ := hrow.at (t := j) (by omega)
  obtain ⟨ro, rc, hrc⟩ := hrus.len
  refine ⟨by rw [f1] at c1; simpa using c1, hnm, ro, rc, ?_, by rw [← hrc]; exact hrus⟩
  rw [← f2, hrc] at c2
  simpa using c2
theorem five_heap (w5 : World) (a b : Nat) (v0 v1 v2 v3 v4 : Value) (k : Nat) (ha : ¬ k = a) (hb : ¬ k = b) : (((((w5.setCell ⟨a, 0, none⟩ v0).setCell ⟨a, 1, none⟩ v1).setCell ⟨a, 2, none⟩ v2).setCell ⟨b, 0, none⟩ v3).setCell ⟨b, 1, none⟩ v4).heap[k]? = w5.heap[k]? := by
  rw [heap_setCell_other _ ⟨b, 1, none⟩ k _ hb, heap_setCell_other _ ⟨b, 0, none⟩ k _ hb, heap_setCell_other _ ⟨a, 2, none⟩ k _ ha, heap_setCell_other _ ⟨a, 1, none⟩ k _ ha, heap_setCell_other _ ⟨a, 0, none⟩ k _ ha]
theorem five_size (w5 : World) (a b : Nat) (v0 v1 v2 v3 v4 : Value) : (((((w5.setCell ⟨a, 0, none⟩ v0).setCell ⟨a, 1, none⟩ v1).setCell ⟨a, 2, none⟩ v2).setCell ⟨b, 0, none⟩ v3).setCell ⟨b, 1, none⟩ v4).heap.size = w5.heap.size := by simp
end V

set_option maxHeartbeats 8000000 in
theorem back_ok (w : World) (v : Value) (l : List R.Part) (R0 : R.Pts w v l) (hg : (V.varsF l).1.1 = 0) :
    Calls Tryz.prog 11 #[v] w fun e w' => ∃ v', e = .returned (.tuple #[v', .agg #[.int .i64 0, .int .i64 0]]) ∧ V.ScIs w' v' ⟨(V.scr (V.gOf (V.varsF l).2) (l.map V.turn)).has, (V.scr (V.gOf (V.varsF l).2) (l.map V.turn)).only, (V.scr (V.gOf (V.varsF l).2) (l.map V.turn)).passes.reverse⟩ ∧ Below w.heap.size w w' := by
  obtain ⟨hlen, hE⟩ := V.vars_ok hg
  have HA : Hid (∀ o1 o2, Below w.heap.size w ((w.alloc o1).alloc o2)) := fun o1 o2 => ((Below.refl _ w).alloc (Nat.le_refl _) o1).alloc (by simp) o2
  have HC : Hid (∀ o1 o2, Calls Tryz.prog 22 #[v] ((w.alloc o1).alloc o2) fun e w' => (∃ B, e = .returned (.tuple #[.map (some B), .agg #[.int .i64 0, .int .i64 0]]) ∧ V.VarsIs w' B (V.varsF l).2) ∧ Below ((w.alloc o1).alloc o2).heap.size ((w.alloc o1).alloc o2) w') := fun o1 o2 =>
    (variables_any _ _ l (R0.below (HA.out _ _))).mono fun e w' ⟨h1, h2⟩ => ⟨h1.elim (fun h => h.2) fun h => absurd hg h.1, h2⟩
  have HR : Hid (R.Pts w v l) := R0
  obtain ⟨ao, cap, rfl⟩ := R0.len
  obtain ⟨kn, hk⟩ : ∃ o, (V.varsF l).2 = o := ⟨_, rfl⟩
  rw [hk] at HC ⊢
  have HE : Hid (∀ p ∈ l, R.partE p = 0) := hE
  obtain ⟨s, hs⟩ : ∃ s, V.scr (V.gOf kn) (l.map V.turn) = s := ⟨_, rfl⟩
  have HSm : Hid (s.passes.length ≤ 1000 ∧ ∀ p ∈ s.passes, p.rules.length ≤ 1000) := by
    have h := V.scr_small (V.gOf kn) (l.map V.turn) (l.map V.turn).length (Nat.le_refl _)
    rw [List.take_length, hs] at h
    simp only [List.length_map] at h
    exact ⟨by have := h.1; omega, fun p hp => by have := h.2 p hp; omega⟩
  rw [hs]
  have HSE : Hid (V.scr (V.gOf kn) (l.map V.turn) = s) := hs
  clear hk R0 hg hE hs
  go_enter Tryz.func11, Tryz.ntmps11
  go_wp2_with fail
  refine (HC.out _ _).mono ?_
  rintro e w1 ⟨⟨B, rfl, n, f, hM, hT⟩, b1⟩
  obtain ⟨h1, h2, B1, s1⟩ := K.two_boxes b1
  obtain ⟨w2, hw2⟩ : ∃ w2, w2 = w1.alloc (.cells #[.int .i64 0, .int .i64 0] 26) := ⟨_, rfl⟩
  have bb : Below w1.heap.size w1 w2 := by rw [hw2]; exact (Below.refl _ w1).alloc (Nat.le_refl _) _
  have hB2 : Below w.heap.size w w2 := B1.trans (bb.mono (by omega))
  have hs2 : w.heap.size + 2 < w2.heap.size := by rw [hw2]; simp; omega
  have x2 := (bb.block _ (by omega)).trans h1
  have y2 := (bb.block _ (by omega)).trans h2
  have HX : Hid (w2.heap[w.heap.size]? = some (.cells #[.bool false, .slice none 0 0, .slice none 0 0] 34) ∧ w2.heap[w.heap.size + 1]? = some (.cells #[.int .i64 0, .int .i64 0] 26)) := ⟨x2, y2⟩
  have hT2 := hT.below bb (Nat.le_refl _)
  have HT2 : Hid (V.Tells w2 f kn) := hT2
  have HM2 : Hid (V.MapIs w2 B n f) := hM.below bb hM.lt
  have hgf : ∀ s, S.Fit (V.gOf kn s) := fun s => (hT s).2.2.2
  have HGF : Hid (∀ s, S.Fit (V.gOf kn s)) := hgf
  have HTu : Hid (Calls Tryz.prog 27 #[.slice ao l.length cap] (w1.alloc (.cells #[.int .i64 0, .int .i64 0] 26)) fun e w' => ∃ v', e = .returned v' ∧ R.Pts w' v' (l.map V.turn) ∧ Below w2.heap.size w2 w') := by
    rw [← hw2]
    exact turned_any w2 _ l (HR.out.below hB2) (by omega)
  have HB2 : Hid (Below w.heap.size w w2) := hB2
  clear hM hT b1 h1 h2 B1 bb hB2 x2 y2 hT2 hgf HC HR HA hw2
  go_wp2_with fail
  refine HTu.out.mono ?_
  rintro e w2' ⟨v', rfl, hv', b2'⟩
  have HS : Hid (Calls Tryz.prog 23 #[v', .map (some B)] w2' fun e w' => ∃ tops vo vp rvs, e = .returned (.agg #[.bool (V.scr (V.gOf kn) (l.map V.turn)).has, vo, vp]) ∧ V.Leaf tops w' (fun W => S.Rd W vo (V.scr (V.gOf kn) (l.map V.turn)).only) ∧ (V.scr (V.gOf kn) (l.map V.turn)).only.length ≤ 17592186044160 ∧ V.PS (w2'.heap.size + 2) tops w' vp (V.scr (V.gOf kn) (l.map V.turn)).passes rvs ∧ ((V.scr (V.gOf kn) (l.map V.turn)).passes = [] → vp = .slice none 0 0) ∧ (∀ q, q ≤ w2'.heap.size → q ∈ tops) ∧ Below w2'.heap.size w2' w') :=
    script_any w2' _ (l.map V.turn) hv' (by simp; omega) B n f (V.gOf kn) (HM2.out.below b2' HM2.out.lt) (fun s => ⟨((HT2.out.below b2' (Nat.le_refl _)) s).2.1, by have := (HT2.out s).2.2.1; unfold V.gOf; omega⟩) (fun p hp => by obtain ⟨q, hq, rfl⟩ := List.mem_map.1 hp; exact V.turn_ok HGF.out (HE.out q hq)) (fun k hk => V.scr_small _ (l.map V.turn) k hk)
  rw [HSE.out] at HS
  have hb2s := b2'.size
  have HX2 : Hid (w2'.heap[w.heap.size]? = some (.cells #[.bool false, .slice none 0 0, .slice none 0 0] 34) ∧ w2'.heap[w.heap.size + 1]? = some (.cells #[.int .i64 0, .int .i64 0] 26)) := ⟨(b2'.block _ (by omega)).trans HX.out.1, (b2'.block _ (by omega)).trans HX.out.2⟩
  have HB2' : Hid (Below w.heap.size w w2') := HB2.out.trans (b2'.mono (by omega))
  obtain ⟨tao, tcap, rfl⟩ := hv'.len
  rw [List.length_map] at HS
  clear hv' b2' HE HM2 HT2 HGF HTu HX HB2 HSE
  go_wp2_with fail
  refine HS.out.mono ?_
  rintro e w3 ⟨tops, vo, vp, rvs, rfl, hL, hfew, hPS, hnil, hall, b3⟩
  have hs3 := b3.size
  have x3 := (b3.block _ (by omega)).trans HX2.out.1
  have y3 := (b3.block _ (by omega)).trans HX2.out.2
  have HB3 : Hid (Below w.heap.size w w3) := HB2'.out.trans (b3.mono (by omega))
  have HAll : Hid (∀ q, q ≤ w2'.heap.size → q ∈ tops) := hall
  obtain ⟨oo, oc, hvo⟩ := V.rd_form hL.here
  subst hvo
  have HL : Hid (V.Leaf tops w3 (fun W => S.Rd W (.slice oo s.only.length oc) s.only)) := hL
  have HP : Hid (V.PS (w2'.heap.size + 2) tops w3 vp s.passes rvs) := hPS
  by_cases h0 : s.passes = []
  · have := hnil h0
    subst this
    have HD : Hid (∀ (W : World), w3.heap.size ≤ W.heap.size → (∀ b, b < w3.heap.size → b ∉ tops → W.heap[b]? = w3.heap[b]?) → V.ScIs W (.agg #[.bool s.has, .slice oo s.only.length oc, .slice none 0 0]) ⟨s.has, s.only, s.passes.reverse⟩) := fun W h1 h2 => by
      rw [h0]
      exact ⟨oo, oc, none, 0, rfl, HL.out W h1 h2, by show s.only.length ≤ _; omega, V.Pas.nil W⟩
    obtain ⟨w4, hw4⟩ : ∃ w4, w4 = w3.alloc (.cells #[.bool s.has, .slice oo s.only.length oc, .slice none 0 0] 34) := ⟨_, rfl⟩
    have hbx : w4.heap[w3.heap.size]? = some (.cells #[.bool s.has, .slice oo s.only.length oc, .slice none 0 0] 34) := by rw [hw4]; exact heap_alloc_new w3 _
    have hb4 : Below w3.heap.size w3 w4 := by rw [hw4]; exact (Below.refl _ w3).alloc (Nat.le_refl _) _
    have x4 := (hb4.block _ (by omega)).trans x3
    have y4 := (hb4.block _ (by omega)).trans y3
    obtain ⟨r0, r1, r2, f0, f1, f2⟩ := V.box3 x4
    obtain ⟨u0, u1, g0, g1⟩ := V.box2 y4
    obtain ⟨q0, q1, q2, _, _, _⟩ := V.box3 hbx
    have l3 := L.block_lt r0
    have l4 := L.block_lt u0
    have l5 := L.block_lt q0
    have HE5 : Hid (∀ v0 v1 v2 v3 v4, V.ScIs (((((w4.setCell ⟨w.heap.size, 0, none⟩ v0).setCell ⟨w.heap.size, 1, none⟩ v1).setCell ⟨w.heap.size, 2, none⟩ v2).setCell ⟨w.heap.size + 1, 0, none⟩ v3).setCell ⟨w.heap.size + 1, 1, none⟩ v4) (.agg #[.bool s.has, .slice oo s.only.length oc, .slice none 0 0]) ⟨s.has, s.only, s.passes.reverse⟩) := fun v0 v1 v2 v3 v4 =>
      HD.out _ (by rw [V.five_size]; exact hb4.size) fun b hb hn => (V.five_heap w4 _ _ _ _ _ _ _ b (fun e => hn (e ▸ HAll.out _ (by omega))) (fun e => hn (e ▸ HAll.out _ (by omega)))).trans (hb4.block b hb)
    have HB4 : Hid (Below w.heap.size w w4) := HB3.out.trans (hb4.mono (by omega))
    have HRv : Hid (Calls Tryz.prog 28 #[.slice none 0 0] w4 fun e w' => e = .returned (.tuple #[]) ∧ w' = w4) := reverse_none w4 none 0
    clear hL hfew hPS hall b3 x3 y3 HX2 HS HSm HB2' hb4 HD HL HP HB3 x4 y4 hbx hnil HAll h0
    go_wp2_with fail
    rw [← hw4]
    refine HRv.out.mono ?_
    rintro e w5 ⟨rfl, rfl⟩
    clear hw4 HRv
    go_wp2
    refine bodyPost_ret (v := .tuple #[.agg #[.bool s.has, .slice oo s.only.length oc, .slice none 0 0], .agg #[.int .i64 0, .int .i64 0]]) (by simp [results, Tryz.results11, go_sem, *]) rfl ?_
    exact ⟨_, rfl, HE5.out _ _ _ _ _, V.five HB4.out (Nat.le_refl _) (by omega) _ _ _ _ _⟩
  · obtain ⟨g, cap', hvp⟩ : ∃ g cap', vp = .slice (some ⟨g, 0, none⟩) s.passes.length cap' := by
      rcases hPS.own.2 with ⟨_, h1⟩ | ⟨g, cap', cur, e, _⟩
      · exact absurd (List.length_eq_zero_iff.1 h1) h0
      · exact ⟨g, cap', e⟩
    subst hvp
    obtain ⟨-, hFg, hgl, hgt, pf, hpf, hrow⟩ := hPS.prow
    obtain ⟨w4, hw4⟩ : ∃ w4, w4 = w3.alloc (.cells #[.bool s.has, .slice oo s.only.length oc, .slice (some ⟨g, 0, none⟩) s.passes.length cap'] 34) := ⟨_, rfl⟩
    have hbx : w4.heap[w3.heap.size]? = some (.cells #[.bool s.has, .slice oo s.only.length oc, .slice (some ⟨g, 0, none⟩) s.passes.length cap'] 34) := by rw [hw4]; exact heap_alloc_new w3 _
    have hb4 : Below w3.heap.size w3 w4 := by rw [hw4]; exact (Below.refl _ w3).alloc (Nat.le_refl _) _
    have HRv : Hid (Calls Tryz.prog 28 #[.slice (some ⟨g, 0, none⟩) s.passes.length cap'] w4 fun e w' => e = .returned (.tuple #[]) ∧ V.PRow w' g (fun t => pf (s.passes.length - 1 - t)) s.passes.length ∧ V.But g w4 w') := reverse_some w4 g _ cap' pf (hrow.other (hb4.block g hgl)) (List.length_pos_iff.2 h0) HSm.out.1
    obtain ⟨q0, q1, q2, _, _, _⟩ := V.box3 hbx
    have HG : Hid (V.PCells pf s.passes rvs ∧ w2'.heap.size + 2 ≤ g ∧ g < w3.heap.size ∧ g ∈ tops ∧ Below w3.heap.size w3 w4 ∧ w4.heap[w3.heap.size]? = some (.cells #[.bool s.has, .slice oo s.only.length oc, .slice (some ⟨g, 0, none⟩) s.passes.length cap'] 34)) := ⟨hpf, hFg, hgl, hgt, hb4, hbx⟩
    have HXY : Hid (w3.heap[w.heap.size]? = some (.cells #[.bool false, .slice none 0 0, .slice none 0 0] 34) ∧ w3.heap[w.heap.size + 1]? = some (.cells #[.int .i64 0, .int .i64 0] 26)) := ⟨x3, y3⟩
    have l5 := L.block_lt q0
    clear hL hPS hall b3 x3 y3 HX2 HS HB2' hrow hpf hb4 hbx hnil h0
    go_wp2_with fail
    rw [← hw4]
    refine HRv.out.mono ?_
    rintro e w5 ⟨rfl, hrow5, hbut⟩
    obtain ⟨hpf, hFg, hgl, hgt, hb4, hbx⟩ := HG.out
    have x5 := (hbut.2.1 _ (by omega)).trans ((hb4.block _ (by omega)).trans HXY.out.1)
    have y5 := (hbut.2.1 _ (by omega)).trans ((hb4.block _ (by omega)).trans HXY.out.2)
    have z5 := (hbut.2.1 _ (by omega)).trans hbx
    obtain ⟨r0, r1, r2, f0, f1, f2⟩ := V.box3 x5
    obtain ⟨u0, u1, g0, g1⟩ := V.box2 y5
    obtain ⟨p0, p1, p2, _, _, _⟩ := V.box3 z5
    have l3 := L.block_lt r0
    have l4 := L.block_lt u0
    have l6 := L.block_lt p0
    have HE5 : Hid (∀ v0 v1 v2 v3 v4, V.ScIs (((((w5.setCell ⟨w.heap.size, 0, none⟩ v0).setCell ⟨w.heap.size, 1, none⟩ v1).setCell ⟨w.heap.size, 2, none⟩ v2).setCell ⟨w.heap.size + 1, 0, none⟩ v3).setCell ⟨w.heap.size + 1, 1, none⟩ v4) (.agg #[.bool s.has, .slice oo s.only.length oc, .slice (some ⟨g, 0, none⟩) s.passes.length cap']) ⟨s.has, s.only, s.passes.reverse⟩) := fun v0 v1 v2 v3 v4 => by
      have h4 := hb4.size
      have h5 := hbut.2.2
      refine V.doneB HL.out hfew HP.out HSm.out.1 HSm.out.2 hpf (by rw [V.five_size]; omega) (fun b hb hn => ?_) (fun b hF hb hn => ?_) (hrow5.other (V.five_heap w5 _ _ _ _ _ _ _ g (by omega) (by omega)))
      · exact (V.five_heap w5 _ _ _ _ _ _ _ b (fun e => hn (e ▸ HAll.out _ (by omega))) (fun e => hn (e ▸ HAll.out _ (by omega)))).trans ((hbut.2.1 b fun e => hn (e ▸ hgt)).trans (hb4.block b hb))
      · exact (V.five_heap w5 _ _ _ _ _ _ _ b (by omega) (by omega)).trans ((hbut.2.1 b hn).trans (hb4.block b hb))
    have HB5 : Hid (Below w.heap.size w w5) := by
      have h5 : Below w.heap.size w4 w5 := hbut.1.mono (by omega)
      exact (HB3.out.trans (hb4.mono (by omega))).trans h5
    clear hrow5 hbut hpf hFg hgl hgt hb4 hbx x5 y5 z5 HG HXY HL HP HSm HAll HB3 q0 q1 q2 l5 hw4 HRv
    go_wp2
    refine bodyPost_ret (v := .tuple #[.agg #[.bool s.has, .slice oo s.only.length oc, .slice (some ⟨g, 0, none⟩) s.passes.length cap'], .agg #[.int .i64 0, .int .i64 0]]) (by simp [results, Tryz.results11, go_sem, *]) rfl ?_
    exact ⟨_, rfl, HE5.out _ _ _ _ _, V.five HB5.out (Nat.le_refl _) (by omega) _ _ _ _ _⟩

/-- all that Back answers -/
theorem back_any (w : World) (v : Value) (l : List R.Part) (R0 : R.Pts w v l) :
    Calls Tryz.prog 11 #[v] w fun e w' => ∃ v', e = .returned (.tuple #[v', .agg #[.int .i64 (V.backF l).2.1, .int .i64 ((V.backF l).2.2 : Nat)]]) ∧ V.ScIs w' v' (V.backF l).1 ∧ Below w.heap.size w w' := by
  unfold V.backF
  by_cases hg : (V.varsF l).1.1 = 0
  · rw [if_pos hg]; exact back_ok w v l R0 hg
  · rw [if_neg hg]
    exact (back_bad w v l R0 hg).mono fun e w' ⟨h1, h2⟩ => ⟨_, h1, ⟨none, 0, none, 0, rfl, S.Rd.nil _, by simp, V.Pas.nil _⟩, h2⟩


end Go.Proofs.YtchkcjaahjhbcabGreatDoor

/-
  The closed fact of the statements of chapter 6 holds.
-/
namespace Go.Proofs.YtchkcjaahjhbcabGreatDoor
open Go.RowKit Go.Lib
set_option maxRecDepth 20000
set_option linter.unusedSimpArgs false
set_option linter.unusedVariables false

namespace V
def aItem (r : Int) : R.Item := ⟨1, r, [], ⟨#[]⟩⟩
def aSide (r : Int) : R.Side := ⟨false, false, [], [aItem r], [], -1⟩
def aPart : R.Part := ⟨2, ⟨#[]⟩, [], 3, aSide 97, aSide 98⟩
def aRule (r q : Int) : K.Rule := ⟨false, false, [], [[(r, r)]], [], [q], 1⟩
theorem aForth : forthF [aPart] = (⟨false, [], [⟨⟨#[]⟩, [aRule 97 98]⟩]⟩, 0, 0) := by kernel_rfl
theorem aBack : backF [aPart] = (⟨false, [], [⟨⟨#[]⟩, [aRule 98 97]⟩]⟩, 0, 0) := by kernel_rfl
theorem its_nil (w : World) : R.Its w (.slice none 0 0) [] := ⟨none, 0, rfl, fun h => absurd rfl h⟩
theorem its_one {w : World} {b : Nat} {r : Int} (h : w.heap[b]? = some (.cells #[.int .i64 1, .int .i32 r, .slice none 0 0, .string ⟨#[]⟩] 42)) : R.Its w (.slice (some ⟨b, 0, none⟩) 1 1) [aItem r] :=
  ⟨_, 1, rfl, fun _ => ⟨b, 0, rfl, fun j x hj => by
    match j, hj with
    | 0, hj => simp at hj; subst hj; exact ⟨K.at_box (i := 0) h rfl, K.at_box (i := 1) h rfl, K.at_box (i := 3) h rfl, ⟨none, 0, K.at_box (i := 2) h rfl, S.Rd.nil w⟩, fun y hy => (by cases hy), by show (⟨#[]⟩ : ByteArray).size ≤ _; decide⟩
    | j + 1, hj => simp at hj⟩⟩
theorem aSide_is {w : World} {b : Nat} {r : Int} (h : w.heap[b]? = some (.cells #[.int .i64 1, .int .i32 r, .slice none 0 0, .string ⟨#[]⟩] 42)) : R.SdIs w (.agg #[.bool false, .bool false, .slice none 0 0, .slice (some ⟨b, 0, none⟩) 1 1, .slice none 0 0, .int .i64 (-1)]) (aSide r) :=
  ⟨none, 0, some ⟨b, 0, none⟩, 1, none, 0, rfl, its_nil w, its_one h, its_nil w, by show (-9223372036854775808 : Int) ≤ -1; decide, by show (-1 : Int) ≤ 9223372036854775807; decide⟩
theorem aPts {w : World} {b b1 b2 : Nat} (h1 : w.heap[b1]? = some (.cells #[.int .i64 1, .int .i32 97, .slice none 0 0, .string ⟨#[]⟩] 42)) (h2 : w.heap[b2]? = some (.cells #[.int .i64 1, .int .i32 98, .slice none 0 0, .string ⟨#[]⟩] 42))
    (h : w.heap[b]? = some (.cells #[.int .i64 2, .string ⟨#[]⟩, .slice none 0 0, .int .i64 3, .bool false, .bool false, .slice none 0 0, .slice (some ⟨b1, 0, none⟩) 1 1, .slice none 0 0, .int .i64 (-1), .bool false, .bool false, .slice none 0 0, .slice (some ⟨b2, 0, none⟩) 1 1, .slice none 0 0, .int .i64 (-1)] 47)) :
    R.Pts w (.slice (some ⟨b, 0, none⟩) 1 1) [aPart] := by
  refine cells_pts (l := [aPart]) (cs := [[.int .i64 2, .string ⟨#[]⟩, .slice none 0 0, .int .i64 3, .bool false, .bool false, .slice none 0 0, .slice (some ⟨b1, 0, none⟩) 1 1, .slice none 0 0, .int .i64 (-1), .bool false, .bool false, .slice none 0 0, .slice (some ⟨b2, 0, none⟩) 1 1, .slice none 0 0, .int .i64 (-1)]]) ⟨rfl, fun c hc => ?_, fun j p c hp hc => ?_⟩ fun j c q u hc hu => ?_
  · rw [List.mem_singleton.1 hc]
    refine ⟨rfl, fun u hu => ?_⟩
    simp only [List.mem_cons, List.not_mem_nil, or_false] at hu
    rcases hu with rfl | rfl | rfl | rfl | rfl | rfl | rfl | rfl | rfl | rfl | rfl | rfl | rfl | rfl | rfl | rfl <;> rfl
  · match j, hp, hc with
    | 0, hp, hc =>
      simp at hp hc
      subst hp; subst hc
      exact ⟨none, 0, _, _, _, _, _, _, _, _, _, _, _, _, rfl, S.Rd.nil w, fun y hy => (by cases hy), aSide_is h1, aSide_is h2, by decide, by decide, by decide⟩
    | j + 1, hp, hc => simp at hp
  · match j, hc with
    | 0, hc =>
      simp at hc
      subst hc
      rw [Nat.zero_mul, Nat.zero_add]
      exact K.at_box h (by simpa using hu)
    | j + 1, hc => simp at hc
/-- the one rule of a script, its target -/
theorem aCells {w : World} {v : Value} {r q : Int} (h : ScIs w v ⟨false, [], [⟨⟨#[]⟩, [aRule r q]⟩]⟩) : ∃ oo oc pb po pc rb ro rc tb to' tc, v = .agg #[.bool false, .slice oo 0 oc, .slice (some ⟨pb, po, none⟩) 1 pc] ∧ w.cell? ⟨pb, po + 1, none⟩ = some (.slice (some ⟨rb, ro, none⟩) 1 rc) ∧ w.cell? ⟨rb, ro + 5, none⟩ = some (.slice (some ⟨tb, to', none⟩) 1 tc) ∧ w.cell? ⟨tb, to', none⟩ = some (.int .i32 q) := by
  obtain ⟨oo, oc, po, pc, rfl, _, _, pao, pcap, pe, _, hp⟩ := h
  obtain ⟨rfl, -, rfl⟩ := Value.slice.inj pe
  obtain ⟨pb, poff, rfl, hp2⟩ := hp (by simp)
  obtain ⟨_, _, ro, rc, hrc, rao, rcap, re, _, hr⟩ := hp2 0 ⟨⟨#[]⟩, [aRule r q]⟩ rfl
  obtain ⟨rfl, -, rfl⟩ := Value.slice.inj re
  obtain ⟨rb, roff, rfl, hr2⟩ := hr (by simp)
  obtain ⟨bo, bc, so, sc, ao, ac, to', tc, _, _, _, _, _, ht, _, hru⟩ := hr2 0 (aRule r q) rfl
  obtain ⟨_, _, _, _, _, _, to2, tc2, hru2, _, _, _, hT, _⟩ := hru
  have he := Value.agg.inj hru2
  simp only [Array.mk.injEq, List.cons.injEq, Value.slice.injEq, and_true, true_and] at he
  obtain ⟨tao, tcap, te, _, hT⟩ := hT
  obtain ⟨e1, -, e3⟩ := Value.slice.inj te
  obtain ⟨tb, toff, e4, hT2⟩ := hT (by simp [aRule])
  have h0 := hT2 0 q rfl
  have et : to' = some ⟨tb, toff, none⟩ := by
    rw [← e4, ← e1]
    simp_all
  subst et
  exact ⟨oo, oc, pb, poff, pc, rb, roff, rc, tb, toff, tc, rfl, by simpa using hrc, by simpa [aRule] using ht, by simpa using h0⟩
end V

set_option maxHeartbeats 400000 in
theorem aIt_any (w : World) (r : Int) : Calls Tryz.prog 10 #[.int .i32 r] w fun e w' => e = .returned (.slice (some ⟨w.heap.size, 0, none⟩) 1 1) ∧ w' = w.alloc (.cells #[.int .i64 1, .int .i32 r, .slice none 0 0, .string ⟨#[]⟩] 42) := by
  go_enter Tryz.func10, Tryz.ntmps10
  go_wp2
  go_ret
  exact ⟨rfl, rfl⟩

set_option maxHeartbeats 8000000 in
theorem vAlive_any (w : World) : Calls Tryz.prog 4 #[] w fun e w' => e = .returned (.bool true) ∧ Below w.heap.size w w' := by
  go_enter Tryz.func4, Tryz.ntmps4
  go_wp2_with fail
  refine (aIt_any w 97).mono ?_
  rintro e w1 ⟨rfl, hw1⟩
  have i1 : w1.heap[w.heap.size]? = some (.cells #[.int .i64 1, .int .i32 97, .slice none 0 0, .string ⟨#[]⟩] 42) := by rw [hw1]; exact heap_alloc_new w _
  have b1 : Below w.heap.size w w1 := by rw [hw1]; exact (Below.refl _ w).alloc (Nat.le_refl _) _
  have s1 : w.heap.size < w1.heap.size := by rw [hw1]; simp
  have H1 : Hid (w1.heap[w.heap.size]? = some (.cells #[.int .i64 1, .int .i32 97, .slice none 0 0, .string ⟨#[]⟩] 42) ∧ Below w.heap.size w w1) := ⟨i1, b1⟩
  clear hw1 i1 b1
  go_wp2_with fail
  refine (aIt_any w1 98).mono ?_
  rintro e w2 ⟨rfl, hw2⟩
  have i2 : w2.heap[w1.heap.size]? = some (.cells #[.int .i64 1, .int .i32 98, .slice none 0 0, .string ⟨#[]⟩] 42) := by rw [hw2]; exact heap_alloc_new w1 _
  have b2 : Below w1.heap.size w1 w2 := by rw [hw2]; exact (Below.refl _ w1).alloc (Nat.le_refl _) _
  have s2 : w1.heap.size < w2.heap.size := by rw [hw2]; simp
  have H2 : Hid (w2.heap[w1.heap.size]? = some (.cells #[.int .i64 1, .int .i32 98, .slice none 0 0, .string ⟨#[]⟩] 42) ∧ Below w1.heap.size w1 w2) := ⟨i2, b2⟩
  clear hw2 i2 b2
  obtain ⟨w3, hw3⟩ : ∃ w3, w3 = w2.alloc (.cells #[.int .i64 2, .string ⟨#[]⟩, .slice none 0 0, .int .i64 3, .bool false, .bool false, .slice none 0 0, .slice (some ⟨w.heap.size, 0, none⟩) 1 1, .slice none 0 0, .int .i64 (-1), .bool false, .bool false, .slice none 0 0, .slice (some ⟨w1.heap.size, 0, none⟩) 1 1, .slice none 0 0, .int .i64 (-1)] 47) := ⟨_, rfl⟩
  have b3 : Below w2.heap.size w2 w3 := by rw [hw3]; exact (Below.refl _ w2).alloc (Nat.le_refl _) _
  have s3 : w2.heap.size < w3.heap.size := by rw [hw3]; simp
  have hp3 : R.Pts w3 (.slice (some ⟨w2.heap.size, 0, none⟩) 1 1) [V.aPart] := V.aPts ((b3.block _ (by omega)).trans ((H2.out.2.block _ s1).trans H1.out.1)) ((b3.block _ s2).trans H2.out.1) (by rw [hw3]; exact heap_alloc_new w2 _)
  have hB3 : Below w.heap.size w w3 := (H1.out.2.trans (H2.out.2.mono (by omega))).trans (b3.mono (by omega))
  have hF := forth_any w3 _ _ hp3
  rw [V.aForth] at hF
  have HF : Hid (Calls Tryz.prog 7 #[.slice (some ⟨w2.heap.size, 0, none⟩) 1 1] w3 fun e w' => ∃ v', e = .returned (.tuple #[v', .agg #[.int .i64 0, .int .i64 0]]) ∧ V.ScIs w' v' ⟨false, [], [⟨⟨#[]⟩, [V.aRule 97 98]⟩]⟩ ∧ Below w3.heap.size w3 w') := hF
  have HP3 : Hid (R.Pts w3 (.slice (some ⟨w2.heap.size, 0, none⟩) 1 1) [V.aPart] ∧ Below w.heap.size w w3) := ⟨hp3, hB3⟩
  clear H1 H2 b3 hp3 hB3 hF
  go_wp2_with fail
  rw [← hw3]
  refine HF.out.mono ?_
  rintro e w4 ⟨v4, rfl, hv4, b4⟩
  obtain ⟨oo, oc, pb, po, pc, rb, ro, rc, tb, to', tc, rfl, x1, x2, x3⟩ := V.aCells hv4
  clear hw3 HF hv4
  have s4 := b4.size
  obtain ⟨w5, hw5⟩ : ∃ w5, w5 = (w4.alloc (.cells #[.bool false, .slice oo 0 oc, .slice (some ⟨pb, po, none⟩) 1 pc] 34)).alloc (.cells #[.int .i64 0, .int .i64 0] 26) := ⟨_, rfl⟩
  have hbx := K.two_boxes (w := w4) (o1 := .cells #[.bool false, .slice oo 0 oc, .slice (some ⟨pb, po, none⟩) 1 pc] 34) (o2 := .cells #[.int .i64 0, .int .i64 0] 26) (w1 := w5) (by rw [hw5]; exact Below.refl _ _)
  obtain ⟨y1, y2, y3, y4⟩ := hbx
  have hB5 : Below w.heap.size w w5 := (HP3.out.2.trans (b4.mono (by omega))).trans (y3.mono (by omega))
  have hb35 : Below w3.heap.size w3 w5 := b4.trans (y3.mono (by omega))
  have hk := back_any w5 _ _ (HP3.out.1.below hb35)
  rw [V.aBack] at hk
  have HK : Hid (Calls Tryz.prog 11 #[.slice (some ⟨w2.heap.size, 0, none⟩) 1 1] w5 fun e w' => ∃ v', e = .returned (.tuple #[v', .agg #[.int .i64 0, .int .i64 0]]) ∧ V.ScIs w' v' ⟨false, [], [⟨⟨#[]⟩, [V.aRule 98 97]⟩]⟩ ∧ Below w5.heap.size w5 w') := hk
  have HB5 : Hid (Below w.heap.size w w5) := hB5
  have l1 := L.block_lt x1
  have l2 := L.block_lt x2
  have l3 := L.block_lt x3
  have z1 := (y3.cell (p := ⟨pb, po + 1, none⟩) l1).trans x1
  have z2 := (y3.cell (p := ⟨rb, ro + 5, none⟩) l2).trans x2
  have z3 := (y3.cell (p := ⟨tb, to', none⟩) l3).trans x3
  have HZ : Hid (w5.heap[w4.heap.size]? = some (.cells #[.bool false, .slice oo 0 oc, .slice (some ⟨pb, po, none⟩) 1 pc] 34) ∧ w5.heap[w4.heap.size + 1]? = some (.cells #[.int .i64 0, .int .i64 0] 26) ∧ w5.cell? ⟨pb, po + 1, none⟩ = some (.slice (some ⟨rb, ro, none⟩) 1 rc) ∧ w5.cell? ⟨rb, ro + 5, none⟩ = some (.slice (some ⟨tb, to', none⟩) 1 tc) ∧ w5.cell? ⟨tb, to', none⟩ = some (.int .i32 98)) := ⟨y1, y2, z1, z2, z3⟩
  clear HP3 b4 x1 x2 x3 y1 y2 y3 z1 z2 z3 l1 l2 l3 hb35 hk hB5
  go_wp2_with fail
  rw [← hw5]
  refine HK.out.mono ?_
  rintro e w6 ⟨v6, rfl, hv6, b6⟩
  obtain ⟨oo2, oc2, pb2, po2, pc2, rb2, ro2, rc2, tb2, to2, tc2, rfl, x1, x2, x3⟩ := V.aCells hv6
  clear hw5 HK hv6
  obtain ⟨w7, hw7⟩ : ∃ w7, w7 = (w6.alloc (.cells #[.bool false, .slice oo2 0 oc2, .slice (some ⟨pb2, po2, none⟩) 1 pc2] 34)).alloc (.cells #[.int .i64 0, .int .i64 0] 26) := ⟨_, rfl⟩
  have hbx := K.two_boxes (w := w6) (o1 := .cells #[.bool false, .slice oo2 0 oc2, .slice (some ⟨pb2, po2, none⟩) 1 pc2] 34) (o2 := .cells #[.int .i64 0, .int .i64 0] 26) (w1 := w7) (by rw [hw7]; exact Below.refl _ _)
  obtain ⟨y1, y2, y3, y4⟩ := hbx
  have s6 := b6.size
  have HB7 : Hid (Below w.heap.size w w7) := (HB5.out.trans (b6.mono (by have := HB5.out.size; omega))).trans (y3.mono (by have := HB5.out.size; omega))
  have b57 : Below w5.heap.size w5 w7 := b6.trans (y3.mono (by omega))
  obtain ⟨q1, q2, q3, q4, q5⟩ := HZ.out
  have l1 := L.block_lt x1
  have l2 := L.block_lt x2
  have l3 := L.block_lt x3
  have z1 := (y3.cell (p := ⟨pb2, po2 + 1, none⟩) l1).trans x1
  have z2 := (y3.cell (p := ⟨rb2, ro2 + 5, none⟩) l2).trans x2
  have z3 := (y3.cell (p := ⟨tb2, to2, none⟩) l3).trans x3
  have m1 := (b57.block _ (by omega)).trans q1
  have m2 := (b57.block _ (by omega)).trans q2
  have m3 := (b57.cell (p := ⟨pb, po + 1, none⟩) (L.block_lt q3)).trans q3
  have m4 := (b57.cell (p := ⟨rb, ro + 5, none⟩) (L.block_lt q4)).trans q4
  have m5 := (b57.cell (p := ⟨tb, to', none⟩) (L.block_lt q5)).trans q5
  obtain ⟨r0, r1, r2, _, _, _⟩ := V.box3 m1
  obtain ⟨u0, u1, _, _⟩ := V.box2 m2
  obtain ⟨t0, t1, t2, _, _, _⟩ := V.box3 y1
  obtain ⟨v0, v1, _, _⟩ := V.box2 y2
  clear HZ HB5 b6 b57 x1 x2 x3 y1 y2 y3 l1 l2 l3 q1 q2 q3 q4 q5 m1 m2
  subst hw7
  go_wp2
  go_ret
  exact ⟨by simp, HB7.out⟩

end Go.Proofs.YtchkcjaahjhbcabGreatDoor

/-
  What scriptref1.Same answers of two slices of runes: whether they read as the same list.
-/
namespace Go.Proofs.YtchkcjaahjhbcabGreatDoor
open Go.RowKit

theorem take_eq_snoc {a b : List Int} {k : Nat} {x y : Int} (h : a.take k = b.take k) (hx : a[k]? = some x) (hy : b[k]? = some y) (e : x = y) : a.take (k + 1) = b.take (k + 1) := by
  rw [List.take_add_one, List.take_add_one, h, hx, hy, e]

set_option maxHeartbeats 400000 in
theorem rsame_any (w : World) (va vb : Value) (za zb : List Int) (ha : L.Rd w va .i32 za) (hb : L.Rd w vb .i32 zb) (hla : za.length ≤ 4611686018427387903) (hlb : zb.length ≤ 4611686018427387903) :
    Calls Tryz.prog 44 #[va, vb] w fun e w' => e = .returned (.bool (decide (za = zb))) ∧ Below w.heap.size w w' := by
  obtain ⟨ao, ca, rfl, _, ha⟩ := ha
  obtain ⟨bo, cb, rfl, _, hb⟩ := hb
  by_cases hl : za.length = zb.length
  · go_enter Tryz.func44, Tryz.ntmps44
    go_wp2
    go_loopw [13] (fun i wr => ∃ k n : Nat, k ≤ za.length ∧ i = .int .i64 k ∧ za.take k = zb.take k ∧ wr = w.drewN n) (fun i _ => za.length - (RowKit.intOf i).toNat)
    case atStart => exact ⟨0, 0, Nat.zero_le _, rfl, by simp, rfl⟩
    case round =>
      obtain ⟨k, n, hk, rfl, ht, rfl⟩ := hrel
      by_cases hlt : k < za.length
      · obtain ⟨b1, o1, rfl, hc1⟩ := ha (by intro h; subst h; simp at hlt)
        obtain ⟨b2, o2, rfl, hc2⟩ := hb (by intro h; subst h; simp at hl; rw [hl] at hlt; simp at hlt)
        obtain ⟨x, hx⟩ : ∃ x, za[k]? = some x := ⟨za[k], by simp [hlt]⟩
        obtain ⟨y, hy⟩ : ∃ y, zb[k]? = some y := ⟨zb[k]'(by omega), by simp [show k < zb.length by omega]⟩
        have c1 := hc1 k x hx
        have c2 := hc2 k y hy
        clear hc1 hc2 ha hb
        have HX : Hid (za[k]? = some x ∧ zb[k]? = some y ∧ za.take k = zb.take k) := ⟨hx, hy, ht⟩
        clear hx hy ht
        by_cases hxy : x = y
        · go_wp2
          go_quiet (fail)
          go_wp2
          go_roundw
          case rel => exact ⟨k + 1, _, by omega, by go_num, take_eq_snoc HX.out.2.2 HX.out.1 HX.out.2.1 hxy, rfl⟩
          case measure => simp [RowKit.intOf]; omega
        · go_wp2
          go_quiet (fail)
          go_wp2
          go_ret
          refine ⟨L.ret_bool ?_, below_drewN (below_drewN (Below.refl _ _) _) _⟩
          have : za ≠ zb := by
            intro e
            rw [e] at HX
            have h1 := HX.out.1
            rw [HX.out.2.1] at h1
            exact hxy (Option.some.inj h1).symm
          simp [this]
      · go_wp2
        go_ret
        refine ⟨L.ret_bool ?_, below_drewN (Below.refl _ _) _⟩
        rw [List.take_of_length_le (by omega), List.take_of_length_le (by omega)] at ht
        simp [ht]
  · go_enter Tryz.func44, Tryz.ntmps44
    go_wp2
    go_ret
    refine ⟨L.ret_bool ?_, Below.refl _ _⟩
    have : za ≠ zb := by intro e; exact hl (by rw [e])
    simp [this]

end Go.Proofs.YtchkcjaahjhbcabGreatDoor
