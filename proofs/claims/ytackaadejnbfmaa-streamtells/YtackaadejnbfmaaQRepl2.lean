/-
  Texts that come piece by piece, in plain lists.
-/
import Derived.Test.YtackaadejnbfmaaMCut
import Derived.Test.YtackaadejnbfmaaQRepl
import Derived.Deep.QuietTactic
import Derived.BigQuiet
namespace Go.Proofs.Ytackaadejnbfmaa.Ws
open K

/-- on, as far as may be: what is wrong, how many steps are left, what is ahead of the cursor, what is behind it -/
def go (l : List Rule) (fin : Bool) (ah : Nat) : Nat → List Int → List Int → Int × Nat × List Int × List Int
  | 0, A, Z => if Z.length = 0 ∨ (fin = false ∧ Z.length ≤ ah) then (0, 0, A, Z) else if fin = true then (9, 0, [], []) else (0, 0, A, Z)
  | left + 1, A, Z =>
    if Z.length = 0 ∨ (fin = false ∧ Z.length ≤ ah) then (0, left + 1, A, Z)
    else if which l (A ++ Z) A.length < 0 then go l fin ah left (A ++ Z.take 1) (Z.drop 1)
    else
      let r := (l[(which l (A ++ Z) A.length).toNat]?).getD noRule
      if 4000 < A.length + (restOf r Z).length then (4, 0, [], [])
      else go l fin ah left (A ++ (restOf r Z).take r.cursor.toNat) ((restOf r Z).drop r.cursor.toNat)
theorem go_stop {l : List Rule} {fin : Bool} {ah left : Nat} {A Z : List Int} (h : Z.length = 0 ∨ (fin = false ∧ Z.length ≤ ah)) : go l fin ah left A Z = (0, left, A, Z) := by
  cases left <;> rw [go, if_pos h]
theorem go_spent {l : List Rule} {ah : Nat} {A Z : List Int} : go l false ah 0 A Z = (0, 0, A, Z) := by
  rw [go]
  split
  · rfl
  · rw [if_neg (by decide)]
theorem go_out {l : List Rule} {ah : Nat} {A Z : List Int} (h : ¬ Z.length = 0) : go l true ah 0 A Z = (9, 0, [], []) := by
  rw [go, if_neg (by simp [h]), if_pos rfl]
theorem go_on {l : List Rule} {fin : Bool} {ah left : Nat} {A Z : List Int} (h : ¬ (Z.length = 0 ∨ (fin = false ∧ Z.length ≤ ah))) (hk : which l (A ++ Z) A.length = -1) : go l fin ah (left + 1) A Z = go l fin ah left (A ++ Z.take 1) (Z.drop 1) := by
  rw [go, if_neg h, if_pos (by rw [hk]; decide)]
theorem go_much {l : List Rule} {fin : Bool} {ah left : Nat} {A Z : List Int} {j : Nat} {r : Rule} (h : ¬ (Z.length = 0 ∨ (fin = false ∧ Z.length ≤ ah))) (hk : which l (A ++ Z) A.length = (j : Int)) (hr : l[j]? = some r) (hm : 4000 < A.length + (restOf r Z).length) : go l fin ah (left + 1) A Z = (4, 0, [], []) := by
  rw [go, if_neg h, if_neg (by rw [hk]; omega), hk, Int.toNat_natCast, hr]
  simp only [Option.getD_some]
  rw [if_pos hm]
theorem go_put {l : List Rule} {fin : Bool} {ah left : Nat} {A Z : List Int} {j : Nat} {r : Rule} (h : ¬ (Z.length = 0 ∨ (fin = false ∧ Z.length ≤ ah))) (hk : which l (A ++ Z) A.length = (j : Int)) (hr : l[j]? = some r) (hm : ¬ 4000 < A.length + (restOf r Z).length) : go l fin ah (left + 1) A Z = go l fin ah left (A ++ (restOf r Z).take r.cursor.toNat) ((restOf r Z).drop r.cursor.toNat) := by
  rw [go, if_neg h, if_neg (by rw [hk]; omega), hk, Int.toNat_natCast, hr]
  simp only [Option.getD_some]
  rw [if_neg hm]
/-- where nothing is wrong: no more steps are left, the text is not too long, what was ahead stays -/
theorem go_ok {l : List Rule} {fin : Bool} {ah : Nat} : ∀ {left : Nat} {A Z : List Int}, A.length + Z.length ≤ 4000 → (go l fin ah left A Z).1 = 0 → (go l fin ah left A Z).2.1 ≤ left ∧ (go l fin ah left A Z).2.2.1.length + (go l fin ah left A Z).2.2.2.length ≤ 4000 ∧ A.length ≤ (go l fin ah left A Z).2.2.1.length ∧ (fin = true → (go l fin ah left A Z).2.2.2.length = 0) := by
  intro left
  induction left with
  | zero =>
    intro A Z h4 h0
    rw [go] at h0 ⊢
    by_cases hs : Z.length = 0 ∨ (fin = false ∧ Z.length ≤ ah)
    · rw [if_pos hs]
      refine ⟨Nat.le_refl _, h4, Nat.le_refl _, fun hf => ?_⟩
      rcases hs with hs | ⟨hs, _⟩
      · exact hs
      · rw [hf] at hs; cases hs
    · rw [if_neg hs] at h0 ⊢
      by_cases hf : fin = true
      · rw [if_pos hf] at h0; simp at h0
      · rw [if_neg hf]
        exact ⟨Nat.le_refl _, h4, Nat.le_refl _, fun h => absurd h hf⟩
  | succ n ih =>
    intro A Z h4 h0
    by_cases hs : Z.length = 0 ∨ (fin = false ∧ Z.length ≤ ah)
    · rw [go_stop hs]
      refine ⟨Nat.le_refl _, h4, Nat.le_refl _, fun hf => ?_⟩
      rcases hs with hs | ⟨hs, _⟩
      · exact hs
      · rw [hf] at hs; cases hs
    · rw [go, if_neg hs] at h0 ⊢
      by_cases hk : which l (A ++ Z) A.length < 0
      · rw [if_pos hk] at h0 ⊢
        obtain ⟨h1, h2, h3, h5⟩ := ih (by simp; omega) h0
        exact ⟨by omega, h2, by rw [List.length_append] at h3; omega, h5⟩
      · rw [if_neg hk] at h0 ⊢
        simp only at h0 ⊢
        split
        · rename_i h6; rw [if_pos h6] at h0; simp at h0
        · rename_i h6
          rw [if_neg h6] at h0
          obtain ⟨h1, h2, h3, h5⟩ := ih (by simp; omega) h0
          exact ⟨by omega, h2, by rw [List.length_append] at h3; omega, h5⟩

/-- what there is between two pieces -/
structure St where
  A : List Int
  Z : List Int
  came : Nat
  steps : Nat
  told : List (List Int)
def start : St := ⟨[], [], 0, 0, []⟩
structure St.Ok (s : St) : Prop where
  few : s.A.length + s.Z.length ≤ 4000
  came : s.came ≤ 4000
  steps : s.steps ≤ 8 * s.came + 40
theorem start_ok : start.Ok := ⟨by simp [start], by simp [start], by simp [start]⟩
def left (s : St) (c : List Int) : Nat := 8 * (s.came + c.length) + 40 - s.steps
/-- a piece comes -/
def take (l : List Rule) (ah : Nat) (s : St) (c : List Int) : Int × St :=
  if 4000 < s.came + c.length ∨ 4000 < s.A.length + s.Z.length + c.length then (4, s)
  else if textE c ≠ 0 then (textE c, s)
  else ((go l false ah (left s c) s.A (s.Z ++ c)).1, ⟨(go l false ah (left s c) s.A (s.Z ++ c)).2.2.1, (go l false ah (left s c) s.A (s.Z ++ c)).2.2.2, s.came + c.length, 8 * (s.came + c.length) + 40 - (go l false ah (left s c) s.A (s.Z ++ c)).2.1, s.told ++ [(go l false ah (left s c) s.A (s.Z ++ c)).2.2.1.drop s.A.length]⟩)
theorem take_ok {l : List Rule} {ah : Nat} {s : St} {c : List Int} (_h : s.Ok) (h0 : (take l ah s c).1 = 0) : (take l ah s c).2.Ok := by
  unfold take at h0 ⊢
  by_cases h1 : 4000 < s.came + c.length ∨ 4000 < s.A.length + s.Z.length + c.length
  · rw [if_pos h1] at h0; simp at h0
  · rw [if_neg h1] at h0 ⊢
    by_cases h2 : textE c ≠ 0
    · rw [if_pos h2] at h0; exact absurd h0 h2
    · rw [if_neg h2] at h0 ⊢
      obtain ⟨g1, g2, _, _⟩ := go_ok (l := l) (fin := false) (ah := ah) (left := left s c) (A := s.A) (Z := s.Z ++ c) (by simp; omega) h0
      exact ⟨g2, by simp; omega, by simp⟩
def feed (l : List Rule) (ah : Nat) : Nat → List (List Int) → St → Int × Int × St
  | _, [], s => (0, 0, s)
  | k, c :: cs, s => if (take l ah s c).1 = 0 then feed l ah (k + 1) cs (take l ah s c).2 else ((take l ah s c).1, (k : Int), s)
theorem feed_drop {l : List Rule} {ah k : Nat} {cs : List (List Int)} {c : List Int} {s : St} (h : cs[k]? = some c) : feed l ah k (cs.drop k) s = if (take l ah s c).1 = 0 then feed l ah (k + 1) (cs.drop (k + 1)) (take l ah s c).2 else ((take l ah s c).1, (k : Int), s) := by
  have hlt := (List.getElem?_eq_some_iff.1 h).1
  rw [List.drop_eq_getElem_cons hlt]
  have : cs[k] = c := by rw [List.getElem?_eq_getElem hlt] at h; exact Option.some.inj h
  rw [this]; rfl
/-- all pieces -/
def all (l : List Rule) (ah : Nat) (cs : List (List Int)) : Int × Int × St :=
  if ¬ (rulesF l).1 = 0 then ((rulesF l).1, (rulesF l).2, start) else if 200 < cs.length then (5, 0, start) else feed l ah 0 cs start
/-- the end -/
def finish (l : List Rule) (ah : Nat) (s : St) : Int × List (List Int) :=
  ((go l true ah (8 * s.came + 40 - s.steps) s.A s.Z).1, s.told ++ [(go l true ah (8 * s.came + 40 - s.steps) s.A s.Z).2.2.1.drop s.A.length])
def feedF (l : List Rule) (ah : Nat) (cs : List (List Int)) : List (List Int) × Int × Int :=
  if ¬ (all l ah cs).1 = 0 then ([], (all l ah cs).1, (all l ah cs).2.1)
  else if ¬ (finish l ah (all l ah cs).2.2).1 = 0 then ([], (finish l ah (all l ah cs).2.2).1, (cs.length : Int))
  else ((finish l ah (all l ah cs).2.2).2, 0, 0)
def waitF (l : List Rule) (ah : Nat) (cs : List (List Int)) : Int × Int × Int :=
  if ¬ (all l ah cs).1 = 0 then (0, (all l ah cs).1, (all l ah cs).2.1) else (((all l ah cs).2.2.Z.length : Int), 0, 0)
end Go.Proofs.Ytackaadejnbfmaa.Ws

/-
  What slices.Replace makes of a text of the call's own, where something stands behind.
-/
namespace Go.Proofs.Ytackaadejnbfmaa
open Go.RowKit Go.Lib
set_option maxRecDepth 20000
set_option linter.unusedSimpArgs false
set_option linter.unusedVariables false

namespace K
/-- copy of a slice of runes into the row -/
theorem Row.copyR {w : World} {g : Nat} {cur : List Value} (h : Row w g cur) (o dl dc : Nat) (vr : Value) (R : List Int) (hR : L.Rd w vr .i32 R) (hd : R.length ≤ dl) (hfit : o + R.length ≤ cur.length) :
    ∃ W, (∀ ty, (Builtin.copy_ #[23, 23] ty #[.slice (some ⟨g, o, none⟩) dl dc, vr]).run Try.prog w = .ok (goInt R.length) W) ∧ Row W g (spl cur o (ints R)) ∧ w.grownBy W (some g) := by
  obtain ⟨ao, c, rfl, hn, hc⟩ := hR
  by_cases h0 : R = []
  · subst h0
    exact ⟨w, fun ty => copy_nothing w _ _ _ _ _ ty, by simpa [spl, ints] using h, ⟨rfl, rfl, rfl, Nat.le_refl _, fun _ _ _ => rfl⟩⟩
  · obtain ⟨b, off, rfl, hcell⟩ := hc h0
    obtain ⟨W, h1, h2, h3⟩ := h.copy o dl dc ⟨b, off, none⟩ R.length c (ints R) (by rw [ints_length, Nat.min_eq_left hd]) (fun j u hj => by
      obtain ⟨z, hz, rfl⟩ := ints_get hj
      rw [L.addr_add]; exact hcell j z hz) (by rw [ints_length]; exact hfit) (ints_one R)
    exact ⟨W, fun ty => by rw [h1 ty, ints_length], h2, h3⟩
theorem clear0 (w : World) (ao : Option Addr) (c : Nat) (ty : TypeId) : (Builtin.clear_ #[23] ty #[.slice ao 0 c]).run Try.prog w = .ok (.tuple #[]) w := by
  obtain ⟨i0, hi, hz0, hz1, hz2⟩ := info_parts Try.infoI32
  have hv : ∀ w, (zeroValue 21).run Try.prog w = .ok (.int .i32 0) w := fun w => by simp [zeroValue, typeInfo, hi, hz0]
  cases ao <;> simp [Builtin.clear_, run_underlying Try.underlying23, hv, Builtin.zeroCells, storeCells]
/-- the text behind, read in a row that keeps it -/
theorem Row.rdBehind {w : World} {g : Nat} {cur : List Value} (h : Row w g cur) {T : List Int} {j D c : Nat} (hN : T.length = j + D) (hd : ∀ k, k < D → cur[j + k]? = (ints T)[j + k]?) : L.Rd w (.slice (some ⟨g, j, none⟩) D c) .i32 (T.drop j) := by
  refine ⟨some ⟨g, j, none⟩, c, (by rw [List.length_drop, hN]; congr 1; omega), (fun e => by cases e), fun _ => ⟨g, j, rfl, fun k z hk => ?_⟩⟩
  have hlt : k < D := by
    have := (List.getElem?_eq_some_iff.1 hk).1
    rw [List.length_drop] at this; omega
  rw [h.cell, hd k hlt]
  rw [List.getElem?_drop] at hk
  unfold ints
  rw [List.getElem?_map, hk]; rfl
theorem grown_drew (w : World) (r : Option Nat) : w.grownBy w.drew r := ⟨rfl, rfl, rfl, Nat.le_refl _, fun _ _ _ => rfl⟩
end K

set_option maxHeartbeats 8000000 in
theorem repl_in (w : World) (g : Nat) (cur : List Value) (h : K.Row w g cur) (T : List Int) (hT : T.length ≤ cur.length) (hcap : cur.length ≤ maxLen) (hcur : cur.take T.length = K.ints T) (h4 : T.length ≤ 4000) (i j D : Nat) (hi : i < j) (hN : T.length = j + D) (hD : 0 < D) (vr : Value) (R : List Int) (hR : ∀ w', w.grownBy w' (some g) → L.Rd w' vr .i32 R) (hfit : i + R.length ≤ j) :
    Calls Try.prog 89 #[.slice (some ⟨g, 0, none⟩) T.length cur.length, .int .i64 (i : Int), .int .i64 (j : Int), vr] w fun e w' => e = .returned (.slice (some ⟨g, 0, none⟩) (i + R.length + D) cur.length) ∧ K.OwnT w' g cur.length (T.take i ++ R ++ T.drop j) ∧ w.grownBy w' (some g) := by
  have hgetT : ∀ k, k < T.length → cur[k]? = (K.ints T)[k]? := fun k hk => by rw [← hcur, List.getElem?_take, if_pos hk]
  have gr0 : w.grownBy w.drew (some g) := K.grown_drew w _
  obtain ⟨W1, hrun1, row1, gr1⟩ := h.drew.copyR i (i + R.length + D - i) (cur.length - i) vr R (hR _ gr0) (by omega) (by omega)
  have hsp1 : (K.spl cur i (K.ints R)).length = cur.length := K.spl_length (by rw [K.ints_length]; omega)
  have hRd : L.Rd W1.drew (.slice (some ⟨g, j, none⟩) D (cur.length - j)) .i32 (T.drop j) := row1.drew.rdBehind hN fun k hk => by
    have e : (K.spl cur i (K.ints R)).drop j = cur.drop j := K.spl_drop (by omega) (by rw [K.ints_length]; omega)
    have e2 := congrArg (fun l : List Value => l[k]?) e
    simp only [List.getElem?_drop] at e2
    rw [e2]
    exact hgetT _ (by omega)
  obtain ⟨W2, hrun2, row2, gr2⟩ := row1.drew.copyR (i + R.length) D (cur.length - (i + R.length)) _ (T.drop j) hRd (by rw [List.length_drop]; omega) (by rw [List.length_drop, hsp1]; omega)
  have hdl : (T.drop j).length = D := by rw [List.length_drop]; omega
  have hsp2 : (K.spl (K.spl cur i (K.ints R)) (i + R.length) (K.ints (T.drop j))).length = cur.length := by rw [K.spl_length (by rw [K.ints_length, hdl, hsp1]; omega)]; exact hsp1
  have htk : (K.spl (K.spl cur i (K.ints R)) (i + R.length) (K.ints (T.drop j))).take (i + R.length + D) = K.ints (T.take i ++ R ++ T.drop j) := by
    have e1 := K.spl_upto (cur := K.spl cur i (K.ints R)) (o := i + R.length) (vs := K.ints (T.drop j)) (by rw [hsp1]; omega)
    have e2 := K.spl_upto (cur := cur) (o := i) (vs := K.ints R) (by omega)
    rw [K.ints_length, hdl] at e1
    rw [K.ints_length] at e2
    rw [e1, e2]
    have h2 : cur.take i = (cur.take T.length).take i := by rw [List.take_take, Nat.min_eq_left (by omega)]
    rw [h2, hcur]
    unfold K.ints
    rw [List.map_append, List.map_append, List.map_take]
  have hT' : (T.take i ++ R ++ T.drop j).length = i + R.length + D := by simp; omega
  rw [hdl] at hrun2
  have hs0 := K.slice_mid (some ⟨g, 0, none⟩) T.length cur.length i j (by omega) (by omega)
  have hs1 := K.slice_upto (some ⟨g, 0, none⟩) T.length cur.length i (by omega)
  have hsj := K.slice_from (some ⟨g, 0, none⟩) T.length cur.length j (by omega) hT
  rw [if_neg (by omega), Option.map_some, L.addr_add, Nat.zero_add, show T.length - j = D by omega] at hsj
  have hstot := K.slice_upto (some ⟨g, 0, none⟩) T.length cur.length (i + R.length + D) (by omega)
  have hri := K.slice_from (some ⟨g, 0, none⟩) (i + R.length + D) cur.length i (by omega) (by omega)
  rw [if_neg (by omega), Option.map_some, L.addr_add, Nat.zero_add] at hri
  have hrim := K.slice_from (some ⟨g, 0, none⟩) (i + R.length + D) cur.length (i + R.length) (by omega) (by omega)
  rw [if_neg (by omega), Option.map_some, L.addr_add, Nat.zero_add, show i + R.length + D - (i + R.length) = D by omega] at hrim
  have gr02 : w.grownBy W2 (some g) := S.grown_trans (S.grown_trans gr0 gr1) (S.grown_trans (K.grown_drew _ _) gr2)
  have hne : ¬ (i : Int) = j := by omega
  have hne2 : ¬ (j : Int) = T.length := by omega
  obtain ⟨ao, c, rfl, _⟩ := hR w ⟨rfl, rfl, rfl, Nat.le_refl _, fun _ _ _ => rfl⟩
  unfold maxLen at hcap
  have HF0 : Hid (K.Row W2 g (K.spl (K.spl cur i (K.ints R)) (i + R.length) (K.ints (T.drop j))) ∧ (K.spl (K.spl cur i (K.ints R)) (i + R.length) (K.ints (T.drop j))).take (i + R.length + D) = K.ints (T.take i ++ R ++ T.drop j) ∧ w.grownBy W2 (some g)) := ⟨row2, htk, gr02⟩
  have hN1 : T.length ≤ j + D := by omega
  have hN2 : j + D ≤ T.length := by omega
  clear hgetT row1 gr0 gr1 gr2 gr02 htk h hcur hR hRd hdl hN
  by_cases hlt : i + R.length + D < T.length
  · obtain ⟨W3, hrun3, row3, gr3⟩ := row2.clear (i + R.length + D) (T.length - (i + R.length + D)) (cur.length - (i + R.length + D)) (by omega) (by rw [hsp2]; omega)
    have hclr := K.slice_from (some ⟨g, 0, none⟩) T.length cur.length (i + R.length + D) (by omega) hT
    rw [if_neg (by omega), Option.map_some, L.addr_add, Nat.zero_add] at hclr
    have HF : Hid (K.OwnT W3 g cur.length (T.take i ++ R ++ T.drop j) ∧ w.grownBy W3 (some g)) := by
      refine ⟨⟨_, row3, by rw [K.spl_length (by rw [hsp2]; simp; omega)]; exact hsp2, by rw [hT']; omega, by unfold maxLen; omega, ?_⟩, S.grown_trans HF0.out.2.2 gr3⟩
      rw [hT', K.spl_take (by rw [hsp2]; omega)]
      exact HF0.out.2.1
    clear row2 row3 gr3 hsp1 hsp2 HF0
    go_enter Try.func89, Try.ntmps89
    go_wp2
    go_region
    go_wp2_with (at_builtin; first | refine K.wpl_copy _ rfl _ _ _ _ rfl _ _ rfl rfl (hrun1 _) ?_)
    clear hrun1
    go_region
    clear hrun2
    go_wp2_with (at_builtin; first | refine K.wpl_clear _ rfl _ _ rfl _ rfl (hrun3 _) ?_)
    go_ret
    exact ⟨rfl, HF.out⟩
  · have hfull : i + R.length + D = T.length := by omega
    have HF : Hid (K.OwnT W2 g cur.length (T.take i ++ R ++ T.drop j) ∧ w.grownBy W2 (some g)) := ⟨⟨_, row2, hsp2, by rw [hT']; omega, by unfold maxLen; omega, by rw [hT']; exact HF0.out.2.1⟩, HF0.out.2.2⟩
    have hrun3 := K.clear0 W2
    have hf1 : T.length ≤ i + R.length + D := by omega
    have hf2 : i + R.length + D ≤ T.length := by omega
    clear row2 hsp1 hsp2 HF0 hfull hlt
    go_enter Try.func89, Try.ntmps89
    go_wp2
    go_region
    go_wp2_with (at_builtin; first | refine K.wpl_copy _ rfl _ _ _ _ rfl _ _ rfl rfl (hrun1 _) ?_)
    clear hrun1
    go_region
    clear hrun2
    go_wp2_with (at_builtin; first | refine K.wpl_clear _ rfl _ _ rfl _ rfl (hrun3 _ _ _) ?_)
    all_goals
      go_ret
      have hh := HF.out
      first
        | exact ⟨rfl, hh⟩
        | (simp only [List.append_assoc] at hh; exact ⟨rfl, hh⟩)
        | (simp only [List.append_assoc] at hh; rw [show cur.length = i + R.length + D by assumption] at hh; exact ⟨rfl, hh⟩)

end Go.Proofs.Ytackaadejnbfmaa
