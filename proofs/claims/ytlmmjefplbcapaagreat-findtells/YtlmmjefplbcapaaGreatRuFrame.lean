/-
  One rule at one place: what is wrong with it, whether it matches, and what comes in its place: plain functions.
-/
import Derived.Test.YtlmmjefplbcapaaGreatKRight
import Derived.Test.YtlmmjefplbcapaaGreatSFrame
import Derived.Laws.OwnMore
import Derived.Test.YtlmmjefplbcapaaGreatKI32
import Derived.Deep.Slices
import Derived.SizedLaws
namespace Go.Proofs.YtlmmjefplbcapaaGreat.K
open S (Sp)

structure Rule where
  start : Bool
  fin : Bool
  before : List (List Sp)
  source : List (List Sp)
  after : List (List Sp)
  target : List Int
  cursor : Int

/-- the first set with which something is wrong -/
def firstE : List (List Sp) → Int
  | [] => 0
  | s :: l => if S.wrongE s = 0 then firstE l else S.wrongE s
def setsE (l : List (List Sp)) : Int := if 20 < l.length then 5 else firstE l
def tailE (r : Rule) : Int :=
  if r.source.length = 0 then 6 else if 20 < r.target.length then 5
  else if allR r.target = false then 3 else if r.cursor < 0 then 3 else if (r.target.length : Int) < r.cursor then 3 else 0
def ruleE (r : Rule) : Int :=
  if setsE r.before ≠ 0 then setsE r.before else if setsE r.source ≠ 0 then setsE r.source else if setsE r.after ≠ 0 then setsE r.after else tailE r


theorem firstE_drop {l : List (List Sp)} {k : Nat} {s : List Sp} (h : l[k]? = some s) : firstE (l.drop k) = if S.wrongE s = 0 then firstE (l.drop (k + 1)) else S.wrongE s := by
  have hlt := (List.getElem?_eq_some_iff.1 h).1
  rw [List.drop_eq_getElem_cons hlt]
  have : l[k] = s := by rw [List.getElem?_eq_getElem hlt] at h; exact Option.some.inj h
  rw [this]; rfl
theorem firstE_zero {l : List (List Sp)} : firstE l = 0 ↔ ∀ s ∈ l, S.wrongE s = 0 := by
  induction l with
  | nil => simp [firstE]
  | cons s l ih =>
    rw [firstE]
    by_cases h : S.wrongE s = 0
    · simp [h, ih]
    · simp [h]
/-- sets with which nothing is wrong -/
def Good (l : List (List Sp)) : Prop := l.length ≤ 20 ∧ ∀ s ∈ l, S.Nf 0 s ∧ s.length ≤ 200
theorem setsE_zero {l : List (List Sp)} : setsE l = 0 ↔ Good l := by
  unfold setsE Good
  by_cases h : 20 < l.length
  · rw [if_pos h]
    exact ⟨fun h => absurd h (by decide), fun h => by omega⟩
  · rw [if_neg h, firstE_zero]
    exact ⟨fun h' => ⟨by omega, fun s hs => ⟨(S.wrongE_zero.1 (h' s hs)).2, (S.wrongE_zero.1 (h' s hs)).1⟩⟩, fun h' s hs => S.wrongE_zero.2 ⟨(h'.2 s hs).2, (h'.2 s hs).1⟩⟩
theorem ruleE_zero {r : Rule} (h : ruleE r = 0) : Good r.before ∧ Good r.source ∧ Good r.after ∧ 0 < r.source.length ∧ r.target.length ≤ 20 ∧ allR r.target = true ∧ 0 ≤ r.cursor ∧ r.cursor ≤ r.target.length := by
  unfold ruleE at h
  by_cases h1 : setsE r.before = 0
  · rw [if_neg (by simp [h1])] at h
    by_cases h2 : setsE r.source = 0
    · rw [if_neg (by simp [h2])] at h
      by_cases h3 : setsE r.after = 0
      · rw [if_neg (by simp [h3])] at h
        refine ⟨setsE_zero.1 h1, setsE_zero.1 h2, setsE_zero.1 h3, ?_⟩
        unfold tailE at h
        by_cases h4 : r.source.length = 0
        · rw [if_pos h4] at h; exact absurd h (by decide)
        · rw [if_neg h4] at h
          by_cases h5 : 20 < r.target.length
          · rw [if_pos h5] at h; exact absurd h (by decide)
          · rw [if_neg h5] at h
            by_cases h6 : allR r.target = false
            · rw [if_pos h6] at h; exact absurd h (by decide)
            · rw [if_neg h6] at h
              by_cases h7 : r.cursor < 0
              · rw [if_pos h7] at h; exact absurd h (by decide)
              · rw [if_neg h7] at h
                by_cases h8 : (r.target.length : Int) < r.cursor
                · rw [if_pos h8] at h; exact absurd h (by decide)
                · exact ⟨by omega, by omega, by simpa using h6, by omega, by omega⟩
      · rw [if_pos h3] at h; exact absurd h h3
    · rw [if_pos h2] at h; exact absurd h h2
  · rw [if_pos h1] at h; exact absurd h h1
theorem textE_zero {l : List Int} (h : textE l = 0) : l.length ≤ 4000 := by
  unfold textE at h
  by_cases h1 : 4000 < l.length
  · rw [if_pos h1] at h; exact absurd h (by decide)
  · omega

/-- the sets have the runes from k on, one by one, and these are there -/
def runAt (t : List Int) : Int → List (List Sp) → Bool
  | _, [] => true
  | k, s :: l => (decide (0 ≤ k) && decide (k < t.length) && S.memb s (t.getD k.toNat 0)) && runAt t (k + 1) l
def matchB (r : Rule) (t : List Int) (at_ : Int) : Bool :=
  runAt t (at_ - r.before.length) (r.before ++ r.source ++ r.after) && !(r.start && decide (0 < at_ - r.before.length)) && !(r.fin && decide (at_ + r.source.length + r.after.length < t.length))
def putL (r : Rule) (t : List Int) (at_ : Int) : List Int := t.take at_.toNat ++ r.target ++ t.drop (at_.toNat + r.source.length)

theorem runAt_append (t : List Int) (a b : List (List Sp)) : ∀ k, runAt t k (a ++ b) = (runAt t k a && runAt t (k + a.length) b) := by
  induction a with
  | nil => intro k; simp [runAt]
  | cons s a ih =>
    intro k
    rw [List.cons_append, runAt, runAt, ih, List.length_cons]
    rw [show k + 1 + (a.length : Int) = k + ((a.length + 1 : Nat) : Int) by omega]
    simp only [Bool.and_assoc]
theorem runAt_room {t : List Int} {l : List (List Sp)} : ∀ {k}, runAt t k l = true → l ≠ [] → 0 ≤ k ∧ k + l.length ≤ t.length := by
  induction l with
  | nil => intro k _ h; exact absurd rfl h
  | cons s l ih =>
    intro k h _
    rw [runAt] at h
    simp only [Bool.and_eq_true, decide_eq_true_eq] at h
    by_cases hl : l = []
    · subst hl; simp only [List.length_cons, List.length_nil]; omega
    · have := ih h.2 hl
      simp only [List.length_cons]
      omega
theorem runAt_drop {t : List Int} {l : List (List Sp)} {i : Nat} {s : List Sp} {k : Int} (h : l[i]? = some s) : runAt t (k + i) (l.drop i) = ((decide (0 ≤ k + i) && decide (k + i < t.length) && S.memb s (t.getD (k + i).toNat 0)) && runAt t (k + (i + 1 : Nat)) (l.drop (i + 1))) := by
  have hlt := (List.getElem?_eq_some_iff.1 h).1
  rw [List.drop_eq_getElem_cons hlt]
  have : l[i] = s := by rw [List.getElem?_eq_getElem hlt] at h; exact Option.some.inj h
  rw [this, runAt]
  rw [show k + (i : Int) + 1 = k + ((i + 1 : Nat) : Int) by omega]

/-- as the program reckons it: first the room, then the sets -/
theorem match_no {r : Rule} {t : List Int} {at_ : Int} (hs : 0 < r.source.length)
    (h : at_ - r.before.length < 0 ∨ (t.length : Int) - at_ - r.source.length - r.after.length < 0 ∨ (r.start = true ∧ 0 < at_ - r.before.length) ∨ (r.fin = true ∧ 0 < (t.length : Int) - at_ - r.source.length - r.after.length)) : matchB r t at_ = false := by
  unfold matchB
  cases hr : runAt t (at_ - r.before.length) (r.before ++ r.source ++ r.after) with
  | false => simp
  | true =>
    have hne : r.before ++ r.source ++ r.after ≠ [] := by
      intro he
      have := congrArg List.length he
      simp only [List.length_append, List.length_nil] at this
      omega
    have hm := runAt_room hr hne
    simp only [List.length_append] at hm
    rcases h with h | h | ⟨h1, h2⟩ | ⟨h1, h2⟩
    · omega
    · omega
    · simp [h1]; omega
    · simp [h1]; intro _; omega
theorem match_room {r : Rule} {t : List Int} {at_ : Int}
    (h3 : ¬ (r.start = true ∧ 0 < at_ - r.before.length)) (h4 : ¬ (r.fin = true ∧ 0 < (t.length : Int) - at_ - r.source.length - r.after.length)) :
    matchB r t at_ = (runAt t (at_ - r.before.length) r.before && runAt t at_ r.source && runAt t (at_ + r.source.length) r.after) := by
  unfold matchB
  rw [runAt_append, runAt_append]
  have e1 : at_ - (r.before.length : Int) + r.before.length = at_ := by omega
  have e2 : at_ - (r.before.length : Int) + ((r.before ++ r.source).length : Nat) = at_ + r.source.length := by rw [List.length_append]; omega
  rw [e1, e2]
  have e3 : (!(r.start && decide (0 < at_ - (r.before.length : Int)))) = true := by
    cases hs : r.start with
    | false => rfl
    | true => have : ¬ (0 < at_ - (r.before.length : Int)) := fun h => h3 ⟨hs, h⟩; simp; omega
  have e4 : (!(r.fin && decide (at_ + r.source.length + r.after.length < (t.length : Int)))) = true := by
    cases hs : r.fin with
    | false => rfl
    | true => have : ¬ (0 < (t.length : Int) - at_ - r.source.length - r.after.length) := fun h => h4 ⟨hs, h⟩; simp; omega
  rw [e3, e4]
  simp
/-- where it matches there is room -/
theorem match_in {r : Rule} {t : List Int} {at_ : Int} (hs : 0 < r.source.length) (h : matchB r t at_ = true) : 0 ≤ at_ - r.before.length ∧ at_ + r.source.length + r.after.length ≤ t.length := by
  unfold matchB at h
  simp only [Bool.and_eq_true] at h
  have hne : r.before ++ r.source ++ r.after ≠ [] := by
    intro he
    have := congrArg List.length he
    simp only [List.length_append, List.length_nil] at this
    omega
  have hm := runAt_room h.1.1 hne
  simp only [List.length_append] at hm
  omega
theorem put_length {r : Rule} {t : List Int} {at_ : Int} (h0 : 0 ≤ at_) (h1 : at_ + r.source.length ≤ t.length) : ((putL r t at_).length : Int) = t.length - r.source.length + r.target.length := by
  unfold putL
  simp only [List.length_append, List.length_take, List.length_drop]
  omega

end Go.Proofs.YtlmmjefplbcapaaGreat.K

/-
  Lists of sets, and rules, in memory: what reads as such.
-/
namespace Go.Proofs.YtlmmjefplbcapaaGreat.K
open Go.RowKit

def I64 (n : Int) : Prop := -9223372036854775808 ≤ n ∧ n ≤ 9223372036854775807

/-- a value reads as a set -/
def SetIs (w : World) (u : Value) (s : List S.Sp) : Prop := (∃ so sc, u = .slice so s.length sc) ∧ S.Rd w u s ∧ S.Fit s
/-- values read as sets, one by one -/
def Sets (w : World) (vs : List Value) (l : List (List S.Sp)) : Prop := vs.length = l.length ∧ ∀ (j : Nat) u s, vs[j]? = some u → l[j]? = some s → SetIs w u s
/-- A SLICE VALUE READS AS A LIST OF SETS. -/
def Ss (w : World) (v : Value) (l : List (List S.Sp)) : Prop :=
  ∃ ao cap vs, v = .slice ao l.length cap ∧ (ao = none → cap = 0) ∧ l.length ≤ 140737488355328 ∧ Sets w vs l ∧ (l ≠ [] → ∃ b off, ao = some ⟨b, off, none⟩ ∧ ∀ (j : Nat) u, vs[j]? = some u → w.cell? ⟨b, off + j, none⟩ = some u)

theorem SetIs.below {w w' : World} {u : Value} {s : List S.Sp} (h : SetIs w u s) (hb : Below w.heap.size w w') : SetIs w' u s := ⟨h.1, h.2.1.below hb (Nat.le_refl _), h.2.2⟩
theorem Sets.below {w w' : World} {vs : List Value} {l : List (List S.Sp)} (h : Sets w vs l) (hb : Below w.heap.size w w') : Sets w' vs l := ⟨h.1, fun j u s hu hs => (h.2 j u s hu hs).below hb⟩
theorem Ss.below {w w' : World} {v : Value} {l : List (List S.Sp)} (h : Ss w v l) (hb : Below w.heap.size w w') : Ss w' v l := by
  obtain ⟨ao, cap, vs, rfl, hn, hl, hs, hc⟩ := h
  refine ⟨ao, cap, vs, rfl, hn, hl, hs.below hb, fun hz => ?_⟩
  obtain ⟨b, off, rfl, hc2⟩ := hc hz
  refine ⟨b, off, rfl, fun j u hj => ?_⟩
  have h1 := hc2 j u hj
  have := L.block_lt h1
  rw [hb.cell (p := ⟨b, off + j, none⟩) this]; exact h1
theorem Ss.len {w : World} {v : Value} {l : List (List S.Sp)} (h : Ss w v l) : ∃ ao cap, v = .slice ao l.length cap := by
  obtain ⟨ao, cap, vs, rfl, _⟩ := h; exact ⟨ao, cap, rfl⟩
theorem Ss.few {w : World} {v : Value} {l : List (List S.Sp)} (h : Ss w v l) : l.length ≤ 140737488355328 := by
  obtain ⟨ao, cap, vs, rfl, _, h, _⟩ := h; exact h
/-- one of the sets -/
theorem Ss.at {w : World} {ao : Option Addr} {n cap : Nat} {l : List (List S.Sp)} (h : Ss w (.slice ao n cap) l) {j : Nat} {s : List S.Sp} (hj : l[j]? = some s) :
    ∃ b off so sc, ao = some ⟨b, off, none⟩ ∧ w.cell? ⟨b, off + j, none⟩ = some (.slice so s.length sc) ∧ S.Rd w (.slice so s.length sc) s ∧ S.Fit s := by
  obtain ⟨ao', cap', vs, he, hn, hl, hs, hc⟩ := h
  cases he
  obtain ⟨b, off, rfl, hc2⟩ := hc (by intro h; subst h; simp at hj)
  have hlt : j < vs.length := by rw [hs.1]; exact (List.getElem?_eq_some_iff.1 hj).1
  obtain ⟨u, hu⟩ : ∃ u, vs[j]? = some u := ⟨vs[j], by simp⟩
  obtain ⟨⟨so, sc, rfl⟩, h2, h3⟩ := hs.2 j u s hu hj
  exact ⟨b, off, so, sc, rfl, hc2 j _ hu, h2, h3⟩
theorem Sets.append {w : World} {us vs : List Value} {l m : List (List S.Sp)} (h : Sets w us l) (h' : Sets w vs m) : Sets w (us ++ vs) (l ++ m) := by
  refine ⟨by simp [h.1, h'.1], fun j u s hu hs => ?_⟩
  by_cases hj : j < us.length
  · rw [List.getElem?_append_left hj] at hu
    rw [List.getElem?_append_left (by rw [← h.1]; exact hj)] at hs
    exact h.2 j u s hu hs
  · rw [List.getElem?_append_right (by omega)] at hu
    rw [List.getElem?_append_right (by rw [← h.1]; omega), ← h.1] at hs
    exact h'.2 _ u s hu hs
theorem Sets.one {w : World} {vs : List Value} {l : List (List S.Sp)} (h : Sets w vs l) {u : Value} (hu : u ∈ vs) : u.oneCell' = true := by
  obtain ⟨j, hj⟩ := List.getElem?_of_mem hu
  have hlt : j < l.length := by rw [← h.1]; exact (List.getElem?_eq_some_iff.1 hj).1
  obtain ⟨s, hs⟩ : ∃ s, l[j]? = some s := ⟨l[j], by simp⟩
  obtain ⟨⟨so, sc, rfl⟩, _⟩ := h.2 j u s hj hs
  rfl

/-! boxes -/
/-- a rule's value: seven cells -/
def RuIs (w : World) (v : Value) (r : Rule) : Prop :=
  ∃ bo bc so sc ao ac tgo tc, v = .agg #[.bool r.start, .bool r.fin, .slice bo r.before.length bc, .slice so r.source.length sc, .slice ao r.after.length ac, .slice tgo r.target.length tc, .int .i64 r.cursor] ∧
    Ss w (.slice bo r.before.length bc) r.before ∧ Ss w (.slice so r.source.length sc) r.source ∧ Ss w (.slice ao r.after.length ac) r.after ∧ L.Rd w (.slice tgo r.target.length tc) .i32 r.target ∧ r.target.length ≤ 140737488355328 ∧ I64 r.cursor
theorem RuIs.below {w w' : World} {v : Value} {r : Rule} (h : RuIs w v r) (hb : Below w.heap.size w w') : RuIs w' v r := by
  obtain ⟨bo, bc, so, sc, ao, ac, tgo, tc, rfl, h1, h2, h3, h4, h5⟩ := h
  exact ⟨bo, bc, so, sc, ao, ac, tgo, tc, rfl, h1.below hb, h2.below hb, h3.below hb, h4.below hb (Nat.le_refl _), h5⟩

end Go.Proofs.YtlmmjefplbcapaaGreat.K

/-
  What comes in as a text; how long it is at most.
-/
namespace Go.Proofs.YtlmmjefplbcapaaGreat
open Go.ChangeShapes Go.WideShapes Go.ChangeAt Go.RowKit

theorem Tryz.bytesI32 : Tryz.prog.bytesOf 21 = 4 := by kernel_rfl
theorem K.weights_all {H : Type} {P : Program} {e : TypeId} {d : DataW H} : ∀ {l : List (DataW H)}, d ∈ l → ∀ n ∈ d.weights P e, n ∈ DataW.weightsAll P e l
  | x :: r, h, n, hn => by
    simp only [DataW.weightsAll, List.mem_append]
    rcases List.mem_cons.1 h with rfl | h
    · exact .inl hn
    · exact .inr (weights_all h n hn)

/-- cells that read as a slice of runes -/
theorem runes_cells {H : Type} {enc : TypeId × Value → H} {W : World} {fuel : Nat} {cs : List Value} {x : DataW H × List MemPlace} (h : DataW.trod enc Tryz.prog W 0 (fun _ => true) true fuel 23 cs = some x) (hw : ∀ n ∈ x.1.weights Tryz.prog 23, n ≤ reachBytes) :
    ∃ sp c zs, cs = [.slice sp (List.length zs) c] ∧ L.Rd W (.slice sp zs.length c) .i32 zs ∧ zs.length ≤ 140737488355328 ∧ zs.length ≤ c := by
  rcases open_ints Tryz.underlying23 Tryz.underlying21 (by kernel_rfl) h with ⟨hcs, hx⟩ | ⟨a, len, cap, zs, hcs, _, hl, hm, hz, hx, hcell, hwz⟩
  · exact ⟨none, 0, [], hcs, ⟨none, 0, rfl, fun _ => rfl, fun h => absurd rfl h⟩, by simp, by simp⟩
  · subst hx
    simp only [if_true] at hz
    have hlt : (zs.take len).length = len := by rw [List.length_take]; omega
    have h1 := hw ((zs.take len).length * 4 + (zs.drop len).length * 4) (by
      simp only [DataW.weights, Tryz.underlying23, Tryz.bytesI32, lits, List.length_map]
      rw [← Nat.add_mul]
      exact List.mem_cons_self)
    refine ⟨some a, cap, zs.take len, by rw [hcs, hlt], ⟨_, cap, rfl, (fun h => by cases h), fun hne => ?_⟩, by unfold reachBytes at h1; omega, by omega⟩
    have h0 : 0 < zs.length := by
      cases zs with
      | nil => simp at hne
      | cons => simp
    obtain ⟨b, off, rfl, _⟩ := ints_at hcell h0
    refine ⟨b, off, rfl, fun j z hj => ?_⟩
    have hj2 : j < zs.length := by
      have := (List.getElem?_eq_some_iff.1 hj).1
      rw [hlt] at this
      omega
    have h3 := hcell j hj2
    rw [L.addr_add] at h3
    rw [h3]
    have h4 : zs[j]? = some z := by
      rw [List.getElem?_take] at hj
      split at hj
      · exact hj
      · simp at hj
    simp [List.getD, h4]

end Go.Proofs.YtlmmjefplbcapaaGreat
