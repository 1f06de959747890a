/-
  Texts that are handed in: what reads as a list of them.
-/
import Derived.Test.YtbclmmkphjknaaaWRd
import Derived.Test.YtbclmmkphjknaaaRows
import Derived.Sort.Lot0
namespace Go.Proofs.Ytbclmmkphjknaaa
open Go.ChangeShapes Go.WideShapes Go.ChangeAt Go.RowKit
set_option linter.unusedVariables false
set_option linter.unusedSimpArgs false

theorem Try.bytesTxt : Try.prog.bytesOf 22 = 24 := by kernel_rfl
set_option maxRecDepth 100000 in
theorem texts_rd {H : Type} {enc : TypeId × Value → H} {W : World} {base : Nat} {v : Value} {d : DataW H} {p : List MemPlace}
    (hv : Value.okWide Try.prog W .any base 33 v) (h : DataW.Trod enc Try.prog W 0 (fun _ => true) true 33 v d p) (hw : ∀ n ∈ d.weights Try.prog 33, n ≤ reachBytes) :
    ∃ l : List (List Int), Ws.Rd W v l ∧ (∀ c ∈ l, c.length ≤ 140737488355328) ∧ l.length ≤ 140737488355328 := by
  obtain ⟨a0, len0, cap0, rfl⟩ := okWide_slice Try.underlying33 hv
  obtain ⟨fuel, hf⟩ := h
  have ce : Try.prog.cellsOf 22 = 1 := by kernel_rfl
  rcases Go.Deep.open_slice Try.underlying33 hf with ⟨hcs, hx⟩ | ⟨a, len, cap, m, n, D, Pl, hcs, _, hl, hm, hmm, hx, hcell⟩
  · simp [Value.cells] at hcs
    obtain ⟨rfl, rfl, rfl⟩ := hcs
    exact ⟨[], ⟨none, 0, rfl, fun _ => rfl, fun h => absurd rfl h⟩, fun c hc => by (cases hc), by simp⟩
  · simp [Value.cells] at hcs
    obtain ⟨rfl, rfl, rfl⟩ := hcs
    simp only [Prod.mk.injEq] at hx
    obtain ⟨rfl, rfl⟩ := hx
    simp only [if_true] at hmm
    subst hmm
    have hlen : len0 ≤ 140737488355328 := by
      have h1 := hw ((((List.range len0).map D).length + ((List.range (m - len0)).map fun j => D (len0 + j)).length) * 24) (by
        simp only [DataW.weights, Try.underlying33, Try.bytesTxt]
        exact List.mem_cons_self)
      simp only [List.length_map, List.length_range, reachBytes] at h1
      omega
    have each : ∀ i, i < len0 → ∃ q : List Int × Value, W.cell? (a.add i) = some q.2 ∧ L.Rd W q.2 .i32 q.1 ∧ q.1.length ≤ 140737488355328 := fun i hi => by
      obtain ⟨cs', h1, h2⟩ := hcell i (by omega)
      rw [ce] at h1
      obtain ⟨_, hlen', hcl⟩ := World.cells?_some h1
      obtain ⟨sp, c, zs, rfl, hrd, hz, _⟩ := runes_cells h2 fun n hn => hw n (by
        simp only [DataW.weights, Try.underlying33]
        refine List.mem_cons_of_mem _ (List.mem_append_left _ ?_)
        exact K.weights_all (d := D i) (List.mem_map.2 ⟨i, by simpa using hi, rfl⟩) _ hn)
      have e0 := hcl 0 (by omega)
      rw [Go.Deep.add_add] at e0
      exact ⟨(zs, _), by simpa using e0, hrd, hz⟩
    have hne : Inhabited (List Int × Value) := ⟨([], .nilFunc)⟩
    obtain ⟨q, hq⟩ := Go.Deep.choose_lt each
    refine ⟨(List.range len0).map fun i => (q i).1, ⟨some a, m, by simp, (fun h => by cases h), fun hne => ?_⟩, fun c hc => ?_, by simpa using hlen⟩
    · have h0 : 0 < len0 := by
        cases len0 with
        | zero => simp at hne
        | succ => omega
      obtain ⟨b, off, spot⟩ := a
      have hsp : spot = none := by
        have := (hq 0 h0).1
        simpa [Addr.add] using World.cell?_spot this
      subst hsp
      refine ⟨b, off, rfl, fun j t hj => ?_⟩
      have hj2 : j < len0 := by
        have := (List.getElem?_eq_some_iff.1 hj).1
        simpa using this
      rw [List.getElem?_map, List.getElem?_range hj2] at hj
      cases hj
      have := (hq j hj2).1
      rw [L.addr_add] at this
      exact ⟨_, this, (hq j hj2).2.1⟩
    · obtain ⟨i, hi, rfl⟩ := List.mem_map.1 hc
      exact (hq i (by simpa using hi)).2.2

end Go.Proofs.Ytbclmmkphjknaaa

/-
  Marks in the order of their classes, those of one class as they stood: what that is of lists, and what keeps it.
-/
namespace Go.Proofs.Ytbclmmkphjknaaa.Nm
open Go.Sort
set_option linter.unusedSimpArgs false
set_option linter.unusedVariables false

/-- a rune's class -/
def cls (r : Int) : Int := if r = 807 ∨ r = 808 then 202 else if r = 803 then 220 else if r = 768 ∨ r = 769 ∨ r = 770 ∨ r = 771 ∨ r = 776 ∨ r = 778 ∨ r = 780 then 230 else 0
/-- two classes held against each other -/
def cmp (x y : Int) : Int := if cls x < cls y then -1 else if cls y < cls x then 1 else 0
theorem cmp_lt {x y : Int} : cmp x y < 0 ↔ cls x < cls y := by
  unfold cmp
  by_cases h : cls x < cls y
  · simp [h]
  · rw [if_neg h]; split <;> simp [h]
def Srt (l : List Int) : Prop := l.Pairwise fun a b => cls a ≤ cls b
def Eqv (a b : List Int) : Prop := ∀ c, a.filter (fun x => cls x == c) = b.filter (fun x => cls x == c)
theorem Eqv.refl (a : List Int) : Eqv a a := fun _ => rfl
theorem Eqv.symm {a b : List Int} (h : Eqv a b) : Eqv b a := fun c => (h c).symm
theorem Eqv.trans {a b c : List Int} (h : Eqv a b) (h' : Eqv b c) : Eqv a c := fun z => (h z).trans (h' z)
theorem Eqv.app {a b c d : List Int} (h : Eqv a b) (h' : Eqv c d) : Eqv (a ++ c) (b ++ d) := fun z => by rw [List.filter_append, List.filter_append, h z, h' z]
theorem Eqv.rot {U V : List Int} (h : ∀ x ∈ U, ∀ y ∈ V, cls y < cls x) : Eqv (U ++ V) (V ++ U) := fun c => by
  rw [List.filter_append, List.filter_append]
  by_cases hu : ∃ x ∈ U, cls x = c
  · obtain ⟨x, hx, rfl⟩ := hu
    have : V.filter (fun y => cls y == cls x) = [] := List.filter_eq_nil_iff.2 fun y hy => by have := h x hx y hy; simp; omega
    rw [this]; simp
  · have : U.filter (fun y => cls y == c) = [] := List.filter_eq_nil_iff.2 fun y hy => by simp; intro e; exact hu ⟨y, hy, e⟩
    rw [this]; simp
theorem Eqv.mem {a b : List Int} (h : Eqv a b) {x : Int} (hx : x ∈ a) : x ∈ b := by
  have h1 : x ∈ a.filter (fun y => cls y == cls x) := List.mem_filter.2 ⟨hx, by simp⟩
  rw [h] at h1
  exact (List.mem_filter.1 h1).1
theorem uniq : ∀ {a b : List Int}, Srt a → Srt b → Eqv a b → a = b
  | [], b, _, _, h => by
    cases b with
    | nil => rfl
    | cons y b => exact absurd (h.symm.mem (List.mem_cons_self ..)) (by simp)
  | x :: a, [], _, _, h => absurd (h.mem (List.mem_cons_self ..)) (by simp)
  | x :: a, y :: b, ha, hb, h => by
    have ha' := List.pairwise_cons.1 ha
    have hb' := List.pairwise_cons.1 hb
    have h1 : cls y ≤ cls x := by
      rcases List.mem_cons.1 (h.mem (List.mem_cons_self ..)) with e | e
      · rw [e]; exact Int.le_refl _
      · exact hb'.1 x e
    have h2 : cls x ≤ cls y := by
      rcases List.mem_cons.1 (h.symm.mem (List.mem_cons_self ..)) with e | e
      · rw [e]; exact Int.le_refl _
      · exact ha'.1 y e
    have e : cls x = cls y := by omega
    have h3 := h (cls x)
    rw [List.filter_cons_of_pos (by simp), List.filter_cons_of_pos (by simp [e])] at h3
    obtain ⟨rfl, _⟩ := List.cons.inj h3
    congr 1
    refine uniq ha'.2 hb'.2 fun c => ?_
    have h4 := h c
    by_cases hc : cls x = c
    · rw [List.filter_cons_of_pos (by simp [hc]), List.filter_cons_of_pos (by simp [hc])] at h4
      exact (List.cons.inj h4).2
    · rw [List.filter_cons_of_neg (by simp [hc]), List.filter_cons_of_neg (by simp [hc])] at h4
      exact h4
theorem Srt.app {a b : List Int} (ha : Srt a) (hb : Srt b) (h : ∀ x ∈ a, ∀ y ∈ b, cls x ≤ cls y) : Srt (a ++ b) := List.pairwise_append.2 ⟨ha, hb, h⟩
theorem Srt.parts {a b : List Int} (h : Srt (a ++ b)) : Srt a ∧ Srt b ∧ ∀ x ∈ a, ∀ y ∈ b, cls x ≤ cls y := List.pairwise_append.1 h
theorem Srt.one (x : Int) : Srt [x] := List.pairwise_singleton _ _
theorem Srt.nil : Srt [] := List.Pairwise.nil
/-- all of what stands ahead of a place is at most what stands there -/
theorem Srt.ahead {a b : List Int} {y : Int} (h : Srt (a ++ y :: b)) {x : Int} (hx : x ∈ a) : cls x ≤ cls y := h.parts.2.2 x hx y (List.mem_cons_self ..)
theorem Srt.behind {a b : List Int} {y : Int} (h : Srt (a ++ y :: b)) {x : Int} (hx : x ∈ b) : cls y ≤ cls x := (List.pairwise_cons.1 h.parts.2.1).1 x hx

/-! rows as lists -/
theorem at_mid (A B : List Int) (x : Int) {i : Nat} (hi : i = A.length) : (A ++ x :: B).toArray[i]! = x := by
  subst hi
  simp
theorem at_get {L : List Int} {i : Nat} (hi : i < L.length) : L.toArray[i]! = L[i] := by simp [hi]
theorem swp_mid (A B C : List Int) (x y : Int) {i j : Nat} (hi : i = A.length) (hj : j = A.length + 1 + B.length) : swp (A ++ x :: (B ++ y :: C)).toArray i j = (A ++ y :: (B ++ x :: C)).toArray := by
  have h1 := at_mid A (B ++ y :: C) x hi
  have h2 : (A ++ x :: (B ++ y :: C)).toArray[j]! = y := by
    have := at_mid (A ++ x :: B) C y (i := j) (by simp; omega)
    simpa using this
  unfold swp
  rw [h1, h2]
  subst hi
  rw [List.setIfInBounds_toArray, List.setIfInBounds_toArray]
  congr 1
  have e1 : (A ++ x :: (B ++ y :: C)).set A.length y = (A ++ y :: B) ++ y :: C := by simp
  rw [e1, show j = (A ++ y :: B).length by simp; omega]
  simp
theorem swp_mid2 (A B C : List Int) (x y : Int) {i j : Nat} (hi : i = A.length) (hj : j = A.length + 1 + B.length) : swp (A ++ x :: (B ++ y :: C)).toArray j i = (A ++ y :: (B ++ x :: C)).toArray := by
  rw [← swp_mid A B C x y hi hj]
  have hij : i ≠ j := by omega
  have h1 := at_mid A (B ++ y :: C) x hi
  have h2 : (A ++ x :: (B ++ y :: C)).toArray[j]! = y := by
    have := at_mid (A ++ x :: B) C y (i := j) (by simp; omega)
    simpa using this
  unfold swp
  rw [h1, h2]
  apply Array.ext_getElem?
  intro k
  simp only [Array.getElem?_setIfInBounds, Array.size_setIfInBounds]
  by_cases e1 : i = k
  · subst e1
    simp [Ne.symm hij]
  · by_cases e2 : j = k
    · subst e2; simp [e1]
    · simp [e1, e2]
/-- two stretches of one length change their places, k of their runes -/
def ex (P U M V Q : List Int) (k : Nat) : List Int := P ++ (V.take k ++ (U.drop k ++ (M ++ (U.take k ++ (V.drop k ++ Q)))))
theorem ex_zero (P U M V Q : List Int) : ex P U M V Q 0 = P ++ U ++ M ++ V ++ Q := by simp [ex]
theorem ex_all (P U M V Q : List Int) {k : Nat} (h1 : U.length = k) (h2 : V.length = k) : ex P U M V Q k = P ++ V ++ M ++ U ++ Q := by
  unfold ex
  rw [List.take_of_length_le (by omega), List.take_of_length_le (by omega), List.drop_eq_nil_of_le (by omega), List.drop_eq_nil_of_le (by omega)]
  simp
theorem ex_len (P U M V Q : List Int) (k : Nat) (h : U.length = V.length) (hk : k ≤ U.length) : (ex P U M V Q k).length = P.length + U.length + M.length + V.length + Q.length := by
  unfold ex; simp; omega
theorem ex_step (P U M V Q : List Int) {k a b : Nat} (hu : k < U.length) (hv : V.length = U.length) (ha : a = P.length) (hb : b = P.length + U.length + M.length) : swp (ex P U M V Q k).toArray (a + k) (b + k) = (ex P U M V Q (k + 1)).toArray := by
  unfold ex
  rw [List.drop_eq_getElem_cons hu, List.drop_eq_getElem_cons (l := V) (by omega), List.take_add_one, List.take_add_one, List.getElem?_eq_getElem hu, List.getElem?_eq_getElem (show k < V.length by omega)]
  have h := swp_mid (P ++ V.take k) (U.drop (k + 1) ++ (M ++ U.take k)) (V.drop (k + 1) ++ Q) U[k] (V[k]'(by omega)) (i := a + k) (j := b + k) (by simp; omega) (by simp; omega)
  simp only [List.append_assoc, List.cons_append, Option.toList_some, List.nil_append] at h ⊢
  exact h

end Go.Proofs.Ytbclmmkphjknaaa.Nm
