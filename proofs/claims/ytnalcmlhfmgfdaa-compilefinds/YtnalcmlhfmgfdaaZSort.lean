/-
  Runes that are sorted, and runs of the same made one: slices.Sort and slices.Compact of a row of the call's own.
-/
import Derived.Test.YtnalcmlhfmgfdaaZPdq
import Derived.Shelf.SlicesE.Compact
import Derived.Shelf.SlGeneric
import Derived.Laws.AppendOwn
namespace Go.Proofs.Ytnalcmlhfmgfdaa
open Go.Shelf Go.RowKit Go.Sort Go.Lib
set_option maxRecDepth 20000
set_option linter.unusedSimpArgs false
set_option linter.unusedVariables false

set_option maxHeartbeats 1000000 in
theorem zsort_any (w : World) (blk off cap : Nat) (d : Array Int) (hH : Holds Z.en w blk off d) (h0 : 0 < d.size) (hsz : d.size < 1152921504606846976) :
    Calls Try.prog 42 #[.slice (some ⟨blk, off, none⟩) d.size cap] w fun x w' => x = .returned (.tuple #[]) ∧ ∃ R, Z.Fin w blk off 0 d.size d R w' := by
  have hbl : blk < w.heap.size := World.block_lt_of_cell? w _ (hH 0 (by omega)).1
  obtain ⟨n, hn⟩ : ∃ n, n = d.size := ⟨_, rfl⟩
  have e0 : Lib.bitLen n = bitsLen n := bitLen_eq n (by omega)
  have hk : bitsLen n ≤ 62 := (bitsLen_le_iff n 62).2 (by omega)
  have hL : Hid (∀ w, Calls Try.prog 58 #[.int .u64 (n : Int)] w fun e w' => e = .returned (.int .i64 (bitsLen n : Int)) ∧ w' = w) := fun w => by
    have h := Any.bits_Len Try.lays125 (n : Int) w (by omega) (by omega)
    rw [Int.toNat_natCast, e0] at h
    exact h
  have hP : Hid (Calls Try.prog 57 #[.slice (some ⟨blk, off, none⟩) n cap, .int .i64 0, .int .i64 n, .int .i64 (bitsLen n : Int)] w fun x w' => x = .returned (.tuple #[]) ∧ ∃ R, Z.Fin w blk off 0 n d R w') := by
    rw [hn]
    exact zpdq_any d.size w blk off cap 0 d.size (bitsLen d.size) d (by omega) hH hbl (.inl rfl) (by omega) (Nat.le_refl _) hsz (by rw [← hn]; omega)
  rw [← hn]
  have hn62 : n < 1152921504606846976 := by omega
  generalize bitsLen n = k at hL hP hk
  clear hn hsz h0 e0 hH
  go_enter Try.func42, Try.ntmps42
  go_wp2_with fail
  go_at_call 58
  refine (hL.out _).mono ?_
  rintro _ _ ⟨rfl, rfl⟩
  go_wp2_with fail
  go_at_call 57
  refine hP.out.mono ?_
  rintro _ w2 ⟨rfl, hR⟩
  go_wp2_with fail
  go_end0
  exact ⟨rfl, hR⟩

namespace Z
abbrev ints (t : List Int) : List Value := t.map (Value.int .i32)
theorem holds_of_block {w : World} {g : Nat} {cur : Array Value} {e : TypeId} {t : List Int} (hb : w.heap[g]? = some (.cells cur e (0, 0))) (ht : cur.toList.take t.length = ints t) : Holds en w g 0 t.toArray := by
  intro j hj
  have hj' : j < t.length := by simpa using hj
  refine ⟨?_, by simp [World.frozen?, hb]⟩
  have h1 : (cur.toList.take t.length)[j]? = (ints t)[j]? := by rw [ht]
  rw [List.getElem?_take_of_lt hj'] at h1
  simp only [World.cell?, hb, Nat.zero_add]
  simp only [Option.isSome_none, Bool.false_eq_true, if_false]
  rw [← Array.getElem?_toList, h1]
  simp [hj']
theorem take_put (cur : Array Value) (ts : List Int) (m : Nat) (hm : m ≤ ts.length) (h : ts.length ≤ cur.size) : (putCells en 0 ts.toArray cur).toList.take m = ints (ts.take m) := by
  apply List.ext_getElem?
  intro j
  by_cases hj : j < m
  · have h1 : j < ts.length := by omega
    have h2 : j < cur.size := by omega
    rw [List.getElem?_take_of_lt hj, Array.getElem?_toList]
    simp [putCells, hj, h1, h2]
  · rw [List.getElem?_take_eq_none (by omega), List.getElem?_eq_none (by simp; omega)]
theorem heap_put {w : World} {g n : Nat} {os : Array Obj} {cur : Array Value} {e : TypeId} {fr : Nat × Nat} (d : Array Int) (hb : w.heap[g]? = some (.cells cur e fr)) : (grow (putRow en (Sort.ahead w n) g 0 d) os).heap[g]? = some (.cells (putCells en 0 d cur) e fr) := by
  have hg : g < w.heap.size := (Array.getElem?_eq_some_iff.1 hb).1
  rw [heap_grow_old _ _ (by simpa using hg)]
  simp [putRow, mapBlock, Sort.ahead, Array.getElem?_modify, hb, onCells]
theorem grown_put {w : World} {g n : Nat} {os : Array Obj} (d : Array Int) : w.grownBy (grow (putRow en (Sort.ahead w n) g 0 d) os) (some g) := by
  refine ⟨rfl, rfl, rfl, by simp, fun k hk hne => ?_⟩
  rw [heap_grow_old _ _ (by simpa using hk)]
  have : g ≠ k := fun e => hne (by rw [e])
  simp [putRow, mapBlock, Sort.ahead, Array.getElem?_modify, this]
/-- a row of which the first m are kept -/
theorem owns_put {w : World} {base g cap n m : Nat} {e : TypeId} {os : Array Obj} {cur : Array Value} {ts : List Int} (hm : m ≤ ts.length) (hbase : base ≤ g) (hb : w.heap[g]? = some (.cells cur e (0, 0))) (h1 : ts.length ≤ cap) (h2 : cap ≤ maxLen) (h3 : cur.size = cap * 1) :
    (grow (putRow en (Sort.ahead w n) g 0 ts.toArray) os).ownsRow base e 1 (.slice (some ⟨g, 0, none⟩) m cap) m (ints (ts.take m)) :=
  ⟨by simp [hm], .inr ⟨g, cap, _, rfl, hbase, heap_put _ hb, by omega, h2, by simp [putCells, h3], by rw [Nat.mul_one]; exact take_put cur ts m hm (by omega)⟩⟩

theorem uniq (d : Array Int) (hs : SortedIn ltInt 0 d.size d) : ∀ m, m ≤ d.size → (compactUpTo d m).Pairwise (· < ·) ∧ (∀ x, x ∈ compactUpTo d m ↔ ∃ j, j < m ∧ d[j]! = x) := by
  intro m
  induction m with
  | zero => intro _; simp [compactUpTo]
  | succ m ih =>
    intro hm
    obtain ⟨h1, h2⟩ := ih (by omega)
    rw [compactUpTo_succ]
    have hle : ∀ i, i < m → d[i]! ≤ d[m]! := fun i hi => by
      have := hs i m (by omega) hi (by omega)
      simp [ltInt] at this
      omega
    by_cases hk : keeps d m = true
    · rw [if_pos hk]
      refine ⟨?_, fun x => ?_⟩
      · rw [List.pairwise_append]
        refine ⟨h1, by simp, fun x hx y hy => ?_⟩
        obtain ⟨j, hj, rfl⟩ := (h2 x).1 hx
        simp at hy
        subst hy
        have hm0 : m ≠ 0 := by omega
        simp [keeps, hm0] at hk
        have e1 := hle (m - 1) (by omega)
        have e2 : d[j]! ≤ d[m - 1]! := by
          by_cases hjm : j = m - 1
          · rw [hjm]; exact Int.le_refl _
          · have := hs j (m - 1) (by omega) (by omega) (by omega)
            simp [ltInt] at this
            omega
        omega
      · rw [List.mem_append, h2, List.mem_singleton]
        constructor
        · rintro (⟨j, hj, rfl⟩ | rfl)
          · exact ⟨j, by omega, rfl⟩
          · exact ⟨m, by omega, rfl⟩
        · rintro ⟨j, hj, rfl⟩
          by_cases hjm : j = m
          · subst hjm; exact .inr rfl
          · exact .inl ⟨j, by omega, rfl⟩
    · rw [if_neg hk, List.append_nil]
      refine ⟨h1, fun x => ?_⟩
      rw [h2]
      simp [keeps] at hk
      constructor
      · rintro ⟨j, hj, rfl⟩; exact ⟨j, by omega, rfl⟩
      · rintro ⟨j, hj, rfl⟩
        by_cases hjm : j = m
        · subst hjm; exact ⟨j - 1, by omega, hk.2.symm⟩
        · exact ⟨j, by omega, rfl⟩
theorem up_len (d : Array Int) (m : Nat) : (compactUpTo d m).length ≤ m := by
  unfold compactUpTo
  rw [List.length_map]
  exact Nat.le_trans (List.length_filter_le _ _) (by simp)
end Z

shelf_lay_g SlLaysE.n43 Slgn 43 at Try 43 as Try.compactR

theorem zsort_own (w : World) (base : Nat) (v : Value) (t : List Int) (own : w.ownsRow base 21 1 v t.length (Z.ints t)) (h0 : t ≠ []) (hsz : t.length < 1152921504606846976) :
    Calls Try.prog 42 #[v] w fun x w' => x = .returned (.tuple #[]) ∧ ∃ R : Array Int, R.size = t.length ∧ SortedIn ltInt 0 R.size R ∧ (∀ x, x ∈ R.toList ↔ x ∈ t) ∧ w'.ownsRow base 21 1 v t.length (Z.ints R.toList) ∧ w.grownBy w' v.ownBlock := by
  obtain ⟨_, ⟨rfl, hn⟩ | ⟨g, cap, cur, rfl, hbase, hb, h1, h2, h3, h4⟩⟩ := own
  · exact absurd (List.length_eq_zero_iff.1 hn) h0
  have hl : 0 < t.length := List.length_pos_iff.2 h0
  rw [Nat.mul_one] at h4
  have hh := zsort_any w g 0 cap t.toArray (Z.holds_of_block hb h4) (by simpa using hl) (by simpa using hsz)
  simp only [List.size_toArray] at hh
  refine hh.mono ?_
  rintro x w' ⟨hx, R, ⟨n, os, rfl⟩, hP, hS⟩
  have hs : R.size = t.length := by simpa using hP.1
  refine ⟨hx, R, hs, by rw [hs]; exact hS, fun y => ?_, ?_, Z.grown_put _⟩
  · have hp := hP.2.2
    have e1 : (t.toArray.extract 0 t.length).toList = t := by simp
    have e2 : (R.extract 0 t.length).toList = R.toList := by rw [← hs]; simp
    rw [e1, e2] at hp
    exact hp.mem_iff
  · have h := Z.owns_put (w := w) (base := base) (g := g) (cap := cap) (n := n) (m := t.length) (os := os) (ts := R.toList) (by simp [hs]) hbase hb (by simp [hs]; omega) h2 h3
    rw [List.take_of_length_le (by simp [hs])] at h
    simpa using h

theorem zcompact_own (w : World) (base : Nat) (v : Value) (R : Array Int) (own : w.ownsRow base 21 1 v R.size (Z.ints R.toList)) (h0 : 0 < R.size) (hS : SortedIn ltInt 0 R.size R) :
    Calls Try.prog 43 #[v] w fun x w' => ∃ (v' : Value) (c : List Int), x = .returned v' ∧ c.Pairwise (· < ·) ∧ (∀ y, y ∈ c ↔ y ∈ R.toList) ∧ w'.ownsRow base 21 1 v' c.length (Z.ints c) ∧ w.grownBy w' v.ownBlock ∧ v'.ownBlock = v.ownBlock := by
  obtain ⟨_, ⟨rfl, hn⟩ | ⟨g, cap, cur, rfl, hbase, hb, h1, h2, h3, h4⟩⟩ := own
  · omega
  rw [Nat.mul_one] at h4
  have hH : Holds Z.en w g 0 R := by
    have := Z.holds_of_block (t := R.toList) hb (by simpa using h4)
    simpa using this
  have hh := AnyE.slices_Compact Try.compactR Z.en (fun x => rfl) (EqlAt.intD _ _ _) (NeqAt.intD _ _ _) (0 : Int) (fun w => by rfl) g 0 cap R w hH (by unfold maxLen at h2; omega) h1
  refine hh.mono ?_
  rintro x w' ⟨hx, q, hw⟩
  obtain ⟨u1, u2⟩ := Z.uniq R hS R.size (Nat.le_refl _)
  have hlen := Z.up_len R R.size
  refine ⟨_, compactUpTo R R.size, hx, u1, fun y => ?_, ?_, ?_, rfl⟩
  · rw [u2]
    constructor
    · rintro ⟨j, hj, rfl⟩; rw [getElem!_pos R j hj]; exact Array.getElem_mem_toList hj
    · intro hy
      obtain ⟨j, hj, rfl⟩ := List.getElem_of_mem hy
      have hj' : j < R.size := by simpa using hj
      exact ⟨j, hj', by rw [getElem!_pos R j hj']; simp⟩
  · have h := Z.owns_put (w := w) (base := base) (g := g) (cap := cap) (n := q) (m := (compactUpTo R R.size).length) (os := #[]) (ts := compactUpTo R R.size ++ List.replicate (R.size - (compactUpTo R R.size).length) (0 : Int)) (by simp) hbase hb (by simp; omega) h2 h3
    rw [List.take_left', grow_empty, ← hw] at h
    · exact h
    · rfl
  · have h := Z.grown_put (w := w) (g := g) (n := q) (os := #[]) (compactUpTo R R.size ++ List.replicate (R.size - (compactUpTo R R.size).length) (0 : Int)).toArray
    rw [grow_empty, ← hw] at h
    exact h

end Go.Proofs.Ytnalcmlhfmgfdaa
