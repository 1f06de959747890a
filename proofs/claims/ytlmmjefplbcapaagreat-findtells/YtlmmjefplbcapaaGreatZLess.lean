/-
  The first rule that matches is the first one of those that may begin there.
-/
import Derived.Test.YtlmmjefplbcapaaGreatGMath
import Derived.Test.YtlmmjefplbcapaaGreatXFirst1
import Derived.Test.YtlmmjefplbcapaaGreatRows
import Derived.Sort.WalkA
import Derived.Sort.WalkB12
import Derived.Test.YtlmmjefplbcapaaGreatKI32
namespace Go.Proofs.YtlmmjefplbcapaaGreat
open Go.RowKit Go.Shelf
set_option linter.unusedSimpArgs false
set_option linter.unusedVariables false
namespace Gm
theorem match_first {r : K.Rule} {t : List Int} {k : Int} (hE : K.ruleE r = 0) (h : K.matchB r t k = true) : S.memb (K.headS r) (t.getD k.toNat 0) = true := by
  have hs := (K.ruleE_zero hE).2.2.2.1
  unfold K.matchB at h
  rw [Bool.and_eq_true, Bool.and_eq_true, K.runAt_append, K.runAt_append, Bool.and_eq_true, Bool.and_eq_true] at h
  have h1 := h.1.1.1.2
  rw [show k - (r.before.length : Int) + r.before.length = k by omega] at h1
  cases hq : r.source with
  | nil => rw [hq] at hs; simp at hs
  | cons x l =>
    rw [hq, K.runAt, Bool.and_eq_true, Bool.and_eq_true] at h1
    unfold K.headS
    rw [hq]
    exact h1.1.2
theorem which_spec (t : List Int) (k : Int) : ∀ (l : List K.Rule) (i : Nat), (∃ (j : Nat) (r : K.Rule), l[j]? = some r ∧ K.matchB r t k = true ∧ (∀ i' y, i' < j → l[i']? = some y → K.matchB y t k = false) ∧ K.whichN t k i l = ((i + j : Nat) : Int)) ∨ ((∀ r ∈ l, K.matchB r t k = false) ∧ K.whichN t k i l = -1) := by
  intro l
  induction l with
  | nil => intro i; exact .inr ⟨fun r hr => (by cases hr), rfl⟩
  | cons x l ih =>
    intro i
    cases hx : K.matchB x t k with
    | true => exact .inl ⟨0, x, rfl, hx, fun i' y h => by omega, by rw [K.whichN, if_pos hx]; rfl⟩
    | false =>
      have e : K.whichN t k i (x :: l) = K.whichN t k (i + 1) l := by rw [K.whichN, if_neg (by rw [hx]; decide)]
      rw [e]
      rcases ih (i + 1) with ⟨j, r, h1, h2, h3, h4⟩ | ⟨h1, h2⟩
      · refine .inl ⟨j + 1, r, by simpa using h1, h2, fun i' y hi hy => ?_, by rw [h4]; congr 1; omega⟩
        cases i' with
        | zero => simp at hy; subst hy; exact hx
        | succ m => exact h3 m y (by omega) (by simpa using hy)
      · refine .inr ⟨fun r hr => ?_, h2⟩
        rcases List.mem_cons.1 hr with rfl | hr
        · exact hx
        · exact h1 r hr
theorem which_mem {f : K.Rule → Bool} {z : Int} : ∀ {l : List K.Rule} {i : Nat}, z ∈ J.which f i l ↔ ∃ (j : Nat) (r : K.Rule), l[j]? = some r ∧ f r = true ∧ z = ((i + j : Nat) : Int) := by
  intro l
  induction l with
  | nil => intro i; simp [J.which]
  | cons x l ih =>
    intro i
    rw [J.which, List.mem_append, ih]
    constructor
    · rintro (h | ⟨j, r, h1, h2, h3⟩)
      · split at h
        · rename_i hx
          simp at h
          exact ⟨0, x, rfl, hx, by simpa using h⟩
        · simp at h
      · exact ⟨j + 1, r, by simpa using h1, h2, by rw [h3]; congr 1; omega⟩
    · rintro ⟨j, r, h1, h2, h3⟩
      cases j with
      | zero =>
        simp at h1
        subst h1
        exact .inl (by rw [if_pos h2]; simpa using h3)
      | succ m => exact .inr ⟨m, r, by simpa using h1, h2, by rw [h3]; congr 1; omega⟩
theorem which_rise {f : K.Rule → Bool} : ∀ {l : List K.Rule} {i : Nat}, (J.which f i l).Pairwise (· < ·) := by
  intro l
  induction l with
  | nil => intro i; simp [J.which]
  | cons x l ih =>
    intro i
    rw [J.which, List.pairwise_append]
    refine ⟨by split <;> simp, ih, fun a ha b hb => ?_⟩
    obtain ⟨j, r, _, _, h3⟩ := which_mem.1 hb
    split at ha <;> simp at ha
    omega
theorem idx_which {l : List K.Rule} (hE : ∀ r ∈ l, K.ruleE r = 0) {t : List Int} {k : Nat} {e : Ending} (h : Idx (fun z => K.matchB ((l[z.toNat]?).getD K.noRule) t k) (J.begins l (t.getD k 0)) e) :
    (∃ (j i : Nat) (r : K.Rule), (J.begins l (t.getD k 0))[j]? = some (i : Int) ∧ l[i]? = some r ∧ e = .returned (.int .i64 j) ∧ K.which l t k = i) ∨ (e = .returned (.int .i64 (-1)) ∧ K.which l t k = -1) := by
  have hmem : ∀ (i : Nat) r, l[i]? = some r → K.matchB r t k = true → (i : Int) ∈ J.begins l (t.getD k 0) := fun i r hi hm => by
    refine which_mem.2 ⟨i, r, hi, ?_, by simp⟩
    have := match_first (hE r (List.mem_of_getElem? hi)) hm
    rw [Int.toNat_natCast] at this
    exact this
  rcases h with ⟨j, z, h1, h2, h3, h4⟩ | ⟨h1, h2⟩
  · obtain ⟨i, r, hi, _, hz⟩ := which_mem.1 (List.mem_of_getElem? h1)
    rw [Nat.zero_add] at hz
    subst hz
    simp only [Int.toNat_natCast, hi, Option.getD_some] at h2
    refine .inl ⟨j, i, r, h1, hi, h4, ?_⟩
    rcases which_spec t k l 0 with ⟨j', r', g1, g2, g3, g4⟩ | ⟨g1, _⟩
    · have hij : j' = i := by
        rcases Nat.lt_trichotomy j' i with hlt | he | hgt
        · obtain ⟨m, hm⟩ := List.getElem?_of_mem (hmem j' r' g1 g2)
          have hml := (List.getElem?_eq_some_iff.1 hm).1
          have hjl := (List.getElem?_eq_some_iff.1 h1).1
          have hmj : m < j := by
            refine Nat.lt_of_not_le fun hle => ?_
            rcases Nat.lt_or_eq_of_le hle with hlt' | rfl
            · have := List.pairwise_iff_getElem.1 (which_rise (f := fun r => S.memb (K.headS r) (t.getD k 0)) (l := l) (i := 0)) j m hjl hml hlt'
              have e1 : (J.which (fun r => S.memb (K.headS r) (t.getD k 0)) 0 l)[j] = (i : Int) := (List.getElem?_eq_some_iff.1 h1).2
              have e2 : (J.which (fun r => S.memb (K.headS r) (t.getD k 0)) 0 l)[m] = (j' : Int) := (List.getElem?_eq_some_iff.1 hm).2
              rw [e1, e2] at this
              omega
            · rw [h1] at hm
              simp at hm
              omega
          have := h3 m _ hmj hm
          simp only [Int.toNat_natCast, g1, Option.getD_some] at this
          rw [g2] at this
          cases this
        · exact he
        · rw [g3 i r hgt hi] at h2
          cases h2
      subst hij
      show K.whichN t k 0 l = _
      rw [g4]
      simp
    · rw [g1 r (List.mem_of_getElem? hi)] at h2
      cases h2
  · refine .inr ⟨h2, ?_⟩
    rcases which_spec t k l 0 with ⟨j', r', g1, g2, _, _⟩ | ⟨_, g2⟩
    · have := h1 _ (hmem j' r' g1 g2)
      simp only [Int.toNat_natCast, g1, Option.getD_some] at this
      rw [g2] at this
      cases this
    · exact g2
end Gm
end Go.Proofs.YtlmmjefplbcapaaGreat

/-
  A row of runes, and two that change their places.
-/
namespace Go.Proofs.YtlmmjefplbcapaaGreat
open Go.RowKit Go.Sort
set_option maxRecDepth 20000
set_option linter.unusedSimpArgs false
set_option linter.unusedVariables false

namespace Z
abbrev en : Int → Value := Value.int .i32
/-- the row's cells hold d in a world that is w but for the row and for draws -/
def At (w : World) (blk off n0 : Nat) (d : Array Int) (wr : World) : Prop := d.size = n0 ∧ ∃ n, wr = putRow en (Sort.ahead w n) blk off d
theorem At.start {w : World} {blk off : Nat} {d : Array Int} (h : Holds en w blk off d) : At w blk off d.size d w := ⟨rfl, 0, (putRow_self en w blk off d h).symm⟩
theorem At.cell {w wr : World} {blk off n0 : Nat} {d0 d : Array Int} (h : At w blk off n0 d wr) (h0 : Holds en w blk off d0) (hn : d0.size = n0) {j : Nat} (hj : j < n0) : wr.cell? ⟨blk, off + j, none⟩ = some (.int .i32 d[j]!) := by
  obtain ⟨hs, n, rfl⟩ := h
  exact cell?_putRow en _ blk off d0 d (holds_ahead en w n blk off d0 h0) (by omega) j (by omega)
theorem At.free {w wr : World} {blk off n0 : Nat} {d0 d : Array Int} (h : At w blk off n0 d wr) (h0 : Holds en w blk off d0) (hn : d0.size = n0) {j : Nat} (hj : j < n0) : wr.frozen? ⟨blk, off + j, none⟩ = false := by
  obtain ⟨hs, n, rfl⟩ := h
  rw [frozen?_putRow]
  exact (holds_ahead en w n blk off d0 h0 j (by omega)).2
theorem At.drew {w wr : World} {blk off n0 : Nat} {d : Array Int} (h : At w blk off n0 d wr) (q : Nat) : At w blk off n0 d (wr.drewN q) := by
  obtain ⟨hs, n, rfl⟩ := h
  exact ⟨hs, n + q, putRow_drewN en w n q blk off d⟩
theorem At.swap {w wr : World} {blk off n0 : Nat} {d : Array Int} (h : At w blk off n0 d wr) {i j : Nat} (hi : i < n0) (hj : j < n0) (q : Nat) : At w blk off n0 (swp d i j) (((wr.drewN q).setCell ⟨blk, off + i, none⟩ (.int .i32 d[j]!)).setCell ⟨blk, off + j, none⟩ (.int .i32 d[i]!)) := by
  obtain ⟨hs, n, rfl⟩ := h
  exact ⟨by rw [size_swp]; exact hs, n + q, swap_worldA en w n q blk off d i j (by omega) (by omega)⟩
theorem At.holds {w wr : World} {blk off n0 : Nat} {d0 d : Array Int} (h : At w blk off n0 d wr) (h0 : Holds en w blk off d0) (hn : d0.size = n0) : Holds en wr blk off d := by
  obtain ⟨hs, n, rfl⟩ := h
  exact holds_putRow en _ blk off d0 d (holds_ahead en w n blk off d0 h0) (by omega)
theorem At.trans {w w1 w2 : World} {blk off n0 : Nat} {d e : Array Int} (h : At w blk off n0 d w1) (h' : At w1 blk off n0 e w2) : At w blk off n0 e w2 := by
  obtain ⟨hs, n, rfl⟩ := h
  obtain ⟨hs', m, rfl⟩ := h'
  exact ⟨hs', n + m, putRow_ahead_putRow en w n m blk off d e (by omega)⟩
theorem At.size {w wr : World} {blk off n0 : Nat} {d : Array Int} (h : At w blk off n0 d wr) : d.size = n0 := h.1
end Z

end Go.Proofs.YtlmmjefplbcapaaGreat

/-
  Runes that are sorted: what is less; a row of runes and two that change their places.
-/
namespace Go.Proofs.YtlmmjefplbcapaaGreat
open Go.RowKit Go.Sort
set_option maxRecDepth 20000
set_option linter.unusedSimpArgs false
set_option linter.unusedVariables false


set_option maxHeartbeats 400000 in
theorem znan_any (w : World) (x : Int) : Calls Tryz.prog 103 #[.int .i32 x] w fun e w' => e = .returned (.bool false) ∧ w' = w := by
  go_enter Tryz.func103, Tryz.ntmps103
  go_wp2
  go_ret
  exact ⟨by simp, rfl⟩

set_option maxHeartbeats 400000 in
theorem zless_any (w : World) (x y : Int) : Calls Tryz.prog 93 #[.int .i32 x, .int .i32 y] w fun e w' => e = .returned (.bool (ltInt x y)) ∧ w' = w := by
  go_enter Tryz.func93, Tryz.ntmps93
  go_wp2_with (go_at_call 103; refine (znan_any _ _).mono ?_; rintro e w' ⟨rfl, rfl⟩)
  go_ret
  exact ⟨rfl, rfl⟩

end Go.Proofs.YtlmmjefplbcapaaGreat
