/-
  Heads in memory, read.
-/
import Derived.Test.YtnalcmlhfmgfdaaJMath
namespace Go.Proofs.Ytnalcmlhfmgfdaa
open Go.RowKit Go.Shelf
set_option maxRecDepth 20000
set_option linter.unusedSimpArgs false
set_option linter.unusedVariables false
namespace J
theorem cells_at {ps : List (Hd × Value)} {k : Nat} {p : Hd × Value} (h : ps[k]? = some p) : (cells ps)[k * 3]? = some (.int .i32 p.1.1) ∧ (cells ps)[k * 3 + 1]? = some (.int .i32 p.1.2.1) ∧ (cells ps)[k * 3 + 2]? = some p.2 := by
  induction ps generalizing k with
  | nil => simp at h
  | cons x ps ih =>
    have e : cells (x :: ps) = .int .i32 x.1.1 :: .int .i32 x.1.2.1 :: x.2 :: cells ps := rfl
    cases k with
    | zero => simp at h; subst h; simp [e]
    | succ k =>
      have := ih (k := k) (by simpa using h)
      rw [e, show (k + 1) * 3 = k * 3 + 3 by omega]
      exact this
theorem Own.len {F : Nat} {w : World} {v : Value} {hs : List Hd} (h : Own F w v hs) : ∃ ao cap, v = .slice ao hs.length cap := by
  obtain ⟨ps, _, ⟨_, ⟨rfl, h0⟩ | ⟨g, k, cur, rfl, _⟩⟩, _⟩ := h
  · exact ⟨none, 0, by rw [h0]⟩
  · exact ⟨_, _, rfl⟩
/-- what reads as heads -/
def Rd (w : World) (v : Value) (hs : List Hd) : Prop :=
  ∃ ao cap, v = .slice ao hs.length cap ∧ (hs ≠ [] → ∃ X off, ao = some ⟨X, off, none⟩ ∧ ∀ (k : Nat) p, hs[k]? = some p → w.cell? ⟨X, off + k * 3, none⟩ = some (.int .i32 p.1) ∧ w.cell? ⟨X, off + k * 3 + 1, none⟩ = some (.int .i32 p.2.1) ∧
    ∃ ro rc, w.cell? ⟨X, off + k * 3 + 2, none⟩ = some (.slice ro p.2.2.length rc) ∧ L.Rd w (.slice ro p.2.2.length rc) .i64 p.2.2)
theorem Own.rd {F : Nat} {w : World} {v : Value} {hs : List Hd} (h : Own F w v hs) : Rd w v hs := by
  obtain ⟨ps, h1, ⟨hl, hor⟩, h3⟩ := h
  rcases hor with ⟨rfl, h0⟩ | ⟨g, cap, cur, rfl, hb, hx, hn, hm, hs', ht⟩
  · refine ⟨none, 0, by rw [h0], fun hne => absurd (List.length_eq_zero_iff.1 h0) hne⟩
  · refine ⟨_, cap, rfl, fun _ => ⟨g, 0, rfl, fun k p hk => ?_⟩⟩
    rw [← h1, List.getElem?_map] at hk
    cases hp : ps[k]? with
    | none => rw [hp] at hk; simp at hk
    | some q =>
      rw [hp] at hk
      simp at hk
      subst hk
      obtain ⟨c0, c1, c2⟩ := cells_at hp
      have hkl : k < hs.length := by rw [← h1, List.length_map]; exact (List.getElem?_eq_some_iff.1 hp).1
      have cell : ∀ j u, (cells ps)[j]? = some u → w.cell? ⟨g, j, none⟩ = some u := fun j u hj => by
        have hj' := (List.getElem?_eq_some_iff.1 hj).1
        rw [hl] at hj'
        refine K.at_box hx ?_
        rw [← ht, List.getElem?_take_of_lt hj', Array.getElem?_toList] at hj
        exact hj
      have hr := L.Rd.of_owns (h3 q (List.mem_of_getElem? hp))
      obtain ⟨ro, rc, he, _⟩ := id hr
      rw [Nat.zero_add]
      exact ⟨cell _ _ c0, cell _ _ c1, ro, rc, by rw [← he]; exact cell _ _ c2, by rw [← he]; exact hr⟩
theorem Rd.below {w w' : World} {v : Value} {hs : List Hd} (h : Rd w v hs) (hb : Below w.heap.size w w') : Rd w' v hs := by
  obtain ⟨ao, cap, h1, h2⟩ := h
  have lift : ∀ b o x, w.cell? ⟨b, o, none⟩ = some x → w'.cell? ⟨b, o, none⟩ = some x := fun b o x h => by rw [(L.bcell hb).1 b o (L.block_lt h)]; exact h
  refine ⟨ao, cap, h1, fun hne => ?_⟩
  obtain ⟨X, off, h3, h4⟩ := h2 hne
  refine ⟨X, off, h3, fun k p hk => ?_⟩
  obtain ⟨c0, c1, ro, rc, c2, hr⟩ := h4 k p hk
  exact ⟨lift _ _ _ c0, lift _ _ _ c1, ro, rc, lift _ _ _ c2, hr.below hb (Nat.le_refl _)⟩
theorem Rd.at {w : World} {ao : Option Addr} {n cap : Nat} {hs : List Hd} (h : Rd w (.slice ao n cap) hs) {k : Nat} {p : Hd} (hk : hs[k]? = some p) :
    ∃ X off ro rc, ao = some ⟨X, off, none⟩ ∧ w.cell? ⟨X, off + k * 3, none⟩ = some (.int .i32 p.1) ∧ w.cell? ⟨X, off + k * 3 + 1, none⟩ = some (.int .i32 p.2.1) ∧ w.cell? ⟨X, off + k * 3 + 2, none⟩ = some (.slice ro p.2.2.length rc) ∧ L.Rd w (.slice ro p.2.2.length rc) .i64 p.2.2 := by
  obtain ⟨ao', cap', h1, h2⟩ := h
  cases h1
  obtain ⟨X, off, h3, h4⟩ := h2 (by intro h; subst h; simp at hk)
  obtain ⟨c0, c1, ro, rc, c2, hr⟩ := h4 k p hk
  exact ⟨X, off, ro, rc, h3, c0, c1, c2, hr⟩
theorem heads_at {f : Int → List Int} {c : List Int} {n k : Nat} (hk : k < n) : (heads f c n)[k]? = some (headAt f c k) := by simp [heads, hk]

theorem cuts_unique {l : List K.Rule} {c d : List Int} (h : Cuts l c) (h' : Cuts l d) : c = d := by
  have hp : c.Perm d := by
    rw [List.perm_ext_iff_of_nodup (h.1.imp fun hh => by omega) (h'.1.imp fun hh => by omega)]
    intro a
    rw [h.2, h'.2]
  exact hp.eq_of_pairwise (fun a b _ _ h1 h2 => by omega) h.1 h'.1
/-- the rule of the closed fact -/
def aRule : K.Rule := ⟨false, false, [], [[(97, 98)]], [], [], 0⟩
theorem aRule_comp {o : List Hd × Int × Int} (h : Comp [aRule] o) : o = ([(0, 96, []), (97, 98, [0]), (99, 1114111, [])], 0, 0) := by
  have h0 : K.rulesF [aRule] = (0, 0) := by decide +kernel
  rcases h with ⟨h1, _⟩ | ⟨_, c, hc, _, hor⟩
  · rw [h0] at h1; exact absurd rfl h1
  · have hd : Cuts [aRule] [0, 97, 99, 1114112] := ⟨by simp, fun y => by simp [edgesL, ends, K.headS, aRule]; omega⟩
    have := cuts_unique hc hd
    subst this
    rcases hor with ⟨h2, _⟩ | ⟨_, h2⟩
    · simp at h2
    · rw [h2]
      decide +kernel
end J
end Go.Proofs.Ytnalcmlhfmgfdaa
