/-
  Places put in order one by one, each behind those that are not more. Plain lists.
-/
import Derived.Test.YtbclmmkphjknaaaOdP
import Derived.Test.YtbclmmkphjknaaaOdSymP
import Derived.Test.YtbclmmkphjknaaaFrame
namespace Go.Proofs.Ytbclmmkphjknaaa.Od
set_option linter.unusedSimpArgs false
set_option linter.unusedVariables false

/-- into its place, from the end on (the row turned round) -/
def insB (c : Int → Int) : List Int → Int → List Int
  | [], x => [x]
  | y :: r, x => if c x < c y then y :: insB c r x else x :: y :: r
def insO (c : Int → Int) (out : List Int) (x : Int) : List Int := (insB c out.reverse x).reverse
theorem insO_at {c : Int → Int} {A B : List Int} {x : Int} (hB : ∀ y ∈ B, c x < c y) (hA : A = [] ∨ ∃ A0 z, A = A0 ++ [z] ∧ ¬ c x < c z) : insO c (A ++ B) x = A ++ x :: B := by
  have h : ∀ (B A : List Int), (∀ y ∈ B, c x < c y) → (A = [] ∨ ∃ z A0, A = z :: A0 ∧ ¬ c x < c z) → insB c (B ++ A) x = B ++ x :: A := by
    intro B
    induction B with
    | nil =>
      intro A _ hA
      rcases hA with rfl | ⟨z, A0, rfl, h⟩
      · rfl
      · show insB c (z :: A0) x = _; rw [insB, if_neg h]; rfl
    | cons y B ih =>
      intro A hB hA
      rw [List.cons_append, insB, if_pos (hB y List.mem_cons_self), ih A (fun z hz => hB z (List.mem_cons_of_mem _ hz)) hA]
      rfl
  unfold insO
  rw [List.reverse_append, h B.reverse A.reverse (fun y hy => hB y (List.mem_reverse.1 hy)) (by
    rcases hA with rfl | ⟨A0, z, rfl, h⟩
    · exact .inl rfl
    · exact .inr ⟨z, A0.reverse, by simp, h⟩)]
  simp
theorem insB_split (c : Int → Int) (x : Int) : ∀ r : List Int, ∃ B A, r = B ++ A ∧ insB c r x = B ++ x :: A ∧ (∀ y ∈ B, c x < c y) ∧ (A = [] ∨ ∃ z A0, A = z :: A0 ∧ ¬ c x < c z)
  | [] => ⟨[], [], rfl, rfl, fun y hy => (by (cases hy)), .inl rfl⟩
  | y :: r => by
    by_cases h : c x < c y
    · obtain ⟨B, A, h1, h2, h3, h4⟩ := insB_split c x r
      refine ⟨y :: B, A, by rw [h1]; rfl, by rw [insB, if_pos h, h2]; rfl, fun z hz => ?_, h4⟩
      rcases List.mem_cons.1 hz with rfl | hz
      · exact h
      · exact h3 z hz
    · exact ⟨[], y :: r, rfl, by rw [insB, if_neg h]; rfl, fun y hy => by (cases hy), .inr ⟨y, r, rfl, h⟩⟩
theorem insO_split (c : Int → Int) (out : List Int) (x : Int) : ∃ A B, out = A ++ B ∧ insO c out x = A ++ x :: B ∧ (∀ y ∈ B, c x < c y) ∧ (A = [] ∨ ∃ A0 z, A = A0 ++ [z] ∧ ¬ c x < c z) := by
  obtain ⟨B, A, h1, h2, h3, h4⟩ := insB_split c x out.reverse
  refine ⟨A.reverse, B.reverse, ?_, ?_, fun y hy => h3 y (List.mem_reverse.1 hy), ?_⟩
  · have := congrArg List.reverse h1
    simpa using this
  · unfold insO
    rw [h2]
    simp
  · rcases h4 with rfl | ⟨z, A0, rfl, h⟩
    · exact .inl rfl
    · exact .inr ⟨A0.reverse, z, by simp, h⟩
theorem insO_len (c : Int → Int) (out : List Int) (x : Int) : (insO c out x).length = out.length + 1 := by
  obtain ⟨A, B, rfl, e, _⟩ := insO_split c out x
  rw [e]; simp; omega
theorem insO_good [Ck] {out : List Int} {x : Int} (h : Srt out) : Srt (insO cls out x) ∧ Eqv (out ++ [x]) (insO cls out x) := by
  obtain ⟨A, B, rfl, e, h3, h4⟩ := insO_split cls out x
  rw [e]
  refine ⟨put_srt h (fun u hu => ?_) h3, put_eqv h3⟩
  rcases h4 with rfl | ⟨A0, z, rfl, h5⟩
  · cases hu
  · rcases List.mem_append.1 hu with h6 | h6
    · have := h.parts.1.ahead h6
      omega
    · simp at h6; subst h6; omega
def sortC (c : Int → Int) (n : Nat) : List Int := (places n).foldl (insO c) []
theorem sortC_succ (c : Int → Int) (n : Nat) : sortC c (n + 1) = insO c (sortC c n) n := by unfold sortC; rw [places_succ, List.foldl_append]; rfl
theorem sortC_len (c : Int → Int) : ∀ n, (sortC c n).length = n
  | 0 => rfl
  | n + 1 => by rw [sortC_succ, insO_len, sortC_len c n]
theorem sortC_good [Ck] : ∀ n, Srt (sortC cls n) ∧ Eqv (places n) (sortC cls n)
  | 0 => ⟨Srt.nil, Eqv.refl _⟩
  | n + 1 => by
    obtain ⟨h1, h2⟩ := sortC_good n
    obtain ⟨h3, h4⟩ := insO_good (x := (n : Int)) h1
    rw [sortC_succ]
    refine ⟨h3, ?_⟩
    rw [places_succ]
    exact (h2.app (Eqv.refl _)).trans h4
theorem sortC_mem [Ck] {n : Nat} {x : Int} (h : x ∈ sortC cls n) : 0 ≤ x ∧ x < n := places_mem ((sortC_good n).2.symm.mem h)
theorem insO_mem {c : Int → Int} {out : List Int} {x y : Int} (h : y ∈ insO c out x) : y = x ∨ y ∈ out := by
  obtain ⟨A, B, rfl, e, _⟩ := insO_split c out x
  rw [e] at h
  simp at h ⊢
  rcases h with h | h | h
  · exact .inr (.inl h)
  · exact .inl h
  · exact .inr (.inr h)
theorem sortC_mem2 {c : Int → Int} : ∀ {n : Nat} {x : Int}, x ∈ sortC c n → 0 ≤ x ∧ x < n
  | 0, x, h => by cases h
  | n + 1, x, h => by
    rw [sortC_succ] at h
    rcases insO_mem h with rfl | h
    · omega
    · have := sortC_mem2 h; omega
/-- the places of keys in their order -/
def sortF (ks : List K3) : List Int := sortC (ckOf ks 0).cls ks.length
theorem sort_uniq {ks : List K3} {kb : Nat} {S : List Int} (h1 : @Srt (ckOf ks kb) S) (h2 : @Eqv (ckOf ks kb) (places ks.length) S) : S = sortF ks := by
  letI : Ck := ckOf ks kb
  obtain ⟨h3, h4⟩ := sortC_good (ks.length)
  exact uniq h1 h3 (h2.symm.trans h4)
/-- what sorting tells -/
def outS (l : List (List Int)) : List Int := if (wrongS l).1 = 0 then sortF (keysL l) else []
theorem keysL_len (l : List (List Int)) : (keysL l).length = l.length := by simp [keysL]
theorem outS_len (l : List (List Int)) (h : l.length ≤ 100 ∨ (wrongS l).1 ≠ 0) : (outS l).length ≤ 100 := by
  unfold outS
  split
  · rename_i h0
    rcases h with h | h
    · unfold sortF; rw [sortC_len, keysL_len]; exact h
    · exact absurd h0 h
  · simp
end Go.Proofs.Ytbclmmkphjknaaa.Od

/-
  A store into a row of one's own.
-/
namespace Go.Proofs.Ytbclmmkphjknaaa.K
open Go.RowKit
theorem own_set {F : Nat} {w : World} {X cap n : Nat} {xs : List Value} {e : TypeId} {size : Nat} (h : w.ownsRow F e size (.slice (some ⟨X, 0, none⟩) n cap) n xs) (j : Nat) (u : Value) :
    (w.setCell ⟨X, j, none⟩ u).ownsRow F e size (.slice (some ⟨X, 0, none⟩) n cap) n (xs.set j u) ∧ w.grownBy (w.setCell ⟨X, j, none⟩ u) (some X) := by
  obtain ⟨h1, ⟨h0, _⟩ | ⟨g, k, cur, h0, hb, hx, hn, hm, hs, ht⟩⟩ := h
  · cases h0
  cases h0
  refine ⟨⟨by simp [h1], .inr ⟨X, cap, cur.setIfInBounds j u, rfl, hb, heap_setCell_same w X j _ _ _ hx, hn, hm, by simp [hs], ?_⟩⟩, rfl, rfl, rfl, by simp, fun k hk hne => ?_⟩
  · rw [← ht, Array.toList_setIfInBounds, List.take_set]
  · exact heap_setCell_other w ⟨X, j, none⟩ k u (fun e => hne (by rw [e]))
theorem own_free {F : Nat} {w : World} {X cap n : Nat} {xs : List Value} {e : TypeId} {size : Nat} (h : w.ownsRow F e size (.slice (some ⟨X, 0, none⟩) n cap) n xs) (j : Nat) : w.frozen? ⟨X, j, none⟩ = false := by
  obtain ⟨h1, ⟨h0, _⟩ | ⟨g, k, cur, h0, hb, hx, _⟩⟩ := h
  · cases h0
  cases h0
  rw [World.frozen?]
  simp [hx]
theorem own_at {F : Nat} {w : World} {v : Value} {n : Nat} {xs : List Value} {e : TypeId} {size : Nat} (h : w.ownsRow F e size v n xs) (hn : 0 < n) : ∃ g cap, v = .slice (some ⟨g, 0, none⟩) n cap ∧ F ≤ g ∧ n ≤ cap ∧ cap ≤ maxLen ∧ g < w.heap.size := by
  obtain ⟨h1, ⟨h0, h2⟩ | ⟨g, k, cur, h0, hb, hx, hn2, hm, hs, ht⟩⟩ := h
  · omega
  · exact ⟨g, k, h0, hb, hn2, hm, (Array.getElem?_eq_some_iff.1 hx).1⟩
theorem own_lit (w : World) (e : TypeId) (u : Value) : (w.alloc (.cells #[u] e)).ownsRow w.heap.size e 1 (.slice (some ⟨w.heap.size, 0, none⟩) 1 1) 1 [u] :=
  ⟨rfl, .inr ⟨w.heap.size, 1, #[u], rfl, Nat.le_refl _, heap_alloc_new w _, Nat.le_refl _, by unfold maxLen; omega, rfl, rfl⟩⟩
end Go.Proofs.Ytbclmmkphjknaaa.K
