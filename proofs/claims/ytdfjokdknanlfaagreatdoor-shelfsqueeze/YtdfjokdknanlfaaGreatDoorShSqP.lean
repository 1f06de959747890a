/-
  squeeze: one of each run of b, of c, of d. Plain lists.
-/
import Derived.Test.YtdfjokdknanlfaaGreatDoorShPlay
namespace Go.Proofs.YtdfjokdknanlfaaGreatDoor.Sh
set_option linter.unusedSimpArgs false

def rZ (a : Int) : K.Rule := ⟨false, false, [], [[(a, a)], [(a, a)]], [], [a], 0⟩
/-- as the statement has it: the one ahead -/
def sq : Int → List Int → List Int
  | _, [] => []
  | last, r :: l => if r = last ∧ 98 ≤ r ∧ r ≤ 100 then sq r l else r :: sq r l
/-- as the rules have it: the one behind -/
def sf : List Int → List Int
  | [] => []
  | [r] => [r]
  | r :: x :: l => if r = x ∧ 98 ≤ r ∧ r ≤ 100 then sf (x :: l) else r :: sf (x :: l)
theorem sf_sq : ∀ (l : List Int) (r : Int), sf (r :: l) = r :: sq r l := by
  intro l
  induction l with
  | nil => intro r; rfl
  | cons x l ih =>
    intro r
    rw [sf, sq, ih x]
    by_cases h : r = x ∧ 98 ≤ r ∧ r ≤ 100
    · obtain ⟨rfl, h1, h2⟩ := h
      rw [if_pos ⟨rfl, h1, h2⟩, if_pos ⟨rfl, h1, h2⟩]
    · rw [if_neg h, if_neg (by rintro ⟨rfl, h1, h2⟩; exact h ⟨rfl, h1, h2⟩)]
theorem sf_is {z : Int} (hz : z < 98) (t : List Int) : sf t = sq z t := by
  cases t with
  | nil => rfl
  | cons r l => rw [sf_sq, sq, if_neg (by rintro ⟨rfl, h1, h2⟩; omega)]
theorem match_z (a : Int) (done : List Int) (r : Int) (rest : List Int) : K.matchB (rZ a) (done ++ r :: rest) done.length = decide (r = a ∧ rest.head? = some a) := by
  have e1 := zed done r rest
  have e0 : (done.length : Int) - ((([] : List (List S.Sp)).length : Nat) : Int) = (done.length : Int) := by simp
  have em : ∀ z : Int, S.memb [(a, a)] z = decide (z = a) := fun z => by simp [S.memb]; rw [Bool.eq_iff_iff]; simp; omega
  cases rest with
  | nil => simp [K.matchB, K.runAt, rZ]
  | cons y rest =>
    have e2 : (done ++ r :: y :: rest).getD ((done.length : Int) + 1).toNat 0 = y := by
      have h := zed (done ++ [r]) y rest
      rw [List.append_assoc] at h
      have e : ((done ++ [r]).length : Int).toNat = ((done.length : Int) + 1).toNat := by first | (simp; done) | (simp; omega)
      rw [e] at h
      exact h
    simp only [K.matchB, rZ, e0, List.nil_append, List.cons_append, List.append_nil, K.runAt, Bool.and_true, e1, e2, em, Bool.false_and, Bool.not_false, List.head?_cons]
    have h1 : decide ((0 : Int) ≤ (done.length : Int)) = true := by simp
    have h2 : decide ((done.length : Int) < ((done ++ r :: y :: rest).length : Int)) = true := by first | (simp; done) | (simp; omega)
    have h3 : decide ((0 : Int) ≤ (done.length : Int) + 1) = true := by first | (simp; done) | (simp; omega)
    have h4 : decide ((done.length : Int) + 1 < ((done ++ r :: y :: rest).length : Int)) = true := by first | (simp; done) | (simp; omega)
    rw [h1, h2, h3, h4]
    rw [Bool.eq_iff_iff]; simp
theorem which_z {t : List Int} {k : Int} : K.which [rZ 98, rZ 99, rZ 100] t k = if K.matchB (rZ 98) t k = true then 0 else if K.matchB (rZ 99) t k = true then 1 else if K.matchB (rZ 100) t k = true then 2 else -1 := by
  unfold K.which
  rw [K.whichN, K.whichN, K.whichN, K.whichN]
  rfl
theorem which_at (done : List Int) (r : Int) (rest : List Int) : (K.which [rZ 98, rZ 99, rZ 100] (done ++ r :: rest) done.length = -1 ∧ ¬ (rest.head? = some r ∧ 98 ≤ r ∧ r ≤ 100)) ∨ ∃ (j : Nat), K.which [rZ 98, rZ 99, rZ 100] (done ++ r :: rest) done.length = (j : Int) ∧ [rZ 98, rZ 99, rZ 100][j]? = some (rZ r) ∧ rest.head? = some r ∧ 98 ≤ r ∧ r ≤ 100 := by
  rw [which_z, match_z, match_z, match_z]
  by_cases h : rest.head? = some r ∧ 98 ≤ r ∧ r ≤ 100
  · obtain ⟨h1, h2, h3⟩ := h
    right
    have h4 : r = 98 ∨ r = 99 ∨ r = 100 := by omega
    rcases h4 with rfl | rfl | rfl
    · exact ⟨0, by simp [h1], rfl, h1, by omega, by omega⟩
    · exact ⟨1, by simp [h1], rfl, h1, by omega, by omega⟩
    · exact ⟨2, by simp [h1], rfl, h1, by omega, by omega⟩
  · left
    refine ⟨?_, h⟩
    have hn : ∀ a : Int, 98 ≤ a → a ≤ 100 → decide (r = a ∧ rest.head? = some a) = false := fun a h1 h2 => by
      simp only [decide_eq_false_iff_not]
      rintro ⟨rfl, h3⟩
      exact h ⟨h3, h1, h2⟩
    rw [hn 98 (by omega) (by omega), hn 99 (by omega) (by omega), hn 100 (by omega) (by omega)]
    simp
theorem play_sq : ∀ (rest : List Int) (left : Nat) (done : List Int) (s p : Int), rest.length ≤ left → done.length + rest.length ≤ 4000 → ∃ s' p', K.play [rZ 98, rZ 99, rZ 100] left done rest s p = (0, done ++ sf rest, s', p') := by
  intro rest
  induction rest with
  | nil => intro left done s p _ _; exact ⟨s, p, by rw [K.zdo rfl]; simp [sf]⟩
  | cons r rest ih =>
    intro left done s p hl hd
    obtain ⟨n, rfl⟩ : ∃ n, left = n + 1 := ⟨left - 1, by simp at hl; omega⟩
    simp only [List.length_cons] at hl hd
    have hne : ¬ (r :: rest).length = 0 := by simp
    rcases which_at done r rest with ⟨h1, h2⟩ | ⟨j, h1, h2, h3, h4, h5⟩
    · rw [K.zi4 hne h1]
      obtain ⟨s', p', h⟩ := ih n (done ++ [r]) (s + 1) p (by omega) (by first | (simp; done) | (simp; omega))
      refine ⟨s', p', ?_⟩
      show K.play _ n (done ++ [r]) rest (s + 1) p = _
      rw [h, List.append_assoc]
      cases rest with
      | nil => rfl
      | cons x l => rw [sf, if_neg (by rintro ⟨rfl, h6, h7⟩; exact h2 ⟨rfl, h6, h7⟩)]; rfl
    · cases rest with
      | nil => cases h3
      | cons x l =>
        simp only [List.head?_cons, Option.some.injEq] at h3
        subst h3
        have e : K.restOf (rZ x) (x :: x :: l) = x :: l := rfl
        rw [K.zgy hne h1 h2 (by rw [e]; simp at hd ⊢; omega), e]
        obtain ⟨s', p', h⟩ := ih n done (s + 1) (p + 1) (by omega) (by simp at hd ⊢; omega)
        refine ⟨s', p', ?_⟩
        show K.play _ n (done ++ []) (x :: l) (s + 1) (p + 1) = _
        rw [List.append_nil, h, sf, if_pos ⟨rfl, h4, h5⟩]
theorem sq_mem : ∀ (t : List Int) (z y : Int), y ∈ sq z t → y ∈ t := by
  intro t
  induction t with
  | nil => intro z y h; exact h
  | cons r t ih =>
    intro z y h
    rw [sq] at h
    split at h
    · exact List.mem_cons_of_mem _ (ih _ _ h)
    · rcases List.mem_cons.1 h with rfl | h
      · exact List.mem_cons_self
      · exact List.mem_cons_of_mem _ (ih _ _ h)
theorem go_sq {pl : Cn.Pl} (hpl : Cn.PlOk pl) {t : List Int} (ht : t.length ≤ 1000) (hR : ∀ z ∈ t, M.right z = true) : Cn.goF pl (oneS [rZ 98, rZ 99, rZ 100]) t = (sq (-1) t, 0, 0) := by
  obtain ⟨s, p, hp⟩ := play_sq t (8 * t.length + 40) [] 0 0 (by omega) (by first | (simp; done) | (simp; omega))
  rw [List.nil_append, sf_is (z := -1) (by omega)] at hp
  exact zra hpl (by decide +kernel) (by decide +kernel) ⟨by omega, by unfold K.allR; rw [List.all_eq_true]; exact hR⟩ hp
end Go.Proofs.YtdfjokdknanlfaaGreatDoor.Sh
