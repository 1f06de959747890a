/-
  What the document's Edges answers of slices of spans.
-/
import Derived.Test.YtdmpmkcigjkilaaSEdgeP
import Derived.Test.YtdmpmkcigjkilaaSBuild
namespace Go.Proofs.Ytdmpmkcigjkilaa.S
def edgesOf (l : List Sp) : List Int := l.flatMap fun x => [x.1, x.2 + 1]
def edgesF (ls : List (List Sp)) : List Int := (ls.flatMap edgesOf).foldl insF [0]

theorem fold_spec (D : List Int) : ∀ zs : List Int, zs.Pairwise (· < ·) → (D.foldl insF zs).Pairwise (· < ·) ∧ (∀ q, q ∈ D.foldl insF zs ↔ q ∈ zs ∨ (q ∈ D ∧ q ≤ 1114111)) ∧ (D.foldl insF zs).length ≤ zs.length + D.length := by
  induction D with
  | nil => intro zs h; exact ⟨h, fun q => by simp, by simp⟩
  | cons d D ih =>
    intro zs h
    obtain ⟨h1, h2, h3⟩ := insF_spec (r := d) h
    obtain ⟨i1, i2, i3⟩ := ih _ h1
    refine ⟨i1, fun q => ?_, by simp only [List.foldl_cons, List.length_cons]; omega⟩
    rw [List.foldl_cons, i2, h2, List.mem_cons]
    constructor
    · rintro ((h | ⟨rfl, h⟩) | ⟨h, h'⟩)
      · exact .inl h
      · exact .inr ⟨.inl rfl, h⟩
      · exact .inr ⟨.inr h, h'⟩
    · rintro (h | ⟨rfl | h, h'⟩)
      · exact .inl (.inl h)
      · exact .inl (.inr ⟨rfl, h'⟩)
      · exact .inr ⟨h, h'⟩

theorem edgesF_spec {ls : List (List Sp)} (hb : ∀ l ∈ ls, l.any bad = false) : (edgesF ls).Pairwise (· < ·) ∧ (edgesF ls)[0]? = some 0 ∧ (∀ q, q ∈ edgesF ls ↔ q = 0 ∨ (q ≤ 1114111 ∧ ∃ l ∈ ls, ∃ x ∈ l, q = x.1 ∨ q = x.2 + 1)) ∧ (edgesF ls).length ≤ 1 + (ls.flatMap edgesOf).length := by
  obtain ⟨h1, h2, h3⟩ := fold_spec (ls.flatMap edgesOf) [0] (by simp)
  have hm : ∀ q, q ∈ edgesF ls ↔ q = 0 ∨ (q ≤ 1114111 ∧ ∃ l ∈ ls, ∃ x ∈ l, q = x.1 ∨ q = x.2 + 1) := by
    intro q
    unfold edgesF
    rw [h2]
    simp only [List.mem_flatMap, edgesOf, List.mem_cons, List.not_mem_nil, or_false]
    constructor
    · rintro (h | ⟨⟨l, hl, x, hx, h⟩, h'⟩)
      · exact .inl h
      · exact .inr ⟨h', l, hl, x, hx, h⟩
    · rintro (h | ⟨h', l, hl, x, hx, h⟩)
      · exact .inl h
      · exact .inr ⟨⟨l, hl, x, hx, h⟩, h'⟩
  refine ⟨h1, ?_, hm, by simpa [edgesF] using h3⟩
  have h0 : (0 : Int) ∈ edgesF ls := (hm 0).2 (.inl rfl)
  cases he : edgesF ls with
  | nil => rw [he] at h0; simp at h0
  | cons z zs =>
    have hz : z ∈ edgesF ls := by rw [he]; simp
    have hz0 : 0 ≤ z := by
      rcases (hm z).1 hz with h | ⟨_, l, hl, x, hx, h⟩
      · omega
      · have := bad_false.1 (by simpa using (List.any_eq_false.1 (hb l hl)) x hx)
        omega
    rw [he] at h0
    rcases List.mem_cons.1 h0 with h | h
    · simp [h]
    · have hp : (z :: zs).Pairwise (· < ·) := by rw [← he]; exact h1
      have := (List.pairwise_cons.1 hp).1 0 h
      omega
end Go.Proofs.Ytdmpmkcigjkilaa.S
namespace Go.Proofs.Ytdmpmkcigjkilaa
open Go.RowKit

/-- between two edges nothing changes of what the spans have -/
theorem edged_memb {ls : List (List S.Sp)} (hb : ∀ l ∈ ls, l.any S.bad = false) (i : Nat) (r : Int) (hr : (S.edgesF ls)[i]? = some r) (q : Int) (h1 : r ≤ q) (h2 : ∀ r', (S.edgesF ls)[i + 1]? = some r' → q < r') (h3 : q ≤ 1114111) (l : List S.Sp) (hl : l ∈ ls) : S.memb l q = S.memb l r := by
  obtain ⟨e1, e2, e3, _⟩ := S.edgesF_spec hb
  have hno : ∀ e ∈ S.edgesF ls, r < e → q < e := by
    intro e he hlt
    obtain ⟨j, hj⟩ := List.getElem?_of_mem he
    have lj := (List.getElem?_eq_some_iff.1 hj).1
    have li := (List.getElem?_eq_some_iff.1 hr).1
    have hij : i < j := by
      rcases Nat.lt_trichotomy i j with h | h | h
      · exact h
      · subst h; rw [hr] at hj; cases hj; omega
      · have := (List.pairwise_iff_getElem.1 e1) j i lj li h
        rw [List.getElem?_eq_getElem lj] at hj
        rw [List.getElem?_eq_getElem li] at hr
        have := Option.some.inj hj
        have := Option.some.inj hr
        omega
    have l1 : i + 1 < (S.edgesF ls).length := by omega
    have hq := h2 _ (List.getElem?_eq_getElem l1)
    by_cases e : j = i + 1
    · subst e
      rw [List.getElem?_eq_getElem l1] at hj
      have := Option.some.inj hj
      omega
    · have := (List.pairwise_iff_getElem.1 e1) (i + 1) j l1 lj (by omega)
      rw [List.getElem?_eq_getElem lj] at hj
      have := Option.some.inj hj
      omega
  apply S.bool_eq
  rw [S.memb_iff, S.memb_iff]
  have hx : ∀ x ∈ l, (x.1 ≤ 1114111 → r < x.1 → q < x.1) ∧ (x.2 + 1 ≤ 1114111 → r < x.2 + 1 → q < x.2 + 1) := fun x hx =>
    ⟨fun h4 h5 => hno x.1 ((e3 _).2 (.inr ⟨h4, l, hl, x, hx, .inl rfl⟩)) h5, fun h4 h5 => hno _ ((e3 _).2 (.inr ⟨h4, l, hl, x, hx, .inr rfl⟩)) h5⟩
  have hok : ∀ x ∈ l, 0 ≤ x.1 ∧ x.1 ≤ x.2 ∧ x.2 ≤ 1114111 := fun x hx => S.bad_false.1 (by simpa using (List.any_eq_false.1 (hb l hl)) x hx)
  constructor
  · rintro ⟨x, hxl, h4, h5⟩
    have := hx x hxl
    have := hok x hxl
    refine ⟨x, hxl, ?_, by omega⟩
    by_cases c : x.1 ≤ r
    · exact c
    · have := (hx x hxl).1 (by omega) (by omega); omega
  · rintro ⟨x, hxl, h4, h5⟩
    have := hok x hxl
    refine ⟨x, hxl, by omega, ?_⟩
    by_cases c : q ≤ x.2
    · exact c
    · have := (hx x hxl).2 (by omega) (by omega); omega

theorem edged_of {ls : List (List S.Sp)} (hb : ∀ l ∈ ls, l.any S.bad = false) (P : Int → Bool) (hP : ∀ q r, (∀ l ∈ ls, S.memb l q = S.memb l r) → P q = P r) : Edged (S.edgesF ls) P := by
  obtain ⟨e1, e2, e3, _⟩ := S.edgesF_spec hb
  refine ⟨e2, e1, fun z hz => ?_, fun i r hr q h1 h2 h3 => hP q r fun l hl => edged_memb hb i r hr q h1 h2 h3 l hl⟩
  rcases (e3 z).1 hz with h | h
  · omega
  · exact h.1

namespace S
/-- rising numbers between two bounds are so many at most -/
theorem rising_len : ∀ (zs : List Int) (a b : Int), zs.Pairwise (· < ·) → (∀ z ∈ zs, a ≤ z ∧ z ≤ b) → a ≤ b + 1 → (zs.length : Int) ≤ b - a + 1
  | [], a, b, _, _, h => by simp; omega
  | z :: zs, a, b, hp, hb, h => by
    have h1 := hb z List.mem_cons_self
    have h2 := rising_len zs (z + 1) b (List.pairwise_cons.1 hp).2 (fun y hy => ⟨by have := (List.pairwise_cons.1 hp).1 y hy; omega, (hb y (List.mem_cons_of_mem _ hy)).2⟩) (by omega)
    simp only [List.length_cons]
    omega
theorem fold_len (D : List Int) (h : ∀ d ∈ D, 0 ≤ d) : (D.foldl insF [0]).length ≤ 1114112 := by
  obtain ⟨h1, h2, _⟩ := fold_spec D [0] (by simp)
  have := rising_len _ 0 1114111 h1 (fun z hz => by
    rcases (h2 z).1 hz with hz | hz
    · simp at hz; omega
    · exact ⟨h z hz.1, hz.2⟩) (by omega)
  omega
theorem edges_pos {l : List Sp} (hb : l.any bad = false) : ∀ d ∈ edgesOf l, 0 ≤ d := fun d hd => by
  simp only [edgesOf, List.mem_flatMap, List.mem_cons, List.not_mem_nil, or_false] at hd
  obtain ⟨x, hx, hd⟩ := hd
  have := bad_false.1 (by simpa using (List.any_eq_false.1 hb) x hx)
  omega
theorem edgesF_len {ls : List (List Sp)} (hb : ∀ l ∈ ls, l.any bad = false) : (edgesF ls).length ≤ 1114112 := by
  refine fold_len _ fun d hd => ?_
  obtain ⟨l, hl, hd⟩ := List.mem_flatMap.1 hd
  exact edges_pos (hb l hl) d hd
end S

end Go.Proofs.Ytdmpmkcigjkilaa
