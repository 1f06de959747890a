/-
  What a script's parts are like where nothing is wrong; and rows of one's own, read.
-/
import Derived.Test.YtchkcjaahjhbcaaVScr
import Derived.Test.YtchkcjaahjhbcaaVVars
import Derived.Test.YtchkcjaahjhbcaaRText
namespace Go.Proofs.Ytchkcjaahjhbcaa
open Go.RowKit
set_option linter.unusedVariables false
set_option linter.unusedSimpArgs false

namespace V
theorem pcells_at : ∀ {ps : List Pass} {rvs : List Value} {j : Nat} {p : Pass} {rv : Value}, ps[j]? = some p → rvs[j]? = some rv → (pcells ps rvs)[j * 2]? = some (.string p.name) ∧ (pcells ps rvs)[j * 2 + 1]? = some rv
  | [], _, j, p, rv, h, _ => by simp at h
  | _ :: _, [], j, p, rv, _, h => by simp at h
  | q :: ps, sv :: rvs, 0, p, rv, h1, h2 => by
    cases h1; cases h2; exact ⟨rfl, rfl⟩
  | q :: ps, sv :: rvs, j + 1, p, rv, h1, h2 => by
    have h := pcells_at (ps := ps) (rvs := rvs) (j := j) (p := p) (rv := rv) (by simpa using h1) (by simpa using h2)
    have e1 : (j + 1) * 2 = j * 2 + 1 + 1 := by omega
    have e2 : (j + 1) * 2 + 1 = j * 2 + 1 + 1 + 1 := by omega
    have e : pcells (q :: ps) (sv :: rvs) = .string q.name :: sv :: pcells ps rvs := rfl
    rw [e, e2, e1]
    simpa using h
theorem RuRow.rus {F : Nat} {tops : List Nat} {w : World} {rv : Value} {rs : List K.Rule} (h : RuRow F tops w rv rs) (hl : rs.length ≤ 1000) : Rus w rv rs := by
  obtain ⟨cs, own, hcl, hcs, hm⟩ := h
  rcases own.2 with ⟨e, h0⟩ | ⟨g, cap, cur, e, _⟩
  · have : rs = [] := List.length_eq_zero_iff.1 h0
    subst this; subst e
    exact Rus.nil w
  · subst e
    refine ⟨some ⟨g, 0, none⟩, cap, rfl, by omega, fun _ => ⟨g, 0, rfl, fun j r hj => ?_⟩⟩
    have hcell := World.ownsRow.cells own (g := g) rfl
    obtain ⟨c, hc⟩ : ∃ c, cs[j]? = some c := by
      have : j < cs.length := by rw [hcl]; exact (List.getElem?_eq_some_iff.1 hj).1
      exact ⟨cs[j], by simp [this]⟩
    have hr := (hm j r c hj hc).here
    obtain ⟨bo, bc, so, sc, ao, ac, to', tc, he, hrest⟩ := hr
    have he2 : c = [.bool r.start, .bool r.fin, .slice bo r.before.length bc, .slice so r.source.length sc, .slice ao r.after.length ac, .slice to' r.target.length tc, .int .i64 r.cursor] := by
      have h2 := Value.agg.inj he
      simpa using congrArg Array.toList h2
    have at' : ∀ (q : Nat) u, c[q]? = some u → w.cell? ⟨g, 0 + j * 7 + q, none⟩ = some u := fun q u hq => by
      have h1 := hcell (j * 7 + q) u (R.flat_get (k := 7) (fun c hc => (hcs c hc).1) j q c u hc hq)
      rw [L.addr_add] at h1
      simpa [Nat.add_assoc] using h1
    subst he2
    exact ⟨bo, bc, so, sc, ao, ac, to', tc, at' 0 _ rfl, at' 1 _ rfl, at' 2 _ rfl, at' 3 _ rfl, at' 4 _ rfl, at' 5 _ rfl, at' 6 _ rfl, ⟨bo, bc, so, sc, ao, ac, to', tc, rfl, hrest⟩⟩
theorem PS.pas {F : Nat} {tops : List Nat} {w : World} {vp : Value} {ps : List Pass} {rvs : List Value} (h : PS F tops w vp ps rvs) (hl : ps.length ≤ 1000) (hr : ∀ p ∈ ps, p.rules.length ≤ 1000) : Pas w vp ps := by
  rcases h.own.2 with ⟨e, h0⟩ | ⟨g, cap, cur, e, _⟩
  · have : ps = [] := List.length_eq_zero_iff.1 h0
    subst this; subst e
    exact Pas.nil w
  · subst e
    refine ⟨some ⟨g, 0, none⟩, cap, rfl, by omega, fun _ => ⟨g, 0, rfl, fun j p hj => ?_⟩⟩
    obtain ⟨rv, hrv⟩ : ∃ rv, rvs[j]? = some rv := by
      have : j < rvs.length := by rw [h.len]; exact (List.getElem?_eq_some_iff.1 hj).1
      exact ⟨rvs[j], by simp [this]⟩
    have hcell := World.ownsRow.cells h.own (g := g) rfl
    obtain ⟨a1, a2⟩ := pcells_at hj hrv
    have c1 := hcell _ _ a1
    have c2 := hcell _ _ a2
    rw [L.addr_add] at c1 c2
    obtain ⟨hrow, hn⟩ := h.rows j p rv hj hrv
    have hrus := hrow.rus (hr p (List.mem_of_getElem? hj))
    obtain ⟨ro, rc, rfl⟩ := hrus.len
    exact ⟨c1, hn, ro, rc, by simpa [Nat.add_assoc] using c2, hrus⟩

/-- sets that fit -/
theorem fit_set {l : List S.Sp} (h : S.wrongE l = 0) : S.Fit l := S.Fit.of_nf (S.wrongE_zero.1 h).2 (by decide)
theorem right_of {l : List R.Item} (h : R.itemsE l = 0) : Right l := R.itemsE_zero.1 h
theorem fit_of {g : ByteArray → List S.Sp} (hg : ∀ s, S.Fit (g s)) {x : R.Item} (h : R.itemE x = 0) : S.Fit (setOf g x) := by
  rcases R.itemE_cases h with ⟨h1, h2⟩ | ⟨h1, h2⟩ | ⟨h1, h2⟩
  · have h3 : 0 ≤ x.rune ∧ x.rune ≤ 1114111 := by
      simp only [M.right, decide_eq_true_eq] at h2; omega
    unfold setOf
    simp only [h1]
    intro y hy
    simp at hy
    subst hy
    simp only
    omega
  · unfold setOf
    simp only [h1]
    simpa using fit_set h2
  · unfold setOf
    simp only [h1]
    simpa using hg _

/-- how long a script may grow -/
theorem putP_small {ps : List Pass} {r : K.Rule} {k : Nat} (h : ps.length ≤ k ∧ ∀ p ∈ ps, p.rules.length ≤ k) : (putP ps r).length ≤ k + 1 ∧ ∀ p ∈ putP ps r, p.rules.length ≤ k + 1 := by
  unfold putP
  cases hl : ps.getLast? with
  | none =>
    have : ps = [] := List.getLast?_eq_none_iff.1 hl
    subst this
    simp
  | some q =>
    obtain ⟨init, rfl⟩ := List.getLast?_eq_some_iff.1 hl
    have hq := h.2 q (by simp)
    have hi : ∀ p ∈ init, p.rules.length ≤ k := fun p hp => h.2 p (by simp [hp])
    have hlen := h.1
    simp at hlen
    simp only
    split
    · refine ⟨by simp; omega, fun p hp => ?_⟩
      simp at hp
      rcases hp with hp | rfl
      · have := hi p hp; omega
      · simp; omega
    · refine ⟨by simp; omega, fun p hp => ?_⟩
      simp at hp
      rcases hp with hp | rfl | rfl
      · have := hi p hp; omega
      · omega
      · simp
theorem scrStep_small {g : ByteArray → List S.Sp} {s : Script} {p : R.Part} {k : Nat} (h : s.passes.length ≤ k ∧ ∀ p ∈ s.passes, p.rules.length ≤ k) : (scrStep g s p).passes.length ≤ k + 1 ∧ ∀ q ∈ (scrStep g s p).passes, q.rules.length ≤ k + 1 := by
  have h' : s.passes.length ≤ k + 1 ∧ ∀ p ∈ s.passes, p.rules.length ≤ k + 1 := ⟨by have := h.1; omega, fun p hp => by have := h.2 p hp; omega⟩
  unfold scrStep
  split
  · exact h'
  · split
    · refine ⟨by have := h.1; simp; omega, fun q hq => ?_⟩
      simp at hq
      rcases hq with hq | rfl
      · exact h'.2 q hq
      · simp
    · split
      · split
        · exact h'
        · exact putP_small h
      · exact h'
theorem scr_small (g : ByteArray → List S.Sp) (l : List R.Part) : ∀ k, k ≤ l.length → (scr g (l.take k)).passes.length ≤ k ∧ ∀ p ∈ (scr g (l.take k)).passes, p.rules.length ≤ k := by
  intro k
  induction k with
  | zero => intro _; simp [scr]
  | succ k ih =>
    intro hk
    have e : l.take (k + 1) = l.take k ++ [l[k]] := by rw [List.take_add_one, List.getElem?_eq_getElem (by omega)]; rfl
    have h := scrStep_small (g := g) (p := l[k]) (ih (by omega))
    rw [e]
    unfold scr at h ⊢
    rw [List.foldl_append]
    exact h
end V

end Go.Proofs.Ytchkcjaahjhbcaa
