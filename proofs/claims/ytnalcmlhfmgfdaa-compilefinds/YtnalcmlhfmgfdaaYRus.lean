/-
  Rules in memory: one of many, the first ones of many; the set with which a rule begins.
-/
import Derived.Test.YtnalcmlhfmgfdaaYHead
import Derived.Test.YtnalcmlhfmgfdaaQWrong
namespace Go.Proofs.Ytnalcmlhfmgfdaa
open Go.RowKit Go.Shelf
set_option maxRecDepth 20000
set_option linter.unusedSimpArgs false
set_option linter.unusedVariables false

namespace K
/-- a rule among many: its cells -/
theorem Rus.rule {w : World} {ao : Option Addr} {n cap : Nat} {l : List Rule} (h : V.Rus w (.slice ao n cap) l) {j : Nat} {p : Rule} (hp : l[j]? = some p) :
    ∃ b off bo bc so sc ao2 ac to tc, ao = some ⟨b, off, none⟩ ∧
      w.cell? ⟨b, off + j * 7, none⟩ = some (.bool p.start) ∧ w.cell? ⟨b, off + j * 7 + 1, none⟩ = some (.bool p.fin) ∧ w.cell? ⟨b, off + j * 7 + 2, none⟩ = some (.slice bo p.before.length bc) ∧ w.cell? ⟨b, off + j * 7 + 3, none⟩ = some (.slice so p.source.length sc) ∧ w.cell? ⟨b, off + j * 7 + 4, none⟩ = some (.slice ao2 p.after.length ac) ∧ w.cell? ⟨b, off + j * 7 + 5, none⟩ = some (.slice to p.target.length tc) ∧ w.cell? ⟨b, off + j * 7 + 6, none⟩ = some (.int .i64 p.cursor) ∧
      RuIs w (.agg #[.bool p.start, .bool p.fin, .slice bo p.before.length bc, .slice so p.source.length sc, .slice ao2 p.after.length ac, .slice to p.target.length tc, .int .i64 p.cursor]) p := by
  obtain ⟨ao', cap', e', _, hcs⟩ := h
  cases e'
  obtain ⟨b, off, rfl, hcell⟩ := hcs (by intro h; subst h; simp at hp)
  obtain ⟨bo, bc, so, sc, ao, ac, to, tc, h⟩ := hcell j p hp
  exact ⟨b, off, bo, bc, so, sc, ao, ac, to, tc, rfl, h⟩
/-- the first ones of many rules -/
theorem Rus.upto {w : World} {ao : Option Addr} {n cap : Nat} {l : List Rule} (h : V.Rus w (.slice ao n cap) l) {k : Nat} (hk : k ≤ l.length) (c : Nat) : V.Rus w (.slice ao k c) (l.take k) := by
  have hf := h.few
  obtain ⟨ao', cap', e', _, hcs⟩ := h
  cases e'
  refine ⟨ao, c, by rw [List.length_take, Nat.min_eq_left hk], by rw [List.length_take]; omega, fun hz => ?_⟩
  obtain ⟨b, off, rfl, hcell⟩ := hcs (by intro h; subst h; simp at hz)
  refine ⟨b, off, rfl, fun j r hj => ?_⟩
  rw [List.getElem?_take] at hj
  split at hj
  · exact hcell j r hj
  · cases hj
theorem head_at {r : Rule} {s : List S.Sp} (h : r.source[0]? = some s) : headS r = s := by
  unfold headS
  cases hq : r.source with
  | nil => rw [hq] at h; simp at h
  | cons y l => rw [hq] at h; simpa using h
theorem head_ok {r : Rule} (h : ruleE r = 0) : S.Nf 0 (headS r) ∧ (headS r).length ≤ 200 := by
  obtain ⟨_, h2, _, h4, _⟩ := ruleE_zero h
  obtain ⟨s, hs⟩ : ∃ s, r.source[0]? = some s := ⟨r.source[0], by simp⟩
  rw [head_at hs]
  exact h2.2 s (List.mem_of_getElem? hs)
end K

end Go.Proofs.Ytnalcmlhfmgfdaa
