/-
  Which rules mask which: analyse.Masks, analyse.Masked.
-/
import Derived.Test.YtdmpmkcigjkilaaYSure
import Derived.Test.YtdmpmkcigjkilaaQWrong
namespace Go.Proofs.Ytdmpmkcigjkilaa
open Go.RowKit Go.Shelf
set_option maxRecDepth 20000
set_option linter.unusedSimpArgs false
set_option linter.unusedVariables false

namespace K
/-- a rule among many: its cells -/
theorem Rus.rule {w : World} {ao : Option Addr} {n cap : Nat} {l : List Rule} (h : V.Rus w (.slice ao n cap) l) {j : Nat} {p : Rule} (hp : l[j]? = some p) :
    ∃ b off bo bc so sc ao2 ac to tc, ao = some ⟨b, off, none⟩ ∧
      w.cell? ⟨b, off + j * 7, none⟩ = some (.bool p.start) ∧ w.cell? ⟨b, off + j * 7 + 1, none⟩ = some (.bool p.fin) ∧ w.cell? ⟨b, off + j * 7 + 2, none⟩ = some (.slice bo p.before.length bc) ∧ w.cell? ⟨b, off + j * 7 + 3, none⟩ = some (.slice so p.source.length sc) ∧ w.cell? ⟨b, off + j * 7 + 4, none⟩ = some (.slice ao2 p.after.length ac) ∧ w.cell? ⟨b, off + j * 7 + 5, none⟩ = some (.slice to p.target.length tc) ∧ w.cell? ⟨b, off + j * 7 + 6, none⟩ = some (.int .i64 p.cursor) ∧
      RuIs w (.agg #[.bool p.start, .bool p.fin, .slice bo p.before.length bc, .slice so p.source.length sc, .slice ao2 p.after.length ac, .slice to p.target.length tc, .int .i64 p.cursor]) p := by
  obtain ⟨ao', cap', e', _, hcs⟩ := h
  cases e'
  obtain ⟨b, off, rfl, hcell⟩ := hcs (by intro h; subst h; simp at hp)
  obtain ⟨bo, bc, so, sc, ao, ac, to, tc, h⟩ := hcell j p hp
  exact ⟨b, off, bo, bc, so, sc, ao, ac, to, tc, rfl, h⟩
/-- the first ones of many rules -/
theorem Rus.upto {w : World} {ao : Option Addr} {n cap : Nat} {l : List Rule} (h : V.Rus w (.slice ao n cap) l) {k : Nat} (hk : k ≤ l.length) (c : Nat) : V.Rus w (.slice ao k c) (l.take k) := by
  have hf := h.few
  obtain ⟨ao', cap', e', _, hcs⟩ := h
  cases e'
  refine ⟨ao, c, by rw [List.length_take, Nat.min_eq_left hk], by rw [List.length_take]; omega, fun hz => ?_⟩
  obtain ⟨b, off, rfl, hcell⟩ := hcs (by intro h; subst h; simp at hz)
  refine ⟨b, off, rfl, fun j r hj => ?_⟩
  rw [List.getElem?_take] at hj
  split at hj
  · exact hcell j r hj
  · cases hj
end K

set_option maxHeartbeats 1000000 in
theorem masked1_any (w : World) (va : Value) (a b : K.Rule) (Ra : K.RuIs w va a) (ha : K.ruleE a = 0) (hb : K.ruleE b = 0) (br : Nat) (bo so ao to : Option Addr) (bc sc ac tc : Nat) (Rb : K.RuIs w (.agg #[.bool b.start, .bool b.fin, .slice bo b.before.length bc, .slice so b.source.length sc, .slice ao b.after.length ac, .slice to b.target.length tc, .int .i64 b.cursor]) b)
    (hc : w.heap[br]? = some (.cells #[.bool b.start, .bool b.fin, .slice bo b.before.length bc, .slice so b.source.length sc, .slice ao b.after.length ac, .slice to b.target.length tc, .int .i64 b.cursor] 64)) :
    Calls Try.prog 50 (#[va] ++ #[.pointer (some ⟨br, 0, none⟩)]) w fun e w' => e = .returned (.bool (K.masksB a b)) ∧ Below w.heap.size w w' := by
  have HM : Hid (∀ o, Calls Try.prog 49 #[va, .agg #[.bool b.start, .bool b.fin, .slice bo b.before.length bc, .slice so b.source.length sc, .slice ao b.after.length ac, .slice to b.target.length tc, .int .i64 b.cursor]] (w.alloc o) fun e w' => e = .returned (.bool (K.masksB a b)) ∧ Below (w.alloc o).heap.size (w.alloc o) w') := fun o => masks_any _ _ _ a b (Ra.below ((Below.refl _ w).alloc (Nat.le_refl _) o)) (Rb.below ((Below.refl _ w).alloc (Nat.le_refl _) o)) ha hb
  obtain ⟨abo, abc, aso, asc, aao, aac, ato, atc, rfl, _⟩ := Ra
  have hbl := (Array.getElem?_eq_some_iff.1 hc).1
  have x0 : ∀ o, (w.alloc o).cell? ⟨br, 0, none⟩ = some (.bool b.start) := fun o => K.alloc_cell (K.at_box (i := 0) hc rfl) o
  have x1 : ∀ o, (w.alloc o).cell? ⟨br, 1, none⟩ = some (.bool b.fin) := fun o => K.alloc_cell (K.at_box (i := 1) hc rfl) o
  have x2 : ∀ o, (w.alloc o).cell? ⟨br, 2, none⟩ = some (.slice bo b.before.length bc) := fun o => K.alloc_cell (K.at_box (i := 2) hc rfl) o
  have x3 : ∀ o, (w.alloc o).cell? ⟨br, 3, none⟩ = some (.slice so b.source.length sc) := fun o => K.alloc_cell (K.at_box (i := 3) hc rfl) o
  have x4 : ∀ o, (w.alloc o).cell? ⟨br, 4, none⟩ = some (.slice ao b.after.length ac) := fun o => K.alloc_cell (K.at_box (i := 4) hc rfl) o
  have x5 : ∀ o, (w.alloc o).cell? ⟨br, 5, none⟩ = some (.slice to b.target.length tc) := fun o => K.alloc_cell (K.at_box (i := 5) hc rfl) o
  have x6 : ∀ o, (w.alloc o).cell? ⟨br, 6, none⟩ = some (.int .i64 b.cursor) := fun o => K.alloc_cell (K.at_box (i := 6) hc rfl) o
  generalize K.masksB a b = mm at *
  clear ha hb Rb hc
  show Calls Try.prog 50 #[_, .pointer (some ⟨br, 0, none⟩)] w _
  go_enter Try.func50, Try.ntmps50
  go_wp2_with fail
  refine (HM.out _).mono ?_
  rintro e w1 ⟨rfl, z1⟩
  have HB1 : Hid (Below w.heap.size w w1) := (K.one_box z1).2.1
  clear z1 x0 x1 x2 x3 x4 x5 x6
  go_wp2
  go_ret
  exact ⟨rfl, HB1.out⟩

end Go.Proofs.Ytdmpmkcigjkilaa
