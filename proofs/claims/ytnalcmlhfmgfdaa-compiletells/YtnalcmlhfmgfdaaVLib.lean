/-
  Scripts in memory: what reads as a list of rules, of passes, as a script; and what a meaning hangs on.
-/
import Derived.Test.YtnalcmlhfmgfdaaMLib
import Derived.Test.YtnalcmlhfmgfdaaRLib
namespace Go.Proofs.Ytnalcmlhfmgfdaa.V
open Go.RowKit

structure Pass where
  name : ByteArray
  rules : List K.Rule

structure Script where
  has : Bool
  only : List S.Sp
  passes : List Pass

theorem sets_keeps {w w' : World} {v : Value} {l : List (List S.Sp)} (h : K.Ss w v l) (k : R.Keeps w w') : K.Ss w' v l := by
  obtain ⟨ao, cap, vs, rfl, hn, hl, hs, hc⟩ := h
  refine ⟨ao, cap, vs, rfl, hn, hl, ⟨hs.1, fun j u s hu hj => ?_⟩, fun hz => ?_⟩
  · obtain ⟨h1, h2, h3⟩ := hs.2 j u s hu hj
    exact ⟨h1, R.rd_keeps h2 k, h3⟩
  · obtain ⟨b, off, rfl, hc2⟩ := hc hz
    exact ⟨b, off, rfl, fun j u hj => k _ _ _ (hc2 j u hj)⟩
theorem runes_keeps {w w' : World} {v : Value} {l : List Int} (h : L.Rd w v .i32 l) (k : R.Keeps w w') : L.Rd w' v .i32 l := by
  obtain ⟨ao, cap, rfl, hn, h⟩ := h
  refine ⟨ao, cap, rfl, hn, fun hz => ?_⟩
  obtain ⟨b, off, rfl, hc⟩ := h hz
  exact ⟨b, off, rfl, fun j z hj => k _ _ _ (hc j z hj)⟩
theorem rule_keeps {w w' : World} {v : Value} {r : K.Rule} (h : K.RuIs w v r) (k : R.Keeps w w') : K.RuIs w' v r := by
  obtain ⟨bo, bc, so, sc, ao, ac, to, tc, rfl, h1, h2, h3, h4, h5⟩ := h
  exact ⟨bo, bc, so, sc, ao, ac, to, tc, rfl, sets_keeps h1 k, sets_keeps h2 k, sets_keeps h3 k, runes_keeps h4 k, h5⟩

/-- A SLICE VALUE READS AS A LIST OF RULES: seven cells each. -/
def Rus (w : World) (v : Value) (l : List K.Rule) : Prop :=
  ∃ ao cap, v = .slice ao l.length cap ∧ l.length ≤ 140737488355328 ∧ (l ≠ [] → ∃ b off, ao = some ⟨b, off, none⟩ ∧ ∀ (j : Nat) r, l[j]? = some r →
    ∃ bo bc so sc ao ac to tc,
      w.cell? ⟨b, off + j * 7, none⟩ = some (.bool r.start) ∧
      w.cell? ⟨b, off + j * 7 + 1, none⟩ = some (.bool r.fin) ∧
      w.cell? ⟨b, off + j * 7 + 2, none⟩ = some (.slice bo r.before.length bc) ∧
      w.cell? ⟨b, off + j * 7 + 3, none⟩ = some (.slice so r.source.length sc) ∧
      w.cell? ⟨b, off + j * 7 + 4, none⟩ = some (.slice ao r.after.length ac) ∧
      w.cell? ⟨b, off + j * 7 + 5, none⟩ = some (.slice to r.target.length tc) ∧
      w.cell? ⟨b, off + j * 7 + 6, none⟩ = some (.int .i64 r.cursor) ∧
      K.RuIs w (.agg #[.bool r.start, .bool r.fin, .slice bo r.before.length bc, .slice so r.source.length sc, .slice ao r.after.length ac, .slice to r.target.length tc, .int .i64 r.cursor]) r)
theorem Rus.nil (w : World) : Rus w (.slice none 0 0) [] := ⟨none, 0, rfl, by simp, fun h => absurd rfl h⟩
theorem Rus.len {w : World} {v : Value} {l : List K.Rule} (h : Rus w v l) : ∃ ao cap, v = .slice ao l.length cap := by
  obtain ⟨ao, cap, rfl, _⟩ := h; exact ⟨ao, cap, rfl⟩
theorem Rus.few {w : World} {v : Value} {l : List K.Rule} (h : Rus w v l) : l.length ≤ 140737488355328 := by
  obtain ⟨ao, cap, rfl, h, _⟩ := h; exact h
theorem Rus.keeps {w w' : World} {v : Value} {l : List K.Rule} (h : Rus w v l) (k : R.Keeps w w') : Rus w' v l := by
  obtain ⟨ao, cap, rfl, hl, h⟩ := h
  refine ⟨ao, cap, rfl, hl, fun hz => ?_⟩
  obtain ⟨b, off, rfl, hc⟩ := h hz
  refine ⟨b, off, rfl, fun j r hj => ?_⟩
  obtain ⟨bo, bc, so, sc, ao, ac, to, tc, c0, c1, c2, c3, c4, c5, c6, hr⟩ := hc j r hj
  exact ⟨bo, bc, so, sc, ao, ac, to, tc, k _ _ _ c0, k _ _ _ c1, k _ _ _ c2, k _ _ _ c3, k _ _ _ c4, k _ _ _ c5, k _ _ _ c6, rule_keeps hr k⟩
theorem Rus.below {w w' : World} {v : Value} {l : List K.Rule} (h : Rus w v l) (hb : Below w.heap.size w w') : Rus w' v l := h.keeps (R.Keeps.of_below hb (Nat.le_refl _))

/-- A SLICE VALUE READS AS A LIST OF PASSES: two cells each. -/
def Pas (w : World) (v : Value) (l : List Pass) : Prop :=
  ∃ ao cap, v = .slice ao l.length cap ∧ l.length ≤ 140737488355328 ∧ (l ≠ [] → ∃ b off, ao = some ⟨b, off, none⟩ ∧ ∀ (j : Nat) p, l[j]? = some p →
    w.cell? ⟨b, off + j * 2, none⟩ = some (.string p.name) ∧ p.name.size ≤ 140737488355328 ∧
    ∃ ro rc, w.cell? ⟨b, off + j * 2 + 1, none⟩ = some (.slice ro p.rules.length rc) ∧ Rus w (.slice ro p.rules.length rc) p.rules)
theorem Pas.nil (w : World) : Pas w (.slice none 0 0) [] := ⟨none, 0, rfl, by simp, fun h => absurd rfl h⟩
theorem Pas.len {w : World} {v : Value} {l : List Pass} (h : Pas w v l) : ∃ ao cap, v = .slice ao l.length cap := by
  obtain ⟨ao, cap, rfl, _⟩ := h; exact ⟨ao, cap, rfl⟩
theorem Pas.few {w : World} {v : Value} {l : List Pass} (h : Pas w v l) : l.length ≤ 140737488355328 := by
  obtain ⟨ao, cap, rfl, h, _⟩ := h; exact h
theorem Pas.keeps {w w' : World} {v : Value} {l : List Pass} (h : Pas w v l) (k : R.Keeps w w') : Pas w' v l := by
  obtain ⟨ao, cap, rfl, hl, h⟩ := h
  refine ⟨ao, cap, rfl, hl, fun hz => ?_⟩
  obtain ⟨b, off, rfl, hc⟩ := h hz
  refine ⟨b, off, rfl, fun j p hj => ?_⟩
  obtain ⟨c0, hn, ro, rc, c1, hr⟩ := hc j p hj
  exact ⟨k _ _ _ c0, hn, ro, rc, k _ _ _ c1, hr.keeps k⟩
theorem Pas.below {w w' : World} {v : Value} {l : List Pass} (h : Pas w v l) (hb : Below w.heap.size w w') : Pas w' v l := h.keeps (R.Keeps.of_below hb (Nat.le_refl _))

/-- a script's value: three cells -/
def ScIs (w : World) (v : Value) (s : Script) : Prop :=
  ∃ oo oc po pc, v = .agg #[.bool s.has, .slice oo s.only.length oc, .slice po s.passes.length pc] ∧ S.Rd w (.slice oo s.only.length oc) s.only ∧ s.only.length ≤ 140737488355328 ∧ Pas w (.slice po s.passes.length pc) s.passes
theorem ScIs.keeps {w w' : World} {v : Value} {s : Script} (h : ScIs w v s) (k : R.Keeps w w') : ScIs w' v s := by
  obtain ⟨oo, oc, po, pc, rfl, h1, h2, h3⟩ := h
  exact ⟨oo, oc, po, pc, rfl, R.rd_keeps h1 k, h2, h3.keeps k⟩
theorem ScIs.below {w w' : World} {v : Value} {s : Script} (h : ScIs w v s) (hb : Below w.heap.size w w') : ScIs w' v s := h.keeps (R.Keeps.of_below hb (Nat.le_refl _))

/-! What a meaning hangs on: the blocks that there are, two of them aside (the row of the passes, the row of the last pass's rules). -/
def Out (X Y : Nat) (w w' : World) : Prop := ∀ b, b < w.heap.size → b ≠ X → b ≠ Y → w'.heap[b]? = w.heap[b]?
def Off (X Y : Nat) (w : World) (Q : World → Prop) : Prop := ∀ w', w.heap.size ≤ w'.heap.size → Out X Y w w' → Q w'
theorem Off.here {X Y : Nat} {w : World} {Q : World → Prop} (h : Off X Y w Q) : Q w := h w (Nat.le_refl _) fun _ _ _ _ => rfl
/-- the world goes on, the two blocks aside -/
theorem Off.on {X Y : Nat} {w w1 : World} {Q : World → Prop} (h : Off X Y w Q) (hs : w.heap.size ≤ w1.heap.size) (ho : Out X Y w w1) : Off X Y w1 Q :=
  fun w' hs' ho' => h w' (Nat.le_trans hs hs') fun b hb h1 h2 => (ho' b (Nat.lt_of_lt_of_le hb hs) h1 h2).trans (ho b hb h1 h2)
/-- new blocks for the old ones -/
theorem Off.fresh {X Y X' Y' : Nat} {w w1 : World} {Q : World → Prop} (h : Off X Y w Q) (hs : w.heap.size ≤ w1.heap.size) (ho : Out X Y w w1) (hX : X' = X ∨ X' = Y ∨ w.heap.size ≤ X') (hY : Y' = Y ∨ Y' = X ∨ w.heap.size ≤ Y') : Off X' Y' w1 Q :=
  fun w' hs' ho' => h w' (Nat.le_trans hs hs') fun b hb h1 h2 => by
    have e1 : b ≠ X' := by rcases hX with rfl | rfl | h <;> first | assumption | omega
    have e2 : b ≠ Y' := by rcases hY with rfl | rfl | h <;> first | assumption | omega
    exact (ho' b (Nat.lt_of_lt_of_le hb hs) e1 e2).trans (ho b hb h1 h2)
/-- what is known of all worlds that keep the cells that there are, of new blocks X and Y -/
theorem Off.of_keeps {X Y : Nat} {w : World} {Q : World → Prop} (h : ∀ w', R.Keeps w w' → Q w') (hX : w.heap.size ≤ X) (hY : w.heap.size ≤ Y) : Off X Y w Q :=
  fun w' _ ho => h w' fun b o u hu => by
    have hb := L.block_lt hu
    have e := ho b hb (by omega) (by omega)
    rw [World.cell?_of_block (a := ⟨b, o, none⟩) e]; exact hu
theorem Off.imp {X Y : Nat} {w : World} {Q Q' : World → Prop} (h : Off X Y w Q) (k : ∀ w', Q w' → Q' w') : Off X Y w Q' := fun w' hs ho => k w' (h w' hs ho)
theorem Off.and {X Y : Nat} {w : World} {Q Q' : World → Prop} (h : Off X Y w Q) (h' : Off X Y w Q') : Off X Y w fun w' => Q w' ∧ Q' w' := fun w' hs ho => ⟨h w' hs ho, h' w' hs ho⟩
/-- a cell of a block that is neither -/
theorem Off.cell {X Y : Nat} {w : World} {b o : Nat} {u : Value} (h : w.cell? ⟨b, o, none⟩ = some u) (hX : b ≠ X) (hY : b ≠ Y) : Off X Y w fun w' => w'.cell? ⟨b, o, none⟩ = some u :=
  fun w' _ ho => by
    have e := ho b (L.block_lt h) hX hY
    show w'.cell? ⟨b, o, none⟩ = some u
    rw [World.cell?_of_block (a := ⟨b, o, none⟩) e]; exact h

end Go.Proofs.Ytnalcmlhfmgfdaa.V
