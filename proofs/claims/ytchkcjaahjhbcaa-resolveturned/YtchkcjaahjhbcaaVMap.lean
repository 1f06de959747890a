/-
  A map from names to slices, in memory: what is at each name, as raw values.
-/
import Derived.Maps.OwnSet
import Derived.Test.YtchkcjaahjhbcaaVSmall
namespace Go.Proofs.Ytchkcjaahjhbcaa
open Go.RowKit Go.Maps Go.WideMaps
set_option linter.unusedVariables false

/-- an element is the value that it is -/
def V.raw (v : Value) : Option (DataW Value × List MemPlace) := some (.held v, [])
theorem V.keyed : Keyed Try.prog 9 := string_keyed Try.underlying9
theorem V.zeroSp (w : World) : (zeroValue 40).run Try.prog w = .ok (.slice none 0 0) w := by kernel_rfl

/-- BLOCK B IS A MAP OF AT MOST n NAMES, AND f SAYS WHAT IS AT EACH. -/
def V.MapIs (w : World) (B n : Nat) (f : ByteArray → Option Value) : Prop :=
  ∃ D : DataW Value, w.ownsMap Try.prog 9 V.raw B n D ∧ IsMap D ∧
    ∀ s : ByteArray, Maps.has D (.string s.data.toList) = (f s).isSome ∧ D.atKey (.string s.data.toList) (.held (.slice none 0 0)) = .held ((f s).getD (.slice none 0 0))

theorem V.MapIs.made (w : World) : V.MapIs (w.alloc (.map #[] 0)) w.heap.size 0 fun _ => none :=
  ⟨.map [], World.ownsMap_made w _ _ _, ⟨[], rfl⟩, fun s => ⟨rfl, rfl⟩⟩
theorem V.MapIs.lt {w : World} {B n : Nat} {f : ByteArray → Option Value} (h : V.MapIs w B n f) : B < w.heap.size := by
  obtain ⟨D, h1, _⟩ := h; exact h1.lt
theorem V.MapIs.block {w w' : World} {B n : Nat} {f : ByteArray → Option Value} (h : V.MapIs w B n f) (e : w'.heap[B]? = w.heap[B]?) : V.MapIs w' B n f := by
  obtain ⟨D, ⟨es, clock, hb, F, hs, hD⟩, h2⟩ := h
  exact ⟨D, ⟨es, clock, e.trans hb, F, hs, hD⟩, h2⟩
theorem V.MapIs.below {w w' : World} {B n X : Nat} {f : ByteArray → Option Value} (h : V.MapIs w B n f) (hb : Below X w w') (hX : B < X) : V.MapIs w' B n f := h.block (hb.block B hX)

theorem V.MapIs.look {w : World} {B n : Nat} {f : ByteArray → Option Value} (h : V.MapIs w B n f) (s : ByteArray) (hs : s.size ≤ 140737488355328) :
    (Instr.lookup 54 (.map (some B)) (.string s) false).run Try.prog w = .ok ((f s).getD (.slice none 0 0)) w := by
  obtain ⟨D, h1, h2, h3⟩ := h
  obtain ⟨v, ps, hrun, hv⟩ := h1.lookup (t := 54) (e := 40) V.keyed Try.underlying54 (V.zeroSp w) (zd := .held (.slice none 0 0)) (zp := []) rfl (key := .string s) (keyOf_string_mk Try.underlying9 (by unfold maxLen; omega))
  rw [(h3 s).2] at hv
  simp only [V.raw, Option.some.injEq, Prod.mk.injEq, DataW.held.injEq] at hv
  rw [hrun, hv.1]
theorem V.MapIs.look_ok {w : World} {B n : Nat} {f : ByteArray → Option Value} (h : V.MapIs w B n f) (s : ByteArray) (hs : s.size ≤ 140737488355328) :
    (Instr.lookup 54 (.map (some B)) (.string s) true).run Try.prog w = .ok (.tuple #[(f s).getD (.slice none 0 0), .bool (f s).isSome]) w := by
  obtain ⟨D, h1, h2, h3⟩ := h
  obtain ⟨v, ps, hrun, hv⟩ := h1.look_ok (t := 54) (e := 40) V.keyed Try.underlying54 (V.zeroSp w) (zd := .held (.slice none 0 0)) (zp := []) rfl (key := .string s) (keyOf_string_mk Try.underlying9 (by unfold maxLen; omega))
  rw [(h3 s).2] at hv
  simp only [V.raw, Option.some.injEq, Prod.mk.injEq, DataW.held.injEq] at hv
  rw [hrun, hv.1, (h3 s).1]
theorem V.MapIs.put {w : World} {B n : Nat} {f : ByteArray → Option Value} (h : V.MapIs w B n f) (s : ByteArray) (hs : s.size ≤ 140737488355328) (hn : n ≤ 140737488355328) (v : Value) :
    ∃ w', (Instr.mapUpdate 54 (.map (some B)) (.string s) v).run Try.prog w = .ok () w' ∧ V.MapIs w' B (n + 1) (fun t => if t = s then some v else f t) ∧ w.grownBy w' (some B) := by
  obtain ⟨D, h1, h2, h3⟩ := h
  obtain ⟨w', hrun, r1, r2⟩ := h1.update (t := 54) (e := 40) V.keyed Try.underlying54 (by unfold maxLen; omega) (key := .string s) (keyOf_string_mk Try.underlying9 (by unfold maxLen; omega)) (val := v) (d := .held v) (ps := []) rfl
  refine ⟨w', hrun, ⟨_, r1, h2.put _ _, fun t => ?_⟩, r2⟩
  by_cases ht : t = s
  · subst ht
    rw [has_put_same h2 (by simp [WideAt.IsKeyLit]), atKey_put_same h2 (by simp [WideAt.IsKeyLit])]
    simp
  · have hne : Lit.string t.data.toList ≠ Lit.string s.data.toList := by
      intro e
      apply ht
      have e1 : t.data.toList = s.data.toList := by simpa using e
      exact ByteArray.ext (Array.toList_inj.1 e1)
    rw [has_put_other hne, atKey_put_other hne, (h3 t).1, (h3 t).2]
    simp [ht]

end Go.Proofs.Ytchkcjaahjhbcaa
