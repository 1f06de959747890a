/-
  Maps in memory whose keys are numbers: what is at each key, as raw values.
-/
import Derived.Test.YtbclmmkphjknaaaRows
import Derived.Test.YtbclmmkphjknaaaLib
import Derived.Maps.OwnSet
namespace Go.Proofs.Ytbclmmkphjknaaa
open Go.RowKit Go.Maps Go.WideMaps
set_option linter.unusedVariables false
set_option linter.unusedSimpArgs false

namespace Nm
/-- an element is the value that it is -/
def raw (v : Value) : Option (DataW Value × List MemPlace) := some (.held v, [])
/-- BLOCK B IS A MAP OF AT MOST n KEYS, AND f SAYS WHAT IS AT EACH (kl: a key's literal; ok: which keys). -/
def MapG {κ : Type} (kt : TypeId) (kl : κ → Lit) (ok : κ → Prop) (z : Value) (w : World) (B n : Nat) (f : κ → Option Value) : Prop :=
  ∃ D : DataW Value, w.ownsMap Try.prog kt raw B n D ∧ IsMap D ∧ ∀ s, ok s → Maps.has D (kl s) = (f s).isSome ∧ D.atKey (kl s) (.held z) = .held ((f s).getD z)
section
variable {κ : Type} {kt : TypeId} {kl : κ → Lit} {ok : κ → Prop} {z : Value}
theorem MapG.made (w : World) : MapG kt kl ok z (w.alloc (.map #[] 0)) w.heap.size 0 fun _ => none :=
  ⟨.map [], World.ownsMap_made w _ _ _, ⟨[], rfl⟩, fun s _ => ⟨rfl, rfl⟩⟩
theorem MapG.lt {w : World} {B n : Nat} {f : κ → Option Value} (h : MapG kt kl ok z w B n f) : B < w.heap.size := by
  obtain ⟨D, h1, _⟩ := h; exact h1.lt
theorem MapG.block {w w' : World} {B n : Nat} {f : κ → Option Value} (h : MapG kt kl ok z w B n f) (e : w'.heap[B]? = w.heap[B]?) : MapG kt kl ok z w' B n f := by
  obtain ⟨D, ⟨es, clock, hb, F, hs, hD⟩, h2⟩ := h
  exact ⟨D, ⟨es, clock, e.trans hb, F, hs, hD⟩, h2⟩
theorem MapG.below {w w' : World} {B n X : Nat} {f : κ → Option Value} (h : MapG kt kl ok z w B n f) (hb : Below X w w') (hX : B < X) : MapG kt kl ok z w' B n f := h.block (hb.block B hX)
theorem MapG.look_ok {w : World} {B n : Nat} {f : κ → Option Value} (h : MapG kt kl ok z w B n f) {t e : TypeId} (K : Keyed Try.prog kt) (ht : Try.prog.underlying t = some (.map kt e)) (hz : ∀ w, (zeroValue e).run Try.prog w = .ok z w) (s : κ) (hs : ok s) (key : Value) (hk : keyOf Try.prog kt key = some (kl s)) :
    (Instr.lookup t (.map (some B)) key true).run Try.prog w = .ok (.tuple #[(f s).getD z, .bool (f s).isSome]) w := by
  obtain ⟨D, h1, h2, h3⟩ := h
  obtain ⟨v, ps, hrun, hv⟩ := h1.look_ok (t := t) (e := e) K ht (hz w) (zd := .held z) (zp := []) rfl (key := key) hk
  rw [(h3 s hs).2] at hv
  simp only [raw, Option.some.injEq, Prod.mk.injEq, DataW.held.injEq] at hv
  rw [hrun, hv.1, (h3 s hs).1]
theorem MapG.put {w : World} {B n : Nat} {f : κ → Option Value} (h : MapG kt kl ok z w B n f) {t e : TypeId} (K : Keyed Try.prog kt) (ht : Try.prog.underlying t = some (.map kt e)) (hn : n ≤ 140737488355328) (s : κ) (hs : ok s) (key : Value) (hk : keyOf Try.prog kt key = some (kl s)) (hlit : ∀ s, ok s → WideAt.IsKeyLit (kl s)) (hinj : ∀ a b, ok a → ok b → kl a = kl b → a = b) [DecidableEq κ] (v : Value) :
    ∃ w', (Instr.mapUpdate t (.map (some B)) key v).run Try.prog w = .ok () w' ∧ MapG kt kl ok z w' B (n + 1) (fun x => if x = s then some v else f x) ∧ w.grownBy w' (some B) := by
  obtain ⟨D, h1, h2, h3⟩ := h
  obtain ⟨w', hrun, r1, r2⟩ := h1.update (t := t) (e := e) K ht (by unfold maxLen; omega) (key := key) hk (val := v) (d := .held v) (ps := []) rfl
  refine ⟨w', hrun, ⟨_, r1, h2.put _ _, fun x hx => ?_⟩, r2⟩
  by_cases e : x = s
  · subst e
    rw [has_put_same h2 (hlit x hx), atKey_put_same h2 (hlit x hx)]
    simp
  · have hne : kl x ≠ kl s := fun h => e (hinj x s hx hs h)
    rw [has_put_other hne, atKey_put_other hne, (h3 x hx).1, (h3 x hx).2]
    simp [e]
end
end Nm
end Go.Proofs.Ytbclmmkphjknaaa
