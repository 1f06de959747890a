/-
  Lists of sets, and rules, in memory: what reads as such.
-/
import Derived.Test.YtnalcmlhfmgfdaaMMath
import Derived.Test.YtnalcmlhfmgfdaaSLib
import Derived.Laws.OwnMore
namespace Go.Proofs.Ytnalcmlhfmgfdaa.K
open Go.RowKit

def I64 (n : Int) : Prop := -9223372036854775808 ≤ n ∧ n ≤ 9223372036854775807

/-- a value reads as a set -/
def SetIs (w : World) (u : Value) (s : List S.Sp) : Prop := (∃ so sc, u = .slice so s.length sc) ∧ S.Rd w u s ∧ S.Fit s
/-- values read as sets, one by one -/
def Sets (w : World) (vs : List Value) (l : List (List S.Sp)) : Prop := vs.length = l.length ∧ ∀ (j : Nat) u s, vs[j]? = some u → l[j]? = some s → SetIs w u s
/-- A SLICE VALUE READS AS A LIST OF SETS. -/
def Ss (w : World) (v : Value) (l : List (List S.Sp)) : Prop :=
  ∃ ao cap vs, v = .slice ao l.length cap ∧ (ao = none → cap = 0) ∧ l.length ≤ 140737488355328 ∧ Sets w vs l ∧ (l ≠ [] → ∃ b off, ao = some ⟨b, off, none⟩ ∧ ∀ (j : Nat) u, vs[j]? = some u → w.cell? ⟨b, off + j, none⟩ = some u)

theorem SetIs.below {w w' : World} {u : Value} {s : List S.Sp} (h : SetIs w u s) (hb : Below w.heap.size w w') : SetIs w' u s := ⟨h.1, h.2.1.below hb (Nat.le_refl _), h.2.2⟩
theorem Sets.below {w w' : World} {vs : List Value} {l : List (List S.Sp)} (h : Sets w vs l) (hb : Below w.heap.size w w') : Sets w' vs l := ⟨h.1, fun j u s hu hs => (h.2 j u s hu hs).below hb⟩
theorem Ss.below {w w' : World} {v : Value} {l : List (List S.Sp)} (h : Ss w v l) (hb : Below w.heap.size w w') : Ss w' v l := by
  obtain ⟨ao, cap, vs, rfl, hn, hl, hs, hc⟩ := h
  refine ⟨ao, cap, vs, rfl, hn, hl, hs.below hb, fun hz => ?_⟩
  obtain ⟨b, off, rfl, hc2⟩ := hc hz
  refine ⟨b, off, rfl, fun j u hj => ?_⟩
  have h1 := hc2 j u hj
  have := L.block_lt h1
  rw [hb.cell (p := ⟨b, off + j, none⟩) this]; exact h1
theorem Ss.len {w : World} {v : Value} {l : List (List S.Sp)} (h : Ss w v l) : ∃ ao cap, v = .slice ao l.length cap := by
  obtain ⟨ao, cap, vs, rfl, _⟩ := h; exact ⟨ao, cap, rfl⟩
theorem Ss.few {w : World} {v : Value} {l : List (List S.Sp)} (h : Ss w v l) : l.length ≤ 140737488355328 := by
  obtain ⟨ao, cap, vs, rfl, _, h, _⟩ := h; exact h
/-- one of the sets -/
theorem Ss.at {w : World} {ao : Option Addr} {n cap : Nat} {l : List (List S.Sp)} (h : Ss w (.slice ao n cap) l) {j : Nat} {s : List S.Sp} (hj : l[j]? = some s) :
    ∃ b off so sc, ao = some ⟨b, off, none⟩ ∧ w.cell? ⟨b, off + j, none⟩ = some (.slice so s.length sc) ∧ S.Rd w (.slice so s.length sc) s ∧ S.Fit s := by
  obtain ⟨ao', cap', vs, he, hn, hl, hs, hc⟩ := h
  cases he
  obtain ⟨b, off, rfl, hc2⟩ := hc (by intro h; subst h; simp at hj)
  have hlt : j < vs.length := by rw [hs.1]; exact (List.getElem?_eq_some_iff.1 hj).1
  obtain ⟨u, hu⟩ : ∃ u, vs[j]? = some u := ⟨vs[j], by simp⟩
  obtain ⟨⟨so, sc, rfl⟩, h2, h3⟩ := hs.2 j u s hu hj
  exact ⟨b, off, so, sc, rfl, hc2 j _ hu, h2, h3⟩
theorem Sets.append {w : World} {us vs : List Value} {l m : List (List S.Sp)} (h : Sets w us l) (h' : Sets w vs m) : Sets w (us ++ vs) (l ++ m) := by
  refine ⟨by simp [h.1, h'.1], fun j u s hu hs => ?_⟩
  by_cases hj : j < us.length
  · rw [List.getElem?_append_left hj] at hu
    rw [List.getElem?_append_left (by rw [← h.1]; exact hj)] at hs
    exact h.2 j u s hu hs
  · rw [List.getElem?_append_right (by omega)] at hu
    rw [List.getElem?_append_right (by rw [← h.1]; omega), ← h.1] at hs
    exact h'.2 _ u s hu hs
theorem Sets.one {w : World} {vs : List Value} {l : List (List S.Sp)} (h : Sets w vs l) {u : Value} (hu : u ∈ vs) : u.oneCell' = true := by
  obtain ⟨j, hj⟩ := List.getElem?_of_mem hu
  have hlt : j < l.length := by rw [← h.1]; exact (List.getElem?_eq_some_iff.1 hj).1
  obtain ⟨s, hs⟩ : ∃ s, l[j]? = some s := ⟨l[j], by simp⟩
  obtain ⟨⟨so, sc, rfl⟩, _⟩ := h.2 j u s hj hs
  rfl

/-! boxes -/
theorem at_box {w : World} {b i : Nat} {c : Array Value} {t : TypeId} {v : Value} (h : w.heap[b]? = some (.cells c t)) (hv : c[i]? = some v) : w.cell? ⟨b, i, none⟩ = some v := by
  rw [World.cell?]; simp [h, hv]
theorem blk_below {w w' : World} {b : Nat} {o : Obj} (h : w.heap[b]? = some o) (hb : Below w.heap.size w w') : w'.heap[b]? = some o := by
  rw [hb.block b (Array.getElem?_eq_some_iff.1 h).1]; exact h
theorem one_box {w w1 : World} {o1 : Obj} (h : Below (w.alloc o1).heap.size (w.alloc o1) w1) : w1.heap[w.heap.size]? = some o1 ∧ Below w.heap.size w w1 ∧ w.heap.size + 1 ≤ w1.heap.size := by
  have hs := h.size
  simp at hs
  refine ⟨blk_below (heap_alloc_new w o1) h, ((Below.refl _ w).alloc (Nat.le_refl _) o1).trans (h.mono (by simp)), hs⟩
theorem two_boxes {w w1 : World} {o1 o2 : Obj} (h : Below ((w.alloc o1).alloc o2).heap.size ((w.alloc o1).alloc o2) w1) :
    w1.heap[w.heap.size]? = some o1 ∧ w1.heap[w.heap.size + 1]? = some o2 ∧ Below w.heap.size w w1 ∧ w.heap.size + 2 ≤ w1.heap.size := by
  have hs := h.size
  simp at hs
  have e1 := heap_alloc_new (w.alloc o1) o2
  simp at e1
  have e2 : ((w.alloc o1).alloc o2).heap[w.heap.size]? = some o1 := (Below.heap_alloc (w.alloc o1) o2 w.heap.size (by simp)).trans (heap_alloc_new w o1)
  exact ⟨blk_below e2 h, blk_below (by simpa using e1) h, (((Below.refl _ w).alloc (Nat.le_refl _) o1).alloc (by simp) o2).trans (h.mono (by simp; omega)), by omega⟩

/-- a rule's value: seven cells -/
def RuIs (w : World) (v : Value) (r : Rule) : Prop :=
  ∃ bo bc so sc ao ac to tc, v = .agg #[.bool r.start, .bool r.fin, .slice bo r.before.length bc, .slice so r.source.length sc, .slice ao r.after.length ac, .slice to r.target.length tc, .int .i64 r.cursor] ∧
    Ss w (.slice bo r.before.length bc) r.before ∧ Ss w (.slice so r.source.length sc) r.source ∧ Ss w (.slice ao r.after.length ac) r.after ∧ L.Rd w (.slice to r.target.length tc) .i32 r.target ∧ r.target.length ≤ 140737488355328 ∧ I64 r.cursor
theorem RuIs.below {w w' : World} {v : Value} {r : Rule} (h : RuIs w v r) (hb : Below w.heap.size w w') : RuIs w' v r := by
  obtain ⟨bo, bc, so, sc, ao, ac, to, tc, rfl, h1, h2, h3, h4, h5⟩ := h
  exact ⟨bo, bc, so, sc, ao, ac, to, tc, rfl, h1.below hb, h2.below hb, h3.below hb, h4.below hb (Nat.le_refl _), h5⟩

end Go.Proofs.Ytnalcmlhfmgfdaa.K
