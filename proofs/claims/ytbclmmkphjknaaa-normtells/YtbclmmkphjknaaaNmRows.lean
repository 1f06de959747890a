/-
  The table of letters and marks: norm.rows, norm.Pairs.
-/
import Derived.Test.YtbclmmkphjknaaaNmTab
import Derived.Test.YtbclmmkphjknaaaAlApp
import Derived.Test.YtbclmmkphjknaaaDecode
import Derived.BigRegion
import Derived.RegionTactic
namespace Go.Proofs.Ytbclmmkphjknaaa
open Go.RowKit
set_option maxRecDepth 40000
set_option linter.unusedSimpArgs false
set_option linter.unusedVariables false

theorem Try.infoPair : (Try.prog.info? 27).map (fun i => (i.zero, i.size, i.bytes)) = some (some (.agg #[.int .i32 0, .int .i32 0, .int .i32 0]), 3, 12) := by kernel_rfl

namespace Nm
theorem trip {α β : Type} (f : α → β × β × β) : ∀ (l : List α) (j : Nat), (l.flatMap fun x => [(f x).1, (f x).2.1, (f x).2.2])[j * 3]? = (l[j]?).map (fun x => (f x).1) ∧ (l.flatMap fun x => [(f x).1, (f x).2.1, (f x).2.2])[j * 3 + 1]? = (l[j]?).map (fun x => (f x).2.1) ∧ (l.flatMap fun x => [(f x).1, (f x).2.1, (f x).2.2])[j * 3 + 2]? = (l[j]?).map (fun x => (f x).2.2)
  | [], j => by simp
  | x :: l, 0 => by simp
  | x :: l, j + 1 => by
    have h := trip f l j
    rw [List.flatMap_cons]
    have e : ∀ i, (([(f x).1, (f x).2.1, (f x).2.2] : List β) ++ l.flatMap fun x => [(f x).1, (f x).2.1, (f x).2.2])[(j + 1) * 3 + i]? = (l.flatMap fun x => [(f x).1, (f x).2.1, (f x).2.2])[j * 3 + i]? := fun i => by
      rw [List.getElem?_append_right (by simp; omega)]
      congr 1
      simp; omega
    have e0 := e 0
    simp only [Nat.add_zero] at e0
    rw [e0, e 1, e 2]
    simpa using h
def rcells (l : List (Int × ByteArray × ByteArray)) : List Value := l.flatMap fun x => [Value.int .i32 x.1, Value.string x.2.1, Value.string x.2.2]
def pcells (l : List Pr) : List Value := l.flatMap fun x => [Value.int .i32 x.1, Value.int .i32 x.2.1, Value.int .i32 x.2.2]
theorem pcells_snoc (l : List Pr) (x : Pr) : pcells (l ++ [x]) = pcells l ++ [Value.int .i32 x.1, Value.int .i32 x.2.1, Value.int .i32 x.2.2] := by simp [pcells]
/-- a slice value reads as rows of the table -/
def Rw (w : World) (v : Value) (l : List (Int × ByteArray × ByteArray)) : Prop :=
  ∃ b, v = .slice (some ⟨b, 0, none⟩) l.length l.length ∧ ∀ (j : Nat) x, l[j]? = some x → w.cell? ⟨b, j * 3, none⟩ = some (.int .i32 x.1) ∧ w.cell? ⟨b, j * 3 + 1, none⟩ = some (.string x.2.1) ∧ w.cell? ⟨b, j * 3 + 2, none⟩ = some (.string x.2.2)
/-- a slice value reads as pairs -/
def Prs (w : World) (v : Value) (l : List Pr) : Prop :=
  ∃ b cap, v = .slice (some ⟨b, 0, none⟩) l.length cap ∧ ∀ (j : Nat) x, l[j]? = some x → w.cell? ⟨b, j * 3, none⟩ = some (.int .i32 x.1) ∧ w.cell? ⟨b, j * 3 + 1, none⟩ = some (.int .i32 x.2.1) ∧ w.cell? ⟨b, j * 3 + 2, none⟩ = some (.int .i32 x.2.2)
theorem Rw.below {w w' : World} {v : Value} {l : List (Int × ByteArray × ByteArray)} (h : Rw w v l) (hb : Below w.heap.size w w') : Rw w' v l := by
  obtain ⟨b, rfl, hc⟩ := h
  refine ⟨b, rfl, fun j x hj => ?_⟩
  obtain ⟨c0, c1, c2⟩ := hc j x hj
  exact ⟨by rw [hb.cell (p := ⟨b, j * 3, none⟩) (L.block_lt c0)]; exact c0, by rw [hb.cell (p := ⟨b, j * 3 + 1, none⟩) (L.block_lt c1)]; exact c1, by rw [hb.cell (p := ⟨b, j * 3 + 2, none⟩) (L.block_lt c2)]; exact c2⟩
theorem Prs.below {w w' : World} {v : Value} {l : List Pr} (h : Prs w v l) (hb : Below w.heap.size w w') : Prs w' v l := by
  obtain ⟨b, cap, rfl, hc⟩ := h
  refine ⟨b, cap, rfl, fun j x hj => ?_⟩
  obtain ⟨c0, c1, c2⟩ := hc j x hj
  exact ⟨by rw [hb.cell (p := ⟨b, j * 3, none⟩) (L.block_lt c0)]; exact c0, by rw [hb.cell (p := ⟨b, j * 3 + 1, none⟩) (L.block_lt c1)]; exact c1, by rw [hb.cell (p := ⟨b, j * 3 + 2, none⟩) (L.block_lt c2)]; exact c2⟩
theorem rw_new (w : World) (C : Array Value) (t : TypeId) (l : List (Int × ByteArray × ByteArray)) (hC : C = (rcells l).toArray) (n : Nat) (hn : n = l.length) : Rw (w.alloc (.cells C t)) (.slice (some ⟨w.heap.size, 0, none⟩) n n) l := by
  subst hC hn
  refine ⟨_, rfl, fun j x hj => ?_⟩
  obtain ⟨e0, e1, e2⟩ := trip (fun x : Int × ByteArray × ByteArray => (Value.int .i32 x.1, Value.string x.2.1, Value.string x.2.2)) l j
  rw [hj] at e0 e1 e2
  refine ⟨?_, ?_, ?_⟩
  · rw [World.cell?_alloc_mark w (rcells l).toArray t (0, 0) (j * 3), List.getElem?_toArray]; exact e0
  · rw [World.cell?_alloc_mark w (rcells l).toArray t (0, 0) (j * 3 + 1), List.getElem?_toArray]; exact e1
  · rw [World.cell?_alloc_mark w (rcells l).toArray t (0, 0) (j * 3 + 2), List.getElem?_toArray]; exact e2
theorem prs_own {w : World} {F : Nat} {v : Value} {l : List Pr} (h : w.ownsRow F 27 3 v l.length (pcells l)) (h0 : l ≠ []) : Prs w v l := by
  obtain ⟨ao, cap, rfl, hc⟩ := Al.lies h
  obtain ⟨g, rfl, _, hx⟩ := hc (List.length_pos_iff.2 h0)
  refine ⟨g, cap, rfl, fun j x hj => ?_⟩
  obtain ⟨e0, e1, e2⟩ := trip (fun x : Pr => (Value.int .i32 x.1, Value.int .i32 x.2.1, Value.int .i32 x.2.2)) l j
  rw [hj] at e0 e1 e2
  exact ⟨hx _ _ e0, hx _ _ e1, hx _ _ e2⟩
end Nm

set_option maxHeartbeats 4000000 in
theorem nmRows_any (w : World) : Calls Try.prog 23 #[] w fun e w' => ∃ v, e = .returned v ∧ Nm.Rw w' v Nm.rowB ∧ Below w.heap.size w w' := by
  go_enter Try.func23, Try.ntmps23
  go_wp2
  go_ret
  exact ⟨_, rfl, Nm.rw_new w _ _ Nm.rowB (by kernel_rfl) 11 (by decide), (Below.refl _ w).alloc (Nat.le_refl _) _⟩

end Go.Proofs.Ytbclmmkphjknaaa
