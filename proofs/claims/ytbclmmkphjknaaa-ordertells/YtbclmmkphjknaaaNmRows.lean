/-
  What runes.Decode and runes.Places do: of any text of at most 2^40 bytes they hand back a new slice of its runes, and of their places.
-/
import Derived.Test.YtbclmmkphjknaaaRows
import Derived.Test.YtbclmmkphjknaaaNmTab
import Derived.Test.YtbclmmkphjknaaaFrame
import Derived.Test.YtbclmmkphjknaaaAlApp
import Derived.BigRegion
import Derived.RegionTactic
namespace Go.Proofs.Ytbclmmkphjknaaa
open Go.RowKit

theorem Try.infoI32 : (Try.prog.info? 21).map (fun i => (i.zero, i.size, i.bytes)) = some (some (.int .i32 0), 1, 4) := by kernel_rfl
theorem Try.infoI64 : (Try.prog.info? 3).map (fun i => (i.zero, i.size, i.bytes)) = some (some (.int .i64 0), 1, 8) := by kernel_rfl

set_option maxHeartbeats 400000 in
theorem decode_any (s : ByteArray) (w : World) (hs : s.size ≤ 1099511627776) :
    Calls Try.prog 24 #[.string s] w fun e w' => ∃ v, e = .returned v ∧ w'.ownsRow (w.heap.size + 1) 21 1 v (M.rn s).length ((M.rn s).map (Value.int .i32)) ∧ Below w.heap.size w w' := by
  obtain ⟨i0, hi, hz0, hz1, hz2⟩ := info_parts Try.infoI32
  go_enter Try.func24, Try.ntmps24
  go_wp2
  go_loopw [3] (fun v wr => ∃ (pos fuel : Nat) (acc : List Int), wr.heap[w.heap.size]? = some (.stringIter s pos) ∧ wr.ownsRow (w.heap.size + 1) 21 1 v acc.length (acc.map (Value.int .i32)) ∧ Below w.heap.size w wr ∧ Hid (acc ++ (M.steps s fuel pos).map (fun x => (x.2 : Int)) = M.rn s) ∧ s.size ≤ pos + fuel ∧ acc.length ≤ pos) (fun _ wr => s.size - wr.iterPos w.heap.size)
  case atStart => exact ⟨0, s.size, [], World.iter_heap w s 0, World.ownsRow_nil _ _ _ _, (Below.refl _ _).alloc (Nat.le_refl _) _, rfl, by omega, by simp⟩
  case round =>
    obtain ⟨pos, fuel, acc, hit, hown, hbw, HS, hb, hlen⟩ := hrel
    have hpos0 := iterPos_of hit
    by_cases hp : pos < s.size
    · have hnx : ∀ ty, (Instr.next (.pointer (some ⟨w.heap.size, 0, none⟩)) true ty).run Try.prog wr = _ := fun ty => Lib.run_next_any_at wr w.heap.size s pos ty hit hp
      have hwd := M.width_pos s pos hp
      obtain ⟨fuel, rfl⟩ : ∃ f', fuel = f' + 1 := ⟨fuel - 1, by omega⟩
      have hit2 := Lib.iterAt_heap wr w.heap.size s pos (pos + (Utf8.decode s pos).2) hit
      have hbw2 := Lib.below_iterAt hbw (k := w.heap.size) (Nat.le_refl _) s (pos + (Utf8.decode s pos).2)
      have hown2 := ownsRow_iterAt hown (k := w.heap.size) (by omega) s (pos + (Utf8.decode s pos).2)
      obtain ⟨W1, hW1⟩ : ∃ W1, W1 = wr.iterAt w.heap.size s (pos + (Utf8.decode s pos).2) := ⟨_, rfl⟩
      rw [← hW1] at hnx hit2 hbw2 hown2
      have hBlt := lt_of_block hit2
      clear hW1 hit hown hbw
      go_wp2_with (at_builtin; go_must (refine wpList_append_own _ rfl _ _ 22 rfl (w.heap.size + 1) 21 i0 (.int .i32 0) 1 4 Try.underlying22 hi hz0 hz1 hz2 rfl (by decide) _ _ _ rfl (hown2.alloc _) ⟨W1.heap.size, 0, none⟩ 1 1 [.int .i32 ((Utf8.decode s pos).1 : Int)] rfl rfl (cell_one_new _ _ _) (fun x hx => by simp at hx; subst hx; rfl) (by unfold maxLen; omega) (by omega) (by simp; omega) ?_; intro v' w3 hown' hgrow3 hnil3; have X := L.iter_push hit2 hbw2 hown2 hown' hgrow3; clear hown' hgrow3 hnil3))
      go_roundw
      case rel => exact ⟨_, fuel, acc ++ [((Utf8.decode s pos).1 : Int)], X.out.2.1, (by simpa using X.out.1), X.out.2.2, (by show _ = _; rw [← HS.out]; simp [M.steps, hp]), by omega, by simp; omega⟩
      case measure => rw [iterPos_of X.out.2.1, hpos0]; omega
    · have hnx : ∀ ty, (Instr.next (.pointer (some ⟨w.heap.size, 0, none⟩)) true ty).run Try.prog wr = _ := fun ty => Lib.run_next_end_at wr w.heap.size s pos ty hit hp
      go_wp2
      go_ret
      have e := HS.out
      rw [M.steps_end s fuel pos hp, List.map_nil, List.append_nil] at e
      subst e
      exact ⟨_, rfl, hown, hbw⟩

end Go.Proofs.Ytbclmmkphjknaaa

/-
  The table of letters and marks: norm.rows, norm.Pairs.
-/
namespace Go.Proofs.Ytbclmmkphjknaaa
open Go.RowKit
set_option maxRecDepth 40000
set_option linter.unusedSimpArgs false
set_option linter.unusedVariables false

theorem Try.infoPair : (Try.prog.info? 27).map (fun i => (i.zero, i.size, i.bytes)) = some (some (.agg #[.int .i32 0, .int .i32 0, .int .i32 0]), 3, 12) := by kernel_rfl

namespace Nm
theorem trip {α β : Type} (f : α → β × β × β) : ∀ (l : List α) (j : Nat), (l.flatMap fun x => [(f x).1, (f x).2.1, (f x).2.2])[j * 3]? = (l[j]?).map (fun x => (f x).1) ∧ (l.flatMap fun x => [(f x).1, (f x).2.1, (f x).2.2])[j * 3 + 1]? = (l[j]?).map (fun x => (f x).2.1) ∧ (l.flatMap fun x => [(f x).1, (f x).2.1, (f x).2.2])[j * 3 + 2]? = (l[j]?).map (fun x => (f x).2.2)
  | [], j => by simp
  | x :: l, 0 => by simp
  | x :: l, j + 1 => by
    have h := trip f l j
    rw [List.flatMap_cons]
    have e : ∀ i, (([(f x).1, (f x).2.1, (f x).2.2] : List β) ++ l.flatMap fun x => [(f x).1, (f x).2.1, (f x).2.2])[(j + 1) * 3 + i]? = (l.flatMap fun x => [(f x).1, (f x).2.1, (f x).2.2])[j * 3 + i]? := fun i => by
      rw [List.getElem?_append_right (by simp; omega)]
      congr 1
      simp; omega
    have e0 := e 0
    simp only [Nat.add_zero] at e0
    rw [e0, e 1, e 2]
    simpa using h
def rcells (l : List (Int × ByteArray × ByteArray)) : List Value := l.flatMap fun x => [Value.int .i32 x.1, Value.string x.2.1, Value.string x.2.2]
def pcells (l : List Pr) : List Value := l.flatMap fun x => [Value.int .i32 x.1, Value.int .i32 x.2.1, Value.int .i32 x.2.2]
theorem pcells_snoc (l : List Pr) (x : Pr) : pcells (l ++ [x]) = pcells l ++ [Value.int .i32 x.1, Value.int .i32 x.2.1, Value.int .i32 x.2.2] := by simp [pcells]
/-- a slice value reads as rows of the table -/
def Rw (w : World) (v : Value) (l : List (Int × ByteArray × ByteArray)) : Prop :=
  ∃ b, v = .slice (some ⟨b, 0, none⟩) l.length l.length ∧ ∀ (j : Nat) x, l[j]? = some x → w.cell? ⟨b, j * 3, none⟩ = some (.int .i32 x.1) ∧ w.cell? ⟨b, j * 3 + 1, none⟩ = some (.string x.2.1) ∧ w.cell? ⟨b, j * 3 + 2, none⟩ = some (.string x.2.2)
/-- a slice value reads as pairs -/
def Prs (w : World) (v : Value) (l : List Pr) : Prop :=
  ∃ b cap, v = .slice (some ⟨b, 0, none⟩) l.length cap ∧ ∀ (j : Nat) x, l[j]? = some x → w.cell? ⟨b, j * 3, none⟩ = some (.int .i32 x.1) ∧ w.cell? ⟨b, j * 3 + 1, none⟩ = some (.int .i32 x.2.1) ∧ w.cell? ⟨b, j * 3 + 2, none⟩ = some (.int .i32 x.2.2)
theorem Rw.below {w w' : World} {v : Value} {l : List (Int × ByteArray × ByteArray)} (h : Rw w v l) (hb : Below w.heap.size w w') : Rw w' v l := by
  obtain ⟨b, rfl, hc⟩ := h
  refine ⟨b, rfl, fun j x hj => ?_⟩
  obtain ⟨c0, c1, c2⟩ := hc j x hj
  exact ⟨by rw [hb.cell (p := ⟨b, j * 3, none⟩) (L.block_lt c0)]; exact c0, by rw [hb.cell (p := ⟨b, j * 3 + 1, none⟩) (L.block_lt c1)]; exact c1, by rw [hb.cell (p := ⟨b, j * 3 + 2, none⟩) (L.block_lt c2)]; exact c2⟩
theorem Prs.below {w w' : World} {v : Value} {l : List Pr} (h : Prs w v l) (hb : Below w.heap.size w w') : Prs w' v l := by
  obtain ⟨b, cap, rfl, hc⟩ := h
  refine ⟨b, cap, rfl, fun j x hj => ?_⟩
  obtain ⟨c0, c1, c2⟩ := hc j x hj
  exact ⟨by rw [hb.cell (p := ⟨b, j * 3, none⟩) (L.block_lt c0)]; exact c0, by rw [hb.cell (p := ⟨b, j * 3 + 1, none⟩) (L.block_lt c1)]; exact c1, by rw [hb.cell (p := ⟨b, j * 3 + 2, none⟩) (L.block_lt c2)]; exact c2⟩
theorem rw_new (w : World) (C : Array Value) (t : TypeId) (l : List (Int × ByteArray × ByteArray)) (hC : C = (rcells l).toArray) (n : Nat) (hn : n = l.length) : Rw (w.alloc (.cells C t)) (.slice (some ⟨w.heap.size, 0, none⟩) n n) l := by
  subst hC hn
  refine ⟨_, rfl, fun j x hj => ?_⟩
  obtain ⟨e0, e1, e2⟩ := trip (fun x : Int × ByteArray × ByteArray => (Value.int .i32 x.1, Value.string x.2.1, Value.string x.2.2)) l j
  rw [hj] at e0 e1 e2
  refine ⟨?_, ?_, ?_⟩
  · rw [World.cell?_alloc_mark w (rcells l).toArray t (0, 0) (j * 3), List.getElem?_toArray]; exact e0
  · rw [World.cell?_alloc_mark w (rcells l).toArray t (0, 0) (j * 3 + 1), List.getElem?_toArray]; exact e1
  · rw [World.cell?_alloc_mark w (rcells l).toArray t (0, 0) (j * 3 + 2), List.getElem?_toArray]; exact e2
theorem prs_own {w : World} {F : Nat} {v : Value} {l : List Pr} (h : w.ownsRow F 27 3 v l.length (pcells l)) (h0 : l ≠ []) : Prs w v l := by
  obtain ⟨ao, cap, rfl, hc⟩ := Al.lies h
  obtain ⟨g, rfl, _, hx⟩ := hc (List.length_pos_iff.2 h0)
  refine ⟨g, cap, rfl, fun j x hj => ?_⟩
  obtain ⟨e0, e1, e2⟩ := trip (fun x : Pr => (Value.int .i32 x.1, Value.int .i32 x.2.1, Value.int .i32 x.2.2)) l j
  rw [hj] at e0 e1 e2
  exact ⟨hx _ _ e0, hx _ _ e1, hx _ _ e2⟩
end Nm

set_option maxHeartbeats 4000000 in
theorem nmRows_any (w : World) : Calls Try.prog 23 #[] w fun e w' => ∃ v, e = .returned v ∧ Nm.Rw w' v Nm.rowB ∧ Below w.heap.size w w' := by
  go_enter Try.func23, Try.ntmps23
  go_wp2
  go_ret
  exact ⟨_, rfl, Nm.rw_new w _ _ Nm.rowB (by kernel_rfl) 11 (by decide), (Below.refl _ w).alloc (Nat.le_refl _) _⟩

end Go.Proofs.Ytbclmmkphjknaaa
