/-
  Small laws on worlds: a slice of spans reads as a list of pairs of numbers.
-/
import Derived.Test.YtnalcmlhfmgfdaaSMath
import Derived.Test.YtnalcmlhfmgfdaaLib
import Derived.Test.YtnalcmlhfmgfdaaRows
namespace Go.Proofs.Ytnalcmlhfmgfdaa
theorem Try.infoSp : (Try.prog.info? 70).map (fun i => (i.zero, i.size, i.bytes)) = some (some (.agg #[.int .i32 0, .int .i32 0]), 2, 8) := by kernel_rfl
theorem Try.infoI32 : (Try.prog.info? 21).map (fun i => (i.zero, i.size, i.bytes)) = some (some (.int .i32 0), 1, 4) := by kernel_rfl
end Go.Proofs.Ytnalcmlhfmgfdaa
namespace Go.Proofs.Ytnalcmlhfmgfdaa.S
open Go.RowKit

def enc2 (x : Sp) : List Value := [.int .i32 x.1, .int .i32 x.2]
def cellsOf (l : List Sp) : List Value := l.flatMap enc2
def Fit (l : List Sp) : Prop := ∀ x ∈ l, -2147483648 ≤ x.1 ∧ x.1 ≤ 2147483647 ∧ -2147483648 ≤ x.2 ∧ x.2 ≤ 2147483647

theorem Fit.of_nf {b : Int} {l : List Sp} (h : Nf b l) (hb : 0 ≤ b) : Fit l := fun x hx => by have := h.mem hx; omega
theorem Fit.at {l : List Sp} (h : Fit l) {j : Nat} {x : Sp} (hj : l[j]? = some x) : -2147483648 ≤ x.1 ∧ x.1 ≤ 2147483647 ∧ -2147483648 ≤ x.2 ∧ x.2 ≤ 2147483647 := h x (List.mem_of_getElem? hj)

theorem cellsOf_nil : cellsOf [] = [] := rfl
theorem cellsOf_cons (x : Sp) (l : List Sp) : cellsOf (x :: l) = .int .i32 x.1 :: .int .i32 x.2 :: cellsOf l := rfl
theorem cellsOf_append (l m : List Sp) : cellsOf (l ++ m) = cellsOf l ++ cellsOf m := by simp [cellsOf]
theorem cellsOf_length (l : List Sp) : (cellsOf l).length = l.length * 2 := by
  induction l with
  | nil => rfl
  | cons x l ih => rw [cellsOf_cons]; simp [ih]; omega
theorem cellsOf_get {l : List Sp} {j : Nat} {x : Sp} (h : l[j]? = some x) : (cellsOf l)[j * 2]? = some (.int .i32 x.1) ∧ (cellsOf l)[j * 2 + 1]? = some (.int .i32 x.2) := by
  induction l generalizing j with
  | nil => simp at h
  | cons y l ih =>
    cases j with
    | zero => simp at h; subst h; rw [cellsOf_cons]; simp
    | succ j =>
      have := ih (j := j) (by simpa using h)
      rw [cellsOf_cons, show (j + 1) * 2 = j * 2 + 1 + 1 by omega, show j * 2 + 1 + 1 + 1 = (j * 2 + 1) + 1 + 1 by omega]
      simpa using this
theorem cellsOf_one {l : List Sp} {u : Value} (h : u ∈ cellsOf l) : u.oneCell' = true := by
  simp only [cellsOf, List.mem_flatMap, enc2] at h
  obtain ⟨x, _, h⟩ := h
  simp at h
  rcases h with rfl | rfl <;> rfl
theorem cellsOf_inv {l : List Sp} {i : Nat} {u : Value} (h : (cellsOf l)[i]? = some u) : ∃ j x, l[j]? = some x ∧ ((i = j * 2 ∧ u = .int .i32 x.1) ∨ (i = j * 2 + 1 ∧ u = .int .i32 x.2)) := by
  have hlt : i < l.length * 2 := by rw [← cellsOf_length]; exact (List.getElem?_eq_some_iff.1 h).1
  obtain ⟨x, hx⟩ : ∃ x, l[i / 2]? = some x := ⟨l[i / 2]'(by omega), by simp [show i / 2 < l.length by omega]⟩
  have hg := cellsOf_get hx
  refine ⟨i / 2, x, hx, ?_⟩
  rcases Nat.mod_two_eq_zero_or_one i with h0 | h0
  · left
    have e : i = i / 2 * 2 := by omega
    refine ⟨e, ?_⟩
    have := hg.1
    rw [← e, h] at this
    exact Option.some.inj this
  · right
    have e : i = i / 2 * 2 + 1 := by omega
    refine ⟨e, ?_⟩
    have := hg.2
    rw [← e, h] at this
    exact Option.some.inj this

/-- A SLICE VALUE READS AS A LIST OF SPANS (what lies behind its length is not looked at). -/
def Rd (w : World) (v : Value) (l : List Sp) : Prop :=
  ∃ ao cap, v = .slice ao l.length cap ∧ (ao = none → cap = 0) ∧ (l ≠ [] → ∃ b off, ao = some ⟨b, off, none⟩ ∧ ∀ j x, l[j]? = some x → w.cell? ⟨b, off + j * 2, none⟩ = some (.int .i32 x.1) ∧ w.cell? ⟨b, off + j * 2 + 1, none⟩ = some (.int .i32 x.2))

theorem Rd.nil (w : World) : Rd w (.slice none 0 0) [] := ⟨none, 0, rfl, fun _ => rfl, fun h => absurd rfl h⟩

theorem Rd.of_owns {w : World} {B : Nat} {e : TypeId} {v : Value} {l : List Sp} (h : w.ownsRow B e 2 v l.length (cellsOf l)) : Rd w v l := by
  have hc := fun g hg => World.ownsRow.cells h (g := g) hg
  rcases h.2 with ⟨rfl, h0⟩ | ⟨g, cap, cur, rfl, h0⟩
  · have : l = [] := by simpa using h0
    subst this
    exact Rd.nil w
  · refine ⟨_, cap, rfl, fun h => by simp at h, fun _ => ⟨g, 0, rfl, fun j x hj => ?_⟩⟩
    have hg := cellsOf_get hj
    have h1 := hc g rfl _ _ hg.1
    have h2 := hc g rfl _ _ hg.2
    rw [L.addr_add] at h1 h2
    exact ⟨h1, h2⟩

theorem Rd.cells {w w' : World} {v : Value} {l : List Sp} (h : Rd w v l) (hc : ∀ b o u, w.cell? ⟨b, o, none⟩ = some u → (∃ ao n c, v = .slice ao n c ∧ ∃ a, ao = some a ∧ a.block = b) → w'.cell? ⟨b, o, none⟩ = some u) : Rd w' v l := by
  obtain ⟨ao, cap, rfl, hn, h⟩ := h
  refine ⟨ao, cap, rfl, hn, fun hz => ?_⟩
  obtain ⟨b, off, rfl, hcl⟩ := h hz
  refine ⟨b, off, rfl, fun j x hj => ?_⟩
  have h1 := hcl j x hj
  exact ⟨hc _ _ _ h1.1 ⟨_, _, _, rfl, _, rfl, rfl⟩, hc _ _ _ h1.2 ⟨_, _, _, rfl, _, rfl, rfl⟩⟩

theorem Rd.below {w w' : World} {v : Value} {l : List Sp} {B : Nat} (h : Rd w v l) (hb : Below B w w') (hB : w.heap.size ≤ B) : Rd w' v l :=
  h.cells fun b o u hu _ => by
    have := L.block_lt hu
    rw [hb.cell (p := ⟨b, o, none⟩) (by show b < B; omega)]; exact hu

/-- only one block of w's was changed, and it is another one -/
theorem Rd.grown {w w' : World} {v : Value} {l : List Sp} {row : Option Nat} (h : Rd w v l) (hg : w.grownBy w' row) (hne : ∀ g, row = some g → v.ownBlock ≠ some g) : Rd w' v l :=
  h.cells fun b o u hu hv => by
    have := L.block_lt hu
    obtain ⟨ao, n, c, rfl, a, rfl, rfl⟩ := hv
    rw [World.cell?_of_block (a := ⟨a.block, o, none⟩) (hg.block a.block this fun e => hne _ e.symm rfl)]
    exact hu

theorem Rd.block {w : World} {v : Value} {l : List Sp} (h : Rd w v l) (hl : l ≠ []) : ∃ g, v.ownBlock = some g ∧ g < w.heap.size := by
  obtain ⟨ao, cap, rfl, hn, h⟩ := h
  obtain ⟨b, off, rfl, hc⟩ := h hl
  obtain ⟨x, hx⟩ : ∃ x, l[0]? = some x := ⟨l[0]'(List.length_pos_iff.2 hl), by simp [List.length_pos_iff.2 hl]⟩
  exact ⟨b, rfl, L.block_lt (hc 0 x hx).1⟩

/-- what reads in an old world reads on, where only a newer block was changed -/
theorem Rd.kept {w0 w w' : World} {v : Value} {l : List Sp} {row : Option Nat} (h0 : Rd w0 v l) (h : Rd w v l) (hg : w.grownBy w' row) (hr : ∀ g, row = some g → w0.heap.size ≤ g) : Rd w' v l := by
  by_cases hl : l = []
  · subst hl
    obtain ⟨ao, cap, rfl, hn, _⟩ := h
    exact ⟨ao, cap, rfl, hn, fun h => absurd rfl h⟩
  · obtain ⟨b, hb, hlt⟩ := h0.block hl
    exact h.grown hg fun g hg' e => by rw [hb] at e; cases e; have := hr _ hg'; omega

theorem Rd.len {w : World} {v : Value} {l : List Sp} (h : Rd w v l) : ∃ ao cap, v = .slice ao l.length cap := by
  obtain ⟨ao, cap, rfl, _⟩ := h; exact ⟨ao, cap, rfl⟩

/-- a box of two cells, and what stood ahead of it, behind a call that leaves old memory as it was -/
theorem boxed {wr w1 : World} {a b : Value} {t : TypeId} (h : Below (wr.alloc (.cells #[a, b] t)).heap.size (wr.alloc (.cells #[a, b] t)) w1) :
    (w1.cell? ⟨wr.heap.size, 0, none⟩ = some a ∧ w1.cell? ⟨wr.heap.size, 1, none⟩ = some b) ∧ (∀ bb o u, wr.cell? ⟨bb, o, none⟩ = some u → w1.cell? ⟨bb, o, none⟩ = some u) ∧ wr.heap.size < w1.heap.size ∧ Below wr.heap.size wr w1 := by
  have hs := h.size
  have e : (wr.alloc (.cells #[a, b] t)).heap.size = wr.heap.size + 1 := by simp
  have hb : Below wr.heap.size wr w1 := ((Below.refl _ wr).alloc (Nat.le_refl _) _).trans (h.mono (by omega))
  refine ⟨⟨?_, ?_⟩, ?_, by omega, hb⟩
  · rw [h.cell (p := ⟨wr.heap.size, 0, none⟩) (by show wr.heap.size < _; omega), World.cell?_alloc_at _ _ _ _ (by simp)]; rfl
  · rw [h.cell (p := ⟨wr.heap.size, 1, none⟩) (by show wr.heap.size < _; omega), World.cell?_alloc_at _ _ _ _ (by simp)]; rfl
  · intro bb o u hu
    rw [hb.cell (p := ⟨bb, o, none⟩) (L.block_lt hu)]; exact hu

theorem grown_trans {w w1 w2 : World} {r : Option Nat} (h : w.grownBy w1 r) (h' : w1.grownBy w2 r) : w.grownBy w2 r :=
  ⟨h'.os.trans h.os, h'.tape.trans h.tape, h'.output.trans h.output, Nat.le_trans h.size h'.size, fun k hk hne => (h'.block k (Nat.lt_of_lt_of_le hk h.size) hne).trans (h.block k hk hne)⟩
theorem grown_refl (w : World) (r : Option Nat) : w.grownBy w r := ⟨rfl, rfl, rfl, Nat.le_refl _, fun _ _ _ => rfl⟩
theorem grown_below {w w1 : World} {r : Option Nat} (h : Below w.heap.size w w1) : w.grownBy w1 r := ⟨h.os, h.tape, h.output, h.size, fun k hk _ => h.block k hk⟩
theorem below_grown {w w1 w2 : World} {B : Nat} {r : Option Nat} (h : Below B w w1) (hg : w1.grownBy w2 r) (hB : B ≤ w1.heap.size) (hr : ∀ k, r = some k → B ≤ k) : Below B w w2 := Below.grown h hg hB hr
theorem owns_drewN {w : World} {base : Nat} {e : TypeId} {size : Nat} {v : Value} {n : Nat} {xs : List Value} (h : w.ownsRow base e size v n xs) (q : Nat) : (w.drewN q).ownsRow base e size v n xs := h

/-- the number in a box -/
def num (w : World) (b : Nat) : Nat := (intOf ((w.cell? ⟨b, 0, none⟩).getD undef)).toNat
/-- a box of one cell -/
def Bx (w : World) (b : Nat) (t : TypeId) (v : Value) : Prop := w.heap[b]? = some (.cells #[v] t)
theorem Bx.cell {w : World} {b : Nat} {t : TypeId} {v : Value} (h : Bx w b t v) : w.cell? ⟨b, 0, none⟩ = some v := by simp [World.cell?, Bx] at h ⊢; rw [h]; rfl
theorem Bx.num {w : World} {b : Nat} {t : TypeId} {k : Nat} (h : Bx w b t (.int .i64 k)) : num w b = k := by unfold S.num; rw [h.cell]; rfl
theorem Bx.free {w : World} {b : Nat} {t : TypeId} {v : Value} (h : Bx w b t v) : w.frozen? ⟨b, 0, none⟩ = false := by simp [World.frozen?, Bx] at h ⊢; rw [h]; rfl
theorem Bx.lt {w : World} {b : Nat} {t : TypeId} {v : Value} (h : Bx w b t v) : b < w.heap.size := lt_of_block h
theorem Bx.set {w : World} {b : Nat} {t : TypeId} {v : Value} (h : Bx w b t v) (u : Value) : Bx (w.setCell ⟨b, 0, none⟩ u) b t u := by
  have := heap_setCell_same w b 0 #[v] t u h
  exact this
theorem Bx.new (w : World) (t : TypeId) (v : Value) : Bx (w.alloc (.cells #[v] t)) w.heap.size t v := by
  unfold Bx; exact Array.getElem?_push_size
theorem Bx.below {w w' : World} {B b : Nat} {t : TypeId} {v : Value} (h : Bx w b t v) (hb : Below B w w') (hB : b < B) : Bx w' b t v := by
  unfold Bx; rw [hb.block b hB]; exact h
theorem Bx.grown {w w' : World} {b : Nat} {t : TypeId} {v : Value} {r : Option Nat} (h : Bx w b t v) (hg : w.grownBy w' r) (hr : r ≠ some b) : Bx w' b t v := by
  unfold Bx; rw [hg.block b h.lt (fun e => hr e.symm)]; exact h

end Go.Proofs.Ytnalcmlhfmgfdaa.S
