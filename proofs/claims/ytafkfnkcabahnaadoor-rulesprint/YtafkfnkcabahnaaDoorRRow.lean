/-
  Rows of texts that are appended to.
-/
import Derived.Test.YtafkfnkcabahnaaDoorRLib
import Derived.Test.YtafkfnkcabahnaaDoorRows
import Derived.Laws.AppendOwnNone
import Derived.Deep.RegionHeld3
namespace Go.Proofs.YtafkfnkcabahnaaDoor
open Go.RowKit
theorem Tryd.infoStr : (Tryd.prog.info? 9).map (fun i => (i.zero, i.size, i.bytes)) = some (some (.string ⟨#[]⟩), 1, 16) := by kernel_rfl
namespace R

def str (m : List UInt8) : Value := .string ⟨m.toArray⟩

/-- a row of texts that is a call's own -/
def Own (B : Nat) (w : World) (v : Value) (ms : List (List UInt8)) : Prop := w.ownsRow B 9 1 v ms.length (ms.map str)

theorem Own.nil (B : Nat) (w : World) : Own B w (.slice none 0 0) [] := World.ownsRow_nil _ _ _ _
theorem Own.slice {B : Nat} {w : World} {v : Value} {ms : List (List UInt8)} (h : Own B w v ms) : ∃ ao c, v = .slice ao ms.length c ∧ (ao = none → ms = [] ∧ c = 0) ∧ (∀ ad, ao = some ad → ∃ g, ad = ⟨g, 0, none⟩ ∧ ∀ j m, ms[j]? = some m → w.cell? ⟨g, j, none⟩ = some (str m)) := by
  have hc := fun g hg => World.ownsRow.cells h (g := g) hg
  rcases h.2 with ⟨rfl, h0⟩ | ⟨g, cap, cur, rfl, _⟩
  · exact ⟨none, 0, by rw [h0], fun _ => ⟨by simpa using h0, rfl⟩, fun ad h => by cases h⟩
  · refine ⟨_, cap, rfl, (fun h => by cases h), fun ad he => ?_⟩
    cases he
    refine ⟨g, rfl, fun j m hj => ?_⟩
    have := hc g rfl j (str m) (by simp [hj])
    rw [L.addr_add, Nat.zero_add] at this
    exact this
theorem Own.alloc {B : Nat} {w : World} {v : Value} {ms : List (List UInt8)} (h : Own B w v ms) (o : Obj) : Own B (w.alloc o) v ms := World.ownsRow.alloc h o
theorem Own.below {B : Nat} {w w' : World} {v : Value} {ms : List (List UInt8)} (h : Own B w v ms) (hb : Below w.heap.size w w') : Own B w' v ms := L.owns_below h hb (Nat.le_refl _)
theorem Own.grown {B : Nat} {w w' : World} {v : Value} {ms : List (List UInt8)} {row : Option Nat} (h : Own B w v ms) (hg : w.grownBy w' row) (hne : ∀ g, row = some g → v.ownBlock ≠ some g) : Own B w' v ms := by
  rcases h.2 with ⟨hv, h0⟩ | ⟨g, cap, cur, hv, h1, h2, h3⟩
  · exact ⟨h.1, .inl ⟨hv, h0⟩⟩
  · refine ⟨h.1, .inr ⟨g, cap, cur, hv, h1, ?_, h3⟩⟩
    rw [hg.block g (Array.getElem?_eq_some_iff.1 h2).1 (fun e => hne g e.symm (by rw [hv]; rfl))]
    exact h2
theorem Own.lt {B : Nat} {w : World} {v : Value} {ms : List (List UInt8)} (h : Own B w v ms) : ∀ g, v.ownBlock = some g → B ≤ g ∧ g < w.heap.size := fun g hg => World.ownsRow.lt h g hg

theorem oper_one {o : Oper} {a : Act} {w : World} {K : Act → World → Prop} {Q : Exit → Act → World → Prop} (s x : Operand) (ho : o.op = .call { callee := .builtin .append, args := #[s, x], argTypes := #[48, 48] })
    (B : Nat) (v : Value) (ms : List (List UInt8)) (hs : a.eval s = v) (own : Own B w v ms) (c : Nat) (hx : a.eval x = .slice (some ⟨c, 0, none⟩) 1 1) (m : List UInt8) (hc : w.cell? ⟨c, 0, none⟩ = some (str m)) (hl : ms.length ≤ 10000) (hB : B ≤ w.heap.size)
    (h : ∀ v' w', Own B w' v' (ms ++ [m]) → w.grownBy w' v.ownBlock → K (a.put o.dst v') w') : Oper.wp Tryd.prog o a w K Q := by
  obtain ⟨i0, hi, hz0, hz1, hz2⟩ := info_parts Tryd.infoStr
  refine wp_append_own w s x 48 ho B 9 i0 (.string ⟨#[]⟩) 1 16 Tryd.underlying48 hi hz0 hz1 hz2 rfl (by decide) v ms.length (ms.map str) hs own ⟨c, 0, none⟩ 1 1 [str m] hx rfl ?_ (fun u hu => by simp at hu; subst hu; rfl) (by unfold maxLen; omega) (by omega) hB ?_
  · intro j u hj
    match j, hj with
    | 0, hj =>
      simp at hj
      subst hj
      rw [L.addr_add]
      exact hc
  · intro v' w' h1 h2 _
    exact h v' w' (by unfold Own; rw [List.map_append, List.length_append]; exact h1) h2

theorem oper_rows {o : Oper} {a : Act} {w : World} {K : Act → World → Prop} {Q : Exit → Act → World → Prop} (s x : Operand) (ho : o.op = .call { callee := .builtin .append, args := #[s, x], argTypes := #[48, 48] })
    (B : Nat) (v : Value) (ms : List (List UInt8)) (hs : a.eval s = v) (own : Own B w v ms) (vx : Value) (hx : a.eval x = vx) (B2 : Nat) (ns : List (List UInt8)) (own2 : Own B2 w vx ns) (hl : ms.length ≤ 10000) (hl2 : ns.length ≤ 10000) (hB : B ≤ w.heap.size)
    (h : ∀ v' w', Own B w' v' (ms ++ ns) → w.grownBy w' v.ownBlock → K (a.put o.dst v') w') : Oper.wp Tryd.prog o a w K Q := by
  obtain ⟨i0, hi, hz0, hz1, hz2⟩ := info_parts Tryd.infoStr
  obtain ⟨ao, cc, rfl, hn, hsm⟩ := own2.slice
  cases ao with
  | none =>
    obtain ⟨rfl, rfl⟩ := hn rfl
    have hrun := run_append_owned_none (P := Tryd.prog) (w := w) B 48 o.type 9 i0 1 Tryd.underlying48 hi v ms.length (ms.map str) own
    have h' := h v w (by rw [List.append_nil]; exact own) ⟨rfl, rfl, rfl, Nat.le_refl _, fun _ _ _ => rfl⟩
    unfold Oper.wp
    have hx' : a.eval x = .slice none 0 0 := hx
    simp [execOp, ho, resolve, invoke, builtin, hs, hx', hrun, Result.andThen]
    exact h'
  | some ad =>
    obtain ⟨g, rfl, hcell⟩ := hsm ad rfl
    refine wp_append_own w s x 48 ho B 9 i0 (.string ⟨#[]⟩) 1 16 Tryd.underlying48 hi hz0 hz1 hz2 rfl (by decide) v ms.length (ms.map str) hs own ⟨g, 0, none⟩ ns.length cc (ns.map str) hx (by simp) ?_ (fun u hu => by obtain ⟨m, _, rfl⟩ := List.mem_map.1 hu; rfl) (by unfold maxLen; omega) (by omega) hB ?_
    · intro j u hj
      rw [List.getElem?_map] at hj
      cases hm : ns[j]? with
      | none => rw [hm] at hj; cases hj
      | some m =>
        rw [hm] at hj
        cases hj
        rw [L.addr_add, Nat.zero_add]
        exact hcell j m hm
    · intro v' w' h1 h2 _
      exact h v' w' (by unfold Own; rw [List.map_append, List.length_append]; exact h1) h2

theorem list_one {ops : Array Oper} {rest : List Oper} {o : Oper} {a : Act} {w : World} {Q : Exit → Act → World → Prop} (hgd : o.guard = none) (s x : Operand) (ho : o.op = .call { callee := .builtin .append, args := #[s, x], argTypes := #[48, 48] })
    (B : Nat) (v : Value) (ms : List (List UInt8)) (hs : a.eval s = v) (own : Own B w v ms) (c : Nat) (hx : a.eval x = .slice (some ⟨c, 0, none⟩) 1 1) (m : List UInt8) (hc : w.cell? ⟨c, 0, none⟩ = some (str m)) (hl : ms.length ≤ 10000) (hB : B ≤ w.heap.size)
    (h : ∀ v' w', Own B w' v' (ms ++ [m]) → w.grownBy w' v.ownBlock → wpList Tryd.prog ops Q rest (a.put o.dst v') w') : wpList Tryd.prog ops Q (o :: rest) a w :=
  wpList_plain hgd fun _ hK => oper_one s x ho B v ms hs own c hx m hc hl hB fun v' w' h1 h2 => hK _ _ (h v' w' h1 h2)
theorem list_rows {ops : Array Oper} {rest : List Oper} {o : Oper} {a : Act} {w : World} {Q : Exit → Act → World → Prop} (hgd : o.guard = none) (s x : Operand) (ho : o.op = .call { callee := .builtin .append, args := #[s, x], argTypes := #[48, 48] })
    (B : Nat) (v : Value) (ms : List (List UInt8)) (hs : a.eval s = v) (own : Own B w v ms) (vx : Value) (hx : a.eval x = vx) (B2 : Nat) (ns : List (List UInt8)) (own2 : Own B2 w vx ns) (hl : ms.length ≤ 10000) (hl2 : ns.length ≤ 10000) (hB : B ≤ w.heap.size)
    (h : ∀ v' w', Own B w' v' (ms ++ ns) → w.grownBy w' v.ownBlock → wpList Tryd.prog ops Q rest (a.put o.dst v') w') : wpList Tryd.prog ops Q (o :: rest) a w :=
  wpList_plain hgd fun _ hK => oper_rows s x ho B v ms hs own vx hx B2 ns own2 hl hl2 hB fun v' w' h1 h2 => hK _ _ (h v' w' h1 h2)
theorem step_one {ops : Array Oper} {o : Oper} {a : Act} {w : World} {K : Act → World → Prop} {Q : Exit → Act → World → Prop} {E : Prop} (hgd : o.guard = none) (s x : Operand) (ho : o.op = .call { callee := .builtin .append, args := #[s, x], argTypes := #[48, 48] })
    (B : Nat) (v : Value) (ms : List (List UInt8)) (hs : a.eval s = v) (own : Own B w v ms) (c : Nat) (hx : a.eval x = .slice (some ⟨c, 0, none⟩) 1 1) (m : List UInt8) (hc : w.cell? ⟨c, 0, none⟩ = some (str m)) (hl : ms.length ≤ 10000) (hB : B ≤ w.heap.size)
    (h : ∀ v' w', Own B w' v' (ms ++ [m]) → w.grownBy w' v.ownBlock → K (a.put o.dst v') w') :
    if Region.wanted o (yielded ops a.tmps) = true then Oper.wp Tryd.prog o a w K Q else E := by
  have hw : Region.wanted o (yielded ops a.tmps) = true := by simp [Region.wanted, hgd]
  rw [if_pos hw]
  exact oper_one s x ho B v ms hs own c hx m hc hl hB h
theorem step_rows {ops : Array Oper} {o : Oper} {a : Act} {w : World} {K : Act → World → Prop} {Q : Exit → Act → World → Prop} {E : Prop} (hgd : o.guard = none) (s x : Operand) (ho : o.op = .call { callee := .builtin .append, args := #[s, x], argTypes := #[48, 48] })
    (B : Nat) (v : Value) (ms : List (List UInt8)) (hs : a.eval s = v) (own : Own B w v ms) (vx : Value) (hx : a.eval x = vx) (B2 : Nat) (ns : List (List UInt8)) (own2 : Own B2 w vx ns) (hl : ms.length ≤ 10000) (hl2 : ns.length ≤ 10000) (hB : B ≤ w.heap.size)
    (h : ∀ v' w', Own B w' v' (ms ++ ns) → w.grownBy w' v.ownBlock → K (a.put o.dst v') w') :
    if Region.wanted o (yielded ops a.tmps) = true then Oper.wp Tryd.prog o a w K Q else E := by
  have hw : Region.wanted o (yielded ops a.tmps) = true := by simp [Region.wanted, hgd]
  rw [if_pos hw]
  exact oper_rows s x ho B v ms hs own vx hx B2 ns own2 hl hl2 hB h

/-- the words of items -/
def itemsW : List Item → Int → List (List UInt8)
  | [], c => if c = 0 then [[124]] else []
  | x :: l, c => (if c = 0 then [[124]] else []) ++ [itemB x] ++ itemsW l (c - 1)
def sideW (s : Side) : List (List UInt8) :=
  (if s.start = true then [[94]] else []) ++ itemsW s.before (-1) ++ (if s.start = true ∨ 0 < s.before.length then [[123]] else []) ++ itemsW s.source s.cursor ++ (if s.fin = true ∨ 0 < s.after.length then [[125]] else []) ++ itemsW s.after (-1) ++ (if s.fin = true then [[36]] else [])
def tell (ws : List (List UInt8)) : List UInt8 := ws.flatMap fun m => m ++ [32]
theorem tell_app (a b : List (List UInt8)) : tell (a ++ b) = tell a ++ tell b := by simp [tell]
theorem tell_items {l : List Item} : ∀ {c : Int}, tell (itemsW l c) = itemsB l c := by
  induction l with
  | nil => intro c; rw [itemsW, itemsB]; split <;> simp [tell, bar]
  | cons x l ih =>
    intro c
    rw [itemsW, itemsB, tell_app, tell_app, ih]
    congr 1
    congr 1
    · split <;> simp [tell, bar]
    · simp [tell]
theorem tell_if {p : Prop} [Decidable p] (a : UInt8) : tell (if p then [[a]] else []) = if p then [a, 32] else [] := by split <;> simp [tell]
theorem tell_side (s : Side) : tell (sideW s) = sideB s := by
  unfold sideW sideB
  simp only [tell_app, tell_items, tell_if]
theorem itemsW_len {l : List Item} : ∀ {c : Int}, (itemsW l c).length ≤ 2 * l.length + 1 := by
  induction l with
  | nil => intro c; rw [itemsW]; split <;> simp
  | cons x l ih =>
    intro c
    have := ih (c := c - 1)
    rw [itemsW]
    simp only [List.length_append, List.length_cons, List.length_nil]
    split <;> simp <;> omega
theorem itemsW_drop {l : List Item} {k : Nat} {x : Item} {c : Int} (hx : l[k]? = some x) : itemsW (l.drop k) (c - k) = (if (k : Int) = c then [[124]] else []) ++ [itemB x] ++ itemsW (l.drop (k + 1)) (c - (k + 1 : Nat)) := by
  have hlt := (List.getElem?_eq_some_iff.1 hx).1
  rw [List.drop_eq_getElem_cons hlt]
  have : l[k] = x := by rw [List.getElem?_eq_getElem hlt] at hx; exact Option.some.inj hx
  rw [this, itemsW]
  have e : c - ((k + 1 : Nat) : Int) = c - k - 1 := by omega
  rw [e]
  by_cases h : (k : Int) = c
  · rw [if_pos h, if_pos (by omega)]
  · rw [if_neg h, if_neg (by omega)]

end R
end Go.Proofs.YtafkfnkcabahnaaDoor
