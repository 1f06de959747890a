/-
  Heads in memory, being made.
-/
import Derived.Test.YtnalcmlhfmgfdaaJWhich
namespace Go.Proofs.Ytnalcmlhfmgfdaa
open Go.RowKit Go.Shelf
set_option maxRecDepth 20000
set_option linter.unusedSimpArgs false
set_option linter.unusedVariables false

theorem Try.infoHead : (Try.prog.info? 46).map (fun i => (i.zero, i.size, i.bytes)) = some (some (.agg #[.int .i32 0, .int .i32 0, .slice none 0 0]), 3, 32) := by kernel_rfl

namespace J
abbrev Hd := Int × Int × List Int
def cells (ps : List (Hd × Value)) : List Value := ps.flatMap fun p => [.int .i32 p.1.1, .int .i32 p.1.2.1, p.2]
theorem cells_append (a b : List (Hd × Value)) : cells (a ++ b) = cells a ++ cells b := by simp [cells]
theorem cells_length (a : List (Hd × Value)) : (cells a).length = a.length * 3 := by
  induction a with
  | nil => rfl
  | cons x a ih => unfold cells at ih ⊢; rw [List.flatMap_cons, List.length_append, ih]; simp; omega
/-- a row of heads of the call's own, each with its rules' row -/
def Own (F : Nat) (w : World) (v : Value) (hs : List Hd) : Prop :=
  ∃ ps : List (Hd × Value), ps.map (·.1) = hs ∧ w.ownsRow F 46 3 v hs.length (cells ps) ∧ ∀ p ∈ ps, w.ownsRow F 3 1 p.2 p.1.2.2.length (p.1.2.2.map (Value.int .i64))
theorem Own.nil (F : Nat) (w : World) : Own F w (.slice none 0 0) [] := ⟨[], rfl, World.ownsRow_nil _ _ _ _, fun p hp => by cases hp⟩
theorem Own.below {F : Nat} {w w' : World} {v : Value} {hs : List Hd} (h : Own F w v hs) (hb : Below w.heap.size w w') : Own F w' v hs := by
  obtain ⟨ps, h1, h2, h3⟩ := h
  exact ⟨ps, h1, L.owns_below h2 hb (Nat.le_refl _), fun p hp => L.owns_below (h3 p hp) hb (Nat.le_refl _)⟩
theorem Own.base {F F' : Nat} {w : World} {v : Value} {hs : List Hd} (h : Own F w v hs) (hf : F' ≤ F) : Own F' w v hs := by
  obtain ⟨ps, h1, h2, h3⟩ := h
  exact ⟨ps, h1, L.owns_base h2 hf, fun p hp => L.owns_base (h3 p hp) hf⟩
theorem kept {F : Nat} {e : TypeId} {k : Nat} {w w' : World} {v : Value} {n : Nat} {xs : List Value} (h : w.ownsRow F e k v n xs) (hb : ∀ g, F ≤ g → w'.heap[g]? = w.heap[g]?) : w'.ownsRow F e k v n xs := by
  obtain ⟨h1, h2⟩ := h
  refine ⟨h1, ?_⟩
  rcases h2 with h2 | ⟨g, cap, cur, hv, hg, hx, r⟩
  · exact .inl h2
  · exact .inr ⟨g, cap, cur, hv, hg, by rw [hb g hg]; exact hx, r⟩
theorem Own.kept {F : Nat} {w w' : World} {v : Value} {hs : List Hd} (h : Own F w v hs) (hb : ∀ g, F ≤ g → w'.heap[g]? = w.heap[g]?) : Own F w' v hs := by
  obtain ⟨ps, h1, h2, h3⟩ := h
  exact ⟨ps, h1, J.kept h2 hb, fun p hp => J.kept (h3 p hp) hb⟩
theorem three (W : World) (a b : Int) (r : Value) : ∀ j u, ([Value.int .i32 a, .int .i32 b, r] : List Value)[j]? = some u → (W.alloc (.cells #[.int .i32 a, .int .i32 b, r] 46)).cell? ((⟨W.heap.size, 0, none⟩ : Addr).add j) = some u := by
  intro j u hj
  have e : (W.alloc (.cells #[.int .i32 a, .int .i32 b, r] 46)).heap[W.heap.size]? = some (.cells #[.int .i32 a, .int .i32 b, r] 46) := by
    show (W.heap.push _)[W.heap.size]? = _
    exact Array.getElem?_push_size
  rw [L.addr_add, Nat.zero_add]
  match j, hj with
  | 0, hj => exact K.at_box e (by simpa using hj)
  | 1, hj => exact K.at_box e (by simpa using hj)
  | 2, hj => exact K.at_box e (by simpa using hj)
  | n + 3, hj => simp at hj
theorem one_cell {F : Nat} {e : TypeId} {k : Nat} {w : World} {v : Value} {n : Nat} {xs : List Value} (h : w.ownsRow F e k v n xs) : v.oneCell' = true := by
  obtain ⟨_, ⟨rfl, _⟩ | ⟨g, cap, cur, rfl, _⟩⟩ := h <;> rfl
/-- one head more -/
theorem Own.push {F : Nat} {w0 w : World} {v : Value} {hs : List Hd} (h : Own F w v hs) (hB : Below F w0 w) (hF : F ≤ w.heap.size) (hl : hs.length ≤ 1000) (a b : Int) (rs : List Int) (r : Value) (hr : w.ownsRow F 3 1 r rs.length (rs.map (Value.int .i64))) :
    ∃ v' w', (Builtin.append_ #[32, 32] 32 #[v, .slice (some ⟨w.heap.size, 0, none⟩) 1 1]).run Try.prog (w.alloc (.cells #[.int .i32 a, .int .i32 b, r] 46)) = .ok v' w' ∧ Own F w' v' (hs ++ [(a, b, rs)]) ∧ Below F w0 w' := by
  obtain ⟨i0, hi, hz0, hz1, hz2⟩ := info_parts Try.infoHead
  obtain ⟨ps, h1, h2, h3⟩ := h
  obtain ⟨v', w', hrun, own, gr, _⟩ := run_append_own (P := Try.prog) (w.alloc (.cells #[.int .i32 a, .int .i32 b, r] 46)) F 32 32 46 i0 _ 3 32 Try.underlying32 hi hz0 hz1 hz2 rfl (by decide) v hs.length (cells ps) (h2.alloc _) ⟨w.heap.size, 0, none⟩ 1 1 [.int .i32 a, .int .i32 b, r] rfl (three w a b r)
    (fun u hu => by simp at hu; rcases hu with rfl | rfl | rfl; rfl; rfl; exact one_cell hr) (by unfold maxLen; omega) (by omega) (by simp; omega)
  refine ⟨v', w', hrun, ⟨ps ++ [((a, b, rs), r)], by simp [h1], ?_, fun p hp => ?_⟩, L.push_below hB h2 (Nat.le_refl _) hF gr⟩
  · rw [cells_append, List.length_append]
    exact own
  · rcases List.mem_append.1 hp with hp | hp
    · exact L.push_other h2 (h3 p hp) (by decide) gr
    · simp at hp
      subst hp
      exact L.push_other h2 hr (by decide) gr

theorem step_run {t : TypeId} {ops : Array Oper} {o : Oper} {a : Act} {w : World} {K : Act → World → Prop} {Q : Exit → Act → World → Prop} {E : Prop} (hgd : o.guard = none) (s x : Operand)
    (ho : o.op = .call { callee := .builtin .append, args := #[s, x], argTypes := #[t, t] }) (v vx v' : Value) (w' : World) (hs : a.eval s = v) (hx : a.eval x = vx)
    (hrun : (Builtin.append_ #[t, t] o.type #[v, vx]).run Try.prog w = .ok v' w') (h : K (a.put o.dst v') w') :
    if Region.wanted o (yielded ops a.tmps) = true then Oper.wp Try.prog o a w K Q else E := by
  have hw : Region.wanted o (yielded ops a.tmps) = true := by simp [Region.wanted, hgd]
  rw [if_pos hw]
  unfold Oper.wp
  simp [execOp, ho, resolve, invoke, builtin, hs, hx, hrun, Result.andThen]
  exact h
def begins (l : List K.Rule) (q : Int) : List Int := which (fun r => S.memb (K.headS r) q) 0 l
def headAt (f : Int → List Int) (c : List Int) (k : Nat) : Hd := (c.getD k 0, c.getD (k + 1) 0 - 1, f (c.getD k 0))
def heads (f : Int → List Int) (c : List Int) (n : Nat) : List Hd := (List.range n).map (headAt f c)
theorem heads_succ (f : Int → List Int) (c : List Int) (n : Nat) : heads f c (n + 1) = heads f c n ++ [headAt f c n] := by simp [heads, List.range_succ]
theorem heads_len (f : Int → List Int) (c : List Int) (n : Nat) : (heads f c n).length = n := by simp [heads]
end J

end Go.Proofs.Ytnalcmlhfmgfdaa
