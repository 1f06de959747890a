/-
  Boxes, behind an alloc.
-/
import Derived.Test.YtbclmmkphjknaaaFrame
import Derived.Test.YtbclmmkphjknaaaCnApp
import Derived.Lib.AppendZeros
import Derived.Shelf.SlGeneric
namespace Go.Proofs.Ytbclmmkphjknaaa
open Go.RowKit

theorem K.alloc_free {w : World} {g : Nat} {c : Array Value} {t : TypeId} (h : w.heap[g]? = some (.cells c t)) (o : Obj) (i : Nat) : (w.alloc o).frozen? ⟨g, i, none⟩ = false := by
  have e : (w.alloc o).heap[g]? = w.heap[g]? := Below.heap_alloc w o g (Array.getElem?_eq_some_iff.1 h).1
  rw [World.frozen?, show (w.alloc o).heap[(⟨g, i, none⟩ : Addr).block]? = w.heap[g]? from e, h]
  simp

theorem K.alloc_cell {w : World} {a : Addr} {v : Value} (h : w.cell? a = some v) (o : Obj) : (w.alloc o).cell? a = some v := by
  have e : (w.alloc o).heap[a.block]? = w.heap[a.block]? := Below.heap_alloc w o a.block (World.block_lt_of_cell? w a h)
  rw [World.cell?_of_block e]; exact h


end Go.Proofs.Ytbclmmkphjknaaa

/-
  Rows of structs that are being made: one more.
-/
namespace Go.Proofs.Ytbclmmkphjknaaa
open Go.RowKit Go.Shelf
set_option maxRecDepth 20000
set_option linter.unusedSimpArgs false
set_option linter.unusedVariables false

namespace Al
/-- one struct more: append(out, x) -/
theorem app {sl e : TypeId} {z : Value} {k y : Nat} (hs : Try.prog.underlying sl = some (.slice e)) (hinfo : (Try.prog.info? e).map (fun i => (i.zero, i.size, i.bytes)) = some (some z, k, y)) (hzk : z.cells.size = k) (hk : 0 < k) (hy : y ≤ 100)
    {w : World} {B n : Nat} {vo : Value} {xs : List Value} (own : w.ownsRow B e k vo n xs) (hB : B ≤ w.heap.size) (hl : n ≤ 1000000) (news : List Value) (hn : news.length = k) (h1 : ∀ u ∈ news, u.oneCell' = true) :
    ∃ ao' vc' w', (∀ ty, (Builtin.append_ #[sl, sl] ty #[vo, .slice (some ⟨w.heap.size, 0, none⟩) 1 1]).run Try.prog (w.alloc (.cells news.toArray e)) = .ok (.slice ao' (n + 1) vc') w') ∧ w'.ownsRow B e k (.slice ao' (n + 1) vc') (n + 1) (xs ++ news) ∧ (∀ b, b < w.heap.size → vo.ownBlock ≠ some b → w'.heap[b]? = w.heap[b]?) ∧ w.heap.size ≤ w'.heap.size ∧ Below B w w' := by
  have hal : Below w.heap.size w (w.alloc (.cells news.toArray e)) := (Below.refl _ w).alloc (Nat.le_refl _) _
  have hnew := heap_alloc_new w (.cells news.toArray e)
  obtain ⟨i0, hi, hz0, hz1, hz2⟩ := info_parts hinfo
  have hcells : ∀ j u, news[j]? = some u → (w.alloc (.cells news.toArray e)).cell? ((⟨w.heap.size, 0, none⟩ : Addr).add j) = some u := fun j u hj => by
    rw [L.addr_add, Nat.zero_add]
    exact K.at_box hnew (by simpa using hj)
  have hyb : (n + 1) * y ≤ 140737488355328 := Nat.le_trans (Nat.mul_le_mul (Nat.succ_le_succ hl) hy) (by decide)
  obtain ⟨v', w', run, own', gr, _⟩ := run_append_own (P := Try.prog) (w.alloc (.cells news.toArray e)) B sl sl e i0 _ k y hs hi hz0 hz1 hz2 hzk hk vo n xs (own.alloc _) ⟨w.heap.size, 0, none⟩ 1 1 news (by rw [hn]; omega) hcells h1 (by unfold maxLen; omega) hyb (by simp; omega)
  obtain ⟨ao', vc', rfl⟩ : ∃ ao cap, v' = .slice ao (n + 1) cap := by
    rcases own'.2 with ⟨hv, h0⟩ | ⟨g, cap, cur, hv, _⟩
    · omega
    · exact ⟨_, cap, hv⟩
  refine ⟨ao', vc', w', fun ty => run, own', fun b hb hne => ?_, ?_, (hal.mono hB).grown gr (by simp; omega) fun k hk => (own.lt k hk).1⟩
  · rw [gr.block b (by simp; omega) (fun e => hne e.symm)]
    exact hal.block b hb
  · have := gr.size
    simp at this
    omega

/-- a row stays where its block does -/
theorem held {F : Nat} {e : TypeId} {k : Nat} {w w' : World} {v : Value} {n : Nat} {xs : List Value} (h : w.ownsRow F e k v n xs) (hb : ∀ q, v.ownBlock = some q → q < w.heap.size → w'.heap[q]? = w.heap[q]?) : w'.ownsRow F e k v n xs := by
  obtain ⟨h1, h2⟩ := h
  refine ⟨h1, ?_⟩
  rcases h2 with h2 | ⟨g, cap, cur, hv, hg, hx, r⟩
  · exact .inl h2
  · exact .inr ⟨g, cap, cur, hv, hg, by rw [hb g (by rw [hv]; rfl) (lt_of_block hx)]; exact hx, r⟩
/-- what lies in its block -/
theorem block {F : Nat} {e : TypeId} {k : Nat} {w : World} {v : Value} {n : Nat} {xs : List Value} (h : w.ownsRow F e k v n xs) {q : Nat} (hq : v.ownBlock = some q) : F ≤ q ∧ ∃ cs p, w.heap[q]? = some (.cells cs e p) := by
  obtain ⟨h1, h2⟩ := h
  rcases h2 with ⟨h2, _⟩ | ⟨g, cap, cur, hv, hg, hx, r⟩
  · rw [h2] at hq; cases hq
  · rw [hv] at hq
    have hq' : some g = some q := hq
    cases hq'
    exact ⟨hg, _, _, hx⟩
/-- where a row lies, if something is in it -/
theorem lies {F : Nat} {e : TypeId} {k : Nat} {w : World} {v : Value} {n : Nat} {xs : List Value} (h : w.ownsRow F e k v n xs) : ∃ ao cap, v = .slice ao n cap ∧ (0 < n → ∃ g, ao = some ⟨g, 0, none⟩ ∧ g < w.heap.size ∧ ∀ j u, xs[j]? = some u → w.cell? ⟨g, j, none⟩ = some u) := by
  have h0 := h
  obtain ⟨h1, h2⟩ := h
  rcases h2 with ⟨rfl, h2⟩ | ⟨g, cap, cur, rfl, hg, hx, r⟩
  · exact ⟨none, 0, by rw [h2], fun h => by omega⟩
  · refine ⟨_, cap, rfl, fun _ => ⟨g, rfl, lt_of_block hx, fun j u hu => ?_⟩⟩
    have := h0.cells (g := g) rfl j u hu
    rw [L.addr_add, Nat.zero_add] at this
    exact this
end Al
end Go.Proofs.Ytbclmmkphjknaaa
