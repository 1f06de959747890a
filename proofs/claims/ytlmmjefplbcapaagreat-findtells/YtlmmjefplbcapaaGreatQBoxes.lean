/-
  A row of runes of the call's own: what is copied into it, and cleared in it (KRow).
-/
import Derived.Test.YtlmmjefplbcapaaGreatKRow
import Derived.Test.YtlmmjefplbcapaaGreatYHead
import Derived.Test.YtlmmjefplbcapaaGreatJMath
import Derived.Test.YtlmmjefplbcapaaGreatAlApp
import Derived.Test.YtlmmjefplbcapaaGreatRuFrame
import Derived.ArgAppend
import Derived.Deep.Upon
import Derived.Test.YtlmmjefplbcapaaGreatSHas7

/-
  append of runes to a slice of the call's own: where it lies behind it.
-/
namespace Go.Proofs.YtlmmjefplbcapaaGreat.K
open Go.RowKit

theorem rd_block {w w' : World} {v : Value} {zs : List Int} (h : L.Rd w v .i32 zs) (hb : zs ≠ [] → ∀ k, v.ownBlock = some k → w'.heap[k]? = w.heap[k]?) : L.Rd w' v .i32 zs := by
  obtain ⟨ao, cap, rfl, hn, hc⟩ := h
  refine ⟨ao, cap, rfl, hn, fun hz => ?_⟩
  obtain ⟨b, off, rfl, hcell⟩ := hc hz
  refine ⟨b, off, rfl, fun j z hj => ?_⟩
  rw [World.cell?_of_block (a := ⟨b, off + j, none⟩) (hb hz b rfl)]
  exact hcell j z hj
theorem own_block {w w' : World} {B : Nat} {v : Value} {n : Nat} {xs : List Value} (h : w.ownsRow B 21 1 v n xs) (hb : ∀ k, v.ownBlock = some k → w'.heap[k]? = w.heap[k]?) : w'.ownsRow B 21 1 v n xs := by
  refine ⟨h.1, ?_⟩
  rcases h.2 with h | ⟨g, cap, cur, hv, hB, hg, r⟩
  · exact .inl h
  · exact .inr ⟨g, cap, cur, hv, hB, by rw [hb g (by rw [hv]; rfl)]; exact hg, r⟩

/-- the run's state in the document's text: what is done, the rest, what was counted -/
structure Dr (wB wr : World) (b : Nat) (s p : Int) (vd vr : Value) (done rest : List Int) : Prop where
  hb : b < wB.heap.size
  own : wr.ownsRow wB.heap.size 21 1 vd done.length (ints done)
  rd : L.Rd wr vr .i32 rest
  apart : rest ≠ [] → ∀ k, vd.ownBlock = some k → vr.ownBlock ≠ some k
  out : wr.heap[b]? = some (.cells #[.slice none 0 0, .int .i64 s, .int .i64 p] 40)
  grown : wB.grownBy wr (some b)

/-- the rest doesn't lie in the counters' box -/
theorem Dr.rest_ne {wB wr : World} {b : Nat} {s p : Int} {vd vr : Value} {done rest : List Int} (h : Dr wB wr b s p vd vr done rest) (hz : rest ≠ []) : ∀ k, vr.ownBlock = some k → k ≠ b := by
  obtain ⟨ao, cap, rfl, hn, hc⟩ := h.rd
  obtain ⟨b', off, rfl, hcell⟩ := hc hz
  intro k hk e
  have : b' = k := by simpa [Value.ownBlock] using hk
  subst this e
  obtain ⟨z, hz2⟩ : ∃ z, rest[0]? = some z := ⟨rest[0]'(List.length_pos_iff.2 hz), by simp⟩
  have hc0 := hcell 0 z hz2
  rw [World.cell?] at hc0
  simp only [show wr.heap[b']? = _ from h.out] at hc0
  simp at hc0
  have hlt := (List.getElem?_eq_some_iff.1 hc0).1
  match off, hc0 with
  | 0, hc0 => simp at hc0
  | 1, hc0 => simp at hc0
  | 2, hc0 => simp at hc0
  | n + 3, _ => simp at hlt; omega
theorem Dr.set1 {wB wr : World} {b : Nat} {s p : Int} {vd vr : Value} {done rest : List Int} (h : Dr wB wr b s p vd vr done rest) (n : Int) : Dr wB (wr.setCell ⟨b, 1, none⟩ (.int .i64 n)) b n p vd vr done rest := by
  have oth : ∀ k, k ≠ b → (wr.setCell ⟨b, 1, none⟩ (.int .i64 n)).heap[k]? = wr.heap[k]? := fun k hk => heap_setCell_other wr ⟨b, 1, none⟩ k _ (by simpa using hk)
  refine ⟨h.hb, own_block h.own fun k hk => oth k (by have := (h.own.lt k hk).1; have := h.hb; omega), rd_block h.rd fun hz k hk => oth k (h.rest_ne hz k hk), h.apart, heap_setCell_same wr b 1 _ _ _ h.out, S.grown_trans h.grown ⟨rfl, rfl, rfl, by simp, fun k _ hk => oth k fun e => hk (by rw [e])⟩⟩
theorem Dr.set2 {wB wr : World} {b : Nat} {s p : Int} {vd vr : Value} {done rest : List Int} (h : Dr wB wr b s p vd vr done rest) (n : Int) : Dr wB (wr.setCell ⟨b, 2, none⟩ (.int .i64 n)) b s n vd vr done rest := by
  have oth : ∀ k, k ≠ b → (wr.setCell ⟨b, 2, none⟩ (.int .i64 n)).heap[k]? = wr.heap[k]? := fun k hk => heap_setCell_other wr ⟨b, 2, none⟩ k _ (by simpa using hk)
  refine ⟨h.hb, own_block h.own fun k hk => oth k (by have := (h.own.lt k hk).1; have := h.hb; omega), rd_block h.rd fun hz k hk => oth k (h.rest_ne hz k hk), h.apart, heap_setCell_same wr b 2 _ _ _ h.out, S.grown_trans h.grown ⟨rfl, rfl, rfl, by simp, fun k _ hk => oth k fun e => hk (by rw [e])⟩⟩
theorem Dr.below {wB wr w' : World} {b : Nat} {s p : Int} {vd vr : Value} {done rest : List Int} (h : Dr wB wr b s p vd vr done rest) (hb : Below wr.heap.size wr w') : Dr wB w' b s p vd vr done rest :=
  ⟨h.hb, L.owns_below h.own hb (Nat.le_refl _), h.rd.below hb (Nat.le_refl _), h.apart, blk_below h.out hb, S.grown_trans h.grown (S.grown_below hb)⟩
/-- another rest, in a new block or in the same one -/
theorem Dr.other {wB wr : World} {b : Nat} {s p : Int} {vd vr vr' : Value} {done rest rest' : List Int} (h : Dr wB wr b s p vd vr done rest) (hr : L.Rd wr vr' .i32 rest') (ha : rest' ≠ [] → ∀ k, vd.ownBlock = some k → vr'.ownBlock ≠ some k) : Dr wB wr b s p vd vr' done rest' := ⟨h.hb, h.own, hr, ha, h.out, h.grown⟩
/-- something is put behind what is done -/
theorem Dr.push {wB wr w' : World} {b : Nat} {s p : Int} {vd vr vd' : Value} {done rest done' : List Int} (h : Dr wB wr b s p vd vr done rest) (ho : w'.ownsRow wB.heap.size 21 1 vd' done'.length (ints done')) (hg : wr.grownBy w' vd.ownBlock) (hv : vd'.ownBlock = vd.ownBlock ∨ ∃ k, vd'.ownBlock = some k ∧ wr.heap.size ≤ k) : Dr wB w' b s p vd' vr done' rest := by
  have hin : ∀ k, rest ≠ [] → vr.ownBlock = some k → k < wr.heap.size := fun k hz hk => by
    obtain ⟨ao, cap, e, _, hc⟩ := h.rd
    obtain ⟨b', off, e2, hcell⟩ := hc hz
    subst e2
    rw [e] at hk
    have : b' = k := by simpa [Value.ownBlock] using hk
    subst this
    obtain ⟨z, hz2⟩ : ∃ z, rest[0]? = some z := ⟨rest[0]'(List.length_pos_iff.2 hz), by simp⟩
    exact L.block_lt (hcell 0 z hz2)
  have hbl : b < wr.heap.size := Nat.lt_of_lt_of_le h.hb h.grown.size
  refine ⟨h.hb, ho, rd_block h.rd fun hz k hk => hg.block k (hin k hz hk) fun e => h.apart hz k e.symm hk, fun hz k hk e => ?_, ?_, h.grown.os ▸ hg.os ▸ rfl, h.grown.tape ▸ hg.tape ▸ rfl, h.grown.output ▸ hg.output ▸ rfl, Nat.le_trans h.grown.size hg.size, fun k hk hne => ?_⟩
  · rcases hv with hv | ⟨k', hv, hk'⟩
    · exact h.apart hz k (hv ▸ hk) e
    · rw [hv] at hk
      cases hk
      have := hin _ hz e
      omega
  · rw [hg.block b hbl fun e => by have := (h.own.lt b e.symm).1; have := h.hb; omega]
    exact h.out
  · rw [hg.block k (Nat.lt_of_lt_of_le hk h.grown.size) fun e => by have := (h.own.lt k e.symm).1; omega]
    exact h.grown.block k hk hne

end Go.Proofs.YtlmmjefplbcapaaGreat.K

/-
  Run's two boxes.
-/
namespace Go.Proofs.YtlmmjefplbcapaaGreat
open Go.RowKit Go.Lib
set_option maxRecDepth 20000
set_option linter.unusedSimpArgs false
set_option linter.unusedVariables false

namespace K
/-- Run's boxes: what came, what is wrong -/
def Boxes (w W : World) : Prop := W.heap[w.heap.size]? = some (.cells #[.slice none 0 0, .int .i64 0, .int .i64 0] 40) ∧ W.heap[w.heap.size + 1]? = some (.cells #[.int .i64 0, .int .i64 0] 27)
end K

/-- five stores into two boxes -/
theorem K.five {w W : World} {B a b : Nat} (hb : Below B w W) (ha : B ≤ a) (hbb : B ≤ b) (v0 v1 v2 v3 v4 : Value) :
    Below B w (((((W.setCell ⟨a, 0, none⟩ v0).setCell ⟨a, 1, none⟩ v1).setCell ⟨a, 2, none⟩ v2).setCell ⟨b, 0, none⟩ v3).setCell ⟨b, 1, none⟩ v4) ∧
    ∀ g, g ≠ a → g ≠ b → (((((W.setCell ⟨a, 0, none⟩ v0).setCell ⟨a, 1, none⟩ v1).setCell ⟨a, 2, none⟩ v2).setCell ⟨b, 0, none⟩ v3).setCell ⟨b, 1, none⟩ v4).heap[g]? = W.heap[g]? := by
  refine ⟨((((hb.setCell (p := ⟨a, 0, none⟩) ha _).setCell (p := ⟨a, 1, none⟩) ha _).setCell (p := ⟨a, 2, none⟩) ha _).setCell (p := ⟨b, 0, none⟩) hbb _).setCell (p := ⟨b, 1, none⟩) hbb _, fun g h1 h2 => ?_⟩
  rw [heap_setCell_other _ ⟨b, 1, none⟩ g _ (by simpa using h2), heap_setCell_other _ ⟨b, 0, none⟩ g _ (by simpa using h2), heap_setCell_other _ ⟨a, 2, none⟩ g _ (by simpa using h1), heap_setCell_other _ ⟨a, 1, none⟩ g _ (by simpa using h1), heap_setCell_other _ ⟨a, 0, none⟩ g _ (by simpa using h1)]

/-- where nothing is wrong -/
theorem K.boxes_below {w W W' : World} (h : K.Boxes w W) (hb : Below W.heap.size W W') : K.Boxes w W' := ⟨K.blk_below h.1 hb, K.blk_below h.2 hb⟩

end Go.Proofs.YtlmmjefplbcapaaGreat
