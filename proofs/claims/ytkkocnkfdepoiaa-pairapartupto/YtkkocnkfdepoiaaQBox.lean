/-
  append of runes to a slice of the call's own: where it lies behind it.
-/
import Derived.Test.YtkkocnkfdepoiaaQRow
import Derived.Test.YtkkocnkfdepoiaaMLib
import Derived.ArgAppend
import Derived.Deep.Upon
import Derived.Test.YtkkocnkfdepoiaaFrame
namespace Go.Proofs.Ytkkocnkfdepoiaa.K
open Go.RowKit

theorem app_rd (w : World) (B : Nat) (v : Value) (t : List Int) (own : w.ownsRow B 21 1 v t.length (ints t)) (vx : Value) (zs : List Int) (hx : L.Rd w vx .i32 zs) (hl : t.length + zs.length ≤ 100000000) (hB : B ≤ w.heap.size) :
    ∃ v' w', (∀ ty, (Builtin.append_ #[28, 28] ty #[v, vx]).run Try.prog w = .ok v' w') ∧ w'.ownsRow B 21 1 v' (t ++ zs).length (ints (t ++ zs)) ∧ w.grownBy w' v.ownBlock ∧ (v'.ownBlock = v.ownBlock ∨ ∃ k, v'.ownBlock = some k ∧ w.heap.size ≤ k) := by
  obtain ⟨i0, hi, hz0, hz1, hz2⟩ := info_parts Try.infoI32
  have he : ints (t ++ zs) = ints t ++ ints zs := by unfold ints; rw [List.map_append]
  have hle : (t ++ zs).length = t.length + zs.length := List.length_append
  by_cases h0 : zs = []
  · subst h0
    obtain ⟨ao, cx, rfl, hn, hc⟩ := hx
    obtain ⟨vo, vc, rfl, hvc⟩ : ∃ vo vc, v = .slice vo t.length vc ∧ t.length ≤ vc := by
      rcases own.2 with ⟨h, h1⟩ | ⟨g, cap, cur, h, _, _, h1, _⟩
      · exact ⟨none, 0, by rw [h, h1], by omega⟩
      · exact ⟨_, cap, h, h1⟩
    refine ⟨_, w, fun ty => ?_, by simpa using own, ⟨rfl, rfl, rfl, Nat.le_refl _, fun _ _ _ => rfl⟩, .inl rfl⟩
    refine Go.run_append_nothing (P := Try.prog) w _ _ ty 21 i0 Try.underlying28 hi vo t.length vc hvc _ ?_
    cases ao with
    | none => exact Go.Src.ofNil w Try.underlying28 cx
    | some ad => exact Go.Src.ofSlice w Try.underlying28 ad 0 cx [] (by simp) (fun j u h => by simp at h) (fun u h => by simp at h)
  · obtain ⟨ao, cx, rfl, _, hcx⟩ := hx
    obtain ⟨bx, offx, rfl, hcellx⟩ := hcx h0
    have hp := List.length_pos_iff.2 h0
    have hnews : ∀ j u, (ints zs)[j]? = some u → w.cell? ((⟨bx, offx, none⟩ : Addr).add j) = some u := fun j u hj => by
      obtain ⟨z, hz, rfl⟩ := ints_get hj
      rw [L.addr_add]; exact hcellx j z hz
    have blk : ∀ (v' : Value) (w' : World), w'.ownsRow w.heap.size 21 1 v' (t.length + zs.length) (ints t ++ ints zs) → ∃ k, v'.ownBlock = some k ∧ w.heap.size ≤ k := fun v' w' h => by
      rcases h.2 with ⟨_, h1⟩ | ⟨g, cap, cur, h, hg, _⟩
      · omega
      · exact ⟨g, by rw [h]; rfl, hg⟩
    rw [he, hle]
    rcases own.2 with ⟨hv, h1⟩ | ⟨g, cap, cur, hv, hBg, hg, hnc, hcm, hcs, htk⟩
    · have ht : t = [] := List.eq_nil_of_length_eq_zero h1
      subst ht hv
      obtain ⟨v', w', hrun, r1, r2, _⟩ := run_append_own (P := Try.prog) w w.heap.size 28 0 21 i0 (.int .i32 0) 1 4 Try.underlying28 hi hz0 hz1 hz2 rfl (by decide) (.slice none 0 0) 0 [] (World.ownsRow_nil w _ _ _) ⟨bx, offx, none⟩ zs.length cx (ints zs) (by rw [ints_length]; omega) hnews (ints_one zs) (by unfold maxLen; simp at hl; omega) (by simp at hl; omega) (Nat.le_refl _)
      exact ⟨v', w', fun ty => hrun, L.owns_base r1 hB, r2, .inr (blk v' w' r1)⟩
    · subst hv
      by_cases hf : t.length + zs.length ≤ cap
      · obtain ⟨w', hrun, r1, r2⟩ := run_append_fits (P := Try.prog) w B 28 0 21 i0 1 Try.underlying28 hi hz1 g t.length cap (ints t) own ⟨bx, offx, none⟩ zs.length cx (ints zs) (by rw [ints_length]; omega) hnews (ints_one zs) hf
        exact ⟨_, w', fun ty => hrun, r1, r2, .inl rfl⟩
      · obtain ⟨v', w', hrun, r1, r2⟩ := run_append_arg_grows (P := Try.prog) w 28 0 21 i0 (.int .i32 0) 1 4 Try.underlying28 hi hz0 hz1 hz2 rfl (by decide) ⟨g, 0, none⟩ t.length cap (ints t) (by rw [ints_length]; omega) (fun j u hj => World.ownsRow.cells own (g := g) rfl j u hj) ⟨bx, offx, none⟩ zs.length cx (ints zs) (by rw [ints_length]; omega) hnews (by omega) (by unfold maxLen; omega) (by omega)
        exact ⟨v', w', fun ty => hrun, L.owns_base r1 hB, ⟨r2.os, r2.tape, r2.output, r2.size, fun k hk _ => r2.block k hk (by simp)⟩, .inr (blk v' w' r1)⟩

/-- a slice reads the same where its block is kept -/
theorem rd_block {w w' : World} {v : Value} {zs : List Int} (h : L.Rd w v .i32 zs) (hb : zs ≠ [] → ∀ k, v.ownBlock = some k → w'.heap[k]? = w.heap[k]?) : L.Rd w' v .i32 zs := by
  obtain ⟨ao, cap, rfl, hn, hc⟩ := h
  refine ⟨ao, cap, rfl, hn, fun hz => ?_⟩
  obtain ⟨b, off, rfl, hcell⟩ := hc hz
  refine ⟨b, off, rfl, fun j z hj => ?_⟩
  rw [World.cell?_of_block (a := ⟨b, off + j, none⟩) (hb hz b rfl)]
  exact hcell j z hj
theorem own_block {w w' : World} {B : Nat} {v : Value} {n : Nat} {xs : List Value} (h : w.ownsRow B 21 1 v n xs) (hb : ∀ k, v.ownBlock = some k → w'.heap[k]? = w.heap[k]?) : w'.ownsRow B 21 1 v n xs := by
  refine ⟨h.1, ?_⟩
  rcases h.2 with h | ⟨g, cap, cur, hv, hB, hg, r⟩
  · exact .inl h
  · exact .inr ⟨g, cap, cur, hv, hB, by rw [hb g (by rw [hv]; rfl)]; exact hg, r⟩

/-- the run's state in the document's text: what is done, the rest, what was counted -/
structure Dr (wB wr : World) (b : Nat) (s p : Int) (vd vr : Value) (done rest : List Int) : Prop where
  hb : b < wB.heap.size
  own : wr.ownsRow wB.heap.size 21 1 vd done.length (ints done)
  rd : L.Rd wr vr .i32 rest
  apart : rest ≠ [] → ∀ k, vd.ownBlock = some k → vr.ownBlock ≠ some k
  out : wr.heap[b]? = some (.cells #[.slice none 0 0, .int .i64 s, .int .i64 p] 32)
  grown : wB.grownBy wr (some b)

/-- the rest doesn't lie in the counters' box -/
theorem Dr.rest_ne {wB wr : World} {b : Nat} {s p : Int} {vd vr : Value} {done rest : List Int} (h : Dr wB wr b s p vd vr done rest) (hz : rest ≠ []) : ∀ k, vr.ownBlock = some k → k ≠ b := by
  obtain ⟨ao, cap, rfl, hn, hc⟩ := h.rd
  obtain ⟨b', off, rfl, hcell⟩ := hc hz
  intro k hk e
  have : b' = k := by simpa [Value.ownBlock] using hk
  subst this e
  obtain ⟨z, hz2⟩ : ∃ z, rest[0]? = some z := ⟨rest[0]'(List.length_pos_iff.2 hz), by simp⟩
  have hc0 := hcell 0 z hz2
  rw [World.cell?] at hc0
  simp only [show wr.heap[b']? = _ from h.out] at hc0
  simp at hc0
  have hlt := (List.getElem?_eq_some_iff.1 hc0).1
  match off, hc0 with
  | 0, hc0 => simp at hc0
  | 1, hc0 => simp at hc0
  | 2, hc0 => simp at hc0
  | n + 3, _ => simp at hlt; omega
theorem Dr.set1 {wB wr : World} {b : Nat} {s p : Int} {vd vr : Value} {done rest : List Int} (h : Dr wB wr b s p vd vr done rest) (n : Int) : Dr wB (wr.setCell ⟨b, 1, none⟩ (.int .i64 n)) b n p vd vr done rest := by
  have oth : ∀ k, k ≠ b → (wr.setCell ⟨b, 1, none⟩ (.int .i64 n)).heap[k]? = wr.heap[k]? := fun k hk => heap_setCell_other wr ⟨b, 1, none⟩ k _ (by simpa using hk)
  refine ⟨h.hb, own_block h.own fun k hk => oth k (by have := (h.own.lt k hk).1; have := h.hb; omega), rd_block h.rd fun hz k hk => oth k (h.rest_ne hz k hk), h.apart, heap_setCell_same wr b 1 _ _ _ h.out, S.grown_trans h.grown ⟨rfl, rfl, rfl, by simp, fun k _ hk => oth k fun e => hk (by rw [e])⟩⟩
theorem Dr.set2 {wB wr : World} {b : Nat} {s p : Int} {vd vr : Value} {done rest : List Int} (h : Dr wB wr b s p vd vr done rest) (n : Int) : Dr wB (wr.setCell ⟨b, 2, none⟩ (.int .i64 n)) b s n vd vr done rest := by
  have oth : ∀ k, k ≠ b → (wr.setCell ⟨b, 2, none⟩ (.int .i64 n)).heap[k]? = wr.heap[k]? := fun k hk => heap_setCell_other wr ⟨b, 2, none⟩ k _ (by simpa using hk)
  refine ⟨h.hb, own_block h.own fun k hk => oth k (by have := (h.own.lt k hk).1; have := h.hb; omega), rd_block h.rd fun hz k hk => oth k (h.rest_ne hz k hk), h.apart, heap_setCell_same wr b 2 _ _ _ h.out, S.grown_trans h.grown ⟨rfl, rfl, rfl, by simp, fun k _ hk => oth k fun e => hk (by rw [e])⟩⟩
theorem Dr.below {wB wr w' : World} {b : Nat} {s p : Int} {vd vr : Value} {done rest : List Int} (h : Dr wB wr b s p vd vr done rest) (hb : Below wr.heap.size wr w') : Dr wB w' b s p vd vr done rest :=
  ⟨h.hb, L.owns_below h.own hb (Nat.le_refl _), h.rd.below hb (Nat.le_refl _), h.apart, blk_below h.out hb, S.grown_trans h.grown (S.grown_below hb)⟩
/-- another rest, in a new block or in the same one -/
theorem Dr.other {wB wr : World} {b : Nat} {s p : Int} {vd vr vr' : Value} {done rest rest' : List Int} (h : Dr wB wr b s p vd vr done rest) (hr : L.Rd wr vr' .i32 rest') (ha : rest' ≠ [] → ∀ k, vd.ownBlock = some k → vr'.ownBlock ≠ some k) : Dr wB wr b s p vd vr' done rest' := ⟨h.hb, h.own, hr, ha, h.out, h.grown⟩
/-- something is put behind what is done -/
theorem Dr.push {wB wr w' : World} {b : Nat} {s p : Int} {vd vr vd' : Value} {done rest done' : List Int} (h : Dr wB wr b s p vd vr done rest) (ho : w'.ownsRow wB.heap.size 21 1 vd' done'.length (ints done')) (hg : wr.grownBy w' vd.ownBlock) (hv : vd'.ownBlock = vd.ownBlock ∨ ∃ k, vd'.ownBlock = some k ∧ wr.heap.size ≤ k) : Dr wB w' b s p vd' vr done' rest := by
  have hin : ∀ k, rest ≠ [] → vr.ownBlock = some k → k < wr.heap.size := fun k hz hk => by
    obtain ⟨ao, cap, e, _, hc⟩ := h.rd
    obtain ⟨b', off, e2, hcell⟩ := hc hz
    subst e2
    rw [e] at hk
    have : b' = k := by simpa [Value.ownBlock] using hk
    subst this
    obtain ⟨z, hz2⟩ : ∃ z, rest[0]? = some z := ⟨rest[0]'(List.length_pos_iff.2 hz), by simp⟩
    exact L.block_lt (hcell 0 z hz2)
  have hbl : b < wr.heap.size := Nat.lt_of_lt_of_le h.hb h.grown.size
  refine ⟨h.hb, ho, rd_block h.rd fun hz k hk => hg.block k (hin k hz hk) fun e => h.apart hz k e.symm hk, fun hz k hk e => ?_, ?_, h.grown.os ▸ hg.os ▸ rfl, h.grown.tape ▸ hg.tape ▸ rfl, h.grown.output ▸ hg.output ▸ rfl, Nat.le_trans h.grown.size hg.size, fun k hk hne => ?_⟩
  · rcases hv with hv | ⟨k', hv, hk'⟩
    · exact h.apart hz k (hv ▸ hk) e
    · rw [hv] at hk
      cases hk
      have := hin _ hz e
      omega
  · rw [hg.block b hbl fun e => by have := (h.own.lt b e.symm).1; have := h.hb; omega]
    exact h.out
  · rw [hg.block k (Nat.lt_of_lt_of_le hk h.grown.size) fun e => by have := (h.own.lt k e.symm).1; omega]
    exact h.grown.block k hk hne

end Go.Proofs.Ytkkocnkfdepoiaa.K

/-
  Boxes, behind an alloc.
-/
namespace Go.Proofs.Ytkkocnkfdepoiaa
open Go.RowKit

theorem K.alloc_free {w : World} {g : Nat} {c : Array Value} {t : TypeId} (h : w.heap[g]? = some (.cells c t)) (o : Obj) (i : Nat) : (w.alloc o).frozen? ⟨g, i, none⟩ = false := by
  have e : (w.alloc o).heap[g]? = w.heap[g]? := Below.heap_alloc w o g (Array.getElem?_eq_some_iff.1 h).1
  rw [World.frozen?, show (w.alloc o).heap[(⟨g, i, none⟩ : Addr).block]? = w.heap[g]? from e, h]
  simp

theorem K.alloc_cell {w : World} {a : Addr} {v : Value} (h : w.cell? a = some v) (o : Obj) : (w.alloc o).cell? a = some v := by
  have e : (w.alloc o).heap[a.block]? = w.heap[a.block]? := Below.heap_alloc w o a.block (World.block_lt_of_cell? w a h)
  rw [World.cell?_of_block e]; exact h


end Go.Proofs.Ytkkocnkfdepoiaa
