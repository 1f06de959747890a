/-
  append of runes to a slice of the call's own: where it lies behind it.
-/
import Derived.Test.YtlmmjefplbcapaaGreatRows
import Derived.Test.YtlmmjefplbcapaaGreatKRight
import Derived.ArgAppend
import Derived.Deep.Upon
import Derived.Laws.OwnMore
import Derived.Test.YtlmmjefplbcapaaGreatSHas7
import Derived.Lib.AppendZeros
import Derived.Shelf.SlGeneric
namespace Go.Proofs.YtlmmjefplbcapaaGreat
open Go.RowKit
theorem Tryz.infoRune : (Tryz.prog.info? 21).map (fun i => (i.zero, i.size, i.bytes)) = some (some (.int .i32 0), 1, 4) := by kernel_rfl
end Go.Proofs.YtlmmjefplbcapaaGreat
namespace Go.Proofs.YtlmmjefplbcapaaGreat.K
open Go.RowKit

def ints (t : List Int) : List Value := t.map (Value.int .i32)
theorem ints_length (t : List Int) : (ints t).length = t.length := by simp [ints]
theorem ints_one (t : List Int) : ∀ v ∈ ints t, v.oneCell' = true := fun v hv => by obtain ⟨z, _, rfl⟩ := List.mem_map.1 hv; rfl
theorem ints_get {t : List Int} {j : Nat} {v : Value} (h : (ints t)[j]? = some v) : ∃ z, t[j]? = some z ∧ v = .int .i32 z := by
  unfold ints at h
  rw [List.getElem?_map] at h
  cases hz : t[j]? with
  | none => rw [hz] at h; cases h
  | some z => rw [hz] at h; cases h; exact ⟨z, rfl, rfl⟩
theorem app_rd (w : World) (B : Nat) (v : Value) (t : List Int) (own : w.ownsRow B 21 1 v t.length (ints t)) (vx : Value) (zs : List Int) (hx : L.Rd w vx .i32 zs) (hl : t.length + zs.length ≤ 100000000) (hB : B ≤ w.heap.size) :
    ∃ v' w', (∀ ty, (Builtin.append_ #[23, 23] ty #[v, vx]).run Tryz.prog w = .ok v' w') ∧ w'.ownsRow B 21 1 v' (t ++ zs).length (ints (t ++ zs)) ∧ w.grownBy w' v.ownBlock ∧ (v'.ownBlock = v.ownBlock ∨ ∃ k, v'.ownBlock = some k ∧ w.heap.size ≤ k) := by
  obtain ⟨i0, hi, hz0, hz1, hz2⟩ := info_parts Tryz.infoRune
  have he : ints (t ++ zs) = ints t ++ ints zs := by unfold ints; rw [List.map_append]
  have hle : (t ++ zs).length = t.length + zs.length := List.length_append
  by_cases h0 : zs = []
  · subst h0
    obtain ⟨ao, cx, rfl, hn, hc⟩ := hx
    obtain ⟨vo, vc, rfl, hvc⟩ : ∃ vo vc, v = .slice vo t.length vc ∧ t.length ≤ vc := by
      rcases own.2 with ⟨h, h1⟩ | ⟨g, cap, cur, h, _, _, h1, _⟩
      · exact ⟨none, 0, by rw [h, h1], by omega⟩
      · exact ⟨_, cap, h, h1⟩
    refine ⟨_, w, fun ty => ?_, by simpa using own, ⟨rfl, rfl, rfl, Nat.le_refl _, fun _ _ _ => rfl⟩, .inl rfl⟩
    refine Go.run_append_nothing (P := Tryz.prog) w _ _ ty 21 i0 Tryz.underlying23 hi vo t.length vc hvc _ ?_
    cases ao with
    | none => exact Go.Src.ofNil w Tryz.underlying23 cx
    | some ad => exact Go.Src.ofSlice w Tryz.underlying23 ad 0 cx [] (by simp) (fun j u h => by simp at h) (fun u h => by simp at h)
  · obtain ⟨ao, cx, rfl, _, hcx⟩ := hx
    obtain ⟨bx, offx, rfl, hcellx⟩ := hcx h0
    have hp := List.length_pos_iff.2 h0
    have hnews : ∀ j u, (ints zs)[j]? = some u → w.cell? ((⟨bx, offx, none⟩ : Addr).add j) = some u := fun j u hj => by
      obtain ⟨z, hz, rfl⟩ := ints_get hj
      rw [L.addr_add]; exact hcellx j z hz
    have blk : ∀ (v' : Value) (w' : World), w'.ownsRow w.heap.size 21 1 v' (t.length + zs.length) (ints t ++ ints zs) → ∃ k, v'.ownBlock = some k ∧ w.heap.size ≤ k := fun v' w' h => by
      rcases h.2 with ⟨_, h1⟩ | ⟨g, cap, cur, h, hg, _⟩
      · omega
      · exact ⟨g, by rw [h]; rfl, hg⟩
    rw [he, hle]
    rcases own.2 with ⟨hv, h1⟩ | ⟨g, cap, cur, hv, hBg, hg, hnc, hcm, hcs, htk⟩
    · have ht : t = [] := List.eq_nil_of_length_eq_zero h1
      subst ht hv
      obtain ⟨v', w', hrun, r1, r2, _⟩ := run_append_own (P := Tryz.prog) w w.heap.size 23 0 21 i0 (.int .i32 0) 1 4 Tryz.underlying23 hi hz0 hz1 hz2 rfl (by decide) (.slice none 0 0) 0 [] (World.ownsRow_nil w _ _ _) ⟨bx, offx, none⟩ zs.length cx (ints zs) (by rw [ints_length]; omega) hnews (ints_one zs) (by unfold maxLen; simp at hl; omega) (by simp at hl; omega) (Nat.le_refl _)
      exact ⟨v', w', fun ty => hrun, L.owns_base r1 hB, r2, .inr (blk v' w' r1)⟩
    · subst hv
      by_cases hf : t.length + zs.length ≤ cap
      · obtain ⟨w', hrun, r1, r2⟩ := run_append_fits (P := Tryz.prog) w B 23 0 21 i0 1 Tryz.underlying23 hi hz1 g t.length cap (ints t) own ⟨bx, offx, none⟩ zs.length cx (ints zs) (by rw [ints_length]; omega) hnews (ints_one zs) hf
        exact ⟨_, w', fun ty => hrun, r1, r2, .inl rfl⟩
      · obtain ⟨v', w', hrun, r1, r2⟩ := run_append_arg_grows (P := Tryz.prog) w 23 0 21 i0 (.int .i32 0) 1 4 Tryz.underlying23 hi hz0 hz1 hz2 rfl (by decide) ⟨g, 0, none⟩ t.length cap (ints t) (by rw [ints_length]; omega) (fun j u hj => World.ownsRow.cells own (g := g) rfl j u hj) ⟨bx, offx, none⟩ zs.length cx (ints zs) (by rw [ints_length]; omega) hnews (by omega) (by unfold maxLen; omega) (by omega)
        exact ⟨v', w', fun ty => hrun, L.owns_base r1 hB, ⟨r2.os, r2.tape, r2.output, r2.size, fun k hk _ => r2.block k hk (by simp)⟩, .inr (blk v' w' r1)⟩

/-- a slice reads the same where its block is kept -/
theorem own_slice {w : World} {B : Nat} {v : Value} {t : List Int} (h : w.ownsRow B 21 1 v t.length (ints t)) : ∃ ao cap, v = .slice ao t.length cap ∧ t.length ≤ cap ∧ cap ≤ maxLen := by
  rcases h.2 with ⟨h, h1⟩ | ⟨g, cap, cur, h, _, _, h1, h2, _⟩
  · exact ⟨none, 0, by rw [h, h1], by omega, by unfold maxLen; omega⟩
  · exact ⟨_, cap, h, h1, h2⟩
theorem rd_owns {w : World} {B : Nat} {v : Value} {t : List Int} (h : w.ownsRow B 21 1 v t.length (ints t)) : L.Rd w v .i32 t := L.Rd.of_owns h
end Go.Proofs.YtlmmjefplbcapaaGreat.K

/-
  One rune more: append(out, z).
-/
namespace Go.Proofs.YtlmmjefplbcapaaGreat
open Go.RowKit
set_option maxRecDepth 20000
set_option linter.unusedSimpArgs false
set_option linter.unusedVariables false

/-- append(out, z) -/
theorem Cn.app1 {w : World} {B : Nat} {vo : Value} {o : List Int} (own : w.ownsRow B 21 1 vo o.length (K.ints o)) (hB : B ≤ w.heap.size) (hl : o.length ≤ 50000000) (z : Int) :
    ∃ ao' vc' w', (∀ ty, (Builtin.append_ #[23, 23] ty #[vo, .slice (some ⟨w.heap.size, 0, none⟩) 1 1]).run Tryz.prog (w.alloc (.cells #[.int .i32 z] 21)) = .ok (.slice ao' (o.length + 1) vc') w') ∧ w'.ownsRow B 21 1 (.slice ao' (o.length + 1) vc') (o ++ [z]).length (K.ints (o ++ [z])) ∧ (∀ b, b < w.heap.size → vo.ownBlock ≠ some b → w'.heap[b]? = w.heap[b]?) ∧ w.heap.size ≤ w'.heap.size ∧ Below B w w' := by
  have hal : Below w.heap.size w (w.alloc (.cells #[.int .i32 z] 21)) := (Below.refl _ w).alloc (Nat.le_refl _) _
  have hnew := heap_alloc_new w (.cells #[.int .i32 z] 21)
  have hrx : L.Rd (w.alloc (.cells #[.int .i32 z] 21)) (.slice (some ⟨w.heap.size, 0, none⟩) 1 1) .i32 [z] := ⟨_, _, rfl, fun e => by (cases e), fun _ => ⟨_, 0, rfl, fun j y hj => by
    match j, hj with
    | 0, hj => cases hj; exact K.at_box hnew rfl
    | n + 1, hj => simp at hj⟩⟩
  obtain ⟨v', w', run, own', gr, _⟩ := K.app_rd _ B vo o (own.alloc _) _ [z] hrx (by simp; omega) (by simp; omega)
  have hlen : (o ++ [z]).length = o.length + 1 := by simp
  obtain ⟨ao', vc', rfl⟩ : ∃ ao cap, v' = .slice ao (o.length + 1) cap := by
    rw [← hlen]
    rcases own'.2 with ⟨hv, h0⟩ | ⟨g, cap, cur, hv, _⟩
    · exact ⟨none, 0, by rw [hv, h0]⟩
    · exact ⟨_, cap, hv⟩
  refine ⟨ao', vc', w', run, own', fun b hb hne => ?_, ?_, (hal.mono hB).grown gr (by simp; omega) fun k hk => (own.lt k hk).1⟩
  · rw [gr.block b (by simp; omega) (fun e => hne e.symm)]
    exact hal.block b hb
  · have := gr.size
    simp at this
    omega

end Go.Proofs.YtlmmjefplbcapaaGreat

/-
  Rows of structs that are being made: one more.
-/
namespace Go.Proofs.YtlmmjefplbcapaaGreat
open Go.RowKit Go.Shelf
set_option maxRecDepth 20000
set_option linter.unusedSimpArgs false
set_option linter.unusedVariables false

namespace Al
/-- one struct more: append(out, x) -/
theorem app {sl e : TypeId} {z : Value} {k y : Nat} (hs : Tryz.prog.underlying sl = some (.slice e)) (hinfo : (Tryz.prog.info? e).map (fun i => (i.zero, i.size, i.bytes)) = some (some z, k, y)) (hzk : z.cells.size = k) (hk : 0 < k) (hy : y ≤ 100)
    {w : World} {B n : Nat} {vo : Value} {xs : List Value} (own : w.ownsRow B e k vo n xs) (hB : B ≤ w.heap.size) (hl : n ≤ 1000000) (news : List Value) (hn : news.length = k) (h1 : ∀ u ∈ news, u.oneCell' = true) :
    ∃ ao' vc' w', (∀ ty, (Builtin.append_ #[sl, sl] ty #[vo, .slice (some ⟨w.heap.size, 0, none⟩) 1 1]).run Tryz.prog (w.alloc (.cells news.toArray e)) = .ok (.slice ao' (n + 1) vc') w') ∧ w'.ownsRow B e k (.slice ao' (n + 1) vc') (n + 1) (xs ++ news) ∧ (∀ b, b < w.heap.size → vo.ownBlock ≠ some b → w'.heap[b]? = w.heap[b]?) ∧ w.heap.size ≤ w'.heap.size ∧ Below B w w' := by
  have hal : Below w.heap.size w (w.alloc (.cells news.toArray e)) := (Below.refl _ w).alloc (Nat.le_refl _) _
  have hnew := heap_alloc_new w (.cells news.toArray e)
  obtain ⟨i0, hi, hz0, hz1, hz2⟩ := info_parts hinfo
  have hcells : ∀ j u, news[j]? = some u → (w.alloc (.cells news.toArray e)).cell? ((⟨w.heap.size, 0, none⟩ : Addr).add j) = some u := fun j u hj => by
    rw [L.addr_add, Nat.zero_add]
    exact K.at_box hnew (by simpa using hj)
  have hyb : (n + 1) * y ≤ 140737488355328 := Nat.le_trans (Nat.mul_le_mul (Nat.succ_le_succ hl) hy) (by decide)
  obtain ⟨v', w', run, own', gr, _⟩ := run_append_own (P := Tryz.prog) (w.alloc (.cells news.toArray e)) B sl sl e i0 _ k y hs hi hz0 hz1 hz2 hzk hk vo n xs (own.alloc _) ⟨w.heap.size, 0, none⟩ 1 1 news (by rw [hn]; omega) hcells h1 (by unfold maxLen; omega) hyb (by simp; omega)
  obtain ⟨ao', vc', rfl⟩ : ∃ ao cap, v' = .slice ao (n + 1) cap := by
    rcases own'.2 with ⟨hv, h0⟩ | ⟨g, cap, cur, hv, _⟩
    · omega
    · exact ⟨_, cap, hv⟩
  refine ⟨ao', vc', w', fun ty => run, own', fun b hb hne => ?_, ?_, (hal.mono hB).grown gr (by simp; omega) fun k hk => (own.lt k hk).1⟩
  · rw [gr.block b (by simp; omega) (fun e => hne e.symm)]
    exact hal.block b hb
  · have := gr.size
    simp at this
    omega

/-- a row stays where its block does -/
theorem held {F : Nat} {e : TypeId} {k : Nat} {w w' : World} {v : Value} {n : Nat} {xs : List Value} (h : w.ownsRow F e k v n xs) (hb : ∀ q, v.ownBlock = some q → q < w.heap.size → w'.heap[q]? = w.heap[q]?) : w'.ownsRow F e k v n xs := by
  obtain ⟨h1, h2⟩ := h
  refine ⟨h1, ?_⟩
  rcases h2 with h2 | ⟨g, cap, cur, hv, hg, hx, r⟩
  · exact .inl h2
  · exact .inr ⟨g, cap, cur, hv, hg, by rw [hb g (by rw [hv]; rfl) (lt_of_block hx)]; exact hx, r⟩
/-- what lies in its block -/
theorem block {F : Nat} {e : TypeId} {k : Nat} {w : World} {v : Value} {n : Nat} {xs : List Value} (h : w.ownsRow F e k v n xs) {q : Nat} (hq : v.ownBlock = some q) : F ≤ q ∧ ∃ cs p, w.heap[q]? = some (.cells cs e p) := by
  obtain ⟨h1, h2⟩ := h
  rcases h2 with ⟨h2, _⟩ | ⟨g, cap, cur, hv, hg, hx, r⟩
  · rw [h2] at hq; cases hq
  · rw [hv] at hq
    have hq' : some g = some q := hq
    cases hq'
    exact ⟨hg, _, _, hx⟩
/-- where a row lies, if something is in it -/
theorem lies {F : Nat} {e : TypeId} {k : Nat} {w : World} {v : Value} {n : Nat} {xs : List Value} (h : w.ownsRow F e k v n xs) : ∃ ao cap, v = .slice ao n cap ∧ (0 < n → ∃ g, ao = some ⟨g, 0, none⟩ ∧ g < w.heap.size ∧ ∀ j u, xs[j]? = some u → w.cell? ⟨g, j, none⟩ = some u) := by
  have h0 := h
  obtain ⟨h1, h2⟩ := h
  rcases h2 with ⟨rfl, h2⟩ | ⟨g, cap, cur, rfl, hg, hx, r⟩
  · exact ⟨none, 0, by rw [h2], fun h => by omega⟩
  · refine ⟨_, cap, rfl, fun _ => ⟨g, rfl, lt_of_block hx, fun j u hu => ?_⟩⟩
    have := h0.cells (g := g) rfl j u hu
    rw [L.addr_add, Nat.zero_add] at this
    exact this
end Al
end Go.Proofs.YtlmmjefplbcapaaGreat
