/-
  What a step of the State does.
-/
import Derived.Test.YtdmpmkcigjkilabQPut
import Derived.Test.YtdmpmkcigjkilabQFirst
namespace Go.Proofs.Ytdmpmkcigjkilab
open Go.RowKit Go.Lib
set_option maxRecDepth 20000
set_option linter.unusedSimpArgs false
set_option linter.unusedVariables false

namespace K
theorem OwnT.rd {w : World} {g cap : Nat} {T : List Int} (h : OwnT w g cap T) : L.Rd w (.slice (some ⟨g, 0, none⟩) T.length cap) .i32 T := by
  obtain ⟨cur, row, hl, hf, _, hc⟩ := h
  refine ⟨_, cap, rfl, fun e => (by cases e), fun _ => ⟨g, 0, rfl, fun j z hj => ?_⟩⟩
  have hlt := (List.getElem?_eq_some_iff.1 hj).1
  have e : cur[j]? = (cur.take T.length)[j]? := by rw [List.getElem?_take, if_pos hlt]
  rw [Nat.zero_add, row.cell, e, hc]
  unfold ints
  rw [List.getElem?_map, hj]; rfl
theorem OwnT.below {w w' : World} {g cap : Nat} {T : List Int} (h : OwnT w g cap T) (hb : Below w.heap.size w w') : OwnT w' g cap T := by
  obtain ⟨cur, row, h⟩ := h
  exact ⟨cur, row.block (hb.block g row.lt), h⟩
theorem St.below {B bs g cap : Nat} {w w' : World} {T : List Int} {k : Int} (h : St B bs w g cap T k) (hb : Below w.heap.size w w') : St B bs w' g cap T k :=
  ⟨h.1, blk_below h.2.1 hb, h.2.2.1, h.2.2.2.below hb⟩
theorem keeps_blocks {w w' : World} (h : ∀ b, b < w.heap.size → w'.heap[b]? = w.heap[b]?) : R.Keeps w w' := fun b o v hv => by
  have e := h b (L.block_lt hv)
  rw [World.cell?_of_block (a := ⟨b, o, none⟩) e]; exact hv
end K

set_option maxHeartbeats 4000000 in
theorem step_none (w0 : World) (vl : Value) (l : List K.Rule) (R0 : V.Rus w0 vl l) (hl : l.length ≤ 200) (hE : ∀ r ∈ l, K.ruleE r = 0) (w : World) (hX : Below w0.heap.size w0 w) (bs g cap : Nat) (T : List Int) (k : Nat) (hS : K.St w0.heap.size bs w g cap T k) (h4 : T.length ≤ 4000) (hk : k < T.length) (hw : K.which l T k = -1) :
    Calls Try.prog 27 #[.pointer (some ⟨bs, 0, none⟩), vl] w fun e w' => e = .returned (.tuple #[.int .i64 (-1), .int .i64 0]) ∧ K.St w0.heap.size bs w' g cap T (k + 1) ∧ Below w0.heap.size w w' := by
  have HS : Hid (K.St w0.heap.size bs w g cap T k) := hS
  have HX : Hid (Below w0.heap.size w0 w) := hX
  have HF : Hid (Calls Try.prog 28 #[vl, .iface 66 (.slice (some ⟨g, 0, none⟩) T.length cap), .int .i64 k] w.drew fun e w' => e = .returned (.int .i64 (K.which l T k)) ∧ Below w.drew.heap.size w.drew w') := qFirst_any w.drew vl l (R0.below hX.drew) hl hE _ T hS.2.2.2.rd h4 k (by omega) (by omega)
  have HK : Hid (∀ w1, Below w.drew.heap.size w.drew w1 → w1.cell? ⟨bs, 0, none⟩ = some (.slice (some ⟨g, 0, none⟩) T.length cap) ∧ w1.cell? ⟨bs, 1, none⟩ = some (.int .i64 k)) := fun w1 hb => by
    have h := K.blk_below (w := w.drew) hS.2.1 hb
    exact ⟨K.at_box h rfl, K.at_box h rfl⟩
  have x0 := K.at_box (i := 0) hS.2.1 rfl
  have x1 := K.at_box (i := 1) hS.2.1 rfl
  have HR0 : Hid (V.Rus w0 vl l) := R0
  have HE : Hid (∀ r ∈ l, K.ruleE r = 0) := hE
  obtain ⟨lao, lcap, rfl⟩ := R0.len
  rw [hw] at HF
  clear R0 hE hX hS
  go_enter Try.func27, Try.ntmps27
  go_wp2
  go_region_held3 (fun w' => w'.cell? ⟨bs, 0, none⟩ = some (.slice (some ⟨g, 0, none⟩) T.length cap) ∧ w'.cell? ⟨bs, 1, none⟩ = some (.int .i64 k)) (first | exact HK.out _ b1 | go_keep) (first | (go_at_call 28; refine HF.out.mono ?_; rintro e w1 ⟨rfl, b1⟩) | fail)
  have HB1 : Hid (Below w0.heap.size w0 w1) := (HX.out.drew).trans (b1.mono (by show w0.heap.size ≤ w.heap.size; exact HX.out.size))
  have HW1 : Hid (Below w0.heap.size w w1) := ((Below.refl _ w).drew).trans (b1.mono (by show w0.heap.size ≤ w.heap.size; exact HX.out.size))
  have HS1 : Hid (K.St w0.heap.size bs w1 g cap T k) := K.St.below (w := w.drew) HS.out b1
  have HWW : Hid (Below w.heap.size w w1) := ((Below.refl _ w).drew).trans b1
  clear b1 HK HF x0 x1
  have x1 := K.at_box (i := 1) HS1.out.2.1 rfl
  have f1 : w1.frozen? ⟨bs, 1, none⟩ = false := frozen_of_row w1 bs 1 _ _ HS1.out.2.1
  go_wp2
  go_ret2
  obtain ⟨cur, row, hcu⟩ := HS1.out.2.2.2
  have hgs : g ≠ bs := fun e => by
    have h1 := row
    rw [e] at h1
    have := h1.symm.trans HS1.out.2.1
    simp at this
  have hwr : IntKind.i64.wrap ((k : Int) + 1) = (k : Int) + 1 := by rw [IntKind.wrap_i64]; omega
  refine ⟨by simp, ⟨HS1.out.1, ?_, HS1.out.2.2.1, cur, row.block (heap_setCell_other w1 ⟨bs, 1, none⟩ g _ (by simpa using hgs)), hcu⟩, HW1.out.setCell (p := ⟨bs, 1, none⟩) HS1.out.1 _⟩
  exact heap_setCell_same w1 bs 1 _ _ _ HS1.out.2.1

set_option maxHeartbeats 4000000 in
theorem step_much (w0 : World) (vl : Value) (l : List K.Rule) (R0 : V.Rus w0 vl l) (hl : l.length ≤ 200) (hE : ∀ r ∈ l, K.ruleE r = 0) (w : World) (hX : Below w0.heap.size w0 w) (bs g cap : Nat) (T : List Int) (k : Nat) (hS : K.St w0.heap.size bs w g cap T k) (h4 : T.length ≤ 4000) (hk : k < T.length) (j : Nat) (r : K.Rule) (hw : K.which l T k = (j : Int)) (hr : l[j]? = some r) (hm : K.matchB r T k = true) (hlen : 4000 < T.length - r.source.length + r.target.length) :
    Calls Try.prog 27 #[.pointer (some ⟨bs, 0, none⟩), vl] w fun e w' => e = .returned (.tuple #[.int .i64 0, .int .i64 4]) ∧ Below w.heap.size w w' := by
  have HS : Hid (K.St w0.heap.size bs w g cap T k) := hS
  have HX : Hid (Below w0.heap.size w0 w) := hX
  have HF : Hid (Calls Try.prog 28 #[vl, .iface 66 (.slice (some ⟨g, 0, none⟩) T.length cap), .int .i64 k] w.drew fun e w' => e = .returned (.int .i64 (K.which l T k)) ∧ Below w.drew.heap.size w.drew w') := qFirst_any w.drew vl l (R0.below hX.drew) hl hE _ T hS.2.2.2.rd h4 k (by omega) (by omega)
  have HK : Hid (∀ w1, Below w.drew.heap.size w.drew w1 → w1.cell? ⟨bs, 0, none⟩ = some (.slice (some ⟨g, 0, none⟩) T.length cap) ∧ w1.cell? ⟨bs, 1, none⟩ = some (.int .i64 k)) := fun w1 hb => by
    have h := K.blk_below (w := w.drew) hS.2.1 hb
    exact ⟨K.at_box h rfl, K.at_box h rfl⟩
  have x0 := K.at_box (i := 0) hS.2.1 rfl
  have x1 := K.at_box (i := 1) hS.2.1 rfl
  have HR0 : Hid (V.Rus w0 vl l) := R0
  have HE : Hid (∀ r ∈ l, K.ruleE r = 0) := hE
  obtain ⟨lao, lcap, rfl⟩ := R0.len
  rw [hw] at HF
  clear R0 hE hX hS
  go_enter Try.func27, Try.ntmps27
  go_wp2
  go_region_held3 (fun w' => w'.cell? ⟨bs, 0, none⟩ = some (.slice (some ⟨g, 0, none⟩) T.length cap) ∧ w'.cell? ⟨bs, 1, none⟩ = some (.int .i64 k)) (first | exact HK.out _ b1 | go_keep) (first | (go_at_call 28; refine HF.out.mono ?_; rintro e w1 ⟨rfl, b1⟩) | fail)
  have HB1 : Hid (Below w0.heap.size w0 w1) := (HX.out.drew).trans (b1.mono (by show w0.heap.size ≤ w.heap.size; exact HX.out.size))
  have HW1 : Hid (Below w0.heap.size w w1) := ((Below.refl _ w).drew).trans (b1.mono (by show w0.heap.size ≤ w.heap.size; exact HX.out.size))
  have HS1 : Hid (K.St w0.heap.size bs w1 g cap T k) := K.St.below (w := w.drew) HS.out b1
  have HWW : Hid (Below w.heap.size w w1) := ((Below.refl _ w).drew).trans b1
  clear b1 HK HF x0 x1
  obtain ⟨ao', cap', e', _, hcs⟩ := HR0.out
  cases e'
  obtain ⟨b, off, rfl, hcell⟩ := hcs (by intro h; subst h; simp at hr)
  obtain ⟨bo, bc, so, sc, ao, ac, to, tc, c0, c1, c2, c3, c4, c5, c6, hP⟩ := hcell j r hr
  have HP : Hid (K.RuIs w0 (.agg #[.bool r.start, .bool r.fin, .slice bo r.before.length bc, .slice so r.source.length sc, .slice ao r.after.length ac, .slice to r.target.length tc, .int .i64 r.cursor]) r) := hP
  have lb := L.block_lt c0
  rw [← HB1.out.cell (p := ⟨b, off + j * 7, none⟩) lb] at c0
  rw [← HB1.out.cell (p := ⟨b, off + j * 7 + 1, none⟩) lb] at c1
  rw [← HB1.out.cell (p := ⟨b, off + j * 7 + 2, none⟩) lb] at c2
  rw [← HB1.out.cell (p := ⟨b, off + j * 7 + 3, none⟩) lb] at c3
  rw [← HB1.out.cell (p := ⟨b, off + j * 7 + 4, none⟩) lb] at c4
  rw [← HB1.out.cell (p := ⟨b, off + j * 7 + 5, none⟩) lb] at c5
  rw [← HB1.out.cell (p := ⟨b, off + j * 7 + 6, none⟩) lb] at c6
  have hjl : j < l.length := (List.getElem?_eq_some_iff.1 hr).1
  have hr0 := HE.out r (List.mem_of_getElem? hr)
  have hin := K.match_in (K.ruleE_zero hr0).2.2.2.1 hm
  have HP2 : Hid (Calls Try.prog 41 #[.pointer (some ⟨bs, 0, none⟩), .agg #[.bool r.start, .bool r.fin, .slice bo r.before.length bc, .slice so r.source.length sc, .slice ao r.after.length ac, .slice to r.target.length tc, .int .i64 r.cursor]] w1 fun e w' => e = .returned (.int .i64 4) ∧ Below w1.heap.size w1 w') := put_much w1 w0.heap.size bs g cap T k HS1.out h4 _ r (HP.out.below HB1.out) hr0 (by omega) hlen
  have hj0 : (0 : Int) ≤ j := by omega
  clear hcs hcell hP HP hr hm hin hr0
  obtain ⟨st, fi, be, sou, af, ta, cu⟩ := r
  simp only at c0 c1 c2 c3 c4 c5 c6 HP2
  go_wp2_with fail
  refine HP2.out.mono ?_
  rintro e w2 ⟨rfl, b2⟩
  have HB2 : Hid (Below w.heap.size w w2) := HWW.out.trans (b2.mono HWW.out.size)
  clear b2 HP2
  go_wp2
  go_ret2
  exact ⟨by simp, HB2.out⟩

set_option maxHeartbeats 4000000 in
theorem step_put (w0 : World) (vl : Value) (l : List K.Rule) (R0 : V.Rus w0 vl l) (hl : l.length ≤ 200) (hE : ∀ r ∈ l, K.ruleE r = 0) (w : World) (hX : Below w0.heap.size w0 w) (bs g cap : Nat) (T : List Int) (k : Nat) (hS : K.St w0.heap.size bs w g cap T k) (h4 : T.length ≤ 4000) (hk : k < T.length) (j : Nat) (r : K.Rule) (hw : K.which l T k = (j : Int)) (hr : l[j]? = some r) (hm : K.matchB r T k = true) (hlen : T.length - r.source.length + r.target.length ≤ 4000) (T2 : List Int) (hT2 : T2 = T.take k ++ r.target ++ T.drop (k + r.source.length)) :
    Calls Try.prog 27 #[.pointer (some ⟨bs, 0, none⟩), vl] w fun e w' => e = .returned (.tuple #[.int .i64 (j : Int), .int .i64 0]) ∧ ∃ g' cap', K.St w0.heap.size bs w' g' cap' T2 (k + r.cursor) ∧ Below w0.heap.size w w' := by
  have HS : Hid (K.St w0.heap.size bs w g cap T k) := hS
  have HX : Hid (Below w0.heap.size w0 w) := hX
  have HF : Hid (Calls Try.prog 28 #[vl, .iface 66 (.slice (some ⟨g, 0, none⟩) T.length cap), .int .i64 k] w.drew fun e w' => e = .returned (.int .i64 (K.which l T k)) ∧ Below w.drew.heap.size w.drew w') := qFirst_any w.drew vl l (R0.below hX.drew) hl hE _ T hS.2.2.2.rd h4 k (by omega) (by omega)
  have HK : Hid (∀ w1, Below w.drew.heap.size w.drew w1 → w1.cell? ⟨bs, 0, none⟩ = some (.slice (some ⟨g, 0, none⟩) T.length cap) ∧ w1.cell? ⟨bs, 1, none⟩ = some (.int .i64 k)) := fun w1 hb => by
    have h := K.blk_below (w := w.drew) hS.2.1 hb
    exact ⟨K.at_box h rfl, K.at_box h rfl⟩
  have x0 := K.at_box (i := 0) hS.2.1 rfl
  have x1 := K.at_box (i := 1) hS.2.1 rfl
  have HR0 : Hid (V.Rus w0 vl l) := R0
  have HE : Hid (∀ r ∈ l, K.ruleE r = 0) := hE
  obtain ⟨lao, lcap, rfl⟩ := R0.len
  rw [hw] at HF
  clear R0 hE hX hS
  go_enter Try.func27, Try.ntmps27
  go_wp2
  go_region_held3 (fun w' => w'.cell? ⟨bs, 0, none⟩ = some (.slice (some ⟨g, 0, none⟩) T.length cap) ∧ w'.cell? ⟨bs, 1, none⟩ = some (.int .i64 k)) (first | exact HK.out _ b1 | go_keep) (first | (go_at_call 28; refine HF.out.mono ?_; rintro e w1 ⟨rfl, b1⟩) | fail)
  have HB1 : Hid (Below w0.heap.size w0 w1) := (HX.out.drew).trans (b1.mono (by show w0.heap.size ≤ w.heap.size; exact HX.out.size))
  have HW1 : Hid (Below w0.heap.size w w1) := ((Below.refl _ w).drew).trans (b1.mono (by show w0.heap.size ≤ w.heap.size; exact HX.out.size))
  have HS1 : Hid (K.St w0.heap.size bs w1 g cap T k) := K.St.below (w := w.drew) HS.out b1
  have HWW : Hid (Below w.heap.size w w1) := ((Below.refl _ w).drew).trans b1
  clear b1 HK HF x0 x1
  obtain ⟨ao', cap', e', _, hcs⟩ := HR0.out
  cases e'
  obtain ⟨b, off, rfl, hcell⟩ := hcs (by intro h; subst h; simp at hr)
  obtain ⟨bo, bc, so, sc, ao, ac, to, tc, c0, c1, c2, c3, c4, c5, c6, hP⟩ := hcell j r hr
  have HP : Hid (K.RuIs w0 (.agg #[.bool r.start, .bool r.fin, .slice bo r.before.length bc, .slice so r.source.length sc, .slice ao r.after.length ac, .slice to r.target.length tc, .int .i64 r.cursor]) r) := hP
  have lb := L.block_lt c0
  rw [← HB1.out.cell (p := ⟨b, off + j * 7, none⟩) lb] at c0
  rw [← HB1.out.cell (p := ⟨b, off + j * 7 + 1, none⟩) lb] at c1
  rw [← HB1.out.cell (p := ⟨b, off + j * 7 + 2, none⟩) lb] at c2
  rw [← HB1.out.cell (p := ⟨b, off + j * 7 + 3, none⟩) lb] at c3
  rw [← HB1.out.cell (p := ⟨b, off + j * 7 + 4, none⟩) lb] at c4
  rw [← HB1.out.cell (p := ⟨b, off + j * 7 + 5, none⟩) lb] at c5
  rw [← HB1.out.cell (p := ⟨b, off + j * 7 + 6, none⟩) lb] at c6
  have hjl : j < l.length := (List.getElem?_eq_some_iff.1 hr).1
  have hr0 := HE.out r (List.mem_of_getElem? hr)
  have hin := K.match_in (K.ruleE_zero hr0).2.2.2.1 hm
  have HP2 : Hid (Calls Try.prog 41 #[.pointer (some ⟨bs, 0, none⟩), .agg #[.bool r.start, .bool r.fin, .slice bo r.before.length bc, .slice so r.source.length sc, .slice ao r.after.length ac, .slice to r.target.length tc, .int .i64 r.cursor]] w1 fun e w' => e = .returned (.int .i64 0) ∧ ∃ g' cap', K.St w0.heap.size bs w' g' cap' (T.take k ++ r.target ++ T.drop (k + r.source.length)) (k + r.cursor) ∧ Below w0.heap.size w1 w') := by
    refine put_any w1 w0.heap.size bs g cap T k HS1.out h4 _ r (fun w' hw' => V.rule_keeps HP.out (K.keeps_blocks fun b hb => (hw' b hb).trans (HB1.out.block b hb))) hr0 (fun g' hg' bo' bc' so' sc' ao' ac' to' tc' he hne => ?_) (by omega) hlen
    obtain ⟨_, _, _, _, _, _, _, _, he2, _, _, _, h5, _⟩ := HP.out
    rw [he2] at he
    simp at he
    obtain ⟨_, _, _, ⟨e1, e2⟩⟩ := he
    subst e1 e2
    obtain ⟨_, _, e3, _, hc5⟩ := h5
    cases e3
    obtain ⟨b5, off5, e4, hcell5⟩ := hc5 hne
    obtain ⟨z, hz⟩ : ∃ z, r.target[0]? = some z := ⟨r.target[0]'(List.length_pos_iff.2 hne), by simp⟩
    have := L.block_lt (hcell5 0 z hz)
    rw [e4]
    intro h6
    have h7 : b5 = g' := by simpa [Value.ownBlock] using h6
    omega
  rw [← hT2] at HP2
  have hj0 : (0 : Int) ≤ j := by omega
  clear hT2 hcs hcell hP HP hr hm hin hr0 hlen
  obtain ⟨st, fi, be, sou, af, ta, cu⟩ := r
  simp only at c0 c1 c2 c3 c4 c5 c6 HP2
  go_wp2_with fail
  refine HP2.out.mono ?_
  rintro e w2 ⟨rfl, g', cap', s2, b2⟩
  have HB2 : Hid (K.St w0.heap.size bs w2 g' cap' T2 (k + cu) ∧ Below w0.heap.size w w2) := ⟨s2, HW1.out.trans b2⟩
  clear b2 s2 HP2
  go_wp2
  go_ret2
  exact ⟨by simp, ⟨g', cap', HB2.out.1⟩, HB2.out.2⟩

end Go.Proofs.Ytdmpmkcigjkilab
