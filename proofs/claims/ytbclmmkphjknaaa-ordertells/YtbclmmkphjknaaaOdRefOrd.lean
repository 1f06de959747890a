/-
  A text's rows: the document's answer.
-/
import Derived.Test.YtbclmmkphjknaaaOdKey
import Derived.Test.YtbclmmkphjknaaaKSet
import Derived.Test.YtbclmmkphjknaaaNmRefTog
import Derived.Deep.RegionLaw
import Derived.Test.YtbclmmkphjknaaaOdRank
import Derived.Deep.QuietTactic
import Derived.BigQuiet
import Derived.BigRegion
namespace Go.Proofs.Ytbclmmkphjknaaa
open Go.RowKit
set_option maxRecDepth 20000
set_option linter.unusedSimpArgs false
set_option linter.unusedVariables false

namespace Od
abbrev Bx (W : World) (g : Nat) (a b c : Value) : Prop := W.heap[g]? = some (.cells #[a, b, c] 37)
theorem Bx.at {W : World} {g : Nat} {a b c : Value} (h : Bx W g a b c) : W.cell? ⟨g, 0, none⟩ = some a ∧ W.cell? ⟨g, 1, none⟩ = some b ∧ W.cell? ⟨g, 2, none⟩ = some c := ⟨K.at_box (i := 0) h rfl, K.at_box (i := 1) h rfl, K.at_box (i := 2) h rfl⟩
theorem Bx.free {W : World} {g : Nat} {a b c : Value} (h : Bx W g a b c) (i : Nat) : W.frozen? ⟨g, i, none⟩ = false := by rw [World.frozen?]; simp [h]
theorem Bx.set0 {W : World} {g : Nat} {a b c : Value} (h : Bx W g a b c) (v : Value) : Bx (W.setCell ⟨g, 0, none⟩ v) g v b c := heap_setCell_same W g 0 _ _ _ h
theorem Bx.set1 {W : World} {g : Nat} {a b c : Value} (h : Bx W g a b c) (v : Value) : Bx (W.setCell ⟨g, 1, none⟩ v) g a v c := heap_setCell_same W g 1 _ _ _ h
theorem Bx.set2 {W : World} {g : Nat} {a b c : Value} (h : Bx W g a b c) (v : Value) : Bx (W.setCell ⟨g, 2, none⟩ v) g a b v := heap_setCell_same W g 2 _ _ _ h
theorem Tri.kept {w w' : World} {F : Nat} {a b c : Value} {k : K3} (h : Tri w F a b c k) (hk : ∀ q, F ≤ q → w'.heap[q]? = w.heap[q]?) : Tri w' F a b c k :=
  ⟨Al.held h.o1 fun q hq _ => hk q (h.o1.lt q hq).1, Al.held h.o2 fun q hq _ => hk q (h.o2.lt q hq).1, Al.held h.o3 fun q hq _ => hk q (h.o3.lt q hq).1, h.a12, h.a13, h.a23⟩
theorem Tri.set {w : World} {F g i : Nat} {a b c : Value} {k : K3} (h : Tri w F a b c k) (hg : g < F) (u : Value) : Tri (w.setCell ⟨g, i, none⟩ u) F a b c k :=
  h.kept fun q hq => heap_setCell_other w ⟨g, i, none⟩ q u (by show q ≠ g; omega)
theorem Ow.sl {w : World} {F : Nat} {v : Value} {l : List Int} (h : Ow w F v l) : ∃ p n d, v = .slice p n d := by
  obtain ⟨p, d, e, _⟩ := Al.lies h
  exact ⟨p, _, d, e⟩
/-- rows in a box -/
structure St (w : World) (F g : Nat) (a b c : Value) (k : K3) : Prop where
  bx : Bx w g a b c
  tr : Tri w F a b c k
  lt : g < F
  le : F ≤ w.heap.size
theorem St.push1 {w : World} {F g : Nat} {a b c : Value} {k : K3} (h : St w F g a b c k) (hl : k.1.length ≤ 100000) (z : Int) :
    ∃ v' w', (∀ ty, (Builtin.append_ #[34, 34] ty #[a, .slice (some ⟨w.heap.size, 0, none⟩) 1 1]).run Try.prog (w.alloc (.cells #[.int .i64 z] 3)) = .ok v' w') ∧ Bx w' g a b c ∧ St (w'.setCell ⟨g, 0, none⟩ v') F g v' b c (k.1 ++ [z], k.2.1, k.2.2) ∧ Below g w (w'.setCell ⟨g, 0, none⟩ v') ∧ (∀ q, q < F → q ≠ g → (w'.setCell ⟨g, 0, none⟩ v').heap[q]? = w.heap[q]?) := by
  obtain ⟨v', w', run, tr, be, sz⟩ := h.tr.push1 h.le hl z
  have hx : Bx w' g a b c := (be.block g h.lt).trans h.bx
  exact ⟨v', w', run, hx, ⟨hx.set0 v', tr.set h.lt v', h.lt, by have := h.le; simp; omega⟩, (be.mono (Nat.le_of_lt h.lt)).setCell (p := ⟨g, 0, none⟩) (Nat.le_refl _) _, fun q h1 h2 => (heap_setCell_other _ ⟨g, 0, none⟩ q _ h2).trans (be.block q h1)⟩
theorem St.push2 {w : World} {F g : Nat} {a b c : Value} {k : K3} (h : St w F g a b c k) (hl : k.2.1.length ≤ 100000) (z : Int) :
    ∃ v' w', (∀ ty, (Builtin.append_ #[34, 34] ty #[b, .slice (some ⟨w.heap.size, 0, none⟩) 1 1]).run Try.prog (w.alloc (.cells #[.int .i64 z] 3)) = .ok v' w') ∧ Bx w' g a b c ∧ St (w'.setCell ⟨g, 1, none⟩ v') F g a v' c (k.1, k.2.1 ++ [z], k.2.2) ∧ Below g w (w'.setCell ⟨g, 1, none⟩ v') ∧ (∀ q, q < F → q ≠ g → (w'.setCell ⟨g, 1, none⟩ v').heap[q]? = w.heap[q]?) := by
  obtain ⟨v', w', run, tr, be, sz⟩ := h.tr.push2 h.le hl z
  have hx : Bx w' g a b c := (be.block g h.lt).trans h.bx
  exact ⟨v', w', run, hx, ⟨hx.set1 v', tr.set h.lt v', h.lt, by have := h.le; simp; omega⟩, (be.mono (Nat.le_of_lt h.lt)).setCell (p := ⟨g, 1, none⟩) (Nat.le_refl _) _, fun q h1 h2 => (heap_setCell_other _ ⟨g, 1, none⟩ q _ h2).trans (be.block q h1)⟩
theorem St.push3 {w : World} {F g : Nat} {a b c : Value} {k : K3} (h : St w F g a b c k) (hl : k.2.2.length ≤ 100000) (z : Int) :
    ∃ v' w', (∀ ty, (Builtin.append_ #[34, 34] ty #[c, .slice (some ⟨w.heap.size, 0, none⟩) 1 1]).run Try.prog (w.alloc (.cells #[.int .i64 z] 3)) = .ok v' w') ∧ Bx w' g a b c ∧ St (w'.setCell ⟨g, 2, none⟩ v') F g a b v' (k.1, k.2.1, k.2.2 ++ [z]) ∧ Below g w (w'.setCell ⟨g, 2, none⟩ v') ∧ (∀ q, q < F → q ≠ g → (w'.setCell ⟨g, 2, none⟩ v').heap[q]? = w.heap[q]?) := by
  obtain ⟨v', w', run, tr, be, sz⟩ := h.tr.push3 h.le hl z
  have hx : Bx w' g a b c := (be.block g h.lt).trans h.bx
  exact ⟨v', w', run, hx, ⟨hx.set2 v', tr.set h.lt v', h.lt, by have := h.le; simp; omega⟩, (be.mono (Nat.le_of_lt h.lt)).setCell (p := ⟨g, 2, none⟩) (Nat.le_refl _) _, fun q h1 h2 => (heap_setCell_other _ ⟨g, 2, none⟩ q _ h2).trans (be.block q h1)⟩
end Od

set_option maxHeartbeats 8000000 in
theorem odRefRows_any (w : World) (v : Value) (l : List Int) (R : L.Rd w v .i32 l) (hl : l.length ≤ 140737488355328) :
    Calls Try.prog 17 #[v] w fun e w' => ∃ a b c, e = .returned (.tuple #[.agg #[a, b, c], .int .i64 (Od.keyF l).2]) ∧ Od.Tri w' w.heap.size a b c (Od.keyF l).1 ∧ Below w.heap.size w w' := by
  obtain ⟨N3, hN3⟩ : ∃ N3 : Obj, N3 = .cells #[.slice none 0 0, .slice none 0 0, .slice none 0 0] 37 := ⟨_, rfl⟩
  obtain ⟨W1, hW1⟩ : ∃ W1, W1 = (w.alloc N3).alloc N3 := ⟨_, rfl⟩
  have hs1 : W1.heap.size = w.heap.size + 2 := by rw [hW1]; simp
  have hb1 : Below w.heap.size w W1 := by rw [hW1]; exact ((Below.refl _ w).alloc (Nat.le_refl _) _).alloc (by simp) _
  have hx4 : Od.Bx W1 (w.heap.size + 1) (.slice none 0 0) (.slice none 0 0) (.slice none 0 0) := by
    have e := heap_alloc_new (w.alloc N3) N3
    have es : (w.alloc N3).heap.size = w.heap.size + 1 := by simp
    rw [es, ← hW1] at e
    rw [hN3] at e
    exact e
  have hx2 : Od.Bx W1 w.heap.size (.slice none 0 0) (.slice none 0 0) (.slice none 0 0) := by
    have e := (Below.heap_alloc (w.alloc N3) N3 w.heap.size (by simp)).trans (heap_alloc_new w N3)
    rw [← hW1] at e
    rw [hN3] at e
    exact e
  rw [hN3] at hW1
  have HT := nmRefApart_any W1 v l (R.below hb1 (Nat.le_refl _)) hl
  have HW : Hid (W1.heap.size = w.heap.size + 2 ∧ Below w.heap.size w W1 ∧ Od.Bx W1 (w.heap.size + 1) (.slice none 0 0) (.slice none 0 0) (.slice none 0 0) ∧ Od.Bx W1 w.heap.size (.slice none 0 0) (.slice none 0 0) (.slice none 0 0)) := ⟨hs1, hb1, hx4, hx2⟩
  obtain ⟨q, hq⟩ : ∃ q, q = Od.keyF l := ⟨_, rfl⟩
  have HQ : Hid (q = Od.keyF l) := hq
  rw [← hq]
  obtain ⟨ao, cap, rfl, _, _⟩ := R
  clear hq hs1 hb1 hx4 hx2 hN3
  obtain ⟨q1, q2⟩ := q
  have hn := Nm.apart_len l
  have hbd := Nm.apart_bd l
  unfold Od.keyF at HQ
  obtain ⟨⟨t, te⟩, ht⟩ : ∃ p, p = Nm.apartF l := ⟨_, rfl⟩
  rw [← ht] at HT HQ hn hbd
  simp only at HT HQ hn hbd
  clear ht
  have HCl : Hid (∀ r X, Calls Try.prog 8 #[.int .i32 r] X fun e w' => e = .returned (.int .i64 (Nm.cls r)) ∧ w' = X) := fun r X => nmRefClass_any r X
  have HLw : Hid (∀ r X, 0 ≤ r ∧ r ≤ 1114111 → Calls Try.prog 39 #[.int .i32 r] X fun e w' => e = .returned (.int .i32 (Cn.low r)) ∧ w' = X) := fun r X h => rlower_any r (by omega) (by omega) X
  go_enter Try.func17, Try.ntmps17
  go_wp2_with fail
  rw [← hW1]
  refine HT.mono ?_
  clear HT hW1
  rintro e w1 ⟨vt, rfl, own1, b1⟩
  obtain ⟨xo, xc, rfl, hxc, hxm⟩ := K.own_slice own1
  have HB1 : Hid (Below W1.heap.size W1 w1) := b1
  have hx4 : Od.Bx w1 (w.heap.size + 1) (.slice none 0 0) (.slice none 0 0) (.slice none 0 0) := K.blk_below HW.out.2.2.1 b1
  have hx2 : Od.Bx w1 w.heap.size (.slice none 0 0) (.slice none 0 0) (.slice none 0 0) := K.blk_below HW.out.2.2.2 b1
  by_cases he : te = 0
  · have hQ : (q1, q2) = (Od.keyL t, 0) := by rw [HQ.out, if_neg (by simp [he])]
    have h1 := (Prod.mk.inj hQ).1
    obtain rfl := (Prod.mk.inj hQ).2
    subst he
    have HQ1 : Hid (q1 = Od.keyL t) := h1
    have HS1 : Hid (∀ W, (∀ q, q < w1.heap.size → q ≠ w.heap.size + 1 → W.heap[q]? = w1.heap[q]?) → L.Rd W (.slice xo t.length xc) .i32 t) := fun W hW => Nm.rd_kept own1 fun b hb => hW b (own1.lt b hb).2 (by have := (own1.lt b hb).1; have := HW.out.1; omega)
    have HBd : Hid (∀ r ∈ t, 0 ≤ r ∧ r ≤ 1114111) := hbd
    obtain ⟨F, hF⟩ : ∃ F, F = w1.heap.size := ⟨_, rfl⟩
    have hg : w.heap.size + 1 < F := by rw [hF]; exact lt_of_block hx4
    obtain ⟨g, hge⟩ : ∃ g, g = w.heap.size + 1 := ⟨_, rfl⟩
    have HG : Hid (g = w.heap.size + 1 ∧ F = w1.heap.size ∧ Od.Bx w1 w.heap.size (.slice none 0 0) (.slice none 0 0) (.slice none 0 0)) := ⟨hge, hF, hx2⟩
    rw [← hge] at hx4 hg
    have HS0 : Hid (Od.St w1 F g (.slice none 0 0) (.slice none 0 0) (.slice none 0 0) ([], [], [])) := ⟨hx4, Od.Tri.start _ _, hg, by rw [hF]; exact Nat.le_refl _⟩
    clear HQ hQ own1 h1 hbd b1 hx4 hx2 hg hF
    go_wp2
    rw [← hge]
    clear hge
    go_loopw [21] (fun vi wr => ∃ (j : Nat) (k : Od.K3) (a b c : Value), vi = .int .i64 j ∧ j ≤ t.length ∧ Hid ((t.take j).foldl Od.kstep ([], [], []) = k) ∧ Hid (Od.St wr F g a b c k ∧ Below g w1 wr ∧ ∀ q, q < F → q ≠ g → wr.heap[q]? = w1.heap[q]?)) (fun vi _ => t.length - (intOf vi).toNat)
    case atStart => exact ⟨0, ([], [], []), _, _, _, rfl, Nat.zero_le _, rfl, HS0.out, Below.refl _ _, fun _ _ _ => rfl⟩
    case round =>
      obtain ⟨j, k, a, b, c, rfl, hj, HF, HO⟩ := hrel
      by_cases hlt : j < t.length
      · obtain ⟨r, hr⟩ : ∃ r, t[j]? = some r := ⟨t[j], by simp [hlt]⟩
        obtain ⟨_, _, e', _, hc⟩ := HS1.out wr (fun q h1 h2 => HO.out.2.2 q (by rw [HG.out.2.1]; exact h1) (by rw [HG.out.1]; exact h2))
        obtain ⟨rfl, -, rfl⟩ := Value.slice.inj e'
        obtain ⟨bb, off, rfl, hcell⟩ := hc (by intro h; subst h; simp at hlt)
        have c0 := hcell j r hr
        have hC := HCl.out r
        have hL := HLw.out r
        have hrb := HBd.out r (List.mem_of_getElem? hr)
        have hcp := Nm.cls_pos r
        have hln := Od.kfold_len (t.take j) ([], [], [])
        rw [HF.out, List.length_take] at hln
        simp only [List.length_nil] at hln
        have hst : (t.take (j + 1)).foldl Od.kstep ([], [], []) = Od.kstep k r := by rw [List.take_add_one, hr, List.foldl_append, HF.out]; rfl
        obtain ⟨x0, x1, x2⟩ := HO.out.1.bx.at
        unfold Od.kstep at hst
        clear hc hcell e' hr HF
        by_cases hM : 0 < Nm.cls r
        · rw [if_pos hM] at hst
          obtain ⟨v3, w3, run3, bx3, st3, be3, kp3⟩ := HO.out.1.push2 (by omega) r
          obtain ⟨p3, n3, d3, hv3⟩ := st3.tr.o2.sl
          subst hv3
          have HN : Hid (Od.St (w3.setCell ⟨g, 1, none⟩ _) F g a _ c (k.1, k.2.1 ++ [r], k.2.2) ∧ Below g w1 (w3.setCell ⟨g, 1, none⟩ _) ∧ ∀ q, q < F → q ≠ g → (w3.setCell ⟨g, 1, none⟩ _).heap[q]? = w1.heap[q]?) := ⟨st3, HO.out.2.1.trans be3, fun q h1 h2 => (kp3 q h1 h2).trans (HO.out.2.2 q h1 h2)⟩
          have HS : Hid ((t.take (j + 1)).foldl Od.kstep ([], [], []) = (k.1, k.2.1 ++ [r], k.2.2)) := hst
          obtain ⟨y0, y1, y2⟩ := bx3.at
          have f1 := bx3.free 1
          have hl3 := lt_of_block bx3
          clear st3 be3 kp3 hst HO hL bx3 y0 y2
          go_wp2_with fail
          refine (hC _).mono ?_
          rintro e w4 ⟨rfl, h4⟩
          obtain rfl := h4.symm
          clear h4
          go_wp2_with (at_builtin; first | refine Lib.wpList_append_run _ rfl _ _ _ _ rfl _ _ rfl rfl _ _ (run3 _) ?_)
          go_roundw
          case rel => exact ⟨j + 1, _, _, _, _, by go_num, by omega, HS, HN⟩
          case measure => simp [intOf]; omega
        · rw [if_neg hM] at hst
          have hz : Nm.cls r = 0 := by omega
          rw [hz] at hC
          have hL1 := fun X => hL X hrb
          obtain ⟨s, hs⟩ : ∃ s, s = Cn.low r := ⟨_, rfl⟩
          obtain ⟨gr, hgr⟩ : ∃ gr, gr = Od.g01 r := ⟨_, rfl⟩
          have hs3 : 0 ≤ s ∧ s ≤ 1200000 := by
            rw [hs]; unfold Cn.low
            split
            · omega
            · split <;> omega
          have xa : ∀ o, (wr.alloc o).cell? ⟨g, 0, none⟩ = some a := fun o => K.alloc_cell x0 o
          have hwr : IntKind.i64.wrap s = s := by rw [IntKind.wrap_i64]; omega
          have hO := HO.out
          have st0 : Od.St wr.drew F g a b c k := ⟨hO.1.bx, hO.1.tr.kept fun _ _ => rfl, hO.1.lt, hO.1.le⟩
          obtain ⟨v3, w3, run3, bx3, st3, be3, kp3⟩ := st0.push1 (by omega) s
          obtain ⟨p3, n3, d3, hv3⟩ := st3.tr.o1.sl
          subst hv3
          obtain ⟨X3, hX3⟩ : ∃ X3, X3 = w3.setCell ⟨g, 0, none⟩ (.slice p3 n3 d3) := ⟨_, rfl⟩
          have HX3 : Hid (X3 = w3.setCell ⟨g, 0, none⟩ (.slice p3 n3 d3)) := hX3
          rw [← hX3] at st3 be3 kp3
          obtain ⟨v4, w4, run4, bx4, st4, be4, kp4⟩ := st3.push2 (by show k.2.1.length ≤ _; omega) 0
          obtain ⟨p4, n4, d4, hv4⟩ := st4.tr.o2.sl
          subst hv4
          obtain ⟨X4, hX4⟩ : ∃ X4, X4 = w4.setCell ⟨g, 1, none⟩ (.slice p4 n4 d4) := ⟨_, rfl⟩
          have HX4 : Hid (X4 = w4.setCell ⟨g, 1, none⟩ (.slice p4 n4 d4)) := hX4
          rw [← hX4] at st4 be4 kp4
          obtain ⟨v5, w5, run5, bx5, st5, be5, kp5⟩ := st4.push3 (by show k.2.2.length ≤ _; omega) gr
          obtain ⟨p5, n5, d5, hv5⟩ := st5.tr.o3.sl
          subst hv5
          have HN0 := And.intro st5 (And.intro ((((⟨hO.2.1.os, hO.2.1.tape, hO.2.1.output, hO.2.1.size, hO.2.1.block⟩ : Below g w1 wr.drew).trans be3).trans be4).trans be5) (fun (q : Nat) (h1 : q < F) (h2 : q ≠ g) => (kp5 q h1 h2).trans ((kp4 q h1 h2).trans ((kp3 q h1 h2).trans (hO.2.2 q h1 h2)))))
          have HN : Hid _ := HN0
          obtain ⟨_, y1, _⟩ := st3.bx.at
          obtain ⟨_, _, z2⟩ := st4.bx.at
          obtain ⟨u0, _, _⟩ := bx3.at
          obtain ⟨_, u1, _⟩ := bx4.at
          obtain ⟨_, _, u2⟩ := bx5.at
          have f0 := bx3.free 0
          have f1 := bx4.free 1
          have f2 := bx5.free 2
          have hl3 := lt_of_block bx3
          have hl4 := lt_of_block bx4
          have hl5 := lt_of_block bx5
          have HS : Hid ((t.take (j + 1)).foldl Od.kstep ([], [], []) = (k.1 ++ [s], k.2.1 ++ [0], k.2.2 ++ [gr])) := by rw [hs, hgr]; exact hst
          have hrun3 : ∀ ty, (Builtin.append_ #[34, 34] ty #[a, .slice (some ⟨wr.heap.size, 0, none⟩) 1 1]).run Try.prog ((wr.alloc (.cells #[.int .i64 s] 3)).drew) = .ok (.slice p3 n3 d3) w3 := run3
          unfold Od.g01 at hgr
          rw [← hs] at hgr hL1
          clear hX3 hX4
          clear st0 st3 st4 st5 be3 be4 be5 kp3 kp4 kp5 bx3 bx4 bx5 HN0 hO HO hst hM hs
          by_cases hsr : s = r
          · rw [if_pos hsr] at hgr
            subst hsr hgr
            go_wp2_with fail
            refine (hC _).mono ?_
            rintro e w6 ⟨rfl, h4⟩
            obtain rfl := h4.symm
            clear h4 hC
            go_wp2_with fail
            refine (hL1 _).mono ?_
            rintro e w6 ⟨rfl, h4⟩
            obtain rfl := h4.symm
            clear h4
            go_upto_region 13 with fail
            go_region_law (first | (go_simp; go_at_call 39; refine (hL1 _).mono ?_; rintro e wl ⟨rfl, rfl⟩) | (refine K.step_run (by rfl) (.tmp 40) (.tmp 44) (by rfl) _ _ _ w3 (by rfl) (by rfl) hrun3 ?_))
            all_goals
              rw [← HX3.out]
              clear hrun3 u0 f0 hl3 x0 x1 x2 xa HX3
              go_upto_region 15 with (at_builtin; refine Lib.wpList_append_run _ rfl _ _ _ _ rfl _ _ rfl rfl _ _ (run4 _) ?_; clear run4)
              rw [← HX4.out]
              clear y1 u1 f1 hl4 HX4
              go_wp2_with (at_builtin; refine Lib.wpList_append_run _ rfl _ _ _ _ rfl _ _ rfl rfl _ _ (run5 _) ?_; clear run5)
              go_roundw
              case rel => exact ⟨j + 1, _, _, _, _, by go_num, by omega, HS, HN⟩
              case measure => simp [intOf]; omega
          · rw [if_neg hsr] at hgr
            have hsb : (s == r) = false := by simp [hsr]
            subst hgr
            go_wp2_with fail
            refine (hC _).mono ?_
            rintro e w6 ⟨rfl, h4⟩
            obtain rfl := h4.symm
            clear h4 hC
            go_wp2_with fail
            refine (hL1 _).mono ?_
            rintro e w6 ⟨rfl, h4⟩
            obtain rfl := h4.symm
            clear h4
            go_upto_region 13 with fail
            go_region_law (first | (go_simp; go_at_call 39; refine (hL1 _).mono ?_; rintro e wl ⟨rfl, rfl⟩) | (refine K.step_run (by rfl) (.tmp 40) (.tmp 44) (by rfl) _ _ _ w3 (by rfl) (by rfl) hrun3 ?_))
            all_goals
              rw [← HX3.out]
              clear hrun3 u0 f0 hl3 x0 x1 x2 xa HX3
              go_upto_region 15 with (at_builtin; refine Lib.wpList_append_run _ rfl _ _ _ _ rfl _ _ rfl rfl _ _ (run4 _) ?_; clear run4)
              rw [← HX4.out]
              clear y1 u1 f1 hl4 HX4
              go_wp2_with (at_builtin; refine Lib.wpList_append_run _ rfl _ _ _ _ rfl _ _ rfl rfl _ _ (run5 _) ?_; clear run5)
              go_roundw
              case rel => exact ⟨j + 1, _, _, _, _, by go_num, by omega, HS, HN⟩
              case measure => simp [intOf]; omega
      · have e : j = t.length := by omega
        have hk : q1 = k := by
          have := HF.out
          rw [e, List.take_length] at this
          rw [HQ1.out]; exact this
        subst hk
        have hO := HO.out
        have hg1 := HG.out.1
        have hF1 := hO.1.lt
        have hx2 : Od.Bx wr w.heap.size (.slice none 0 0) (.slice none 0 0) (.slice none 0 0) := (hO.2.2 w.heap.size (by omega) (by omega)).trans HG.out.2.2
        obtain ⟨pa, na, da, hva⟩ := hO.1.tr.o1.sl
        obtain ⟨pb, nb, db, hvb⟩ := hO.1.tr.o2.sl
        obtain ⟨pc, nc, dc, hvc⟩ := hO.1.tr.o3.sl
        subst hva hvb hvc
        obtain ⟨x0, x1, x2⟩ := hO.1.bx.at
        obtain ⟨y0, y1, y2⟩ := hx2.at
        have f0 := hx2.free 0
        have f1 := hx2.free 1
        have f2 := hx2.free 2
        have hl2 := lt_of_block hx2
        have hl4 := lt_of_block hO.1.bx
        have hb2 : w.heap.size < F := by omega
        have HE : Hid (Od.Tri wr F (.slice pa na da) (.slice pb nb db) (.slice pc nc dc) q1 ∧ Below w.heap.size w wr) := ⟨hO.1.tr, (HW.out.2.1.trans (HB1.out.mono HW.out.2.1.size)).trans (hO.2.1.mono (by omega))⟩
        clear hO HO HF HQ1 hx2 hg1 hF1 hj HG HS0 HS1 HW HB1 HBd
        go_wp2
        refine bodyPost_ret (v := .tuple #[.agg #[.slice pa na da, .slice pb nb db, .slice pc nc dc], .int .i64 0]) (by simp [results, Try.results17, go_sem, *]) rfl ?_
        exact ⟨_, _, _, rfl, (((HE.out.1.set hb2 _).set hb2 _).set hb2 _).base (Nat.le_of_lt hb2), ((HE.out.2.setCell (p := ⟨w.heap.size, 0, none⟩) (Nat.le_refl _) _).setCell (p := ⟨w.heap.size, 1, none⟩) (Nat.le_refl _) _).setCell (p := ⟨w.heap.size, 2, none⟩) (Nat.le_refl _) _⟩
  · have hQ : (q1, q2) = (([], [], []), te) := by rw [HQ.out, if_pos he]
    obtain ⟨rfl, rfl⟩ := Prod.mk.inj hQ
    have HBf : Hid (Below w.heap.size w w1) := HW.out.2.1.trans (HB1.out.mono HW.out.2.1.size)
    obtain ⟨x0, x1, x2⟩ := hx4.at
    obtain ⟨y0, y1, y2⟩ := hx2.at
    have f0 := hx2.free 0
    have f1 := hx2.free 1
    have f2 := hx2.free 2
    have hl2 := lt_of_block hx2
    clear hQ HQ own1 b1 hbd hx4 hx2
    go_wp2
    refine bodyPost_ret (v := .tuple #[.agg #[.slice none 0 0, .slice none 0 0, .slice none 0 0], .int .i64 q2]) (by simp [results, Try.results17, go_sem, *]) rfl ?_
    exact ⟨_, _, _, rfl, Od.Tri.start _ _, ((HBf.out.setCell (p := ⟨w.heap.size, 0, none⟩) (Nat.le_refl _) _).setCell (p := ⟨w.heap.size, 1, none⟩) (Nat.le_refl _) _).setCell (p := ⟨w.heap.size, 2, none⟩) (Nat.le_refl _) _⟩

end Go.Proofs.Ytbclmmkphjknaaa

/-
  Two rows of numbers held against each other: the document's answer.
-/
namespace Go.Proofs.Ytbclmmkphjknaaa
open Go.RowKit
set_option maxRecDepth 20000
set_option linter.unusedSimpArgs false
set_option linter.unusedVariables false

set_option maxHeartbeats 4000000 in
theorem odRefOrd_any (w : World) (va vb : Value) (a b : List Int) (Ra : L.Rd w va .i64 a) (Rb : L.Rd w vb .i64 b) (ha : a.length ≤ 1000000) (hb : b.length ≤ 1000000) :
    Calls Try.prog 42 #[va, vb] w fun e w' => e = .returned (.int .i64 (Od.cmpL a b)) ∧ Below w.heap.size w w' := by
  obtain ⟨ao, ca, rfl, _, hca⟩ := Ra
  obtain ⟨bo, cb, rfl, _, hcb⟩ := Rb
  obtain ⟨o, ho⟩ : ∃ o, o = Od.cmpL a b := ⟨_, rfl⟩
  have HO : Hid (o = Od.cmpL a b) := ho
  rw [← ho]
  have HA : Hid (∀ W, Below w.heap.size w W → ∀ (j : Nat) z, a[j]? = some z → ∃ g off, ao = some ⟨g, off, none⟩ ∧ W.cell? ⟨g, off + j, none⟩ = some (.int .i64 z)) := fun W hW j z hj => by
    obtain ⟨g, off, rfl, hc⟩ := hca (by intro h; subst h; simp at hj)
    exact ⟨g, off, rfl, (hW.cell (p := ⟨g, off + j, none⟩) (L.block_lt (hc j z hj))).trans (hc j z hj)⟩
  have HB : Hid (∀ W, Below w.heap.size w W → ∀ (j : Nat) z, b[j]? = some z → ∃ g off, bo = some ⟨g, off, none⟩ ∧ W.cell? ⟨g, off + j, none⟩ = some (.int .i64 z)) := fun W hW j z hj => by
    obtain ⟨g, off, rfl, hc⟩ := hcb (by intro h; subst h; simp at hj)
    exact ⟨g, off, rfl, (hW.cell (p := ⟨g, off + j, none⟩) (L.block_lt (hc j z hj))).trans (hc j z hj)⟩
  clear hca hcb ho
  go_enter Try.func42, Try.ntmps42
  go_wp2
  go_loopw [5] (fun vi wr => ∃ j : Nat, vi = .int .i64 j ∧ j ≤ a.length ∧ j ≤ b.length ∧ Hid (Below w.heap.size w wr) ∧ Hid (Od.cmpL (a.drop j) (b.drop j) = o)) (fun vi _ => a.length - (intOf vi).toNat)
  case atStart => exact ⟨0, rfl, Nat.zero_le _, Nat.zero_le _, Below.refl _ _, HO.out.symm⟩
  case round =>
    obtain ⟨j, rfl, hja, hjb, HW, HD⟩ := hrel
    by_cases h1 : j < a.length
    · obtain ⟨x, hx⟩ : ∃ x, a[j]? = some x := ⟨a[j], by simp [h1]⟩
      obtain ⟨ga, oa, rfl, c1⟩ := HA.out wr HW.out j x hx
      have t1 : ((j : Int) == (a.length : Int)) = false := by simp; omega
      by_cases h2 : j < b.length
      · obtain ⟨y, hy⟩ : ∃ y, b[j]? = some y := ⟨b[j], by simp [h2]⟩
        obtain ⟨gb, ob, rfl, c2⟩ := HB.out wr HW.out j y hy
        have t2 : ((j : Int) == (b.length : Int)) = false := by simp; omega
        have hd := HD.out
        rw [Od.drop_at hx, Od.drop_at hy, Od.cmpL] at hd
        clear hx hy HD HO
        by_cases e1 : x < y
        · rw [if_pos e1] at hd
          subst hd
          go_wp2
          go_region
          go_wp2
          go_ret
          exact ⟨rfl, HW.out.drew⟩
        · rw [if_neg e1] at hd
          by_cases e2 : y < x
          · rw [if_pos e2] at hd
            subst hd
            go_wp2
            go_region
            go_wp2
            go_region
            go_wp2
            go_ret
            exact ⟨rfl, HW.out.drew.drew⟩
          · rw [if_neg e2] at hd
            have HE : Hid (Od.cmpL (a.drop (j + 1)) (b.drop (j + 1)) = o) := hd
            clear hd
            go_wp2
            go_region
            go_wp2
            go_region
            go_wp2
            go_roundw
            case rel => exact ⟨j + 1, by go_num, by omega, by omega, HW.out.drew.drew, HE⟩
            case measure => simp [intOf]; omega
      · have t2 : ((j : Int) == (b.length : Int)) = true := by simp; omega
        have ho : o = 1 := by
          rw [← HD.out, Od.drop_at hx, show j = b.length by omega, List.drop_length]; rfl
        clear HD HO hx
        subst ho
        go_wp2
        go_ret
        exact ⟨rfl, HW.out⟩
    · have t1 : ((j : Int) == (a.length : Int)) = true := by simp; omega
      by_cases h2 : j < b.length
      · obtain ⟨y, hy⟩ : ∃ y, b[j]? = some y := ⟨b[j], by simp [h2]⟩
        have t2 : ((j : Int) == (b.length : Int)) = false := by simp; omega
        have ho : o = -1 := by
          rw [← HD.out, Od.drop_at hy, show j = a.length by omega, List.drop_length]; rfl
        clear HD HO hy
        subst ho
        go_wp2
        go_ret
        exact ⟨rfl, HW.out⟩
      · have t2 : ((j : Int) == (b.length : Int)) = true := by simp; omega
        have ho : o = 0 := by
          have e1 : a.drop j = [] := List.drop_eq_nil_of_le (by omega)
          have e2 : b.drop j = [] := List.drop_eq_nil_of_le (by omega)
          rw [← HD.out, e1, e2]; rfl
        clear HD HO
        subst ho
        go_wp2
        go_ret
        exact ⟨rfl, HW.out⟩

end Go.Proofs.Ytbclmmkphjknaaa
