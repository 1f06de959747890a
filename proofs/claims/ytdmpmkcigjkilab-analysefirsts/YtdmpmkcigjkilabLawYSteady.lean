/-
  scriptlaw9.AnalyseSteady: it returns true.
-/
import Derived.Test.YtdmpmkcigjkilabYAlive
import Derived.Test.YtdmpmkcigjkilabYSteady
import Derived.Test.YtdmpmkcigjkilabYMath2
import Derived.Test.YtdmpmkcigjkilabQRun
import Derived.Test.YtdmpmkcigjkilabQNe
import Derived.Test.YtdmpmkcigjkilabVRun
namespace Go.Proofs.Ytdmpmkcigjkilab
open Go.RowKit Go.Shelf
set_option maxRecDepth 20000
set_option linter.unusedSimpArgs false
set_option linter.unusedVariables false

namespace K
/-- what is left behind a run: the fault's box is written, the run's box is new -/
theorem after_run {x1 Y1 : World} {b : Nat} {u0 u1 : Int} {va : Option Addr} {vc : Nat} {rt : List Int} {re ra rs rp : Int} {ty : TypeId}
    (hY : Y1 = ((x1.setCell ⟨b, 0, none⟩ (.int .i64 re)).setCell ⟨b, 1, none⟩ (.int .i64 ra)).alloc (.cells #[(.slice va rt.length vc), .int .i64 rs, .int .i64 rp] ty))
    (hb : x1.heap[b]? = some (.cells #[.int .i64 u0, .int .i64 u1] 28)) (w : World) (hw : Below w.heap.size w x1) (hwb : w.heap.size ≤ b) :
    Y1.heap[b]? = some (.cells #[.int .i64 re, .int .i64 ra] 28) ∧ Y1.heap[x1.heap.size]? = some (.cells #[(.slice va rt.length vc), .int .i64 rs, .int .i64 rp] ty) ∧ Below w.heap.size w Y1 ∧
      ∀ v zs, L.Rd x1 v .i32 zs → L.Rd Y1 v .i32 zs := by
  obtain ⟨Y0, hY0⟩ : ∃ Y0, Y0 = (x1.setCell ⟨b, 0, none⟩ (.int .i64 re)).setCell ⟨b, 1, none⟩ (.int .i64 ra) := ⟨_, rfl⟩
  have hY' : Y1 = Y0.alloc (.cells #[(.slice va rt.length vc), .int .i64 rs, .int .i64 rp] ty) := by rw [hY, hY0]
  have e0 : Y0.heap[b]? = some (.cells #[.int .i64 re, .int .i64 ra] 28) := by rw [hY0]; exact K.set2 hb _ _
  have hal : Below Y0.heap.size Y0 Y1 := by rw [hY']; exact (Below.refl _ Y0).alloc (Nat.le_refl _) _
  have hsz : Y0.heap.size = x1.heap.size := by rw [hY0]; simp
  refine ⟨K.blk_below e0 hal, by rw [← hsz, hY']; exact heap_alloc_new Y0 _, ?_, fun v zs d => ?_⟩
  · rw [hY]
    exact ((hw.setCell (p := ⟨b, 0, none⟩) hwb _).setCell (p := ⟨b, 1, none⟩) hwb _).alloc (by simp; exact hw.size) _
  · refine (K.rd_block d (w' := Y0) fun hz q hq => ?_).below hal (Nat.le_refl _)
    have hne := K.rd_ne d hb hz q hq
    rw [hY0, heap_setCell_other _ ⟨b, 1, none⟩ q _ (by simpa using hne), heap_setCell_other _ ⟨b, 0, none⟩ q _ (by simpa using hne)]
theorem steadyF_ok {l : List Rule} (h : (steadyF l).2.1 = 0) (h1 : (steadyF l).1 = true) : steadyB l = true := by
  unfold steadyF at h h1
  by_cases h0 : (firstsF l).2.1 = 0
  · rw [if_pos h0] at h1; exact h1
  · rw [if_neg h0] at h1; cases h1
end K

set_option maxHeartbeats 4000000 in
theorem analyseSteady_any (w : World) (vl : Value) (l : List K.Rule) (R0 : V.Rus w vl l) (vt : Value) (t : List Int) (Rt : L.Rd w vt .i32 t) (ht : t.length ≤ 140737488355328) :
    Calls Try.prog 7 #[vl, vt] w fun e w' => e = .returned (.bool true) ∧ Below w.heap.size w w' := by
  have HS : Hid (∀ X, Below w.heap.size w X → Calls Try.prog 18 #[vl] X fun e w' => e = .returned (.tuple #[.bool (K.steadyF l).1, .agg #[.int .i64 (K.steadyF l).2.1, .int .i64 (K.steadyF l).2.2]]) ∧ Below X.heap.size X w') := fun X hX => ySteady_any X _ l (R0.below hX)
  have HA : Hid (∀ X, Below w.heap.size w X → Calls Try.prog 10 #[vl, vt] X fun e w' => ∃ v', e = .returned (.tuple #[.agg #[v', .int .i64 (K.runF l t).1.2.1, .int .i64 (K.runF l t).1.2.2], .agg #[.int .i64 (K.runF l t).2.1, .int .i64 (K.runF l t).2.2]]) ∧ L.Rd w' v' .i32 (K.runF l t).1.1 ∧ Below X.heap.size X w') := fun X hX => qRun_any X _ l (R0.below hX) vt t (Rt.below hX (Nat.le_refl _)) ht
  have HB : Hid (∀ X v, Below w.heap.size w X → L.Rd X v .i32 (K.runF l t).1.1 → Calls Try.prog 10 #[vl, v] X fun e w' => ∃ v', e = .returned (.tuple #[.agg #[v', .int .i64 (K.runF l (K.runF l t).1.1).1.2.1, .int .i64 (K.runF l (K.runF l t).1.1).1.2.2], .agg #[.int .i64 (K.runF l (K.runF l t).1.1).2.1, .int .i64 (K.runF l (K.runF l t).1.1).2.2]]) ∧ L.Rd w' v' .i32 (K.runF l (K.runF l t).1.1).1.1 ∧ Below X.heap.size X w') := fun X v hX hv => qRun_any X _ l (R0.below hX) v _ hv (by have := K.runF_len (l := l) (t := t); omega)
  have HM : Hid ((K.steadyF l).2.1 = 0 → (K.steadyF l).1 = true → (K.runF l t).2.1 = 0 → K.runF l (K.runF l t).1.1 = (((K.runF l t).1.1, ((K.runF l t).1.1.length : Int), 0), 0, 0)) := fun h1 h2 h3 => K.runF_steady (K.steadyF_ok h1 h2) h3
  have HLen : Hid ((K.runF l t).1.1.length ≤ 4000) := K.runF_len
  obtain ⟨ao, cap, rfl⟩ := R0.len
  obtain ⟨xo, xc, rfl, _⟩ := Rt
  obtain ⟨⟨⟨rt, rs, rp⟩, re, ra⟩, hrun⟩ : ∃ o, K.runF l t = o := ⟨_, rfl⟩
  rw [hrun] at HA HB HM HLen
  obtain ⟨⟨s0, s1, s2⟩, hst⟩ : ∃ o, K.steadyF l = o := ⟨_, rfl⟩
  rw [hst] at HS HM
  simp only at HA HB HM HS HLen
  clear hrun hst R0
  go_enter Try.func7, Try.ntmps7
  go_wp2_with fail
  refine (yAlive_any w).mono ?_
  rintro e w1 ⟨rfl, b1⟩
  have HB1 : Hid (Below w.heap.size w w1) := b1
  clear b1
  go_wp2_with fail
  refine (HS.out _ HB1.out).mono ?_
  rintro e w2 ⟨rfl, b2⟩
  have HB2 : Hid (Below w.heap.size w w2) := HB1.out.trans (b2.mono HB1.out.size)
  have hw2 : w.heap.size ≤ w2.heap.size := HB2.out.size
  have HBa : Hid (∀ o, Below w.heap.size w (w2.alloc o)) := fun o => HB2.out.alloc HB2.out.size o
  clear b2 HS HB1
  by_cases hs1 : s1 = 0
  · cases s0 with
    | false =>
      subst hs1
      go_wp2
      go_ret
      exact ⟨rfl, HBa.out _⟩
    | true =>
      have HM2 : Hid (re = 0 → K.runF l rt = ((rt, (rt.length : Int), 0), 0, 0)) := fun h => HM.out hs1 rfl h
      subst hs1
      clear HM
      obtain ⟨X, hX⟩ : ∃ X, X = w2.alloc (.cells #[.int .i64 0, .int .i64 s2] 28) := ⟨_, rfl⟩
      have hXB : Below w.heap.size w X := by rw [hX]; exact HBa.out _
      have HXB : Hid (Below w.heap.size w X ∧ X.heap[w2.heap.size]? = some (.cells #[.int .i64 0, .int .i64 s2] 28)) := ⟨hXB, by rw [hX]; exact heap_alloc_new w2 _⟩
      have hR := HA.out X hXB
      clear HA hXB
      go_wp2_with fail
      rw [← hX]
      refine hR.mono ?_
      rintro e x1 ⟨v1, rfl, d1, g1⟩
      obtain ⟨va, vc, rfl⟩ : ∃ va vc, v1 = .slice va rt.length vc := by obtain ⟨a, c, h, _⟩ := d1; exact ⟨a, c, h⟩
      have h9 := K.blk_below HXB.out.2 g1
      have HB3 : Hid (Below w.heap.size w x1) := HXB.out.1.trans (g1.mono HXB.out.1.size)
      obtain ⟨Y1, hY1⟩ : ∃ Y1, Y1 = ((x1.setCell ⟨w2.heap.size, 0, none⟩ (.int .i64 re)).setCell ⟨w2.heap.size, 1, none⟩ (.int .i64 ra)).alloc (.cells #[(.slice va rt.length vc), .int .i64 rs, .int .i64 rp] 32) := ⟨_, rfl⟩
      have hAf := K.after_run hY1 h9 w HB3.out hw2
      have HAf : Hid (Y1.heap[w2.heap.size]? = some (.cells #[.int .i64 re, .int .i64 ra] 28) ∧ Y1.heap[x1.heap.size]? = some (.cells #[(.slice va rt.length vc), .int .i64 rs, .int .i64 rp] 32) ∧ Below w.heap.size w Y1 ∧ L.Rd Y1 (.slice va rt.length vc) .i32 rt) := ⟨hAf.1, hAf.2.1, hAf.2.2.1, hAf.2.2.2 _ _ d1⟩
      obtain ⟨u0, u1, fu0, fu1⟩ := K.box2 h9
      have l9 := (Array.getElem?_eq_some_iff.1 h9).1
      clear hR d1 g1 hAf hX h9
      by_cases h0 : re = 0
      · have hrr := HM2.out h0
        have hRun := HB.out Y1 _ HAf.out.2.2.1 HAf.out.2.2.2
        rw [hrr] at hRun
        simp only at hRun
        subst h0
        clear HM2 hrr HB
        go_wp2_with fail
        rw [← hY1]
        refine hRun.mono ?_
        rintro e x2 ⟨v2, rfl, d2, g2⟩
        obtain ⟨va2, vc2, rfl⟩ : ∃ va vc, v2 = .slice va rt.length vc := by obtain ⟨a, c, h, _⟩ := d2; exact ⟨a, c, h⟩
        have p1 := K.blk_below HAf.out.1 g2
        have p2 := K.blk_below HAf.out.2.1 g2
        have HB4 : Hid (Below w.heap.size w x2) := HAf.out.2.2.1.trans (g2.mono HAf.out.2.2.1.size)
        obtain ⟨Y2, hY2⟩ : ∃ Y2, Y2 = ((x2.setCell ⟨w2.heap.size, 0, none⟩ (.int .i64 0)).setCell ⟨w2.heap.size, 1, none⟩ (.int .i64 0)).alloc (.cells #[(.slice va2 rt.length vc2), .int .i64 rt.length, .int .i64 0] 32) := ⟨_, rfl⟩
        have hAf2 := K.after_run hY2 p1 w HB4.out hw2
        have p3 : Y2.heap[x1.heap.size]? = some (.cells #[(.slice va rt.length vc), .int .i64 rs, .int .i64 rp] 32) := by
          have l8 := (Array.getElem?_eq_some_iff.1 p2).1
          rw [hY2, Below.heap_alloc _ _ x1.heap.size (by simpa using l8), heap_setCell_other _ ⟨w2.heap.size, 1, none⟩ _ _ (by show x1.heap.size ≠ w2.heap.size; omega), heap_setCell_other _ ⟨w2.heap.size, 0, none⟩ _ _ (by show x1.heap.size ≠ w2.heap.size; omega)]
          exact p2
        have HSm := rsame_any Y2 (.slice va rt.length vc) (.slice va2 rt.length vc2) rt rt (hAf2.2.2.2 _ _ (HAf.out.2.2.2.below g2 (Nat.le_refl _))) (hAf2.2.2.2 _ _ d2) (by have := HLen.out; omega) (by have := HLen.out; omega)
        obtain ⟨t0, t1, ft0, ft1⟩ := K.box2 p1
        have l7 := (Array.getElem?_eq_some_iff.1 p1).1
        have l6 := (Array.getElem?_eq_some_iff.1 p2).1
        have t2 := K.at_box (i := 0) p2 rfl
        have HB5 : Hid (Below w.heap.size w Y2) := hAf2.2.2.1
        have hne : ¬ x1.heap.size = w2.heap.size := by omega
        clear d2 g2 p1 p2 p3 hY1 hRun u0 u1 fu0 fu1 hAf2 HAf HB3
        go_wp2_with fail
        rw [← hY2]
        refine HSm.mono ?_
        rintro e x3 ⟨rfl, g3⟩
        have HZ3 : Hid (Below w.heap.size w x3) := HB5.out.trans (g3.mono HB5.out.size)
        clear g3 HSm
        go_wp2
        go_ret
        exact ⟨by simp, HZ3.out⟩
      · clear HM2 HB
        go_wp2
        go_ret
        exact ⟨rfl, by rw [← hY1]; exact HAf.out.2.2.1⟩
  · go_wp2
    go_ret
    exact ⟨rfl, HBa.out _⟩

end Go.Proofs.Ytdmpmkcigjkilab
