/-
  scriptlaw9.AnalyseSure: it returns true.
-/
import Derived.Test.YtdmpmkcigjkilabYAlive
import Derived.Test.YtdmpmkcigjkilabYMath2
import Derived.Test.YtdmpmkcigjkilabQRun
namespace Go.Proofs.Ytdmpmkcigjkilab
open Go.RowKit Go.Shelf
set_option maxRecDepth 20000
set_option linter.unusedSimpArgs false
set_option linter.unusedVariables false

set_option maxHeartbeats 4000000 in
theorem analyseSure_any (w : World) (vl : Value) (l : List K.Rule) (R0 : V.Rus w vl l) (vt : Value) (t : List Int) (Rt : L.Rd w vt .i32 t) (ht : t.length ≤ 140737488355328) :
    Calls Try.prog 4 #[vl, vt] w fun e w' => e = .returned (.bool true) ∧ Below w.heap.size w w' := by
  have HS : Hid (∀ X, Below w.heap.size w X → Calls Try.prog 13 #[vl] X fun e w' => e = .returned (.bool (K.sureB l)) ∧ Below X.heap.size X w') := fun X hX => ySure_any X _ l (R0.below hX)
  have HA : Hid (∀ X, Below w.heap.size w X → Calls Try.prog 10 #[vl, vt] X fun e w' => ∃ v', e = .returned (.tuple #[.agg #[v', .int .i64 (K.runF l t).1.2.1, .int .i64 (K.runF l t).1.2.2], .agg #[.int .i64 (K.runF l t).2.1, .int .i64 (K.runF l t).2.2]]) ∧ L.Rd w' v' .i32 (K.runF l t).1.1 ∧ Below X.heap.size X w') := fun X hX => qRun_any X _ l (R0.below hX) vt t (Rt.below hX (Nat.le_refl _)) ht
  have HM : Hid (K.sureB l = true → (K.runF l t).2.1 ≠ 9 ∧ ((K.runF l t).2.1 = 0 → (K.runF l t).1.2.1 ≤ t.length)) := fun h => K.runF_sure h
  obtain ⟨ao, cap, rfl⟩ := R0.len
  obtain ⟨xo, xc, rfl, _⟩ := Rt
  obtain ⟨⟨⟨rt, rs, rp⟩, re, ra⟩, hrun⟩ : ∃ o, K.runF l t = o := ⟨_, rfl⟩
  rw [hrun] at HA HM
  generalize K.sureB l = z at HS HM
  simp only at HA HM
  clear hrun R0
  go_enter Try.func4, Try.ntmps4
  go_wp2_with fail
  refine (yAlive_any w).mono ?_
  rintro e w1 ⟨rfl, b1⟩
  have HB1 : Hid (Below w.heap.size w w1) := b1
  clear b1
  go_wp2_with fail
  refine (HS.out _ HB1.out).mono ?_
  rintro e w2 ⟨rfl, b2⟩
  have HB2 : Hid (Below w.heap.size w w2) := HB1.out.trans (b2.mono HB1.out.size)
  clear b2 HS
  cases z with
  | false =>
    go_wp2
    go_ret
    exact ⟨rfl, HB2.out⟩
  | true =>
    obtain ⟨hne, hst⟩ := HM.out rfl
    have HST : Hid (re = 0 → rs ≤ t.length) := hst
    clear HM hst
    go_wp2_with fail
    refine (HA.out _ HB2.out).mono ?_
    rintro e w3 ⟨v3, rfl, d3, b3⟩
    obtain ⟨va, vc, rfl⟩ : ∃ va vc, v3 = .slice va rt.length vc := by obtain ⟨a, c, h, _⟩ := d3; exact ⟨a, c, h⟩
    have HB3 : Hid (Below w.heap.size w w3) := HB2.out.trans (b3.mono HB2.out.size)
    have HBa : Hid (∀ o1 o2, Below w.heap.size w ((w3.alloc o1).alloc o2)) := fun o1 o2 => (HB3.out.alloc HB3.out.size o1).alloc (by simp; have := HB3.out.size; omega) o2
    clear b3 d3 HA
    by_cases h0 : re = 0
    · have hle := HST.out h0
      clear HST
      subst h0
      go_wp2
      go_ret
      exact ⟨rfl, HBa.out _ _⟩
    · clear HST
      go_wp2
      go_ret
      exact ⟨rfl, HBa.out _ _⟩

end Go.Proofs.Ytdmpmkcigjkilab
