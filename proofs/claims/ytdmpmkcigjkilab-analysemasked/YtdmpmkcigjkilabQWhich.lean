/-
  Which: what the program answers, and what the document's text answers.
-/
import Derived.Test.YtdmpmkcigjkilabQFirst
import Derived.BigRegion
import Derived.RegionTactic
namespace Go.Proofs.Ytdmpmkcigjkilab
open Go.RowKit Go.Shelf
set_option maxRecDepth 20000
set_option linter.unusedSimpArgs false
set_option linter.unusedVariables false

namespace K
def whichF (l : List Rule) (t : List Int) (k : Int) : Int × Int × Int :=
  if (checkF l t).1 = 0 then (if k < 0 ∨ (t.length : Int) < k then (0, 3, 0) else (which l t k, 0, 0)) else (0, checkF l t)
end K

set_option maxHeartbeats 4000000 in
theorem qWhich_any (w : World) (v : Value) (l : List K.Rule) (R0 : V.Rus w v l) (vt : Value) (t : List Int) (Rt : L.Rd w vt .i32 t) (ht : t.length ≤ 140737488355328) (k : Int) (hk : K.I64 k) :
    Calls Try.prog 12 #[v, vt, .int .i64 k] w fun e w' => e = .returned (.tuple #[.int .i64 (K.whichF l t k).1, .agg #[.int .i64 (K.whichF l t k).2.1, .int .i64 (K.whichF l t k).2.2]]) ∧ Below w.heap.size w w' := by
  have HA : Hid (∀ o, Below w.heap.size w (w.alloc o)) := fun o => (Below.refl _ w).alloc (Nat.le_refl _) o
  have HC : Hid (∀ o, Calls Try.prog 24 #[v, vt] (w.alloc o) fun e w' => e = .returned (.agg #[.int .i64 (K.checkF l t).1, .int .i64 (K.checkF l t).2]) ∧ Below (w.alloc o).heap.size (w.alloc o) w') := fun o => qCheck_any _ _ l (R0.below (HA.out o)) vt t (Rt.below (HA.out o) (Nat.le_refl _)) ht
  have HF : Hid ((K.checkF l t).1 = 0 → 0 ≤ k → k ≤ t.length → ∀ X, Below w.heap.size w X → Calls Try.prog 28 #[v, .iface 66 vt, .int .i64 k] X fun e w' => e = .returned (.int .i64 (K.which l t k)) ∧ Below X.heap.size X w') := fun h0 h1 h2 X hX => by
    obtain ⟨z1, z2, _⟩ := K.checkF_zero h0
    obtain ⟨y1, y2, _⟩ := K.rulesF_zero z1
    exact qFirst_any X v l (R0.below hX) y1 y2 vt t (Rt.below hX (Nat.le_refl _)) (K.textE_zero z2) k h1 h2
  have hI1 : -9223372036854775808 ≤ k := hk.1
  have hI2 : k ≤ 9223372036854775807 := hk.2
  obtain ⟨ao, cap, rfl⟩ := R0.len
  obtain ⟨xo, xc, rfl, _⟩ := Rt
  obtain ⟨⟨o0, o1, o2⟩, HO⟩ : ∃ o, Hid (K.whichF l t k = o) := ⟨_, rfl⟩
  rw [HO.out]
  unfold K.whichF at HO
  obtain ⟨⟨e1, e2⟩, he⟩ : ∃ o, K.checkF l t = o := ⟨_, rfl⟩
  rw [he] at HC HF HO
  generalize K.which l t k = wi at *
  simp only at HC HF HO ⊢
  clear he R0 hk
  go_enter Try.func12, Try.ntmps12
  go_wp2_with fail
  refine (HC.out _).mono ?_
  rintro e w1 ⟨rfl, b1⟩
  obtain ⟨h1, B1, s1⟩ := K.one_box b1
  have HB1 : Hid (Below w.heap.size w w1) := B1
  have HX1 : Hid (w1.heap[w.heap.size]? = some (.cells #[.int .i64 0, .int .i64 0] 28)) := h1
  obtain ⟨x0, x1, f0, f1⟩ := K.box2 h1
  have k0 : ∀ o, (w1.alloc o).cell? ⟨w.heap.size, 0, none⟩ = some (.int .i64 0) := fun o => K.alloc_cell x0 o
  have k1 : ∀ o, (w1.alloc o).cell? ⟨w.heap.size, 1, none⟩ = some (.int .i64 0) := fun o => K.alloc_cell x1 o
  have g0 : ∀ o, (w1.alloc o).frozen? ⟨w.heap.size, 0, none⟩ = false := fun o => K.alloc_free h1 o 0
  have g1 : ∀ o, (w1.alloc o).frozen? ⟨w.heap.size, 1, none⟩ = false := fun o => K.alloc_free h1 o 1
  have HB2 : Hid (∀ o, Below w.heap.size w (w1.alloc o)) := fun o => HB1.out.alloc (by omega) o
  clear b1 B1 HC x0 x1 f0 f1 h1
  by_cases q : e1 = 0
  · subst q
    by_cases q1 : k < 0
    · have ho := HO.out
      rw [if_pos rfl, if_pos (.inl q1)] at ho
      cases ho
      go_wp2
      refine bodyPost_ret (v := .tuple #[.int .i64 0, .agg #[.int .i64 3, .int .i64 0]]) (by simp [results, Try.results12, go_sem, *]) rfl ?_
      exact ⟨rfl, ((HB2.out _).setCell (p := ⟨w.heap.size, 0, none⟩) (Nat.le_refl _) _).setCell (p := ⟨w.heap.size, 1, none⟩) (Nat.le_refl _) _⟩
    · by_cases q2 : (t.length : Int) < k
      · have ho := HO.out
        rw [if_pos rfl, if_pos (.inr q2)] at ho
        cases ho
        go_wp2
        refine bodyPost_ret (v := .tuple #[.int .i64 0, .agg #[.int .i64 3, .int .i64 0]]) (by simp [results, Try.results12, go_sem, *]) rfl ?_
        exact ⟨rfl, ((HB2.out _).setCell (p := ⟨w.heap.size, 0, none⟩) (Nat.le_refl _) _).setCell (p := ⟨w.heap.size, 1, none⟩) (Nat.le_refl _) _⟩
      · have ho := HO.out
        rw [if_pos rfl, if_neg (by omega)] at ho
        cases ho
        have HF2 := HF.out rfl (by omega) (by omega)
        clear HF
        go_wp2_with fail
        refine (HF2 _ (HB2.out _)).mono ?_
        rintro e w2 ⟨rfl, b2⟩
        have HB3 : Hid (Below w.heap.size w w2) := (HB2.out _).trans (b2.mono (HB2.out _).size)
        have h2 : w2.heap[w.heap.size]? = some (.cells #[.int .i64 0, .int .i64 0] 28) := by
          rw [(K.one_box b2).2.1.block _ (by omega)]; exact HX1.out
        obtain ⟨x0, x1, f0, f1⟩ := K.box2 h2
        clear b2 h2 HF2 k0 k1 g0 g1
        go_wp2
        refine bodyPost_ret (v := .tuple #[.int .i64 o0, .agg #[.int .i64 0, .int .i64 0]]) (by simp [results, Try.results12, go_sem, *]) rfl ?_
        exact ⟨rfl, (HB3.out.setCell (p := ⟨w.heap.size, 0, none⟩) (Nat.le_refl _) _).setCell (p := ⟨w.heap.size, 1, none⟩) (Nat.le_refl _) _⟩
  · have ho := HO.out
    rw [if_neg q] at ho
    cases ho
    go_wp2
    go_region
    go_wp2
    refine bodyPost_ret (v := .tuple #[.int .i64 0, .agg #[.int .i64 o1, .int .i64 o2]]) (by simp [results, Try.results12, go_sem, *]) rfl ?_
    exact ⟨rfl, (((HB2.out _).setCell (p := ⟨w.heap.size, 0, none⟩) (Nat.le_refl _) _).setCell (p := ⟨w.heap.size, 1, none⟩) (Nat.le_refl _) _).drew⟩

end Go.Proofs.Ytdmpmkcigjkilab
