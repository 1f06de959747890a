/-
  scriptlaw4.GapPlays answers true, for every text and all edits.
-/
import Derived.Test.YtcphiemfjdbhfaaGRef
import Derived.Test.YtcphiemfjdbhfaaSame
namespace Go.Proofs.Ytcphiemfjdbhfaa
open Go.RowKit

theorem rplay_any (w : World) (v : Value) (R : List Int) (vl : Value) (l : List G.Ed) (hv : L.Rd w v .i32 R) (hl : G.RdE w vl l) (hR : R.length ≤ 140737488355328) :
    Calls Try.prog 5 #[v, vl] w (G.Plays w R l) := by
  by_cases h4 : 4000 < R.length
  · obtain ⟨sp, c, rfl, _⟩ := hv
    exact rplay_bad w sp c R vl l h4 hR
  · exact rplay_ok w v R vl l hv hl (by omega)

theorem rde_below {w w' : World} {v : Value} {l : List G.Ed} (h : G.RdE w v l) (hb : Below w.heap.size w w') : G.RdE w' v l := by
  obtain ⟨ao, cap, rfl, hl, hc⟩ := h
  refine ⟨ao, cap, rfl, hl, fun hz => ?_⟩
  obtain ⟨b, off, h1, hcell⟩ := hc hz
  refine ⟨b, off, h1, fun j e hj => ?_⟩
  obtain ⟨q0, q1, sp, c, q2, r, rest⟩ := hcell j e hj
  have hlt := L.block_lt q0
  refine ⟨?_, ?_, sp, c, ?_, r.below hb (Nat.le_refl _), rest⟩
  · rw [hb.cell (p := ⟨b, _, none⟩) hlt]; exact q0
  · rw [hb.cell (p := ⟨b, _, none⟩) hlt]; exact q1
  · rw [hb.cell (p := ⟨b, _, none⟩) hlt]; exact q2

theorem res_len (R : List Int) (l : List G.Ed) : (G.res R l).2.1.length ≤ 4000 := by
  have key : ∀ (l : List G.Ed) (k : Nat) (s : G.St), s.1.length + s.2.length ≤ 4000 → (G.play k l s).2.2.1.length + (G.play k l s).2.2.2.length ≤ 4000 := by
    intro l
    induction l with
    | nil => intro k s h; exact h
    | cons e l ih =>
      intro k s h
      unfold G.play
      split
      · exact ih _ _ (G.step_len e s h ‹_›)
      · exact h
  unfold G.res
  split
  · simp
  · split
    · have := key l 0 ([], R) (by simp; omega)
      simp only [List.length_append]
      exact this
    · simp

set_option maxHeartbeats 2000000 in
theorem gapplays_any (w : World) (v : Value) (R : List Int) (vl : Value) (l : List G.Ed) (hv : L.Rd w v .i32 R) (hl : G.RdE w vl l) (hR : R.length ≤ 140737488355328) :
    Calls Try.prog 3 #[v, vl] w fun e w' => e = .returned (.bool true) ∧ Below w.heap.size w w' := by
  have HV : Hid (L.Rd w v .i32 R) := hv
  have HL : Hid (G.RdE w vl l) := hl
  obtain ⟨sp, c, rfl, _⟩ := hv
  obtain ⟨ao, cap, rfl, _⟩ := hl
  have hlen := res_len R l
  go_enter Try.func3, Try.ntmps3
  go_wp2_with fail
  refine (gplay_any _ _ R _ l HV.out HL.out (by unfold maxLen; omega)).mono ?_
  rintro e w1 ⟨v1, rfl, r1, b1⟩
  have HP2 : Hid (∀ o, Calls Try.prog 5 #[.slice sp R.length c, .slice ao l.length cap] (w1.alloc o) (G.Plays (w1.alloc o) R l)) := fun o => by
    have hb : Below w.heap.size w (w1.alloc o) := b1.alloc b1.size o
    exact rplay_any _ _ R _ l (HV.out.below hb (Nat.le_refl _)) (rde_below HL.out hb) hR
  have HR1 : Hid (L.Rd w1 v1 .i32 (G.res R l).2.1) := r1
  have HB1 : Hid (Below w.heap.size w w1) := b1
  obtain ⟨x1, c1, rfl, _⟩ := r1
  clear b1
  unfold G.Plays at HP2
  obtain ⟨X, hX⟩ : ∃ X, X = G.res R l := ⟨_, rfl⟩
  rw [← hX] at HP2 HR1 hlen ⊢
  clear hX
  obtain ⟨⟨er, k⟩, zs, cu⟩ := X
  simp only at HP2 HR1 hlen ⊢
  go_wp2_with fail
  refine (HP2.out _).mono ?_
  rintro e w2 ⟨v2, rfl, r2, b2⟩
  have HR2 : Hid (L.Rd w2 v2 .i32 zs) := r2
  have hs : w1.heap.size < w2.heap.size := by have := b2.size; simp at this; omega
  have d0 : w2.cell? ⟨w1.heap.size, 0, none⟩ = some (.int .i64 er) := by
    rw [b2.cell (p := ⟨w1.heap.size, 0, none⟩) (by simp)]; exact World.cell?_alloc_at _ _ _ _ (by simp)
  have d1 : w2.cell? ⟨w1.heap.size, 1, none⟩ = some (.int .i64 k) := by
    rw [b2.cell (p := ⟨w1.heap.size, 1, none⟩) (by simp)]; exact World.cell?_alloc_at _ _ _ _ (by simp)
  have HB2 : Hid (Below w1.heap.size w1 w2) := ((Below.refl _ w1).alloc (Nat.le_refl _) _).trans (b2.mono (by simp))
  obtain ⟨x2, c2, rfl, _⟩ := r2
  have hne : w1.heap.size ≠ w2.heap.size := by omega
  clear b2 HP2
  have HSm : Hid (∀ o, Calls Try.prog 6 #[.slice x1 zs.length c1, .slice x2 zs.length c2] (w2.alloc o) fun e w' => e = .returned (.bool (decide (zs = zs))) ∧ Below (w2.alloc o).heap.size (w2.alloc o) w') := fun o =>
    same_any _ _ _ zs zs ((HR1.out.below HB2.out (Nat.le_refl _)).below ((Below.refl _ w2).alloc (Nat.le_refl _) o) (Nat.le_refl _)) (HR2.out.below ((Below.refl _ w2).alloc (Nat.le_refl _) o) (Nat.le_refl _)) (by omega) (by omega)
  go_wp2_with fail
  refine (HSm.out _).mono ?_
  rintro e w3 ⟨rfl, b3⟩
  have HB3 : Hid (Below w.heap.size w w3) := (HB1.out.trans (HB2.out.mono HB1.out.size)).trans (((Below.refl _ w2).alloc (Nat.le_refl _) _).trans (b3.mono (by simp)) |>.mono (by have := HB1.out.size; omega))
  go_wp2
  go_ret
  exact ⟨by simp, HB3.out⟩

end Go.Proofs.Ytcphiemfjdbhfaa
