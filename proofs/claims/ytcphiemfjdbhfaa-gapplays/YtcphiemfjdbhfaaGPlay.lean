/-
  What play of gap.Text does, and New.
-/
import Derived.Test.YtcphiemfjdbhfaaGConcat
namespace Go.Proofs.Ytcphiemfjdbhfaa
open Go.RowKit

theorem move_ok (w : World) (B g : Nat) (ao : Option Addr) (cur A Z : List Int) (h : G.Tx B g ao cur A Z w) (k : Nat) (hk : k ≤ A.length + Z.length) :
    Calls Try.prog 12 #[.pointer (some ⟨g, 0, none⟩), .int .i64 k] w fun e w' => e = .returned (.int .i64 0) ∧ G.Told B g w ((A ++ Z).take k) ((A ++ Z).drop k) w' := by
  have hf := h.fit
  by_cases h1 : k < A.length
  · obtain ⟨r, rfl⟩ := h.room.some (by omega)
    rw [List.take_append_of_le_length (by omega), List.drop_append_of_le_length (by omega)]
    exact move_left w B g r cur A Z h k h1
  · by_cases h2 : k = A.length
    · subst h2
      rw [List.take_left, List.drop_left]
      exact move_stay w B g ao cur A Z h
    · obtain ⟨m, rfl⟩ : ∃ m, k = A.length + m := ⟨k - A.length, by omega⟩
      obtain ⟨r, rfl⟩ := h.room.some (by omega)
      rw [List.take_length_add_append, List.drop_length_add_append]
      exact move_right w B g r cur A Z h _ m rfl (by omega) (by omega)

/-- numbers of 64 bits -/
def I64 (n : Int) : Prop := -9223372036854775808 ≤ n ∧ n ≤ 9223372036854775807

namespace G
/-- what an edit does, told of the text -/
def Does (B g : Nat) (w : World) (A Z : List Int) (e : Ed) (en : Ending) (w' : World) : Prop := en = .returned (.int .i64 (step e (A, Z)).1) ∧ Told B g w (step e (A, Z)).2.1 (step e (A, Z)).2.2 w'
theorem Does.of {B g : Nat} {w : World} {A Z : List Int} {e : Ed} {en : Ending} {w' : World} {x : Int} {A' Z' : List Int} (hs : step e (A, Z) = (x, A', Z')) (h : en = .returned (.int .i64 x) ∧ Told B g w A' Z' w') : Does B g w A Z e en w' := by
  unfold Does; rw [hs]; exact h
theorem Told.from {B g : Nat} {w w1 : World} {A Z : List Int} {w' : World} (h : Told B g w1 A Z w') (hb : Below B w w1) : Told B g w A Z w' := ⟨h.1, hb.trans h.2⟩
end G

set_option maxHeartbeats 4000000 in
theorem play_any (w : World) (B g : Nat) (ao : Option Addr) (cur A Z : List Int) (h : G.Tx B g ao cur A Z w) (e : G.Ed) (sp : Option Addr) (c : Nat) (hv : ∀ w', Below B w w' → L.Rd w' (.slice sp e.runes.length c) .i32 e.runes) (hlen : e.runes.length ≤ maxLen) (hk : I64 e.kind) (hn : I64 e.n) :
    Calls Try.prog 8 #[.pointer (some ⟨g, 0, none⟩), .agg #[.int .i64 e.kind, .int .i64 e.n, .slice sp e.runes.length c]] w (G.Does B g w A Z e) := by
  obtain ⟨kind, n, R⟩ := e
  obtain ⟨hk1, hk2⟩ := hk
  obtain ⟨hn1, hn2⟩ := hn
  simp only at hv hlen hk1 hk2 hn1 hn2 ⊢
  obtain ⟨w1, hw1⟩ : ∃ w1, w1 = w.alloc (.cells #[.int .i64 kind, .int .i64 n, .slice sp R.length c] 35) := ⟨_, rfl⟩
  have HX : Hid (G.Tx B g ao cur A Z w1) := by rw [hw1]; exact h.kept fun k hk => Below.heap_alloc w _ k hk
  have HB : Hid (Below B w w1) := by rw [hw1]; exact (Below.refl _ w).alloc h.size _
  have HV : Hid (∀ w', Below B w1 w' → L.Rd w' (.slice sp R.length c) .i32 R) := fun w' hb => hv w' (HB.out.trans hb)
  have c0 : w1.cell? ⟨w.heap.size, 0, none⟩ = some (.int .i64 kind) := by rw [hw1]; exact World.cell?_alloc_at _ _ _ _ (by simp)
  have c1 : w1.cell? ⟨w.heap.size, 1, none⟩ = some (.int .i64 n) := by rw [hw1]; exact World.cell?_alloc_at _ _ _ _ (by simp)
  have c2 : w1.cell? ⟨w.heap.size, 2, none⟩ = some (.slice sp R.length c) := by rw [hw1]; exact World.cell?_alloc_at _ _ _ _ (by simp)
  have hm := h.most
  have hf := h.fit
  have hw := h.few
  clear h hv
  have HW : Hid (w1 = w.alloc (.cells #[.int .i64 kind, .int .i64 n, .slice sp R.length c] 35)) := hw1
  clear hw1
  go_enter Try.func8, Try.ntmps8
  by_cases k1 : kind = 1
  · subst k1
    by_cases hb : n < 0 ∨ (A.length + Z.length : Int) < n
    · have HS : Hid (G.step ⟨1, n, R⟩ (A, Z) = (3, A, Z)) := by show _ = _; simp [G.step, hb]
      go_wp2_with (go_at_call 12; rw [← HW.out]; refine (move_bad _ B g ao cur A Z HX.out n hb).mono ?_; rintro e w' ⟨rfl, ht⟩)
      go_ret
      exact G.Does.of HS.out ⟨rfl, ht.from HB.out⟩
    · obtain ⟨k, rfl⟩ := Int.eq_ofNat_of_zero_le (show 0 ≤ n by omega)
      have HS : Hid (G.step ⟨1, k, R⟩ (A, Z) = (0, (A ++ Z).take k, (A ++ Z).drop k)) := by show _ = _; simp only [G.step, if_true]; rw [if_neg hb]; rfl
      go_wp2_with (go_at_call 12; rw [← HW.out]; refine (move_ok _ B g ao cur A Z HX.out k (by omega)).mono ?_; rintro e w' ⟨rfl, ht⟩)
      go_ret
      exact G.Does.of HS.out ⟨rfl, ht.from HB.out⟩
  · by_cases k2 : kind = 2
    · subst k2
      by_cases hb : 4000 < A.length + Z.length + R.length
      · have HS : Hid (G.step ⟨2, n, R⟩ (A, Z) = (4, A, Z)) := by show _ = _; simp only [G.step]; rw [if_neg (by decide), if_pos trivial, if_pos (by omega)]
        go_wp2_with (go_at_call 11; rw [← HW.out]; refine (put_bad _ B g ao cur A Z HX.out sp R.length c hlen hb).mono ?_; rintro e w' ⟨rfl, ht⟩)
        go_ret
        exact G.Does.of HS.out ⟨rfl, ht.from HB.out⟩
      · have HS : Hid (G.step ⟨2, n, R⟩ (A, Z) = (0, A ++ R, Z)) := by show _ = _; simp only [G.step]; rw [if_neg (by decide), if_pos trivial, if_neg (by omega)]
        go_wp2_with (go_at_call 11; rw [← HW.out]; refine (put_ok _ B g ao cur A Z HX.out _ R HV.out (by omega)).mono ?_; rintro e w' ⟨rfl, ht⟩)
        go_ret
        exact G.Does.of HS.out ⟨rfl, ht.from HB.out⟩
    · by_cases k3 : kind = 3
      · subst k3
        by_cases hb : n < 0 ∨ (Z.length : Int) < n
        · have HS : Hid (G.step ⟨3, n, R⟩ (A, Z) = (3, A, Z)) := by show _ = _; simp only [G.step]; rw [if_neg (by decide), if_neg (by decide), if_pos trivial, if_pos hb]
          go_wp2_with (go_at_call 13; rw [← HW.out]; refine (del_bad _ B g ao cur A Z HX.out n hb).mono ?_; rintro e w' ⟨rfl, ht⟩)
          go_ret
          exact G.Does.of HS.out ⟨rfl, ht.from HB.out⟩
        · obtain ⟨k, rfl⟩ := Int.eq_ofNat_of_zero_le (show 0 ≤ n by omega)
          have HS : Hid (G.step ⟨3, k, R⟩ (A, Z) = (0, A, Z.drop k)) := by show _ = _; simp only [G.step]; rw [if_neg (by decide), if_neg (by decide), if_pos trivial, if_neg hb]; rfl
          go_wp2_with (go_at_call 13; rw [← HW.out]; refine (del_ok _ B g ao cur A Z HX.out k (by omega)).mono ?_; rintro e w' ⟨rfl, ht⟩)
          go_ret
          exact G.Does.of HS.out ⟨rfl, ht.from HB.out⟩
      · by_cases k4 : kind = 4
        · subst k4
          by_cases hb : n < 0 ∨ (A.length : Int) < n
          · have HS : Hid (G.step ⟨4, n, R⟩ (A, Z) = (3, A, Z)) := by show _ = _; simp only [G.step]; rw [if_neg (by decide), if_neg (by decide), if_neg (by decide), if_pos trivial, if_pos hb]
            go_wp2_with (go_at_call 14; rw [← HW.out]; refine (back_bad _ B g ao cur A Z HX.out n hb).mono ?_; rintro e w' ⟨rfl, ht⟩)
            go_ret
            exact G.Does.of HS.out ⟨rfl, ht.from HB.out⟩
          · obtain ⟨k, rfl⟩ := Int.eq_ofNat_of_zero_le (show 0 ≤ n by omega)
            have HS : Hid (G.step ⟨4, k, R⟩ (A, Z) = (0, A.take (A.length - k), Z)) := by show _ = _; simp only [G.step]; rw [if_neg (by decide), if_neg (by decide), if_neg (by decide), if_pos trivial, if_neg hb]; rfl
            go_wp2_with (go_at_call 14; rw [← HW.out]; refine (back_ok _ B g ao cur A Z HX.out k (by omega)).mono ?_; rintro e w' ⟨rfl, ht⟩)
            go_ret
            exact G.Does.of HS.out ⟨rfl, ht.from HB.out⟩
        · have HS : Hid (G.step ⟨kind, n, R⟩ (A, Z) = (1, A, Z)) := by show _ = _; simp only [G.step]; rw [if_neg k1, if_neg k2, if_neg k3, if_neg k4]
          go_wp2
          go_ret
          rw [← HW.out]
          exact G.Does.of HS.out ⟨rfl, HX.out.told HB.out⟩

end Go.Proofs.Ytcphiemfjdbhfaa
