/-
  What scriptref1.One answers where a head of two, three or four bytes has all its bytes.
-/
import Derived.Test.YtefnjdgjbgmmeaaOneA
namespace Go.Proofs.Ytefnjdgjbgmmeaa
open Go.RowKit

theorem ne_two {d : Int} (h : (d / 64 != 2) = true) : ¬ d / 64 = 2 := by simpa using h
theorem eq_two {d : Int} (h : (d / 64 != 2) = false) : d / 64 = 2 := by simpa using h
theorem right_no {x : Int} (h : M.right x = false) : ¬ (0 ≤ x ∧ x ≤ 1114111 ∧ (x < 55296 ∨ 57343 < x)) := by unfold M.right at h; exact of_decide_eq_false h
theorem right_yes {x : Int} (h : M.right x = true) : 0 ≤ x ∧ x ≤ 1114111 ∧ (x < 55296 ∨ 57343 < x) := by unfold M.right at h; exact of_decide_eq_true h
theorem ends {n c b1 b2 b3 x y : Nat} {X Y : Int} (h : oneR n c b1 b2 b3 = (x, y)) (hx : X = (x : Int)) (hy : Y = (y : Int)) : X = ((oneR n c b1 b2 b3).1 : Int) ∧ Y = ((oneR n c b1 b2 b3).2 : Int) := by
  rw [h]; exact ⟨hx, hy⟩

variable {n c b1 b2 b3 : Nat}
theorem two_no (hc : (c : Int) / 32 = 6) (hn : 1 < n) (h : ¬ ((b1 : Int) / 64 = 2 ∧ 128 ≤ ((c : Int) - 192) * 64 + (b1 : Int) % 64)) : (0 : Int) = ((oneR n c b1 b2 b3).1 : Int) ∧ (0 : Int) = ((oneR n c b1 b2 b3).2 : Int) := by
  refine ends (x := 0) (y := 0) ?_ rfl rfl
  rw [oneR_two (by omega) hn, if_neg (by omega)]
theorem two_yes (hc : (c : Int) / 32 = 6) (hn : 1 < n) (h1 : (b1 : Int) / 64 = 2) (h2 : 128 ≤ ((c : Int) - 192) * 64 + (b1 : Int) % 64) : ((c : Int) - 192) * 64 + (b1 : Int) % 64 = ((oneR n c b1 b2 b3).1 : Int) ∧ (2 : Int) = ((oneR n c b1 b2 b3).2 : Int) := by
  refine ends (x := (c - 192) * 64 + b1 % 64) (y := 2) ?_ (by omega) rfl
  rw [oneR_two (by omega) hn, if_pos (by omega)]
theorem three_no (hc : (c : Int) / 16 = 14) (hn : 2 < n) (h : ¬ ((b1 : Int) / 64 = 2 ∧ (b2 : Int) / 64 = 2 ∧ 2048 ≤ (((c : Int) - 224) * 64 + (b1 : Int) % 64) * 64 + (b2 : Int) % 64 ∧ M.right ((((c : Int) - 224) * 64 + (b1 : Int) % 64) * 64 + (b2 : Int) % 64) = true)) : (0 : Int) = ((oneR n c b1 b2 b3).1 : Int) ∧ (0 : Int) = ((oneR n c b1 b2 b3).2 : Int) := by
  refine ends (x := 0) (y := 0) ?_ rfl rfl
  rw [oneR_three (by omega) hn, if_neg]
  intro h1
  apply h
  refine ⟨by omega, by omega, by omega, ?_⟩
  unfold M.right
  exact decide_eq_true (by omega)
theorem three_yes (hc : (c : Int) / 16 = 14) (hn : 2 < n) (h1 : (b1 : Int) / 64 = 2) (h2 : (b2 : Int) / 64 = 2) (h3 : 2048 ≤ (((c : Int) - 224) * 64 + (b1 : Int) % 64) * 64 + (b2 : Int) % 64) (h4 : M.right ((((c : Int) - 224) * 64 + (b1 : Int) % 64) * 64 + (b2 : Int) % 64) = true) :
    (((c : Int) - 224) * 64 + (b1 : Int) % 64) * 64 + (b2 : Int) % 64 = ((oneR n c b1 b2 b3).1 : Int) ∧ (3 : Int) = ((oneR n c b1 b2 b3).2 : Int) := by
  have h5 := right_yes h4
  refine ends (x := ((c - 224) * 64 + b1 % 64) * 64 + b2 % 64) (y := 3) ?_ (by omega) rfl
  rw [oneR_three (by omega) hn, if_pos (by omega)]
theorem four_no (hc : (c : Int) / 8 = 30) (hn : 3 < n) (h : ¬ ((b1 : Int) / 64 = 2 ∧ (b2 : Int) / 64 = 2 ∧ (b3 : Int) / 64 = 2 ∧ 65536 ≤ ((((c : Int) - 240) * 64 + (b1 : Int) % 64) * 64 + (b2 : Int) % 64) * 64 + (b3 : Int) % 64 ∧ M.right (((((c : Int) - 240) * 64 + (b1 : Int) % 64) * 64 + (b2 : Int) % 64) * 64 + (b3 : Int) % 64) = true)) : (0 : Int) = ((oneR n c b1 b2 b3).1 : Int) ∧ (0 : Int) = ((oneR n c b1 b2 b3).2 : Int) := by
  refine ends (x := 0) (y := 0) ?_ rfl rfl
  rw [oneR_four (by omega) hn, if_neg]
  intro h1
  apply h
  refine ⟨by omega, by omega, by omega, by omega, ?_⟩
  unfold M.right
  exact decide_eq_true (by omega)
theorem four_yes (hc : (c : Int) / 8 = 30) (hn : 3 < n) (h1 : (b1 : Int) / 64 = 2) (h2 : (b2 : Int) / 64 = 2) (hb : (b3 : Int) / 64 = 2) (h3 : 65536 ≤ ((((c : Int) - 240) * 64 + (b1 : Int) % 64) * 64 + (b2 : Int) % 64) * 64 + (b3 : Int) % 64) (h4 : M.right (((((c : Int) - 240) * 64 + (b1 : Int) % 64) * 64 + (b2 : Int) % 64) * 64 + (b3 : Int) % 64) = true) :
    ((((c : Int) - 240) * 64 + (b1 : Int) % 64) * 64 + (b2 : Int) % 64) * 64 + (b3 : Int) % 64 = ((oneR n c b1 b2 b3).1 : Int) ∧ (4 : Int) = ((oneR n c b1 b2 b3).2 : Int) := by
  have h5 := right_yes h4
  refine ends (x := (((c - 240) * 64 + b1 % 64) * 64 + b2 % 64) * 64 + b3 % 64) (y := 4) ?_ (by omega) rfl
  rw [oneR_four (by omega) hn, if_pos (by omega)]

set_option maxRecDepth 100000 in
set_option maxHeartbeats 2000000 in
theorem one_two (s : ByteArray) (i b2 b3 : Nat) (w : World) (hi : i < s.size) (hj1 : i + 1 < s.size) (hs : s.size ≤ 1099511627776) (hc : ((s[i]'hi).toNat : Int) / 32 = 6) :
    Calls Try.prog 17 #[.string s, .int .i64 i] w fun e w' => e = .returned (.tuple #[.int .i32 ((oneR (s.size - i) (s[i]'hi).toNat (s[i + 1]'hj1).toNat b2 b3).1 : Int), .int .i64 ((oneR (s.size - i) (s[i]'hi).toNat (s[i + 1]'hj1).toNat b2 b3).2 : Int)]) ∧ Below w.heap.size w w' := by
  have hlt : (s[i]'hi).toNat < 256 := (s[i]'hi).toNat_lt
  have hl1 : (s[i + 1]'hj1).toNat < 256 := (s[i + 1]'hj1).toNat_lt
  have a1 := and_224 _ hlt
  have hlo : 192 ≤ ((s[i]'hi).toNat : Int) := by omega
  have hn : 1 < s.size - i := by omega
  go_enter Try.func17, Try.ntmps17
  go_wp2
  refine wp_loop_rounds 1 ?_
  rw [rounds_succ]
  go_wp2
  refine wp_loop_rounds 2 ?_
  repeat any_goals (rw [rounds_succ]; go_wp2_with (go_at_call 13; go_must (refine (refRight_any _ _).mono ?_; rintro e w' ⟨rfl, rfl⟩)))
  all_goals try (go_quiet (fail); go_wp2)
  all_goals go_ret2
  all_goals refine ⟨one_ret ?_, by repeat (first | exact Below.refl _ _ | refine Below.alloc ?_ (by simp <;> omega) _ | refine below_drewN ?_ _)⟩
  all_goals first
    | exact two_yes hc hn (eq_two (by assumption)) (by assumption) 
    | exact two_no hc hn (fun h => absurd (h.1) (ne_two (by assumption)))
    | exact two_no hc hn (fun h => absurd h.2 (by omega))
    | (exfalso; have h5 := right_no ‹M.right _ = false›; omega)

set_option maxRecDepth 100000 in
set_option maxHeartbeats 2000000 in
theorem one_three (s : ByteArray) (i b3 : Nat) (w : World) (hi : i < s.size) (hj1 : i + 1 < s.size) (hj2 : i + 2 < s.size) (hs : s.size ≤ 1099511627776) (hc : ((s[i]'hi).toNat : Int) / 16 = 14) :
    Calls Try.prog 17 #[.string s, .int .i64 i] w fun e w' => e = .returned (.tuple #[.int .i32 ((oneR (s.size - i) (s[i]'hi).toNat (s[i + 1]'hj1).toNat (s[i + 2]'hj2).toNat b3).1 : Int), .int .i64 ((oneR (s.size - i) (s[i]'hi).toNat (s[i + 1]'hj1).toNat (s[i + 2]'hj2).toNat b3).2 : Int)]) ∧ Below w.heap.size w w' := by
  have hlt : (s[i]'hi).toNat < 256 := (s[i]'hi).toNat_lt
  have hl1 : (s[i + 1]'hj1).toNat < 256 := (s[i + 1]'hj1).toNat_lt
  have hl2 : (s[i + 2]'hj2).toNat < 256 := (s[i + 2]'hj2).toNat_lt
  have a1 := and_224 _ hlt
  have a2 := and_240 _ hlt
  have hlo : 224 ≤ ((s[i]'hi).toNat : Int) := by omega
  have hn : 2 < s.size - i := by omega
  go_enter Try.func17, Try.ntmps17
  go_wp2
  refine wp_loop_rounds 2 ?_
  rw [rounds_succ]
  go_wp2
  rw [rounds_succ]
  go_wp2
  refine wp_loop_rounds 3 ?_
  repeat any_goals (rw [rounds_succ]; go_wp2_with (go_at_call 13; go_must (refine (refRight_any _ _).mono ?_; rintro e w' ⟨rfl, rfl⟩)))
  all_goals try (go_quiet (fail); go_wp2)
  all_goals go_ret2
  all_goals refine ⟨one_ret ?_, by repeat (first | exact Below.refl _ _ | refine Below.alloc ?_ (by simp <;> omega) _ | refine below_drewN ?_ _)⟩
  all_goals first
    | exact three_yes hc hn (eq_two (by assumption)) (eq_two (by assumption)) (by assumption) (by assumption)
    | exact three_no hc hn (fun h => absurd (h.1) (ne_two (by assumption)))
    | exact three_no hc hn (fun h => absurd (h.2.1) (ne_two (by assumption)))
    | exact three_no hc hn (fun h => absurd (h.2.2.1) (by omega))
    | exact three_no hc hn (fun h => by have h1 := h.2.2.2; have h2 := right_yes h1; exact absurd h2 (right_no (by assumption)))

set_option maxRecDepth 100000 in
set_option maxHeartbeats 2000000 in
theorem one_four (s : ByteArray) (i : Nat) (w : World) (hi : i < s.size) (hj1 : i + 1 < s.size) (hj2 : i + 2 < s.size) (hj3 : i + 3 < s.size) (hs : s.size ≤ 1099511627776) (hc : ((s[i]'hi).toNat : Int) / 8 = 30) :
    Calls Try.prog 17 #[.string s, .int .i64 i] w fun e w' => e = .returned (.tuple #[.int .i32 ((oneR (s.size - i) (s[i]'hi).toNat (s[i + 1]'hj1).toNat (s[i + 2]'hj2).toNat (s[i + 3]'hj3).toNat).1 : Int), .int .i64 ((oneR (s.size - i) (s[i]'hi).toNat (s[i + 1]'hj1).toNat (s[i + 2]'hj2).toNat (s[i + 3]'hj3).toNat).2 : Int)]) ∧ Below w.heap.size w w' := by
  have hlt : (s[i]'hi).toNat < 256 := (s[i]'hi).toNat_lt
  have hl1 : (s[i + 1]'hj1).toNat < 256 := (s[i + 1]'hj1).toNat_lt
  have hl2 : (s[i + 2]'hj2).toNat < 256 := (s[i + 2]'hj2).toNat_lt
  have hl3 : (s[i + 3]'hj3).toNat < 256 := (s[i + 3]'hj3).toNat_lt
  have a1 := and_224 _ hlt
  have a2 := and_240 _ hlt
  have a3 := and_248 _ hlt
  have hlo : 240 ≤ ((s[i]'hi).toNat : Int) := by omega
  have hn : 3 < s.size - i := by omega
  go_enter Try.func17, Try.ntmps17
  go_wp2
  refine wp_loop_rounds 3 ?_
  rw [rounds_succ]
  go_wp2
  rw [rounds_succ]
  go_wp2
  rw [rounds_succ]
  go_wp2
  refine wp_loop_rounds 4 ?_
  repeat any_goals (rw [rounds_succ]; go_wp2_with (go_at_call 13; go_must (refine (refRight_any _ _).mono ?_; rintro e w' ⟨rfl, rfl⟩)))
  all_goals try (go_quiet (fail); go_wp2)
  all_goals go_ret2
  all_goals refine ⟨one_ret ?_, by repeat (first | exact Below.refl _ _ | refine Below.alloc ?_ (by simp <;> omega) _ | refine below_drewN ?_ _)⟩
  all_goals first
    | exact four_yes hc hn (eq_two (by assumption)) (eq_two (by assumption)) (eq_two (by assumption)) (by assumption) (by assumption)
    | exact four_no hc hn (fun h => absurd (h.1) (ne_two (by assumption)))
    | exact four_no hc hn (fun h => absurd (h.2.1) (ne_two (by assumption)))
    | exact four_no hc hn (fun h => absurd (h.2.2.1) (ne_two (by assumption)))
    | exact four_no hc hn (fun h => absurd (h.2.2.2.1) (by omega))
    | exact four_no hc hn (fun h => by have h1 := h.2.2.2.2; have h2 := right_yes h1; exact absurd h2 (right_no (by assumption)))

end Go.Proofs.Ytefnjdgjbgmmeaa
