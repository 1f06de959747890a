/-
  What scriptref1.One answers of any text and any place in it: the rune that begins there and its bytes, or twice nothing.
-/
import Derived.Test.YtefnjdgjbgmmeaaRight
import Derived.Test.YtefnjdgjbgmmeaaUni2
import Derived.Deep.QuietTactic
import Derived.BigQuiet
namespace Go.Proofs.Ytefnjdgjbgmmeaa
open Go.RowKit

set_option maxHeartbeats 400000 in
theorem refRight_any (r : Int) (w : World) :
    Calls Try.prog 13 #[.int .i32 r] w fun e w' => e = .returned (.bool (M.right r)) ∧ w' = w := by
  go_enter Try.func13, Try.ntmps13
  go_wp2
  all_goals go_ret
  all_goals refine ⟨L.ret_bool ?_, rfl⟩
  all_goals (unfold M.right; rw [Bool.eq_iff_iff]; simp; try omega)

theorem and_224 : ∀ c : Nat, c < 256 → bits .and .i64 (c : Int) 224 = 32 * ((c : Int) / 32) := by decide +kernel
theorem and_240 : ∀ c : Nat, c < 256 → bits .and .i64 (c : Int) 240 = 16 * ((c : Int) / 16) := by decide +kernel
theorem and_248 : ∀ c : Nat, c < 256 → bits .and .i64 (c : Int) 248 = 8 * ((c : Int) / 8) := by decide +kernel

/-- what One answers, of the bytes -/
def oneR (n c b1 b2 b3 : Nat) : Nat × Nat := if M.bad (Lib.decodeN n c b1 b2 b3) then (0, 0) else Lib.decodeN n c b1 b2 b3
theorem one_ret {n c b1 b2 b3 : Nat} {x y : Int} (h : x = ((oneR n c b1 b2 b3).1 : Int) ∧ y = ((oneR n c b1 b2 b3).2 : Int)) :
    Ending.returned (.tuple #[.int .i32 x, .int .i64 y]) = .returned (.tuple #[.int .i32 ((oneR n c b1 b2 b3).1 : Int), .int .i64 ((oneR n c b1 b2 b3).2 : Int)]) := by rw [h.1, h.2]

/-- no row's head -/
theorem oneR_none {n c b1 b2 b3 : Nat} (h : ¬ c < 128) (h1 : ¬ (c / 32 = 6 ∧ 1 < n)) (h2 : ¬ (c / 16 = 14 ∧ 2 < n)) (h3 : ¬ (c / 8 = 30 ∧ 3 < n)) : oneR n c b1 b2 b3 = (0, 0) := by
  have e : Lib.decodeN n c b1 b2 b3 = (65533, 1) := by
    unfold Lib.decodeN
    rw [if_neg h, if_neg (by omega), if_neg (by omega), if_neg (by omega)]
  unfold oneR
  rw [e]
  rfl

set_option maxRecDepth 100000 in
set_option maxHeartbeats 1000000 in
theorem one_none (s : ByteArray) (i b1 b2 b3 : Nat) (w : World) (hi : i < s.size) (hs : s.size ≤ 1099511627776) (hc : ¬ ((s[i]'hi).toNat : Int) < 128)
    (h1 : ¬ (((s[i]'hi).toNat : Int) / 32 = 6 ∧ i + 1 < s.size)) (h2 : ¬ (((s[i]'hi).toNat : Int) / 16 = 14 ∧ i + 2 < s.size)) (h3 : ¬ (((s[i]'hi).toNat : Int) / 8 = 30 ∧ i + 3 < s.size)) :
    Calls Try.prog 17 #[.string s, .int .i64 i] w fun e w' => e = .returned (.tuple #[.int .i32 ((oneR (s.size - i) (s[i]'hi).toNat b1 b2 b3).1 : Int), .int .i64 ((oneR (s.size - i) (s[i]'hi).toNat b1 b2 b3).2 : Int)]) ∧ Below w.heap.size w w' := by
  have HR : Hid (oneR (s.size - i) (s[i]'hi).toNat b1 b2 b3 = (0, 0)) := oneR_none (by omega) (by omega) (by omega) (by omega)
  have hlt : (s[i]'hi).toNat < 256 := (s[i]'hi).toNat_lt
  have a1 := and_224 _ hlt
  have a2 := and_240 _ hlt
  have a3 := and_248 _ hlt
  go_enter Try.func17, Try.ntmps17
  go_wp2
  refine wp_loop_rounds 4 ?_
  repeat any_goals (rw [rounds_succ]; go_wp2)
  all_goals go_ret2
  all_goals refine ⟨one_ret (by rw [HR.out]; exact ⟨rfl, rfl⟩), ?_⟩
  all_goals repeat (first | exact Below.refl _ _ | refine Below.alloc ?_ (by simp <;> omega) _)

set_option maxRecDepth 100000 in
set_option maxHeartbeats 1000000 in
theorem one_ascii (s : ByteArray) (i b1 b2 b3 : Nat) (w : World) (hi : i < s.size) (hc : ((s[i]'hi).toNat : Int) < 128) :
    Calls Try.prog 17 #[.string s, .int .i64 i] w fun e w' => e = .returned (.tuple #[.int .i32 ((oneR (s.size - i) (s[i]'hi).toNat b1 b2 b3).1 : Int), .int .i64 ((oneR (s.size - i) (s[i]'hi).toNat b1 b2 b3).2 : Int)]) ∧ Below w.heap.size w w' := by
  have HR : Hid (oneR (s.size - i) (s[i]'hi).toNat b1 b2 b3 = ((s[i]'hi).toNat, 1)) := by
    have e : Lib.decodeN (s.size - i) (s[i]'hi).toNat b1 b2 b3 = ((s[i]'hi).toNat, 1) := by unfold Lib.decodeN; rw [if_pos (by omega)]
    show _ = _
    unfold oneR
    rw [e, if_neg]
    unfold M.bad
    have : ¬ (s[i]'hi).toNat = 65533 := by omega
    simp [this]
  go_enter Try.func17, Try.ntmps17
  go_wp2
  go_ret2
  exact ⟨one_ret (by rw [HR.out]; exact ⟨rfl, rfl⟩), Below.refl _ _⟩

theorem oneR_bad {n c b1 b2 b3 : Nat} (h : Lib.decodeN n c b1 b2 b3 = (65533, 1)) : oneR n c b1 b2 b3 = (0, 0) := by unfold oneR; rw [h]; rfl
theorem oneR_good {n c b1 b2 b3 x k : Nat} (h : Lib.decodeN n c b1 b2 b3 = (x, k)) (hk : 2 ≤ k) : oneR n c b1 b2 b3 = (x, k) := by
  unfold oneR
  rw [h, if_neg]
  unfold M.bad
  have : ¬ k = 1 := by omega
  simp [this]
theorem right_iff (x : Nat) : (M.right (x : Int) = true) = (x ≤ 1114111 ∧ (x < 55296 ∨ 57343 < x)) := by unfold M.right; simp; omega

/-- a head of two bytes -/
theorem oneR_two {n c b1 b2 b3 : Nat} (hc : c / 32 = 6) (hn : 1 < n) : oneR n c b1 b2 b3 = if b1 / 64 = 2 ∧ 128 ≤ (c - 192) * 64 + b1 % 64 then ((c - 192) * 64 + b1 % 64, 2) else (0, 0) := by
  have e1 : c % 32 * 64 + b1 % 64 = (c - 192) * 64 + b1 % 64 := by omega
  by_cases h1 : b1 / 64 = 2 ∧ 128 ≤ (c - 192) * 64 + b1 % 64
  · rw [if_pos h1]
    refine oneR_good ?_ (by omega)
    unfold Lib.decodeN
    rw [if_neg (by omega), if_pos ⟨hc, hn, h1.1⟩, e1, if_pos h1.2]
  · rw [if_neg h1]
    refine oneR_bad ?_
    unfold Lib.decodeN
    rw [if_neg (by omega)]
    by_cases h2 : b1 / 64 = 2
    · rw [if_pos ⟨hc, hn, h2⟩, e1, if_neg (by omega)]
    · rw [if_neg (by omega), if_neg (by omega), if_neg (by omega)]
theorem oneR_three {n c b1 b2 b3 : Nat} (hc : c / 16 = 14) (hn : 2 < n) :
    oneR n c b1 b2 b3 = if b1 / 64 = 2 ∧ b2 / 64 = 2 ∧ 2048 ≤ ((c - 224) * 64 + b1 % 64) * 64 + b2 % 64 ∧ (((c - 224) * 64 + b1 % 64) * 64 + b2 % 64 ≤ 1114111 ∧ (((c - 224) * 64 + b1 % 64) * 64 + b2 % 64 < 55296 ∨ 57343 < ((c - 224) * 64 + b1 % 64) * 64 + b2 % 64)) then (((c - 224) * 64 + b1 % 64) * 64 + b2 % 64, 3) else (0, 0) := by
  have e1 : c % 16 * 4096 + b1 % 64 * 64 + b2 % 64 = ((c - 224) * 64 + b1 % 64) * 64 + b2 % 64 := by omega
  have hd : Lib.decodeN n c b1 b2 b3 = if b1 / 64 = 2 ∧ b2 / 64 = 2 ∧ 2048 ≤ ((c - 224) * 64 + b1 % 64) * 64 + b2 % 64 ∧ (((c - 224) * 64 + b1 % 64) * 64 + b2 % 64 ≤ 1114111 ∧ (((c - 224) * 64 + b1 % 64) * 64 + b2 % 64 < 55296 ∨ 57343 < ((c - 224) * 64 + b1 % 64) * 64 + b2 % 64)) then (((c - 224) * 64 + b1 % 64) * 64 + b2 % 64, 3) else (65533, 1) := by
    unfold Lib.decodeN
    rw [if_neg (by omega), if_neg (by omega), e1]
    generalize ((c - 224) * 64 + b1 % 64) * 64 + b2 % 64 = x
    by_cases h2 : b1 / 64 = 2 ∧ b2 / 64 = 2
    · rw [if_pos (by omega)]
      by_cases h3 : 2048 ≤ x ∧ (x ≤ 1114111 ∧ (x < 55296 ∨ 57343 < x))
      · rw [if_pos (by omega), if_pos (by omega)]
      · rw [if_neg (by omega), if_neg (by omega)]
    · rw [if_neg (by omega), if_neg (by omega), if_neg (by omega)]
  split
  · rename_i h1
    rw [if_pos h1] at hd
    exact oneR_good hd (by omega)
  · rename_i h1
    rw [if_neg h1] at hd
    exact oneR_bad hd
theorem oneR_four {n c b1 b2 b3 : Nat} (hc : c / 8 = 30) (hn : 3 < n) :
    oneR n c b1 b2 b3 = if b1 / 64 = 2 ∧ b2 / 64 = 2 ∧ b3 / 64 = 2 ∧ 65536 ≤ (((c - 240) * 64 + b1 % 64) * 64 + b2 % 64) * 64 + b3 % 64 ∧ ((((c - 240) * 64 + b1 % 64) * 64 + b2 % 64) * 64 + b3 % 64 ≤ 1114111 ∧ ((((c - 240) * 64 + b1 % 64) * 64 + b2 % 64) * 64 + b3 % 64 < 55296 ∨ 57343 < (((c - 240) * 64 + b1 % 64) * 64 + b2 % 64) * 64 + b3 % 64)) then ((((c - 240) * 64 + b1 % 64) * 64 + b2 % 64) * 64 + b3 % 64, 4) else (0, 0) := by
  have e1 : c % 8 * 262144 + b1 % 64 * 4096 + b2 % 64 * 64 + b3 % 64 = (((c - 240) * 64 + b1 % 64) * 64 + b2 % 64) * 64 + b3 % 64 := by omega
  have hd : Lib.decodeN n c b1 b2 b3 = if b1 / 64 = 2 ∧ b2 / 64 = 2 ∧ b3 / 64 = 2 ∧ 65536 ≤ (((c - 240) * 64 + b1 % 64) * 64 + b2 % 64) * 64 + b3 % 64 ∧ ((((c - 240) * 64 + b1 % 64) * 64 + b2 % 64) * 64 + b3 % 64 ≤ 1114111 ∧ ((((c - 240) * 64 + b1 % 64) * 64 + b2 % 64) * 64 + b3 % 64 < 55296 ∨ 57343 < (((c - 240) * 64 + b1 % 64) * 64 + b2 % 64) * 64 + b3 % 64)) then ((((c - 240) * 64 + b1 % 64) * 64 + b2 % 64) * 64 + b3 % 64, 4) else (65533, 1) := by
    unfold Lib.decodeN
    rw [if_neg (by omega), if_neg (by omega), if_neg (by omega), e1]
    generalize (((c - 240) * 64 + b1 % 64) * 64 + b2 % 64) * 64 + b3 % 64 = x
    by_cases h2 : b1 / 64 = 2 ∧ b2 / 64 = 2 ∧ b3 / 64 = 2
    · rw [if_pos (by omega)]
      by_cases h3 : 65536 ≤ x ∧ (x ≤ 1114111 ∧ (x < 55296 ∨ 57343 < x))
      · rw [if_pos (by omega), if_pos (by omega)]
      · rw [if_neg (by omega), if_neg (by omega)]
    · rw [if_neg (by omega), if_neg (by omega)]
  split
  · rename_i h1
    rw [if_pos h1] at hd
    exact oneR_good hd (by omega)
  · rename_i h1
    rw [if_neg h1] at hd
    exact oneR_bad hd

end Go.Proofs.Ytefnjdgjbgmmeaa
