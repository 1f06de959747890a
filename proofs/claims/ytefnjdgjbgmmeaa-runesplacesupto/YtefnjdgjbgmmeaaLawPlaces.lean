/-
  The walk of scriptlaw1.RunesPlaces: of any text of at most 2^40 bytes it answers true, and nothing that was there has changed.
-/
import Derived.Test.YtefnjdgjbgmmeaaAlive
import Derived.Test.YtefnjdgjbgmmeaaPlaces
import Derived.Deep.QuietTactic
import Derived.BigQuiet
namespace Go.Proofs.Ytefnjdgjbgmmeaa
open Go.RowKit

/-- what the law asks of Places' slice -/
theorem places_rd {w : World} {B : Nat} {e : TypeId} {v : Value} {s : ByteArray} (h : w.ownsRow B e 1 v (M.pl s).length ((M.pl s).map (Value.int .i64))) :
    ∃ b off cap, v = .slice (some ⟨b, off, none⟩) ((M.rn s).length + 1) cap ∧ w.cell? ⟨b, off, none⟩ = some (.int .i64 0) ∧ w.cell? ⟨b, off + (M.rn s).length, none⟩ = some (.int .i64 s.size) ∧
      Hid (∀ j z, (M.pl s)[j]? = some z → w.cell? ⟨b, off + j, none⟩ = some (.int .i64 z)) := by
  obtain ⟨ao, cap, rfl, hd⟩ := L.Rd.of_owns h
  obtain ⟨b, off, rfl, hc⟩ := hd (by have := M.pl_length s; intro e; rw [e] at this; simp at this)
  rw [M.pl_length]
  exact ⟨b, off, cap, rfl, hc 0 0 (M.pl_first s), hc _ _ (M.pl_last s), hc⟩
theorem decode_rd {w : World} {B : Nat} {e : TypeId} {v : Value} {s : ByteArray} (h : w.ownsRow B e 1 v (M.rn s).length ((M.rn s).map (Value.int .i32))) :
    ∃ ao cap, v = .slice ao (M.rn s).length cap := by
  obtain ⟨ao, cap, rfl, _⟩ := L.Rd.of_owns h
  exact ⟨ao, cap, rfl⟩

theorem block_lt {w : World} {b o : Nat} {v : Value} (h : w.cell? ⟨b, o, none⟩ = some v) : b < w.heap.size := by
  simp only [World.cell?] at h
  by_cases hlt : b < w.heap.size
  · exact hlt
  · simp [Array.getElem?_eq_none (Nat.le_of_not_lt hlt)] at h

set_option maxHeartbeats 1000000 in
theorem law_places (s : ByteArray) (w : World) (hs : s.size ≤ 1099511627776) :
    Calls Try.prog 6 #[.string s] w fun e w' => e = .returned (.bool true) ∧ Below w.heap.size w w' := by
  have hrl := M.rn_length s
  have hpl := M.pl_length s
  go_enter Try.func6, Try.ntmps6
  go_wp2_with (first
    | (go_at_call 16; go_must (refine (alive_any _).mono ?_; rintro e w1 ⟨rfl, hb1⟩))
    | (go_at_call 8; go_must (refine (places_any s _ hs).mono ?_; rintro e w2 ⟨v, rfl, hown, hb2⟩; obtain ⟨b, off, cap, rfl, c0, cn, hc⟩ := places_rd hown; clear hown; have hblt := block_lt c0))
    | (go_at_call 10; go_must (refine (decode_any s _ hs).mono ?_; rintro e w3 ⟨v2, rfl, hown2, hb3⟩; obtain ⟨ao, cap2, rfl⟩ := decode_rd hown2; clear hown2; rw [← hb3.cell (p := ⟨_, _, none⟩) hblt] at c0 cn)))
  have HC : Hid (∀ j z, (M.pl s)[j]? = some z → w3.cell? ⟨b, off + j, none⟩ = some (.int .i64 z)) := fun j z hj => (hb3.cell (p := ⟨b, off + j, none⟩) hblt).trans (hc.out j z hj)
  have HB : Hid (Below w.heap.size w w3) := (hb1.trans (hb2.mono hb1.size)).trans (hb3.mono (by have := hb1.size; have := hb2.size; omega))
  clear hc c0 cn hb1 hb2 hb3
  go_loopw [5] (fun i wr => ∃ m n : Nat, m ≤ (M.rn s).length ∧ i = .int .i64 ((m : Int) + 1) ∧ wr = w3.drewN n) (fun i _ => (M.rn s).length + 1 - (intOf i).toNat)
  case atStart => exact ⟨0, 0, Nat.zero_le _, rfl, rfl⟩
  case round =>
    obtain ⟨m, n, hm, rfl, rfl⟩ := hrel
    by_cases hlt : m < (M.rn s).length
    · obtain ⟨x, hx⟩ : ∃ x, (M.pl s)[m]? = some x := ⟨(M.pl s)[m]'(by omega), by simp [show m < (M.pl s).length by omega]⟩
      obtain ⟨y, hy⟩ : ∃ y, (M.pl s)[m + 1]? = some y := ⟨(M.pl s)[m + 1]'(by omega), by simp [show m + 1 < (M.pl s).length by omega]⟩
      have c1 := HC.out m x hx
      have c2 := HC.out (m + 1) y hy
      have hst := M.pl_step s m x y hx hy
      have hbx := M.pl_bd s m x hx
      clear hx hy
      have hd1 : decide (y ≤ x) = false := by simp; omega
      have hd2 : ¬ x + 4 < y := by omega
      go_wp2
      go_quiet (fail)
      go_wp2
      go_roundw
      case rel => exact ⟨m + 1, _, by omega, by go_num, rfl⟩
      case measure => simp [intOf]; omega
    · go_wp2
      go_ret
      exact ⟨rfl, below_drewN HB.out _⟩

end Go.Proofs.Ytefnjdgjbgmmeaa
