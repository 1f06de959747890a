/-
  How many numbers a span has.
-/
import Derived.Test.YtkkocnkfdepoiaaSWrong
import Derived.Test.YtkkocnkfdepoiaaSAlg
namespace Go.Proofs.Ytkkocnkfdepoiaa
open Go.RowKit

set_option maxHeartbeats 400000 in
theorem size_any (w : World) (x1 x2 : Int) (h1 : 0 ≤ x1) (h2 : x1 ≤ x2) (h3 : x2 ≤ 1114111) :
    Calls Try.prog 32 #[.agg #[.int .i32 x1, .int .i32 x2]] w fun e w' => e = .returned (.int .i64 (x2 - x1 + 1)) ∧ Below w.heap.size w w' := by
  go_enter Try.func32, Try.ntmps32
  go_wp2
  go_ret
  exact ⟨rfl, (Below.refl _ w).alloc (Nat.le_refl _) _⟩

end Go.Proofs.Ytkkocnkfdepoiaa

/-
  What sets.Count tells.
-/
namespace Go.Proofs.Ytkkocnkfdepoiaa
open Go.RowKit

theorem total_append (l m : List S.Sp) : S.total (l ++ m) = S.total l + S.total m := by
  induction l with
  | nil => simp [S.total]
  | cons x l ih => simp only [List.cons_append, S.total, ih]; omega
theorem total_take {l : List S.Sp} {k : Nat} {x : S.Sp} (hx : l[k]? = some x) : S.total (l.take (k + 1)) = S.total (l.take k) + (x.2 - x.1 + 1) := by
  rw [List.take_add_one, hx, total_append]; simp [S.total]
theorem total_le {b : Int} {l : List S.Sp} (h : S.Nf b l) (hb : 0 ≤ b) : S.total l ≤ 1114112 := by
  rw [S.total_cnt h hb]; have := S.cnt_le (S.memb l) 1114112; omega
theorem rd_take {w : World} {ao : Option Addr} {n c : Nat} {l : List S.Sp} (R : S.Rd w (.slice ao n c) l) (k : Nat) (hk : k ≤ l.length) : S.Rd w (.slice ao k c) (l.take k) := by
  obtain ⟨ao', cap', he, hn, hc⟩ := R
  simp only [Value.slice.injEq] at he
  obtain ⟨rfl, rfl, rfl⟩ := he
  refine ⟨ao, c, by rw [List.length_take, Nat.min_eq_left hk], hn, fun h => ?_⟩
  obtain ⟨b, off, e, hcell⟩ := hc (by intro h0; subst h0; simp at h)
  refine ⟨b, off, e, fun j x hj => hcell j x ?_⟩
  rw [List.getElem?_take] at hj
  split at hj
  · exact hj
  · cases hj

def cntF (l : List S.Sp) : Int := if S.wrongE l = 0 then S.total l else 0

set_option maxHeartbeats 1000000 in
theorem count_any (w : World) (v : Value) (l : List S.Sp) (R : S.Rd w v l) (F : S.Fit l) :
    Calls Try.prog 13 #[v] w fun e w' => e = .returned (.tuple #[.int .i64 (cntF l), .int .i64 (S.wrongE l)]) ∧ Below w.heap.size w w' := by
  have hw := wrong_any w v l R F
  obtain ⟨ao, cap, rfl, hn, hc⟩ := R
  unfold cntF
  by_cases hz : S.wrongE l = 0
  · obtain ⟨hl, N⟩ := S.wrongE_zero.1 hz
    rw [if_pos hz]
    rw [hz] at hw ⊢
    clear hz
    have HN : Hid (S.Nf 0 l) := N
    clear N
    go_enter Try.func13, Try.ntmps13
    go_wp2_with fail
    refine hw.mono ?_
    clear hw
    rintro e w1 ⟨rfl, b1⟩
    have BW1 : Hid (Below w.heap.size w w1) := b1
    clear b1
    go_wp2
    go_loopw [5, 15] (fun s i wr => ∃ (k : Nat) (acc : Int), k ≤ l.length ∧ i = .int .i64 k ∧ s = .int .i64 acc ∧ 0 ≤ acc ∧ acc ≤ 1114112 ∧ Hid (acc = S.total (l.take k)) ∧ Hid (Below w.heap.size w wr)) (fun _ i _ => l.length - (intOf i).toNat)
    case atStart => exact ⟨0, 0, Nat.zero_le _, rfl, rfl, by omega, by omega, by show _ = _; simp [S.total], BW1⟩
    case round =>
      obtain ⟨k, acc, hk, rfl, rfl, h0, h1, HT, HB⟩ := hrel
      have hsz := HB.out.size
      by_cases hlt : k < l.length
      · obtain ⟨b, off, rfl, hcell⟩ := hc (by intro h; subst h; simp at hlt)
        obtain ⟨x, hx⟩ : ∃ x, l[k]? = some x := ⟨l[k], by simp [hlt]⟩
        have c0 := hcell k x hx
        have hb := L.block_lt c0.1
        have c1 := c0.1
        have c2 := c0.2
        rw [← HB.out.cell (p := ⟨b, _, none⟩) hb] at c1 c2
        have hxo := HN.out.mem (List.mem_of_getElem? hx)
        have hT2 := total_take hx
        rw [← HT.out] at hT2
        have hle := total_le (HN.out.take (k + 1)) (by omega)
        rw [hT2] at hle
        obtain ⟨x1, x2⟩ := x
        simp only at c1 c2 hxo hle hT2
        have HT2 : Hid _ := hT2
        have HBa : Hid (∀ o, Below w.heap.size w (wr.alloc o)) := fun o => HB.out.alloc hsz o
        have hsi := size_any (wr.alloc (.cells #[.int .i32 x1, .int .i32 x2] 57)) x1 x2 hxo.1 hxo.2.1 hxo.2.2
        clear c0 hx hcell hc hT2
        go_wp2_with fail
        refine hsi.mono ?_
        clear hsi
        rintro e w2 ⟨rfl, b2⟩
        have HB2 : Hid (Below w.heap.size w w2) := (HBa.out _).trans (b2.mono (by simp; omega))
        clear b2
        go_wp2
        go_roundw
        case rel => exact ⟨k + 1, acc + (x2 - x1 + 1), by omega, by go_num, rfl, by omega, by omega, HT2.out.symm, HB2⟩
        case measure => simp [intOf]; omega
      · go_wp2
        go_ret2
        refine ⟨?_, HB.out⟩
        rw [HT.out, List.take_of_length_le (by omega)]; rfl
  · rw [if_neg hz]
    generalize S.wrongE l = we at *
    go_enter Try.func13, Try.ntmps13
    go_wp2_with fail
    refine hw.mono ?_
    clear hw
    rintro e w1 ⟨rfl, b1⟩
    go_wp2
    go_ret2
    exact ⟨rfl, b1⟩

end Go.Proofs.Ytkkocnkfdepoiaa
