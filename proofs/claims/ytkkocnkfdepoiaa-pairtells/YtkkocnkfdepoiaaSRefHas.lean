/-
  What the document's Has answers of any spans.
-/
import Derived.Test.YtkkocnkfdepoiaaSWrong
namespace Go.Proofs.Ytkkocnkfdepoiaa
open Go.RowKit

theorem memb_take {l : List S.Sp} {k : Nat} {x : S.Sp} {r : Int} (hx : l[k]? = some x) : S.memb (l.take (k + 1)) r = (S.memb (l.take k) r || (decide (x.1 ≤ r) && decide (r ≤ x.2))) := by
  rw [List.take_add_one, hx, S.memb_append]; simp [S.memb_cons, S.memb_nil]

set_option maxHeartbeats 1000000 in
theorem refhas_any (w : World) (v : Value) (l : List S.Sp) (r : Int) (R : S.Rd w v l) (hl : l.length ≤ 4611686018427387903) :
    Calls Try.prog 41 #[v, .int .i32 r] w fun e w' => e = .returned (.bool (S.memb l r)) ∧ Below w.heap.size w w' := by
  obtain ⟨ao, cap, rfl, hn, hc⟩ := R
  go_enter Try.func41, Try.ntmps41
  go_wp2
  go_loopw [9] (fun i wr => ∃ k : Nat, k ≤ l.length ∧ i = .int .i64 k ∧ Hid (S.memb (l.take k) r = false) ∧ Hid (Below w.heap.size w wr)) (fun i _ => l.length - (intOf i).toNat)
  case atStart => exact ⟨0, Nat.zero_le _, rfl, by show S.memb (l.take 0) r = false; simp [S.memb_nil], Below.refl _ w⟩
  case round =>
    obtain ⟨k, hk, rfl, HW, HB⟩ := hrel
    by_cases hlt : k < l.length
    · obtain ⟨b, off, rfl, hcell⟩ := hc (by intro h; subst h; simp at hlt)
      obtain ⟨x, hx⟩ : ∃ x, l[k]? = some x := ⟨l[k], by simp [hlt]⟩
      have c0 := hcell k x hx
      have hb := L.block_lt c0.1
      have cc : ∀ o, wr.cell? ⟨b, o, none⟩ = w.cell? ⟨b, o, none⟩ := fun o => HB.out.cell (p := ⟨b, o, none⟩) hb
      have c1 := c0.1
      have c2 := c0.2
      rw [← cc] at c1 c2
      have HX : Hid (l[k]? = some x) := hx
      have hsz := HB.out.size
      have HM := memb_take (r := r) hx
      rw [HW.out] at HM
      obtain ⟨x1, x2⟩ := x
      simp only [Bool.false_or] at c1 c2 HM
      have HM2 : Hid (S.memb (l.take (k + 1)) r = (decide (x1 ≤ r) && decide (r ≤ x2))) := HM
      have HB2 : Hid (∀ o, Below w.heap.size w (wr.alloc o)) := fun o => HB.out.alloc hsz o
      clear c0 hx hcell hc cc HM
      by_cases h1 : x1 ≤ r
      · by_cases h2 : r ≤ x2
        · go_wp2
          go_ret
          refine ⟨L.ret_bool ?_, HB2.out _⟩
          symm
          rw [S.memb_iff]
          exact ⟨(x1, x2), List.mem_of_getElem? HX.out, h1, h2⟩
        · go_wp2
          go_roundw
          case rel => exact ⟨k + 1, by omega, by go_num, by show _ = _; rw [HM2.out]; simp [h2], HB2.out _⟩
          case measure => simp [intOf]; omega
      · go_wp2
        go_roundw
        case rel => exact ⟨k + 1, by omega, by go_num, by show _ = _; rw [HM2.out]; simp [h1], HB2.out _⟩
        case measure => simp [intOf]; omega
    · go_wp2
      go_ret
      refine ⟨L.ret_bool ?_, HB.out⟩
      rw [← HW.out, List.take_of_length_le (by omega)]


end Go.Proofs.Ytkkocnkfdepoiaa
