/-
  The closed fact of the statements of chapter 2 holds; and what 'small' asks.
-/
import Derived.Test.YtginejblmkiamaaSOf2
import Derived.Test.YtginejblmkiamaaSHas
import Derived.Test.YtginejblmkiamaaSAlg
namespace Go.Proofs.Ytginejblmkiamaa
open Go.RowKit

theorem alive_set : S.nf (S.memb [(99, 101), (97, 98)]) = [(97, 101)] := by
  refine S.nf_eq ⟨⟨by decide, by decide, by decide, trivial⟩, fun q => ?_⟩
  simp only [S.memb_cons, S.memb_nil]
  apply S.bool_eq
  simp
  omega

set_option maxHeartbeats 1000000 in
theorem alive_any (w : World) : Calls Try.prog 26 #[] w fun e w' => e = .returned (.bool true) ∧ Below w.heap.size w w' := by
  have hof := of_any (w.alloc (.cells #[.int .i32 99, .int .i32 101, .int .i32 97, .int .i32 98] 42)) (.slice (some ⟨w.heap.size, 0, none⟩) 2 2) [(99, 101), (97, 98)] ⟨_, 2, rfl, fun h => by simp at h, fun _ => ⟨w.heap.size, 0, rfl, fun j x hj => by
      match j, hj with
      | 0, hj => simp at hj; subst hj; exact ⟨by rw [World.cell?_alloc_at _ _ _ _ (by simp)]; rfl, by rw [World.cell?_alloc_at _ _ _ _ (by simp)]; rfl⟩
      | 1, hj => simp at hj; subst hj; exact ⟨by rw [World.cell?_alloc_at _ _ _ _ (by simp)]; rfl, by rw [World.cell?_alloc_at _ _ _ _ (by simp)]; rfl⟩
      | j + 2, hj => simp at hj⟩⟩ (by decide)
  rw [show (if ([(99, 101), (97, 98)] : List S.Sp).any S.bad = true then (3 : Int) else 0) = 0 from rfl] at hof
  have BW0 : Hid (Below w.heap.size w (w.alloc (.cells #[.int .i32 99, .int .i32 101, .int .i32 97, .int .i32 98] 42))) := (Below.refl _ w).alloc (Nat.le_refl _) _
  have hs0 : (w.alloc (.cells #[.int .i32 99, .int .i32 101, .int .i32 97, .int .i32 98] 42)).heap.size = w.heap.size + 1 := by simp
  have HS0 : Hid _ := hs0
  clear hs0
  go_enter Try.func26, Try.ntmps26
  go_wp2_with fail
  refine hof.mono ?_
  clear hof
  rintro e w1 ⟨v1, rfl, R1, B1, _⟩
  have BW1 : Hid (Below w.heap.size w w1) := BW0.out.trans (B1.mono (by rw [HS0.out]; omega))
  have e1 : S.resE 0 0 (S.memb [(99, 101), (97, 98)]) = 0 := by unfold S.resE; rw [alive_set]; rfl
  have e2 : S.resL 0 0 (S.memb [(99, 101), (97, 98)]) = [(97, 101)] := by unfold S.resL; rw [alive_set]; rfl
  rw [e2] at R1
  rw [e1]
  have hh := has_any w1 v1 [(97, 101)] 99 R1 ⟨by decide, by decide, by decide, trivial⟩ (by decide)
  rw [show S.memb [(97, 101)] 99 = true from rfl] at hh
  obtain ⟨ao, cap, rfl, _, hc⟩ := R1
  obtain ⟨b, off, rfl, hcell⟩ := hc (by simp)
  have c0 := hcell 0 (97, 101) rfl
  have c1 := c0.1
  have c2 := c0.2
  simp only [Nat.zero_mul, Nat.add_zero] at c1 c2
  clear c0 hcell hc e1 e2 B1 BW0 HS0
  go_wp2_with fail
  refine hh.mono ?_
  clear hh
  rintro e w2 ⟨rfl, B2⟩
  go_wp2
  go_ret
  exact ⟨rfl, BW1.out.trans (B2.mono BW1.out.size)⟩

def smallF (l : List S.Sp) : Bool := decide (S.wrongE l = 0) && decide (l.length ≤ 50)

theorem smallF_iff {l : List S.Sp} : smallF l = true ↔ S.Nf 0 l ∧ l.length ≤ 50 := by
  simp only [smallF, Bool.and_eq_true, decide_eq_true_eq, S.wrongE_zero]
  exact ⟨fun h => ⟨h.1.2, h.2⟩, fun h => ⟨⟨by omega, h.1⟩, h.2⟩⟩

set_option maxHeartbeats 1000000 in
/-- 'small' of slices that lie in a row of their own -/
theorem small_any (w : World) (b : Nat) (vs : List Value) (ls : List (List S.Sp)) (hlen : vs.length = ls.length) (hl : ls.length ≤ 3) (hv : ∀ (i : Nat) v, vs[i]? = some v → w.cell? ⟨b, i, none⟩ = some v)
    (hR : ∀ (i : Nat) v l, vs[i]? = some v → ls[i]? = some l → S.Rd w v l ∧ S.Fit l ∧ l.length ≤ 17592186044160) :
    Calls Try.prog 27 #[.slice (some ⟨b, 0, none⟩) vs.length vs.length] w fun e w' => e = .returned (.bool (ls.all smallF)) ∧ Below w.heap.size w w' := by
  have HR : Hid _ := hR
  have HV : Hid _ := hv
  have HLen : Hid _ := hlen
  have hl3 : vs.length ≤ 3 := by omega
  clear hR hv hlen
  go_enter Try.func27, Try.ntmps27
  go_wp2
  go_loopw [7] (fun i wr => ∃ k : Nat, k ≤ vs.length ∧ i = .int .i64 k ∧ Hid ((ls.take k).all smallF = true) ∧ Hid (Below w.heap.size w wr)) (fun i _ => vs.length - (intOf i).toNat)
  case atStart => exact ⟨0, Nat.zero_le _, rfl, by show (ls.take 0).all smallF = true; simp, Below.refl _ w⟩
  case round =>
    obtain ⟨k, hk, rfl, HW, HB⟩ := hrel
    have hsz := HB.out.size
    by_cases hlt : k < vs.length
    · obtain ⟨v, hv⟩ : ∃ v, vs[k]? = some v := ⟨vs[k], by simp [hlt]⟩
      obtain ⟨l, hl⟩ : ∃ l, ls[k]? = some l := ⟨ls[k]'(by rw [← HLen.out]; exact hlt), by simp [show k < ls.length by rw [← HLen.out]; exact hlt]⟩
      have c1 := HV.out k v hv
      have hb := L.block_lt c1
      rw [← HB.out.cell (p := ⟨b, k, none⟩) hb] at c1
      obtain ⟨R, F, hlb⟩ := HR.out k v l hv hl
      have hw := wrong_any wr v l (R.below HB.out (Nat.le_refl _)) F
      obtain ⟨ao, cap, rfl⟩ := R.len
      have HL : Hid (ls[k]? = some l) := hl
      have HSm : Hid (smallF l = (decide (S.wrongE l = 0) && decide (l.length ≤ 50))) := rfl
      generalize S.wrongE l = we at hw HSm
      clear hl hv R F
      go_wp2_with fail
      refine hw.mono ?_
      clear hw
      rintro e w1 ⟨rfl, hb1⟩
      have HB1 : Hid (Below w.heap.size w w1) := HB.out.trans (hb1.mono hsz)
      clear hb1
      have HNo : Hid (smallF l = false → ls.all smallF = false) := fun h => by
        rw [List.all_eq_false]
        exact ⟨l, List.mem_of_getElem? HL.out, by rw [h]; simp⟩
      by_cases hwe : we = 0
      · subst hwe
        by_cases h50 : 50 < l.length
        · go_wp2
          go_ret
          exact ⟨by rw [HNo.out (by rw [HSm.out]; simp; omega)]; rfl, HB1.out⟩
        · go_wp2
          go_roundw
          case rel =>
            refine ⟨k + 1, by omega, by go_num, ?_, HB1⟩
            show (ls.take (k + 1)).all smallF = true
            rw [List.take_add_one, HL.out, List.all_append, HW.out]
            simp [HSm.out]
            omega
          case measure => simp [intOf]; omega
      · go_wp2
        go_ret
        exact ⟨by rw [HNo.out (by rw [HSm.out]; simp [hwe])]; rfl, HB1.out⟩
    · go_wp2
      go_ret
      refine ⟨L.ret_bool ?_, HB.out⟩
      rw [← HW.out, List.take_of_length_le (by rw [← HLen.out]; omega)]

end Go.Proofs.Ytginejblmkiamaa
