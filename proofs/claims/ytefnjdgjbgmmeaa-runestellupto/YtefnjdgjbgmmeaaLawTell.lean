/-
  The walk of scriptlaw1.RunesTell: of any text of at most 2^30 bytes, any slice of at most 2^30 runes and any rune it answers true, and nothing that was there has changed.
-/
import Derived.Test.YtefnjdgjbgmmeaaRefWalk
import Derived.Test.YtefnjdgjbgmmeaaRefEnc
import Derived.Test.YtefnjdgjbgmmeaaPlaces
import Derived.Test.YtefnjdgjbgmmeaaSame
namespace Go.Proofs.Ytefnjdgjbgmmeaa
open Go.RowKit

theorem pl_rd {w : World} {v : Value} {s : ByteArray} (h : L.Rd w v .i64 (M.pl s)) :
    ∃ b off cap, v = .slice (some ⟨b, off, none⟩) ((M.rn s).length + 1) cap ∧ Hid (∀ j z, (M.pl s)[j]? = some z → w.cell? ⟨b, off + j, none⟩ = some (.int .i64 z)) := by
  obtain ⟨ao, cap, rfl, _, hd⟩ := h
  obtain ⟨b, off, rfl, hc⟩ := hd (by have := M.pl_length s; intro e; rw [e] at this; simp at this)
  rw [M.pl_length]
  exact ⟨b, off, cap, rfl, hc⟩

set_option maxRecDepth 10000 in
set_option maxHeartbeats 1000000 in
theorem law_tell (s : ByteArray) (v : Value) (zs : List Int) (r : Int) (w : World) (R : L.Rd w v .i32 zs) (hl : zs.length ≤ 1073741824) (hs : s.size ≤ 1073741824) :
    Calls Try.prog 3 #[.string s, v, .int .i32 r] w fun e w' => e = .returned (.bool true) ∧ Below w.heap.size w w' := by
  have hrl := M.rn_length s
  have hpl := M.pl_length s
  go_enter Try.func3, Try.ntmps3
  go_wp2_with fail
  refine (walk_any s _ (by omega)).mono ?_
  rintro e w1 ⟨v1, v2, rfl, own1, own2, hb1⟩
  have R1 := L.Rd.of_owns own1
  have R2 := L.Rd.of_owns own2
  clear own1 own2
  go_wp2_with fail
  refine (places_any s _ (by omega)).mono ?_
  rintro e w2 ⟨v3, rfl, own3, hb2⟩
  have R3 := L.Rd.of_owns own3
  clear own3
  go_wp2_with fail
  refine (decode_any s _ (by omega)).mono ?_
  rintro e w3 ⟨v4, rfl, own4, hb3⟩
  have R4 := L.Rd.of_owns own4
  clear own4
  have z1 := hb1.size
  have z2 := hb2.size
  have z3 := hb3.size
  go_wp2_with fail
  refine (same_any w3 v4 v1 _ _ R4 ((R1.below hb2 (Nat.le_refl _)).below hb3 (Nat.le_refl _)) (by omega) (by omega)).mono ?_
  rintro e w4 ⟨rfl, hb4⟩
  rw [decide_eq_true rfl]
  have z4 := hb4.size
  have R2' := ((R2.below hb2 (Nat.le_refl _)).below hb3 (Nat.le_refl _)).below hb4 (Nat.le_refl _)
  have R3' := (R3.below hb3 (Nat.le_refl _)).below hb4 (Nat.le_refl _)
  obtain ⟨b2, o2, c2, rfl, hc2⟩ := pl_rd R2'
  obtain ⟨b3, o3, c3, rfl, hc3⟩ := pl_rd R3'
  have HB : Hid (Below w.heap.size w w4) := ((hb1.trans (hb2.mono (by omega))).trans (hb3.mono (by omega))).trans (hb4.mono (by omega))
  clear R1 R2 R3 R4 R2' R3' hb1 hb2 hb3 hb4
  go_wp2_with fail
  refine (spoilt_any s _ (by omega)).mono ?_
  rintro e w5 ⟨rfl, hb5⟩
  have z5 := hb5.size
  have HC2 : Hid (∀ j z, (M.pl s)[j]? = some z → w5.cell? ⟨b2, o2 + j, none⟩ = some (.int .i64 z)) := fun j z hj => (hb5.cell (p := ⟨b2, o2 + j, none⟩) (L.block_lt (hc2.out j z hj))).trans (hc2.out j z hj)
  have HC3 : Hid (∀ j z, (M.pl s)[j]? = some z → w5.cell? ⟨b3, o3 + j, none⟩ = some (.int .i64 z)) := fun j z hj => (hb5.cell (p := ⟨b3, o3 + j, none⟩) (L.block_lt (hc3.out j z hj))).trans (hc3.out j z hj)
  have HB5 : Hid (Below w.heap.size w w5) := HB.out.trans (hb5.mono HB.out.size)
  clear hc2 hc3 hb5 HB
  go_wp2_with (first | (go_at_call 12; go_must (refine (right_any _ _).mono ?_; rintro e w5 ⟨rfl, rfl⟩)) | (go_at_call 13; go_must (refine (refRight_any _ _).mono ?_; rintro e w5 ⟨rfl, rfl⟩)))
  go_loopw [51] (fun i wr => ∃ k n : Nat, k ≤ (M.rn s).length + 1 ∧ i = .int .i64 k ∧ wr = w5.drewN n) (fun i _ => (M.rn s).length + 1 - (intOf i).toNat)
  case atStart => exact ⟨0, 0, Nat.zero_le _, rfl, rfl⟩
  case round =>
    obtain ⟨k, n, hk, rfl, rfl⟩ := hrel
    by_cases hlt : k < (M.rn s).length + 1
    · obtain ⟨x, hx⟩ : ∃ x, (M.pl s)[k]? = some x := ⟨(M.pl s)[k]'(by omega), by simp [show k < (M.pl s).length by omega]⟩
      have cc2 := HC2.out k x hx
      have cc3 := HC3.out k x hx
      clear hx
      go_wp2
      go_quiet (fail)
      go_wp2
      go_roundw
      case rel => exact ⟨k + 1, _, by omega, by go_num, rfl⟩
      case measure => simp [intOf]; omega
    · have HT : Hid (Below w.heap.size w (w5.drewN n)) := below_drewN HB5.out _
      have RT := R.below HT.out (Nat.le_refl _)
      obtain ⟨wt, hwt⟩ : ∃ wt, wt = w5.drewN n := ⟨_, rfl⟩
      rw [← hwt] at HT RT ⊢
      clear hwt HC2 HC3 HB5
      go_wp2_with fail
      by_cases hall : ∀ z ∈ zs, M.right z = true
      · refine (encode_yes wt v zs RT (by omega) hall).mono ?_
        rintro e w9 ⟨rfl, rfl⟩
        go_wp2_with fail
        refine (refEncode_yes _ v zs RT (by omega) hall).mono ?_
        rintro e w10 ⟨rfl, hb10⟩
        go_wp2_with fail
        go_ret
        exact ⟨L.ret_bool (by simp), HT.out.trans (hb10.mono HT.out.size)⟩
      · have hno : ∃ z ∈ zs, M.right z = false := by
          apply Classical.byContradiction
          intro h
          apply hall
          intro z hz
          cases hb : M.right z with
          | true => rfl
          | false => exact absurd ⟨z, hz, hb⟩ h
        refine (encode_no wt v zs RT (by omega) hno).mono ?_
        rintro e w9 ⟨rfl, rfl⟩
        go_wp2_with fail
        refine (refEncode_no _ v zs RT (by omega) hno).mono ?_
        rintro e w10 ⟨rfl, hb10⟩
        go_wp2_with fail
        go_ret
        exact ⟨L.ret_bool (by simp), HT.out.trans (hb10.mono HT.out.size)⟩

end Go.Proofs.Ytefnjdgjbgmmeaa
