/-
  Names of variables, and of passes that are there already: the document's answers.
-/
import Derived.Test.YtafkfnkcabahnaaDoorRName
import Derived.Lib.ConvBytes
import Derived.Lib.AtoiErrMem
namespace Go.Proofs.YtafkfnkcabahnaaDoor
open Go.RowKit
set_option maxRecDepth 20000
set_option linter.unusedSimpArgs false
set_option linter.unusedVariables false

theorem rfirst_any (r : Int) (w : World) :
    Calls Tryd.prog 45 #[.int .i32 r] w fun e w' => e = .returned (.bool (R.letter r)) ∧ w' = w := by
  go_enter Tryd.func45, Tryd.ntmps45
  go_wp2
  all_goals go_ret
  all_goals refine ⟨L.ret_bool ?_, rfl⟩
  all_goals (unfold R.letter; rw [Bool.eq_iff_iff]; simp; try omega)

set_option maxHeartbeats 2000000 in
theorem rnamed_any (s : ByteArray) (w : World) (hs : s.size ≤ 140737488355328) :
    Calls Tryd.prog 28 #[.string s] w fun e w' => e = .returned (.bool (R.named s)) ∧ Below w.heap.size w w' := by
  have hcv := Lib.run_convert_string_bytes (P := Tryd.prog) w 9 31 5 s (u := .string) Tryd.underlying9 Tryd.underlying31 Tryd.underlying5
  have hB : ∀ j, j < s.size → (Lib.bytesWorld w 5 s).cell? ⟨w.heap.size, j, none⟩ = some (.int .u8 (s.data.toList.getD j 0).toNat) := fun j hj => Lib.bytesWorld_cell w 5 s j hj
  have HBel : Hid (Below w.heap.size w (Lib.bytesWorld w 5 s)) := Lib.bytesWorld_below w 5 s
  obtain ⟨W1, hW1⟩ : ∃ W1, W1 = Lib.bytesWorld w 5 s := ⟨_, rfl⟩
  rw [← hW1] at hcv hB HBel
  clear hW1
  have HLn : Hid (s.data.toList.length = s.size) := by show _ = _; simp
  obtain ⟨o, HO⟩ : ∃ o, Hid (R.named s = o) := ⟨_, rfl⟩
  rw [HO.out]
  have HB' : Hid _ := hB
  clear hB
  go_enter Tryd.func28, Tryd.ntmps28
  go_wp2
  go_loop [8] (fun i => ∃ k : Nat, k ≤ s.size ∧ i = .int .i64 k ∧ Hid (R.goodFrom 0 s.data.toList = R.goodFrom k (s.data.toList.drop k))) (fun i => s.size - (intOf i).toNat)
  case atStart => exact ⟨0, Nat.zero_le _, rfl, rfl⟩
  case round =>
    obtain ⟨k, hk, rfl, HG⟩ := hrel
    by_cases hlt : k < s.size
    · have hc := HB'.out k hlt
      obtain ⟨b, hb⟩ : ∃ b, s.data.toList[k]? = some b := ⟨s.data.toList[k]'(by have := HLn.out; omega), by rw [List.getElem?_eq_getElem]⟩
      have hg := good_drop hb
      rw [← HG.out] at hg
      have HH : Hid (R.goodFrom 0 s.data.toList = (R.good k b && R.goodFrom (k + 1) (s.data.toList.drop (k + 1)))) := hg
      rw [List.getD, hb] at hc
      simp only [Option.getD_some] at hc
      have hb8 : (b.toNat : Int) < 256 := by have := b.toNat_lt; omega
      clear hb hg
      have HGd : Hid (R.good k b = (R.letter (b.toNat : Int) || (decide (k ≠ 0) && R.digit (b.toNat : Int)))) := rfl
      obtain ⟨z, hz⟩ : ∃ z : Int, z = (b.toNat : Int) := ⟨_, rfl⟩
      have hz0 : 0 ≤ z := by omega
      rw [← hz] at hc hb8 HGd
      clear hz
      cases hl : R.letter z with
      | true =>
        have HL : Hid (R.letter z = true) := hl
        clear hl
        go_wp2_with (go_at_call 45; refine (rfirst_any _ _).mono ?_; rintro e w1 ⟨rfl, rfl⟩; rw [HL.out])
        go_round
        case rel => exact ⟨k + 1, by omega, by go_num, by show _ = _; rw [HH.out, HGd.out, HL.out]; simp⟩
        case measure => simp [intOf]; omega
      | false =>
        have HL : Hid (R.letter z = false) := hl
        clear hl
        by_cases h0 : k = 0
        · subst h0
          go_wp2_with (go_at_call 45; refine (rfirst_any _ _).mono ?_; rintro e w1 ⟨rfl, rfl⟩; rw [HL.out])
          go_ret
          refine ⟨L.ret_bool ?_, HBel.out⟩
          rw [← HO.out]; unfold R.named; rw [HH.out, HGd.out, HL.out]; simp
        · have h0' : ((k : Int) == 0) = false := by simp [h0]
          by_cases hd1 : z < 48
          · go_wp2_with (go_at_call 45; refine (rfirst_any _ _).mono ?_; rintro e w1 ⟨rfl, rfl⟩; rw [HL.out])
            go_ret
            refine ⟨L.ret_bool ?_, HBel.out⟩
            have hdg : R.digit z = false := by unfold R.digit; rw [Bool.eq_false_iff]; simp; omega
            rw [← HO.out]; unfold R.named; rw [HH.out, HGd.out, HL.out, hdg]; simp
          · by_cases hd2 : 57 < z
            · go_wp2_with (go_at_call 45; refine (rfirst_any _ _).mono ?_; rintro e w1 ⟨rfl, rfl⟩; rw [HL.out])
              go_ret
              refine ⟨L.ret_bool ?_, HBel.out⟩
              have hdg : R.digit z = false := by unfold R.digit; rw [Bool.eq_false_iff]; simp; omega
              rw [← HO.out]; unfold R.named; rw [HH.out, HGd.out, HL.out, hdg]; simp
            · have HDg : Hid (R.digit z = true) := by show _ = _; unfold R.digit; simp; omega
              go_wp2_with (go_at_call 45; refine (rfirst_any _ _).mono ?_; rintro e w1 ⟨rfl, rfl⟩; rw [HL.out])
              go_round
              case rel => exact ⟨k + 1, by omega, by go_num, by show _ = _; rw [HH.out, HGd.out, HL.out, HDg.out]; simp [h0]⟩
              case measure => simp [intOf]; omega
    · have HE : Hid (R.goodFrom 0 s.data.toList = true) := by
        show _ = _
        rw [HG.out, List.drop_eq_nil_of_le (by have := HLn.out; omega)]; rfl
      go_wp2
      all_goals go_ret
      all_goals refine ⟨L.ret_bool ?_, HBel.out⟩
      all_goals (rw [← HO.out]; unfold R.named; rw [HE.out, Bool.eq_iff_iff]; simp; try omega)

set_option maxHeartbeats 1000000 in
theorem rpass_any (s : ByteArray) (w : World) :
    Calls Tryd.prog 29 #[.string s] w fun e w' => e = .returned (.bool (R.passes s)) ∧ w' = w := by
  unfold R.passes
  go_enter Tryd.func29, Tryd.ntmps29
  go_wp2
  all_goals go_ret
  all_goals refine ⟨L.ret_bool ?_, rfl⟩
  all_goals (rw [Bool.eq_iff_iff]; simp; try simp_all)

end Go.Proofs.YtafkfnkcabahnaaDoor
