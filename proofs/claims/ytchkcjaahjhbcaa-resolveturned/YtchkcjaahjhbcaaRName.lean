/-
  Names of variables, and of passes that are there already.
-/
import Derived.Test.YtchkcjaahjhbcaaRLib
import Derived.Test.YtchkcjaahjhbcaaRows
namespace Go.Proofs.Ytchkcjaahjhbcaa
open Go.RowKit

theorem letter_any (r : Int) (w : World) :
    Calls Try.prog 116 #[.int .i32 r] w fun e w' => e = .returned (.bool (R.letter r)) ∧ w' = w := by
  go_enter Try.func116, Try.ntmps116
  go_wp2
  all_goals go_ret
  all_goals refine ⟨L.ret_bool ?_, rfl⟩
  all_goals (unfold R.letter; rw [Bool.eq_iff_iff]; simp; try omega)
theorem digit_any (r : Int) (w : World) :
    Calls Try.prog 117 #[.int .i32 r] w fun e w' => e = .returned (.bool (R.digit r)) ∧ w' = w := by
  go_enter Try.func117, Try.ntmps117
  go_wp2
  all_goals go_ret
  all_goals refine ⟨L.ret_bool ?_, rfl⟩
  all_goals (unfold R.digit; rw [Bool.eq_iff_iff]; simp; try omega)

theorem d0_wide (L : List UInt8) (h : 128 ≤ M.bt L 0) : 128 ≤ (M.d0 L).1 := by
  unfold M.d0 Lib.decodeN
  repeat' split
  all_goals simp only
  all_goals omega

theorem good_drop {l : List UInt8} {k : Nat} {b : UInt8} (hx : l[k]? = some b) : R.goodFrom k (l.drop k) = (R.good k b && R.goodFrom (k + 1) (l.drop (k + 1))) := by
  have hlt := (List.getElem?_eq_some_iff.1 hx).1
  rw [List.drop_eq_getElem_cons hlt]
  have : l[k] = b := by rw [List.getElem?_eq_getElem hlt] at hx; exact Option.some.inj hx
  rw [this]; rfl

theorem good_no {i : Nat} {b : UInt8} (h : 128 ≤ b.toNat) : R.good i b = false := by
  unfold R.good R.letter R.digit
  rw [Bool.eq_false_iff]
  simp
  omega

set_option maxHeartbeats 2000000 in
theorem named_any (s : ByteArray) (w : World) :
    Calls Try.prog 102 #[.string s] w fun e w' => e = .returned (.bool (R.named s)) ∧ Below w.heap.size w w' := by
  obtain ⟨o, HO⟩ : ∃ o, Hid (R.named s = o) := ⟨_, rfl⟩
  rw [HO.out]
  have HLn : Hid (s.data.toList.length = s.size) := by show _ = _; simp
  go_enter Try.func102, Try.ntmps102
  go_wp2
  go_loopw [3] (fun _ wr => ∃ pos : Nat, wr.heap[w.heap.size]? = some (.stringIter s pos) ∧ Hid (Below w.heap.size w wr) ∧ Hid (R.goodFrom 0 s.data.toList = R.goodFrom pos (s.data.toList.drop pos))) (fun _ wr => s.size - wr.iterPos w.heap.size)
  case atStart => exact ⟨0, World.iter_heap w s 0, (Below.refl _ _).alloc (Nat.le_refl _) _, rfl⟩
  case round =>
    obtain ⟨pos, hit, HB, HG⟩ := hrel
    have hpos0 := iterPos_of hit
    by_cases hp : pos < s.size
    · have hnx : ∀ ty, (Instr.next (.pointer (some ⟨w.heap.size, 0, none⟩)) true ty).run Try.prog wr = _ := fun ty => Lib.run_next_any_at wr w.heap.size s pos ty hit hp
      have hwd := M.width_pos s pos hp
      have hit2 := Lib.iterAt_heap wr w.heap.size s pos (pos + (Utf8.decode s pos).2) hit
      have HB2 : Hid (Below w.heap.size w (wr.iterAt w.heap.size s (pos + (Utf8.decode s pos).2))) := Lib.below_iterAt HB.out (k := w.heap.size) (Nat.le_refl _) s (pos + (Utf8.decode s pos).2)
      obtain ⟨b, hb⟩ : ∃ b, s.data.toList[pos]? = some b := ⟨s.data.toList[pos]'(by have := HLn.out; omega), by rw [List.getElem?_eq_getElem]⟩
      have hb0 : M.bt (s.data.toList.drop pos) 0 = b.toNat := by simp [M.bt, hb]
      have hg := good_drop hb
      rw [← HG.out] at hg
      have HH : Hid _ := hg
      have HD : Hid ((b.toNat < 128 → Utf8.decode s pos = (b.toNat, 1)) ∧ (128 ≤ b.toNat → 128 ≤ (Utf8.decode s pos).1)) := by
        refine ⟨fun h => ?_, fun h => ?_⟩
        · rw [M.decode_d0]; unfold M.d0 Lib.decodeN; rw [hb0, if_pos h]
        · rw [M.decode_d0]; exact d0_wide _ (by rw [hb0]; exact h)
      clear hg hb hb0 hit
      generalize hW : wr.iterAt w.heap.size s (pos + (Utf8.decode s pos).2) = W1 at hnx hit2 HB2
      clear hW
      obtain ⟨⟨r, wd⟩, hrw⟩ : ∃ x, x = Utf8.decode s pos := ⟨_, rfl⟩
      rw [← hrw] at hnx hwd hit2 HD
      clear hrw
      simp only at hnx hwd hit2
      by_cases h128 : b.toNat < 128
      · have e1 := HD.out.1 h128
        simp only [Prod.mk.injEq] at e1
        obtain ⟨rfl, rfl⟩ := e1
        cases hl : R.letter (b.toNat : Int) with
        | true =>
          have HL : Hid (R.letter (b.toNat : Int) = true) := hl
          clear hl
          go_wp2_with (go_at_call 116; refine (letter_any _ _).mono ?_; rintro e w1 ⟨rfl, rfl⟩; rw [HL.out])
          go_roundw
          case rel => exact ⟨_, hit2, HB2, by show _ = _; rw [HH.out]; unfold R.good; rw [HL.out]; simp⟩
          case measure => rw [iterPos_of hit2, hpos0]; omega
        | false =>
          have HL : Hid (R.letter (b.toNat : Int) = false) := hl
          clear hl
          by_cases h0 : pos = 0
          · subst h0
            go_wp2_with (go_at_call 116; refine (letter_any _ _).mono ?_; rintro e w1 ⟨rfl, rfl⟩; rw [HL.out])
            go_ret
            refine ⟨L.ret_bool ?_, HB2.out⟩
            rw [← HO.out]; unfold R.named; rw [HH.out]; unfold R.good; rw [HL.out]; simp
          · cases hd : R.digit (b.toNat : Int) with
            | true =>
              have HDg : Hid (R.digit (b.toNat : Int) = true) := hd
              clear hd
              go_wp2_with (first
                | (go_at_call 116; refine (letter_any _ _).mono ?_; rintro e w1 ⟨rfl, rfl⟩; rw [HL.out])
                | (go_at_call 117; refine (digit_any _ _).mono ?_; rintro e w1 ⟨rfl, rfl⟩; rw [HDg.out]))
              go_roundw
              case rel => exact ⟨_, hit2, HB2, by show _ = _; rw [HH.out]; unfold R.good; rw [HL.out, HDg.out]; simp [h0]⟩
              case measure => rw [iterPos_of hit2, hpos0]; omega
            | false =>
              have HDg : Hid (R.digit (b.toNat : Int) = false) := hd
              clear hd
              go_wp2_with (first
                | (go_at_call 116; refine (letter_any _ _).mono ?_; rintro e w1 ⟨rfl, rfl⟩; rw [HL.out])
                | (go_at_call 117; refine (digit_any _ _).mono ?_; rintro e w1 ⟨rfl, rfl⟩; rw [HDg.out]))
              go_ret
              refine ⟨L.ret_bool ?_, HB2.out⟩
              rw [← HO.out]; unfold R.named; rw [HH.out]; unfold R.good; rw [HL.out, HDg.out]; simp
      · have e1 := HD.out.2 (by omega)
        simp only at e1
        have HL : Hid (R.letter (r : Int) = false) := by show _ = _; unfold R.letter; rw [Bool.eq_false_iff]; simp; omega
        have HDg : Hid (R.digit (r : Int) = false) := by show _ = _; unfold R.digit; rw [Bool.eq_false_iff]; simp; omega
        have HN : Hid (false = o) := by show _ = _; rw [← HO.out]; unfold R.named; rw [HH.out, good_no (by omega)]; simp
        by_cases h0 : pos = 0
        · subst h0
          go_wp2_with (go_at_call 116; refine (letter_any _ _).mono ?_; rintro e w1 ⟨rfl, rfl⟩; rw [HL.out])
          go_ret
          exact ⟨L.ret_bool HN.out, HB2.out⟩
        · go_wp2_with (first
            | (go_at_call 116; refine (letter_any _ _).mono ?_; rintro e w1 ⟨rfl, rfl⟩; rw [HL.out])
            | (go_at_call 117; refine (digit_any _ _).mono ?_; rintro e w1 ⟨rfl, rfl⟩; rw [HDg.out]))
          go_ret
          exact ⟨L.ret_bool HN.out, HB2.out⟩
    · have hnx : ∀ ty, (Instr.next (.pointer (some ⟨w.heap.size, 0, none⟩)) true ty).run Try.prog wr = _ := fun ty => Lib.run_next_end_at wr w.heap.size s pos ty hit hp
      have HE : Hid (R.goodFrom 0 s.data.toList = true) := by
        show _ = _
        rw [HG.out, List.drop_eq_nil_of_le (by have := HLn.out; omega)]; rfl
      by_cases h0 : s.size = 0
      · have hs : s = ⟨#[]⟩ := by
          have : s.data = #[] := Array.eq_empty_of_size_eq_zero h0
          cases s; simp_all
        subst hs
        go_wp2
        go_ret
        refine ⟨L.ret_bool ?_, HB.out⟩
        rw [← HO.out]; rfl
      · have hemp : s.toList.isEmpty = false := by
          rw [← decide_eq_emptyBytes]
          exact decide_eq_false (fun h => h0 (by rw [h]; rfl))
        go_wp2
        go_ret
        refine ⟨L.ret_bool ?_, HB.out⟩
        rw [← HO.out]; unfold R.named; rw [HE.out, Bool.eq_iff_iff]; simp; omega

set_option maxHeartbeats 1000000 in
theorem passes_any (s : ByteArray) (w : World) :
    Calls Try.prog 103 #[.string s] w fun e w' => e = .returned (.bool (R.passes s)) ∧ w' = w := by
  unfold R.passes
  go_enter Try.func103, Try.ntmps103
  go_wp2
  all_goals go_ret
  all_goals refine ⟨L.ret_bool ?_, rfl⟩
  all_goals simp_all

end Go.Proofs.Ytchkcjaahjhbcaa
