/-
  What runes.Spoilt answers: of any text of at most 2^40 bytes how many of its bytes begin no rune.
-/
import Derived.Test.YtefnjdgjbgmmeaaRight
import Derived.Test.YtefnjdgjbgmmeaaUni2
namespace Go.Proofs.Ytefnjdgjbgmmeaa
open Go.RowKit

theorem extract_drop (s : ByteArray) (pos : Nat) : (s.extract pos s.size).data.toList = s.data.toList.drop pos := by
  rw [ByteArray.data_extract, Array.toList_extract]
  have : s.data.toList.length = s.size := by rw [Array.length_toList]; rfl
  rw [List.extract_eq_take_drop, List.take_of_length_le (by rw [List.length_drop]; omega)]

theorem drop_ne {s : ByteArray} {pos : Nat} (hp : pos < s.size) : s.data.toList.drop pos ≠ [] := by
  have hl : (s.data.toList.drop pos).length = s.size - pos := by rw [List.length_drop, Array.length_toList]; rfl
  intro e; rw [e] at hl; simp at hl; omega

theorem spoil (s : ByteArray) (pos : Nat) (hp : pos < s.size) (h1 : (Utf8.decode s pos).1 = 65533) :
    M.pre (s.extract pos s.size) ⟨#[239, 191, 189]⟩ = !M.bad (M.d0 (s.data.toList.drop pos)) := by
  rw [M.decode_d0] at h1
  rw [M.bad_pre _ (drop_ne hp) h1, Bool.not_not]
  unfold M.pre
  have e1 : (s.extract pos s.size).size = (s.data.toList.drop pos).length := by rw [← extract_drop, Array.length_toList]; rfl
  have e2 : ((s.extract pos s.size).extract 0 3).data.toList = (s.data.toList.drop pos).take 3 := by
    rw [ByteArray.data_extract, Array.toList_extract, extract_drop, List.extract_eq_take_drop]
    simp
  show (decide (3 ≤ _) && (((s.extract pos s.size).extract 0 3).data.toList == [239, 191, 189])) = _
  rw [e1, e2]

theorem sp_step (s : ByteArray) (pos : Nat) (hp : pos < s.size) :
    M.sp (s.data.toList.drop pos) = (if M.bad (M.d0 (s.data.toList.drop pos)) then 1 else 0) + M.sp (s.data.toList.drop (pos + (Utf8.decode s pos).2)) := by
  rw [M.sp_cons _ (drop_ne hp), List.drop_drop, M.decode_d0]
theorem sp_le : ∀ L, M.sp L ≤ L.length := by
  refine M.ru_ind (by simp [M.sp_nil]) ?_
  intro L h ih
  have hw := M.d0_width L h
  rw [List.length_drop] at ih
  rw [M.sp_cons L h]
  split <;> omega
theorem not_bad {s : ByteArray} {pos : Nat} (h : ¬ ((Utf8.decode s pos).1 : Int) = 65533) : M.bad (M.d0 (s.data.toList.drop pos)) = false := by
  rw [← M.decode_d0]
  unfold M.bad
  have : ¬ (Utf8.decode s pos).1 = 65533 := by omega
  simp [this]
theorem sp_end (s : ByteArray) (pos : Nat) (h : ¬ pos < s.size) : M.sp (s.data.toList.drop pos) = 0 := by
  have hl : (s.data.toList.drop pos).length = s.size - pos := by rw [List.length_drop, Array.length_toList]; rfl
  have : s.data.toList.drop pos = [] := List.eq_nil_of_length_eq_zero (by omega)
  rw [this]; rfl

set_option maxHeartbeats 1000000 in
theorem spoilt_any (s : ByteArray) (w : World) (hs : s.size ≤ 1099511627776) :
    Calls Try.prog 11 #[.string s] w fun e w' => e = .returned (.int .i64 (M.sp s.data.toList : Int)) ∧ Below w.heap.size w w' := by
  have hsp : M.sp s.data.toList ≤ 1099511627776 := by
    have h1 := sp_le s.data.toList
    have h2 : s.data.toList.length = s.size := by rw [Array.length_toList]; rfl
    omega
  go_enter Try.func11, Try.ntmps11
  go_wp2
  go_loopw [3] (fun n w' => ∃ (pos acc : Nat), w' = w.iter s pos ∧ n = .int .i64 (acc : Int) ∧ Hid (acc + M.sp (s.data.toList.drop pos) = M.sp s.data.toList)) (fun _ w' => s.size - w'.iterPos w.heap.size)
  case atStart => exact ⟨0, 0, rfl, rfl, by show _ = _; simp⟩
  case round =>
    obtain ⟨pos, acc, rfl, rfl, HC⟩ := hrel
    have hacc : acc ≤ 1099511627776 := by have := HC.out; omega
    by_cases hp : pos < s.size
    · have hnx : ∀ ty, (Instr.next (.pointer (some ⟨w.heap.size, 0, none⟩)) true ty).run Try.prog (w.iter s pos) = _ := fun ty => run_next_any w s pos ty hp
      have hwd := M.width_pos s pos hp
      have HS : Hid (M.sp (s.data.toList.drop pos) = (if M.bad (M.d0 (s.data.toList.drop pos)) then 1 else 0) + M.sp (s.data.toList.drop (pos + (Utf8.decode s pos).2))) := sp_step s pos hp
      by_cases h1 : ((Utf8.decode s pos).1 : Int) = 65533
      · have HP : Hid (M.pre (s.extract pos s.size) ⟨#[239, 191, 189]⟩ = !M.bad (M.d0 (s.data.toList.drop pos))) := spoil s pos hp (by omega)
        cases hb : M.bad (M.d0 (s.data.toList.drop pos)) with
        | false =>
          have HP2 : Hid (M.pre (s.extract pos s.size) ⟨#[239, 191, 189]⟩ = true) := by have := HP.out; rw [hb] at this; exact this
          have HC2 : Hid (acc + M.sp (s.data.toList.drop (pos + (Utf8.decode s pos).2)) = M.sp s.data.toList) := by
            show _ = _
            rw [← HC.out, HS.out, hb]; simp
          clear HP hb
          go_wp2_with (go_at_call 18; go_must (refine (pre_any _ _ _).mono ?_; rintro e w' ⟨rfl, rfl⟩; rw [HP2.out]))
          go_roundw
          case rel => exact ⟨_, acc, rfl, rfl, HC2⟩
          case measure => simp; omega
        | true =>
          have HP2 : Hid (M.pre (s.extract pos s.size) ⟨#[239, 191, 189]⟩ = false) := by have := HP.out; rw [hb] at this; exact this
          have HC2 : Hid ((acc + 1) + M.sp (s.data.toList.drop (pos + (Utf8.decode s pos).2)) = M.sp s.data.toList) := by
            show _ = _
            rw [← HC.out, HS.out, hb]; simp; omega
          clear HP hb
          go_wp2_with (go_at_call 18; go_must (refine (pre_any _ _ _).mono ?_; rintro e w' ⟨rfl, rfl⟩; rw [HP2.out]))
          go_roundw
          case rel => exact ⟨_, acc + 1, rfl, by go_num, HC2⟩
          case measure => simp; omega
      · have HC2 : Hid (acc + M.sp (s.data.toList.drop (pos + (Utf8.decode s pos).2)) = M.sp s.data.toList) := by
          show _ = _
          rw [← HC.out, HS.out, not_bad h1]; simp
        go_wp2
        go_roundw
        case rel => exact ⟨_, acc, rfl, rfl, HC2⟩
        case measure => simp; omega
    · have hnx : ∀ ty, (Instr.next (.pointer (some ⟨w.heap.size, 0, none⟩)) true ty).run Try.prog (w.iter s pos) = _ := fun ty => run_next_end w s pos ty hp
      go_wp2
      go_ret
      have e := HC.out
      rw [sp_end s pos hp] at e
      exact ⟨L.ret_int (by omega), (Below.refl _ _).alloc (Nat.le_refl _) _⟩

end Go.Proofs.Ytefnjdgjbgmmeaa
