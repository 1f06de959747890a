/-
  What scriptref1.Walk hands back of any text of at most 2^40 bytes: its runes, their places and the end, and how many bytes begin none.
-/
import Derived.Test.YtefnjdgjbgmmeaaOneC
import Derived.Test.YtefnjdgjbgmmeaaDecode
import Derived.Test.YtefnjdgjbgmmeaaSpoilt
namespace Go.Proofs.Ytefnjdgjbgmmeaa
open Go.RowKit

theorem pos_bd {L : List UInt8} {pos cnt : Nat} (h : cnt + M.sp (L.drop pos) = M.sp L) : cnt ≤ L.length := by
  have := sp_le L
  omega
theorem dec_bad {s : ByteArray} {pos : Nat} (h : M.bad (Utf8.decode s pos) = true) : Utf8.decode s pos = (65533, 1) := by
  unfold M.bad at h
  simp at h
  exact Prod.ext h.1 h.2

set_option maxHeartbeats 1000000 in
theorem walk_any (s : ByteArray) (w : World) (hs : s.size ≤ 1099511627776) :
    Calls Try.prog 7 #[.string s] w fun e w' => ∃ v1 v2, e = .returned (.tuple #[v1, v2, .int .i64 (M.sp s.data.toList : Int)]) ∧
      w'.ownsRow w.heap.size 21 1 v1 (M.rn s).length ((M.rn s).map (Value.int .i32)) ∧ w'.ownsRow w.heap.size 3 1 v2 (M.pl s).length ((M.pl s).map (Value.int .i64)) ∧ Below w.heap.size w w' := by
  obtain ⟨i0, hi, hz0, hz1, hz2⟩ := info_parts Try.infoI32
  obtain ⟨i1, hi', hz0', hz1', hz2'⟩ := info_parts Try.infoI64
  go_enter Try.func7, Try.ntmps7
  go_wp2
  go_loopw [5, 6, 7, 8] (fun v5 v6 n i wr => ∃ (pos fuel cnt : Nat) (acc : List (Nat × Nat)), i = .int .i64 pos ∧ n = .int .i64 cnt ∧
      wr.ownsRow w.heap.size 21 1 v5 acc.length (acc.map fun x => Value.int .i32 (x.2 : Int)) ∧ wr.ownsRow w.heap.size 3 1 v6 acc.length (acc.map fun x => Value.int .i64 (x.1 : Int)) ∧ Below w.heap.size w wr ∧
      Hid (acc ++ M.steps s fuel pos = M.all s) ∧ Hid (cnt + M.sp (s.data.toList.drop pos) = M.sp s.data.toList) ∧ s.size ≤ pos + fuel ∧ acc.length ≤ pos ∧ pos ≤ s.size) (fun _ _ _ i _ => s.size - (intOf i).toNat)
  case atStart => exact ⟨0, s.size, 0, [], rfl, rfl, World.ownsRow_nil _ _ _ _, World.ownsRow_nil _ _ _ _, Below.refl _ _, rfl, by show _ = _; simp, by omega, by simp, by omega⟩
  case round =>
    obtain ⟨pos, fuel, cnt, acc, rfl, rfl, own5, own6, hbw, HS, HC, hfu, hlen, hle⟩ := hrel
    have hcnt : cnt ≤ s.size := by have h1 := pos_bd HC.out; have h2 : s.data.toList.length = s.size := (by rw [Array.length_toList]; rfl); omega
    have hsz := hbw.size
    by_cases hp : pos < s.size
    · obtain ⟨fuel, rfl⟩ : ∃ f', fuel = f' + 1 := ⟨fuel - 1, by omega⟩
      have hwd := M.width_pos s pos hp
      have hwf := M.width_fits s pos hp
      have HP : Hid (M.sp (s.data.toList.drop pos) = (if M.bad (M.d0 (s.data.toList.drop pos)) then 1 else 0) + M.sp (s.data.toList.drop (pos + (Utf8.decode s pos).2))) := sp_step s pos hp
      rw [← M.decode_d0] at HP
      have HT : Hid (M.steps s (fuel + 1) pos = (pos, (Utf8.decode s pos).1) :: M.steps s fuel (pos + (Utf8.decode s pos).2)) := by show _ = _; simp [M.steps, hp]
      cases hb : M.bad (Utf8.decode s pos) with
      | false =>
        have HO : Hid (oneD (Utf8.decode s pos) = Utf8.decode s pos) := by show _ = _; unfold oneD; rw [hb]; rfl
        rw [hb] at HP
        go_wp2_with fail
        refine (one_any s pos _ hp hs).mono ?_
        rintro e w1 ⟨rfl, hb1⟩
        rw [HO.out]
        have o5 := L.owns_below own5 hb1 (Nat.le_refl _)
        have o6 := L.owns_below own6 hb1 (Nat.le_refl _)
        have bw1 := hbw.trans (hb1.mono hsz)
        have hz1w := bw1.size
        clear own5 own6 hb1 hbw hb
        have hn0 : ¬ ((Utf8.decode s pos).2 : Int) = 0 := by omega
        go_wp2_with (first
          | (at_builtin; refine wpList_append_own _ rfl (.tmp 21) (.tmp 23) 23 rfl w.heap.size 3 i1 (.int .i64 0) 1 8 Try.underlying23 hi' hz0' hz1' hz2' rfl (by decide) _ _ _ rfl (o6.alloc _) ⟨w1.heap.size, 0, none⟩ 1 1 [.int .i64 (pos : Int)] rfl rfl (cell_one_new _ _ _) (fun x hx => by simp at hx; subst hx; rfl) (by unfold maxLen; omega) (by omega) (by simp; omega) ?_; intro v6' w2 o6' hg2 _; have o5' := L.push_other o6 o5 (by decide) hg2; have bw2 := L.push_below bw1 o6 (Nat.le_refl _) hz1w hg2; have hz2w := bw2.size; clear hg2 o5 o6)
          | (at_builtin; refine wpList_append_own _ rfl (.tmp 29) (.tmp 31) 22 rfl w.heap.size 21 i0 (.int .i32 0) 1 4 Try.underlying22 hi hz0 hz1 hz2 rfl (by decide) _ _ _ rfl (o5'.alloc _) ⟨w2.heap.size, 0, none⟩ 1 1 [.int .i32 ((Utf8.decode s pos).1 : Int)] rfl rfl (cell_one_new _ _ _) (fun x hx => by simp at hx; subst hx; rfl) (by unfold maxLen; omega) (by omega) (by simp; omega) ?_; intro v5' w3 o5'' hg3 _; have o6'' := L.push_other o5' o6' (by decide) hg3; have bw3 := L.push_below bw2 o5' (Nat.le_refl _) hz2w hg3; clear hg3 o5' o6'))
        go_roundw
        case rel =>
          refine ⟨pos + (Utf8.decode s pos).2, fuel, cnt, acc ++ [(pos, (Utf8.decode s pos).1)], by go_num, rfl, (by simpa using o5''), (by simpa using o6''), bw3, ?_, ?_, by omega, by simp; omega, hwf.2⟩
          · show _ = _; rw [← HS.out, HT.out]; simp
          · show _ = _; rw [← HC.out, HP.out]; simp
        case measure => simp [intOf]; omega
      | true =>
        have hd := dec_bad hb
        have HO : Hid (oneD (Utf8.decode s pos) = (0, 0)) := by show _ = _; unfold oneD; rw [hb]; rfl
        rw [hb, hd] at HP
        rw [hd] at HT
        go_wp2_with fail
        refine (one_any s pos _ hp hs).mono ?_
        rintro e w1 ⟨rfl, hb1⟩
        rw [HO.out]
        have o5 := L.owns_below own5 hb1 (Nat.le_refl _)
        have o6 := L.owns_below own6 hb1 (Nat.le_refl _)
        have bw1 := hbw.trans (hb1.mono hsz)
        have hz1w := bw1.size
        clear own5 own6 hb1 hbw hb hd hwd hwf HO
        go_wp2_with (first
          | (at_builtin; refine wpList_append_own _ rfl (.tmp 21) (.tmp 23) 23 rfl w.heap.size 3 i1 (.int .i64 0) 1 8 Try.underlying23 hi' hz0' hz1' hz2' rfl (by decide) _ _ _ rfl (o6.alloc _) ⟨w1.heap.size, 0, none⟩ 1 1 [.int .i64 (pos : Int)] rfl rfl (cell_one_new _ _ _) (fun x hx => by simp at hx; subst hx; rfl) (by unfold maxLen; omega) (by omega) (by simp; omega) ?_; intro v6' w2 o6' hg2 _; have o5' := L.push_other o6 o5 (by decide) hg2; have bw2 := L.push_below bw1 o6 (Nat.le_refl _) hz1w hg2; have hz2w := bw2.size; clear hg2 o5 o6)
          | (at_builtin; refine wpList_append_own _ rfl (.tmp 29) (.tmp 31) 22 rfl w.heap.size 21 i0 (.int .i32 0) 1 4 Try.underlying22 hi hz0 hz1 hz2 rfl (by decide) _ _ _ rfl (o5'.alloc _) ⟨w2.heap.size, 0, none⟩ 1 1 [.int .i32 65533] rfl rfl (cell_one_new _ _ _) (fun x hx => by simp at hx; subst hx; rfl) (by unfold maxLen; omega) (by omega) (by simp; omega) ?_; intro v5' w3 o5'' hg3 _; have o6'' := L.push_other o5' o6' (by decide) hg3; have bw3 := L.push_below bw2 o5' (Nat.le_refl _) hz2w hg3; clear hg3 o5' o6'))
        go_roundw
        case rel =>
          refine ⟨pos + 1, fuel, cnt + 1, acc ++ [(pos, 65533)], by go_num, by go_num, (by simpa using o5''), (by simpa using o6''), bw3, ?_, ?_, by omega, by simp; omega, by omega⟩
          · show _ = _; rw [← HS.out, HT.out]; simp
          · show _ = _; rw [← HC.out, HP.out]; simp; omega
        case measure => simp [intOf]; omega
    · go_wp2_with (at_builtin; go_must (refine wpList_append_own _ rfl (.tmp 37) (.tmp 40) 23 rfl w.heap.size 3 i1 (.int .i64 0) 1 8 Try.underlying23 hi' hz0' hz1' hz2' rfl (by decide) _ _ _ rfl (own6.alloc _) ⟨wr.heap.size, 0, none⟩ 1 1 [.int .i64 (s.size : Int)] rfl rfl (cell_one_new _ _ _) (fun x hx => by simp at hx; subst hx; rfl) (by unfold maxLen; omega) (by omega) (by simp; omega) ?_; intro v6' w2 o6' hg2 _; have o5' := L.push_other own6 own5 (by decide) hg2; have bw2 := L.push_below hbw own6 (Nat.le_refl _) hsz hg2; clear hg2))
      go_ret3
      have e1 := HS.out
      rw [M.steps_end s fuel pos hp, List.append_nil] at e1
      have e2 := HC.out
      rw [sp_end s pos hp] at e2
      have e3 : M.rn s = acc.map fun x => (x.2 : Int) := by unfold M.rn; rw [← e1]
      have e4 : M.pl s = (acc.map fun x => (x.1 : Int)) ++ [(s.size : Int)] := by unfold M.pl; rw [← e1]
      rw [← e2, e3, e4]
      exact ⟨_, _, rfl, by simpa [Function.comp_def] using o5', by simpa [Function.comp_def] using o6', bw2⟩

end Go.Proofs.Ytefnjdgjbgmmeaa
