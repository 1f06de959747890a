/-
  The walk of scriptlaw1.RunesJoin: of any two texts of at most 2^30 bytes it answers true, and nothing that was there has changed.
-/
import Derived.Test.YtefnjdgjbgmmeaaAlive
import Derived.Test.YtefnjdgjbgmmeaaSpoilt
import Derived.Test.YtefnjdgjbgmmeaaSame
namespace Go.Proofs.Ytefnjdgjbgmmeaa
open Go.RowKit

theorem join_bytes (s t : ByteArray) : (s ++ t).data.toList = s.data.toList ++ t.data.toList := by
  rw [ByteArray.data_append, Array.toList_append]
theorem join_rn (s t : ByteArray) (h : M.sp s.data.toList = 0) : M.rn (s ++ t) = M.rn s ++ M.rn t := by
  rw [M.rn_ru, M.rn_ru, M.rn_ru, join_bytes, M.ru_app _ _ h, List.map_append]
theorem join_sp (s t : ByteArray) (h : M.sp s.data.toList = 0) : M.sp (s ++ t).data.toList = M.sp t.data.toList := by
  rw [join_bytes, M.sp_app _ _ h]

set_option maxHeartbeats 1000000 in
theorem law_join (s t : ByteArray) (w : World) (hs : s.size ≤ 1073741824) (ht : t.size ≤ 1073741824) :
    Calls Try.prog 5 #[.string s, .string t] w fun e w' => e = .returned (.bool true) ∧ Below w.heap.size w w' := by
  obtain ⟨i0, hi, hz0, hz1, hz2⟩ := info_parts Try.infoI32
  by_cases h0 : (M.sp s.data.toList : Int) = 0
  · go_enter Try.func5, Try.ntmps5
    go_wp2_with (first
      | (go_at_call 16; go_must (refine (alive_any _).mono ?_; rintro e w1 ⟨rfl, hb1⟩))
      | (go_at_call 11; go_must (refine (spoilt_any s _ (by omega)).mono ?_; rintro e w2 ⟨rfl, hb2⟩)))
    refine (decode_any (s ++ t) _ (by simp; omega)).mono ?_
    rintro e w3 ⟨v3, rfl, own3, hb3⟩
    go_wp2_with fail
    refine (decode_any s _ (by omega)).mono ?_
    rintro e w4 ⟨v4, rfl, own4, hb4⟩
    have ownE := L.owns_below (World.ownsRow_made (base := w3.heap.size) (e := 21) (size := 1) w3 #[] 0 (Nat.le_refl _) (by decide) rfl) hb4 (Nat.le_refl _)
    have hz4 : w3.heap.size < w4.heap.size := by have := hb4.size; simp at this; omega
    go_wp2_with (at_builtin; go_must (refine L.wpList_append_rd rfl _ _ 22 rfl w3.heap.size 21 i0 .i32 4 Try.underlying22 hi hz0 hz1 hz2 _ _ _ rfl ownE _ _ rfl (L.Rd.of_owns own4) (by have := M.rn_length s; unfold maxLen; omega) (by have := M.rn_length s; omega) (by omega) ?_; intro v5 w5 own5 hg5))
    have hb5 : Below w3.heap.size w3 w5 := Below.grown (((Below.refl _ _).alloc (Nat.le_refl _) _).trans (hb4.mono (by simp))) hg5 (by omega) (fun j hj => (ownE.lt j hj).1)
    have hz5 := hg5.size
    refine (decode_any t _ (by omega)).mono ?_
    rintro e w6 ⟨v6, rfl, own6, hb6⟩
    have hz6 := hb6.size
    have own5' := L.owns_below own5 hb6 (Nat.le_refl _)
    go_wp2_with (at_builtin; go_must (refine L.wpList_append_rd rfl _ _ 22 rfl w3.heap.size 21 i0 .i32 4 Try.underlying22 hi hz0 hz1 hz2 _ _ _ rfl own5' _ _ rfl (L.Rd.of_owns own6) (by have := M.rn_length s; have := M.rn_length t; unfold maxLen; omega) (by have := M.rn_length s; have := M.rn_length t; omega) (by omega) ?_; intro v7 w7 own7 hg7))
    have hb7 : Below w3.heap.size w3 w7 := Below.grown (hb5.trans (hb6.mono (by omega))) hg7 (by omega) (fun j hj => (own5'.lt j hj).1)
    have R3 : L.Rd w7 v3 .i32 (M.rn s ++ M.rn t) := by
      rw [← join_rn s t (by omega)]
      exact (L.Rd.of_owns own3).below hb7 (Nat.le_refl _)
    have R7 : L.Rd w7 v7 .i32 (M.rn s ++ M.rn t) := L.Rd.of_owns (B := w3.heap.size) (e := 21) (by simpa [Nat.add_assoc] using own7)
    have hz7 := hb7.size
    have hl1 := M.rn_length s
    have hl2 := M.rn_length t
    refine (same_any w7 v3 v7 _ _ R3 R7 (by rw [List.length_append]; omega) (by rw [List.length_append]; omega)).mono ?_
    rintro e w8 ⟨rfl, hb8⟩
    rw [decide_eq_true rfl]
    clear own3 own4 own5 own5' own6 own7 hg5 hg7 R3 R7 ownE
    have HE : Hid (M.sp (s ++ t).data.toList = M.sp t.data.toList) := join_sp s t (by omega)
    go_wp2_with fail
    refine (spoilt_any (s ++ t) _ (by simp; omega)).mono ?_
    rintro e w9 ⟨rfl, hb9⟩
    rw [HE.out]
    go_wp2_with fail
    refine (spoilt_any t _ (by omega)).mono ?_
    rintro e w10 ⟨rfl, hb10⟩
    go_wp2_with fail
    go_ret
    refine ⟨L.ret_bool (by simp), ?_⟩
    have z1 := hb1.size
    have z2 := hb2.size
    have z3 := hb3.size
    have z8 := hb8.size
    have z9 := hb9.size
    exact (((((hb1.trans (hb2.mono z1)).trans (hb3.mono (by omega))).trans (hb7.mono (by omega))).trans (hb8.mono (by omega))).trans (hb9.mono (by omega))).trans (hb10.mono (by omega))
  · go_enter Try.func5, Try.ntmps5
    go_wp2_with (first
      | (go_at_call 16; go_must (refine (alive_any _).mono ?_; rintro e w1 ⟨rfl, hb1⟩))
      | (go_at_call 11; go_must (refine (spoilt_any s _ (by omega)).mono ?_; rintro e w2 ⟨rfl, hb2⟩)))
    go_ret
    exact ⟨rfl, hb1.trans (hb2.mono hb1.size)⟩
end Go.Proofs.Ytefnjdgjbgmmeaa
