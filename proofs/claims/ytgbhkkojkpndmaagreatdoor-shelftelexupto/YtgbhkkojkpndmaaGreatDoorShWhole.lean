/-
  A text with no spoilt byte is its runes' bytes; what scriptlaw16.whole answers. (The first two facts stand in Uni2 as well: here for bases that left them out.)
-/
import Derived.Test.YtgbhkkojkpndmaaGreatDoorShLaw
import Derived.Test.YtgbhkkojkpndmaaGreatDoorTMath
import Derived.Test.YtgbhkkojkpndmaaGreatDoorTChar
namespace Go.Proofs.YtgbhkkojkpndmaaGreatDoor
open Go.RowKit Go.Lib
set_option linter.unusedSimpArgs false
set_option linter.unusedVariables false
namespace M
theorem u8_eqw (n : Nat) (a : UInt8) (h : n = a.toNat) : UInt8.ofNat n = a := by subst h; simp
set_option maxRecDepth 100000 in
set_option maxHeartbeats 4000000 in
/-- what is not spoilt is encoded again to its bytes -/
theorem enc_d0w (L : List UInt8) (h : L ≠ []) (hb : bad (d0 L) = false) : enc ((d0 L).1 : Int) = L.take (d0 L).2 := by
  have hr := zqs L
  rw [zdr _ hr]
  cases L with
  | nil => exact absurd rfl h
  | cons a L =>
    have g0 := a.toNat_lt
    have e0 : bt (a :: L) 0 = a.toNat := rfl
    unfold d0 at hb hr ⊢
    rw [e0] at hb hr ⊢
    unfold Lib.decodeN at hb hr ⊢
    by_cases c0 : a.toNat < 128
    · simp only [c0, if_true] at *
      simp
    · rw [if_neg c0] at hb hr ⊢
      by_cases c1 : a.toNat / 32 = 6 ∧ (1 < (a :: L).length ∧ bt (a :: L) 1 / 64 = 2)
      · rw [if_pos c1] at hb hr ⊢
        split at hb
        case isFalse => simp [bad] at hb
        case isTrue c =>
          rw [if_pos c] at hr ⊢
          cases L with
          | nil => simp at c1
          | cons b L =>
            have e1 : bt (a :: b :: L) 1 = b.toNat := rfl
            have g1 := b.toNat_lt
            rw [e1] at c1 c hr ⊢
            simp only at hr ⊢
            rw [if_neg (by omega), if_pos (by omega)]
            simp only [List.take_succ_cons, List.take_zero]
            rw [u8_eqw _ a (by omega), u8_eqw _ b (by omega)]
      · rw [if_neg c1] at hb hr ⊢
        by_cases c2 : a.toNat / 16 = 14 ∧ (1 < (a :: L).length ∧ bt (a :: L) 1 / 64 = 2) ∧ (2 < (a :: L).length ∧ bt (a :: L) 2 / 64 = 2)
        · rw [if_pos c2] at hb hr ⊢
          split at hb
          case isFalse => simp [bad] at hb
          case isTrue c =>
            rw [if_pos c] at hr ⊢
            rcases L with _ | ⟨b, _ | ⟨d, L⟩⟩
            · simp at c2
            · simp at c2
            · have e1 : bt (a :: b :: d :: L) 1 = b.toNat := rfl
              have e2 : bt (a :: b :: d :: L) 2 = d.toNat := rfl
              have g1 := b.toNat_lt
              have g2 := d.toNat_lt
              rw [e1, e2] at c2 c hr ⊢
              simp only at hr ⊢
              rw [if_neg (by omega), if_neg (by omega), if_pos (by omega)]
              simp only [List.take_succ_cons, List.take_zero]
              rw [u8_eqw _ a (by omega), u8_eqw _ b (by omega), u8_eqw _ d (by omega)]
        · rw [if_neg c2] at hb hr ⊢
          by_cases c3 : a.toNat / 8 = 30 ∧ (1 < (a :: L).length ∧ bt (a :: L) 1 / 64 = 2) ∧ (2 < (a :: L).length ∧ bt (a :: L) 2 / 64 = 2) ∧ (3 < (a :: L).length ∧ bt (a :: L) 3 / 64 = 2)
          · rw [if_pos c3] at hb hr ⊢
            split at hb
            case isFalse => simp [bad] at hb
            case isTrue c =>
              rw [if_pos c] at hr ⊢
              rcases L with _ | ⟨b, _ | ⟨d, _ | ⟨f, L⟩⟩⟩
              · simp at c3
              · simp at c3
              · simp at c3
              · have e1 : bt (a :: b :: d :: f :: L) 1 = b.toNat := rfl
                have e2 : bt (a :: b :: d :: f :: L) 2 = d.toNat := rfl
                have e3 : bt (a :: b :: d :: f :: L) 3 = f.toNat := rfl
                have g1 := b.toNat_lt
                have g2 := d.toNat_lt
                have g3 := f.toNat_lt
                rw [e1, e2, e3] at c3 c hr ⊢
                simp only at hr ⊢
                rw [if_neg (by omega), if_neg (by omega), if_neg (by omega)]
                simp only [List.take_succ_cons, List.take_zero]
                rw [u8_eqw _ a (by omega), u8_eqw _ b (by omega), u8_eqw _ d (by omega), u8_eqw _ f (by omega)]
          · rw [if_neg c3] at hb
            simp [bad] at hb

/-- WHAT IS NOT SPOILT COMES BACK -/
theorem enc_ruw : ∀ L, sp L = 0 → ((ru L).flatMap fun x => enc (x.1 : Int)) = L := by
  refine zq3 (by simp [zsk]) ?_
  intro L h ih hs
  rw [zij L h] at hs
  have hb : bad (d0 L) = false := by
    cases e : bad (d0 L) with
    | false => rfl
    | true => rw [e] at hs; simp at hs
  rw [zgp L h, List.flatMap_cons, ih (by omega), enc_d0w L h hb, List.take_append_drop]

end M
/-- a text with no spoilt byte is its runes' bytes -/
theorem Sh.whole_bytes {s : ByteArray} (h : M.sp s.data.toList = 0) : T.bytesR (M.rn s) = s.data.toList := by
  have e := M.enc_ruw _ h
  rw [M.zsn]
  unfold T.bytesR
  rw [List.flatMap_map]
  exact e

set_option maxHeartbeats 1000000 in
theorem shWhole_any (s : ByteArray) (w : World) (hs : s.size ≤ 1099511627776) : Calls Tryz.prog 16 #[.string s] w fun e w' => e = .returned (.bool (decide (s.size ≤ 1000) && decide (M.sp s.data.toList = 0))) ∧ Below w.heap.size w w' := by
  have HW : Hid (Calls Tryz.prog 23 #[.string s] w fun e w' => ∃ v1 v2, e = .returned (.tuple #[v1, v2, .int .i64 (M.sp s.data.toList : Int)]) ∧ Below w.heap.size w w') := by
    refine (zpf s w hs).mono ?_
    rintro e w' ⟨v1, v2, h1, _, _, h2⟩
    exact ⟨v1, v2, h1, h2⟩
  have HS : Hid (∀ X, Calls Tryz.prog 9 #[.string s] X fun e w' => e = .returned (.bool (decide (s.size ≤ 1000))) ∧ w' = X) := fun X => zcd s X
  generalize M.sp s.data.toList = n at HW ⊢
  cases hb : decide (s.size ≤ 1000) with
  | true =>
    rw [hb] at HS
    clear hb
    by_cases hn : n = 0
    · subst hn
      go_enter Tryz.func16, Tryz.ntmps16
      go_wp2_with fail
      refine HW.out.mono ?_
      clear HW
      rintro e w1 ⟨v1, v2, rfl, b1⟩
      have HB : Hid (Below w.heap.size w w1) := b1
      clear b1
      go_wp2_with fail
      refine (HS.out _).mono ?_
      rintro e w0 ⟨rfl, rfl⟩
      clear HS
      go_wp2
      go_ret
      exact ⟨rfl, HB.out⟩
    · rw [decide_eq_false hn]
      go_enter Tryz.func16, Tryz.ntmps16
      go_wp2_with fail
      refine HW.out.mono ?_
      clear HW
      rintro e w1 ⟨v1, v2, rfl, b1⟩
      have HB : Hid (Below w.heap.size w w1) := b1
      clear b1
      go_wp2_with fail
      refine (HS.out _).mono ?_
      rintro e w0 ⟨rfl, rfl⟩
      clear HS
      go_wp2
      go_ret
      exact ⟨L.zak (by simp; exact hn), HB.out⟩
  | false =>
    rw [hb] at HS
    clear hb
    go_enter Tryz.func16, Tryz.ntmps16
    go_wp2_with fail
    refine HW.out.mono ?_
    clear HW
    rintro e w1 ⟨v1, v2, rfl, b1⟩
    have HB : Hid (Below w.heap.size w w1) := b1
    clear b1
    go_wp2_with fail
    refine (HS.out _).mono ?_
    rintro e w0 ⟨rfl, rfl⟩
    clear HS
    go_wp2
    go_ret
    exact ⟨rfl, HB.out⟩

end Go.Proofs.YtgbhkkojkpndmaaGreatDoor
