/-
  Runs of runes: what is skipped, what is ordinary.
-/
import Derived.Test.YtbepnmmcdllklaaDoorTCont
namespace Go.Proofs.YtbepnmmcdllklaaDoor
open Go.RowKit

theorem among_any (s : ByteArray) (w : World) (cb tb cap p : Nat) (ao : Option Addr) (l : List Int) (C : T.Cur w cb tb cap ao l p) (hA : ∀ b ∈ s.data.toList, b.toNat < 128) :
    Calls Tryd.prog 72 #[.pointer (some ⟨cb, 0, none⟩), .string s] w fun e w' => e = .returned (.bool (decide (T.see l p ∈ T.bts s))) ∧ Below w.heap.size w w' := by
  have hr := C.see_right p
  go_enter Tryd.func72, Tryd.ntmps72
  go_wp2_with fail
  refine (ahead_any _ cb tb cap p 0 ao l C (by omega)).mono ?_
  rintro e w1 ⟨rfl, b1⟩
  rw [Nat.add_zero]
  go_wp2_with fail
  refine (contains_any s _ _ hA hr).mono ?_
  rintro e w2 ⟨rfl, b2⟩
  go_wp2
  go_ret
  exact ⟨rfl, b1.trans (b2.mono b1.size)⟩

theorem blank_any (w : World) (cb tb cap p : Nat) (ao : Option Addr) (l : List Int) (C : T.Cur w cb tb cap ao l p) :
    Calls Tryd.prog 72 #[.pointer (some ⟨cb, 0, none⟩), .string { data := #[32, 9, 10] }] w fun e w' => e = .returned (.bool (T.blank (T.see l p))) ∧ Below w.heap.size w w' :=
  among_any { data := #[32, 9, 10] } w cb tb cap p ao l C (by decide)
theorem hexd_any (w : World) (cb tb cap p : Nat) (ao : Option Addr) (l : List Int) (C : T.Cur w cb tb cap ao l p) :
    Calls Tryd.prog 72 #[.pointer (some ⟨cb, 0, none⟩), .string { data := #[48, 49, 50, 51, 52, 53, 54, 55, 56, 57, 97, 98, 99, 100, 101, 102, 65, 66, 67, 68, 69, 70] }] w fun e w' => e = .returned (.bool (T.hexd (T.see l p))) ∧ Below w.heap.size w w' :=
  among_any _ w cb tb cap p ao l C (by decide)
theorem spec_any (w : World) (cb tb cap p : Nat) (ao : Option Addr) (l : List Int) (C : T.Cur w cb tb cap ao l p) :
    Calls Tryd.prog 72 #[.pointer (some ⟨cb, 0, none⟩), .string { data := #[32, 9, 10, 91, 93, 38, 45, 94, 92, 58, 36, 40, 41, 123, 125, 60, 62, 124, 59, 35, 39, 34, 61, 44] }] w fun e w' => e = .returned (.bool (decide (T.see l p ∈ T.specials))) ∧ Below w.heap.size w w' :=
  among_any _ w cb tb cap p ao l C (by decide)

theorem ordy_any (w : World) (cb tb cap p : Nat) (ao : Option Addr) (l : List Int) (C : T.Cur w cb tb cap ao l p) :
    Calls Tryd.prog 113 #[.pointer (some ⟨cb, 0, none⟩)] w fun e w' => e = .returned (.bool (T.ordy (T.see l p))) ∧ Below w.heap.size w w' := by
  unfold T.ordy
  go_enter Tryd.func113, Tryd.ntmps113
  go_wp2_with fail
  refine (done_any _ cb tb cap p ao l C).mono ?_
  rintro e w1 ⟨rfl, b1⟩
  have C1 := C.below b1
  by_cases h : T.see l p = -1
  · go_wp2
    go_ret
    exact ⟨L.ret_bool (by simp [h]), b1⟩
  · go_wp2_with (go_at_call 72; refine (spec_any _ cb tb cap p ao l C1).mono ?_; rintro e w2 ⟨rfl, b2⟩)
    go_ret
    exact ⟨L.ret_bool (by simp [h]), b1.trans (b2.mono b1.size)⟩

set_option maxHeartbeats 1000000 in
theorem blanks_any (w : World) (cb tb cap p : Nat) (ao : Option Addr) (l : List Int) (C : T.Cur w cb tb cap ao l p) :
    Calls Tryd.prog 51 #[.pointer (some ⟨cb, 0, none⟩)] w fun e w' => e = .returned (.tuple #[]) ∧ T.Cur w' cb tb cap ao l (T.skipW T.blank l p) ∧ w.grownBy w' (some cb) := by
  have hlen := C.len
  go_enter Tryd.func51, Tryd.ntmps51
  go_wp2
  go_loopw [3] (fun _ wr => ∃ q : Nat, p ≤ q ∧ Hid (∀ i, p ≤ i → i < q → T.blank (T.see l i) = true) ∧ Hid (T.Cur wr cb tb cap ao l q) ∧ Hid (w.grownBy wr (some cb))) (fun _ wr => l.length - T.pos wr cb)
  case atStart => exact ⟨p, Nat.le_refl _, fun i h1 h2 => by omega, C, S.grown_refl _ _⟩
  case round =>
    obtain ⟨q, hq, HA, HC, HG⟩ := hrel
    have hpos := HC.out.pos
    have HP : Hid _ := hpos
    clear hpos
    have hql := HC.out.le
    go_wp2_with fail
    refine (blank_any _ cb tb cap q ao l HC.out).mono ?_
    rintro e w1 ⟨rfl, b1⟩
    have C1 := HC.out.below b1
    have c1 := C1.cell1
    have f1 := C1.frz1
    have HC1 : Hid (T.Cur w1 cb tb cap ao l q) := C1
    clear C1
    by_cases hb : T.blank (T.see l q) = true
    · have hlt : q < l.length := HC.out.inside (by intro h; rw [h] at hb; revert hb; decide)
      go_wp2
      go_roundw
      case rel =>
        refine ⟨q + 1, by omega, fun i h1 h2 => ?_, HC1.out.set (q := q + 1) (by omega), S.grown_trans HG.out (S.grown_trans (S.grown_below b1) (fr_set _ _ _ _))⟩
        by_cases e : i = q
        · rw [e]; exact hb
        · exact HA.out i h1 (by omega)
      case measure =>
        have h1 : T.pos (w1.setCell ⟨cb, 1, none⟩ (.int .i64 ((q : Int) + 1))) cb = q + 1 := (HC1.out.set (q := q + 1) (by omega)).pos
        rw [h1, HP.out]
        omega
    · have hb' : T.blank (T.see l q) = false := by simpa using hb
      go_wp2
      go_end0
      rw [T.skipW_eq hq hql HA.out hb' (by decide)]
      exact ⟨rfl, HC1.out, S.grown_trans HG.out (S.grown_below b1)⟩

end Go.Proofs.YtbepnmmcdllklaaDoor
