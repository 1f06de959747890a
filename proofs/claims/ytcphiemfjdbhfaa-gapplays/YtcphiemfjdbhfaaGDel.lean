/-
  What Del, Back and Move of gap.Text do.
-/
import Derived.Test.YtcphiemfjdbhfaaGText
import Derived.Deep.RegionHeld3
import Derived.Deep.DrawnRows
namespace Go.Proofs.Ytcphiemfjdbhfaa
open Go.RowKit

namespace G
/-- the text is this one behind the call, and nothing below B was changed -/
def Told (B g : Nat) (w : World) (A Z : List Int) (w' : World) : Prop := (∃ ao cur, Tx B g ao cur A Z w') ∧ Below B w w'

theorem Tx.size {B g : Nat} {ao : Option Addr} {cur A Z : List Int} {w : World} (h : Tx B g ao cur A Z w) : B ≤ w.heap.size := by have := h.box.lt; have := h.hB; omega
theorem Tx.drew {B g : Nat} {ao : Option Addr} {cur A Z : List Int} {w : World} (h : Tx B g ao cur A Z w) (q : Nat) : Tx B g ao cur A Z (w.drewN q) := h.kept fun _ _ => rfl
theorem Tx.told {B g : Nat} {ao : Option Addr} {cur A Z : List Int} {w w' : World} (h : Tx B g ao cur A Z w') (hb : Below B w w') : Told B g w A Z w' := ⟨⟨ao, cur, h⟩, hb⟩
theorem Tx.same {B g : Nat} {ao : Option Addr} {cur A Z : List Int} {w : World} (h : Tx B g ao cur A Z w) (q : Nat) : Told B g w A Z (w.drewN q) := (h.drew q).told (below_drewN (Below.refl _ _) _)
theorem Tx.del {B g : Nat} {ao : Option Addr} {cur A Z : List Int} {w : World} (h : Tx B g ao cur A Z w) (k : Nat) (hk : k ≤ Z.length) : Tx B g ao cur A (Z.drop k) (w.setCell ⟨g, 2, none⟩ (.int .i64 ((cur.length - Z.length : Nat) + k : Int))) := by
  have hf := h.fit
  have hm := h.most
  have hw := h.few
  have hl : (Z.drop k).length = Z.length - k := by simp
  refine ⟨h.hB, ?_, h.room.block fun r hr => heap_setCell_other _ _ _ _ (h.ne r hr), h.ne, by omega, h.most, by omega, h.ahead, ?_⟩
  · have := h.box.set2 (.int .i64 ((cur.length - Z.length : Nat) + k : Int))
    rw [hl]
    have e : ((cur.length - Z.length : Nat) + k : Int) = (cur.length - (Z.length - k) : Nat) := by omega
    rw [e] at this ⊢
    exact this
  · rw [hl]
    have := h.behind
    conv => lhs; rw [this]
    rw [List.drop_drop]
    congr 1; omega
theorem Tx.back {B g : Nat} {ao : Option Addr} {cur A Z : List Int} {w : World} (h : Tx B g ao cur A Z w) (k : Nat) (hk : k ≤ A.length) : Tx B g ao cur (A.take (A.length - k)) Z (w.setCell ⟨g, 1, none⟩ (.int .i64 ((A.length : Int) - k))) := by
  have hf := h.fit
  have hm := h.most
  have hw := h.few
  have hl : (A.take (A.length - k)).length = A.length - k := by simp
  refine ⟨h.hB, ?_, h.room.block fun r hr => heap_setCell_other _ _ _ _ (h.ne r hr), h.ne, by omega, h.most, by omega, ?_, h.behind⟩
  · have := h.box.set1 (.int .i64 ((A.length : Int) - k))
    rw [hl]
    have e : ((A.length : Int) - k) = (A.length - k : Nat) := by omega
    rw [e] at this ⊢
    exact this
  · rw [hl]
    exact (congrArg (List.take (A.length - k)) h.ahead).trans (by rw [List.take_take]; congr 1; omega)
end G

set_option maxHeartbeats 400000 in
theorem del_bad (w : World) (B g : Nat) (ao : Option Addr) (cur A Z : List Int) (h : G.Tx B g ao cur A Z w) (n : Int) (hn : n < 0 ∨ (Z.length : Int) < n) :
    Calls Try.prog 13 #[.pointer (some ⟨g, 0, none⟩), .int .i64 n] w fun e w' => e = .returned (.int .i64 3) ∧ G.Told B g w A Z w' := by
  have hf := h.fit
  have hm := h.most
  have H : Hid _ := h
  clear h
  by_cases h0 : n < 0
  · go_enter Try.func13, Try.ntmps13
    go_wp2
    go_ret
    exact ⟨rfl, H.out.same 0⟩
  · have h1 : (Z.length : Int) < n := by omega
    go_enter Try.func13, Try.ntmps13
    go_wp2_with (go_at_call 18; refine (behind_any _ g ao _ _ _ H.out.box hm (by omega)).mono ?_; rintro e w' ⟨rfl, q, rfl⟩; rw [show cur.length - (cur.length - Z.length) = Z.length by omega])
    go_ret
    exact ⟨rfl, H.out.same q⟩

set_option maxHeartbeats 400000 in
theorem del_ok (w : World) (B g : Nat) (ao : Option Addr) (cur A Z : List Int) (h : G.Tx B g ao cur A Z w) (k : Nat) (hn : k ≤ Z.length) :
    Calls Try.prog 13 #[.pointer (some ⟨g, 0, none⟩), .int .i64 k] w fun e w' => e = .returned (.int .i64 0) ∧ G.Told B g w A (Z.drop k) w' := by
  have hf := h.fit
  have hm := h.most
  have H : Hid _ := h
  clear h
  go_enter Try.func13, Try.ntmps13
  go_wp2_with (go_at_call 18; refine (behind_any _ g ao _ _ _ H.out.box hm (by omega)).mono ?_; rintro e w' ⟨rfl, q, rfl⟩; rw [show cur.length - (cur.length - Z.length) = Z.length by omega]; have X := H.out.drew q; have c2 := X.box.c2; have f2 := X.box.free 2; have HX : Hid _ := X; clear X; have HB : Hid (Below B w (w.drewN q)) := (below_drewN (Below.refl _ _) _); generalize w.drewN q = w1 at *)
  go_ret
  exact ⟨rfl, (HX.out.del k hn).told (G.below_set HB.out HX.out.hB _)⟩

set_option maxHeartbeats 400000 in
theorem back_bad (w : World) (B g : Nat) (ao : Option Addr) (cur A Z : List Int) (h : G.Tx B g ao cur A Z w) (n : Int) (hn : n < 0 ∨ (A.length : Int) < n) :
    Calls Try.prog 14 #[.pointer (some ⟨g, 0, none⟩), .int .i64 n] w fun e w' => e = .returned (.int .i64 3) ∧ G.Told B g w A Z w' := by
  have c1 := h.box.c1
  have H : Hid _ := h
  clear h
  by_cases h0 : n < 0
  · go_enter Try.func14, Try.ntmps14
    go_wp2
    go_ret
    exact ⟨rfl, H.out.same 0⟩
  · have h1 : (A.length : Int) < n := by omega
    go_enter Try.func14, Try.ntmps14
    go_wp2
    go_ret
    exact ⟨rfl, H.out.same 0⟩

set_option maxHeartbeats 400000 in
theorem back_ok (w : World) (B g : Nat) (ao : Option Addr) (cur A Z : List Int) (h : G.Tx B g ao cur A Z w) (k : Nat) (hn : k ≤ A.length) :
    Calls Try.prog 14 #[.pointer (some ⟨g, 0, none⟩), .int .i64 k] w fun e w' => e = .returned (.int .i64 0) ∧ G.Told B g w (A.take (A.length - k)) Z w' := by
  have c1 := h.box.c1
  have f1 := h.box.free 1
  have hw := h.few
  have H : Hid _ := h
  clear h
  go_enter Try.func14, Try.ntmps14
  go_wp2
  go_ret
  exact ⟨rfl, (H.out.back k hn).told (G.below_set (Below.refl _ _) H.out.hB _)⟩

end Go.Proofs.Ytcphiemfjdbhfaa
