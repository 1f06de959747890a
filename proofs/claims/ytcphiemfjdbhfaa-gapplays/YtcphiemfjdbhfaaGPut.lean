/-
  What Put of gap.Text does.
-/
import Derived.Test.YtcphiemfjdbhfaaGWiden
namespace Go.Proofs.Ytcphiemfjdbhfaa
open Go.RowKit

attribute [local go_sem ↓] Go.wp_at_zero Go.wp_at_succ

namespace G
theorem copy00 (dp sp : Option Addr) (dl c1 c2 : Nat) (ty : TypeId) (w : World) : (Builtin.copy_ #[22, 22] ty #[.slice dp dl c1, .slice sp 0 c2]).run Try.prog w = .ok (goInt 0) w :=
  run_copy_none w _ _ _ 21 _ _ _ _ _ _ Try.underlying22 Try.sizeI32 (by simp)
theorem Told.drew {B g : Nat} {w W : World} {A Z : List Int} (h : Told B g w A Z W) : Told B g w A Z W.drew := ⟨h.1.imp fun _ ⟨cur, hX⟩ => ⟨cur, hX.kept fun _ _ => rfl⟩, h.2.drew⟩
theorem Tx.put {B g : Nat} {ao : Option Addr} {cur A Z R : List Int} {w w2 : World} (h : Tx B g ao cur A Z w) (hn : A.length + R.length + Z.length ≤ cur.length) (h4 : A.length + Z.length + R.length ≤ 4000)
    (hR : Room B w2 ao (splice cur A.length R)) (hX : Bx3 w2 g (.slice ao cur.length cur.length) (.int .i64 A.length) (.int .i64 (cur.length - Z.length : Nat))) :
    Tx B g ao (splice cur A.length R) (A ++ R) Z (w2.setCell ⟨g, 1, none⟩ (.int .i64 (A.length + R.length : Nat))) := by
  have hf := h.fit
  have hmo := h.most
  have hl : (splice cur A.length R).length = cur.length := length_splice _ _ _ (by omega)
  have ha : (A ++ R).length = A.length + R.length := List.length_append
  refine ⟨h.hB, ?_, hR.block fun r' hr => heap_setCell_other _ _ _ _ (h.ne r' hr), h.ne, by omega, by omega, by omega, ?_, ?_⟩
  · rw [hl, ha]; exact hX.set1 _
  · rw [ha, splice_to (by omega), ← h.ahead]
  · rw [hl, splice_drop (by omega) (by omega)]; exact h.behind
end G

set_option maxHeartbeats 400000 in
theorem put_bad (w : World) (B g : Nat) (ao : Option Addr) (cur A Z : List Int) (h : G.Tx B g ao cur A Z w) (sp : Option Addr) (n c : Nat) (hn : n ≤ maxLen) (h4 : 4000 < A.length + Z.length + n) :
    Calls Try.prog 11 #[.pointer (some ⟨g, 0, none⟩), .slice sp n c] w fun e w' => e = .returned (.int .i64 4) ∧ G.Told B g w A Z w' := by
  unfold maxLen at hn
  have hf := h.fit
  have hm := h.most
  have hw := h.few
  have H : Hid (G.Tx B g ao cur A Z w) := h
  have HL : Hid (A.length + (cur.length - (cur.length - Z.length)) = A.length + Z.length) := by show _ = _; omega
  clear h
  go_enter Try.func11, Try.ntmps11
  go_wp2_with (go_at_call 16; refine (len_any _ g ao _ _ _ H.out.box hm (by omega) (by omega)).mono ?_; rintro e w' ⟨rfl, q, rfl⟩; rw [HL.out])
  go_ret
  exact ⟨rfl, H.out.same q⟩

set_option maxHeartbeats 8000000 in
theorem put_ok (w : World) (B g : Nat) (ao : Option Addr) (cur A Z : List Int) (h : G.Tx B g ao cur A Z w) (v : Value) (R : List Int) (hv : ∀ w', Below B w w' → L.Rd w' v .i32 R) (h4 : A.length + Z.length + R.length ≤ 4000) :
    Calls Try.prog 11 #[.pointer (some ⟨g, 0, none⟩), v] w fun e w' => e = .returned (.int .i64 0) ∧ G.Told B g w (A ++ R) Z w' := by
  obtain ⟨sp, c, rfl, _⟩ := hv w (Below.refl _ _)
  have hf := h.fit
  have hm := h.most
  have hw := h.few
  have H : Hid (G.Tx B g ao cur A Z w) := h
  have HL : Hid (A.length + (cur.length - (cur.length - Z.length)) = A.length + Z.length) := by show _ = _; omega
  have HV : Hid (∀ w', Below B w w' → L.Rd w' (.slice sp R.length c) .i32 R) := hv
  clear h hv
  go_enter Try.func11, Try.ntmps11
  go_wp2_with fail
  refine (len_any _ g ao _ _ _ H.out.box hm (by omega) (by omega)).mono ?_
  rintro e w' ⟨rfl, q, rfl⟩
  rw [HL.out]
  go_wp2_with fail
  refine (widen_any _ B g ao cur A Z (H.out.drew q) R.length h4).mono ?_
  rintro e w1 ⟨rfl, ⟨ao1, cur1, X1, hn1⟩, b1⟩
  have HX : Hid (G.Tx B g ao1 cur1 A Z w1) := X1
  have HB : Hid (Below B w w1) := (below_drewN (Below.refl _ _) _).trans b1
  have hf1 := X1.fit
  have hm1 := X1.most
  have c0 := X1.box.c0
  have c1 := X1.box.c1
  have c2 := X1.box.c2
  have f1 := X1.box.free 1
  obtain ⟨T, hT⟩ : ∃ T : Nat, T = cur1.length - Z.length := ⟨_, rfl⟩
  have HT : Hid (T = cur1.length - Z.length) := hT
  rw [← hT] at c2
  have hT0 : (A.length : Int) ≤ T := by omega
  have hT1 : (T : Int) ≤ cur1.length := by omega
  have hA0 : (0 : Int) ≤ A.length := by omega
  clear b1 X1 H hT
  by_cases h0 : R = []
  · subst h0
    have hcopy := G.copy00
    have e1 : IntKind.i64.wrap (A.length : Int) = A.length := by rw [IntKind.wrap_i64]; omega
    obtain ⟨W2, hW2⟩ : ∃ W2, W2 = (w1.setCell ⟨g, 1, none⟩ (.int .i64 A.length)).drew := ⟨_, rfl⟩
    have HE : Hid (G.Told B g w (A ++ []) Z W2) := by
      rw [hW2]
      have hX := HX.out.put (R := []) (by rw [List.length_nil]; omega) (by rw [List.length_nil]; omega) (by simpa [splice] using HX.out.room) HX.out.box
      exact (hX.told (G.below_set HB.out HX.out.hB _)).drew
    have HW2 : Hid (W2 = (w1.setCell ⟨g, 1, none⟩ (.int .i64 A.length)).drew) := hW2
    clear hW2
    go_wp2
    go_region
    rw [← HW2.out]
    clear HW2 hcopy
    go_wp2
    all_goals
      go_ret
      exact ⟨rfl, by have := HE.out; rw [List.append_nil] at this; exact this⟩
  · obtain ⟨r, hr⟩ := HX.out.room.some (by have := List.length_pos_iff.2 h0; omega)
    subst hr
    have hne : r ≠ g := HX.out.ne r rfl
    have hp := List.length_pos_iff.2 h0
    obtain ⟨sp', c', hsl, _, hce⟩ := HV.out w1 HB.out
    cases hsl
    obtain ⟨b, off, rfl, hcell⟩ := hce h0
    obtain ⟨F, hF⟩ : ∃ F : Nat, F = A.length + R.length := ⟨_, rfl⟩
    have HF : Hid (F = A.length + R.length) := hF
    have e1 : IntKind.i64.wrap (↑A.length + ↑R.length) = (F : Int) := by rw [IntKind.wrap_i64]; omega
    have hA4 : ¬ cur1.length = A.length := by omega
    obtain ⟨W3, hcopy, hR3, hg3⟩ := G.copy_run w1 B r HX.out.room A.length R ⟨b, off, none⟩ R.length c (T - A.length) (cur1.length - A.length) (by have := HT.out; show _ = min _ _; omega) (fun j z hj => by rw [L.addr_add]; exact hcell j z hj) (by omega)
    have X3 : G.Bx3 W3 g (.slice (some ⟨r, 0, none⟩) cur1.length cur1.length) (.int .i64 A.length) (.int .i64 (cur1.length - Z.length : Nat)) := HX.out.box.block (hg3.block g HX.out.box.lt (fun e => hne (by cases e; rfl)))
    have HB3 : Hid (Below B w W3) := HB.out.drew.grown hg3 (by have := HX.out.box.lt; have := HX.out.hB; show B ≤ w1.heap.size; omega) fun j e => by cases e; exact (HX.out.room.lt r rfl).1
    have HE : Hid (G.Told B g w (A ++ R) Z (W3.setCell ⟨g, 1, none⟩ (.int .i64 F))) := by
      rw [HF.out]
      exact (HX.out.put hn1 h4 hR3 X3).told (G.below_set HB3.out HX.out.hB _)
    have d0 := X3.c0
    have d1 := X3.c1
    have d2 := X3.c2
    have g1 := X3.free 1
    rw [← HT.out] at d2
    clear X3 hR3 hg3 hF hcell hce
    go_wp2
    go_region
    clear hcopy
    go_wp2
    all_goals
      go_ret
      exact ⟨rfl, HE.out⟩

end Go.Proofs.Ytcphiemfjdbhfaa
