/-
  A text, each rune by itself: scriptlaw16.by.
-/
import Derived.Test.YtgbhkkojkpndmaaGreatDoorShLaw
import Derived.Laws.Concat
namespace Go.Proofs.YtgbhkkojkpndmaaGreatDoor
open Go.RowKit Go.Lib
set_option maxRecDepth 20000
set_option linter.unusedSimpArgs false
set_option linter.unusedVariables false

theorem Sh.flat_bd {F : Int → List Int} (h4 : ∀ r, (F r).length ≤ 4) : ∀ t : List Int, (t.flatMap F).length ≤ 4 * t.length
  | [] => by simp
  | r :: t => by
    have := Sh.flat_bd h4 t
    have := h4 r
    rw [List.flatMap_cons, List.length_append, List.length_cons]; omega

set_option maxHeartbeats 4000000 in
theorem shBy_any (s : ByteArray) (hs : s.size ≤ 1000) (w : World) (g : Nat) (cb : Array Value) (F : Int → List Int) (h4 : ∀ r, (F r).length ≤ 4) (hF : ∀ r, M.right r = true → ∀ z ∈ F r, M.right z = true)
    (eg : ∀ args w, (callFunc g args).run Tryz.prog w = .ok (.enter g args) w)
    (hh : ∀ W r, Below w.heap.size w W → M.right r = true → Calls Tryz.prog g (#[.int .i32 r] ++ cb) W fun e w' => e = .returned (.string (runesBytes (F r))) ∧ Below W.heap.size W w') :
    Calls Tryz.prog 11 #[.string s, .func (.func g) #[] cb] w fun e w' => e = .returned (.string (runesBytes ((M.rn s).flatMap F))) ∧ Below w.heap.size w w' := by
  have HH : Hid (∀ W r, Below w.heap.size w W → M.right r = true → Calls Tryz.prog g (#[.int .i32 r] ++ cb) W fun e w' => e = .returned (.string (runesBytes (F r))) ∧ Below W.heap.size W w') := hh
  have HD : Hid (∀ X, Calls Tryz.prog 21 #[.string s] X fun e w' => ∃ xo xc, e = .returned (.slice xo (M.rn s).length xc) ∧ L.Rd w' (.slice xo (M.rn s).length xc) .i32 (M.rn s) ∧ Below X.heap.size X w') := fun X => zhe s (by omega) X
  have htl : (M.rn s).length ≤ 1000 := Nat.le_trans (M.zb3 s) hs
  have HRt : Hid (∀ z ∈ M.rn s, M.right z = true) := zcq s
  have H4 : Hid ((∀ r, (F r).length ≤ 4) ∧ ∀ r, M.right r = true → ∀ z ∈ F r, M.right z = true) := ⟨h4, hF⟩
  clear hh hs h4 hF
  generalize M.rn s = tx at HD htl HRt
  go_enter Tryz.func11, Tryz.ntmps11
  go_wp2_with fail
  refine (HD.out _).mono ?_
  clear HD
  rintro e w1 ⟨xo, xc, rfl, hd, b1⟩
  have HB1 : Hid (Below w.heap.size w w1) := b1
  obtain ⟨ao', cap', e', _, hcs⟩ := hd
  obtain ⟨rfl, -, rfl⟩ := Value.slice.inj e'
  have HC : Hid (tx ≠ [] → ∃ b off, xo = some ⟨b, off, none⟩ ∧ ∀ j z, tx[j]? = some z → w1.cell? ⟨b, off + j, none⟩ = some (.int .i32 z)) := hcs
  clear hcs e' b1
  go_wp2
  go_loopw [5, 11] (fun wa i wr => ∃ (j : Nat), j ≤ tx.length ∧ i = .int .i64 j ∧ Hid (wa = .string (runesBytes ((tx.take j).flatMap F))) ∧ Hid (Below w1.heap.size w1 wr)) (fun _ i _ => tx.length - (RowKit.intOf i).toNat)
  case atStart => exact ⟨0, Nat.zero_le _, rfl, by show _ = _; rfl, Below.refl _ _⟩
  case round =>
    obtain ⟨j, hj, rfl, HWa, HB⟩ := hrel
    have hAr : ∀ z ∈ (tx.take j).flatMap F, M.right z = true := fun z hz => by
      obtain ⟨r, h1, h2⟩ := List.mem_flatMap.1 hz
      exact H4.out.2 r (HRt.out r (List.mem_of_mem_take h1)) z h2
    have hAl := Sh.flat_bd H4.out.1 (tx.take j)
    rw [List.length_take, Nat.min_eq_left hj] at hAl
    obtain ⟨A, hA⟩ : ∃ A, A = runesBytes ((tx.take j).flatMap F) := ⟨_, rfl⟩
    have hAs : A.size ≤ 16000 := by have := Sh.zcv _ hAr; rw [hA]; omega
    have HA2 : Hid (A = runesBytes ((tx.take j).flatMap F)) := hA
    have hwa := HWa.out
    rw [← hA] at hwa
    subst hwa
    clear HWa hA hAr hAl
    by_cases hlt : j < tx.length
    · obtain ⟨r, hr⟩ : ∃ x, tx[j]? = some x := ⟨tx[j], by simp [hlt]⟩
      obtain ⟨b, off, rfl, hcell⟩ := HC.out (by intro h; subst h; simp at hlt)
      have c0 := hcell j r hr
      rw [← HB.out.cell (p := ⟨b, off + j, none⟩) (L.block_lt c0)] at c0
      have hrr := HRt.out r (List.mem_of_getElem? hr)
      have HT : Hid ((tx.take (j + 1)).flatMap F = (tx.take j).flatMap F ++ F r) := by show _ = _; rw [List.take_add_one, hr]; simp
      have HQ : Hid (∀ X, Below w1.heap.size w1 X → Calls Tryz.prog g (#[.int .i32 r] ++ cb) X fun e w' => e = .returned (.string (runesBytes (F r))) ∧ Below X.heap.size X w') := fun X hX => HH.out X r (HB1.out.trans (hX.mono HB1.out.size)) hrr
      have hBs : (runesBytes (F r)).size ≤ 16 := by have := Sh.zcv (F r) (H4.out.2 r hrr); have := H4.out.1 r; omega
      obtain ⟨B, hB⟩ : ∃ B, B = runesBytes (F r) := ⟨_, rfl⟩
      rw [← hB] at HQ hBs
      have HB2 : Hid (B = runesBytes (F r)) := hB
      have hQ := HQ.out wr HB.out
      clear hr hcell hB HQ hrr
      go_wp2_with fail
      refine hQ.mono ?_
      clear hQ
      rintro e w2 ⟨rfl, b2⟩
      have HB3 : Hid (Below w1.heap.size w1 w2) := HB.out.trans (b2.mono HB.out.size)
      clear b2
      go_wp2
      go_roundw
      case rel => exact ⟨j + 1, by omega, by go_num, by show _ = _; rw [HT.out, Sh.zfh, HA2.out, HB2.out], HB3⟩
      case measure => simp [RowKit.intOf]; omega
    · have hkl : j = tx.length := by omega
      subst hkl
      have HE : Hid (A = runesBytes (tx.flatMap F)) := by have h := HA2.out; rw [List.take_length] at h; exact h
      clear HA2
      go_wp2
      go_ret
      exact ⟨by rw [HE.out]; rfl, HB1.out.trans (HB.out.mono HB1.out.size)⟩

/-- a statement of the kind 'turned(.., s, by(s, f))' ends so -/
theorem Sh.by_right1 {F : Int → List Int} (hF : ∀ r, M.right r = true → ∀ z ∈ F r, M.right z = true) {t : List Int} (ht : ∀ z ∈ t, M.right z = true) : ∀ z ∈ t.flatMap F, M.right z = true := by
  intro z hz
  obtain ⟨r, h1, h2⟩ := List.mem_flatMap.1 hz
  exact hF r (ht r h1) z h2

end Go.Proofs.YtgbhkkojkpndmaaGreatDoor
