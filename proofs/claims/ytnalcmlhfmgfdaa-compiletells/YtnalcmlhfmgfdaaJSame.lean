/-
  Heads held against each other: the document's Same, of the same heads.
-/
import Derived.Test.YtnalcmlhfmgfdaaJRead
import Derived.Test.YtnalcmlhfmgfdaaYSame9
import Derived.Deep.Cut
import Derived.Deep.DeepCutAuto
import Derived.Deep.QuietTactic
import Derived.BigQuiet
namespace Go.Proofs.Ytnalcmlhfmgfdaa
open Go.RowKit Go.Shelf
set_option maxRecDepth 20000
set_option linter.unusedSimpArgs false
set_option linter.unusedVariables false

theorem J.comp_unique {l : List K.Rule} {o o' : List J.Hd × Int × Int} (h : J.Comp l o) (h' : J.Comp l o') : o = o' := by
  rcases h with ⟨h1, rfl⟩ | ⟨h1, c, hc, _, hor⟩
  · rcases h' with ⟨_, rfl⟩ | ⟨h2, _⟩
    · rfl
    · exact absurd h2 h1
  · rcases h' with ⟨h2, _⟩ | ⟨_, d, hd, _, hor'⟩
    · exact absurd h1 h2
    · have := J.cuts_unique hc hd
      subst this
      rcases hor with ⟨h2, rfl⟩ | ⟨h2, rfl⟩ <;> rcases hor' with ⟨h3, rfl⟩ | ⟨h3, rfl⟩
      · rfl
      · omega
      · omega
      · rfl

set_option maxHeartbeats 4000000 in
theorem jSame_eq (w : World) (va vb : Value) (hs : List J.Hd) (Ra : J.Rd w va hs) (Rb : J.Rd w vb hs) (hl : hs.length ≤ 1000000) (hb : ∀ p ∈ hs, p.2.2.length ≤ 4611686018427387903) :
    Calls Try.prog 13 #[va, vb] w fun e w' => e = .returned (.bool true) ∧ Below w.heap.size w w' := by
  have HA : Hid (J.Rd w va hs) := Ra
  have HB : Hid (J.Rd w vb hs) := Rb
  have HL : Hid (∀ p ∈ hs, p.2.2.length ≤ 4611686018427387903) := hb
  obtain ⟨ao, ac, rfl, _⟩ := id Ra
  obtain ⟨bo, bc, rfl, _⟩ := id Rb
  clear Ra Rb hb
  go_enter Try.func13, Try.ntmps13
  go_wp2
  go_loopw [13] (fun i wr => ∃ k n : Nat, k ≤ hs.length ∧ i = .int .i64 k ∧ wr = w.drewN n) (fun i _ => hs.length - (RowKit.intOf i).toNat)
  case atStart => exact ⟨0, 0, Nat.zero_le _, rfl, rfl⟩
  case round =>
    obtain ⟨k, n, hk, rfl, hwr⟩ := hrel
    have HWr : Hid (wr = w.drewN n) := hwr
    have hd : Below w.heap.size w wr := by rw [hwr]; exact below_drewN (Below.refl _ _) _
    by_cases hlt : k < hs.length
    · obtain ⟨⟨p0, p1, p2⟩, hp⟩ : ∃ p, hs[k]? = some p := ⟨hs[k], by simp [hlt]⟩
      obtain ⟨X, xo, r1, c1, rfl, a0, a1, a2, ra⟩ := (HA.out.below hd).at hp
      obtain ⟨Y, yo, r2, c2, rfl, b0, b1, b2, rb⟩ := (HB.out.below hd).at hp
      have hpl := HL.out _ (List.mem_of_getElem? hp)
      simp only at a0 a1 a2 b0 b1 b2 ra rb hpl
      have HS9 : Hid (∀ n, Calls Try.prog 16 #[.slice r1 p2.length c1, .slice r2 p2.length c2] (wr.drewN n) fun e w' => e = .returned (.bool true) ∧ ∃ m, w' = (wr.drewN n).drewN m) := fun n => by
        have := rSame9_drew (wr.drewN n) _ _ _ _ (ra.below (below_drewN (Below.refl _ _) _) (Nat.le_refl _)) (rb.below (below_drewN (Below.refl _ _) _) (Nat.le_refl _)) hpl hpl
        simpa using this
      clear ra rb hp hd hwr
      go_wp2_with fail
      go_big_quiet (first | (go_at_call 16; exact Calls.quiet_of (HS9.out _)))
      go_wp2
      go_roundw
      case rel => exact ⟨k + 1, _, by omega, by go_num, by rw [HWr.out, World.drewN_drewN]⟩
      case measure => simp [RowKit.intOf]; omega
    · go_wp2
      go_ret
      exact ⟨rfl, below_drewN (Below.refl _ _) _⟩

end Go.Proofs.Ytnalcmlhfmgfdaa
