/-
  Numbers held against each other; whether rules always go on, and how far they look: the document's answers.
-/
import Derived.Test.YtkkocnkfdepoiaaYMath2
import Derived.Test.YtkkocnkfdepoiaaVLib
import Derived.Test.YtkkocnkfdepoiaaYReachR
import Derived.Deep.QuietTactic
import Derived.BigQuiet
namespace Go.Proofs.Ytkkocnkfdepoiaa
open Go.RowKit
set_option maxRecDepth 20000
set_option linter.unusedSimpArgs false
set_option linter.unusedVariables false

set_option maxHeartbeats 2000000 in
theorem rSure9_any (w : World) (v : Value) (l : List K.Rule) (R0 : V.Rus w v l) :
    Calls Try.prog 40 #[v] w fun e w' => e = .returned (.bool (K.sureB l)) ∧ Below w.heap.size w w' := by
  have HR : Hid (V.Rus w v l) := R0
  have hl := R0.few
  obtain ⟨lao, lcap, rfl⟩ := R0.len
  clear R0
  go_enter Try.func40, Try.ntmps40
  go_wp2
  go_loopw [7] (fun i wr => ∃ j : Nat, j ≤ l.length ∧ i = .int .i64 j ∧ Hid ((l.take j).all K.goesB = true) ∧ Hid (Below w.heap.size w wr)) (fun i _ => l.length - (intOf i).toNat)
  case atStart => exact ⟨0, Nat.zero_le _, rfl, by show (l.take 0).all K.goesB = true; simp, Below.refl _ w⟩
  case round =>
    obtain ⟨j, hj, rfl, HW, HB⟩ := hrel
    by_cases hlt : j < l.length
    · obtain ⟨p, hp⟩ : ∃ x, l[j]? = some x := ⟨l[j], by simp [hlt]⟩
      obtain ⟨ao', cap', e', _, hcs⟩ := HR.out.below HB.out
      cases e'
      obtain ⟨b, off, rfl, hcell⟩ := hcs (by intro h; subst h; simp at hlt)
      obtain ⟨bo, bc, so, sc, ao, ac, tgo, tc, a0, a1, a2, a3, a4, a5, a6, hP⟩ := hcell j p hp
      have hfa := hP
      obtain ⟨_, _, _, _, _, _, _, _, _, _, _, _, _, h5, hI⟩ := hfa
      have hI1 : -9223372036854775808 ≤ p.cursor := hI.1
      have hI2 : p.cursor ≤ 9223372036854775807 := hI.2
      have HY : Hid (p.cursor = p.target.length → (l.take (j + 1)).all K.goesB = true) := fun h => by
        rw [List.take_add_one, hp, List.all_append, HW.out]; simp [K.goesB, h]
      have HN : Hid (p.cursor ≠ p.target.length → K.sureB l = false) := fun h => by
        unfold K.sureB
        rw [List.all_eq_false]
        exact ⟨p, List.mem_of_getElem? hp, by simp [K.goesB, h]⟩
      have HBa : Hid (∀ o, Below w.heap.size w (wr.alloc o)) := fun o => HB.out.alloc HB.out.size o
      clear hp hcell hcs hP hI
      obtain ⟨st, fi, be, sou, af, ta, cu⟩ := p
      simp only at a0 a1 a2 a3 a4 a5 a6 h5 hI1 hI2 HY HN
      by_cases hc : cu = ta.length
      · have HT : Hid ((l.take (j + 1)).all K.goesB = true) := HY.out hc
        clear HY HN
        go_wp2
        go_roundw
        case rel => exact ⟨j + 1, by omega, by go_num, HT, HBa.out _⟩
        case measure => simp [intOf]; omega
      · have HT : Hid (K.sureB l = false) := HN.out hc
        clear HY HN
        go_wp2
        go_ret
        exact ⟨by rw [HT.out]; rfl, HBa.out _⟩
    · have hkl : j = l.length := by omega
      subst hkl
      go_wp2
      go_ret
      refine ⟨L.ret_bool ?_, HB.out⟩
      have h := HW.out
      rw [List.take_length] at h
      exact h.symm

end Go.Proofs.Ytkkocnkfdepoiaa
