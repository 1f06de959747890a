/-
  Numbers held against each other: the document's Same of chapter 9.
-/
import Derived.Test.YtackaadejnbfmaaVLib
import Derived.Test.YtackaadejnbfmaaQClone
import Derived.Deep.QuietTactic
import Derived.BigQuiet
import Derived.Test.YtackaadejnbfmaaYMath
namespace Go.Proofs.Ytackaadejnbfmaa
open Go.RowKit
set_option maxRecDepth 20000
set_option linter.unusedSimpArgs false
set_option linter.unusedVariables false

theorem take_eq_snoc9 {a b : List Int} {k : Nat} {x y : Int} (h : a.take k = b.take k) (hx : a[k]? = some x) (hy : b[k]? = some y) (e : x = y) : a.take (k + 1) = b.take (k + 1) := by
  rw [List.take_add_one, List.take_add_one, h, hx, hy, e]

set_option maxHeartbeats 400000 in
theorem rSame9_drew (w : World) (va vb : Value) (za zb : List Int) (ha : L.Rd w va .i64 za) (hb : L.Rd w vb .i64 zb) (hla : za.length ≤ 4611686018427387903) (hlb : zb.length ≤ 4611686018427387903) :
    Calls Try.prog 21 #[va, vb] w fun e w' => e = .returned (.bool (decide (za = zb))) ∧ ∃ n, w' = w.drewN n := by
  obtain ⟨ao, ca, rfl, _, ha⟩ := ha
  obtain ⟨bo, cb, rfl, _, hb⟩ := hb
  by_cases hl : za.length = zb.length
  · go_enter Try.func21, Try.ntmps21
    go_wp2
    go_loopw [13] (fun i wr => ∃ k n : Nat, k ≤ za.length ∧ i = .int .i64 k ∧ za.take k = zb.take k ∧ wr = w.drewN n) (fun i _ => za.length - (intOf i).toNat)
    case atStart => exact ⟨0, 0, Nat.zero_le _, rfl, by simp, rfl⟩
    case round =>
      obtain ⟨k, n, hk, rfl, ht, rfl⟩ := hrel
      by_cases hlt : k < za.length
      · obtain ⟨b1, o1, rfl, hc1⟩ := ha (by intro h; subst h; simp at hlt)
        obtain ⟨b2, o2, rfl, hc2⟩ := hb (by intro h; subst h; simp at hl; rw [hl] at hlt; simp at hlt)
        obtain ⟨x, hx⟩ : ∃ x, za[k]? = some x := ⟨za[k], by simp [hlt]⟩
        obtain ⟨y, hy⟩ : ∃ y, zb[k]? = some y := ⟨zb[k]'(by omega), by simp [show k < zb.length by omega]⟩
        have c1 := hc1 k x hx
        have c2 := hc2 k y hy
        clear hc1 hc2 ha hb
        have HX : Hid (za[k]? = some x ∧ zb[k]? = some y ∧ za.take k = zb.take k) := ⟨hx, hy, ht⟩
        clear hx hy ht
        by_cases hxy : x = y
        · go_wp2
          go_quiet (fail)
          go_wp2
          go_roundw
          case rel => exact ⟨k + 1, _, by omega, by go_num, take_eq_snoc9 HX.out.2.2 HX.out.1 HX.out.2.1 hxy, rfl⟩
          case measure => simp [intOf]; omega
        · go_wp2
          go_quiet (fail)
          go_wp2
          go_ret
          refine ⟨L.ret_bool ?_, ⟨_, World.drewN_drewN _ _ _⟩⟩
          have : za ≠ zb := by
            intro e
            rw [e] at HX
            have h1 := HX.out.1
            rw [HX.out.2.1] at h1
            exact hxy (Option.some.inj h1).symm
          simp [this]
      · go_wp2
        go_ret
        refine ⟨L.ret_bool ?_, ⟨_, rfl⟩⟩
        rw [List.take_of_length_le (by omega), List.take_of_length_le (by omega)] at ht
        simp [ht]
  · go_enter Try.func21, Try.ntmps21
    go_wp2
    go_ret
    refine ⟨L.ret_bool ?_, ⟨0, rfl⟩⟩
    have : za ≠ zb := by intro e; exact hl (by rw [e])
    simp [this]

theorem rSame9_any (w : World) (va vb : Value) (za zb : List Int) (ha : L.Rd w va .i64 za) (hb : L.Rd w vb .i64 zb) (hla : za.length ≤ 4611686018427387903) (hlb : zb.length ≤ 4611686018427387903) :
    Calls Try.prog 21 #[va, vb] w fun e w' => e = .returned (.bool (decide (za = zb))) ∧ Below w.heap.size w w' := by
  refine (rSame9_drew w va vb za zb ha hb hla hlb).mono ?_
  rintro e w' ⟨h1, n, rfl⟩
  exact ⟨h1, below_drewN (Below.refl _ _) _⟩

end Go.Proofs.Ytackaadejnbfmaa

/-
  How far rules look: the document's answer.
-/
namespace Go.Proofs.Ytackaadejnbfmaa
open Go.RowKit
set_option maxRecDepth 20000
set_option linter.unusedSimpArgs false
set_option linter.unusedVariables false

set_option maxHeartbeats 4000000 in
theorem rReach9_any (w : World) (v : Value) (l : List K.Rule) (R0 : V.Rus w v l) :
    Calls Try.prog 39 #[v] w fun e w' => e = .returned (.tuple #[.int .i64 (K.behind l), .int .i64 (K.ahead l)]) ∧ Below w.heap.size w w' := by
  have HR : Hid (V.Rus w v l) := R0
  have hl := R0.few
  obtain ⟨lao, lcap, rfl⟩ := R0.len
  clear R0
  go_enter Try.func39, Try.ntmps39
  go_wp2
  go_loopw [4, 5, 11] (fun vb va i wr => ∃ (j m n : Nat), j ≤ l.length ∧ i = .int .i64 j ∧ vb = .int .i64 m ∧ va = .int .i64 n ∧ m ≤ 281474976710656 ∧ n ≤ 281474976710656 ∧ Hid (K.behind (l.take j) = m ∧ K.ahead (l.take j) = n) ∧ Hid (Below w.heap.size w wr)) (fun _ _ i _ => l.length - (intOf i).toNat)
  case atStart => exact ⟨0, 0, 0, Nat.zero_le _, rfl, rfl, rfl, by omega, by omega, ⟨rfl, rfl⟩, Below.refl _ w⟩
  case round =>
    obtain ⟨j, m, n, hj, rfl, rfl, rfl, hm, hn, HM, HB⟩ := hrel
    by_cases hlt : j < l.length
    · obtain ⟨p, hp⟩ : ∃ x, l[j]? = some x := ⟨l[j], by simp [hlt]⟩
      obtain ⟨ao', cap', e', _, hcs⟩ := HR.out.below HB.out
      cases e'
      obtain ⟨b, off, rfl, hcell⟩ := hcs (by intro h; subst h; simp at hlt)
      obtain ⟨bo, bc, so, sc, ao, ac, tgo, tc, a0, a1, a2, a3, a4, a5, a6, hP⟩ := hcell j p hp
      obtain ⟨_, _, _, _, _, _, _, _, _, q1, q2, q3, _⟩ := hP
      have f1 := q1.few
      have f2 := q2.few
      have f3 := q3.few
      have HM2 : Hid (K.behind (l.take (j + 1)) = max m p.before.length ∧ K.ahead (l.take (j + 1)) = max n (p.source.length + p.after.length)) := ⟨by rw [K.behind_take hp, HM.out.1], by rw [K.ahead_take hp, HM.out.2]⟩
      have HBa : Hid (∀ o, Below w.heap.size w (wr.alloc o)) := fun o => HB.out.alloc HB.out.size o
      clear hp hcell hcs q1 q2 q3
      obtain ⟨st, fi, be, sou, af, ta, cu⟩ := p
      simp only at a0 a1 a2 a3 a4 a5 a6 HM2 f1 f2 f3
      by_cases c1 : (m : Int) < be.length
      · by_cases c2 : (n : Int) < (sou.length : Int) + af.length
        · go_wp2
          go_roundw
          case rel => exact ⟨j + 1, max m be.length, max n (sou.length + af.length), by omega, by go_num, by congr 1; omega, by congr 1; omega, by omega, by omega, HM2, HBa.out _⟩
          case measure => simp [intOf]; omega
        · go_wp2
          go_roundw
          case rel => exact ⟨j + 1, max m be.length, max n (sou.length + af.length), by omega, by go_num, by congr 1; omega, by congr 1; omega, by omega, by omega, HM2, HBa.out _⟩
          case measure => simp [intOf]; omega
      · by_cases c2 : (n : Int) < (sou.length : Int) + af.length
        · go_wp2
          go_roundw
          case rel => exact ⟨j + 1, max m be.length, max n (sou.length + af.length), by omega, by go_num, by congr 1; omega, by congr 1; omega, by omega, by omega, HM2, HBa.out _⟩
          case measure => simp [intOf]; omega
        · go_wp2
          go_roundw
          case rel => exact ⟨j + 1, max m be.length, max n (sou.length + af.length), by omega, by go_num, by congr 1; omega, by congr 1; omega, by omega, by omega, HM2, HBa.out _⟩
          case measure => simp [intOf]; omega
    · have hkl : j = l.length := by omega
      subst hkl
      go_wp2
      go_ret2
      have h := HM.out
      rw [List.take_length] at h
      rw [h.1, h.2]
      exact ⟨rfl, HB.out⟩

end Go.Proofs.Ytackaadejnbfmaa
