/-
  Boxes, behind an alloc.
-/
import Derived.Test.YtkkocnkfdepoiaaFrame
import Derived.Test.YtkkocnkfdepoiaaYMath2
import Derived.Test.YtkkocnkfdepoiaaVLib
import Derived.Deep.QuietTactic
import Derived.BigQuiet
namespace Go.Proofs.Ytkkocnkfdepoiaa
open Go.RowKit

theorem K.alloc_free {w : World} {g : Nat} {c : Array Value} {t : TypeId} (h : w.heap[g]? = some (.cells c t)) (o : Obj) (i : Nat) : (w.alloc o).frozen? ⟨g, i, none⟩ = false := by
  have e : (w.alloc o).heap[g]? = w.heap[g]? := Below.heap_alloc w o g (Array.getElem?_eq_some_iff.1 h).1
  rw [World.frozen?, show (w.alloc o).heap[(⟨g, i, none⟩ : Addr).block]? = w.heap[g]? from e, h]
  simp

theorem K.alloc_cell {w : World} {a : Addr} {v : Value} (h : w.cell? a = some v) (o : Obj) : (w.alloc o).cell? a = some v := by
  have e : (w.alloc o).heap[a.block]? = w.heap[a.block]? := Below.heap_alloc w o a.block (World.block_lt_of_cell? w a h)
  rw [World.cell?_of_block e]; exact h


end Go.Proofs.Ytkkocnkfdepoiaa

/-
  How far rules look: the document's answer.
-/
namespace Go.Proofs.Ytkkocnkfdepoiaa
open Go.RowKit
set_option maxRecDepth 20000
set_option linter.unusedSimpArgs false
set_option linter.unusedVariables false

set_option maxHeartbeats 4000000 in
theorem rReach9_any (w : World) (v : Value) (l : List K.Rule) (R0 : V.Rus w v l) :
    Calls Try.prog 22 #[v] w fun e w' => e = .returned (.tuple #[.int .i64 (K.behind l), .int .i64 (K.ahead l)]) ∧ Below w.heap.size w w' := by
  have HR : Hid (V.Rus w v l) := R0
  have hl := R0.few
  obtain ⟨lao, lcap, rfl⟩ := R0.len
  clear R0
  go_enter Try.func22, Try.ntmps22
  go_wp2
  go_loopw [4, 5, 11] (fun vb va i wr => ∃ (j m n : Nat), j ≤ l.length ∧ i = .int .i64 j ∧ vb = .int .i64 m ∧ va = .int .i64 n ∧ m ≤ 281474976710656 ∧ n ≤ 281474976710656 ∧ Hid (K.behind (l.take j) = m ∧ K.ahead (l.take j) = n) ∧ Hid (Below w.heap.size w wr)) (fun _ _ i _ => l.length - (intOf i).toNat)
  case atStart => exact ⟨0, 0, 0, Nat.zero_le _, rfl, rfl, rfl, by omega, by omega, ⟨rfl, rfl⟩, Below.refl _ w⟩
  case round =>
    obtain ⟨j, m, n, hj, rfl, rfl, rfl, hm, hn, HM, HB⟩ := hrel
    by_cases hlt : j < l.length
    · obtain ⟨p, hp⟩ : ∃ x, l[j]? = some x := ⟨l[j], by simp [hlt]⟩
      obtain ⟨ao', cap', e', _, hcs⟩ := HR.out.below HB.out
      cases e'
      obtain ⟨b, off, rfl, hcell⟩ := hcs (by intro h; subst h; simp at hlt)
      obtain ⟨bo, bc, so, sc, ao, ac, tgo, tc, a0, a1, a2, a3, a4, a5, a6, hP⟩ := hcell j p hp
      obtain ⟨_, _, _, _, _, _, _, _, _, q1, q2, q3, _⟩ := hP
      have f1 := q1.few
      have f2 := q2.few
      have f3 := q3.few
      have HM2 : Hid (K.behind (l.take (j + 1)) = max m p.before.length ∧ K.ahead (l.take (j + 1)) = max n (p.source.length + p.after.length)) := ⟨by rw [K.behind_take hp, HM.out.1], by rw [K.ahead_take hp, HM.out.2]⟩
      have HBa : Hid (∀ o, Below w.heap.size w (wr.alloc o)) := fun o => HB.out.alloc HB.out.size o
      clear hp hcell hcs q1 q2 q3
      obtain ⟨st, fi, be, sou, af, ta, cu⟩ := p
      simp only at a0 a1 a2 a3 a4 a5 a6 HM2 f1 f2 f3
      by_cases c1 : (m : Int) < be.length
      · by_cases c2 : (n : Int) < (sou.length : Int) + af.length
        · go_wp2
          go_roundw
          case rel => exact ⟨j + 1, max m be.length, max n (sou.length + af.length), by omega, by go_num, by congr 1; omega, by congr 1; omega, by omega, by omega, HM2, HBa.out _⟩
          case measure => simp [intOf]; omega
        · go_wp2
          go_roundw
          case rel => exact ⟨j + 1, max m be.length, max n (sou.length + af.length), by omega, by go_num, by congr 1; omega, by congr 1; omega, by omega, by omega, HM2, HBa.out _⟩
          case measure => simp [intOf]; omega
      · by_cases c2 : (n : Int) < (sou.length : Int) + af.length
        · go_wp2
          go_roundw
          case rel => exact ⟨j + 1, max m be.length, max n (sou.length + af.length), by omega, by go_num, by congr 1; omega, by congr 1; omega, by omega, by omega, HM2, HBa.out _⟩
          case measure => simp [intOf]; omega
        · go_wp2
          go_roundw
          case rel => exact ⟨j + 1, max m be.length, max n (sou.length + af.length), by omega, by go_num, by congr 1; omega, by congr 1; omega, by omega, by omega, HM2, HBa.out _⟩
          case measure => simp [intOf]; omega
    · have hkl : j = l.length := by omega
      subst hkl
      go_wp2
      go_ret2
      have h := HM.out
      rw [List.take_length] at h
      rw [h.1, h.2]
      exact ⟨rfl, HB.out⟩

end Go.Proofs.Ytkkocnkfdepoiaa
