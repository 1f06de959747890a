/-
  Whether a function says yes to one of many rules, or of many runes: slices.ContainsFunc.
-/
import Derived.Test.YtkkocnkfdepoiaaVLib
namespace Go.Proofs.Ytkkocnkfdepoiaa
open Go.RowKit
set_option maxRecDepth 20000
set_option linter.unusedSimpArgs false
set_option linter.unusedVariables false

theorem any_take {α : Type} {l : List α} {P : α → Bool} {k : Nat} {x : α} (h : l[k]? = some x) : (l.take (k + 1)).any P = ((l.take k).any P || P x) := by
  rw [List.take_add_one, h, List.any_append]; simp

set_option maxHeartbeats 2000000 in
theorem ruIndex_any (w : World) (v : Value) (l : List K.Rule) (R0 : V.Rus w v l) (g : Nat) (cb : Array Value) (P : K.Rule → Bool) (eg : ∀ args w, (callFunc g args).run Try.prog w = .ok (.enter g args) w)
    (hh : ∀ W r u, Below w.heap.size w W → r ∈ l → K.RuIs W u r → Calls Try.prog g (#[u] ++ cb) W fun e w' => e = .returned (.bool (P r)) ∧ Below W.heap.size W w') :
    Calls Try.prog 67 #[v, .func (.func g) #[] cb] w fun e w' => ∃ i : Int, e = .returned (.int .i64 i) ∧ decide (0 ≤ i) = l.any P ∧ Below w.heap.size w w' := by
  have HR : Hid (V.Rus w v l) := R0
  have HH : Hid (∀ W r u, Below w.heap.size w W → r ∈ l → K.RuIs W u r → Calls Try.prog g (#[u] ++ cb) W fun e w' => e = .returned (.bool (P r)) ∧ Below W.heap.size W w') := hh
  have hl := R0.few
  obtain ⟨lao, lcap, rfl⟩ := R0.len
  clear R0 hh
  go_enter Try.func67, Try.ntmps67
  go_wp2
  go_loopw [8] (fun i wr => ∃ j : Nat, j ≤ l.length ∧ i = .int .i64 j ∧ Hid ((l.take j).any P = false) ∧ Hid (Below w.heap.size w wr)) (fun i _ => l.length - (intOf i).toNat)
  case atStart => exact ⟨0, Nat.zero_le _, rfl, by show (l.take 0).any P = false; simp, Below.refl _ w⟩
  case round =>
    obtain ⟨j, hj, rfl, HW, HB⟩ := hrel
    by_cases hlt : j < l.length
    · obtain ⟨p, hp⟩ : ∃ x, l[j]? = some x := ⟨l[j], by simp [hlt]⟩
      obtain ⟨ao', cap', e', _, hcs⟩ := HR.out.below HB.out
      cases e'
      obtain ⟨b, off, rfl, hcell⟩ := hcs (by intro h; subst h; simp at hlt)
      obtain ⟨bo, bc, so, sc, ao, ac, tgo, tc, a0, a1, a2, a3, a4, a5, a6, hP⟩ := hcell j p hp
      have HE2 : Hid ((l.take (j + 1)).any P = P p ∧ (P p = true → l.any P = true)) := ⟨by rw [any_take hp, HW.out, Bool.false_or], fun h => List.any_eq_true.2 ⟨p, List.mem_of_getElem? hp, h⟩⟩
      have hsz := HB.out.size
      have HW2 : Hid (Calls Try.prog g (#[.agg #[.bool p.start, .bool p.fin, .slice bo p.before.length bc, .slice so p.source.length sc, .slice ao p.after.length ac, .slice tgo p.target.length tc, .int .i64 p.cursor]] ++ cb) wr fun e w' => e = .returned (.bool (P p)) ∧ Below wr.heap.size wr w') := HH.out wr p _ HB.out (List.mem_of_getElem? hp) hP
      generalize P p = z at HW2 HE2
      clear hp hcell hcs hP
      obtain ⟨st, fi, be, sou, af, ta, cu⟩ := p
      simp only at a0 a1 a2 a3 a4 a5 a6 HW2
      go_wp2_with fail
      refine HW2.out.mono ?_
      rintro e w1 ⟨rfl, B1⟩
      have HB1 : Hid (Below w.heap.size w w1) := HB.out.trans (B1.mono hsz)
      clear B1
      cases z with
      | false =>
        have HT : Hid ((l.take (j + 1)).any P = false) := HE2.out.1
        clear HE2
        go_wp2
        go_roundw
        case rel => exact ⟨j + 1, by omega, by go_num, HT, HB1⟩
        case measure => simp [intOf]; omega
      | true =>
        have HT : Hid (l.any P = true) := HE2.out.2 rfl
        clear HE2
        go_wp2
        go_ret
        exact ⟨j, rfl, by rw [HT.out]; simp, HB1.out⟩
    · have hkl : j = l.length := by omega
      subst hkl
      go_wp2
      go_ret
      exact ⟨-1, rfl, by have := HW.out; rw [List.take_length] at this; rw [this]; rfl, HB.out⟩

set_option maxHeartbeats 1000000 in
theorem ruAny_any (w : World) (v : Value) (l : List K.Rule) (R0 : V.Rus w v l) (g : Nat) (cb : Array Value) (P : K.Rule → Bool) (eg : ∀ args w, (callFunc g args).run Try.prog w = .ok (.enter g args) w)
    (hh : ∀ W r u, Below w.heap.size w W → r ∈ l → K.RuIs W u r → Calls Try.prog g (#[u] ++ cb) W fun e w' => e = .returned (.bool (P r)) ∧ Below W.heap.size W w') :
    Calls Try.prog 53 #[v, .func (.func g) #[] cb] w fun e w' => e = .returned (.bool (l.any P)) ∧ Below w.heap.size w w' := by
  have h := ruIndex_any w v l R0 g cb P eg hh
  obtain ⟨aa, ca, rfl⟩ := R0.len
  clear R0 hh
  go_enter Try.func53, Try.ntmps53
  go_wp2_with fail
  refine h.mono ?_
  rintro e w1 ⟨i, rfl, hi, hb⟩
  have HI : Hid _ := hi
  clear hi
  go_wp2
  go_ret
  exact ⟨L.ret_bool HI.out, hb⟩

set_option maxHeartbeats 2000000 in
theorem rnIndex_any (w : World) (v : Value) (l : List Int) (R0 : L.Rd w v .i32 l) (hl : l.length ≤ 140737488355328) (g : Nat) (cb : Array Value) (P : Int → Bool) (eg : ∀ args w, (callFunc g args).run Try.prog w = .ok (.enter g args) w)
    (hh : ∀ W r, Below w.heap.size w W → r ∈ l → Calls Try.prog g (#[.int .i32 r] ++ cb) W fun e w' => e = .returned (.bool (P r)) ∧ Below W.heap.size W w') :
    Calls Try.prog 74 #[v, .func (.func g) #[] cb] w fun e w' => ∃ i : Int, e = .returned (.int .i64 i) ∧ decide (0 ≤ i) = l.any P ∧ Below w.heap.size w w' := by
  have HH : Hid (∀ W r, Below w.heap.size w W → r ∈ l → Calls Try.prog g (#[.int .i32 r] ++ cb) W fun e w' => e = .returned (.bool (P r)) ∧ Below W.heap.size W w') := hh
  obtain ⟨lao, lcap, rfl, _, hcs⟩ := R0
  have HC : Hid (l ≠ [] → ∃ b off, lao = some ⟨b, off, none⟩ ∧ ∀ j z, l[j]? = some z → w.cell? ⟨b, off + j, none⟩ = some (.int .i32 z)) := hcs
  clear hh hcs
  go_enter Try.func74, Try.ntmps74
  go_wp2
  go_loopw [8] (fun i wr => ∃ j : Nat, j ≤ l.length ∧ i = .int .i64 j ∧ Hid ((l.take j).any P = false) ∧ Hid (Below w.heap.size w wr)) (fun i _ => l.length - (intOf i).toNat)
  case atStart => exact ⟨0, Nat.zero_le _, rfl, by show (l.take 0).any P = false; simp, Below.refl _ w⟩
  case round =>
    obtain ⟨j, hj, rfl, HW, HB⟩ := hrel
    by_cases hlt : j < l.length
    · obtain ⟨p, hp⟩ : ∃ x, l[j]? = some x := ⟨l[j], by simp [hlt]⟩
      obtain ⟨b, off, rfl, hcell⟩ := HC.out (by intro h; subst h; simp at hlt)
      have c0 := hcell j p hp
      rw [← HB.out.cell (p := ⟨b, off + j, none⟩) (L.block_lt c0)] at c0
      have HE2 : Hid ((l.take (j + 1)).any P = P p ∧ (P p = true → l.any P = true)) := ⟨by rw [any_take hp, HW.out, Bool.false_or], fun h => List.any_eq_true.2 ⟨p, List.mem_of_getElem? hp, h⟩⟩
      have hsz := HB.out.size
      have HW2 : Hid (Calls Try.prog g (#[.int .i32 p] ++ cb) wr fun e w' => e = .returned (.bool (P p)) ∧ Below wr.heap.size wr w') := HH.out wr p HB.out (List.mem_of_getElem? hp)
      generalize P p = z at HW2 HE2
      clear hp hcell
      go_wp2_with fail
      refine HW2.out.mono ?_
      rintro e w1 ⟨rfl, B1⟩
      have HB1 : Hid (Below w.heap.size w w1) := HB.out.trans (B1.mono hsz)
      clear B1
      cases z with
      | false =>
        have HT : Hid ((l.take (j + 1)).any P = false) := HE2.out.1
        clear HE2
        go_wp2
        go_roundw
        case rel => exact ⟨j + 1, by omega, by go_num, HT, HB1⟩
        case measure => simp [intOf]; omega
      | true =>
        have HT : Hid (l.any P = true) := HE2.out.2 rfl
        clear HE2
        go_wp2
        go_ret
        exact ⟨j, rfl, by rw [HT.out]; simp, HB1.out⟩
    · have hkl : j = l.length := by omega
      subst hkl
      go_wp2
      go_ret
      exact ⟨-1, rfl, by have := HW.out; rw [List.take_length] at this; rw [this]; rfl, HB.out⟩

set_option maxHeartbeats 1000000 in
theorem rnAny_any (w : World) (v : Value) (l : List Int) (R0 : L.Rd w v .i32 l) (hl : l.length ≤ 140737488355328) (g : Nat) (cb : Array Value) (P : Int → Bool) (eg : ∀ args w, (callFunc g args).run Try.prog w = .ok (.enter g args) w)
    (hh : ∀ W r, Below w.heap.size w W → r ∈ l → Calls Try.prog g (#[.int .i32 r] ++ cb) W fun e w' => e = .returned (.bool (P r)) ∧ Below W.heap.size W w') :
    Calls Try.prog 55 #[v, .func (.func g) #[] cb] w fun e w' => e = .returned (.bool (l.any P)) ∧ Below w.heap.size w w' := by
  have h := rnIndex_any w v l R0 hl g cb P eg hh
  obtain ⟨aa, ca, rfl, _⟩ := R0
  clear hh
  go_enter Try.func55, Try.ntmps55
  go_wp2_with fail
  refine h.mono ?_
  rintro e w1 ⟨i, rfl, hi, hb⟩
  have HI : Hid _ := hi
  clear hi
  go_wp2
  go_ret
  exact ⟨L.ret_bool HI.out, hb⟩

end Go.Proofs.Ytkkocnkfdepoiaa
