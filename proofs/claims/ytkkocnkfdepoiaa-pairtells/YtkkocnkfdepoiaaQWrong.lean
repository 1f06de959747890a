/-
  Numbers and their images in memory; the first rule, a set, an image of which something is so.
-/
import Derived.Test.YtkkocnkfdepoiaaYIdx
import Derived.Test.YtkkocnkfdepoiaaMCut
import Derived.Test.YtkkocnkfdepoiaaMWrong
import Derived.Test.YtkkocnkfdepoiaaQMath
import Derived.Test.YtkkocnkfdepoiaaVLib
namespace Go.Proofs.Ytkkocnkfdepoiaa
open Go.RowKit
set_option maxRecDepth 20000
set_option linter.unusedSimpArgs false
set_option linter.unusedVariables false

namespace Pr
/-- an image's value: two cells -/
def ImIs (w : World) (v : Value) (m : Int × List Int) : Prop := ∃ mo mc, v = .agg #[.int .i32 m.1, .slice mo m.2.length mc] ∧ L.Rd w (.slice mo m.2.length mc) .i32 m.2
/-- A SLICE VALUE READS AS A LIST OF IMAGES -/
def Ims (w : World) (v : Value) (l : List (Int × List Int)) : Prop :=
  ∃ ao cap, v = .slice ao l.length cap ∧ l.length ≤ 8000 ∧ (l ≠ [] → ∃ b off, ao = some ⟨b, off, none⟩ ∧ ∀ (j : Nat) m, l[j]? = some m →
    ∃ mo mc, w.cell? ⟨b, off + j * 2, none⟩ = some (.int .i32 m.1) ∧ w.cell? ⟨b, off + j * 2 + 1, none⟩ = some (.slice mo m.2.length mc) ∧ L.Rd w (.slice mo m.2.length mc) .i32 m.2)
theorem Ims.len {w : World} {v : Value} {l : List (Int × List Int)} (h : Ims w v l) : ∃ ao cap, v = .slice ao l.length cap := by
  obtain ⟨ao, cap, rfl, _⟩ := h; exact ⟨ao, cap, rfl⟩
theorem Ims.few {w : World} {v : Value} {l : List (Int × List Int)} (h : Ims w v l) : l.length ≤ 8000 := by
  obtain ⟨ao, cap, rfl, h, _⟩ := h; exact h
theorem ImIs.below {w w' : World} {v : Value} {m : Int × List Int} (h : ImIs w v m) (hb : Below w.heap.size w w') : ImIs w' v m := by
  obtain ⟨mo, mc, rfl, h⟩ := h
  exact ⟨mo, mc, rfl, h.below hb (Nat.le_refl _)⟩
theorem Ims.below {w w' : World} {v : Value} {l : List (Int × List Int)} (h : Ims w v l) (hb : Below w.heap.size w w') : Ims w' v l := by
  obtain ⟨ao, cap, rfl, hl, h⟩ := h
  refine ⟨ao, cap, rfl, hl, fun hz => ?_⟩
  obtain ⟨b, off, rfl, hc⟩ := h hz
  refine ⟨b, off, rfl, fun j m hj => ?_⟩
  obtain ⟨mo, mc, c0, c1, hr⟩ := hc j m hj
  exact ⟨mo, mc, by rw [hb.cell (p := ⟨b, off + j * 2, none⟩) (L.block_lt c0)]; exact c0, by rw [hb.cell (p := ⟨b, off + j * 2 + 1, none⟩) (L.block_lt c1)]; exact c1, hr.below hb (Nat.le_refl _)⟩
end Pr

set_option maxHeartbeats 2000000 in
theorem ruFirst_any (w : World) (v : Value) (l : List K.Rule) (R0 : V.Rus w v l) (g : Nat) (cb : Array Value) (P : K.Rule → Bool) (eg : ∀ args w, (callFunc g args).run Try.prog w = .ok (.enter g args) w)
    (hh : ∀ W r u, Below w.heap.size w W → r ∈ l → K.RuIs W u r → Calls Try.prog g (#[u] ++ cb) W fun e w' => e = .returned (.bool (P r)) ∧ Below W.heap.size W w') :
    Calls Try.prog 67 #[v, .func (.func g) #[] cb] w fun e w' => e = .returned (.int .i64 (Pr.firstI P l)) ∧ Below w.heap.size w w' := by
  have HR : Hid (V.Rus w v l) := R0
  have HH : Hid (∀ W r u, Below w.heap.size w W → r ∈ l → K.RuIs W u r → Calls Try.prog g (#[u] ++ cb) W fun e w' => e = .returned (.bool (P r)) ∧ Below W.heap.size W w') := hh
  have hl := R0.few
  obtain ⟨o, HO⟩ : ∃ o, Hid (Pr.firstN P 0 l = o) := ⟨_, rfl⟩
  unfold Pr.firstI
  rw [HO.out]
  obtain ⟨lao, lcap, rfl⟩ := R0.len
  clear R0 hh
  go_enter Try.func67, Try.ntmps67
  go_wp2
  go_loopw [8] (fun i wr => ∃ j : Nat, j ≤ l.length ∧ i = .int .i64 j ∧ Hid (Pr.firstN P j (l.drop j) = o) ∧ Hid (Below w.heap.size w wr)) (fun i _ => l.length - (intOf i).toNat)
  case atStart => exact ⟨0, Nat.zero_le _, rfl, HO, Below.refl _ w⟩
  case round =>
    obtain ⟨j, hj, rfl, HW, HB⟩ := hrel
    by_cases hlt : j < l.length
    · obtain ⟨p, hp⟩ : ∃ x, l[j]? = some x := ⟨l[j], by simp [hlt]⟩
      obtain ⟨ao', cap', e', _, hcs⟩ := HR.out.below HB.out
      cases e'
      obtain ⟨b, off, rfl, hcell⟩ := hcs (by intro h; subst h; simp at hlt)
      obtain ⟨bo, bc, so, sc, ao, ac, tgo, tc, a0, a1, a2, a3, a4, a5, a6, hP⟩ := hcell j p hp
      have HE2 : Hid (Pr.firstN P j (l.drop j) = if P p = true then (j : Int) else Pr.firstN P (j + 1) (l.drop (j + 1))) := Pr.firstN_drop hp
      have hsz := HB.out.size
      have HW2 : Hid (Calls Try.prog g (#[.agg #[.bool p.start, .bool p.fin, .slice bo p.before.length bc, .slice so p.source.length sc, .slice ao p.after.length ac, .slice tgo p.target.length tc, .int .i64 p.cursor]] ++ cb) wr fun e w' => e = .returned (.bool (P p)) ∧ Below wr.heap.size wr w') := HH.out wr p _ HB.out (List.mem_of_getElem? hp) hP
      generalize P p = z at HW2 HE2
      clear hp hcell hcs hP
      obtain ⟨st, fi, be, sou, af, ta, cu⟩ := p
      simp only at a0 a1 a2 a3 a4 a5 a6 HW2
      go_wp2_with fail
      refine HW2.out.mono ?_
      rintro e w1 ⟨rfl, B1⟩
      have HB1 : Hid (Below w.heap.size w w1) := HB.out.trans (B1.mono hsz)
      clear B1
      cases z with
      | false =>
        have HT : Hid (Pr.firstN P (j + 1) (l.drop (j + 1)) = o) := by
          have h := HE2.out
          rw [HW.out, if_neg (by decide)] at h
          exact h.symm
        clear HE2
        go_wp2
        go_roundw
        case rel => exact ⟨j + 1, by omega, by go_num, HT, HB1⟩
        case measure => simp [intOf]; omega
      | true =>
        have HT : Hid (o = (j : Int)) := by
          have h := HE2.out
          rw [HW.out, if_pos rfl] at h
          exact h
        clear HE2
        go_wp2
        go_ret
        exact ⟨by rw [HT.out]; rfl, HB1.out⟩
    · have hkl : j = l.length := by omega
      subst hkl
      go_wp2
      go_ret
      exact ⟨by have := HW.out; rw [List.drop_length] at this; rw [← this]; rfl, HB.out⟩

set_option maxHeartbeats 2000000 in
theorem imIndex_any (w : World) (v : Value) (l : List (Int × List Int)) (R0 : Pr.Ims w v l) (g : Nat) (cb : Array Value) (P : Int × List Int → Bool) (eg : ∀ args w, (callFunc g args).run Try.prog w = .ok (.enter g args) w)
    (hh : ∀ W r u, Below w.heap.size w W → r ∈ l → Pr.ImIs W u r → Calls Try.prog g (#[u] ++ cb) W fun e w' => e = .returned (.bool (P r)) ∧ Below W.heap.size W w') :
    Calls Try.prog 79 #[v, .func (.func g) #[] cb] w fun e w' => ∃ i : Int, e = .returned (.int .i64 i) ∧ decide (0 ≤ i) = l.any P ∧ Below w.heap.size w w' := by
  have HR : Hid (Pr.Ims w v l) := R0
  have HH : Hid (∀ W r u, Below w.heap.size w W → r ∈ l → Pr.ImIs W u r → Calls Try.prog g (#[u] ++ cb) W fun e w' => e = .returned (.bool (P r)) ∧ Below W.heap.size W w') := hh
  have hl := R0.few
  obtain ⟨lao, lcap, rfl⟩ := R0.len
  clear R0 hh
  go_enter Try.func79, Try.ntmps79
  go_wp2
  go_loopw [8] (fun i wr => ∃ j : Nat, j ≤ l.length ∧ i = .int .i64 j ∧ Hid ((l.take j).any P = false) ∧ Hid (Below w.heap.size w wr)) (fun i _ => l.length - (intOf i).toNat)
  case atStart => exact ⟨0, Nat.zero_le _, rfl, by show (l.take 0).any P = false; simp, Below.refl _ w⟩
  case round =>
    obtain ⟨j, hj, rfl, HW, HB⟩ := hrel
    by_cases hlt : j < l.length
    · obtain ⟨p, hp⟩ : ∃ x, l[j]? = some x := ⟨l[j], by simp [hlt]⟩
      obtain ⟨ao', cap', e', _, hcs⟩ := HR.out.below HB.out
      cases e'
      obtain ⟨b, off, rfl, hcell⟩ := hcs (by intro h; subst h; simp at hlt)
      obtain ⟨mo, mc, a0, a1, hP⟩ := hcell j p hp
      have HE2 : Hid ((l.take (j + 1)).any P = P p ∧ (P p = true → l.any P = true)) := ⟨by rw [any_take hp, HW.out, Bool.false_or], fun h => List.any_eq_true.2 ⟨p, List.mem_of_getElem? hp, h⟩⟩
      have hsz := HB.out.size
      have HW2 : Hid (Calls Try.prog g (#[.agg #[.int .i32 p.1, .slice mo p.2.length mc]] ++ cb) wr fun e w' => e = .returned (.bool (P p)) ∧ Below wr.heap.size wr w') := HH.out wr p _ HB.out (List.mem_of_getElem? hp) ⟨mo, mc, rfl, hP⟩
      generalize P p = z at HW2 HE2
      clear hp hcell hcs hP
      obtain ⟨pu, pm⟩ := p
      simp only at a0 a1 HW2
      go_wp2_with fail
      refine HW2.out.mono ?_
      rintro e w1 ⟨rfl, B1⟩
      have HB1 : Hid (Below w.heap.size w w1) := HB.out.trans (B1.mono hsz)
      clear B1
      cases z with
      | false =>
        have HT : Hid ((l.take (j + 1)).any P = false) := HE2.out.1
        clear HE2
        go_wp2
        go_roundw
        case rel => exact ⟨j + 1, by omega, by go_num, HT, HB1⟩
        case measure => simp [intOf]; omega
      | true =>
        have HT : Hid (l.any P = true) := HE2.out.2 rfl
        clear HE2
        go_wp2
        go_ret
        exact ⟨j, rfl, by rw [HT.out]; simp, HB1.out⟩
    · have hkl : j = l.length := by omega
      subst hkl
      go_wp2
      go_ret
      exact ⟨-1, rfl, by have := HW.out; rw [List.take_length] at this; rw [this]; rfl, HB.out⟩

set_option maxHeartbeats 1000000 in
theorem imAny_any (w : World) (v : Value) (l : List (Int × List Int)) (R0 : Pr.Ims w v l) (g : Nat) (cb : Array Value) (P : Int × List Int → Bool) (eg : ∀ args w, (callFunc g args).run Try.prog w = .ok (.enter g args) w)
    (hh : ∀ W r u, Below w.heap.size w W → r ∈ l → Pr.ImIs W u r → Calls Try.prog g (#[u] ++ cb) W fun e w' => e = .returned (.bool (P r)) ∧ Below W.heap.size W w') :
    Calls Try.prog 61 #[v, .func (.func g) #[] cb] w fun e w' => e = .returned (.bool (l.any P)) ∧ Below w.heap.size w w' := by
  have h := imIndex_any w v l R0 g cb P eg hh
  obtain ⟨aa, ca, rfl⟩ := R0.len
  clear R0 hh
  go_enter Try.func61, Try.ntmps61
  go_wp2_with fail
  refine h.mono ?_
  rintro e w1 ⟨i, rfl, hi, hb⟩
  have HI : Hid _ := hi
  clear hi
  go_wp2
  go_ret
  exact ⟨L.ret_bool HI.out, hb⟩

set_option maxHeartbeats 2000000 in
theorem ssIndex_any (w : World) (v : Value) (l : List (List S.Sp)) (R0 : K.Ss w v l) (g : Nat) (cb : Array Value) (P : List S.Sp → Bool) (eg : ∀ args w, (callFunc g args).run Try.prog w = .ok (.enter g args) w)
    (hh : ∀ W r u, Below w.heap.size w W → r ∈ l → K.SetIs W u r → Calls Try.prog g (#[u] ++ cb) W fun e w' => e = .returned (.bool (P r)) ∧ Below W.heap.size W w') :
    Calls Try.prog 75 #[v, .func (.func g) #[] cb] w fun e w' => ∃ i : Int, e = .returned (.int .i64 i) ∧ decide (0 ≤ i) = l.any P ∧ Below w.heap.size w w' := by
  have HR : Hid (K.Ss w v l) := R0
  have HH : Hid (∀ W r u, Below w.heap.size w W → r ∈ l → K.SetIs W u r → Calls Try.prog g (#[u] ++ cb) W fun e w' => e = .returned (.bool (P r)) ∧ Below W.heap.size W w') := hh
  have hl := R0.few
  obtain ⟨lao, lcap, rfl⟩ := R0.len
  clear R0 hh
  go_enter Try.func75, Try.ntmps75
  go_wp2
  go_loopw [8] (fun i wr => ∃ j : Nat, j ≤ l.length ∧ i = .int .i64 j ∧ Hid ((l.take j).any P = false) ∧ Hid (Below w.heap.size w wr)) (fun i _ => l.length - (intOf i).toNat)
  case atStart => exact ⟨0, Nat.zero_le _, rfl, by show (l.take 0).any P = false; simp, Below.refl _ w⟩
  case round =>
    obtain ⟨j, hj, rfl, HW, HB⟩ := hrel
    by_cases hlt : j < l.length
    · obtain ⟨p, hp⟩ : ∃ x, l[j]? = some x := ⟨l[j], by simp [hlt]⟩
      obtain ⟨b, off, so, sc, rfl, a0, hP, hF⟩ := (HR.out.below HB.out).at hp
      have HE2 : Hid ((l.take (j + 1)).any P = P p ∧ (P p = true → l.any P = true)) := ⟨by rw [any_take hp, HW.out, Bool.false_or], fun h => List.any_eq_true.2 ⟨p, List.mem_of_getElem? hp, h⟩⟩
      have hsz := HB.out.size
      have HW2 : Hid (Calls Try.prog g (#[.slice so p.length sc] ++ cb) wr fun e w' => e = .returned (.bool (P p)) ∧ Below wr.heap.size wr w') := HH.out wr p _ HB.out (List.mem_of_getElem? hp) ⟨⟨so, sc, rfl⟩, hP, hF⟩
      generalize P p = z at HW2 HE2
      clear hp hP
      go_wp2_with fail
      refine HW2.out.mono ?_
      rintro e w1 ⟨rfl, B1⟩
      have HB1 : Hid (Below w.heap.size w w1) := HB.out.trans (B1.mono hsz)
      clear B1
      cases z with
      | false =>
        have HT : Hid ((l.take (j + 1)).any P = false) := HE2.out.1
        clear HE2
        go_wp2
        go_roundw
        case rel => exact ⟨j + 1, by omega, by go_num, HT, HB1⟩
        case measure => simp [intOf]; omega
      | true =>
        have HT : Hid (l.any P = true) := HE2.out.2 rfl
        clear HE2
        go_wp2
        go_ret
        exact ⟨j, rfl, by rw [HT.out]; simp, HB1.out⟩
    · have hkl : j = l.length := by omega
      subst hkl
      go_wp2
      go_ret
      exact ⟨-1, rfl, by have := HW.out; rw [List.take_length] at this; rw [this]; rfl, HB.out⟩

set_option maxHeartbeats 1000000 in
theorem ssAny_any (w : World) (v : Value) (l : List (List S.Sp)) (R0 : K.Ss w v l) (g : Nat) (cb : Array Value) (P : List S.Sp → Bool) (eg : ∀ args w, (callFunc g args).run Try.prog w = .ok (.enter g args) w)
    (hh : ∀ W r u, Below w.heap.size w W → r ∈ l → K.SetIs W u r → Calls Try.prog g (#[u] ++ cb) W fun e w' => e = .returned (.bool (P r)) ∧ Below W.heap.size W w') :
    Calls Try.prog 58 #[v, .func (.func g) #[] cb] w fun e w' => e = .returned (.bool (l.any P)) ∧ Below w.heap.size w w' := by
  have h := ssIndex_any w v l R0 g cb P eg hh
  obtain ⟨aa, ca, rfl⟩ := R0.len
  clear R0 hh
  go_enter Try.func58, Try.ntmps58
  go_wp2_with fail
  refine h.mono ?_
  rintro e w1 ⟨i, rfl, hi, hb⟩
  have HI : Hid _ := hi
  clear hi
  go_wp2
  go_ret
  exact ⟨L.ret_bool HI.out, hb⟩

end Go.Proofs.Ytkkocnkfdepoiaa

/-
  What is wrong with rules: what the program answers, and what the document's text answers.
-/
namespace Go.Proofs.Ytkkocnkfdepoiaa
open Go.RowKit
set_option maxRecDepth 20000
set_option linter.unusedSimpArgs false
set_option linter.unusedVariables false

/-- a box of two cells -/
theorem K.box2 {w : World} {g : Nat} {a b : Value} {t : TypeId} (hg : w.heap[g]? = some (.cells #[a, b] t)) : w.cell? ⟨g, 0, none⟩ = some a ∧ w.cell? ⟨g, 1, none⟩ = some b ∧ w.frozen? ⟨g, 0, none⟩ = false ∧ w.frozen? ⟨g, 1, none⟩ = false := by
  refine ⟨?_, ?_, ?_, ?_⟩
  · rw [World.cell?]; simp [hg]
  · rw [World.cell?]; simp [hg]
  · rw [World.frozen?]; simp [hg]
  · rw [World.frozen?]; simp [hg]

set_option maxHeartbeats 2000000 in
theorem qWrong_any (w : World) (v : Value) (l : List K.Rule) (R0 : V.Rus w v l) :
    Calls Try.prog 12 #[v] w fun e w' => e = .returned (.agg #[.int .i64 (K.rulesF l).1, .int .i64 (K.rulesF l).2]) ∧ Below w.heap.size w w' := by
  have HR : Hid (V.Rus w v l) := R0
  have hfew := R0.few
  obtain ⟨ao, cap, rfl⟩ := R0.len
  clear R0
  have HA : Hid (∀ o, Below w.heap.size w (w.alloc o)) := fun o => (Below.refl _ w).alloc (Nat.le_refl _) o
  unfold K.rulesF
  by_cases hbig : 200 < l.length
  · rw [if_pos hbig]
    go_enter Try.func12, Try.ntmps12
    go_wp2
    refine bodyPost_ret (v := .agg #[.int .i64 5, .int .i64 0]) (by simp [results, Try.results12, go_sem]) rfl ?_
    exact ⟨rfl, HA.out _⟩
  · rw [if_neg hbig]
    obtain ⟨⟨o1, o2⟩, HO⟩ : ∃ o, Hid (K.firstR 0 l = o) := ⟨_, rfl⟩
    rw [HO.out]
    go_enter Try.func12, Try.ntmps12
    go_wp2
    go_loopw [12] (fun i wr => ∃ k : Nat, k ≤ l.length ∧ i = .int .i64 k ∧ Hid (K.firstR k (l.drop k) = (o1, o2)) ∧ Hid (Below w.heap.size w wr) ∧ Hid (wr.heap[w.heap.size]? = some (.cells #[.int .i64 0, .int .i64 0] 34))) (fun i _ => l.length - (intOf i).toNat)
    case atStart => exact ⟨0, Nat.zero_le _, rfl, HO, HA.out _, heap_alloc_new w _⟩
    case round =>
      obtain ⟨k, hk, rfl, HE, HB, HX⟩ := hrel
      have hX := HX.out
      by_cases hlt : k < l.length
      · obtain ⟨p, hp⟩ : ∃ x, l[k]? = some x := ⟨l[k], by simp [hlt]⟩
        obtain ⟨ao', cap', e', _, hcs⟩ := HR.out.below HB.out
        cases e'
        obtain ⟨b, off, rfl, hcell⟩ := hcs (by intro h; subst h; simp at hlt)
        obtain ⟨bo, bc, so, sc, ao, ac, tgo, tc, c0, c1, c2, c3, c4, c5, c6, hP⟩ := hcell k p hp
        have HE2 : Hid (K.firstR k (l.drop k) = if K.ruleE p = 0 then K.firstR (k + 1) (l.drop (k + 1)) else (K.ruleE p, (k : Int))) := K.firstR_drop hp
        have hsz := HB.out.size
        have HW : Hid (∀ o, Calls Try.prog 30 #[.agg #[.bool p.start, .bool p.fin, .slice bo p.before.length bc, .slice so p.source.length sc, .slice ao p.after.length ac, .slice tgo p.target.length tc, .int .i64 p.cursor]] (wr.alloc o) fun e w' => e = .returned (.int .i64 (K.ruleE p)) ∧ Below (wr.alloc o).heap.size (wr.alloc o) w') := fun o => mWrong_any _ _ p (V.rule_keeps hP (R.Keeps.alloc wr o))
        obtain ⟨z, HZ⟩ : ∃ z, Hid (K.ruleE p = z) := ⟨_, rfl⟩
        rw [HZ.out] at HW HE2
        clear hp hcell hcs hP hX
        obtain ⟨st, fi, be, sou, af, ta, cu⟩ := p
        simp only at c0 c1 c2 c3 c4 c5 c6 HW
        go_wp2_with fail
        refine (HW.out _).mono ?_
        rintro e w1 ⟨rfl, b1⟩
        obtain ⟨_, B1, hl1⟩ := K.one_box b1
        have hX1 : w1.heap[w.heap.size]? = some (.cells #[.int .i64 0, .int .i64 0] 34) := by
          rw [B1.block _ (Array.getElem?_eq_some_iff.1 HX.out).1]; exact HX.out
        have HB1 : Hid (Below w.heap.size w w1) := HB.out.trans (B1.mono hsz)
        have HX1 : Hid _ := hX1
        obtain ⟨x0, x1, f0, f1⟩ := K.box2 hX1
        clear b1 B1 hX1
        by_cases hz : z = 0
        · subst hz
          go_wp2
          go_roundw
          case rel => exact ⟨k + 1, by omega, by go_num, by show _ = _; rw [← HE.out, HE2.out]; simp, HB1, HX1⟩
          case measure => simp [intOf]; omega
        · go_wp2
          refine bodyPost_ret (v := .agg #[.int .i64 z, .int .i64 k]) (by simp [results, Try.results12, go_sem, *]) rfl ?_
          have h := HE2.out
          rw [HE.out, if_neg hz] at h
          cases h
          exact ⟨rfl, (HB1.out.setCell (p := ⟨w.heap.size, 0, none⟩) (Nat.le_refl _) _).setCell (p := ⟨w.heap.size, 1, none⟩) (Nat.le_refl _) _⟩
      · obtain ⟨x0, x1, f0, f1⟩ := K.box2 hX
        have h := HE.out
        rw [List.drop_eq_nil_of_le (by omega)] at h
        cases h
        go_wp2
        refine bodyPost_ret (v := .agg #[.int .i64 0, .int .i64 0]) (by simp [results, Try.results12, go_sem, *]) rfl ?_
        exact ⟨rfl, (HB.out.setCell (p := ⟨w.heap.size, 0, none⟩) (Nat.le_refl _) _).setCell (p := ⟨w.heap.size, 1, none⟩) (Nat.le_refl _) _⟩

end Go.Proofs.Ytkkocnkfdepoiaa
