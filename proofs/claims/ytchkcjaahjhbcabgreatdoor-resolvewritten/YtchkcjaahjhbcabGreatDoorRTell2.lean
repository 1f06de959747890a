/-
  How sides and parts are written: package rulesyn's words.
-/
import Derived.Test.YtchkcjaahjhbcabGreatDoorRTell
namespace Go.Proofs.YtchkcjaahjhbcabGreatDoor
open Go.RowKit
set_option maxRecDepth 20000
set_option linter.unusedSimpArgs false
set_option linter.unusedVariables false

theorem items_ok {l : List R.Item} (h : R.itemsE l = 0) : l.length ≤ 20 ∧ ∀ x ∈ l, R.itemE x = 0 := R.itemsE_zero.1 h

/-- one more word -/
theorem R.Told.go {B b : Nat} {l m : List UInt8} {w w1 w2 : World} {e e2 : Ending} (h1 : Below B w w1) (k1 : Lib.OthersKept 5 (some b) w w1) (h : R.Told B b m w1 e2 w2) : T.Bd B b m w2 ∧ Below B w w2 ∧ Lib.OthersKept 5 (some b) w w2 := ⟨h.2.1, h1.trans h.2.2.1, k1.trans h.2.2.2⟩

set_option maxHeartbeats 8000000 in
theorem tellSide_any (w0 : World) (B b : Nat) (w : World) (v : Value) (s : R.Side) (t : List UInt8) (E : R.Env w0 B w) (R0 : R.SdIs w0 v s) (hok : ∃ m, R.sideE s m = 0) (hb : T.Bd B b t w) (hlen : t.length + (R.sideB s).length ≤ 1000000000) :
    Calls Tryz.prog 32 #[v, .func (.func 13) #[] #[.pointer (some ⟨b, 0, none⟩)]] w (R.Told B b (t ++ R.sideB s) w) := by
  have eg : ∀ args w, (callFunc 13 args).run Tryz.prog w = .ok (.enter 13 args) w := enters_of Tryz.func13 (by kernel_rfl) rfl
  obtain ⟨m, hm⟩ := hok
  obtain ⟨zb, zs, za, hc1, hc2⟩ := R.sideE_zero hm
  obtain ⟨bo, bc, so, sc, ao, ac, rfl, hB, hS, hA, hcu⟩ := R0
  obtain ⟨st, fi, be, sr, af, cu⟩ := s
  simp only at zb zs za hc1 hc2 hB hS hA hcu
  have HIb : Hid (∀ w1 t, R.Env w0 B w1 → T.Bd B b t w1 → t.length + (R.itemsB be (-1)).length ≤ 1000000000 → Calls Tryz.prog 54 #[.slice bo be.length bc, .int .i64 (-1), .func (.func 13) #[] #[.pointer (some ⟨b, 0, none⟩)]] w1 (R.Told B b (t ++ R.itemsB be (-1)) w1)) := fun w1 t e1 b1 h1 => tellItems_any w0 B b w1 _ be (-1) t e1 hB (items_ok zb).1 (items_ok zb).2 b1 (by omega) h1
  have HIs : Hid (∀ w1 t, R.Env w0 B w1 → T.Bd B b t w1 → t.length + (R.itemsB sr cu).length ≤ 1000000000 → Calls Tryz.prog 54 #[.slice so sr.length sc, .int .i64 cu, .func (.func 13) #[] #[.pointer (some ⟨b, 0, none⟩)]] w1 (R.Told B b (t ++ R.itemsB sr cu) w1)) := fun w1 t e1 b1 h1 => tellItems_any w0 B b w1 _ sr cu t e1 hS (items_ok zs).1 (items_ok zs).2 b1 hc1 h1
  have HIa : Hid (∀ w1 t, R.Env w0 B w1 → T.Bd B b t w1 → t.length + (R.itemsB af (-1)).length ≤ 1000000000 → Calls Tryz.prog 54 #[.slice ao af.length ac, .int .i64 (-1), .func (.func 13) #[] #[.pointer (some ⟨b, 0, none⟩)]] w1 (R.Told B b (t ++ R.itemsB af (-1)) w1)) := fun w1 t e1 b1 h1 => tellItems_any w0 B b w1 _ af (-1) t e1 hA (items_ok za).1 (items_ok za).2 b1 (by omega) h1
  obtain ⟨tb, HTb⟩ : ∃ x, Hid (R.itemsB be (-1) = x) := ⟨_, rfl⟩
  obtain ⟨ts, HTs⟩ : ∃ x, Hid (R.itemsB sr cu = x) := ⟨_, rfl⟩
  obtain ⟨ta, HTa⟩ : ∃ x, Hid (R.itemsB af (-1) = x) := ⟨_, rfl⟩
  have HSd : Hid (R.sideB ⟨st, fi, be, sr, af, cu⟩ = (if st = true then [94, 32] else []) ++ tb ++ (if st = true ∨ 0 < be.length then [123, 32] else []) ++ ts ++ (if fi = true ∨ 0 < af.length then [125, 32] else []) ++ ta ++ (if fi = true then [36, 32] else [])) := by
    show _ = _
    rw [← HTb.out, ← HTs.out, ← HTa.out]; rfl
  rw [HTb.out] at HIb
  rw [HTs.out] at HIs
  rw [HTa.out] at HIa
  have hsd := HSd.out
  rw [hsd] at hlen ⊢
  have HLen : Hid (t.length + ((if st = true then [94, 32] else []) ++ tb ++ (if st = true ∨ 0 < be.length then [123, 32] else []) ++ ts ++ (if fi = true ∨ 0 < af.length then [125, 32] else []) ++ ta ++ (if fi = true then [36, 32] else []) : List UInt8).length ≤ 1000000000) := hlen
  have HE : Hid (R.Env w0 B w) := E
  have HBd : Hid (T.Bd B b t w) := hb
  have HA : Hid (∀ o, Below w.heap.size w (w.alloc o)) := fun o => (Below.refl _ w).alloc (Nat.le_refl _) o
  have HNe : Hid (some w.heap.size ≠ some b) := fun e => by
    have h2 := Option.some.inj e
    rcases hb.1 with h | h <;> (have := h.lt; omega)
  have HBN : Hid (B ≤ w.heap.size) := E.now
  clear hB hS hA hm zb zs za E hb hlen hsd HSd
  cases st with
  | true =>
    cases fi with
    | true =>
      have HL : Hid (t.length + 2 + tb.length + 2 + ts.length + 2 + ta.length + 2 ≤ 1000000000) := by
        have h := HLen.out
        simp at h
        show _ ≤ _
        omega
      go_enter Tryz.func32, Tryz.ntmps32
      go_wp2_with fail
      have HBW : Hid (Below w.heap.size w (w.alloc (.cells #[.bool true, .bool true, .slice bo be.length bc, .slice so sr.length sc, .slice ao af.length ac, .int .i64 cu] 45))) := HA.out _
      have HXW : Hid ((w.alloc (.cells #[.bool true, .bool true, .slice bo be.length bc, .slice so sr.length sc, .slice ao af.length ac, .int .i64 cu] 45)).heap[w.heap.size]? = some (.cells #[.bool true, .bool true, .slice bo be.length bc, .slice so sr.length sc, .slice ao af.length ac, .int .i64 cu] 45)) := heap_alloc_new w _
      have HD0 : Hid (T.Bd B b t (w.alloc (.cells #[.bool true, .bool true, .slice bo be.length bc, .slice so sr.length sc, .slice ao af.length ac, .int .i64 cu] 45))) := HBd.out.below HBW.out
      have HE0 : Hid (R.Env w0 B (w.alloc (.cells #[.bool true, .bool true, .slice bo be.length bc, .slice so sr.length sc, .slice ao af.length ac, .int .i64 cu] 45))) := HE.out.after HBW.out
      refine (tword_any B b _ [94] _ HD0.out (by have := HL.out; (try simp only [List.length_append, List.length_cons, List.length_nil]); omega)).mono ?_
      generalize w.alloc (.cells #[.bool true, .bool true, .slice bo be.length bc, .slice so sr.length sc, .slice ao af.length ac, .int .i64 cu] 45) = W at HBW HXW HD0 HE0
      rintro e w1 ⟨rfl, d1, b1, k1⟩
      have HD1 : Hid (T.Bd B b (t ++ ([94] ++ [32])) w1) := d1
      have HB1 : Hid (Below B W w1) := b1
      have HK1 : Hid (Lib.OthersKept 5 (some b) W w1) := k1
      have HE1 : Hid (R.Env w0 B w1) := HE0.out.next b1
      have hx1 := HK1.out _ _ HXW.out HNe.out (fun c fz h => by cases h)
      have p1_0 : w1.cell? ⟨w.heap.size, 0, none⟩ = some (.bool true) := R.at_box hx1 rfl
      have p1_1 : w1.cell? ⟨w.heap.size, 1, none⟩ = some (.bool true) := R.at_box hx1 rfl
      have p1_2 : w1.cell? ⟨w.heap.size, 2, none⟩ = some (.slice bo be.length bc) := R.at_box hx1 rfl
      have p1_3 : w1.cell? ⟨w.heap.size, 3, none⟩ = some (.slice so sr.length sc) := R.at_box hx1 rfl
      have p1_4 : w1.cell? ⟨w.heap.size, 4, none⟩ = some (.slice ao af.length ac) := R.at_box hx1 rfl
      have p1_5 : w1.cell? ⟨w.heap.size, 5, none⟩ = some (.int .i64 cu) := R.at_box hx1 rfl
      clear d1 b1 k1 hx1
      go_wp2_with fail
      refine (HIb.out _ _ HE1.out HD1.out (by have := HL.out; (try simp only [List.length_append, List.length_cons, List.length_nil]); omega)).mono ?_
      rintro e w2 ⟨rfl, d2, b2, k2⟩
      have HD2 : Hid (T.Bd B b ((t ++ ([94] ++ [32])) ++ tb) w2) := d2
      have HB2 : Hid (Below B W w2) := HB1.out.trans b2
      have HK2 : Hid (Lib.OthersKept 5 (some b) W w2) := HK1.out.trans k2
      have HE2 : Hid (R.Env w0 B w2) := HE1.out.next b2
      have hx2 := HK2.out _ _ HXW.out HNe.out (fun c fz h => by cases h)
      have p2_0 : w2.cell? ⟨w.heap.size, 0, none⟩ = some (.bool true) := R.at_box hx2 rfl
      have p2_1 : w2.cell? ⟨w.heap.size, 1, none⟩ = some (.bool true) := R.at_box hx2 rfl
      have p2_2 : w2.cell? ⟨w.heap.size, 2, none⟩ = some (.slice bo be.length bc) := R.at_box hx2 rfl
      have p2_3 : w2.cell? ⟨w.heap.size, 3, none⟩ = some (.slice so sr.length sc) := R.at_box hx2 rfl
      have p2_4 : w2.cell? ⟨w.heap.size, 4, none⟩ = some (.slice ao af.length ac) := R.at_box hx2 rfl
      have p2_5 : w2.cell? ⟨w.heap.size, 5, none⟩ = some (.int .i64 cu) := R.at_box hx2 rfl
      clear d2 b2 k2 hx2 p1_0 p1_1 p1_2 p1_3 p1_4 p1_5 HE1
      go_wp2_with fail
      refine (tword_any B b _ [123] _ HD2.out (by have := HL.out; (try simp only [List.length_append, List.length_cons, List.length_nil]); omega)).mono ?_
      rintro e w3 ⟨rfl, d3, b3, k3⟩
      have HD3 : Hid (T.Bd B b (((t ++ ([94] ++ [32])) ++ tb) ++ ([123] ++ [32])) w3) := d3
      have HB3 : Hid (Below B W w3) := HB2.out.trans b3
      have HK3 : Hid (Lib.OthersKept 5 (some b) W w3) := HK2.out.trans k3
      have HE3 : Hid (R.Env w0 B w3) := HE2.out.next b3
      have hx3 := HK3.out _ _ HXW.out HNe.out (fun c fz h => by cases h)
      have p3_0 : w3.cell? ⟨w.heap.size, 0, none⟩ = some (.bool true) := R.at_box hx3 rfl
      have p3_1 : w3.cell? ⟨w.heap.size, 1, none⟩ = some (.bool true) := R.at_box hx3 rfl
      have p3_2 : w3.cell? ⟨w.heap.size, 2, none⟩ = some (.slice bo be.length bc) := R.at_box hx3 rfl
      have p3_3 : w3.cell? ⟨w.heap.size, 3, none⟩ = some (.slice so sr.length sc) := R.at_box hx3 rfl
      have p3_4 : w3.cell? ⟨w.heap.size, 4, none⟩ = some (.slice ao af.length ac) := R.at_box hx3 rfl
      have p3_5 : w3.cell? ⟨w.heap.size, 5, none⟩ = some (.int .i64 cu) := R.at_box hx3 rfl
      clear d3 b3 k3 hx3 p2_0 p2_1 p2_2 p2_3 p2_4 p2_5 HE2
      go_wp2_with fail
      refine (HIs.out _ _ HE3.out HD3.out (by have := HL.out; (try simp only [List.length_append, List.length_cons, List.length_nil]); omega)).mono ?_
      rintro e w4 ⟨rfl, d4, b4, k4⟩
      have HD4 : Hid (T.Bd B b ((((t ++ ([94] ++ [32])) ++ tb) ++ ([123] ++ [32])) ++ ts) w4) := d4
      have HB4 : Hid (Below B W w4) := HB3.out.trans b4
      have HK4 : Hid (Lib.OthersKept 5 (some b) W w4) := HK3.out.trans k4
      have HE4 : Hid (R.Env w0 B w4) := HE3.out.next b4
      have hx4 := HK4.out _ _ HXW.out HNe.out (fun c fz h => by cases h)
      have p4_0 : w4.cell? ⟨w.heap.size, 0, none⟩ = some (.bool true) := R.at_box hx4 rfl
      have p4_1 : w4.cell? ⟨w.heap.size, 1, none⟩ = some (.bool true) := R.at_box hx4 rfl
      have p4_2 : w4.cell? ⟨w.heap.size, 2, none⟩ = some (.slice bo be.length bc) := R.at_box hx4 rfl
      have p4_3 : w4.cell? ⟨w.heap.size, 3, none⟩ = some (.slice so sr.length sc) := R.at_box hx4 rfl
      have p4_4 : w4.cell? ⟨w.heap.size, 4, none⟩ = some (.slice ao af.length ac) := R.at_box hx4 rfl
      have p4_5 : w4.cell? ⟨w.heap.size, 5, none⟩ = some (.int .i64 cu) := R.at_box hx4 rfl
      clear d4 b4 k4 hx4 p3_0 p3_1 p3_2 p3_3 p3_4 p3_5 HE3
      go_wp2_with fail
      refine (tword_any B b _ [125] _ HD4.out (by have := HL.out; (try simp only [List.length_append, List.length_cons, List.length_nil]); omega)).mono ?_
      rintro e w5 ⟨rfl, d5, b5, k5⟩
      have HD5 : Hid (T.Bd B b (((((t ++ ([94] ++ [32])) ++ tb) ++ ([123] ++ [32])) ++ ts) ++ ([125] ++ [32])) w5) := d5
      have HB5 : Hid (Below B W w5) := HB4.out.trans b5
      have HK5 : Hid (Lib.OthersKept 5 (some b) W w5) := HK4.out.trans k5
      have HE5 : Hid (R.Env w0 B w5) := HE4.out.next b5
      have hx5 := HK5.out _ _ HXW.out HNe.out (fun c fz h => by cases h)
      have p5_0 : w5.cell? ⟨w.heap.size, 0, none⟩ = some (.bool true) := R.at_box hx5 rfl
      have p5_1 : w5.cell? ⟨w.heap.size, 1, none⟩ = some (.bool true) := R.at_box hx5 rfl
      have p5_2 : w5.cell? ⟨w.heap.size, 2, none⟩ = some (.slice bo be.length bc) := R.at_box hx5 rfl
      have p5_3 : w5.cell? ⟨w.heap.size, 3, none⟩ = some (.slice so sr.length sc) := R.at_box hx5 rfl
      have p5_4 : w5.cell? ⟨w.heap.size, 4, none⟩ = some (.slice ao af.length ac) := R.at_box hx5 rfl
      have p5_5 : w5.cell? ⟨w.heap.size, 5, none⟩ = some (.int .i64 cu) := R.at_box hx5 rfl
      clear d5 b5 k5 hx5 p4_0 p4_1 p4_2 p4_3 p4_4 p4_5 HE4
      go_wp2_with fail
      refine (HIa.out _ _ HE5.out HD5.out (by have := HL.out; (try simp only [List.length_append, List.length_cons, List.length_nil]); omega)).mono ?_
      rintro e w6 ⟨rfl, d6, b6, k6⟩
      have HD6 : Hid (T.Bd B b ((((((t ++ ([94] ++ [32])) ++ tb) ++ ([123] ++ [32])) ++ ts) ++ ([125] ++ [32])) ++ ta) w6) := d6
      have HB6 : Hid (Below B W w6) := HB5.out.trans b6
      have HK6 : Hid (Lib.OthersKept 5 (some b) W w6) := HK5.out.trans k6
      have HE6 : Hid (R.Env w0 B w6) := HE5.out.next b6
      have hx6 := HK6.out _ _ HXW.out HNe.out (fun c fz h => by cases h)
      have p6_0 : w6.cell? ⟨w.heap.size, 0, none⟩ = some (.bool true) := R.at_box hx6 rfl
      have p6_1 : w6.cell? ⟨w.heap.size, 1, none⟩ = some (.bool true) := R.at_box hx6 rfl
      have p6_2 : w6.cell? ⟨w.heap.size, 2, none⟩ = some (.slice bo be.length bc) := R.at_box hx6 rfl
      have p6_3 : w6.cell? ⟨w.heap.size, 3, none⟩ = some (.slice so sr.length sc) := R.at_box hx6 rfl
      have p6_4 : w6.cell? ⟨w.heap.size, 4, none⟩ = some (.slice ao af.length ac) := R.at_box hx6 rfl
      have p6_5 : w6.cell? ⟨w.heap.size, 5, none⟩ = some (.int .i64 cu) := R.at_box hx6 rfl
      clear d6 b6 k6 hx6 p5_0 p5_1 p5_2 p5_3 p5_4 p5_5 HE5
      go_wp2_with fail
      refine (tword_any B b _ [36] _ HD6.out (by have := HL.out; (try simp only [List.length_append, List.length_cons, List.length_nil]); omega)).mono ?_
      rintro e w7 ⟨rfl, d7, b7, k7⟩
      have HD7 : Hid (T.Bd B b (((((((t ++ ([94] ++ [32])) ++ tb) ++ ([123] ++ [32])) ++ ts) ++ ([125] ++ [32])) ++ ta) ++ ([36] ++ [32])) w7) := d7
      have HB7 : Hid (Below B W w7) := HB6.out.trans b7
      have HK7 : Hid (Lib.OthersKept 5 (some b) W w7) := HK6.out.trans k7
      have HE7 : Hid (R.Env w0 B w7) := HE6.out.next b7
      have hx7 := HK7.out _ _ HXW.out HNe.out (fun c fz h => by cases h)
      have p7_0 : w7.cell? ⟨w.heap.size, 0, none⟩ = some (.bool true) := R.at_box hx7 rfl
      have p7_1 : w7.cell? ⟨w.heap.size, 1, none⟩ = some (.bool true) := R.at_box hx7 rfl
      have p7_2 : w7.cell? ⟨w.heap.size, 2, none⟩ = some (.slice bo be.length bc) := R.at_box hx7 rfl
      have p7_3 : w7.cell? ⟨w.heap.size, 3, none⟩ = some (.slice so sr.length sc) := R.at_box hx7 rfl
      have p7_4 : w7.cell? ⟨w.heap.size, 4, none⟩ = some (.slice ao af.length ac) := R.at_box hx7 rfl
      have p7_5 : w7.cell? ⟨w.heap.size, 5, none⟩ = some (.int .i64 cu) := R.at_box hx7 rfl
      clear d7 b7 k7 hx7 p6_0 p6_1 p6_2 p6_3 p6_4 p6_5 HE6
      go_wp2
      go_end0
      refine ⟨rfl, ?_, (HBW.out.mono HBN.out).trans HB7.out, (kept_below HBW.out).trans HK7.out⟩
      have h := HD7.out
      simp only [List.append_assoc, List.cons_append, List.nil_append] at h
      simpa [List.append_assoc] using h
    | false =>
      by_cases ha : 0 < af.length
      · have ha2 : (0 : Int) < (af.length : Int) := by omega
        rw [if_pos (c := _ ∨ 0 < af.length) (Or.inr ha)] at HLen
        rw [if_pos (c := _ ∨ 0 < af.length) (Or.inr ha)]
        have HL : Hid (t.length + 2 + tb.length + 2 + ts.length + 2 + ta.length ≤ 1000000000) := by
          have h := HLen.out
          simp at h
          show _ ≤ _
          omega
        go_enter Tryz.func32, Tryz.ntmps32
        go_wp2_with fail
        have HBW : Hid (Below w.heap.size w (w.alloc (.cells #[.bool true, .bool false, .slice bo be.length bc, .slice so sr.length sc, .slice ao af.length ac, .int .i64 cu] 45))) := HA.out _
        have HXW : Hid ((w.alloc (.cells #[.bool true, .bool false, .slice bo be.length bc, .slice so sr.length sc, .slice ao af.length ac, .int .i64 cu] 45)).heap[w.heap.size]? = some (.cells #[.bool true, .bool false, .slice bo be.length bc, .slice so sr.length sc, .slice ao af.length ac, .int .i64 cu] 45)) := heap_alloc_new w _
        have HD0 : Hid (T.Bd B b t (w.alloc (.cells #[.bool true, .bool false, .slice bo be.length bc, .slice so sr.length sc, .slice ao af.length ac, .int .i64 cu] 45))) := HBd.out.below HBW.out
        have HE0 : Hid (R.Env w0 B (w.alloc (.cells #[.bool true, .bool false, .slice bo be.length bc, .slice so sr.length sc, .slice ao af.length ac, .int .i64 cu] 45))) := HE.out.after HBW.out
        refine (tword_any B b _ [94] _ HD0.out (by have := HL.out; (try simp only [List.length_append, List.length_cons, List.length_nil]); omega)).mono ?_
        generalize w.alloc (.cells #[.bool true, .bool false, .slice bo be.length bc, .slice so sr.length sc, .slice ao af.length ac, .int .i64 cu] 45) = W at HBW HXW HD0 HE0
        rintro e w1 ⟨rfl, d1, b1, k1⟩
        have HD1 : Hid (T.Bd B b (t ++ ([94] ++ [32])) w1) := d1
        have HB1 : Hid (Below B W w1) := b1
        have HK1 : Hid (Lib.OthersKept 5 (some b) W w1) := k1
        have HE1 : Hid (R.Env w0 B w1) := HE0.out.next b1
        have hx1 := HK1.out _ _ HXW.out HNe.out (fun c fz h => by cases h)
        have p1_0 : w1.cell? ⟨w.heap.size, 0, none⟩ = some (.bool true) := R.at_box hx1 rfl
        have p1_1 : w1.cell? ⟨w.heap.size, 1, none⟩ = some (.bool false) := R.at_box hx1 rfl
        have p1_2 : w1.cell? ⟨w.heap.size, 2, none⟩ = some (.slice bo be.length bc) := R.at_box hx1 rfl
        have p1_3 : w1.cell? ⟨w.heap.size, 3, none⟩ = some (.slice so sr.length sc) := R.at_box hx1 rfl
        have p1_4 : w1.cell? ⟨w.heap.size, 4, none⟩ = some (.slice ao af.length ac) := R.at_box hx1 rfl
        have p1_5 : w1.cell? ⟨w.heap.size, 5, none⟩ = some (.int .i64 cu) := R.at_box hx1 rfl
        clear d1 b1 k1 hx1
        go_wp2_with fail
        refine (HIb.out _ _ HE1.out HD1.out (by have := HL.out; (try simp only [List.length_append, List.length_cons, List.length_nil]); omega)).mono ?_
        rintro e w2 ⟨rfl, d2, b2, k2⟩
        have HD2 : Hid (T.Bd B b ((t ++ ([94] ++ [32])) ++ tb) w2) := d2
        have HB2 : Hid (Below B W w2) := HB1.out.trans b2
        have HK2 : Hid (Lib.OthersKept 5 (some b) W w2) := HK1.out.trans k2
        have HE2 : Hid (R.Env w0 B w2) := HE1.out.next b2
        have hx2 := HK2.out _ _ HXW.out HNe.out (fun c fz h => by cases h)
        have p2_0 : w2.cell? ⟨w.heap.size, 0, none⟩ = some (.bool true) := R.at_box hx2 rfl
        have p2_1 : w2.cell? ⟨w.heap.size, 1, none⟩ = some (.bool false) := R.at_box hx2 rfl
        have p2_2 : w2.cell? ⟨w.heap.size, 2, none⟩ = some (.slice bo be.length bc) := R.at_box hx2 rfl
        have p2_3 : w2.cell? ⟨w.heap.size, 3, none⟩ = some (.slice so sr.length sc) := R.at_box hx2 rfl
        have p2_4 : w2.cell? ⟨w.heap.size, 4, none⟩ = some (.slice ao af.length ac) := R.at_box hx2 rfl
        have p2_5 : w2.cell? ⟨w.heap.size, 5, none⟩ = some (.int .i64 cu) := R.at_box hx2 rfl
        clear d2 b2 k2 hx2 p1_0 p1_1 p1_2 p1_3 p1_4 p1_5 HE1
        go_wp2_with fail
        refine (tword_any B b _ [123] _ HD2.out (by have := HL.out; (try simp only [List.length_append, List.length_cons, List.length_nil]); omega)).mono ?_
        rintro e w3 ⟨rfl, d3, b3, k3⟩
        have HD3 : Hid (T.Bd B b (((t ++ ([94] ++ [32])) ++ tb) ++ ([123] ++ [32])) w3) := d3
        have HB3 : Hid (Below B W w3) := HB2.out.trans b3
        have HK3 : Hid (Lib.OthersKept 5 (some b) W w3) := HK2.out.trans k3
        have HE3 : Hid (R.Env w0 B w3) := HE2.out.next b3
        have hx3 := HK3.out _ _ HXW.out HNe.out (fun c fz h => by cases h)
        have p3_0 : w3.cell? ⟨w.heap.size, 0, none⟩ = some (.bool true) := R.at_box hx3 rfl
        have p3_1 : w3.cell? ⟨w.heap.size, 1, none⟩ = some (.bool false) := R.at_box hx3 rfl
        have p3_2 : w3.cell? ⟨w.heap.size, 2, none⟩ = some (.slice bo be.length bc) := R.at_box hx3 rfl
        have p3_3 : w3.cell? ⟨w.heap.size, 3, none⟩ = some (.slice so sr.length sc) := R.at_box hx3 rfl
        have p3_4 : w3.cell? ⟨w.heap.size, 4, none⟩ = some (.slice ao af.length ac) := R.at_box hx3 rfl
        have p3_5 : w3.cell? ⟨w.heap.size, 5, none⟩ = some (.int .i64 cu) := R.at_box hx3 rfl
        clear d3 b3 k3 hx3 p2_0 p2_1 p2_2 p2_3 p2_4 p2_5 HE2
        go_wp2_with fail
        refine (HIs.out _ _ HE3.out HD3.out (by have := HL.out; (try simp only [List.length_append, List.length_cons, List.length_nil]); omega)).mono ?_
        rintro e w4 ⟨rfl, d4, b4, k4⟩
        have HD4 : Hid (T.Bd B b ((((t ++ ([94] ++ [32])) ++ tb) ++ ([123] ++ [32])) ++ ts) w4) := d4
        have HB4 : Hid (Below B W w4) := HB3.out.trans b4
        have HK4 : Hid (Lib.OthersKept 5 (some b) W w4) := HK3.out.trans k4
        have HE4 : Hid (R.Env w0 B w4) := HE3.out.next b4
        have hx4 := HK4.out _ _ HXW.out HNe.out (fun c fz h => by cases h)
        have p4_0 : w4.cell? ⟨w.heap.size, 0, none⟩ = some (.bool true) := R.at_box hx4 rfl
        have p4_1 : w4.cell? ⟨w.heap.size, 1, none⟩ = some (.bool false) := R.at_box hx4 rfl
        have p4_2 : w4.cell? ⟨w.heap.size, 2, none⟩ = some (.slice bo be.length bc) := R.at_box hx4 rfl
        have p4_3 : w4.cell? ⟨w.heap.size, 3, none⟩ = some (.slice so sr.length sc) := R.at_box hx4 rfl
        have p4_4 : w4.cell? ⟨w.heap.size, 4, none⟩ = some (.slice ao af.length ac) := R.at_box hx4 rfl
        have p4_5 : w4.cell? ⟨w.heap.size, 5, none⟩ = some (.int .i64 cu) := R.at_box hx4 rfl
        clear d4 b4 k4 hx4 p3_0 p3_1 p3_2 p3_3 p3_4 p3_5 HE3
        go_wp2_with fail
        refine (tword_any B b _ [125] _ HD4.out (by have := HL.out; (try simp only [List.length_append, List.length_cons, List.length_nil]); omega)).mono ?_
        rintro e w5 ⟨rfl, d5, b5, k5⟩
        have HD5 : Hid (T.Bd B b (((((t ++ ([94] ++ [32])) ++ tb) ++ ([123] ++ [32])) ++ ts) ++ ([125] ++ [32])) w5) := d5
        have HB5 : Hid (Below B W w5) := HB4.out.trans b5
        have HK5 : Hid (Lib.OthersKept 5 (some b) W w5) := HK4.out.trans k5
        have HE5 : Hid (R.Env w0 B w5) := HE4.out.next b5
        have hx5 := HK5.out _ _ HXW.out HNe.out (fun c fz h => by cases h)
        have p5_0 : w5.cell? ⟨w.heap.size, 0, none⟩ = some (.bool true) := R.at_box hx5 rfl
        have p5_1 : w5.cell? ⟨w.heap.size, 1, none⟩ = some (.bool false) := R.at_box hx5 rfl
        have p5_2 : w5.cell? ⟨w.heap.size, 2, none⟩ = some (.slice bo be.length bc) := R.at_box hx5 rfl
        have p5_3 : w5.cell? ⟨w.heap.size, 3, none⟩ = some (.slice so sr.length sc) := R.at_box hx5 rfl
        have p5_4 : w5.cell? ⟨w.heap.size, 4, none⟩ = some (.slice ao af.length ac) := R.at_box hx5 rfl
        have p5_5 : w5.cell? ⟨w.heap.size, 5, none⟩ = some (.int .i64 cu) := R.at_box hx5 rfl
        clear d5 b5 k5 hx5 p4_0 p4_1 p4_2 p4_3 p4_4 p4_5 HE4
        go_wp2_with fail
        refine (HIa.out _ _ HE5.out HD5.out (by have := HL.out; (try simp only [List.length_append, List.length_cons, List.length_nil]); omega)).mono ?_
        rintro e w6 ⟨rfl, d6, b6, k6⟩
        have HD6 : Hid (T.Bd B b ((((((t ++ ([94] ++ [32])) ++ tb) ++ ([123] ++ [32])) ++ ts) ++ ([125] ++ [32])) ++ ta) w6) := d6
        have HB6 : Hid (Below B W w6) := HB5.out.trans b6
        have HK6 : Hid (Lib.OthersKept 5 (some b) W w6) := HK5.out.trans k6
        have HE6 : Hid (R.Env w0 B w6) := HE5.out.next b6
        have hx6 := HK6.out _ _ HXW.out HNe.out (fun c fz h => by cases h)
        have p6_0 : w6.cell? ⟨w.heap.size, 0, none⟩ = some (.bool true) := R.at_box hx6 rfl
        have p6_1 : w6.cell? ⟨w.heap.size, 1, none⟩ = some (.bool false) := R.at_box hx6 rfl
        have p6_2 : w6.cell? ⟨w.heap.size, 2, none⟩ = some (.slice bo be.length bc) := R.at_box hx6 rfl
        have p6_3 : w6.cell? ⟨w.heap.size, 3, none⟩ = some (.slice so sr.length sc) := R.at_box hx6 rfl
        have p6_4 : w6.cell? ⟨w.heap.size, 4, none⟩ = some (.slice ao af.length ac) := R.at_box hx6 rfl
        have p6_5 : w6.cell? ⟨w.heap.size, 5, none⟩ = some (.int .i64 cu) := R.at_box hx6 rfl
        clear d6 b6 k6 hx6 p5_0 p5_1 p5_2 p5_3 p5_4 p5_5 HE5
        go_wp2
        go_end0
        refine ⟨rfl, ?_, (HBW.out.mono HBN.out).trans HB6.out, (kept_below HBW.out).trans HK6.out⟩
        have h := HD6.out
        simp only [List.append_assoc, List.cons_append, List.nil_append] at h
        simpa [List.append_assoc] using h
      · have ha2 : ¬ (0 : Int) < (af.length : Int) := by omega
        rw [if_neg (c := _ ∨ 0 < af.length) (by rintro (h | h); cases h; omega)] at HLen
        rw [if_neg (c := _ ∨ 0 < af.length) (by rintro (h | h); cases h; omega)]
        have HL : Hid (t.length + 2 + tb.length + 2 + ts.length + ta.length ≤ 1000000000) := by
          have h := HLen.out
          simp at h
          show _ ≤ _
          omega
        go_enter Tryz.func32, Tryz.ntmps32
        go_wp2_with fail
        have HBW : Hid (Below w.heap.size w (w.alloc (.cells #[.bool true, .bool false, .slice bo be.length bc, .slice so sr.length sc, .slice ao af.length ac, .int .i64 cu] 45))) := HA.out _
        have HXW : Hid ((w.alloc (.cells #[.bool true, .bool false, .slice bo be.length bc, .slice so sr.length sc, .slice ao af.length ac, .int .i64 cu] 45)).heap[w.heap.size]? = some (.cells #[.bool true, .bool false, .slice bo be.length bc, .slice so sr.length sc, .slice ao af.length ac, .int .i64 cu] 45)) := heap_alloc_new w _
        have HD0 : Hid (T.Bd B b t (w.alloc (.cells #[.bool true, .bool false, .slice bo be.length bc, .slice so sr.length sc, .slice ao af.length ac, .int .i64 cu] 45))) := HBd.out.below HBW.out
        have HE0 : Hid (R.Env w0 B (w.alloc (.cells #[.bool true, .bool false, .slice bo be.length bc, .slice so sr.length sc, .slice ao af.length ac, .int .i64 cu] 45))) := HE.out.after HBW.out
        refine (tword_any B b _ [94] _ HD0.out (by have := HL.out; (try simp only [List.length_append, List.length_cons, List.length_nil]); omega)).mono ?_
        generalize w.alloc (.cells #[.bool true, .bool false, .slice bo be.length bc, .slice so sr.length sc, .slice ao af.length ac, .int .i64 cu] 45) = W at HBW HXW HD0 HE0
        rintro e w1 ⟨rfl, d1, b1, k1⟩
        have HD1 : Hid (T.Bd B b (t ++ ([94] ++ [32])) w1) := d1
        have HB1 : Hid (Below B W w1) := b1
        have HK1 : Hid (Lib.OthersKept 5 (some b) W w1) := k1
        have HE1 : Hid (R.Env w0 B w1) := HE0.out.next b1
        have hx1 := HK1.out _ _ HXW.out HNe.out (fun c fz h => by cases h)
        have p1_0 : w1.cell? ⟨w.heap.size, 0, none⟩ = some (.bool true) := R.at_box hx1 rfl
        have p1_1 : w1.cell? ⟨w.heap.size, 1, none⟩ = some (.bool false) := R.at_box hx1 rfl
        have p1_2 : w1.cell? ⟨w.heap.size, 2, none⟩ = some (.slice bo be.length bc) := R.at_box hx1 rfl
        have p1_3 : w1.cell? ⟨w.heap.size, 3, none⟩ = some (.slice so sr.length sc) := R.at_box hx1 rfl
        have p1_4 : w1.cell? ⟨w.heap.size, 4, none⟩ = some (.slice ao af.length ac) := R.at_box hx1 rfl
        have p1_5 : w1.cell? ⟨w.heap.size, 5, none⟩ = some (.int .i64 cu) := R.at_box hx1 rfl
        clear d1 b1 k1 hx1
        go_wp2_with fail
        refine (HIb.out _ _ HE1.out HD1.out (by have := HL.out; (try simp only [List.length_append, List.length_cons, List.length_nil]); omega)).mono ?_
        rintro e w2 ⟨rfl, d2, b2, k2⟩
        have HD2 : Hid (T.Bd B b ((t ++ ([94] ++ [32])) ++ tb) w2) := d2
        have HB2 : Hid (Below B W w2) := HB1.out.trans b2
        have HK2 : Hid (Lib.OthersKept 5 (some b) W w2) := HK1.out.trans k2
        have HE2 : Hid (R.Env w0 B w2) := HE1.out.next b2
        have hx2 := HK2.out _ _ HXW.out HNe.out (fun c fz h => by cases h)
        have p2_0 : w2.cell? ⟨w.heap.size, 0, none⟩ = some (.bool true) := R.at_box hx2 rfl
        have p2_1 : w2.cell? ⟨w.heap.size, 1, none⟩ = some (.bool false) := R.at_box hx2 rfl
        have p2_2 : w2.cell? ⟨w.heap.size, 2, none⟩ = some (.slice bo be.length bc) := R.at_box hx2 rfl
        have p2_3 : w2.cell? ⟨w.heap.size, 3, none⟩ = some (.slice so sr.length sc) := R.at_box hx2 rfl
        have p2_4 : w2.cell? ⟨w.heap.size, 4, none⟩ = some (.slice ao af.length ac) := R.at_box hx2 rfl
        have p2_5 : w2.cell? ⟨w.heap.size, 5, none⟩ = some (.int .i64 cu) := R.at_box hx2 rfl
        clear d2 b2 k2 hx2 p1_0 p1_1 p1_2 p1_3 p1_4 p1_5 HE1
        go_wp2_with fail
        refine (tword_any B b _ [123] _ HD2.out (by have := HL.out; (try simp only [List.length_append, List.length_cons, List.length_nil]); omega)).mono ?_
        rintro e w3 ⟨rfl, d3, b3, k3⟩
        have HD3 : Hid (T.Bd B b (((t ++ ([94] ++ [32])) ++ tb) ++ ([123] ++ [32])) w3) := d3
        have HB3 : Hid (Below B W w3) := HB2.out.trans b3
        have HK3 : Hid (Lib.OthersKept 5 (some b) W w3) := HK2.out.trans k3
        have HE3 : Hid (R.Env w0 B w3) := HE2.out.next b3
        have hx3 := HK3.out _ _ HXW.out HNe.out (fun c fz h => by cases h)
        have p3_0 : w3.cell? ⟨w.heap.size, 0, none⟩ = some (.bool true) := R.at_box hx3 rfl
        have p3_1 : w3.cell? ⟨w.heap.size, 1, none⟩ = some (.bool false) := R.at_box hx3 rfl
        have p3_2 : w3.cell? ⟨w.heap.size, 2, none⟩ = some (.slice bo be.length bc) := R.at_box hx3 rfl
        have p3_3 : w3.cell? ⟨w.heap.size, 3, none⟩ = some (.slice so sr.length sc) := R.at_box hx3 rfl
        have p3_4 : w3.cell? ⟨w.heap.size, 4, none⟩ = some (.slice ao af.length ac) := R.at_box hx3 rfl
        have p3_5 : w3.cell? ⟨w.heap.size, 5, none⟩ = some (.int .i64 cu) := R.at_box hx3 rfl
        clear d3 b3 k3 hx3 p2_0 p2_1 p2_2 p2_3 p2_4 p2_5 HE2
        go_wp2_with fail
        refine (HIs.out _ _ HE3.out HD3.out (by have := HL.out; (try simp only [List.length_append, List.length_cons, List.length_nil]); omega)).mono ?_
        rintro e w4 ⟨rfl, d4, b4, k4⟩
        have HD4 : Hid (T.Bd B b ((((t ++ ([94] ++ [32])) ++ tb) ++ ([123] ++ [32])) ++ ts) w4) := d4
        have HB4 : Hid (Below B W w4) := HB3.out.trans b4
        have HK4 : Hid (Lib.OthersKept 5 (some b) W w4) := HK3.out.trans k4
        have HE4 : Hid (R.Env w0 B w4) := HE3.out.next b4
        have hx4 := HK4.out _ _ HXW.out HNe.out (fun c fz h => by cases h)
        have p4_0 : w4.cell? ⟨w.heap.size, 0, none⟩ = some (.bool true) := R.at_box hx4 rfl
        have p4_1 : w4.cell? ⟨w.heap.size, 1, none⟩ = some (.bool false) := R.at_box hx4 rfl
        have p4_2 : w4.cell? ⟨w.heap.size, 2, none⟩ = some (.slice bo be.length bc) := R.at_box hx4 rfl
        have p4_3 : w4.cell? ⟨w.heap.size, 3, none⟩ = some (.slice so sr.length sc) := R.at_box hx4 rfl
        have p4_4 : w4.cell? ⟨w.heap.size, 4, none⟩ = some (.slice ao af.length ac) := R.at_box hx4 rfl
        have p4_5 : w4.cell? ⟨w.heap.size, 5, none⟩ = some (.int .i64 cu) := R.at_box hx4 rfl
        clear d4 b4 k4 hx4 p3_0 p3_1 p3_2 p3_3 p3_4 p3_5 HE3
        go_wp2_with fail
        refine (HIa.out _ _ HE4.out HD4.out (by have := HL.out; (try simp only [List.length_append, List.length_cons, List.length_nil]); omega)).mono ?_
        rintro e w5 ⟨rfl, d5, b5, k5⟩
        have HD5 : Hid (T.Bd B b (((((t ++ ([94] ++ [32])) ++ tb) ++ ([123] ++ [32])) ++ ts) ++ ta) w5) := d5
        have HB5 : Hid (Below B W w5) := HB4.out.trans b5
        have HK5 : Hid (Lib.OthersKept 5 (some b) W w5) := HK4.out.trans k5
        have HE5 : Hid (R.Env w0 B w5) := HE4.out.next b5
        have hx5 := HK5.out _ _ HXW.out HNe.out (fun c fz h => by cases h)
        have p5_0 : w5.cell? ⟨w.heap.size, 0, none⟩ = some (.bool true) := R.at_box hx5 rfl
        have p5_1 : w5.cell? ⟨w.heap.size, 1, none⟩ = some (.bool false) := R.at_box hx5 rfl
        have p5_2 : w5.cell? ⟨w.heap.size, 2, none⟩ = some (.slice bo be.length bc) := R.at_box hx5 rfl
        have p5_3 : w5.cell? ⟨w.heap.size, 3, none⟩ = some (.slice so sr.length sc) := R.at_box hx5 rfl
        have p5_4 : w5.cell? ⟨w.heap.size, 4, none⟩ = some (.slice ao af.length ac) := R.at_box hx5 rfl
        have p5_5 : w5.cell? ⟨w.heap.size, 5, none⟩ = some (.int .i64 cu) := R.at_box hx5 rfl
        clear d5 b5 k5 hx5 p4_0 p4_1 p4_2 p4_3 p4_4 p4_5 HE4
        go_wp2
        go_end0
        refine ⟨rfl, ?_, (HBW.out.mono HBN.out).trans HB5.out, (kept_below HBW.out).trans HK5.out⟩
        have h := HD5.out
        simp only [List.append_assoc, List.cons_append, List.nil_append] at h
        simpa [List.append_assoc] using h
  | false =>
    by_cases hbe : 0 < be.length
    · have hbe2 : (0 : Int) < (be.length : Int) := by omega
      rw [if_pos (c := _ ∨ 0 < be.length) (Or.inr hbe)] at HLen
      rw [if_pos (c := _ ∨ 0 < be.length) (Or.inr hbe)]
      cases fi with
      | true =>
        have HL : Hid (t.length + tb.length + 2 + ts.length + 2 + ta.length + 2 ≤ 1000000000) := by
          have h := HLen.out
          simp at h
          show _ ≤ _
          omega
        go_enter Tryz.func32, Tryz.ntmps32
        go_wp2_with fail
        have HBW : Hid (Below w.heap.size w (w.alloc (.cells #[.bool false, .bool true, .slice bo be.length bc, .slice so sr.length sc, .slice ao af.length ac, .int .i64 cu] 45))) := HA.out _
        have HXW : Hid ((w.alloc (.cells #[.bool false, .bool true, .slice bo be.length bc, .slice so sr.length sc, .slice ao af.length ac, .int .i64 cu] 45)).heap[w.heap.size]? = some (.cells #[.bool false, .bool true, .slice bo be.length bc, .slice so sr.length sc, .slice ao af.length ac, .int .i64 cu] 45)) := heap_alloc_new w _
        have HD0 : Hid (T.Bd B b t (w.alloc (.cells #[.bool false, .bool true, .slice bo be.length bc, .slice so sr.length sc, .slice ao af.length ac, .int .i64 cu] 45))) := HBd.out.below HBW.out
        have HE0 : Hid (R.Env w0 B (w.alloc (.cells #[.bool false, .bool true, .slice bo be.length bc, .slice so sr.length sc, .slice ao af.length ac, .int .i64 cu] 45))) := HE.out.after HBW.out
        refine (HIb.out _ _ HE0.out HD0.out (by have := HL.out; (try simp only [List.length_append, List.length_cons, List.length_nil]); omega)).mono ?_
        generalize w.alloc (.cells #[.bool false, .bool true, .slice bo be.length bc, .slice so sr.length sc, .slice ao af.length ac, .int .i64 cu] 45) = W at HBW HXW HD0 HE0
        rintro e w1 ⟨rfl, d1, b1, k1⟩
        have HD1 : Hid (T.Bd B b (t ++ tb) w1) := d1
        have HB1 : Hid (Below B W w1) := b1
        have HK1 : Hid (Lib.OthersKept 5 (some b) W w1) := k1
        have HE1 : Hid (R.Env w0 B w1) := HE0.out.next b1
        have hx1 := HK1.out _ _ HXW.out HNe.out (fun c fz h => by cases h)
        have p1_0 : w1.cell? ⟨w.heap.size, 0, none⟩ = some (.bool false) := R.at_box hx1 rfl
        have p1_1 : w1.cell? ⟨w.heap.size, 1, none⟩ = some (.bool true) := R.at_box hx1 rfl
        have p1_2 : w1.cell? ⟨w.heap.size, 2, none⟩ = some (.slice bo be.length bc) := R.at_box hx1 rfl
        have p1_3 : w1.cell? ⟨w.heap.size, 3, none⟩ = some (.slice so sr.length sc) := R.at_box hx1 rfl
        have p1_4 : w1.cell? ⟨w.heap.size, 4, none⟩ = some (.slice ao af.length ac) := R.at_box hx1 rfl
        have p1_5 : w1.cell? ⟨w.heap.size, 5, none⟩ = some (.int .i64 cu) := R.at_box hx1 rfl
        clear d1 b1 k1 hx1
        go_wp2_with fail
        refine (tword_any B b _ [123] _ HD1.out (by have := HL.out; (try simp only [List.length_append, List.length_cons, List.length_nil]); omega)).mono ?_
        rintro e w2 ⟨rfl, d2, b2, k2⟩
        have HD2 : Hid (T.Bd B b ((t ++ tb) ++ ([123] ++ [32])) w2) := d2
        have HB2 : Hid (Below B W w2) := HB1.out.trans b2
        have HK2 : Hid (Lib.OthersKept 5 (some b) W w2) := HK1.out.trans k2
        have HE2 : Hid (R.Env w0 B w2) := HE1.out.next b2
        have hx2 := HK2.out _ _ HXW.out HNe.out (fun c fz h => by cases h)
        have p2_0 : w2.cell? ⟨w.heap.size, 0, none⟩ = some (.bool false) := R.at_box hx2 rfl
        have p2_1 : w2.cell? ⟨w.heap.size, 1, none⟩ = some (.bool true) := R.at_box hx2 rfl
        have p2_2 : w2.cell? ⟨w.heap.size, 2, none⟩ = some (.slice bo be.length bc) := R.at_box hx2 rfl
        have p2_3 : w2.cell? ⟨w.heap.size, 3, none⟩ = some (.slice so sr.length sc) := R.at_box hx2 rfl
        have p2_4 : w2.cell? ⟨w.heap.size, 4, none⟩ = some (.slice ao af.length ac) := R.at_box hx2 rfl
        have p2_5 : w2.cell? ⟨w.heap.size, 5, none⟩ = some (.int .i64 cu) := R.at_box hx2 rfl
        clear d2 b2 k2 hx2 p1_0 p1_1 p1_2 p1_3 p1_4 p1_5 HE1
        go_wp2_with fail
        refine (HIs.out _ _ HE2.out HD2.out (by have := HL.out; (try simp only [List.length_append, List.length_cons, List.length_nil]); omega)).mono ?_
        rintro e w3 ⟨rfl, d3, b3, k3⟩
        have HD3 : Hid (T.Bd B b (((t ++ tb) ++ ([123] ++ [32])) ++ ts) w3) := d3
        have HB3 : Hid (Below B W w3) := HB2.out.trans b3
        have HK3 : Hid (Lib.OthersKept 5 (some b) W w3) := HK2.out.trans k3
        have HE3 : Hid (R.Env w0 B w3) := HE2.out.next b3
        have hx3 := HK3.out _ _ HXW.out HNe.out (fun c fz h => by cases h)
        have p3_0 : w3.cell? ⟨w.heap.size, 0, none⟩ = some (.bool false) := R.at_box hx3 rfl
        have p3_1 : w3.cell? ⟨w.heap.size, 1, none⟩ = some (.bool true) := R.at_box hx3 rfl
        have p3_2 : w3.cell? ⟨w.heap.size, 2, none⟩ = some (.slice bo be.length bc) := R.at_box hx3 rfl
        have p3_3 : w3.cell? ⟨w.heap.size, 3, none⟩ = some (.slice so sr.length sc) := R.at_box hx3 rfl
        have p3_4 : w3.cell? ⟨w.heap.size, 4, none⟩ = some (.slice ao af.length ac) := R.at_box hx3 rfl
        have p3_5 : w3.cell? ⟨w.heap.size, 5, none⟩ = some (.int .i64 cu) := R.at_box hx3 rfl
        clear d3 b3 k3 hx3 p2_0 p2_1 p2_2 p2_3 p2_4 p2_5 HE2
        go_wp2_with fail
        refine (tword_any B b _ [125] _ HD3.out (by have := HL.out; (try simp only [List.length_append, List.length_cons, List.length_nil]); omega)).mono ?_
        rintro e w4 ⟨rfl, d4, b4, k4⟩
        have HD4 : Hid (T.Bd B b ((((t ++ tb) ++ ([123] ++ [32])) ++ ts) ++ ([125] ++ [32])) w4) := d4
        have HB4 : Hid (Below B W w4) := HB3.out.trans b4
        have HK4 : Hid (Lib.OthersKept 5 (some b) W w4) := HK3.out.trans k4
        have HE4 : Hid (R.Env w0 B w4) := HE3.out.next b4
        have hx4 := HK4.out _ _ HXW.out HNe.out (fun c fz h => by cases h)
        have p4_0 : w4.cell? ⟨w.heap.size, 0, none⟩ = some (.bool false) := R.at_box hx4 rfl
        have p4_1 : w4.cell? ⟨w.heap.size, 1, none⟩ = some (.bool true) := R.at_box hx4 rfl
        have p4_2 : w4.cell? ⟨w.heap.size, 2, none⟩ = some (.slice bo be.length bc) := R.at_box hx4 rfl
        have p4_3 : w4.cell? ⟨w.heap.size, 3, none⟩ = some (.slice so sr.length sc) := R.at_box hx4 rfl
        have p4_4 : w4.cell? ⟨w.heap.size, 4, none⟩ = some (.slice ao af.length ac) := R.at_box hx4 rfl
        have p4_5 : w4.cell? ⟨w.heap.size, 5, none⟩ = some (.int .i64 cu) := R.at_box hx4 rfl
        clear d4 b4 k4 hx4 p3_0 p3_1 p3_2 p3_3 p3_4 p3_5 HE3
        go_wp2_with fail
        refine (HIa.out _ _ HE4.out HD4.out (by have := HL.out; (try simp only [List.length_append, List.length_cons, List.length_nil]); omega)).mono ?_
        rintro e w5 ⟨rfl, d5, b5, k5⟩
        have HD5 : Hid (T.Bd B b (((((t ++ tb) ++ ([123] ++ [32])) ++ ts) ++ ([125] ++ [32])) ++ ta) w5) := d5
        have HB5 : Hid (Below B W w5) := HB4.out.trans b5
        have HK5 : Hid (Lib.OthersKept 5 (some b) W w5) := HK4.out.trans k5
        have HE5 : Hid (R.Env w0 B w5) := HE4.out.next b5
        have hx5 := HK5.out _ _ HXW.out HNe.out (fun c fz h => by cases h)
        have p5_0 : w5.cell? ⟨w.heap.size, 0, none⟩ = some (.bool false) := R.at_box hx5 rfl
        have p5_1 : w5.cell? ⟨w.heap.size, 1, none⟩ = some (.bool true) := R.at_box hx5 rfl
        have p5_2 : w5.cell? ⟨w.heap.size, 2, none⟩ = some (.slice bo be.length bc) := R.at_box hx5 rfl
        have p5_3 : w5.cell? ⟨w.heap.size, 3, none⟩ = some (.slice so sr.length sc) := R.at_box hx5 rfl
        have p5_4 : w5.cell? ⟨w.heap.size, 4, none⟩ = some (.slice ao af.length ac) := R.at_box hx5 rfl
        have p5_5 : w5.cell? ⟨w.heap.size, 5, none⟩ = some (.int .i64 cu) := R.at_box hx5 rfl
        clear d5 b5 k5 hx5 p4_0 p4_1 p4_2 p4_3 p4_4 p4_5 HE4
        go_wp2_with fail
        refine (tword_any B b _ [36] _ HD5.out (by have := HL.out; (try simp only [List.length_append, List.length_cons, List.length_nil]); omega)).mono ?_
        rintro e w6 ⟨rfl, d6, b6, k6⟩
        have HD6 : Hid (T.Bd B b ((((((t ++ tb) ++ ([123] ++ [32])) ++ ts) ++ ([125] ++ [32])) ++ ta) ++ ([36] ++ [32])) w6) := d6
        have HB6 : Hid (Below B W w6) := HB5.out.trans b6
        have HK6 : Hid (Lib.OthersKept 5 (some b) W w6) := HK5.out.trans k6
        have HE6 : Hid (R.Env w0 B w6) := HE5.out.next b6
        have hx6 := HK6.out _ _ HXW.out HNe.out (fun c fz h => by cases h)
        have p6_0 : w6.cell? ⟨w.heap.size, 0, none⟩ = some (.bool false) := R.at_box hx6 rfl
        have p6_1 : w6.cell? ⟨w.heap.size, 1, none⟩ = some (.bool true) := R.at_box hx6 rfl
        have p6_2 : w6.cell? ⟨w.heap.size, 2, none⟩ = some (.slice bo be.length bc) := R.at_box hx6 rfl
        have p6_3 : w6.cell? ⟨w.heap.size, 3, none⟩ = some (.slice so sr.length sc) := R.at_box hx6 rfl
        have p6_4 : w6.cell? ⟨w.heap.size, 4, none⟩ = some (.slice ao af.length ac) := R.at_box hx6 rfl
        have p6_5 : w6.cell? ⟨w.heap.size, 5, none⟩ = some (.int .i64 cu) := R.at_box hx6 rfl
        clear d6 b6 k6 hx6 p5_0 p5_1 p5_2 p5_3 p5_4 p5_5 HE5
        go_wp2
        go_end0
        refine ⟨rfl, ?_, (HBW.out.mono HBN.out).trans HB6.out, (kept_below HBW.out).trans HK6.out⟩
        have h := HD6.out
        simp only [List.append_assoc, List.cons_append, List.nil_append] at h
        simpa [List.append_assoc] using h
      | false =>
        by_cases ha : 0 < af.length
        · have ha2 : (0 : Int) < (af.length : Int) := by omega
          rw [if_pos (c := _ ∨ 0 < af.length) (Or.inr ha)] at HLen
          rw [if_pos (c := _ ∨ 0 < af.length) (Or.inr ha)]
          have HL : Hid (t.length + tb.length + 2 + ts.length + 2 + ta.length ≤ 1000000000) := by
            have h := HLen.out
            simp at h
            show _ ≤ _
            omega
          go_enter Tryz.func32, Tryz.ntmps32
          go_wp2_with fail
          have HBW : Hid (Below w.heap.size w (w.alloc (.cells #[.bool false, .bool false, .slice bo be.length bc, .slice so sr.length sc, .slice ao af.length ac, .int .i64 cu] 45))) := HA.out _
          have HXW : Hid ((w.alloc (.cells #[.bool false, .bool false, .slice bo be.length bc, .slice so sr.length sc, .slice ao af.length ac, .int .i64 cu] 45)).heap[w.heap.size]? = some (.cells #[.bool false, .bool false, .slice bo be.length bc, .slice so sr.length sc, .slice ao af.length ac, .int .i64 cu] 45)) := heap_alloc_new w _
          have HD0 : Hid (T.Bd B b t (w.alloc (.cells #[.bool false, .bool false, .slice bo be.length bc, .slice so sr.length sc, .slice ao af.length ac, .int .i64 cu] 45))) := HBd.out.below HBW.out
          have HE0 : Hid (R.Env w0 B (w.alloc (.cells #[.bool false, .bool false, .slice bo be.length bc, .slice so sr.length sc, .slice ao af.length ac, .int .i64 cu] 45))) := HE.out.after HBW.out
          refine (HIb.out _ _ HE0.out HD0.out (by have := HL.out; (try simp only [List.length_append, List.length_cons, List.length_nil]); omega)).mono ?_
          generalize w.alloc (.cells #[.bool false, .bool false, .slice bo be.length bc, .slice so sr.length sc, .slice ao af.length ac, .int .i64 cu] 45) = W at HBW HXW HD0 HE0
          rintro e w1 ⟨rfl, d1, b1, k1⟩
          have HD1 : Hid (T.Bd B b (t ++ tb) w1) := d1
          have HB1 : Hid (Below B W w1) := b1
          have HK1 : Hid (Lib.OthersKept 5 (some b) W w1) := k1
          have HE1 : Hid (R.Env w0 B w1) := HE0.out.next b1
          have hx1 := HK1.out _ _ HXW.out HNe.out (fun c fz h => by cases h)
          have p1_0 : w1.cell? ⟨w.heap.size, 0, none⟩ = some (.bool false) := R.at_box hx1 rfl
          have p1_1 : w1.cell? ⟨w.heap.size, 1, none⟩ = some (.bool false) := R.at_box hx1 rfl
          have p1_2 : w1.cell? ⟨w.heap.size, 2, none⟩ = some (.slice bo be.length bc) := R.at_box hx1 rfl
          have p1_3 : w1.cell? ⟨w.heap.size, 3, none⟩ = some (.slice so sr.length sc) := R.at_box hx1 rfl
          have p1_4 : w1.cell? ⟨w.heap.size, 4, none⟩ = some (.slice ao af.length ac) := R.at_box hx1 rfl
          have p1_5 : w1.cell? ⟨w.heap.size, 5, none⟩ = some (.int .i64 cu) := R.at_box hx1 rfl
          clear d1 b1 k1 hx1
          go_wp2_with fail
          refine (tword_any B b _ [123] _ HD1.out (by have := HL.out; (try simp only [List.length_append, List.length_cons, List.length_nil]); omega)).mono ?_
          rintro e w2 ⟨rfl, d2, b2, k2⟩
          have HD2 : Hid (T.Bd B b ((t ++ tb) ++ ([123] ++ [32])) w2) := d2
          have HB2 : Hid (Below B W w2) := HB1.out.trans b2
          have HK2 : Hid (Lib.OthersKept 5 (some b) W w2) := HK1.out.trans k2
          have HE2 : Hid (R.Env w0 B w2) := HE1.out.next b2
          have hx2 := HK2.out _ _ HXW.out HNe.out (fun c fz h => by cases h)
          have p2_0 : w2.cell? ⟨w.heap.size, 0, none⟩ = some (.bool false) := R.at_box hx2 rfl
          have p2_1 : w2.cell? ⟨w.heap.size, 1, none⟩ = some (.bool false) := R.at_box hx2 rfl
          have p2_2 : w2.cell? ⟨w.heap.size, 2, none⟩ = some (.slice bo be.length bc) := R.at_box hx2 rfl
          have p2_3 : w2.cell? ⟨w.heap.size, 3, none⟩ = some (.slice so sr.length sc) := R.at_box hx2 rfl
          have p2_4 : w2.cell? ⟨w.heap.size, 4, none⟩ = some (.slice ao af.length ac) := R.at_box hx2 rfl
          have p2_5 : w2.cell? ⟨w.heap.size, 5, none⟩ = some (.int .i64 cu) := R.at_box hx2 rfl
          clear d2 b2 k2 hx2 p1_0 p1_1 p1_2 p1_3 p1_4 p1_5 HE1
          go_wp2_with fail
          refine (HIs.out _ _ HE2.out HD2.out (by have := HL.out; (try simp only [List.length_append, List.length_cons, List.length_nil]); omega)).mono ?_
          rintro e w3 ⟨rfl, d3, b3, k3⟩
          have HD3 : Hid (T.Bd B b (((t ++ tb) ++ ([123] ++ [32])) ++ ts) w3) := d3
          have HB3 : Hid (Below B W w3) := HB2.out.trans b3
          have HK3 : Hid (Lib.OthersKept 5 (some b) W w3) := HK2.out.trans k3
          have HE3 : Hid (R.Env w0 B w3) := HE2.out.next b3
          have hx3 := HK3.out _ _ HXW.out HNe.out (fun c fz h => by cases h)
          have p3_0 : w3.cell? ⟨w.heap.size, 0, none⟩ = some (.bool false) := R.at_box hx3 rfl
          have p3_1 : w3.cell? ⟨w.heap.size, 1, none⟩ = some (.bool false) := R.at_box hx3 rfl
          have p3_2 : w3.cell? ⟨w.heap.size, 2, none⟩ = some (.slice bo be.length bc) := R.at_box hx3 rfl
          have p3_3 : w3.cell? ⟨w.heap.size, 3, none⟩ = some (.slice so sr.length sc) := R.at_box hx3 rfl
          have p3_4 : w3.cell? ⟨w.heap.size, 4, none⟩ = some (.slice ao af.length ac) := R.at_box hx3 rfl
          have p3_5 : w3.cell? ⟨w.heap.size, 5, none⟩ = some (.int .i64 cu) := R.at_box hx3 rfl
          clear d3 b3 k3 hx3 p2_0 p2_1 p2_2 p2_3 p2_4 p2_5 HE2
          go_wp2_with fail
          refine (tword_any B b _ [125] _ HD3.out (by have := HL.out; (try simp only [List.length_append, List.length_cons, List.length_nil]); omega)).mono ?_
          rintro e w4 ⟨rfl, d4, b4, k4⟩
          have HD4 : Hid (T.Bd B b ((((t ++ tb) ++ ([123] ++ [32])) ++ ts) ++ ([125] ++ [32])) w4) := d4
          have HB4 : Hid (Below B W w4) := HB3.out.trans b4
          have HK4 : Hid (Lib.OthersKept 5 (some b) W w4) := HK3.out.trans k4
          have HE4 : Hid (R.Env w0 B w4) := HE3.out.next b4
          have hx4 := HK4.out _ _ HXW.out HNe.out (fun c fz h => by cases h)
          have p4_0 : w4.cell? ⟨w.heap.size, 0, none⟩ = some (.bool false) := R.at_box hx4 rfl
          have p4_1 : w4.cell? ⟨w.heap.size, 1, none⟩ = some (.bool false) := R.at_box hx4 rfl
          have p4_2 : w4.cell? ⟨w.heap.size, 2, none⟩ = some (.slice bo be.length bc) := R.at_box hx4 rfl
          have p4_3 : w4.cell? ⟨w.heap.size, 3, none⟩ = some (.slice so sr.length sc) := R.at_box hx4 rfl
          have p4_4 : w4.cell? ⟨w.heap.size, 4, none⟩ = some (.slice ao af.length ac) := R.at_box hx4 rfl
          have p4_5 : w4.cell? ⟨w.heap.size, 5, none⟩ = some (.int .i64 cu) := R.at_box hx4 rfl
          clear d4 b4 k4 hx4 p3_0 p3_1 p3_2 p3_3 p3_4 p3_5 HE3
          go_wp2_with fail
          refine (HIa.out _ _ HE4.out HD4.out (by have := HL.out; (try simp only [List.length_append, List.length_cons, List.length_nil]); omega)).mono ?_
          rintro e w5 ⟨rfl, d5, b5, k5⟩
          have HD5 : Hid (T.Bd B b (((((t ++ tb) ++ ([123] ++ [32])) ++ ts) ++ ([125] ++ [32])) ++ ta) w5) := d5
          have HB5 : Hid (Below B W w5) := HB4.out.trans b5
          have HK5 : Hid (Lib.OthersKept 5 (some b) W w5) := HK4.out.trans k5
          have HE5 : Hid (R.Env w0 B w5) := HE4.out.next b5
          have hx5 := HK5.out _ _ HXW.out HNe.out (fun c fz h => by cases h)
          have p5_0 : w5.cell? ⟨w.heap.size, 0, none⟩ = some (.bool false) := R.at_box hx5 rfl
          have p5_1 : w5.cell? ⟨w.heap.size, 1, none⟩ = some (.bool false) := R.at_box hx5 rfl
          have p5_2 : w5.cell? ⟨w.heap.size, 2, none⟩ = some (.slice bo be.length bc) := R.at_box hx5 rfl
          have p5_3 : w5.cell? ⟨w.heap.size, 3, none⟩ = some (.slice so sr.length sc) := R.at_box hx5 rfl
          have p5_4 : w5.cell? ⟨w.heap.size, 4, none⟩ = some (.slice ao af.length ac) := R.at_box hx5 rfl
          have p5_5 : w5.cell? ⟨w.heap.size, 5, none⟩ = some (.int .i64 cu) := R.at_box hx5 rfl
          clear d5 b5 k5 hx5 p4_0 p4_1 p4_2 p4_3 p4_4 p4_5 HE4
          go_wp2
          go_end0
          refine ⟨rfl, ?_, (HBW.out.mono HBN.out).trans HB5.out, (kept_below HBW.out).trans HK5.out⟩
          have h := HD5.out
          simp only [List.append_assoc, List.cons_append, List.nil_append] at h
          simpa [List.append_assoc] using h
        · have ha2 : ¬ (0 : Int) < (af.length : Int) := by omega
          rw [if_neg (c := _ ∨ 0 < af.length) (by rintro (h | h); cases h; omega)] at HLen
          rw [if_neg (c := _ ∨ 0 < af.length) (by rintro (h | h); cases h; omega)]
          have HL : Hid (t.length + tb.length + 2 + ts.length + ta.length ≤ 1000000000) := by
            have h := HLen.out
            simp at h
            show _ ≤ _
            omega
          go_enter Tryz.func32, Tryz.ntmps32
          go_wp2_with fail
          have HBW : Hid (Below w.heap.size w (w.alloc (.cells #[.bool false, .bool false, .slice bo be.length bc, .slice so sr.length sc, .slice ao af.length ac, .int .i64 cu] 45))) := HA.out _
          have HXW : Hid ((w.alloc (.cells #[.bool false, .bool false, .slice bo be.length bc, .slice so sr.length sc, .slice ao af.length ac, .int .i64 cu] 45)).heap[w.heap.size]? = some (.cells #[.bool false, .bool false, .slice bo be.length bc, .slice so sr.length sc, .slice ao af.length ac, .int .i64 cu] 45)) := heap_alloc_new w _
          have HD0 : Hid (T.Bd B b t (w.alloc (.cells #[.bool false, .bool false, .slice bo be.length bc, .slice so sr.length sc, .slice ao af.length ac, .int .i64 cu] 45))) := HBd.out.below HBW.out
          have HE0 : Hid (R.Env w0 B (w.alloc (.cells #[.bool false, .bool false, .slice bo be.length bc, .slice so sr.length sc, .slice ao af.length ac, .int .i64 cu] 45))) := HE.out.after HBW.out
          refine (HIb.out _ _ HE0.out HD0.out (by have := HL.out; (try simp only [List.length_append, List.length_cons, List.length_nil]); omega)).mono ?_
          generalize w.alloc (.cells #[.bool false, .bool false, .slice bo be.length bc, .slice so sr.length sc, .slice ao af.length ac, .int .i64 cu] 45) = W at HBW HXW HD0 HE0
          rintro e w1 ⟨rfl, d1, b1, k1⟩
          have HD1 : Hid (T.Bd B b (t ++ tb) w1) := d1
          have HB1 : Hid (Below B W w1) := b1
          have HK1 : Hid (Lib.OthersKept 5 (some b) W w1) := k1
          have HE1 : Hid (R.Env w0 B w1) := HE0.out.next b1
          have hx1 := HK1.out _ _ HXW.out HNe.out (fun c fz h => by cases h)
          have p1_0 : w1.cell? ⟨w.heap.size, 0, none⟩ = some (.bool false) := R.at_box hx1 rfl
          have p1_1 : w1.cell? ⟨w.heap.size, 1, none⟩ = some (.bool false) := R.at_box hx1 rfl
          have p1_2 : w1.cell? ⟨w.heap.size, 2, none⟩ = some (.slice bo be.length bc) := R.at_box hx1 rfl
          have p1_3 : w1.cell? ⟨w.heap.size, 3, none⟩ = some (.slice so sr.length sc) := R.at_box hx1 rfl
          have p1_4 : w1.cell? ⟨w.heap.size, 4, none⟩ = some (.slice ao af.length ac) := R.at_box hx1 rfl
          have p1_5 : w1.cell? ⟨w.heap.size, 5, none⟩ = some (.int .i64 cu) := R.at_box hx1 rfl
          clear d1 b1 k1 hx1
          go_wp2_with fail
          refine (tword_any B b _ [123] _ HD1.out (by have := HL.out; (try simp only [List.length_append, List.length_cons, List.length_nil]); omega)).mono ?_
          rintro e w2 ⟨rfl, d2, b2, k2⟩
          have HD2 : Hid (T.Bd B b ((t ++ tb) ++ ([123] ++ [32])) w2) := d2
          have HB2 : Hid (Below B W w2) := HB1.out.trans b2
          have HK2 : Hid (Lib.OthersKept 5 (some b) W w2) := HK1.out.trans k2
          have HE2 : Hid (R.Env w0 B w2) := HE1.out.next b2
          have hx2 := HK2.out _ _ HXW.out HNe.out (fun c fz h => by cases h)
          have p2_0 : w2.cell? ⟨w.heap.size, 0, none⟩ = some (.bool false) := R.at_box hx2 rfl
          have p2_1 : w2.cell? ⟨w.heap.size, 1, none⟩ = some (.bool false) := R.at_box hx2 rfl
          have p2_2 : w2.cell? ⟨w.heap.size, 2, none⟩ = some (.slice bo be.length bc) := R.at_box hx2 rfl
          have p2_3 : w2.cell? ⟨w.heap.size, 3, none⟩ = some (.slice so sr.length sc) := R.at_box hx2 rfl
          have p2_4 : w2.cell? ⟨w.heap.size, 4, none⟩ = some (.slice ao af.length ac) := R.at_box hx2 rfl
          have p2_5 : w2.cell? ⟨w.heap.size, 5, none⟩ = some (.int .i64 cu) := R.at_box hx2 rfl
          clear d2 b2 k2 hx2 p1_0 p1_1 p1_2 p1_3 p1_4 p1_5 HE1
          go_wp2_with fail
          refine (HIs.out _ _ HE2.out HD2.out (by have := HL.out; (try simp only [List.length_append, List.length_cons, List.length_nil]); omega)).mono ?_
          rintro e w3 ⟨rfl, d3, b3, k3⟩
          have HD3 : Hid (T.Bd B b (((t ++ tb) ++ ([123] ++ [32])) ++ ts) w3) := d3
          have HB3 : Hid (Below B W w3) := HB2.out.trans b3
          have HK3 : Hid (Lib.OthersKept 5 (some b) W w3) := HK2.out.trans k3
          have HE3 : Hid (R.Env w0 B w3) := HE2.out.next b3
          have hx3 := HK3.out _ _ HXW.out HNe.out (fun c fz h => by cases h)
          have p3_0 : w3.cell? ⟨w.heap.size, 0, none⟩ = some (.bool false) := R.at_box hx3 rfl
          have p3_1 : w3.cell? ⟨w.heap.size, 1, none⟩ = some (.bool false) := R.at_box hx3 rfl
          have p3_2 : w3.cell? ⟨w.heap.size, 2, none⟩ = some (.slice bo be.length bc) := R.at_box hx3 rfl
          have p3_3 : w3.cell? ⟨w.heap.size, 3, none⟩ = some (.slice so sr.length sc) := R.at_box hx3 rfl
          have p3_4 : w3.cell? ⟨w.heap.size, 4, none⟩ = some (.slice ao af.length ac) := R.at_box hx3 rfl
          have p3_5 : w3.cell? ⟨w.heap.size, 5, none⟩ = some (.int .i64 cu) := R.at_box hx3 rfl
          clear d3 b3 k3 hx3 p2_0 p2_1 p2_2 p2_3 p2_4 p2_5 HE2
          go_wp2_with fail
          refine (HIa.out _ _ HE3.out HD3.out (by have := HL.out; (try simp only [List.length_append, List.length_cons, List.length_nil]); omega)).mono ?_
          rintro e w4 ⟨rfl, d4, b4, k4⟩
          have HD4 : Hid (T.Bd B b ((((t ++ tb) ++ ([123] ++ [32])) ++ ts) ++ ta) w4) := d4
          have HB4 : Hid (Below B W w4) := HB3.out.trans b4
          have HK4 : Hid (Lib.OthersKept 5 (some b) W w4) := HK3.out.trans k4
          have HE4 : Hid (R.Env w0 B w4) := HE3.out.next b4
          have hx4 := HK4.out _ _ HXW.out HNe.out (fun c fz h => by cases h)
          have p4_0 : w4.cell? ⟨w.heap.size, 0, none⟩ = some (.bool false) := R.at_box hx4 rfl
          have p4_1 : w4.cell? ⟨w.heap.size, 1, none⟩ = some (.bool false) := R.at_box hx4 rfl
          have p4_2 : w4.cell? ⟨w.heap.size, 2, none⟩ = some (.slice bo be.length bc) := R.at_box hx4 rfl
          have p4_3 : w4.cell? ⟨w.heap.size, 3, none⟩ = some (.slice so sr.length sc) := R.at_box hx4 rfl
          have p4_4 : w4.cell? ⟨w.heap.size, 4, none⟩ = some (.slice ao af.length ac) := R.at_box hx4 rfl
          have p4_5 : w4.cell? ⟨w.heap.size, 5, none⟩ = some (.int .i64 cu) := R.at_box hx4 rfl
          clear d4 b4 k4 hx4 p3_0 p3_1 p3_2 p3_3 p3_4 p3_5 HE3
          go_wp2
          go_end0
          refine ⟨rfl, ?_, (HBW.out.mono HBN.out).trans HB4.out, (kept_below HBW.out).trans HK4.out⟩
          have h := HD4.out
          simp only [List.append_assoc, List.cons_append, List.nil_append] at h
          simpa [List.append_assoc] using h
    · have hbe2 : ¬ (0 : Int) < (be.length : Int) := by omega
      rw [if_neg (c := _ ∨ 0 < be.length) (by rintro (h | h); cases h; omega)] at HLen
      rw [if_neg (c := _ ∨ 0 < be.length) (by rintro (h | h); cases h; omega)]
      cases fi with
      | true =>
        have HL : Hid (t.length + tb.length + ts.length + 2 + ta.length + 2 ≤ 1000000000) := by
          have h := HLen.out
          simp at h
          show _ ≤ _
          omega
        go_enter Tryz.func32, Tryz.ntmps32
        go_wp2_with fail
        have HBW : Hid (Below w.heap.size w (w.alloc (.cells #[.bool false, .bool true, .slice bo be.length bc, .slice so sr.length sc, .slice ao af.length ac, .int .i64 cu] 45))) := HA.out _
        have HXW : Hid ((w.alloc (.cells #[.bool false, .bool true, .slice bo be.length bc, .slice so sr.length sc, .slice ao af.length ac, .int .i64 cu] 45)).heap[w.heap.size]? = some (.cells #[.bool false, .bool true, .slice bo be.length bc, .slice so sr.length sc, .slice ao af.length ac, .int .i64 cu] 45)) := heap_alloc_new w _
        have HD0 : Hid (T.Bd B b t (w.alloc (.cells #[.bool false, .bool true, .slice bo be.length bc, .slice so sr.length sc, .slice ao af.length ac, .int .i64 cu] 45))) := HBd.out.below HBW.out
        have HE0 : Hid (R.Env w0 B (w.alloc (.cells #[.bool false, .bool true, .slice bo be.length bc, .slice so sr.length sc, .slice ao af.length ac, .int .i64 cu] 45))) := HE.out.after HBW.out
        refine (HIb.out _ _ HE0.out HD0.out (by have := HL.out; (try simp only [List.length_append, List.length_cons, List.length_nil]); omega)).mono ?_
        generalize w.alloc (.cells #[.bool false, .bool true, .slice bo be.length bc, .slice so sr.length sc, .slice ao af.length ac, .int .i64 cu] 45) = W at HBW HXW HD0 HE0
        rintro e w1 ⟨rfl, d1, b1, k1⟩
        have HD1 : Hid (T.Bd B b (t ++ tb) w1) := d1
        have HB1 : Hid (Below B W w1) := b1
        have HK1 : Hid (Lib.OthersKept 5 (some b) W w1) := k1
        have HE1 : Hid (R.Env w0 B w1) := HE0.out.next b1
        have hx1 := HK1.out _ _ HXW.out HNe.out (fun c fz h => by cases h)
        have p1_0 : w1.cell? ⟨w.heap.size, 0, none⟩ = some (.bool false) := R.at_box hx1 rfl
        have p1_1 : w1.cell? ⟨w.heap.size, 1, none⟩ = some (.bool true) := R.at_box hx1 rfl
        have p1_2 : w1.cell? ⟨w.heap.size, 2, none⟩ = some (.slice bo be.length bc) := R.at_box hx1 rfl
        have p1_3 : w1.cell? ⟨w.heap.size, 3, none⟩ = some (.slice so sr.length sc) := R.at_box hx1 rfl
        have p1_4 : w1.cell? ⟨w.heap.size, 4, none⟩ = some (.slice ao af.length ac) := R.at_box hx1 rfl
        have p1_5 : w1.cell? ⟨w.heap.size, 5, none⟩ = some (.int .i64 cu) := R.at_box hx1 rfl
        clear d1 b1 k1 hx1
        go_wp2_with fail
        refine (HIs.out _ _ HE1.out HD1.out (by have := HL.out; (try simp only [List.length_append, List.length_cons, List.length_nil]); omega)).mono ?_
        rintro e w2 ⟨rfl, d2, b2, k2⟩
        have HD2 : Hid (T.Bd B b ((t ++ tb) ++ ts) w2) := d2
        have HB2 : Hid (Below B W w2) := HB1.out.trans b2
        have HK2 : Hid (Lib.OthersKept 5 (some b) W w2) := HK1.out.trans k2
        have HE2 : Hid (R.Env w0 B w2) := HE1.out.next b2
        have hx2 := HK2.out _ _ HXW.out HNe.out (fun c fz h => by cases h)
        have p2_0 : w2.cell? ⟨w.heap.size, 0, none⟩ = some (.bool false) := R.at_box hx2 rfl
        have p2_1 : w2.cell? ⟨w.heap.size, 1, none⟩ = some (.bool true) := R.at_box hx2 rfl
        have p2_2 : w2.cell? ⟨w.heap.size, 2, none⟩ = some (.slice bo be.length bc) := R.at_box hx2 rfl
        have p2_3 : w2.cell? ⟨w.heap.size, 3, none⟩ = some (.slice so sr.length sc) := R.at_box hx2 rfl
        have p2_4 : w2.cell? ⟨w.heap.size, 4, none⟩ = some (.slice ao af.length ac) := R.at_box hx2 rfl
        have p2_5 : w2.cell? ⟨w.heap.size, 5, none⟩ = some (.int .i64 cu) := R.at_box hx2 rfl
        clear d2 b2 k2 hx2 p1_0 p1_1 p1_2 p1_3 p1_4 p1_5 HE1
        go_wp2_with fail
        refine (tword_any B b _ [125] _ HD2.out (by have := HL.out; (try simp only [List.length_append, List.length_cons, List.length_nil]); omega)).mono ?_
        rintro e w3 ⟨rfl, d3, b3, k3⟩
        have HD3 : Hid (T.Bd B b (((t ++ tb) ++ ts) ++ ([125] ++ [32])) w3) := d3
        have HB3 : Hid (Below B W w3) := HB2.out.trans b3
        have HK3 : Hid (Lib.OthersKept 5 (some b) W w3) := HK2.out.trans k3
        have HE3 : Hid (R.Env w0 B w3) := HE2.out.next b3
        have hx3 := HK3.out _ _ HXW.out HNe.out (fun c fz h => by cases h)
        have p3_0 : w3.cell? ⟨w.heap.size, 0, none⟩ = some (.bool false) := R.at_box hx3 rfl
        have p3_1 : w3.cell? ⟨w.heap.size, 1, none⟩ = some (.bool true) := R.at_box hx3 rfl
        have p3_2 : w3.cell? ⟨w.heap.size, 2, none⟩ = some (.slice bo be.length bc) := R.at_box hx3 rfl
        have p3_3 : w3.cell? ⟨w.heap.size, 3, none⟩ = some (.slice so sr.length sc) := R.at_box hx3 rfl
        have p3_4 : w3.cell? ⟨w.heap.size, 4, none⟩ = some (.slice ao af.length ac) := R.at_box hx3 rfl
        have p3_5 : w3.cell? ⟨w.heap.size, 5, none⟩ = some (.int .i64 cu) := R.at_box hx3 rfl
        clear d3 b3 k3 hx3 p2_0 p2_1 p2_2 p2_3 p2_4 p2_5 HE2
        go_wp2_with fail
        refine (HIa.out _ _ HE3.out HD3.out (by have := HL.out; (try simp only [List.length_append, List.length_cons, List.length_nil]); omega)).mono ?_
        rintro e w4 ⟨rfl, d4, b4, k4⟩
        have HD4 : Hid (T.Bd B b ((((t ++ tb) ++ ts) ++ ([125] ++ [32])) ++ ta) w4) := d4
        have HB4 : Hid (Below B W w4) := HB3.out.trans b4
        have HK4 : Hid (Lib.OthersKept 5 (some b) W w4) := HK3.out.trans k4
        have HE4 : Hid (R.Env w0 B w4) := HE3.out.next b4
        have hx4 := HK4.out _ _ HXW.out HNe.out (fun c fz h => by cases h)
        have p4_0 : w4.cell? ⟨w.heap.size, 0, none⟩ = some (.bool false) := R.at_box hx4 rfl
        have p4_1 : w4.cell? ⟨w.heap.size, 1, none⟩ = some (.bool true) := R.at_box hx4 rfl
        have p4_2 : w4.cell? ⟨w.heap.size, 2, none⟩ = some (.slice bo be.length bc) := R.at_box hx4 rfl
        have p4_3 : w4.cell? ⟨w.heap.size, 3, none⟩ = some (.slice so sr.length sc) := R.at_box hx4 rfl
        have p4_4 : w4.cell? ⟨w.heap.size, 4, none⟩ = some (.slice ao af.length ac) := R.at_box hx4 rfl
        have p4_5 : w4.cell? ⟨w.heap.size, 5, none⟩ = some (.int .i64 cu) := R.at_box hx4 rfl
        clear d4 b4 k4 hx4 p3_0 p3_1 p3_2 p3_3 p3_4 p3_5 HE3
        go_wp2_with fail
        refine (tword_any B b _ [36] _ HD4.out (by have := HL.out; (try simp only [List.length_append, List.length_cons, List.length_nil]); omega)).mono ?_
        rintro e w5 ⟨rfl, d5, b5, k5⟩
        have HD5 : Hid (T.Bd B b (((((t ++ tb) ++ ts) ++ ([125] ++ [32])) ++ ta) ++ ([36] ++ [32])) w5) := d5
        have HB5 : Hid (Below B W w5) := HB4.out.trans b5
        have HK5 : Hid (Lib.OthersKept 5 (some b) W w5) := HK4.out.trans k5
        have HE5 : Hid (R.Env w0 B w5) := HE4.out.next b5
        have hx5 := HK5.out _ _ HXW.out HNe.out (fun c fz h => by cases h)
        have p5_0 : w5.cell? ⟨w.heap.size, 0, none⟩ = some (.bool false) := R.at_box hx5 rfl
        have p5_1 : w5.cell? ⟨w.heap.size, 1, none⟩ = some (.bool true) := R.at_box hx5 rfl
        have p5_2 : w5.cell? ⟨w.heap.size, 2, none⟩ = some (.slice bo be.length bc) := R.at_box hx5 rfl
        have p5_3 : w5.cell? ⟨w.heap.size, 3, none⟩ = some (.slice so sr.length sc) := R.at_box hx5 rfl
        have p5_4 : w5.cell? ⟨w.heap.size, 4, none⟩ = some (.slice ao af.length ac) := R.at_box hx5 rfl
        have p5_5 : w5.cell? ⟨w.heap.size, 5, none⟩ = some (.int .i64 cu) := R.at_box hx5 rfl
        clear d5 b5 k5 hx5 p4_0 p4_1 p4_2 p4_3 p4_4 p4_5 HE4
        go_wp2
        go_end0
        refine ⟨rfl, ?_, (HBW.out.mono HBN.out).trans HB5.out, (kept_below HBW.out).trans HK5.out⟩
        have h := HD5.out
        simp only [List.append_assoc, List.cons_append, List.nil_append] at h
        simpa [List.append_assoc] using h
      | false =>
        by_cases ha : 0 < af.length
        · have ha2 : (0 : Int) < (af.length : Int) := by omega
          rw [if_pos (c := _ ∨ 0 < af.length) (Or.inr ha)] at HLen
          rw [if_pos (c := _ ∨ 0 < af.length) (Or.inr ha)]
          have HL : Hid (t.length + tb.length + ts.length + 2 + ta.length ≤ 1000000000) := by
            have h := HLen.out
            simp at h
            show _ ≤ _
            omega
          go_enter Tryz.func32, Tryz.ntmps32
          go_wp2_with fail
          have HBW : Hid (Below w.heap.size w (w.alloc (.cells #[.bool false, .bool false, .slice bo be.length bc, .slice so sr.length sc, .slice ao af.length ac, .int .i64 cu] 45))) := HA.out _
          have HXW : Hid ((w.alloc (.cells #[.bool false, .bool false, .slice bo be.length bc, .slice so sr.length sc, .slice ao af.length ac, .int .i64 cu] 45)).heap[w.heap.size]? = some (.cells #[.bool false, .bool false, .slice bo be.length bc, .slice so sr.length sc, .slice ao af.length ac, .int .i64 cu] 45)) := heap_alloc_new w _
          have HD0 : Hid (T.Bd B b t (w.alloc (.cells #[.bool false, .bool false, .slice bo be.length bc, .slice so sr.length sc, .slice ao af.length ac, .int .i64 cu] 45))) := HBd.out.below HBW.out
          have HE0 : Hid (R.Env w0 B (w.alloc (.cells #[.bool false, .bool false, .slice bo be.length bc, .slice so sr.length sc, .slice ao af.length ac, .int .i64 cu] 45))) := HE.out.after HBW.out
          refine (HIb.out _ _ HE0.out HD0.out (by have := HL.out; (try simp only [List.length_append, List.length_cons, List.length_nil]); omega)).mono ?_
          generalize w.alloc (.cells #[.bool false, .bool false, .slice bo be.length bc, .slice so sr.length sc, .slice ao af.length ac, .int .i64 cu] 45) = W at HBW HXW HD0 HE0
          rintro e w1 ⟨rfl, d1, b1, k1⟩
          have HD1 : Hid (T.Bd B b (t ++ tb) w1) := d1
          have HB1 : Hid (Below B W w1) := b1
          have HK1 : Hid (Lib.OthersKept 5 (some b) W w1) := k1
          have HE1 : Hid (R.Env w0 B w1) := HE0.out.next b1
          have hx1 := HK1.out _ _ HXW.out HNe.out (fun c fz h => by cases h)
          have p1_0 : w1.cell? ⟨w.heap.size, 0, none⟩ = some (.bool false) := R.at_box hx1 rfl
          have p1_1 : w1.cell? ⟨w.heap.size, 1, none⟩ = some (.bool false) := R.at_box hx1 rfl
          have p1_2 : w1.cell? ⟨w.heap.size, 2, none⟩ = some (.slice bo be.length bc) := R.at_box hx1 rfl
          have p1_3 : w1.cell? ⟨w.heap.size, 3, none⟩ = some (.slice so sr.length sc) := R.at_box hx1 rfl
          have p1_4 : w1.cell? ⟨w.heap.size, 4, none⟩ = some (.slice ao af.length ac) := R.at_box hx1 rfl
          have p1_5 : w1.cell? ⟨w.heap.size, 5, none⟩ = some (.int .i64 cu) := R.at_box hx1 rfl
          clear d1 b1 k1 hx1
          go_wp2_with fail
          refine (HIs.out _ _ HE1.out HD1.out (by have := HL.out; (try simp only [List.length_append, List.length_cons, List.length_nil]); omega)).mono ?_
          rintro e w2 ⟨rfl, d2, b2, k2⟩
          have HD2 : Hid (T.Bd B b ((t ++ tb) ++ ts) w2) := d2
          have HB2 : Hid (Below B W w2) := HB1.out.trans b2
          have HK2 : Hid (Lib.OthersKept 5 (some b) W w2) := HK1.out.trans k2
          have HE2 : Hid (R.Env w0 B w2) := HE1.out.next b2
          have hx2 := HK2.out _ _ HXW.out HNe.out (fun c fz h => by cases h)
          have p2_0 : w2.cell? ⟨w.heap.size, 0, none⟩ = some (.bool false) := R.at_box hx2 rfl
          have p2_1 : w2.cell? ⟨w.heap.size, 1, none⟩ = some (.bool false) := R.at_box hx2 rfl
          have p2_2 : w2.cell? ⟨w.heap.size, 2, none⟩ = some (.slice bo be.length bc) := R.at_box hx2 rfl
          have p2_3 : w2.cell? ⟨w.heap.size, 3, none⟩ = some (.slice so sr.length sc) := R.at_box hx2 rfl
          have p2_4 : w2.cell? ⟨w.heap.size, 4, none⟩ = some (.slice ao af.length ac) := R.at_box hx2 rfl
          have p2_5 : w2.cell? ⟨w.heap.size, 5, none⟩ = some (.int .i64 cu) := R.at_box hx2 rfl
          clear d2 b2 k2 hx2 p1_0 p1_1 p1_2 p1_3 p1_4 p1_5 HE1
          go_wp2_with fail
          refine (tword_any B b _ [125] _ HD2.out (by have := HL.out; (try simp only [List.length_append, List.length_cons, List.length_nil]); omega)).mono ?_
          rintro e w3 ⟨rfl, d3, b3, k3⟩
          have HD3 : Hid (T.Bd B b (((t ++ tb) ++ ts) ++ ([125] ++ [32])) w3) := d3
          have HB3 : Hid (Below B W w3) := HB2.out.trans b3
          have HK3 : Hid (Lib.OthersKept 5 (some b) W w3) := HK2.out.trans k3
          have HE3 : Hid (R.Env w0 B w3) := HE2.out.next b3
          have hx3 := HK3.out _ _ HXW.out HNe.out (fun c fz h => by cases h)
          have p3_0 : w3.cell? ⟨w.heap.size, 0, none⟩ = some (.bool false) := R.at_box hx3 rfl
          have p3_1 : w3.cell? ⟨w.heap.size, 1, none⟩ = some (.bool false) := R.at_box hx3 rfl
          have p3_2 : w3.cell? ⟨w.heap.size, 2, none⟩ = some (.slice bo be.length bc) := R.at_box hx3 rfl
          have p3_3 : w3.cell? ⟨w.heap.size, 3, none⟩ = some (.slice so sr.length sc) := R.at_box hx3 rfl
          have p3_4 : w3.cell? ⟨w.heap.size, 4, none⟩ = some (.slice ao af.length ac) := R.at_box hx3 rfl
          have p3_5 : w3.cell? ⟨w.heap.size, 5, none⟩ = some (.int .i64 cu) := R.at_box hx3 rfl
          clear d3 b3 k3 hx3 p2_0 p2_1 p2_2 p2_3 p2_4 p2_5 HE2
          go_wp2_with fail
          refine (HIa.out _ _ HE3.out HD3.out (by have := HL.out; (try simp only [List.length_append, List.length_cons, List.length_nil]); omega)).mono ?_
          rintro e w4 ⟨rfl, d4, b4, k4⟩
          have HD4 : Hid (T.Bd B b ((((t ++ tb) ++ ts) ++ ([125] ++ [32])) ++ ta) w4) := d4
          have HB4 : Hid (Below B W w4) := HB3.out.trans b4
          have HK4 : Hid (Lib.OthersKept 5 (some b) W w4) := HK3.out.trans k4
          have HE4 : Hid (R.Env w0 B w4) := HE3.out.next b4
          have hx4 := HK4.out _ _ HXW.out HNe.out (fun c fz h => by cases h)
          have p4_0 : w4.cell? ⟨w.heap.size, 0, none⟩ = some (.bool false) := R.at_box hx4 rfl
          have p4_1 : w4.cell? ⟨w.heap.size, 1, none⟩ = some (.bool false) := R.at_box hx4 rfl
          have p4_2 : w4.cell? ⟨w.heap.size, 2, none⟩ = some (.slice bo be.length bc) := R.at_box hx4 rfl
          have p4_3 : w4.cell? ⟨w.heap.size, 3, none⟩ = some (.slice so sr.length sc) := R.at_box hx4 rfl
          have p4_4 : w4.cell? ⟨w.heap.size, 4, none⟩ = some (.slice ao af.length ac) := R.at_box hx4 rfl
          have p4_5 : w4.cell? ⟨w.heap.size, 5, none⟩ = some (.int .i64 cu) := R.at_box hx4 rfl
          clear d4 b4 k4 hx4 p3_0 p3_1 p3_2 p3_3 p3_4 p3_5 HE3
          go_wp2
          go_end0
          refine ⟨rfl, ?_, (HBW.out.mono HBN.out).trans HB4.out, (kept_below HBW.out).trans HK4.out⟩
          have h := HD4.out
          simp only [List.append_assoc, List.cons_append, List.nil_append] at h
          simpa [List.append_assoc] using h
        · have ha2 : ¬ (0 : Int) < (af.length : Int) := by omega
          rw [if_neg (c := _ ∨ 0 < af.length) (by rintro (h | h); cases h; omega)] at HLen
          rw [if_neg (c := _ ∨ 0 < af.length) (by rintro (h | h); cases h; omega)]
          have HL : Hid (t.length + tb.length + ts.length + ta.length ≤ 1000000000) := by
            have h := HLen.out
            simp at h
            show _ ≤ _
            omega
          go_enter Tryz.func32, Tryz.ntmps32
          go_wp2_with fail
          have HBW : Hid (Below w.heap.size w (w.alloc (.cells #[.bool false, .bool false, .slice bo be.length bc, .slice so sr.length sc, .slice ao af.length ac, .int .i64 cu] 45))) := HA.out _
          have HXW : Hid ((w.alloc (.cells #[.bool false, .bool false, .slice bo be.length bc, .slice so sr.length sc, .slice ao af.length ac, .int .i64 cu] 45)).heap[w.heap.size]? = some (.cells #[.bool false, .bool false, .slice bo be.length bc, .slice so sr.length sc, .slice ao af.length ac, .int .i64 cu] 45)) := heap_alloc_new w _
          have HD0 : Hid (T.Bd B b t (w.alloc (.cells #[.bool false, .bool false, .slice bo be.length bc, .slice so sr.length sc, .slice ao af.length ac, .int .i64 cu] 45))) := HBd.out.below HBW.out
          have HE0 : Hid (R.Env w0 B (w.alloc (.cells #[.bool false, .bool false, .slice bo be.length bc, .slice so sr.length sc, .slice ao af.length ac, .int .i64 cu] 45))) := HE.out.after HBW.out
          refine (HIb.out _ _ HE0.out HD0.out (by have := HL.out; (try simp only [List.length_append, List.length_cons, List.length_nil]); omega)).mono ?_
          generalize w.alloc (.cells #[.bool false, .bool false, .slice bo be.length bc, .slice so sr.length sc, .slice ao af.length ac, .int .i64 cu] 45) = W at HBW HXW HD0 HE0
          rintro e w1 ⟨rfl, d1, b1, k1⟩
          have HD1 : Hid (T.Bd B b (t ++ tb) w1) := d1
          have HB1 : Hid (Below B W w1) := b1
          have HK1 : Hid (Lib.OthersKept 5 (some b) W w1) := k1
          have HE1 : Hid (R.Env w0 B w1) := HE0.out.next b1
          have hx1 := HK1.out _ _ HXW.out HNe.out (fun c fz h => by cases h)
          have p1_0 : w1.cell? ⟨w.heap.size, 0, none⟩ = some (.bool false) := R.at_box hx1 rfl
          have p1_1 : w1.cell? ⟨w.heap.size, 1, none⟩ = some (.bool false) := R.at_box hx1 rfl
          have p1_2 : w1.cell? ⟨w.heap.size, 2, none⟩ = some (.slice bo be.length bc) := R.at_box hx1 rfl
          have p1_3 : w1.cell? ⟨w.heap.size, 3, none⟩ = some (.slice so sr.length sc) := R.at_box hx1 rfl
          have p1_4 : w1.cell? ⟨w.heap.size, 4, none⟩ = some (.slice ao af.length ac) := R.at_box hx1 rfl
          have p1_5 : w1.cell? ⟨w.heap.size, 5, none⟩ = some (.int .i64 cu) := R.at_box hx1 rfl
          clear d1 b1 k1 hx1
          go_wp2_with fail
          refine (HIs.out _ _ HE1.out HD1.out (by have := HL.out; (try simp only [List.length_append, List.length_cons, List.length_nil]); omega)).mono ?_
          rintro e w2 ⟨rfl, d2, b2, k2⟩
          have HD2 : Hid (T.Bd B b ((t ++ tb) ++ ts) w2) := d2
          have HB2 : Hid (Below B W w2) := HB1.out.trans b2
          have HK2 : Hid (Lib.OthersKept 5 (some b) W w2) := HK1.out.trans k2
          have HE2 : Hid (R.Env w0 B w2) := HE1.out.next b2
          have hx2 := HK2.out _ _ HXW.out HNe.out (fun c fz h => by cases h)
          have p2_0 : w2.cell? ⟨w.heap.size, 0, none⟩ = some (.bool false) := R.at_box hx2 rfl
          have p2_1 : w2.cell? ⟨w.heap.size, 1, none⟩ = some (.bool false) := R.at_box hx2 rfl
          have p2_2 : w2.cell? ⟨w.heap.size, 2, none⟩ = some (.slice bo be.length bc) := R.at_box hx2 rfl
          have p2_3 : w2.cell? ⟨w.heap.size, 3, none⟩ = some (.slice so sr.length sc) := R.at_box hx2 rfl
          have p2_4 : w2.cell? ⟨w.heap.size, 4, none⟩ = some (.slice ao af.length ac) := R.at_box hx2 rfl
          have p2_5 : w2.cell? ⟨w.heap.size, 5, none⟩ = some (.int .i64 cu) := R.at_box hx2 rfl
          clear d2 b2 k2 hx2 p1_0 p1_1 p1_2 p1_3 p1_4 p1_5 HE1
          go_wp2_with fail
          refine (HIa.out _ _ HE2.out HD2.out (by have := HL.out; (try simp only [List.length_append, List.length_cons, List.length_nil]); omega)).mono ?_
          rintro e w3 ⟨rfl, d3, b3, k3⟩
          have HD3 : Hid (T.Bd B b (((t ++ tb) ++ ts) ++ ta) w3) := d3
          have HB3 : Hid (Below B W w3) := HB2.out.trans b3
          have HK3 : Hid (Lib.OthersKept 5 (some b) W w3) := HK2.out.trans k3
          have HE3 : Hid (R.Env w0 B w3) := HE2.out.next b3
          have hx3 := HK3.out _ _ HXW.out HNe.out (fun c fz h => by cases h)
          have p3_0 : w3.cell? ⟨w.heap.size, 0, none⟩ = some (.bool false) := R.at_box hx3 rfl
          have p3_1 : w3.cell? ⟨w.heap.size, 1, none⟩ = some (.bool false) := R.at_box hx3 rfl
          have p3_2 : w3.cell? ⟨w.heap.size, 2, none⟩ = some (.slice bo be.length bc) := R.at_box hx3 rfl
          have p3_3 : w3.cell? ⟨w.heap.size, 3, none⟩ = some (.slice so sr.length sc) := R.at_box hx3 rfl
          have p3_4 : w3.cell? ⟨w.heap.size, 4, none⟩ = some (.slice ao af.length ac) := R.at_box hx3 rfl
          have p3_5 : w3.cell? ⟨w.heap.size, 5, none⟩ = some (.int .i64 cu) := R.at_box hx3 rfl
          clear d3 b3 k3 hx3 p2_0 p2_1 p2_2 p2_3 p2_4 p2_5 HE2
          go_wp2
          go_end0
          refine ⟨rfl, ?_, (HBW.out.mono HBN.out).trans HB3.out, (kept_below HBW.out).trans HK3.out⟩
          have h := HD3.out
          simp only [List.append_assoc, List.cons_append, List.nil_append] at h
          simpa [List.append_assoc] using h

end Go.Proofs.YtchkcjaahjhbcabGreatDoor
