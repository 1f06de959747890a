/-
  How sides are written: the document's words.
-/
import Derived.Test.YtafkfnkcabahnaaDoorRRefTell
import Derived.Deep.DeepCutAuto
namespace Go.Proofs.YtafkfnkcabahnaaDoor
open Go.RowKit
set_option maxRecDepth 20000
set_option linter.unusedSimpArgs false
set_option linter.unusedVariables false

theorem R.Own.same {B : Nat} {w w' : World} {v : Value} {ms : List (List UInt8)} (h : R.Own B w v ms) (e : w'.heap = w.heap) : R.Own B w' v ms := by
  refine ⟨h.1, ?_⟩
  rcases h.2 with h0 | ⟨g, cap, cur, hv, h1, h2, h3⟩
  · exact .inl h0
  · exact .inr ⟨g, cap, cur, hv, h1, by rw [e]; exact h2, h3⟩

/-- a row that grows behind a box -/
structure R.St (w W : World) (bx : Obj) (v : Value) (ms : List (List UInt8)) : Prop where
  own : R.Own (w.heap.size + 1) W v ms
  box : W.heap[w.heap.size]? = some bx
  bel : Below w.heap.size w W
theorem R.St.lt {w W : World} {bx : Obj} {v : Value} {ms : List (List UInt8)} (h : R.St w W bx v ms) : w.heap.size + 1 ≤ W.heap.size := (Array.getElem?_eq_some_iff.1 h.box).1
theorem R.St.start (w : World) (bx : Obj) : R.St w (w.alloc bx) bx (.slice none 0 0) [] := ⟨R.Own.nil _ _, heap_alloc_new w _, (Below.refl _ w).alloc (Nat.le_refl _) _⟩
theorem R.St.call {w W W' : World} {bx : Obj} {v : Value} {ms : List (List UInt8)} (h : R.St w W bx v ms) (hb : Below W.heap.size W W') : R.St w W' bx v ms := ⟨h.own.below hb, R.box_below h.box hb, h.bel.trans (hb.mono h.bel.size)⟩
theorem R.St.rows {w W W' : World} {bx : Obj} {v v' : Value} {ms ns : List (List UInt8)} (h : R.St w W bx v ms) (own : R.Own (w.heap.size + 1) W' v' ns) (gr : W.grownBy W' v.ownBlock) : R.St w W' bx v' ns := by
  refine ⟨own, ?_, Below.grown h.bel gr h.bel.size fun k hk => by have := (h.own.lt k hk).1; omega⟩
  rw [gr.block w.heap.size (by have := h.lt; omega) (fun e => by have := (h.own.lt _ e.symm).1; omega)]
  exact h.box
theorem R.St.one {w W W' : World} {bx : Obj} {v v' : Value} {ms ns : List (List UInt8)} {o : Obj} (h : R.St w W bx v ms) (own : R.Own (w.heap.size + 1) W' v' ns) (gr : (W.alloc o).grownBy W' v.ownBlock) : R.St w W' bx v' ns :=
  (h.call ((Below.refl _ W).alloc (Nat.le_refl _) o)).rows own gr
theorem R.St.drew {w W : World} {bx : Obj} {v : Value} {ms : List (List UInt8)} (h : R.St w W bx v ms) : R.St w W.drew bx v ms := ⟨h.own.same rfl, h.box, h.bel.drew⟩
theorem R.itemsW_neg {l : List R.Item} : ∀ {c : Int}, c < 0 → (R.itemsW l c).length = l.length := by
  induction l with
  | nil => intro c hc; rw [R.itemsW, if_neg (by omega)]; rfl
  | cons x l ih => intro c hc; rw [R.itemsW, if_neg (by omega)]; simp [ih (c := c - 1) (by omega)]

set_option maxHeartbeats 16000000 in
theorem rSideWords_any (w : World) (v : Value) (s : R.Side) (R0 : R.SdIs w v s) (hok : ∃ m, R.sideE s m = 0) :
    Calls Tryd.prog 14 #[v] w fun e w' => ∃ v', e = .returned v' ∧ R.Own (w.heap.size + 1) w' v' (R.sideW s) ∧ Below w.heap.size w w' := by
  obtain ⟨m, hm⟩ := hok
  obtain ⟨zb, zs, za, hc1, hc2⟩ := R.sideE_zero hm
  obtain ⟨bo, bc, so, sc, ao, ac, rfl, hB, hS, hA, hcu⟩ := R0
  obtain ⟨st, fi, be, sr, af, cu⟩ := s
  simp only at zb zs za hc1 hc2 hB hS hA hcu
  have HIb : Hid (∀ W, Below w.heap.size w W → Calls Tryd.prog 23 #[.slice bo be.length bc, .int .i64 (-1)] W fun e w' => ∃ v', e = .returned v' ∧ R.Own W.heap.size w' v' (R.itemsW be (-1)) ∧ Below W.heap.size W w') := fun W hW => rWords_any W _ be (-1) (hB.below hW) (items_ok zb).1 (items_ok zb).2 (by omega)
  have HIs : Hid (∀ W, Below w.heap.size w W → Calls Tryd.prog 23 #[.slice so sr.length sc, .int .i64 cu] W fun e w' => ∃ v', e = .returned v' ∧ R.Own W.heap.size w' v' (R.itemsW sr cu) ∧ Below W.heap.size W w') := fun W hW => rWords_any W _ sr cu (hS.below hW) (items_ok zs).1 (items_ok zs).2 hc1
  have HIa : Hid (∀ W, Below w.heap.size w W → Calls Tryd.prog 23 #[.slice ao af.length ac, .int .i64 (-1)] W fun e w' => ∃ v', e = .returned v' ∧ R.Own W.heap.size w' v' (R.itemsW af (-1)) ∧ Below W.heap.size W w') := fun W hW => rWords_any W _ af (-1) (hA.below hW) (items_ok za).1 (items_ok za).2 (by omega)
  have lb := R.itemsW_neg (l := be) (c := -1) (by omega)
  have ls := R.itemsW_len (l := sr) (c := cu)
  have la := R.itemsW_neg (l := af) (c := -1) (by omega)
  have l1 := (items_ok zb).1
  have l2 := (items_ok zs).1
  have l3 := (items_ok za).1
  obtain ⟨tb, HTb⟩ : ∃ x, Hid (R.itemsW be (-1) = x) := ⟨_, rfl⟩
  obtain ⟨ts, HTs⟩ : ∃ x, Hid (R.itemsW sr cu = x) := ⟨_, rfl⟩
  obtain ⟨ta, HTa⟩ : ∃ x, Hid (R.itemsW af (-1) = x) := ⟨_, rfl⟩
  rw [HTb.out] at lb HIb
  rw [HTs.out] at ls HIs
  rw [HTa.out] at la HIa
  have HLb : Hid (tb.length = be.length ∧ tb.length ≤ 20) := ⟨lb, by omega⟩
  have HLs : Hid (ts.length ≤ 41) := by show _ ≤ _; omega
  have HLa : Hid (ta.length = af.length ∧ ta.length ≤ 20) := ⟨la, by omega⟩
  obtain ⟨o, HO⟩ : ∃ o, Hid (R.sideW ⟨st, fi, be, sr, af, cu⟩ = o) := ⟨_, rfl⟩
  have HE : Hid ((if st = true then [[94]] else []) ++ tb ++ (if st = true ∨ 0 < be.length then [[123]] else []) ++ ts ++ (if fi = true ∨ 0 < af.length then [[125]] else []) ++ ta ++ (if fi = true then [[36]] else []) = o) := by
    show _ = _
    rw [← HO.out, ← HTb.out, ← HTs.out, ← HTa.out]; rfl
  rw [HO.out]
  clear hB hS hA hm zb zs za lb ls la l1 l2 l3 HO HTb HTs HTa
  obtain ⟨m1, HM1⟩ : ∃ x : List (List UInt8), Hid ((if st = true then [[94]] else []) = x) := ⟨_, rfl⟩
  obtain ⟨m2, HM2⟩ : ∃ x : List (List UInt8), Hid ((if st = true ∨ 0 < be.length then [[123]] else []) = x) := ⟨_, rfl⟩
  obtain ⟨m3, HM3⟩ : ∃ x : List (List UInt8), Hid ((if fi = true ∨ 0 < af.length then [[125]] else []) = x) := ⟨_, rfl⟩
  rw [HM1.out, HM2.out, HM3.out] at HE
  have HL1 : Hid (m1.length ≤ 1) := by show _ ≤ _; rw [← HM1.out]; split <;> simp
  have HL2 : Hid (m2.length ≤ 1) := by show _ ≤ _; rw [← HM2.out]; split <;> simp
  have HL3 : Hid (m3.length ≤ 1) := by show _ ≤ _; rw [← HM3.out]; split <;> simp
  obtain ⟨Q1, HQ1⟩ : ∃ q, Hid (m1 ++ tb = q) := ⟨_, rfl⟩
  obtain ⟨Q2, HQ2⟩ : ∃ q, Hid (Q1 ++ m2 = q) := ⟨_, rfl⟩
  obtain ⟨Q3, HQ3⟩ : ∃ q, Hid (Q2 ++ ts = q) := ⟨_, rfl⟩
  obtain ⟨Q4, HQ4⟩ : ∃ q, Hid (Q3 ++ m3 ++ ta = q) := ⟨_, rfl⟩
  have HN1 : Hid (Q1.length = m1.length + tb.length) := by show _ = _; rw [← HQ1.out, List.length_append]
  have HN2 : Hid (Q2.length = Q1.length + m2.length) := by show _ = _; rw [← HQ2.out, List.length_append]
  have HN3 : Hid (Q3.length = Q2.length + ts.length) := by show _ = _; rw [← HQ3.out, List.length_append]
  have HN4 : Hid (Q4.length = Q3.length + m3.length + ta.length) := by show _ = _; rw [← HQ4.out, List.length_append, List.length_append]
  have HE4 : Hid (Q4 ++ (if fi = true then [[36]] else []) = o) := by show _ = _; rw [← HE.out, ← HQ4.out, ← HQ3.out, ← HQ2.out, ← HQ1.out]
  have HS0 : Hid (R.St w (w.alloc (.cells #[.bool st, .bool fi, .slice bo be.length bc, .slice so sr.length sc, .slice ao af.length ac, .int .i64 cu] 43)) (.cells #[.bool st, .bool fi, .slice bo be.length bc, .slice so sr.length sc, .slice ao af.length ac, .int .i64 cu] 43) (.slice none 0 0) []) := R.St.start w _
  go_enter Tryd.func14, Tryd.ntmps14
  go_upto_if 5 with fail
  go_cut [3] (fun v3 wx => Hid (R.St w wx (.cells #[.bool st, .bool fi, .slice bo be.length bc, .slice so sr.length sc, .slice ao af.length ac, .int .i64 cu] 43) v3 m1))
  case first =>
    cases st with
    | true =>
      have hb : m1 = [[94]] := by rw [← HM1.out]; simp
      subst hb
      go_wp2_with (at_builtin; refine R.list_one rfl _ _ rfl (w.heap.size + 1) _ [] rfl (HS0.out.own.alloc _) (w.heap.size + 1) (by simp [go_sem]) [94] (by have h := R.new_cell (w.alloc (.cells #[.bool true, .bool fi, .slice bo be.length bc, .slice so sr.length sc, .slice ao af.length ac, .int .i64 cu] 43)) (.string ⟨#[94]⟩) 9; simp only [R.str] at h ⊢; simp) (by simp) (by simp) ?_; intro v1 W1 own1 gr1)
      go_meet
      case rel => exact HS0.out.one own1 gr1
    | false =>
      have hb : m1 = [] := by rw [← HM1.out]; simp
      subst hb
      go_wp2
      go_meet
      case rel => exact HS0
  case rest =>
    have HS1 : Hid (R.St w wc (.cells #[.bool st, .bool fi, .slice bo be.length bc, .slice so sr.length sc, .slice ao af.length ac, .int .i64 cu] 43) u3 m1) := hcut
    clear hcut
    have p1_0 : wc.cell? ⟨w.heap.size, 0, none⟩ = some (.bool st) := R.at_box HS1.out.box rfl
    have p1_1 : wc.cell? ⟨w.heap.size, 1, none⟩ = some (.bool fi) := R.at_box HS1.out.box rfl
    have p1_2 : wc.cell? ⟨w.heap.size, 2, none⟩ = some (.slice bo be.length bc) := R.at_box HS1.out.box rfl
    have p1_3 : wc.cell? ⟨w.heap.size, 3, none⟩ = some (.slice so sr.length sc) := R.at_box HS1.out.box rfl
    have p1_4 : wc.cell? ⟨w.heap.size, 4, none⟩ = some (.slice ao af.length ac) := R.at_box HS1.out.box rfl
    have p1_5 : wc.cell? ⟨w.heap.size, 5, none⟩ = some (.int .i64 cu) := R.at_box HS1.out.box rfl
    go_wp2_with fail
    refine (HIb.out _ HS1.out.bel).mono ?_
    rintro e X1 ⟨x1, rfl, ow1, bw1⟩
    have HT1 : Hid (R.St w X1 (.cells #[.bool st, .bool fi, .slice bo be.length bc, .slice so sr.length sc, .slice ao af.length ac, .int .i64 cu] 43) u3 m1) := HS1.out.call bw1
    have HX1 : Hid (R.Own wc.heap.size X1 x1 tb) := ow1
    clear p1_0 p1_1 p1_2 p1_3 p1_4 p1_5 ow1 bw1
    go_upto_if 16 with (at_builtin; refine R.list_rows rfl _ _ rfl (w.heap.size + 1) _ (m1) rfl HT1.out.own _ rfl _ tb HX1.out (by have := HLb.out; have := HLs.out; have := HLa.out; have := HL1.out; have := HL2.out; have := HL3.out; have := HN1.out; have := HN2.out; have := HN3.out; have := HN4.out; (try simp only [List.length_append, List.length_cons, List.length_nil]); omega) (by have := HLb.out; have := HLs.out; have := HLa.out; have := HL1.out; have := HL2.out; have := HL3.out; have := HN1.out; have := HN2.out; have := HN3.out; have := HN4.out; (try simp only [List.length_append, List.length_cons, List.length_nil]); omega) (by have := HT1.out.lt; omega) ?_; intro v1 W1 own gr; rw [HQ1.out] at own; have S1 : R.St w W1 (.cells #[.bool st, .bool fi, .slice bo be.length bc, .slice so sr.length sc, .slice ao af.length ac, .int .i64 cu] 43) v1 Q1 := HT1.out.rows own gr; clear own gr; obtain ⟨sa, scp, hsl, _⟩ := S1.own.slice; subst hsl; have HY1 : Hid (R.St w W1 (.cells #[.bool st, .bool fi, .slice bo be.length bc, .slice so sr.length sc, .slice ao af.length ac, .int .i64 cu] 43) _ Q1) := S1; clear S1)
    go_cut [3] (fun v3 wx => Hid (R.St w wx (.cells #[.bool st, .bool fi, .slice bo be.length bc, .slice so sr.length sc, .slice ao af.length ac, .int .i64 cu] 43) v3 Q2))
    case first =>
      by_cases hbr : st = true ∨ 0 < be.length
      · have hpos : (0 : Int) < (Q1.length : Int) := by
          have h1 := HLb.out
          have h2 := HN1.out
          rcases hbr with h | h
          · have h3 : m1.length = 1 := by rw [← HM1.out, if_pos h]; rfl
            omega
          · omega
        have hb : m2 = [[123]] := by rw [← HM2.out, if_pos hbr]
        have HQ2b : Hid (Q1 ++ [[123]] = Q2) := by show _ = _; rw [← HQ2.out, hb]
        clear hb hbr
        go_wp2_with (at_builtin; refine R.list_one rfl _ _ rfl (w.heap.size + 1) _ Q1 rfl (HY1.out.own.alloc _) W1.heap.size rfl [123] (R.new_cell _ _ _) (by have := HLb.out; have := HLs.out; have := HLa.out; have := HL1.out; have := HL2.out; have := HL3.out; have := HN1.out; have := HN2.out; have := HN3.out; have := HN4.out; (try simp only [List.length_append, List.length_cons, List.length_nil]); omega) (by have := HY1.out.lt; simp; omega) ?_; intro v2 W2 own2 gr2; rw [HQ2b.out] at own2)
        go_meet
        case rel => exact HY1.out.one own2 gr2
      · have hpos : ¬ (0 : Int) < (Q1.length : Int) := by
          have h1 := HLb.out
          have h2 := HN1.out
          have h3 : m1.length = 0 := by rw [← HM1.out, if_neg (fun h => hbr (Or.inl h))]; rfl
          have h4 : ¬ 0 < be.length := fun h => hbr (Or.inr h)
          omega
        have hb : m2 = [] := by rw [← HM2.out, if_neg hbr]
        have HQ2b : Hid (Q1 = Q2) := by show _ = _; rw [← HQ2.out, hb, List.append_nil]
        clear hb hbr
        go_wp2
        go_meet
        case rel => exact HQ2b.out ▸ HY1
    case rest =>
      have HS2 : Hid (R.St w wc (.cells #[.bool st, .bool fi, .slice bo be.length bc, .slice so sr.length sc, .slice ao af.length ac, .int .i64 cu] 43) u3 Q2) := hcut
      clear hcut HY1 HT1 HX1 HS1
      have p2_0 : wc.cell? ⟨w.heap.size, 0, none⟩ = some (.bool st) := R.at_box HS2.out.box rfl
      have p2_1 : wc.cell? ⟨w.heap.size, 1, none⟩ = some (.bool fi) := R.at_box HS2.out.box rfl
      have p2_2 : wc.cell? ⟨w.heap.size, 2, none⟩ = some (.slice bo be.length bc) := R.at_box HS2.out.box rfl
      have p2_3 : wc.cell? ⟨w.heap.size, 3, none⟩ = some (.slice so sr.length sc) := R.at_box HS2.out.box rfl
      have p2_4 : wc.cell? ⟨w.heap.size, 4, none⟩ = some (.slice ao af.length ac) := R.at_box HS2.out.box rfl
      have p2_5 : wc.cell? ⟨w.heap.size, 5, none⟩ = some (.int .i64 cu) := R.at_box HS2.out.box rfl
      go_wp2_with fail
      refine (HIs.out _ HS2.out.bel).mono ?_
      rintro e X2 ⟨x2, rfl, ow2, bw2⟩
      have HT2 : Hid (R.St w X2 (.cells #[.bool st, .bool fi, .slice bo be.length bc, .slice so sr.length sc, .slice ao af.length ac, .int .i64 cu] 43) u3 Q2) := HS2.out.call bw2
      have HX2 : Hid (R.Own wc.heap.size X2 x2 ts) := ow2
      clear p2_0 p2_1 p2_2 p2_3 p2_4 p2_5 ow2 bw2
      go_upto_region 8 with (at_builtin; refine R.list_rows rfl _ _ rfl (w.heap.size + 1) _ (Q2) rfl HT2.out.own _ rfl _ ts HX2.out (by have := HLb.out; have := HLs.out; have := HLa.out; have := HL1.out; have := HL2.out; have := HL3.out; have := HN1.out; have := HN2.out; have := HN3.out; have := HN4.out; (try simp only [List.length_append, List.length_cons, List.length_nil]); omega) (by have := HLb.out; have := HLs.out; have := HLa.out; have := HL1.out; have := HL2.out; have := HL3.out; have := HN1.out; have := HN2.out; have := HN3.out; have := HN4.out; (try simp only [List.length_append, List.length_cons, List.length_nil]); omega) (by have := HT2.out.lt; omega) ?_; intro v2 W2 own gr; rw [HQ3.out] at own; have S2 : R.St w W2 (.cells #[.bool st, .bool fi, .slice bo be.length bc, .slice so sr.length sc, .slice ao af.length ac, .int .i64 cu] 43) v2 Q3 := HT2.out.rows own gr; clear own gr; have HY2 : Hid (R.St w W2 (.cells #[.bool st, .bool fi, .slice bo be.length bc, .slice so sr.length sc, .slice ao af.length ac, .int .i64 cu] 43) _ Q3) := S2; clear S2)
      obtain ⟨cl, HCl⟩ : ∃ b : Bool, Hid (decide (fi = true ∨ 0 < af.length) = b) := ⟨_, rfl⟩
      have p3_0 : W2.cell? ⟨w.heap.size, 0, none⟩ = some (.bool st) := R.at_box HY2.out.box rfl
      have p3_1 : W2.cell? ⟨w.heap.size, 1, none⟩ = some (.bool fi) := R.at_box HY2.out.box rfl
      have p3_2 : W2.cell? ⟨w.heap.size, 2, none⟩ = some (.slice bo be.length bc) := R.at_box HY2.out.box rfl
      have p3_3 : W2.cell? ⟨w.heap.size, 3, none⟩ = some (.slice so sr.length sc) := R.at_box HY2.out.box rfl
      have p3_4 : W2.cell? ⟨w.heap.size, 4, none⟩ = some (.slice ao af.length ac) := R.at_box HY2.out.box rfl
      have p3_5 : W2.cell? ⟨w.heap.size, 5, none⟩ = some (.int .i64 cu) := R.at_box HY2.out.box rfl
      go_cut [34] (fun v34 wx => v34 = .bool cl ∧ wx = W2)
      case first =>
        cases fi with
        | true =>
          have hcl : cl = true := by rw [← HCl.out]; simp
          subst hcl
          go_wp2
          go_meet
          case rel => exact ⟨rfl, rfl⟩
        | false =>
          by_cases ha : 0 < af.length
          · have ha2 : (0 : Int) < (af.length : Int) := by omega
            have hcl : cl = true := by rw [← HCl.out]; simp; omega
            subst hcl
            go_wp2
            go_meet
            case rel => exact ⟨rfl, rfl⟩
          · have ha2 : ¬ (0 : Int) < (af.length : Int) := by omega
            have hcl : cl = false := by rw [← HCl.out]; exact decide_eq_false (by rintro (h | h); cases h; omega)
            subst hcl
            go_wp2
            go_meet
            case rel => exact ⟨rfl, rfl⟩
      case rest =>
      obtain ⟨rfl, rfl⟩ := hcut
      have HY3 : Hid (R.St w wc (.cells #[.bool st, .bool fi, .slice bo be.length bc, .slice so sr.length sc, .slice ao af.length ac, .int .i64 cu] 43) v2 Q3) := HY2.out
      go_upto_if 34 with fail
      go_cut [3] (fun v3 wx => Hid (R.St w wx (.cells #[.bool st, .bool fi, .slice bo be.length bc, .slice so sr.length sc, .slice ao af.length ac, .int .i64 cu] 43) v3 Q4))
      case first =>
        cases cl with
        | true =>
          have hbr : fi = true ∨ 0 < af.length := of_decide_eq_true HCl.out
          have hb : m3 = [[125]] := by rw [← HM3.out, if_pos hbr]
          have HQ4b : Hid (Q3 ++ [[125]] ++ ta = Q4) := by show _ = _; rw [← HQ4.out, hb]
          clear hb hbr
          go_wp2
          go_region_held3 (fun w' => w'.cell? ⟨w.heap.size, 4, none⟩ = some (.slice ao af.length ac))
            (first | exact kp3 | exact kp2 | exact kp1 | go_keep)
            (first
              | (go_at_call 23; refine (HIa.out W4 HS4.bel).mono ?_; rintro e W5 ⟨x5, rfl, ow5, bw5⟩; have HS5 := HS4.call bw5; have kp2 : W5.cell? ⟨w.heap.size, 4, none⟩ = some (.slice ao af.length ac) := R.at_box HS5.box rfl)
              | (refine R.step_one (by rfl) (.tmp 35) (.tmp 36) (by rfl) (w.heap.size + 1) _ Q3 (by rfl) ((HY3.out.drew.own).alloc _) wc.heap.size (by rfl) [125] (R.new_cell wc.drew _ _) (by have := HLb.out; have := HLs.out; have := HLa.out; have := HL1.out; have := HL2.out; have := HL3.out; have := HN1.out; have := HN2.out; have := HN3.out; have := HN4.out; (try simp only [List.length_append, List.length_cons, List.length_nil]); omega) (by have := HY3.out.lt; simp; omega) ?_; intro v4 W4 own4 gr4; have HS4 := HY3.out.drew.one own4 gr4; have kp1 : W4.cell? ⟨w.heap.size, 4, none⟩ = some (.slice ao af.length ac) := R.at_box HS4.box rfl)
              | (refine R.step_rows (by rfl) (.tmp 37) (.tmp 40) (by rfl) (w.heap.size + 1) _ (Q3 ++ [[125]]) (by rfl) HS5.own _ (by rfl) _ ta ow5 (by have := HLb.out; have := HLs.out; have := HLa.out; have := HL1.out; have := HL2.out; have := HL3.out; have := HN1.out; have := HN2.out; have := HN3.out; have := HN4.out; (try simp only [List.length_append, List.length_cons, List.length_nil]); omega) (by have := HLb.out; have := HLs.out; have := HLa.out; have := HL1.out; have := HL2.out; have := HL3.out; have := HN1.out; have := HN2.out; have := HN3.out; have := HN4.out; (try simp only [List.length_append, List.length_cons, List.length_nil]); omega) (by have := HS5.lt; omega) ?_; intro v6 W6 own6 gr6; rw [HQ4b.out] at own6; have HS6 := HS5.rows own6 gr6; have kp3 : W6.cell? ⟨w.heap.size, 4, none⟩ = some (.slice ao af.length ac) := R.at_box HS6.box rfl))
          all_goals
            have HS7 : Hid (R.St w W6 (.cells #[.bool st, .bool fi, .slice bo be.length bc, .slice so sr.length sc, .slice ao af.length ac, .int .i64 cu] 43) v6 Q4) := HS6
            clear kp1 kp2 kp3 HS4 HS5 HS6 ow5 bw5 own6 gr6 own4 gr4
            go_wp2_with fail
            go_meet
            case rel => exact HS7
        | false =>
          have hbr : ¬ (fi = true ∨ 0 < af.length) := of_decide_eq_false HCl.out
          have ha3 : af.length = 0 := by have : ¬ 0 < af.length := fun h => hbr (Or.inr h); omega
          have hb : m3 = [] := by rw [← HM3.out, if_neg hbr]
          have hta : ta = [] := List.eq_nil_of_length_eq_zero (by have := HLa.out; omega)
          have HQ4b : Hid (Q3 = Q4) := by show _ = _; rw [← HQ4.out, hb, hta]; simp
          clear hb hta hbr ha3
          go_wp2
          go_meet
          case rel => exact HQ4b.out ▸ HY3
      case rest =>
        have HS3 : Hid (R.St w wc (.cells #[.bool st, .bool fi, .slice bo be.length bc, .slice so sr.length sc, .slice ao af.length ac, .int .i64 cu] 43) u3 Q4) := hcut
        clear hcut HY2 HY3 HT2 HX2 HS2
        have p4_1 : wc.cell? ⟨w.heap.size, 1, none⟩ = some (.bool fi) := R.at_box HS3.out.box rfl
        cases fi with
        | true =>
          go_wp2_with (at_builtin; refine R.list_one rfl _ _ rfl (w.heap.size + 1) _ Q4 rfl (HS3.out.own.alloc _) wc.heap.size rfl [36] (R.new_cell _ _ _) (by have := HLb.out; have := HLs.out; have := HLa.out; have := HL1.out; have := HL2.out; have := HL3.out; have := HN1.out; have := HN2.out; have := HN3.out; have := HN4.out; (try simp only [List.length_append, List.length_cons, List.length_nil]); omega) (by have := HS3.out.lt; simp; omega) ?_; intro v5 W5 own5 gr5; have HS5 := HS3.out.one own5 gr5; clear own5 gr5; have HS5b : Hid (R.St w W5 _ v5 (Q4 ++ [[36]])) := HS5; clear HS5)
          go_ret
          refine ⟨_, rfl, ?_, HS5b.out.bel⟩
          rw [← HE4.out]
          exact HS5b.out.own
        | false =>
          go_wp2
          go_ret
          refine ⟨_, rfl, ?_, HS3.out.bel⟩
          rw [← HE4.out]
          simp only [Bool.false_eq_true, if_false, List.append_nil]
          exact HS3.out.own

end Go.Proofs.YtafkfnkcabahnaaDoor
