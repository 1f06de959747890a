/-
  scriptlaw14.PairApart: it returns true.
-/
import Derived.Test.YtkkocnkfdepoiaaPrAlive
import Derived.Test.YtkkocnkfdepoiaaQRun
import Derived.Test.YtkkocnkfdepoiaaQAfter
import Derived.Test.YtkkocnkfdepoiaaVRun
import Derived.Test.YtkkocnkfdepoiaaCnApp
namespace Go.Proofs.Ytkkocnkfdepoiaa
open Go.RowKit Go.Shelf
set_option maxRecDepth 20000
set_option linter.unusedSimpArgs false
set_option linter.unusedVariables false

/-- append(append([]rune{}, a...), b...) -/
theorem Pr.both {w w3 : World} (hB : Below w.heap.size w w3) {t u : List Int} {xo yo : Option Addr} {xc yc : Nat} (Rt : L.Rd w3 (.slice xo t.length xc) .i32 t) (Ru : L.Rd w3 (.slice yo u.length yc) .i32 u) (ht : t.length ≤ 2000000) (hu : u.length ≤ 2000000) :
    ∃ a1 c1 w4 a2 c2 w5, (∀ ty, (Builtin.append_ #[28, 28] ty #[.slice (some ⟨w3.heap.size, 0, none⟩) 0 0, .slice xo t.length xc]).run Try.prog (w3.alloc (.cells #[] 21)) = .ok (.slice a1 t.length c1) w4) ∧
      (∀ ty, (Builtin.append_ #[28, 28] ty #[.slice a1 t.length c1, .slice yo u.length yc]).run Try.prog w4 = .ok (.slice a2 (t ++ u).length c2) w5) ∧ L.Rd w5 (.slice a2 (t ++ u).length c2) .i32 (t ++ u) ∧ Below w.heap.size w w5 := by
  have hal : Below w3.heap.size w3 (w3.alloc (.cells #[] 21)) := (Below.refl _ w3).alloc (Nat.le_refl _) _
  have own0 : (w3.alloc (.cells #[] 21)).ownsRow w3.heap.size 21 1 (.slice (some ⟨w3.heap.size, 0, none⟩) ([] : List Int).length 0) ([] : List Int).length (K.ints []) := World.ownsRow_made w3 #[] 0 (Nat.le_refl _) (Nat.zero_le _) (by simp)
  obtain ⟨v1, w4, run1, own1, gr1, _⟩ := K.app_rd _ w3.heap.size _ [] own0 _ t (Rt.below hal (Nat.le_refl _)) (by simp; omega) (by simp)
  rw [List.nil_append] at own1
  obtain ⟨a1, c1, rfl⟩ : ∃ a c, v1 = .slice a t.length c := by
    rcases own1.2 with ⟨hv, h0⟩ | ⟨g, cap, cur, hv, _⟩
    · exact ⟨none, 0, by rw [hv, h0]⟩
    · exact ⟨_, cap, hv⟩
  have hB4 : Below w3.heap.size w3 w4 := hal.grown gr1 (by simp) (fun k hk => (own0.lt k hk).1)
  obtain ⟨v2, w5, run2, own2, gr2, _⟩ := K.app_rd w4 w3.heap.size _ t own1 _ u (Ru.below hB4 (Nat.le_refl _)) (by omega) hB4.size
  obtain ⟨a2, c2, rfl⟩ : ∃ a c, v2 = .slice a (t ++ u).length c := by
    rcases own2.2 with ⟨hv, h0⟩ | ⟨g, cap, cur, hv, _⟩
    · exact ⟨none, 0, by rw [hv, h0]⟩
    · exact ⟨_, cap, hv⟩
  have hB5 : Below w3.heap.size w3 w5 := hB4.grown gr2 hB4.size (fun k hk => (own1.lt k hk).1)
  exact ⟨a1, c1, w4, a2, c2, w5, run1, run2, L.Rd.of_owns own2, hB.trans (hB5.mono hB.size)⟩

set_option maxHeartbeats 4000000 in
theorem pairApart_any (w : World) (va vb : Value) (forth back : List K.Rule) (Ra : V.Rus w va forth) (Rb : V.Rus w vb back) (vs : Value) (s : List S.Sp) (Rs : S.Rd w vs s) (Fs : S.Fit s) (vt : Value) (t : List Int) (Rt : L.Rd w vt .i32 t) (ht : t.length ≤ 2000000) (vu : Value) (u : List Int) (Ru : L.Rd w vu .i32 u) (hu : u.length ≤ 2000000) :
    Calls Try.prog 5 #[va, vb, vs, vt, vu] w fun e w' => e = .returned (.bool true) ∧ Below w.heap.size w w' := by
  have HS : Hid (∀ X, Below w.heap.size w X → Calls Try.prog 6 #[va, vb, vs] X fun e w' => e = .returned (.tuple #[.bool (Pr.sureF forth back s).1, .int .i64 (Pr.sureF forth back s).2]) ∧ Below X.heap.size X w') := fun X hX => pSure_any X va vb forth back (Ra.below hX) (Rb.below hX) vs s (Rs.below hX (Nat.le_refl _)) Fs
  have HA : Hid (∀ X, Below w.heap.size w X → Calls Try.prog 10 #[va, vt] X fun e w' => ∃ v', e = .returned (.tuple #[.agg #[v', .int .i64 (K.runF forth t).1.2.1, .int .i64 (K.runF forth t).1.2.2], .agg #[.int .i64 (K.runF forth t).2.1, .int .i64 (K.runF forth t).2.2]]) ∧ L.Rd w' v' .i32 (K.runF forth t).1.1 ∧ Below X.heap.size X w') := fun X hX => qRun_any X _ forth (Ra.below hX) vt t (Rt.below hX (Nat.le_refl _)) (by omega)
  have HB : Hid (∀ X, Below w.heap.size w X → Calls Try.prog 10 #[va, vu] X fun e w' => ∃ v', e = .returned (.tuple #[.agg #[v', .int .i64 (K.runF forth u).1.2.1, .int .i64 (K.runF forth u).1.2.2], .agg #[.int .i64 (K.runF forth u).2.1, .int .i64 (K.runF forth u).2.2]]) ∧ L.Rd w' v' .i32 (K.runF forth u).1.1 ∧ Below X.heap.size X w') := fun X hX => qRun_any X _ forth (Ra.below hX) vu u (Ru.below hX (Nat.le_refl _)) (by omega)
  have hlt1 := K.runF_len (l := forth) (t := t)
  have hlt2 := K.runF_len (l := forth) (t := u)
  have HM : Hid (Pr.sureF forth back s = (true, 0) → t ≠ u → (∀ x ∈ t ++ u, S.memb s x = true) → (K.runF forth t).2.1 = 0 → (K.runF forth u).2.1 = 0 → decide ((K.runF forth t).1.1 = (K.runF forth u).1.1) = false) := fun h1 h2 h3 h4 h5 => decide_eq_false fun h6 => h2 (Pr.apart h1 (fun x hx => h3 x (List.mem_append_left _ hx)) (fun x hx => h3 x (List.mem_append_right _ hx)) h4 h5 h6)
  have HH : Hid (Pr.sureF forth back s = (true, 0) → ∀ X r, Below w.heap.size w X → Calls Try.prog 9 #[vs, .int .i32 r] X fun e w' => e = .returned (.bool (S.memb s r)) ∧ Below X.heap.size X w') := fun h1 X r hX => by
    obtain ⟨hl, N⟩ := S.wrongE_zero.1 (Pr.sureF_true h1).2.2.1
    exact has_any X vs s r (Rs.below hX (Nat.le_refl _)) N hl
  have HSm : Hid (∀ X, Below w.heap.size w X → Calls Try.prog 11 #[vt, vu] X fun e w' => e = .returned (.bool (decide (t = u))) ∧ Below X.heap.size X w') := fun X hX => rsame_any X vt vu t u (Rt.below hX (Nat.le_refl _)) (Ru.below hX (Nat.le_refl _)) (by omega) (by omega)
  have HT : Hid (L.Rd w vt .i32 t ∧ L.Rd w vu .i32 u) := ⟨Rt, Ru⟩
  obtain ⟨ao, cap, rfl⟩ := Ra.len
  obtain ⟨bo, bcap, rfl⟩ := Rb.len
  obtain ⟨so, scap, rfl⟩ := Rs.len
  obtain ⟨xo, xc, rfl⟩ : ∃ a c, vt = .slice a t.length c := by obtain ⟨a, c, h, _⟩ := Rt; exact ⟨a, c, h⟩
  obtain ⟨yo, yc, rfl⟩ : ∃ a c, vu = .slice a u.length c := by obtain ⟨a, c, h, _⟩ := Ru; exact ⟨a, c, h⟩
  obtain ⟨⟨⟨rt, rs, rp⟩, re, ra⟩, hrun⟩ : ∃ o, K.runF forth t = o := ⟨_, rfl⟩
  rw [hrun] at HA HM hlt1
  obtain ⟨⟨⟨bt, bs, bp⟩, be, ba⟩, hrun2⟩ : ∃ o, K.runF forth u = o := ⟨_, rfl⟩
  rw [hrun2] at HB HM hlt2
  obtain ⟨⟨z, e2⟩, hsu⟩ : ∃ o, Pr.sureF forth back s = o := ⟨_, rfl⟩
  rw [hsu] at HS HM HH
  simp only at HS HA HB HM hlt1 hlt2
  clear hrun hrun2 hsu Ra Rb Rs Fs Rt Ru
  go_enter Try.func5, Try.ntmps5
  go_wp2_with fail
  refine (pAlive_any w).mono ?_
  rintro e w1 ⟨rfl, b1⟩
  have HB1 : Hid (Below w.heap.size w w1) := b1
  clear b1
  go_wp2_with fail
  refine (HS.out _ HB1.out).mono ?_
  rintro e w2 ⟨rfl, b2⟩
  have HB2 : Hid (Below w.heap.size w w2) := HB1.out.trans (b2.mono HB1.out.size)
  clear b2 HS HB1
  by_cases he : e2 = 0
  · cases z with
    | false =>
      subst he
      clear HM HH HA HB HSm
      go_wp2
      go_ret
      exact ⟨rfl, HB2.out⟩
    | true =>
      subst he
      have hM := HM.out rfl
      have hH := HH.out rfl
      have HM1 : Hid (t ≠ u → (∀ x ∈ t ++ u, S.memb s x = true) → re = 0 → be = 0 → decide (rt = bt) = false) := hM
      have HH1 : Hid (∀ X r, Below w.heap.size w X → Calls Try.prog 9 #[.slice so s.length scap, .int .i32 r] X fun e w' => e = .returned (.bool (S.memb s r)) ∧ Below X.heap.size X w') := hH
      obtain ⟨q, HQ⟩ : ∃ q, Hid (decide (t = u) = q) := ⟨_, rfl⟩
      have hSm := HSm.out _ HB2.out
      rw [HQ.out] at hSm
      clear HM HH hM hH HSm
      go_wp2_with fail
      refine hSm.mono ?_
      rintro e w3 ⟨rfl, b3⟩
      have HB3 : Hid (Below w.heap.size w w3) := HB2.out.trans (b3.mono HB2.out.size)
      clear b3 hSm HB2
      cases q with
      | true =>
        clear HA HB HM1 HH1 HQ
        go_wp2
        go_ret
        exact ⟨rfl, HB3.out⟩
      | false =>
        have HNe : Hid (t ≠ u) := of_decide_eq_false HQ.out
        obtain ⟨a1, c1, w4, a2, c2, w5, run1, run2, rd5, bl5⟩ := Pr.both HB3.out (HT.out.1.below HB3.out (Nat.le_refl _)) (HT.out.2.below HB3.out (Nat.le_refl _)) ht hu
        obtain ⟨N, hN⟩ : ∃ N, N = (t ++ u).length := ⟨_, rfl⟩
        have hNl : N ≤ 4000000 := by rw [hN, List.length_append]; omega
        rw [← hN] at run2
        have HR5 : Hid (N = (t ++ u).length ∧ L.Rd w5 (.slice a2 (t ++ u).length c2) .i32 (t ++ u)) := ⟨hN, rd5⟩
        have HB5 : Hid (Below w.heap.size w w5) := bl5
        have HRun1 : Hid (∀ ty, (Builtin.append_ #[28, 28] ty #[.slice (some ⟨w3.heap.size, 0, none⟩) 0 0, .slice xo t.length xc]).run Try.prog (w3.alloc (.cells #[] 21)) = .ok (.slice a1 t.length c1) w4) := run1
        have HRun2 : Hid (∀ ty, (Builtin.append_ #[28, 28] ty #[.slice a1 t.length c1, .slice yo u.length yc]).run Try.prog w4 = .ok (.slice a2 N c2) w5) := run2
        clear run1 run2 rd5 bl5 hN HQ
        go_wp2_with (first | (at_builtin; have hz := HRun1; clear hz; refine Lib.wpList_append_run _ rfl _ _ _ _ rfl _ _ rfl rfl _ _ (HRun1.out _) ?_; clear HRun1) | (at_builtin; (fail_if_success (have hz := HRun1)); refine Lib.wpList_append_run _ rfl _ _ _ _ rfl _ _ rfl rfl _ _ (HRun2.out _) ?_; clear HRun2))
        go_loopw [45] (fun i wr => ∃ k : Nat, k ≤ N ∧ i = .int .i64 k ∧ Hid ((∀ x ∈ (t ++ u).take k, S.memb s x = true) ∧ Below w5.heap.size w5 wr)) (fun i _ => N - (RowKit.intOf i).toNat)
        case atStart => exact ⟨0, Nat.zero_le _, rfl, ⟨fun x hx => by simp at hx, Below.refl _ _⟩⟩
        case round =>
          obtain ⟨k, hk, rfl, HI⟩ := hrel
          have HBr : Hid (Below w.heap.size w wr) := HB5.out.trans (HI.out.2.mono HB5.out.size)
          by_cases hlt : k < N
          · obtain ⟨x, hx⟩ : ∃ x, (t ++ u)[k]? = some x := ⟨(t ++ u)[k]'(by rw [← HR5.out.1]; exact hlt), List.getElem?_eq_getElem _⟩
            obtain ⟨ao', cap', e', _, hcs⟩ := HR5.out.2
            cases e'
            obtain ⟨b, off, rfl, hcell⟩ := hcs (by intro h; rw [h] at hx; simp at hx)
            have c0 := hcell k x hx
            rw [← HI.out.2.cell (p := ⟨b, off + k, none⟩) (L.block_lt c0)] at c0
            have hC := HH1.out wr x HBr.out
            obtain ⟨y, HY⟩ : ∃ y, Hid (S.memb s x = y) := ⟨_, rfl⟩
            rw [HY.out] at hC
            have HX : Hid ((t ++ u)[k]? = some x) := hx
            clear hcell hx hcs
            go_wp2_with fail
            refine hC.mono ?_
            rintro e w6 ⟨rfl, b6⟩
            have HB6 : Hid (Below w5.heap.size w5 w6) := HI.out.2.trans (b6.mono HI.out.2.size)
            clear b6 hC
            cases y with
            | false =>
              go_wp2
              go_ret
              exact ⟨rfl, HB5.out.trans (HB6.out.mono HB5.out.size)⟩
            | true =>
              have HN : Hid ((∀ x ∈ (t ++ u).take (k + 1), S.memb s x = true) ∧ Below w5.heap.size w5 w6) := ⟨fun q hq => by
                rw [List.take_add_one, HX.out, List.mem_append] at hq
                rcases hq with hq | hq
                · exact HI.out.1 q hq
                · simp at hq; rw [hq]; exact HY.out, HB6.out⟩
              go_wp2
              go_roundw
              case rel => exact ⟨k + 1, by omega, by go_num, HN⟩
              case measure => simp [RowKit.intOf]; omega
          · have hkl : k = N := by omega
            have hall := HI.out.1
            rw [hkl, HR5.out.1, List.take_length] at hall
            have HM2 : Hid (re = 0 → be = 0 → decide (rt = bt) = false) := HM1.out HNe.out hall
            have hR := HA.out wr HBr.out
            clear HA HM1 HH1 hall hkl
            go_wp2_with fail
            refine hR.mono ?_
            rintro e x1 ⟨v1, rfl, d1, g1⟩
            obtain ⟨ua, uc, rfl⟩ : ∃ ua uc, v1 = .slice ua rt.length uc := by obtain ⟨a, c, h, _⟩ := d1; exact ⟨a, c, h⟩
            have HX1 : Hid (Below w.heap.size w x1) := HBr.out.trans (g1.mono HBr.out.size)
            obtain ⟨Y, hY⟩ : ∃ Y, Y = (x1.alloc (.cells #[.slice ua rt.length uc, .int .i64 rs, .int .i64 rp] 32)).alloc (.cells #[.int .i64 re, .int .i64 ra] 34) := ⟨_, rfl⟩
            have k2 := K.two_boxes (w := x1) (Below.refl _ ((x1.alloc (.cells #[.slice ua rt.length uc, .int .i64 rs, .int .i64 rp] 32)).alloc (.cells #[.int .i64 re, .int .i64 ra] 34)))
            rw [← hY] at k2
            have HYb : Hid (Below w.heap.size w Y) := HX1.out.trans (k2.2.2.1.mono HX1.out.size)
            have HY2 : Hid (L.Rd Y (.slice ua rt.length uc) .i32 rt ∧ Y.heap[x1.heap.size]? = some (.cells #[.slice ua rt.length uc, .int .i64 rs, .int .i64 rp] 32) ∧ Y.heap[x1.heap.size + 1]? = some (.cells #[.int .i64 re, .int .i64 ra] 34)) := ⟨d1.below k2.2.2.1 (Nat.le_refl _), k2.1, k2.2.1⟩
            have hR2 := HB.out Y HYb.out
            clear d1 g1 hR k2 HB
            go_wp2_with fail
            rw [← hY]
            refine hR2.mono ?_
            clear hY
            rintro e x2 ⟨v2, rfl, d2, g2⟩
            obtain ⟨ub, ud, rfl⟩ : ∃ ua uc, v2 = .slice ua bt.length uc := by obtain ⟨a, c, h, _⟩ := d2; exact ⟨a, c, h⟩
            have HX2 : Hid (Below w.heap.size w x2) := HYb.out.trans (g2.mono HYb.out.size)
            have p1 := K.blk_below HY2.out.2.1 g2
            have p2 := K.blk_below HY2.out.2.2 g2
            obtain ⟨Z, hZ⟩ : ∃ Z, Z = (x2.alloc (.cells #[.slice ub bt.length ud, .int .i64 bs, .int .i64 bp] 32)).alloc (.cells #[.int .i64 be, .int .i64 ba] 34) := ⟨_, rfl⟩
            have k3 := K.two_boxes (w := x2) (Below.refl _ ((x2.alloc (.cells #[.slice ub bt.length ud, .int .i64 bs, .int .i64 bp] 32)).alloc (.cells #[.int .i64 be, .int .i64 ba] 34)))
            rw [← hZ] at k3
            have HZb : Hid (Below w.heap.size w Z) := HX2.out.trans (k3.2.2.1.mono HX2.out.size)
            have l1 := (Array.getElem?_eq_some_iff.1 p1).1
            have l2 := (Array.getElem?_eq_some_iff.1 p2).1
            have t1 : ∀ o o', ((x2.alloc o).alloc o').cell? ⟨x1.heap.size, 0, none⟩ = some (.slice ua rt.length uc) := fun o o' => K.alloc_cell (K.alloc_cell (K.at_box (i := 0) p1 rfl) o) o'
            have t2 : ∀ o o', ((x2.alloc o).alloc o').cell? ⟨x1.heap.size + 1, 0, none⟩ = some (.int .i64 re) := fun o o' => K.alloc_cell (K.alloc_cell (K.at_box (i := 0) p2 rfl) o) o'
            obtain ⟨dz, HD⟩ : ∃ dz, Hid (decide (rt = bt) = dz) := ⟨_, rfl⟩
            have hS3 := rsame_any Z (.slice ua rt.length uc) (.slice ub bt.length ud) rt bt ((HY2.out.1.below g2 (Nat.le_refl _)).below k3.2.2.1 (Nat.le_refl _)) (d2.below k3.2.2.1 (Nat.le_refl _)) (by omega) (by omega)
            rw [HD.out] at hS3
            clear d2 g2 hR2 k3 p1 p2
            by_cases h0 : re = 0
            · by_cases h1 : be = 0
              · have hd := HM2.out h0 h1
                rw [HD.out] at hd
                subst h0 h1 hd
                clear HM2 HD
                go_wp2_with fail
                rw [← hZ]
                refine hS3.mono ?_
                rintro e x3 ⟨rfl, g3⟩
                have HZ3 : Hid (Below w.heap.size w x3) := HZb.out.trans (g3.mono HZb.out.size)
                clear g3 hS3
                go_wp2
                go_ret
                exact ⟨rfl, HZ3.out⟩
              · subst h0
                clear HM2 HD hS3
                go_wp2
                go_ret
                exact ⟨rfl, by rw [← hZ]; exact HZb.out⟩
            · clear HM2 HD hS3
              go_wp2
              go_ret
              exact ⟨rfl, by rw [← hZ]; exact HZb.out⟩
  · clear HM HH HA HB HSm
    go_wp2
    go_ret
    exact ⟨rfl, HB2.out⟩

end Go.Proofs.Ytkkocnkfdepoiaa
