/-
  scriptlaw14.PairUndoes: it returns true.
-/
import Derived.Test.YtkkocnkfdepoiaaPrAlive
import Derived.Test.YtkkocnkfdepoiaaQRun
import Derived.Test.YtkkocnkfdepoiaaQAfter
import Derived.Test.YtkkocnkfdepoiaaVRun
namespace Go.Proofs.Ytkkocnkfdepoiaa
open Go.RowKit Go.Shelf
set_option maxRecDepth 20000
set_option linter.unusedSimpArgs false
set_option linter.unusedVariables false

set_option maxHeartbeats 4000000 in
theorem pairUndoes_any (w : World) (va vb : Value) (forth back : List K.Rule) (Ra : V.Rus w va forth) (Rb : V.Rus w vb back) (vs : Value) (s : List S.Sp) (Rs : S.Rd w vs s) (Fs : S.Fit s) (vt : Value) (t : List Int) (Rt : L.Rd w vt .i32 t) (ht : t.length ≤ 140737488355328) :
    Calls Try.prog 4 #[va, vb, vs, vt] w fun e w' => e = .returned (.bool true) ∧ Below w.heap.size w w' := by
  have HS : Hid (∀ X, Below w.heap.size w X → Calls Try.prog 6 #[va, vb, vs] X fun e w' => e = .returned (.tuple #[.bool (Pr.sureF forth back s).1, .int .i64 (Pr.sureF forth back s).2]) ∧ Below X.heap.size X w') := fun X hX => pSure_any X va vb forth back (Ra.below hX) (Rb.below hX) vs s (Rs.below hX (Nat.le_refl _)) Fs
  have HA : Hid (∀ X, Below w.heap.size w X → Calls Try.prog 10 #[va, vt] X fun e w' => ∃ v', e = .returned (.tuple #[.agg #[v', .int .i64 (K.runF forth t).1.2.1, .int .i64 (K.runF forth t).1.2.2], .agg #[.int .i64 (K.runF forth t).2.1, .int .i64 (K.runF forth t).2.2]]) ∧ L.Rd w' v' .i32 (K.runF forth t).1.1 ∧ Below X.heap.size X w') := fun X hX => qRun_any X _ forth (Ra.below hX) vt t (Rt.below hX (Nat.le_refl _)) ht
  have hlen := K.runF_len (l := forth) (t := t)
  have HB : Hid (∀ X v, Below w.heap.size w X → L.Rd X v .i32 (K.runF forth t).1.1 → Calls Try.prog 10 #[vb, v] X fun e w' => ∃ v', e = .returned (.tuple #[.agg #[v', .int .i64 (K.runF back (K.runF forth t).1.1).1.2.1, .int .i64 (K.runF back (K.runF forth t).1.1).1.2.2], .agg #[.int .i64 (K.runF back (K.runF forth t).1.1).2.1, .int .i64 (K.runF back (K.runF forth t).1.1).2.2]]) ∧ L.Rd w' v' .i32 (K.runF back (K.runF forth t).1.1).1.1 ∧ Below X.heap.size X w') := fun X v hX hv => qRun_any X _ back (Rb.below hX) v _ hv (by omega)
  have HM : Hid (Pr.sureF forth back s = (true, 0) → (∀ x ∈ t, S.memb s x = true) → ((K.runF forth t).2.1 = 0 → (K.runF back (K.runF forth t).1.1).2.1 = 0 ∧ (K.runF back (K.runF forth t).1.1).1.1 = t) ∧ ((K.runF forth t).2.1 = 0 ∨ (K.runF forth t).2.1 = 3 ∨ (K.runF forth t).2.1 = 4)) := fun h1 h2 => Pr.undone h1 h2
  have HH : Hid (Pr.sureF forth back s = (true, 0) → ∀ X r, Below w.heap.size w X → Calls Try.prog 9 #[vs, .int .i32 r] X fun e w' => e = .returned (.bool (S.memb s r)) ∧ Below X.heap.size X w') := fun h1 X r hX => by
    obtain ⟨hl, N⟩ := S.wrongE_zero.1 (Pr.sureF_true h1).2.2.1
    exact has_any X vs s r (Rs.below hX (Nat.le_refl _)) N hl
  have HT : Hid (L.Rd w vt .i32 t) := Rt
  obtain ⟨ao, cap, rfl⟩ := Ra.len
  obtain ⟨bo, bcap, rfl⟩ := Rb.len
  obtain ⟨so, scap, rfl⟩ := Rs.len
  obtain ⟨xo, xc, rfl, _, hcs⟩ := Rt
  have HCt : Hid (t ≠ [] → ∃ b off, xo = some ⟨b, off, none⟩ ∧ ∀ j z, t[j]? = some z → w.cell? ⟨b, off + j, none⟩ = some (.int .i32 z)) := hcs
  obtain ⟨⟨⟨rt, rs, rp⟩, re, ra⟩, hrun⟩ : ∃ o, K.runF forth t = o := ⟨_, rfl⟩
  rw [hrun] at HA HB HM hlen
  simp only at HA HB HM hlen
  obtain ⟨⟨⟨bt, bs, bp⟩, be, ba⟩, hrun2⟩ : ∃ o, K.runF back rt = o := ⟨_, rfl⟩
  rw [hrun2] at HB HM
  obtain ⟨⟨z, e2⟩, hsu⟩ : ∃ o, Pr.sureF forth back s = o := ⟨_, rfl⟩
  rw [hsu] at HS HM HH
  simp only at HS HB HM
  clear hrun hrun2 hsu Ra Rb Rs Fs hcs
  go_enter Try.func4, Try.ntmps4
  go_wp2_with fail
  refine (pAlive_any w).mono ?_
  rintro e w1 ⟨rfl, b1⟩
  have HB1 : Hid (Below w.heap.size w w1) := b1
  clear b1
  go_wp2_with fail
  refine (HS.out _ HB1.out).mono ?_
  rintro e w2 ⟨rfl, b2⟩
  have HB2 : Hid (Below w.heap.size w w2) := HB1.out.trans (b2.mono HB1.out.size)
  clear b2 HS HB1
  by_cases he : e2 = 0
  · cases z with
    | false =>
      subst he
      clear HM HH
      go_wp2
      go_ret
      exact ⟨rfl, HB2.out⟩
    | true =>
      subst he
      have hM := HM.out rfl
      have hH := HH.out rfl
      have HM1 : Hid ((∀ x ∈ t, S.memb s x = true) → (re = 0 → be = 0 ∧ bt = t) ∧ (re = 0 ∨ re = 3 ∨ re = 4)) := hM
      have HH1 : Hid (∀ X r, Below w.heap.size w X → Calls Try.prog 9 #[.slice so s.length scap, .int .i32 r] X fun e w' => e = .returned (.bool (S.memb s r)) ∧ Below X.heap.size X w') := hH
      clear HM HH hM hH
      go_wp2
      go_loopw [33] (fun i wr => ∃ k : Nat, k ≤ t.length ∧ i = .int .i64 k ∧ Hid ((∀ x ∈ t.take k, S.memb s x = true) ∧ Below w.heap.size w wr)) (fun i _ => t.length - (RowKit.intOf i).toNat)
      case atStart => exact ⟨0, Nat.zero_le _, rfl, ⟨fun x hx => by simp at hx, HB2.out⟩⟩
      case round =>
        obtain ⟨k, hk, rfl, HI⟩ := hrel
        by_cases hlt : k < t.length
        · obtain ⟨x, hx⟩ : ∃ x, t[k]? = some x := ⟨t[k], by simp [hlt]⟩
          obtain ⟨b, off, rfl, hcell⟩ := HCt.out (by intro h; subst h; simp at hlt)
          have c0 := hcell k x hx
          rw [← HI.out.2.cell (p := ⟨b, off + k, none⟩) (L.block_lt c0)] at c0
          have hC := HH1.out wr x HI.out.2
          obtain ⟨y, HY⟩ : ∃ y, Hid (S.memb s x = y) := ⟨_, rfl⟩
          rw [HY.out] at hC
          have HX : Hid (t[k]? = some x) := hx
          clear hcell hx
          go_wp2_with fail
          refine hC.mono ?_
          rintro e w3 ⟨rfl, b3⟩
          have HB3 : Hid (Below w.heap.size w w3) := HI.out.2.trans (b3.mono HI.out.2.size)
          clear b3 hC
          cases y with
          | false =>
            go_wp2
            go_ret
            exact ⟨rfl, HB3.out⟩
          | true =>
            have HN : Hid ((∀ x ∈ t.take (k + 1), S.memb s x = true) ∧ Below w.heap.size w w3) := ⟨fun q hq => by
              rw [List.take_add_one, HX.out, List.mem_append] at hq
              rcases hq with hq | hq
              · exact HI.out.1 q hq
              · simp at hq; rw [hq]; exact HY.out, HB3.out⟩
            go_wp2
            go_roundw
            case rel => exact ⟨k + 1, by omega, by go_num, HN⟩
            case measure => simp [RowKit.intOf]; omega
        · have hkl : k = t.length := by omega
          subst hkl
          have hall := HI.out.1
          rw [List.take_length] at hall
          obtain ⟨m1, m2⟩ := HM1.out hall
          have HM2 : Hid (re = 0 → be = 0 ∧ bt = t) := m1
          have hR := HA.out wr HI.out.2
          clear HA HM1 HH1 hall m1
          go_wp2_with fail
          refine hR.mono ?_
          rintro e x1 ⟨v1, rfl, d1, g1⟩
          obtain ⟨ua, uc, rfl⟩ : ∃ ua uc, v1 = .slice ua rt.length uc := by obtain ⟨a, c, h, _⟩ := d1; exact ⟨a, c, h⟩
          have HB3 : Hid (Below w.heap.size w x1) := HI.out.2.trans (g1.mono HI.out.2.size)
          obtain ⟨Y, hY⟩ : ∃ Y, Y = (x1.alloc (.cells #[.slice ua rt.length uc, .int .i64 rs, .int .i64 rp] 32)).alloc (.cells #[.int .i64 re, .int .i64 ra] 34) := ⟨_, rfl⟩
          have k2 := K.two_boxes (w := x1) (Below.refl _ ((x1.alloc (.cells #[.slice ua rt.length uc, .int .i64 rs, .int .i64 rp] 32)).alloc (.cells #[.int .i64 re, .int .i64 ra] 34)))
          rw [← hY] at k2
          have HYb : Hid (Below w.heap.size w Y) := HB3.out.trans (k2.2.2.1.mono HB3.out.size)
          have HRd : Hid (L.Rd Y (.slice ua rt.length uc) .i32 rt) := d1.below k2.2.2.1 (Nat.le_refl _)
          have HBx : Hid (Y.heap[x1.heap.size + 1]? = some (.cells #[.int .i64 re, .int .i64 ra] 34)) := k2.2.1
          clear d1 g1 hR k2
          by_cases h0 : re = 0
          · obtain ⟨z1, z2⟩ := HM2.out h0
            subst z1 z2 h0
            have hRun := HB.out Y _ HYb.out HRd.out
            clear HB HM2 m2
            go_wp2_with fail
            rw [← hY]
            refine hRun.mono ?_
            clear hY
            rintro e x2 ⟨v2, rfl, d2, g2⟩
            obtain ⟨ub, ud, rfl⟩ : ∃ ua uc, v2 = .slice ua bt.length uc := by obtain ⟨a, c, h, _⟩ := d2; exact ⟨a, c, h⟩
            have p1 := K.blk_below HBx.out g2
            have HB4 : Hid (Below w.heap.size w x2) := HYb.out.trans (g2.mono HYb.out.size)
            obtain ⟨Y2, hY2⟩ : ∃ Y2, Y2 = ((x2.setCell ⟨x1.heap.size + 1, 0, none⟩ (.int .i64 0)).setCell ⟨x1.heap.size + 1, 1, none⟩ (.int .i64 ba)).alloc (.cells #[.slice ub bt.length ud, .int .i64 bs, .int .i64 bp] 32) := ⟨_, rfl⟩
            have hx1 : w.heap.size ≤ x1.heap.size := HB3.out.size
            have hAf := K.after_run hY2 p1 w HB4.out (by omega)
            have HSm := rsame_any Y2 (.slice ub bt.length ud) (.slice xo bt.length xc) bt bt (hAf.2.2.2 _ _ d2) (HT.out.below hAf.2.2.1 (Nat.le_refl _)) (by omega) (by omega)
            obtain ⟨t0, t1, ft0, ft1⟩ := K.box2 p1
            have l7 := (Array.getElem?_eq_some_iff.1 p1).1
            have HB5 : Hid (Below w.heap.size w Y2) := hAf.2.2.1
            clear d2 g2 p1 hRun hAf HRd HBx hx1
            go_wp2_with fail
            rw [← hY2]
            refine HSm.mono ?_
            rintro e x3 ⟨rfl, g3⟩
            have HZ3 : Hid (Below w.heap.size w x3) := HB5.out.trans (g3.mono HB5.out.size)
            clear g3 HSm
            go_wp2
            go_ret
            exact ⟨by simp, HZ3.out⟩
          · clear HB HM2
            have h34 : re = 3 ∨ re = 4 := by omega
            rcases h34 with h3 | h4
            · subst h3
              go_wp2
              go_ret
              exact ⟨rfl, by rw [← hY]; exact HYb.out⟩
            · subst h4
              go_wp2
              go_ret
              exact ⟨rfl, by rw [← hY]; exact HYb.out⟩
  · clear HM HH
    go_wp2
    go_ret
    exact ⟨rfl, HB2.out⟩

end Go.Proofs.Ytkkocnkfdepoiaa
