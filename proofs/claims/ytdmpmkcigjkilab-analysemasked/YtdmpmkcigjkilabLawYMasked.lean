/-
  scriptlaw9.AnalyseMasked: it returns true.
-/
import Derived.Test.YtdmpmkcigjkilabYAlive
import Derived.Test.YtdmpmkcigjkilabYApp
import Derived.Test.YtdmpmkcigjkilabYMath2
import Derived.Test.YtdmpmkcigjkilabQRun
import Derived.Test.YtdmpmkcigjkilabQWhich
import Derived.Test.YtdmpmkcigjkilabMSets
import Derived.Test.YtdmpmkcigjkilabVRun
namespace Go.Proofs.Ytdmpmkcigjkilab
open Go.RowKit Go.Shelf
set_option maxRecDepth 20000
set_option linter.unusedSimpArgs false
set_option linter.unusedVariables false

namespace K
theorem maskedF_zero {l : List Rule} (h : (maskedF l).2.1 = 0) : (rulesF l).1 = 0 ∧ (maskedF l).1 = maskedL l := by
  unfold maskedF at h ⊢
  by_cases h0 : (rulesF l).1 = 0
  · rw [if_pos h0]; exact ⟨h0, rfl⟩
  · rw [if_neg h0] at h; exact absurd h h0
theorem whichF_masked {l : List Rule} {k : Nat} (hE : ∀ r ∈ l, ruleE r = 0) (h : maskAt l k = true) (hk : k < l.length) (t : List Int) (q : Int) : (whichF l t q).2.1 = 0 → (whichF l t q).1 ≠ (k : Int) := by
  unfold whichF
  intro h1
  by_cases hc : (checkF l t).1 = 0
  · rw [if_pos hc] at h1 ⊢
    by_cases hq : q < 0 ∨ (t.length : Int) < q
    · rw [if_pos hq] at h1; exact absurd h1 (by decide)
    · rw [if_neg hq]; exact which_masked hE h hk t q
  · rw [if_neg hc] at h1; exact absurd h1 hc
end K

set_option maxHeartbeats 8000000 in
theorem analyseMasked_any (w : World) (vl : Value) (l : List K.Rule) (R0 : V.Rus w vl l) (hcap : ∀ ao n c, vl = .slice ao n c → n ≤ c) (vt : Value) (t : List Int) (Rt : L.Rd w vt .i32 t) (ht : t.length ≤ 140737488355328) :
    Calls Try.prog 3 #[vl, vt] w fun e w' => e = .returned (.bool true) ∧ Below w.heap.size w w' := by
  have HS : Hid (∀ X, Below w.heap.size w X → Calls Try.prog 9 #[vl] X fun e w' => ∃ v', e = .returned (.tuple #[v', .agg #[.int .i64 (K.maskedF l).2.1, .int .i64 (K.maskedF l).2.2]]) ∧ L.Rd w' v' .i64 (K.maskedF l).1 ∧ Below X.heap.size X w') := fun X hX => yMasked_any X _ l (R0.below hX) hcap
  have HA : Hid (∀ X, Below w.heap.size w X → Calls Try.prog 10 #[vl, vt] X fun e w' => ∃ v', e = .returned (.tuple #[.agg #[v', .int .i64 (K.runF l t).1.2.1, .int .i64 (K.runF l t).1.2.2], .agg #[.int .i64 (K.runF l t).2.1, .int .i64 (K.runF l t).2.2]]) ∧ L.Rd w' v' .i32 (K.runF l t).1.1 ∧ Below X.heap.size X w') := fun X hX => qRun_any X _ l (R0.below hX) vt t (Rt.below hX (Nat.le_refl _)) ht
  have HB : Hid (∀ X v k, Below w.heap.size w X → V.Rus X v (K.without l k) → K.runF (K.without l k) t = K.runF l t → Calls Try.prog 10 #[v, vt] X fun e w' => ∃ v', e = .returned (.tuple #[.agg #[v', .int .i64 (K.runF l t).1.2.1, .int .i64 (K.runF l t).1.2.2], .agg #[.int .i64 (K.runF l t).2.1, .int .i64 (K.runF l t).2.2]]) ∧ L.Rd w' v' .i32 (K.runF l t).1.1 ∧ Below X.heap.size X w') := fun X v k hX hv he => by
    have h := qRun_any X v _ hv vt t (Rt.below hX (Nat.le_refl _)) ht
    rw [he] at h
    exact h
  have HQ : Hid (∀ X (q : Int), K.I64 q → Below w.heap.size w X → Calls Try.prog 12 #[vl, vt, .int .i64 q] X fun e w' => e = .returned (.tuple #[.int .i64 (K.whichF l t q).1, .agg #[.int .i64 (K.whichF l t q).2.1, .int .i64 (K.whichF l t q).2.2]]) ∧ Below X.heap.size X w') := fun X q hq hX => qWhich_any X _ l (R0.below hX) vt t (Rt.below hX (Nat.le_refl _)) ht q hq
  have HLen : Hid ((K.runF l t).1.1.length ≤ 4000) := K.runF_len
  have HZ : Hid ((K.maskedF l).2.1 = 0 → (K.rulesF l).1 = 0 ∧ (K.maskedF l).1 = K.maskedL l) := K.maskedF_zero
  have HR : Hid (V.Rus w vl l) := R0
  obtain ⟨ao, cap, rfl⟩ := R0.len
  have hcp := hcap _ _ _ rfl
  obtain ⟨xo, xc, rfl, _⟩ := Rt
  obtain ⟨rr, hrr⟩ : ∃ o, K.runF l t = o := ⟨_, rfl⟩
  have HRR : Hid (K.runF l t = rr) := hrr
  rw [hrr] at HA HB HLen
  obtain ⟨⟨rt, rs, rp⟩, re, ra⟩ := rr
  obtain ⟨⟨ml, e1, e2⟩, hmf⟩ : ∃ o, K.maskedF l = o := ⟨_, rfl⟩
  rw [hmf] at HS HZ
  simp only at HS HZ HA HB HLen
  clear hrr hmf R0 hcap
  go_enter Try.func3, Try.ntmps3
  go_wp2_with fail
  refine (yAlive_any w).mono ?_
  rintro e w1 ⟨rfl, b1⟩
  have HB1 : Hid (Below w.heap.size w w1) := b1
  clear b1
  go_wp2_with fail
  refine (HS.out _ HB1.out).mono ?_
  rintro e w2 ⟨v2, rfl, d2, b2⟩
  obtain ⟨va, vc, rfl, _, hcv⟩ := d2
  have HB2 : Hid (Below w.heap.size w w2) := HB1.out.trans (b2.mono HB1.out.size)
  have hw2 : w.heap.size ≤ w2.heap.size := HB2.out.size
  have HBa : Hid (∀ o, Below w.heap.size w (w2.alloc o)) := fun o => HB2.out.alloc HB2.out.size o
  have HCV : Hid (ml ≠ [] → ∃ b off, va = some ⟨b, off, none⟩ ∧ ∀ j z, ml[j]? = some z → w2.cell? ⟨b, off + j, none⟩ = some (.int .i64 z)) := hcv
  clear b2 HS HB1 hcv
  by_cases h1 : e1 = 0
  · obtain ⟨z1, z2⟩ := HZ.out h1
    subst h1
    have hl := (K.rulesF_zero z1).1
    have HRu : Hid ((K.rulesF l).1 = 0) := z1
    have HML : Hid (ml = K.maskedL l) := z2
    have hml : ml.length ≤ 200 := by rw [z2]; exact Nat.le_trans (K.maskedN_len l l.length) hl
    clear z1 z2 HZ
    obtain ⟨X, hX⟩ : ∃ X, X = w2.alloc (.cells #[.int .i64 0, .int .i64 e2] 28) := ⟨_, rfl⟩
    have HX : Hid (X = w2.alloc (.cells #[.int .i64 0, .int .i64 e2] 28)) := hX
    have HXB : Hid (Below w.heap.size w X ∧ Below w2.heap.size w2 X) := ⟨by rw [hX]; exact HBa.out _, by rw [hX]; exact (Below.refl _ w2).alloc (Nat.le_refl _) _⟩
    clear hX
    go_wp2
    go_loopw [29] (fun i wr => ∃ j : Nat, j ≤ ml.length ∧ i = .int .i64 j ∧ Hid (Below X.heap.size X wr)) (fun i _ => ml.length - (intOf i).toNat)
    case atStart => exact ⟨0, Nat.zero_le _, rfl, by show Below _ _ _; rw [← HX.out]; exact Below.refl _ _⟩
    case round =>
      obtain ⟨j, hj, rfl, HBr⟩ := hrel
      have HBw : Hid (Below w.heap.size w wr) := HXB.out.1.trans (HBr.out.mono HXB.out.1.size)
      have hwr : w.heap.size ≤ wr.heap.size := HBw.out.size
      by_cases hlt : j < ml.length
      · obtain ⟨z, hz⟩ : ∃ x, ml[j]? = some x := ⟨ml[j], by simp [hlt]⟩
        have hzm := List.mem_of_getElem? hz
        rw [HML.out] at hzm
        obtain ⟨k, rfl, hkl, hma⟩ := K.maskedL_mem hzm
        obtain ⟨g, off, rfl, hcell⟩ := HCV.out (by intro h; subst h; simp at hlt)
        have c0 := hcell j _ hz
        rw [← HXB.out.2.cell (p := ⟨g, off + j, none⟩) (L.block_lt c0)] at c0
        rw [← HBr.out.cell (p := ⟨g, off + j, none⟩) (L.block_lt c0)] at c0
        obtain ⟨p, hp⟩ : ∃ p, l[k]? = some p := ⟨l[k], by simp [hkl]⟩
        obtain ⟨b, bof, _, _, _, _, _, _, _, _, rfl, _⟩ := K.Rus.rule HR.out hp
        have hE := (K.rulesF_zero HRu.out).2.1
        have HRun : Hid (K.runF (K.without l k) t = ((rt, rs, rp), re, ra)) := (K.runF_without HRu.out hma hkl t).trans HRR.out
        have HWn : Hid (∀ q, (K.whichF l t q).2.1 = 0 → (K.whichF l t q).1 ≠ (k : Int)) := fun q => K.whichF_masked hE hma hkl t q
        obtain ⟨ad, had⟩ : ∃ ad, ad = (if cap = k + 1 then some (⟨b, bof, none⟩ : Addr) else Option.map (fun x => x.add ((k + 1) * 7)) (some (⟨b, bof, none⟩ : Addr))) := ⟨_, rfl⟩
        have hal : Below wr.heap.size wr (wr.alloc (.cells #[] 53)).drew := ((Below.refl _ wr).alloc (Nat.le_refl _) _).drew
        have own0 : (wr.alloc (.cells #[] 53)).drew.ownsRow wr.heap.size 53 7 (.slice (some ⟨wr.heap.size, 0, none⟩) 0 0) 0 [] := World.ownsRow_made wr #[] 0 (Nat.le_refl _) (Nat.zero_le _) (by simp)
        obtain ⟨v3, w3, v4, w4, run3, run4, r4, b4, b3⟩ := K.app_without HR.out (HBw.out.trans (hal.mono hwr)) wr.heap.size hwr (by show wr.heap.size ≤ (wr.alloc (.cells #[] 53)).heap.size; simp) _ own0 k hkl hl hcp ad had
        have hsl1 := K.slice_rules (some ⟨b, bof, none⟩) l.length cap k (by omega)
        have hsl2 : ∀ w', (Instr.slice 22 (.slice (some ⟨b, bof, none⟩) l.length cap) (some (.int .i64 ((k : Int) + 1))) none none).run Try.prog w' = .ok (.slice ad (l.length - (k + 1)) (cap - (k + 1))) w' := fun w' => by
          have h := K.slice_rules_from (some ⟨b, bof, none⟩) l.length cap (k + 1) (by omega) hcp w'
          rw [← had, Int.natCast_add] at h
          exact h
        obtain ⟨ao4, c4, rfl⟩ := r4.len
        have HR3 : Hid (∀ ty, (Builtin.append_ #[22, 22] ty #[.slice (some ⟨wr.heap.size, 0, none⟩) 0 0, .slice (some ⟨b, bof, none⟩) k cap]).run Try.prog (wr.alloc (.cells #[] 53)).drew = .ok v3 w3) := run3
        have HR4 : Hid (∀ ty, (Builtin.append_ #[22, 22] ty #[v3, .slice ad (l.length - (k + 1)) (cap - (k + 1))]).run Try.prog w3 = .ok (.slice ao4 (K.without l k).length c4) w4) := run4
        have HU : Hid (V.Rus w4 (.slice ao4 (K.without l k).length c4) (K.without l k) ∧ Below w.heap.size w w4 ∧ Below X.heap.size X w4) := ⟨r4, HBw.out.trans ((hal.trans b4).mono hwr), HBr.out.trans ((hal.trans b4).mono HBr.out.size)⟩
        have hk1 : (k : Int) < l.length := by omega
        have hwrap : IntKind.i64.wrap ((k : Int) + 1) = (k : Int) + 1 := by rw [IntKind.wrap_i64]; omega
        clear hz hzm hma hcell hp hE had own0 run3 run4 r4 b3 b4 hal
        go_wp2
        go_region_held3 (fun w' => True)
          (first | exact trivial | (go_keep; done))
          (first | (refine K.step_run (by rfl) (.tmp 41) (.tmp 44) (by rfl) _ _ v3 w3 (by rfl) (by rfl) HR3.out ?_) | (refine K.step_run (by rfl) (.tmp 45) (.tmp 49) (by rfl) _ _ _ w4 (by rfl) (by rfl) HR4.out ?_) | fail)
        have hRa := HA.out w4 HU.out.2.1
        clear HR3 HR4 hsl1 hsl2 c0
        go_wp2_with fail
        refine hRa.mono ?_
        rintro e x1 ⟨u1, rfl, d1, g1⟩
        obtain ⟨va1, vc1, rfl⟩ : ∃ va vc, u1 = .slice va rt.length vc := by obtain ⟨a, c, h, _⟩ := d1; exact ⟨a, c, h⟩
        obtain ⟨Y, hY⟩ : ∃ Y, Y = (x1.alloc (.cells #[.slice va1 rt.length vc1, .int .i64 rs, .int .i64 rp] 32)).alloc (.cells #[.int .i64 re, .int .i64 ra] 28) := ⟨_, rfl⟩
        have hy := K.two_boxes (w := x1) (Below.refl _ ((x1.alloc (.cells #[.slice va1 rt.length vc1, .int .i64 rs, .int .i64 rp] 32)).alloc (.cells #[.int .i64 re, .int .i64 ra] 28)))
        rw [← hY] at hy
        have b4y : Below w4.heap.size w4 Y := g1.trans (hy.2.2.1.mono g1.size)
        have HY : Hid (Y.heap[x1.heap.size]? = some (.cells #[.slice va1 rt.length vc1, .int .i64 rs, .int .i64 rp] 32) ∧ Y.heap[x1.heap.size + 1]? = some (.cells #[.int .i64 re, .int .i64 ra] 28) ∧ L.Rd Y (.slice va1 rt.length vc1) .i32 rt ∧ Below w.heap.size w Y ∧ Below X.heap.size X Y) := ⟨hy.1, hy.2.1, d1.below hy.2.2.1 (Nat.le_refl _), HU.out.2.1.trans (b4y.mono HU.out.2.1.size), HU.out.2.2.trans (b4y.mono HU.out.2.2.size)⟩
        have hRb := HB.out Y _ k HY.out.2.2.2.1 (HU.out.1.below b4y) HRun.out
        clear hRa d1 g1 hy b4y
        go_wp2_with fail
        rw [← hY]
        refine hRb.mono ?_
        rintro e x2 ⟨u2, rfl, d2, g2⟩
        obtain ⟨va2, vc2, rfl⟩ : ∃ va vc, u2 = .slice va rt.length vc := by obtain ⟨a, c, h, _⟩ := d2; exact ⟨a, c, h⟩
        obtain ⟨Z, hZ⟩ : ∃ Z, Z = (x2.alloc (.cells #[.slice va2 rt.length vc2, .int .i64 rs, .int .i64 rp] 32)).alloc (.cells #[.int .i64 re, .int .i64 ra] 28) := ⟨_, rfl⟩
        have hz := K.two_boxes (w := x2) (Below.refl _ ((x2.alloc (.cells #[.slice va2 rt.length vc2, .int .i64 rs, .int .i64 rp] 32)).alloc (.cells #[.int .i64 re, .int .i64 ra] 28)))
        rw [← hZ] at hz
        have bYz : Below Y.heap.size Y Z := g2.trans (hz.2.2.1.mono g2.size)
        have HZb : Hid (Below w.heap.size w Z ∧ Below X.heap.size X Z) := ⟨HY.out.2.2.2.1.trans (bYz.mono HY.out.2.2.2.1.size), HY.out.2.2.2.2.trans (bYz.mono HY.out.2.2.2.2.size)⟩
        have HSm := rsame_any Z (.slice va1 rt.length vc1) (.slice va2 rt.length vc2) rt rt (HY.out.2.2.1.below bYz (Nat.le_refl _)) (d2.below hz.2.2.1 (Nat.le_refl _)) (by have := HLen.out; omega) (by have := HLen.out; omega)
        have p1 := K.blk_below HY.out.1 g2
        have p2 := K.blk_below HY.out.2.1 g2
        have l1 := (Array.getElem?_eq_some_iff.1 p1).1
        have l2 := (Array.getElem?_eq_some_iff.1 p2).1
        have t0 : ∀ o o', ((x2.alloc o).alloc o').cell? ⟨x1.heap.size, 0, none⟩ = some (.slice va1 rt.length vc1) := fun o o' => K.alloc_cell (K.alloc_cell (K.at_box (i := 0) p1 rfl) o) o'
        have t1 : ∀ o o', ((x2.alloc o).alloc o').cell? ⟨x1.heap.size, 1, none⟩ = some (.int .i64 rs) := fun o o' => K.alloc_cell (K.alloc_cell (K.at_box (i := 1) p1 rfl) o) o'
        have t2 : ∀ o o', ((x2.alloc o).alloc o').cell? ⟨x1.heap.size, 2, none⟩ = some (.int .i64 rp) := fun o o' => K.alloc_cell (K.alloc_cell (K.at_box (i := 2) p1 rfl) o) o'
        have t3 : ∀ o o', ((x2.alloc o).alloc o').cell? ⟨x1.heap.size + 1, 0, none⟩ = some (.int .i64 re) := fun o o' => K.alloc_cell (K.alloc_cell (K.at_box (i := 0) p2 rfl) o) o'
        have t4 : ∀ o o', ((x2.alloc o).alloc o').cell? ⟨x1.heap.size + 1, 1, none⟩ = some (.int .i64 ra) := fun o o' => K.alloc_cell (K.alloc_cell (K.at_box (i := 1) p2 rfl) o) o'
        clear hRb d2 g2 hz bYz p1 p2 hY
        go_wp2_with fail
        rw [← hZ]
        refine HSm.mono ?_
        rintro e x3 ⟨rfl, g3⟩
        have HB5 : Hid (Below w.heap.size w x3 ∧ Below X.heap.size X x3) := ⟨HZb.out.1.trans (g3.mono HZb.out.1.size), HZb.out.2.trans (g3.mono HZb.out.2.size)⟩
        clear g3 HSm hZ t0 t1 t2 t3 t4 HZb HY
        obtain ⟨wo, hwo⟩ : ∃ wo, wo = wr := ⟨_, rfl⟩
        subst hwo
        go_wp2
        go_loopw [90] (fun i wr => ∃ q : Nat, q ≤ t.length ∧ i = .int .i64 q ∧ Hid (Below w.heap.size w wr ∧ Below X.heap.size X wr)) (fun i _ => t.length - (intOf i).toNat)
        case atStart => exact ⟨0, Nat.zero_le _, rfl, HB5.out⟩
        case round =>
          obtain ⟨q, hq, rfl, HBq⟩ := hrel
          have hqs : w.heap.size ≤ wr.heap.size := HBq.out.1.size
          by_cases hql : q < t.length
          · have hW := HQ.out wr q ⟨by omega, by omega⟩ HBq.out.1
            have hN := HWn.out q
            obtain ⟨⟨q0, q1, q2⟩, hwf⟩ : ∃ o, K.whichF l t q = o := ⟨_, rfl⟩
            rw [hwf] at hW hN
            simp only at hW hN
            have HN : Hid (q1 = 0 → q0 ≠ (k : Int)) := hN
            clear hwf hN
            go_wp2_with fail
            refine hW.mono ?_
            rintro e y1 ⟨rfl, g9⟩
            have HB9 : Hid (Below w.heap.size w y1 ∧ Below X.heap.size X y1) := ⟨HBq.out.1.trans (g9.mono hqs), HBq.out.2.trans (g9.mono HBq.out.2.size)⟩
            have HB9a : Hid (∀ o, Below w.heap.size w (y1.alloc o) ∧ Below X.heap.size X (y1.alloc o)) := fun o => ⟨HB9.out.1.alloc HB9.out.1.size o, HB9.out.2.alloc HB9.out.2.size o⟩
            clear hW g9
            by_cases h0 : q1 = 0
            · have hne := HN.out h0
              subst h0
              clear HN
              go_wp2
              go_roundw
              case rel => exact ⟨q + 1, by omega, by go_num, HB9a.out _⟩
              case measure => simp [intOf]; omega
            · clear HN
              go_wp2
              go_roundw
              case rel => exact ⟨q + 1, by omega, by go_num, HB9a.out _⟩
              case measure => simp [intOf]; omega
          · go_wp2
            go_roundw
            case rel => exact ⟨j + 1, by omega, by go_num, HBq.out.2⟩
            case measure => simp [intOf]; omega
      · go_wp2
        go_ret
        exact ⟨rfl, HBw.out⟩
  · clear HZ
    go_wp2
    go_ret
    exact ⟨rfl, HBa.out _⟩

end Go.Proofs.Ytdmpmkcigjkilab
