/-
  scriptref20.Find: what the document's text tells.
-/
import Derived.Test.YtlmmjefplbcapaaGreatSRefWrong
import Derived.Test.YtlmmjefplbcapaaGreatAlRef
import Derived.Test.YtlmmjefplbcapaaGreatQCheckR
import Derived.Test.YtlmmjefplbcapaaGreatQRef
import Derived.Test.YtlmmjefplbcapaaGreatPrEq
namespace Go.Proofs.YtlmmjefplbcapaaGreat
open Go.RowKit Go.Shelf
set_option maxRecDepth 20000
set_option linter.unusedSimpArgs false
set_option linter.unusedVariables false

namespace Fd
theorem near_snoc {X : List Al.Lk} {k j : Nat} {y : Al.Lk} (f : Al.Lk → Bool) (hy : X[k + j]? = some y) : ((X.drop k).take (j + 1)).filter f = ((X.drop k).take j).filter f ++ [y].filter f := by
  rw [List.take_add_one, List.getElem?_drop, hy, List.filter_append]; rfl
theorem checked {l : List K.Rule} {t : List Int} (h1 : (K.rulesF l).1 = 0) (h2 : K.textE t = 0) : (K.checkF l t).1 = 0 := by
  unfold K.checkF
  rw [if_pos h1]; exact h2
end Fd

set_option maxHeartbeats 16000000 in
theorem fdRef_any (w : World) (v : Value) (l : List K.Rule) (R0 : V.Rus w v l) (vt : Value) (t : List Int) (Rt : L.Rd w vt .i32 t) (ht : t.length ≤ 140737488355328) (vp : Value) (p : List Int) (Rp : L.Rd w vp .i32 p) (hp : p.length ≤ 140737488355328) :
    Calls Tryz.prog 5 #[v, vt, vp] w fun e w' => ∃ (v' : Value) (o : List J.Hd × Int × Int), e = .returned (.tuple #[v', .agg #[.int .i64 (Fd.ansF l t p o).2.1, .int .i64 (Fd.ansF l t p o).2.2]]) ∧ Gm.Chk l t o ∧ w'.ownsRow w.heap.size 31 2 v' (Fd.ansF l t p o).1.length (Al.scells (Fd.ansF l t p o).1) ∧ Below w.heap.size w w' := by
  have HA : Hid (∀ o, Below w.heap.size w (w.alloc o)) := fun o => (Below.refl _ w).alloc (Nat.le_refl _) o
  have HLk : Hid (∀ o, Calls Tryz.prog 10 #[v, vt] (w.alloc o) fun e w' => ∃ (v' : Value) (o' : List J.Hd × Int × Int), e = .returned (.tuple #[v', .agg #[.int .i64 (Al.ans l t o').2.1, .int .i64 (Al.ans l t o').2.2]]) ∧ Gm.Chk l t o' ∧ w'.ownsRow (w.alloc o).heap.size 44 5 v' (Al.ans l t o').1.length (Al.lcells (Al.ans l t o').1) ∧ Below (w.alloc o).heap.size (w.alloc o) w') := fun o => alRef_any _ v l (R0.below (HA.out o)) vt t (Rt.below (HA.out o) (Nat.le_refl _)) ht
  have HR : Hid (V.Rus w v l) := R0
  have HT : Hid (L.Rd w vt .i32 t) := Rt
  have HP : Hid (L.Rd w vp .i32 p) := Rp
  obtain ⟨va, vc, rfl⟩ := R0.len
  obtain ⟨xo, xc, rfl, _⟩ := Rt
  obtain ⟨po, pc, rfl, _⟩ := Rp
  clear R0
  go_enter Tryz.func5, Tryz.ntmps5
  go_wp2_with fail
  refine (HLk.out _).mono ?_
  rintro e w1 ⟨v1, o, rfl, hch, own1, b1⟩
  obtain ⟨h1, B1, s1⟩ := K.one_box b1
  have HCh : Hid (Gm.Chk l t o) := hch
  have HFa : Hid ((Al.ans l t o).2.1 = 0 → (Al.ans l t o).2.2 = 0 ∧ (K.rulesF l).1 = 0 ∧ K.textE t = 0 ∧ l.length ≤ 200 ∧ t.length ≤ 4000 ∧ (K.play l (8 * t.length + 40) [] t 0 0).1 = 0 ∧ (K.play l (8 * t.length + 40) [] t 0 0).2.1.length ≤ 4000 ∧ (Al.ans l t o).1.length ≤ 32040 ∧ Fd.Row ((K.play l (8 * t.length + 40) [] t 0 0).2.1.length : Int) 0 (Al.ans l t o).1 ∧ (K.play l (8 * t.length + 40) [] t 0 0).2.1 = (Al.ans l t o).1.flatMap (Al.cameOf l t) ∧ ∀ x ∈ (Al.ans l t o).1, Al.Fits l t x) := Fd.facts hch
  have HAn : Hid (Fd.ansF l t p o = if (Al.ans l t o).2.1 = 0 then (if Fd.wrongF p = 0 then (Fd.hitsF (K.play l (8 * t.length + 40) [] t 0 0).2.1 p (Al.ans l t o).1, 0, 0) else ([], Fd.wrongF p, 1)) else ([], (Al.ans l t o).2.1, (Al.ans l t o).2.2)) := rfl
  generalize Al.ans l t o = an at *
  obtain ⟨X, f1, f2⟩ := an
  simp only at own1 HFa HAn
  obtain ⟨p1, pc1, rfl, hpc1, hat1⟩ := Fd.lies own1
  have HAt : Hid (Fd.At w1 p1 X) := hat1
  have HB1 : Hid (Below w.heap.size w w1 ∧ w1.heap[w.heap.size]? = some (.cells #[.int .i64 0, .int .i64 0] 27)) := ⟨B1, h1⟩
  obtain ⟨x0, x1, f0, f3⟩ := K.box2 h1
  have k0 : ∀ o, (w1.alloc o).cell? ⟨w.heap.size, 0, none⟩ = some (.int .i64 0) := fun o => K.alloc_cell x0 o
  have k1 : ∀ o, (w1.alloc o).cell? ⟨w.heap.size, 1, none⟩ = some (.int .i64 0) := fun o => K.alloc_cell x1 o
  have g0 : ∀ o, (w1.alloc o).frozen? ⟨w.heap.size, 0, none⟩ = false := fun o => K.alloc_free h1 o 0
  have g1 : ∀ o, (w1.alloc o).frozen? ⟨w.heap.size, 1, none⟩ = false := fun o => K.alloc_free h1 o 1
  clear HLk hch own1 b1 B1 h1 hat1 x0 x1 f0 f3
  by_cases q : f1 = 0
  · subst q
    obtain ⟨rfl, z1, z2, hl200, ht4, hp0, hC4, hXl, hRow, hCE, hFit⟩ := HFa.out rfl
    have hck := Fd.checked z1 z2
    obtain ⟨⟨u1, C, u3, u4⟩, hpl⟩ : ∃ z, K.play l (8 * t.length + 40) [] t 0 0 = z := ⟨_, rfl⟩
    rw [hpl] at HAn hp0 hC4 hRow
    have hu1 : u1 = 0 := hp0
    subst hu1
    have HRow : Hid (Fd.Row (C.length : Int) 0 X) := hRow
    have hC4' : C.length ≤ 4000 := hC4
    have HRn : Hid (∀ Y, Below w.heap.size w Y → Calls Tryz.prog 12 #[.slice va l.length vc, .slice xo t.length xc] Y fun e w' => ∃ v', e = .returned (.tuple #[.agg #[v', .int .i64 u3, .int .i64 u4], .agg #[.int .i64 0, .int .i64 0]]) ∧ L.Rd w' v' .i32 C ∧ Below Y.heap.size Y w' ∧ ∃ a c, v' = .slice a C.length c ∧ C.length ≤ c) := fun Y hY => rrun_ok Y _ l (HR.out.below hY) _ t (HT.out.below hY (Nat.le_refl _)) hck 0 C u3 u4 hpl
    have HAn2 : Hid (Fd.ansF l t p o = if K.textE p = 0 then (if p.length = 0 then ([], 6, 1) else (Fd.hitsF C p X, 0, 0)) else ([], K.textE p, 1)) := by
      have := HAn.out
      rw [if_pos rfl] at this
      show _ = _
      rw [this]
      unfold Fd.wrongF
      by_cases q1 : K.textE p = 0
      · by_cases q2 : p.length = 0
        · rw [if_pos q1, if_pos q1, if_pos q2, if_pos q2, if_neg (by decide)]
        · rw [if_pos q1, if_pos q1, if_neg q2, if_neg q2, if_pos rfl]
      · rw [if_neg q1, if_neg q1, if_neg q1]
    have HWr : Hid (∀ o, Calls Tryz.prog 11 #[.slice po p.length pc] (w1.alloc o) fun e w' => e = .returned (.int .i64 (K.textE p)) ∧ Below (w1.alloc o).heap.size (w1.alloc o) w') := fun o => by
      have hb := HB1.out.1.alloc HB1.out.1.size o
      exact rText_any _ _ p (HP.out.below hb (Nat.le_refl _)) hp
    generalize K.textE p = ew at *
    clear HFa HAn z1 z2 hp0 hRow hC4 hCE hFit k0 k1 g0 g1 hck hpl
    go_wp2_with fail
    refine (HWr.out _).mono ?_
    rintro e w2 ⟨rfl, b2⟩
    have hal : Below w1.heap.size w1 (w1.alloc (.cells #[.int .i64 0, .int .i64 0] 27)) := (Below.refl _ w1).alloc (Nat.le_refl _) _
    have hB12 : Below w1.heap.size w1 w2 := hal.trans (b2.mono hal.size)
    have hB2 : Below w.heap.size w w2 := HB1.out.1.trans (hB12.mono HB1.out.1.size)
    have hx2 := K.blk_below HB1.out.2 hB12
    have HB2 : Hid (Below w.heap.size w w2 ∧ w2.heap[w.heap.size]? = some (.cells #[.int .i64 0, .int .i64 0] 27) ∧ Below w1.heap.size w1 w2) := ⟨hB2, hx2, hB12⟩
    obtain ⟨x0, x1, f0, f3⟩ := K.box2 hx2
    have HBd2 : Hid (∀ x y, Below w.heap.size w ((w2.setCell ⟨w.heap.size, 0, none⟩ x).setCell ⟨w.heap.size, 1, none⟩ y)) := fun x y => (hB2.setCell (p := ⟨w.heap.size, 0, none⟩) (Nat.le_refl _) _).setCell (p := ⟨w.heap.size, 1, none⟩) (Nat.le_refl _) _
    clear b2 hal hB12 hB2 HWr hx2
    by_cases q2 : ew = 0
    · subst q2
      have hA := HAn2.out
      rw [if_pos rfl] at hA
      by_cases q3 : p.length = 0
      · rw [if_pos q3] at hA
        have HA2 : Hid _ := hA
        clear hA
        have u0 : (p.length : Int) = 0 := by omega
        clear HAn2
        go_wp2
        refine bodyPost_ret (v := .tuple #[.slice none 0 0, .agg #[.int .i64 6, .int .i64 1]]) (by simp [results, Tryz.results5, go_sem, *]) rfl ?_
        exact ⟨_, o, by rw [HA2.out], HCh.out, by rw [HA2.out]; exact World.ownsRow_nil _ _ _ _, HBd2.out _ _⟩
      · rw [if_neg q3] at hA
        have HA2 : Hid _ := hA
        clear hA
        have u0 : ¬ (p.length : Int) = 0 := by omega
        have hp0 : 0 < p.length := by omega
        clear HAn2 x0 x1 f0 f3 HBd2
        go_wp2_with fail
        refine (HRn.out w2 HB2.out.1).mono ?_
        rintro e w3 ⟨v3, rfl, d3, b3, uo, uc, rfl, huc⟩
        obtain ⟨W, hW⟩ : ∃ W, W = (w3.alloc (.cells #[.slice uo C.length uc, .int .i64 u3, .int .i64 u4] 40)).alloc (.cells #[.int .i64 0, .int .i64 0] 27) := ⟨_, rfl⟩
        have hb3 : Below w3.heap.size w3 W := by rw [hW]; exact ((Below.refl _ w3).alloc (Nat.le_refl _) _).alloc (by simp) _
        have hB3 : Below w.heap.size w w3 := HB2.out.1.trans (b3.mono HB2.out.1.size)
        have hOut : W.heap[w3.heap.size]? = some (.cells #[.slice uo C.length uc, .int .i64 u3, .int .i64 u4] 40) := by
          rw [hW]
          exact (Below.heap_alloc (w3.alloc _) _ _ (by simp)).trans (heap_alloc_new w3 _)
        have hBW : Below w.heap.size w W := hB3.trans (hb3.mono hB3.size)
        have HW : Hid (Below w.heap.size w W ∧ W.heap[w.heap.size]? = some (.cells #[.int .i64 0, .int .i64 0] 27) ∧ W.heap[w3.heap.size]? = some (.cells #[.slice uo C.length uc, .int .i64 u3, .int .i64 u4] 40) ∧ L.Rd W (.slice uo C.length uc) .i32 C ∧ Fd.At W p1 X ∧ L.Rd W (.slice po p.length pc) .i32 p) := ⟨hBW, K.blk_below (K.blk_below HB2.out.2.1 b3) hb3, hOut, d3.below hb3 (Nat.le_refl _), ((HAt.out.below HB2.out.2.2).below b3).below hb3, HP.out.below hBW (Nat.le_refl _)⟩
        clear HRn d3 b3 hb3 hB3 hOut hBW
        go_upto_region 10 with fail
        rw [← hW]
        clear hW
        generalize w3.heap.size = bo at *
        clear HB2 HB1 HAt HA HR HT HP
        go_wp2
        go_loopw [13, 46] (fun i13 i46 wr => ∃ (k : Nat) (xs : List (Int × Int)) (vo : Option Addr) (vc : Nat), k ≤ X.length ∧ i46 = .int .i64 k ∧ i13 = .slice vo xs.length vc ∧ Hid (xs = (X.take k).flatMap (Fd.hit C p X)) ∧ Hid (wr.ownsRow W.heap.size 31 2 (.slice vo xs.length vc) xs.length (Al.scells xs) ∧ Below W.heap.size W wr)) (fun _ i46 _ => X.length - (RowKit.intOf i46).toNat)
        case atStart => exact ⟨0, [], none, 0, Nat.zero_le _, rfl, rfl, rfl, World.ownsRow_nil _ _ _ _, Below.refl _ _⟩
        case round =>
          obtain ⟨k, xs, vo, vc', hk, rfl, rfl, HZ, HI⟩ := hrel
          have hBr : Below w.heap.size w wr := HW.out.1.trans (HI.out.2.mono HW.out.1.size)
          by_cases hlt : k < X.length
          · obtain ⟨x, hx⟩ : ∃ x, X[k]? = some x := ⟨X[k], by simp [hlt]⟩
            obtain ⟨g, rfl, hg, hc⟩ := HW.out.2.2.2.2.1 (by omega)
            have hcell : ∀ {Y : World} (_ : Below W.heap.size W Y) (j : Nat) (u : Value), (Al.lcells X)[j]? = some u → Y.cell? ⟨g, j, none⟩ = some u := fun hb j u hu => (hb.cell (p := ⟨g, _, none⟩) hg).trans (hc j u hu)
            have HCell : Hid (∀ {Y : World} (_ : Below W.heap.size W Y) (j : Nat) (u : Value), (Al.lcells X)[j]? = some u → Y.cell? ⟨g, j, none⟩ = some u) := hcell
            obtain ⟨a0, a1, a2, a3, a4⟩ := Al.lcells_at hx
            have c0 := hcell HI.out.2 _ _ a0
            have c1 := hcell HI.out.2 _ _ a1
            have c2 := hcell HI.out.2 _ _ a2
            have c3 := hcell HI.out.2 _ _ a3
            have c4 := hcell HI.out.2 _ _ a4
            obtain ⟨z1, z2, z3⟩ := HRow.out.at hx
            have hnh := Fd.near_hit (C := C) (p := p) HRow.out hx hp0
            have hsn := Fd.hits_snoc (C := C) (p := p) hx
            rw [← HZ.out, ← hnh] at hsn
            have HX : Hid (X[k]? = some x) := hx
            obtain ⟨q1, q2, q3, q4, q5⟩ := x
            simp only at c0 c1 c2 c3 c4 z1 z2 z3
            obtain ⟨ib, hib⟩ : ∃ a : Nat, q3 = a := ⟨q3.toNat, by omega⟩
            subst hib
            have HSn : Hid ((X.take (k + 1)).flatMap (Fd.hit C p X) = xs ++ ((X.drop k).filter (Fd.near C p ⟨q1, q2, ib, q4, q5⟩)).map (fun y => (q1, y.up))) := hsn
            have hxs : xs.length ≤ 1026561600 := by have := Fd.hits_le (C := C) (p := p) hXl hk; rw [← HZ.out] at this; exact this
            obtain ⟨N, hN⟩ : ∃ N, N = X.length - k := ⟨_, rfl⟩
            have hs := Fd.from_at (some ⟨g, 0, none⟩) g X.length pc1 k rfl hlt hpc1
            rw [← hN] at hs
            have hN1 : N + k ≤ X.length := by omega
            have hN2 : X.length ≤ N + k := by omega
            obtain ⟨bx, hbx⟩ : ∃ bx, bx = wr.heap.size := ⟨_, rfl⟩
            obtain ⟨W1, hW1⟩ : ∃ W1, W1 = wr.alloc (.cells #[.int .i64 q1, .int .i64 q2, .int .i64 ib, .int .i64 q4, .int .i64 q5] 44) := ⟨_, rfl⟩
            have hb1 : Below wr.heap.size wr W1 := by rw [hW1]; exact (Below.refl _ wr).alloc (Nat.le_refl _) _
            have HW1 : Hid (W1.ownsRow W.heap.size 31 2 (.slice vo xs.length vc') xs.length (Al.scells xs) ∧ Below W.heap.size W W1 ∧ W1.heap[bx]? = some (.cells #[.int .i64 q1, .int .i64 q2, .int .i64 ib, .int .i64 q4, .int .i64 q5] 44)) := ⟨by rw [hW1]; exact HI.out.1.alloc _, HI.out.2.trans (hb1.mono HI.out.2.size), by rw [hbx, hW1]; exact heap_alloc_new wr _⟩
            clear hc hcell hb1 a0 a1 a2 a3 a4 hx hnh hsn hN hBr HI
            go_upto_region 14 with fail
            try rw [← hW1, ← hbx]
            clear hW1 hbx c0 c1 c2 c3 c4
            go_wp2
            go_loopw [13, 55] (fun i13 i55 wi => ∃ (j : Nat) (ys : List (Int × Int)) (vo2 : Option Addr) (vc2 : Nat), j ≤ N ∧ i55 = .int .i64 j ∧ i13 = .slice vo2 ys.length vc2 ∧ ys.length ≤ 1026561600 + j ∧ Hid (ys = xs ++ (((X.drop k).take j).filter (Fd.near C p ⟨q1, q2, ib, q4, q5⟩)).map (fun y => (q1, y.up))) ∧ Hid (wi.ownsRow W.heap.size 31 2 (.slice vo2 ys.length vc2) ys.length (Al.scells ys) ∧ Below W.heap.size W wi ∧ wi.heap[bx]? = some (.cells #[.int .i64 q1, .int .i64 q2, .int .i64 ib, .int .i64 q4, .int .i64 q5] 44))) (fun _ i55 _ => N - (RowKit.intOf i55).toNat)
            case atStart => exact ⟨0, xs, vo, vc', Nat.zero_le _, rfl, rfl, by omega, by show _ = _; simp, HW1.out⟩
            case round =>
              obtain ⟨j, ys, vo2, vc2, hj, rfl, rfl, hyl, HYs, HI2⟩ := hrel
              by_cases hjN : j < N
              · obtain ⟨y, hy⟩ : ∃ y, X[k + j]? = some y := ⟨X[k + j]'(by omega), by simp [show k + j < X.length by omega]⟩
                obtain ⟨a0, a1, a2, a3, a4⟩ := Al.lcells_at hy
                rw [Nat.add_mul] at a0 a1 a2 a3 a4
                have d0 := HCell.out HI2.out.2.1 _ _ a0
                have d1 := HCell.out HI2.out.2.1 _ _ a1
                have d2 := HCell.out HI2.out.2.1 _ _ a2
                have d3 := HCell.out HI2.out.2.1 _ _ a3
                have d4 := HCell.out HI2.out.2.1 _ _ a4
                have HNs : Hid (((X.drop k).take (j + 1)).filter (Fd.near C p ⟨q1, q2, ib, q4, q5⟩) = ((X.drop k).take j).filter (Fd.near C p ⟨q1, q2, ib, q4, q5⟩) ++ [y].filter (Fd.near C p ⟨q1, q2, ib, q4, q5⟩)) := Fd.near_snoc _ hy
                have g2 := HRow.out.begs HX.out hy (by omega)
                have g3 := HRow.out.at hy
                have hNe : Fd.near C p ⟨q1, q2, ib, q4, q5⟩ y = (decide (y.fin - (ib : Int) = (p.length : Int)) && decide ((C.drop (ib : Int).toNat).take (y.fin.toNat - (ib : Int).toNat) = p)) := rfl
                obtain ⟨s1', s2', s3', s4', s5'⟩ := y
                simp only at d0 d1 d2 d3 d4 g2 g3 hNe
                obtain ⟨ie, hie⟩ : ∃ a : Nat, s4' = a := ⟨s4'.toNat, by omega⟩
                subst hie
                rw [Int.toNat_natCast, Int.toNat_natCast] at hNe
                obtain ⟨W3, hW3⟩ : ∃ W3, W3 = wr.alloc (.cells #[.int .i64 s1', .int .i64 s2', .int .i64 s3', .int .i64 ie, .int .i64 s5'] 44) := ⟨_, rfl⟩
                obtain ⟨by', hby⟩ : ∃ b, b = wr.heap.size := ⟨_, rfl⟩
                have hb3 : Below wr.heap.size wr W3 := by rw [hW3]; exact (Below.refl _ wr).alloc (Nat.le_refl _) _
                have HW3 : Hid (W3.ownsRow W.heap.size 31 2 (.slice vo2 ys.length vc2) ys.length (Al.scells ys) ∧ Below W.heap.size W W3 ∧ W3.heap[bx]? = some (.cells #[.int .i64 q1, .int .i64 q2, .int .i64 ib, .int .i64 q4, .int .i64 q5] 44) ∧ W3.heap[by']? = some (.cells #[.int .i64 s1', .int .i64 s2', .int .i64 s3', .int .i64 ie, .int .i64 s5'] 44)) := ⟨by rw [hW3]; exact HI2.out.1.alloc _, HI2.out.2.1.trans (hb3.mono HI2.out.2.1.size), K.blk_below HI2.out.2.2 hb3, by rw [hby, hW3]; exact heap_alloc_new wr _⟩
                have e0 := K.at_box (i := 0) HW3.out.2.2.1 rfl
                have e2 := K.at_box (i := 2) HW3.out.2.2.1 rfl
                have o1 := K.at_box (i := 1) HW3.out.2.2.2 rfl
                have o3 := K.at_box (i := 3) HW3.out.2.2.2 rfl
                have t0 := K.at_box (i := 0) (K.blk_below HW.out.2.2.1 HW3.out.2.1) rfl
                have hwr : IntKind.i64.wrap ((ie : Int) - (ib : Int)) = (ie : Int) - (ib : Int) := by rw [IntKind.wrap_i64]; omega
                clear hy a0 a1 a2 a3 a4 hb3 HI2
                go_upto_region 17 with fail
                try rw [← hW3, ← hby]
                clear hW3 hby d0 d1 d2 d3 d4
                by_cases hm : (ie : Int) - (ib : Int) = (p.length : Int)
                · obtain ⟨ap, hap⟩ : ∃ ap, ap = (if uc = ib then uo else Option.map (fun x => x.add ib) uo) := ⟨_, rfl⟩
                  have u2 : ¬ (C.length : Int) < ie := by omega
                  have u3 : ¬ (ie : Int) < ib := by omega
                  have hsl : ∀ w', (Instr.slice 23 (.slice uo C.length uc) (some (.int .i64 (ib : Int))) (some (.int .i64 (ie : Int))) none).run Tryz.prog w' = .ok (.slice ap (ie - ib) (uc - ib)) w' := fun w' => by rw [hap]; exact Al.slice_mid uo C.length uc ib ie (by omega) (by omega) w'
                  have hrw := Al.rd_win (HW.out.2.2.2.1.below HW3.out.2.1 (Nat.le_refl _)) (a := ib) (b := ie) (by omega) (by omega) huc
                  rw [← hap] at hrw
                  have HSm : Hid (Calls Tryz.prog 13 #[.slice ap (ie - ib) (uc - ib), .slice po p.length pc] W3 fun e w' => e = .returned (.bool (decide ((C.drop ib).take (ie - ib) = p))) ∧ Below W3.heap.size W3 w') := rsame_any W3 _ _ _ p hrw (HW.out.2.2.2.2.2.below HW3.out.2.1 (Nat.le_refl _)) (by rw [List.length_take, List.length_drop]; omega) (by omega)
                  have hNe2 : Fd.near C p ⟨q1, q2, ib, q4, q5⟩ ⟨s1', s2', s3', ie, s5'⟩ = decide ((C.drop ib).take (ie - ib) = p) := by rw [hNe, decide_eq_true hm, Bool.true_and]
                  have HNe : Hid (Fd.near C p ⟨q1, q2, ib, q4, q5⟩ ⟨s1', s2', s3', ie, s5'⟩ = decide ((C.drop ib).take (ie - ib) = p)) := hNe2
                  generalize decide ((C.drop ib).take (ie - ib) = p) = qb at *
                  clear hap hrw hNe hNe2
                  go_wp2_with fail
                  refine HSm.out.mono ?_
                  rintro e w5 ⟨rfl, b5⟩
                  have own5 := L.owns_below HW3.out.1 b5 (Nat.le_refl _)
                  have hB5 : Below W.heap.size W w5 := HW3.out.2.1.trans (b5.mono HW3.out.2.1.size)
                  have hx5 := K.blk_below HW3.out.2.2.1 b5
                  have hy5 := K.blk_below HW3.out.2.2.2 b5
                  cases qb with
                  | true =>
                    obtain ⟨ao1, vc1, w6, run1, own6, be6, kp6⟩ := Fd.app own5 hB5.size (by omega) [.int .i64 q1, .int .i64 s2'] rfl (fun u hu => by simp at hu; rcases hu with rfl | rfl <;> rfl)
                    have f0 := K.at_box (i := 0) hx5 rfl
                    have f1 := K.at_box (i := 1) hy5 rfl
                    have HYn : Hid (ys ++ [(q1, s2')] = xs ++ (((X.drop k).take (j + 1)).filter (Fd.near C p ⟨q1, q2, ib, q4, q5⟩)).map (fun y => (q1, y.up))) := by
                      show _ = _
                      rw [HNs.out, List.filter_cons_of_pos HNe.out, List.filter_nil, List.map_append, HYs.out, List.append_assoc]; rfl
                    have HL : Hid ((ys ++ [(q1, s2')]).length = ys.length + 1) := by show _ = _; simp
                    have HO6 : Hid (w6.ownsRow W.heap.size 31 2 (.slice ao1 (ys.length + 1) vc1) (ys.length + 1) (Al.scells (ys ++ [(q1, s2')])) ∧ Below W.heap.size W w6 ∧ w6.heap[bx]? = some (.cells #[.int .i64 q1, .int .i64 q2, .int .i64 ib, .int .i64 q4, .int .i64 q5] 44)) := ⟨by rw [Al.scells_append]; exact own6, hB5.trans be6, kp6 _ _ hx5⟩
                    clear HSm b5 own5 hB5 hx5 hy5 own6 be6 kp6 e0 e2 o1 o3
                    go_wp2_with (at_builtin; refine Lib.wpList_append_run _ rfl _ _ _ _ rfl _ _ rfl rfl _ _ (run1 _) ?_; clear run1)
                    go_roundw
                    case rel => exact ⟨j + 1, ys ++ [(q1, s2')], ao1, vc1, by omega, by go_num, by rw [HL.out], by rw [HL.out]; omega, HYn.out, by show _ ∧ _; rw [HL.out]; exact HO6.out⟩
                    case measure => simp [RowKit.intOf]; omega
                  | false =>
                    have HYn : Hid (ys = xs ++ (((X.drop k).take (j + 1)).filter (Fd.near C p ⟨q1, q2, ib, q4, q5⟩)).map (fun y => (q1, y.up))) := by
                      show _ = _
                      rw [HNs.out, List.filter_cons_of_neg (by rw [HNe.out]; simp), List.filter_nil, List.append_nil]; exact HYs.out
                    have HO5 : Hid (w5.ownsRow W.heap.size 31 2 (.slice vo2 ys.length vc2) ys.length (Al.scells ys) ∧ Below W.heap.size W w5 ∧ w5.heap[bx]? = some (.cells #[.int .i64 q1, .int .i64 q2, .int .i64 ib, .int .i64 q4, .int .i64 q5] 44)) := ⟨own5, hB5, hx5⟩
                    clear HSm b5 own5 hB5 hx5 hy5
                    go_wp2
                    go_roundw
                    case rel => exact ⟨j + 1, ys, vo2, vc2, by omega, by go_num, rfl, by omega, HYn.out, HO5.out⟩
                    case measure => simp [RowKit.intOf]; omega
                · have hnf : Fd.near C p ⟨q1, q2, ib, q4, q5⟩ ⟨s1', s2', s3', ie, s5'⟩ = false := by rw [hNe, decide_eq_false hm]; rfl
                  have HYn : Hid (ys = xs ++ (((X.drop k).take (j + 1)).filter (Fd.near C p ⟨q1, q2, ib, q4, q5⟩)).map (fun y => (q1, y.up))) := by
                    show _ = _
                    rw [HNs.out, List.filter_cons_of_neg (by rw [hnf]; simp), List.filter_nil, List.append_nil]; exact HYs.out
                  clear hNe hnf
                  go_wp2
                  go_roundw
                  case rel => exact ⟨j + 1, ys, vo2, vc2, by omega, by go_num, rfl, by omega, HYn.out, HW3.out.1, HW3.out.2.1, HW3.out.2.2.1⟩
                  case measure => simp [RowKit.intOf]; omega
              · have HFin : Hid (ys = (X.take (k + 1)).flatMap (Fd.hit C p X)) := by
                  show _ = _
                  rw [HSn.out, HYs.out, List.take_of_length_le (by rw [List.length_drop]; omega)]
                go_wp2
                go_roundw
                case rel => exact ⟨k + 1, ys, vo2, vc2, by omega, by go_num, rfl, HFin.out, HI2.out.1, HI2.out.2.1⟩
                case measure => simp [RowKit.intOf]; omega
          · have hke : k = X.length := by omega
            have hz := HZ.out
            rw [hke, List.take_length] at hz
            have hz2 : Fd.hitsF C p X = xs := hz.symm
            have hx7 := K.blk_below HW.out.2.1 HI.out.2
            obtain ⟨x0, x1, f0, f3⟩ := K.box2 hx7
            have HOut : Hid (((wr.setCell ⟨w.heap.size, 0, none⟩ (.int .i64 0)).setCell ⟨w.heap.size, 1, none⟩ (.int .i64 0)).ownsRow w.heap.size 31 2 (.slice vo xs.length vc') xs.length (Al.scells xs) ∧ Below w.heap.size w ((wr.setCell ⟨w.heap.size, 0, none⟩ (.int .i64 0)).setCell ⟨w.heap.size, 1, none⟩ (.int .i64 0))) := by
              refine ⟨Al.held (L.owns_base HI.out.1 HW.out.1.size) fun k hk hlt => ?_, (hBr.setCell (p := ⟨w.heap.size, 0, none⟩) (Nat.le_refl _) _).setCell (p := ⟨w.heap.size, 1, none⟩) (Nat.le_refl _) _⟩
              have hk2 := (HI.out.1.lt k hk).1
              have hs3 := lt_of_block HW.out.2.1
              have hn : k ≠ w.heap.size := by omega
              rw [heap_setCell_other _ ⟨w.heap.size, 1, none⟩ k _ (by simpa using hn), heap_setCell_other _ ⟨w.heap.size, 0, none⟩ k _ (by simpa using hn)]
            have HZ2 : Hid (Fd.hitsF C p X = xs) := hz2
            clear hke hz hz2 hx7 hBr HI
            go_wp2
            refine bodyPost_ret (v := .tuple #[.slice vo xs.length vc', .agg #[.int .i64 0, .int .i64 0]]) (by simp [results, Tryz.results5, go_sem, *]) rfl ?_
            exact ⟨_, o, by rw [HA2.out], HCh.out, by rw [HA2.out, HZ2.out]; exact HOut.out.1, HOut.out.2⟩
    · have hA := HAn2.out
      rw [if_neg q2] at hA
      have HA2 : Hid _ := hA
      clear hA
      clear HAn2
      go_wp2
      refine bodyPost_ret (v := .tuple #[.slice none 0 0, .agg #[.int .i64 ew, .int .i64 1]]) (by simp [results, Tryz.results5, go_sem, *]) rfl ?_
      exact ⟨_, o, by rw [HA2.out], HCh.out, by rw [HA2.out]; exact World.ownsRow_nil _ _ _ _, HBd2.out _ _⟩
  · have hA := HAn.out
    rw [if_neg q] at hA
    have HBd : Hid (∀ o x y, Below w.heap.size w (((w1.alloc o).setCell ⟨w.heap.size, 0, none⟩ x).setCell ⟨w.heap.size, 1, none⟩ y)) := fun o x y => ((HB1.out.1.alloc HB1.out.1.size o).setCell (p := ⟨w.heap.size, 0, none⟩) (Nat.le_refl _) _).setCell (p := ⟨w.heap.size, 1, none⟩) (Nat.le_refl _) _
    have HA2 : Hid _ := hA
    clear hA
    clear HFa HAn
    go_wp2
    go_region
    go_wp2
    refine bodyPost_ret (v := .tuple #[.slice none 0 0, .agg #[.int .i64 f1, .int .i64 f2]]) (by simp [results, Tryz.results5, go_sem, *]) rfl ?_
    exact ⟨_, o, by rw [HA2.out], HCh.out, by rw [HA2.out]; exact World.ownsRow_nil _ _ _ _, (HBd.out _ _ _).drew⟩

end Go.Proofs.YtlmmjefplbcapaaGreat

/-
  scriptlaw20.FindTells: it returns true.
-/
namespace Go.Proofs.YtlmmjefplbcapaaGreat
open Go.RowKit Go.Shelf
set_option maxRecDepth 20000
set_option linter.unusedSimpArgs false
set_option linter.unusedVariables false

theorem Fd.ans_len {l : List K.Rule} {t p : List Int} {o : List J.Hd × Int × Int} (h : Gm.Chk l t o) : (Fd.ansF l t p o).1.length ≤ 1026561600 := by
  unfold Fd.ansF
  by_cases h1 : (Al.ans l t o).2.1 = 0
  · rw [if_pos h1]
    split
    · have hX := (Fd.facts h h1).2.2.2.2.2.2.2.1
      have := Fd.hits_le (C := (K.play l (8 * t.length + 40) [] t 0 0).2.1) (p := p) hX (Nat.le_refl _)
      rw [List.take_length] at this
      exact this
    · simp
  · rw [if_neg h1]; simp

set_option maxHeartbeats 8000000 in
theorem findTells_any (w : World) (v : Value) (l : List K.Rule) (R0 : V.Rus w v l) (vt : Value) (t : List Int) (Rt : L.Rd w vt .i32 t) (hcap : ∀ a n c, vt = .slice a n c → t.length ≤ c) (ht : t.length ≤ 140737488355328) (vp : Value) (p : List Int) (Rp : L.Rd w vp .i32 p) (hp : p.length ≤ 140737488355328) :
    Calls Tryz.prog 3 #[v, vt, vp] w fun e w' => e = .returned (.bool true) ∧ Below w.heap.size w w' := by
  have H1 := fdFind_any w v l R0 vt t Rt hcap ht vp p Rp hp
  have H2 : Hid (∀ X, Below w.heap.size w X → Calls Tryz.prog 5 #[v, vt, vp] X fun e w' => ∃ (v' : Value) (o : List J.Hd × Int × Int), e = .returned (.tuple #[v', .agg #[.int .i64 (Fd.ansF l t p o).2.1, .int .i64 (Fd.ansF l t p o).2.2]]) ∧ Gm.Chk l t o ∧ w'.ownsRow X.heap.size 31 2 v' (Fd.ansF l t p o).1.length (Al.scells (Fd.ansF l t p o).1) ∧ Below X.heap.size X w') := fun X hX => fdRef_any X v l (R0.below hX) vt t (Rt.below hX (Nat.le_refl _)) ht vp p (Rp.below hX (Nat.le_refl _)) hp
  have HS : Hid (∀ o : List J.Hd × Int × Int, Gm.Chk l t o → (Fd.ansF l t p o).1.length ≤ 1026561600) := fun o ho => Fd.ans_len ho
  obtain ⟨va, vc, rfl⟩ := R0.len
  obtain ⟨xo, xc, rfl, _⟩ := Rt
  obtain ⟨po, pc, rfl, _⟩ := Rp
  clear R0 hcap
  go_enter Tryz.func3, Tryz.ntmps3
  go_wp2_with fail
  refine H1.mono ?_
  rintro e w1 ⟨v1, o, rfl, hch, own1, b1⟩
  have hX := HS.out o hch
  have HCh : Hid (Gm.Chk l t o) := hch
  have HO : Hid (∀ o', Gm.Chk l t o' → Fd.ansF l t p o' = Fd.ansF l t p o) := fun o' ho' => by rw [Al.chk_one ho' HCh.out]
  generalize Fd.ansF l t p o = z at *
  obtain ⟨X, f1, f2⟩ := z
  simp only at own1 hX HO
  obtain ⟨p1, pc1, rfl, hc1⟩ := Al.lies own1
  have HOwn1 : Hid (0 < X.length → ∃ g, p1 = some ⟨g, 0, none⟩ ∧ g < w1.heap.size ∧ ∀ j u, (Al.scells X)[j]? = some u → w1.cell? ⟨g, j, none⟩ = some u) := hc1
  have HB1 : Hid (Below w.heap.size w w1) := b1
  have H2o : Hid (∀ o, Calls Tryz.prog 5 #[.slice va l.length vc, .slice xo t.length xc, .slice po p.length pc] (w1.alloc o) fun e w' => ∃ (v' : Value), e = .returned (.tuple #[v', .agg #[.int .i64 f1, .int .i64 f2]]) ∧ w'.ownsRow (w1.alloc o).heap.size 31 2 v' X.length (Al.scells X) ∧ Below (w1.alloc o).heap.size (w1.alloc o) w') := fun o1 => by
    refine (H2.out _ (HB1.out.alloc HB1.out.size o1)).mono ?_
    rintro e w2 ⟨v2, o2, h1, h2, h3, h4⟩
    rw [HO.out o2 h2] at h1 h3
    exact ⟨v2, h1, h3, h4⟩
  clear H1 H2 HS hch own1 b1 hc1 HCh HO
  go_wp2_with fail
  go_at_call 5
  refine (H2o.out _).mono ?_
  rintro e w2 ⟨v2, rfl, own2, b2⟩
  obtain ⟨h9, B2, s2⟩ := K.one_box b2
  obtain ⟨p2, pc2, rfl, hc2⟩ := Al.lies own2
  have HOwn2 : Hid (0 < X.length → ∃ g, p2 = some ⟨g, 0, none⟩ ∧ g < w2.heap.size ∧ ∀ j u, (Al.scells X)[j]? = some u → w2.cell? ⟨g, j, none⟩ = some u) := hc2
  have HB2 : Hid (Below w1.heap.size w1 w2) := B2
  obtain ⟨x0, x1, _, _⟩ := K.box2 h9
  have k0 : ∀ o, (w2.alloc o).cell? ⟨w1.heap.size, 0, none⟩ = some (.int .i64 f1) := fun o => K.alloc_cell x0 o
  have k1 : ∀ o, (w2.alloc o).cell? ⟨w1.heap.size, 1, none⟩ = some (.int .i64 f2) := fun o => K.alloc_cell x1 o
  obtain ⟨W, hW⟩ : ∃ W, W = w2.alloc (.cells #[.int .i64 f1, .int .i64 f2] 27) := ⟨_, rfl⟩
  have HW : Hid (Below w2.heap.size w2 W) := by show Below _ _ _; rw [hW]; exact (Below.refl _ w2).alloc (Nat.le_refl _) _
  clear H2o own2 b2 B2 h9 hc2 x0 x1
  go_wp2
  try rw [← hW]
  go_loopw [11, 38] (fun i11 i38 wr => ∃ (k : Nat), k ≤ X.length ∧ i38 = .int .i64 k ∧ Hid (Below W.heap.size W wr)) (fun _ i38 _ => X.length - (RowKit.intOf i38).toNat)
  case atStart => exact ⟨0, Nat.zero_le _, rfl, Below.refl _ _⟩
  case round =>
    obtain ⟨k, hk, rfl, HI⟩ := hrel
    by_cases hlt : k < X.length
    · obtain ⟨x, hx⟩ : ∃ x, X[k]? = some x := ⟨X[k], by simp [hlt]⟩
      obtain ⟨g1, rfl, hg1, hc1⟩ := HOwn1.out (by omega)
      obtain ⟨g2, rfl, hg2, hc2⟩ := HOwn2.out (by omega)
      have hB1 : Below w1.heap.size w1 wr := (HB2.out.trans (HW.out.mono HB2.out.size)).trans (HI.out.mono (by have := HB2.out.size; have := HW.out.size; omega))
      have hB2 : Below w2.heap.size w2 wr := HW.out.trans (HI.out.mono HW.out.size)
      obtain ⟨a0, a1⟩ := Al.scells_at hx
      have c0 : wr.cell? ⟨g1, k * 2, none⟩ = _ := (hB1.cell (p := ⟨g1, _, none⟩) hg1).trans (hc1 _ _ a0)
      have c1 : wr.cell? ⟨g1, k * 2 + 1, none⟩ = _ := (hB1.cell (p := ⟨g1, _, none⟩) hg1).trans (hc1 _ _ a1)
      have d0 : wr.cell? ⟨g2, k * 2, none⟩ = _ := (hB2.cell (p := ⟨g2, _, none⟩) hg2).trans (hc2 _ _ a0)
      have d1 : wr.cell? ⟨g2, k * 2 + 1, none⟩ = _ := (hB2.cell (p := ⟨g2, _, none⟩) hg2).trans (hc2 _ _ a1)
      clear hx a0 a1 hc1 hc2 hB1 hB2
      obtain ⟨q1, q2⟩ := x
      simp only at c0 c1 d0 d1
      go_wp2
      go_quiet (fail)
      go_wp2
      go_roundw
      case rel => exact ⟨k + 1, by omega, by go_num, below_drewN HI.out _⟩
      case measure => simp [RowKit.intOf]; omega
    · go_wp2
      go_ret
      refine ⟨rfl, ?_⟩
      have h1 := HB1.out.trans (HB2.out.mono HB1.out.size)
      have h2 := h1.trans (HW.out.mono h1.size)
      exact h2.trans (HI.out.mono h2.size)

end Go.Proofs.YtlmmjefplbcapaaGreat
