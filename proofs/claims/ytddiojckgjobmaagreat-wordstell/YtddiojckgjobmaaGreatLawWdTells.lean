/-
  scriptlaw17.WordsTell: it returns true.
-/
import Derived.Test.YtddiojckgjobmaaGreatWdEachP
import Derived.Test.YtddiojckgjobmaaGreatWdEachR
import Derived.Test.YtddiojckgjobmaaGreatWdRefT
import Derived.Test.YtddiojckgjobmaaGreatYFrame
import Derived.BigRegion
namespace Go.Proofs.YtddiojckgjobmaaGreat
open Go.RowKit Go.Lib
set_option maxRecDepth 20000
set_option linter.unusedSimpArgs false
set_option linter.unusedVariables false

set_option maxHeartbeats 16000000 in
theorem wordsTell_any (w : World) (v : Value) (A : List S.Sp) (R : S.Rd w v A) (hf : S.Fit A) (vs : Value) (s : V.Script) (h0 : V.ScIs w vs s) (hfit : S.Fit s.only) (xo : Option Addr) (xc : Nat) (t : List Int) (Rt : L.Rd w (.slice xo t.length xc) .i32 t) (hcap : t.length ≤ xc) (ht : t.length ≤ 140737488355328) :
    Calls Tryz.prog 3 #[v, vs, .slice xo t.length xc] w fun e w' => e = .returned (.bool true) ∧ Below w.heap.size w w' := by
  obtain ⟨pl, hpl⟩ := Cn.zlf
  have HS1 : Hid (∀ X, Below w.heap.size w X → Calls Tryz.prog 4 #[v, .slice xo t.length xc] X fun e w' => ∃ v', e = .returned (.tuple #[v', .int .i64 (Wd.splitE A t)]) ∧ w'.ownsRow X.heap.size 32 3 v' (Wd.splitF A t).length (Wd.wcells (Wd.splitF A t)) ∧ Below X.heap.size X w') := fun X hX => wSplit_any X v A (R.below hX (Nat.le_refl _)) hf xo xc t (Rt.below hX (Nat.le_refl _)) ht
  have HS2 : Hid (∀ X, Below w.heap.size w X → Calls Tryz.prog 5 #[v, .slice xo t.length xc] X fun e w' => ∃ v', e = .returned (.tuple #[v', .int .i64 (Wd.splitE A t)]) ∧ w'.ownsRow X.heap.size 32 3 v' (Wd.splitF A t).length (Wd.wcells (Wd.splitF A t)) ∧ Below X.heap.size X w') := fun X hX => rSplit17_any X v A (R.below hX (Nat.le_refl _)) hf xo xc t (Rt.below hX (Nat.le_refl _)) ht
  have HT1 : Hid (∀ X, Below w.heap.size w X → Calls Tryz.prog 6 #[v, .slice xo t.length xc] X fun e w' => ∃ v', e = .returned (.tuple #[v', .int .i64 (Wd.splitE A t)]) ∧ L.Rd w' v' .i32 (Wd.titleF A t) ∧ Below X.heap.size X w') := fun X hX => title_any X v A (R.below hX (Nat.le_refl _)) hf xo xc t (Rt.below hX (Nat.le_refl _)) ht
  have HT2 : Hid (∀ X, Below w.heap.size w X → Calls Tryz.prog 7 #[v, .slice xo t.length xc] X fun e w' => ∃ v', e = .returned (.tuple #[v', .int .i64 (Wd.splitE A t)]) ∧ L.Rd w' v' .i32 (Wd.titleF A t) ∧ Below X.heap.size X w') := fun X hX => rTitle17_any X v A (R.below hX (Nat.le_refl _)) hf xo xc t (Rt.below hX (Nat.le_refl _)) ht
  have HE1 : Hid (∀ X, Below w.heap.size w X → Calls Tryz.prog 9 #[v, vs, .slice xo t.length xc] X fun e w' => ∃ v', e = .returned (.tuple #[v', .agg #[.int .i64 (Wd.eachF pl A s t).2.1, .int .i64 (Wd.eachF pl A s t).2.2]]) ∧ L.Rd w' v' .i32 (Wd.eachF pl A s t).1 ∧ Below X.heap.size X w') := fun X hX => wEach_any pl hpl X v A (R.below hX (Nat.le_refl _)) hf vs s (h0.below hX) hfit xo xc t (Rt.below hX (Nat.le_refl _)) hcap ht
  have HE2 : Hid (∀ X, Below w.heap.size w X → Calls Tryz.prog 10 #[v, vs, .slice xo t.length xc] X fun e w' => ∃ v', e = .returned (.tuple #[v', .agg #[.int .i64 (Wd.eachF pl A s t).2.1, .int .i64 (Wd.eachF pl A s t).2.2]]) ∧ L.Rd w' v' .i32 (Wd.eachF pl A s t).1 ∧ Below X.heap.size X w') := fun X hX => rEach17_any pl hpl X v A (R.below hX (Nat.le_refl _)) hf vs s (h0.below hX) hfit xo xc t (Rt.below hX (Nat.le_refl _)) hcap ht
  have HL1 : Hid ((Wd.titleF A t).length ≤ 140737488355328) := by
    show _ ≤ _
    unfold Wd.titleF
    split
    · rw [Wd.title_len]; exact ht
    · simp
  have HL2 : Hid ((Wd.eachF pl A s t).1.length ≤ 4000) := Wd.eachF_len pl A s t
  have HL3 : Hid ((Wd.splitF A t).length ≤ 140737488355328) := by
    show _ ≤ _
    unfold Wd.splitF
    split
    · exact Nat.le_trans (Wd.rest_len (S.memb A) t 0) ht
    · simp
  generalize Wd.splitE A t = z at HS1 HS2 HT1 HT2
  generalize Wd.splitF A t = l at HS1 HS2 HL3
  generalize Wd.titleF A t = ti at HT1 HT2 HL1
  obtain ⟨⟨g, g1, g2⟩, hg⟩ : ∃ o, Wd.eachF pl A s t = o := ⟨_, rfl⟩
  rw [hg] at HE1 HE2 HL2
  simp only at HE1 HE2 HL2
  obtain ⟨va, vc, rfl⟩ := R.len
  obtain ⟨oo, oc, po, pc, rfl, _⟩ := h0
  obtain ⟨W0, hW0⟩ : ∃ W0, W0 = w.alloc (.cells #[.bool s.has, .slice oo s.only.length oc, .slice po s.passes.length pc] 25) := ⟨_, rfl⟩
  have hb0 : Below w.heap.size w W0 := by rw [hW0]; exact Cn.al _ _
  have hx0 : W0.heap[w.heap.size]? = some (.cells #[.bool s.has, .slice oo s.only.length oc, .slice po s.passes.length pc] 25) := by rw [hW0]; exact heap_alloc_new w _
  have HX0 : Hid (Below w.heap.size w W0 ∧ W0.heap[w.heap.size]? = some (.cells #[.bool s.has, .slice oo s.only.length oc, .slice po s.passes.length pc] 25)) := ⟨hb0, hx0⟩
  have h1 := HS1.out W0 hb0
  have HW0 : Hid (W0 = w.alloc (.cells #[.bool s.has, .slice oo s.only.length oc, .slice po s.passes.length pc] 25)) := hW0
  obtain ⟨n, hn⟩ : ∃ n, n = l.length := ⟨_, rfl⟩
  rw [← hn] at h1
  have HN : Hid (n = l.length ∧ n ≤ 140737488355328) := ⟨hn, by rw [hn]; exact HL3.out⟩
  have hnl : n ≤ 140737488355328 := HN.out.2
  clear hn hW0 hb0 hx0 hg hpl R Rt hf hfit hcap
  go_enter Tryz.func3, Tryz.ntmps3
  go_wp2_with fail
  rw [← HW0.out]
  refine h1.mono ?_
  clear h1 HS1
  rintro e w1 ⟨v1, rfl, own1, b1⟩
  have HX1 : Hid (Below w.heap.size w w1 ∧ w1.heap[w.heap.size]? = some (.cells #[.bool s.has, .slice oo s.only.length oc, .slice po s.passes.length pc] 25)) := ⟨HX0.out.1.trans (b1.mono HX0.out.1.size), K.zab HX0.out.2 b1⟩
  obtain ⟨ao, ac, rfl, _⟩ := Al.lies own1
  have HR1 : Hid (w1.ownsRow 0 32 3 (.slice ao n ac) n (Wd.wcells l)) := L.za1 own1 (Nat.zero_le _)
  have h2 := HS2.out w1 HX1.out.1
  rw [← HN.out.1] at h2
  clear b1 own1 HS2 HX0
  go_wp2_with fail
  refine h2.mono ?_
  clear h2
  rintro e w2 ⟨v2, rfl, own2, b2⟩
  have HX2 : Hid (Below w.heap.size w w2 ∧ w2.heap[w.heap.size]? = some (.cells #[.bool s.has, .slice oo s.only.length oc, .slice po s.passes.length pc] 25)) := ⟨HX1.out.1.trans (b2.mono HX1.out.1.size), K.zab HX1.out.2 b2⟩
  obtain ⟨bo, bc, rfl, _⟩ := Al.lies own2
  have HR2 : Hid (w2.ownsRow 0 32 3 (.slice ao n ac) n (Wd.wcells l) ∧ w2.ownsRow 0 32 3 (.slice bo n bc) n (Wd.wcells l)) := ⟨L.zat HR1.out b2 (Nat.le_refl _), L.za1 own2 (Nat.zero_le _)⟩
  clear b2 own2 HR1 HX1
  go_wp2
  go_loopw [40] (fun i wr => ∃ j : Nat, j ≤ n ∧ i = .int .i64 j ∧ Hid (Below w2.heap.size w2 wr)) (fun i _ => n - (RowKit.intOf i).toNat)
  case atStart => exact ⟨0, Nat.zero_le _, rfl, Below.refl _ _⟩
  case round =>
    obtain ⟨j, hj, rfl, HB⟩ := hrel
    by_cases hlt : j < n
    · obtain ⟨x, hx⟩ : ∃ x, l[j]? = some x := ⟨l[j]'(by rw [← HN.out.1]; exact hlt), by simp⟩
      have hr := HR2.out
      rw [HN.out.1] at hr
      obtain ⟨q1, hq1, hl1, hc1⟩ := Wd.at_word hr.1 hx
      obtain ⟨q2, hq2, hl2, hc2⟩ := Wd.at_word hr.2 hx
      subst hq1 hq2
      obtain ⟨a0, a1, a2⟩ := hc1 wr HB.out
      obtain ⟨c0, c1, c2⟩ := hc2 wr HB.out
      obtain ⟨xa, xb, xx⟩ := x
      simp only at a0 a1 a2 c0 c1 c2
      clear hr hc1 hc2 hx
      go_wp2
      go_region
      go_wp2
      go_roundw
      case rel => exact ⟨j + 1, by omega, by go_num, HB.out.drew⟩
      case measure => simp [RowKit.intOf]; omega
    · have HX3 : Hid (Below w.heap.size w wr ∧ wr.heap[w.heap.size]? = some (.cells #[.bool s.has, .slice oo s.only.length oc, .slice po s.passes.length pc] 25)) := ⟨HX2.out.1.trans (HB.out.mono HX2.out.1.size), K.zab HX2.out.2 HB.out⟩
      have h3 := HT1.out wr HX3.out.1
      clear HB HX2 HR2 HT1
      go_wp2_with fail
      refine h3.mono ?_
      clear h3
      rintro e w3 ⟨v3, rfl, d3, b3⟩
      have HX4 : Hid (Below w.heap.size w w3 ∧ w3.heap[w.heap.size]? = some (.cells #[.bool s.has, .slice oo s.only.length oc, .slice po s.passes.length pc] 25)) := ⟨HX3.out.1.trans (b3.mono HX3.out.1.size), K.zab HX3.out.2 b3⟩
      have HD3 : Hid (L.Rd w3 v3 .i32 ti) := d3
      have h4 := HT2.out w3 HX4.out.1
      clear b3 d3 HT2 HX3
      go_wp2_with fail
      refine h4.mono ?_
      clear h4
      rintro e w4 ⟨v4, rfl, d4, b4⟩
      have HX5 : Hid (Below w.heap.size w w4 ∧ w4.heap[w.heap.size]? = some (.cells #[.bool s.has, .slice oo s.only.length oc, .slice po s.passes.length pc] 25)) := ⟨HX4.out.1.trans (b4.mono HX4.out.1.size), K.zab HX4.out.2 b4⟩
      have h5 : Calls Tryz.prog 8 #[v3, v4] w4 fun e w' => e = .returned (.bool true) ∧ Below w4.heap.size w4 w' := by
        refine (zlc w4 _ _ ti ti (HD3.out.below b4 (Nat.le_refl _)) d4 (by have := HL1.out; omega) (by have := HL1.out; omega)).mono ?_
        rintro e w' ⟨h1, h2⟩
        exact ⟨by simpa using h1, h2⟩
      clear b4 d4 HD3 HX4 HL1
      go_wp2_with fail
      refine h5.mono ?_
      clear h5
      rintro e w5 ⟨rfl, b5⟩
      have HX6 : Hid (Below w.heap.size w w5 ∧ w5.heap[w.heap.size]? = some (.cells #[.bool s.has, .slice oo s.only.length oc, .slice po s.passes.length pc] 25)) := ⟨HX5.out.1.trans (b5.mono HX5.out.1.size), K.zab HX5.out.2 b5⟩
      have x0 := K.zaa (i := 0) HX6.out.2 rfl
      have x1 := K.zaa (i := 1) HX6.out.2 rfl
      have x2 := K.zaa (i := 2) HX6.out.2 rfl
      have h6 := HE1.out w5 HX6.out.1
      clear b5 HX5 HE1
      go_wp2_with fail
      refine h6.mono ?_
      clear h6 x0 x1 x2
      rintro e w6 ⟨v6, rfl, d6, b6⟩
      have HX7 : Hid (Below w.heap.size w w6 ∧ w6.heap[w.heap.size]? = some (.cells #[.bool s.has, .slice oo s.only.length oc, .slice po s.passes.length pc] 25)) := ⟨HX6.out.1.trans (b6.mono HX6.out.1.size), K.zab HX6.out.2 b6⟩
      have HD6 : Hid (L.Rd w6 v6 .i32 g) := d6
      obtain ⟨X7, hX7⟩ : ∃ X, X = w6.alloc (.cells #[.int .i64 g1, .int .i64 g2] 37) := ⟨_, rfl⟩
      have hb7 : Below w6.heap.size w6 X7 := by rw [hX7]; exact Cn.al _ _
      have hx7 : X7.heap[w6.heap.size]? = some (.cells #[.int .i64 g1, .int .i64 g2] 37) := by rw [hX7]; exact heap_alloc_new w6 _
      have hs7 := K.zab HX7.out.2 hb7
      have HX8 : Hid (Below w.heap.size w X7 ∧ X7.heap[w6.heap.size]? = some (.cells #[.int .i64 g1, .int .i64 g2] 37) ∧ L.Rd X7 v6 .i32 g) := ⟨HX7.out.1.trans (hb7.mono HX7.out.1.size), hx7, HD6.out.below hb7 (Nat.le_refl _)⟩
      have k0 : ∀ o, (w6.alloc o).cell? ⟨w.heap.size, 0, none⟩ = some (.bool s.has) := fun o => K.zac (K.zaa (i := 0) HX7.out.2 rfl) o
      have k1 : ∀ o, (w6.alloc o).cell? ⟨w.heap.size, 1, none⟩ = some (.slice oo s.only.length oc) := fun o => K.zac (K.zaa (i := 1) HX7.out.2 rfl) o
      have k2 : ∀ o, (w6.alloc o).cell? ⟨w.heap.size, 2, none⟩ = some (.slice po s.passes.length pc) := fun o => K.zac (K.zaa (i := 2) HX7.out.2 rfl) o
      have h7 := HE2.out X7 HX8.out.1
      have HXe : Hid (X7 = w6.alloc (.cells #[.int .i64 g1, .int .i64 g2] 37)) := hX7
      clear b6 d6 hX7 hb7 hx7 hs7 HX6 HX7 HD6 HE2
      go_wp2_with fail
      rw [← HXe.out]
      refine h7.mono ?_
      clear h7 k0 k1 k2 HXe
      rintro e w7 ⟨v7, rfl, d7, b7⟩
      obtain ⟨X9, hX9⟩ : ∃ X, X = w7.alloc (.cells #[.int .i64 g1, .int .i64 g2] 37) := ⟨_, rfl⟩
      have hb9 : Below w7.heap.size w7 X9 := by rw [hX9]; exact Cn.al _ _
      have hx9 : X9.heap[w7.heap.size]? = some (.cells #[.int .i64 g1, .int .i64 g2] 37) := by rw [hX9]; exact heap_alloc_new w7 _
      have f0 : ∀ o, (w7.alloc o).cell? ⟨w6.heap.size, 0, none⟩ = some (.int .i64 g1) := fun o => K.zac (K.zaa (i := 0) (K.zab HX8.out.2.1 b7) rfl) o
      have f1 : ∀ o, (w7.alloc o).cell? ⟨w6.heap.size, 1, none⟩ = some (.int .i64 g2) := fun o => K.zac (K.zaa (i := 1) (K.zab HX8.out.2.1 b7) rfl) o
      have h8 : Calls Tryz.prog 8 #[v6, v7] X9 fun e w' => e = .returned (.bool true) ∧ Below X9.heap.size X9 w' := by
        refine (zlc X9 _ _ g g ((HX8.out.2.2.below b7 (Nat.le_refl _)).below hb9 (Nat.le_refl _)) (d7.below hb9 (Nat.le_refl _)) (by have := HL2.out; omega) (by have := HL2.out; omega)).mono ?_
        rintro e w' ⟨h1, h2⟩
        exact ⟨by simpa using h1, h2⟩
      have HBf : Hid (Below w.heap.size w X9) := (HX8.out.1.trans (b7.mono HX8.out.1.size)).trans (hb9.mono (HX8.out.1.trans (b7.mono HX8.out.1.size)).size)
      have HXe : Hid (X9 = w7.alloc (.cells #[.int .i64 g1, .int .i64 g2] 37)) := hX9
      clear b7 d7 hX9 hb9 hx9 HX8 HL2
      go_wp2_with fail
      rw [← HXe.out]
      refine h8.mono ?_
      clear h8 f0 f1 HXe
      rintro e w8 ⟨rfl, b8⟩
      have HE : Hid (Below w.heap.size w w8) := HBf.out.trans (b8.mono HBf.out.size)
      clear b8
      go_wp2
      go_ret
      exact ⟨by simp, HE.out⟩

end Go.Proofs.YtddiojckgjobmaaGreat
