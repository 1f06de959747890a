/-
  Names of passes that are there already: the document's answer.
-/
import Derived.Test.YtjaodbaooogpnaaGreatRLib
import Derived.Test.YtjaodbaooogpnaaGreatMath
import Derived.Test.YtjaodbaooogpnaaGreatCnWrong
import Derived.Test.YtjaodbaooogpnaaGreatMSets
import Derived.Test.YtjaodbaooogpnaaGreatQCheckR
import Derived.Test.YtjaodbaooogpnaaGreatJWhich
namespace Go.Proofs.YtjaodbaooogpnaaGreat
open Go.RowKit
set_option maxRecDepth 20000
set_option linter.unusedSimpArgs false
set_option linter.unusedVariables false

set_option maxHeartbeats 1000000 in
theorem rpass_any (s : ByteArray) (w : World) :
    Calls Tryz.prog 24 #[.string s] w fun e w' => e = .returned (.bool (R.passes s)) ∧ w' = w := by
  unfold R.passes
  go_enter Tryz.func24, Tryz.ntmps24
  go_wp2
  all_goals go_ret
  all_goals refine ⟨L.ret_bool ?_, rfl⟩
  all_goals (rw [Bool.eq_iff_iff]; simp; try simp_all)

end Go.Proofs.YtjaodbaooogpnaaGreat

/-
  What is wrong with a script: the document's answer.
-/
namespace Go.Proofs.YtjaodbaooogpnaaGreat
open Go.RowKit
set_option maxRecDepth 20000
set_option linter.unusedSimpArgs false
set_option linter.unusedVariables false

set_option maxHeartbeats 4000000 in
theorem rWrong13_any (w : World) (v : Value) (s : V.Script) (h0 : V.ScIs w v s) (hfit : S.Fit s.only) :
    Calls Tryz.prog 7 #[v] w fun e w' => e = .returned (.agg #[.int .i64 (Cn.wrongF s).1, .int .i64 (Cn.wrongF s).2]) ∧ Below w.heap.size w w' := by
  obtain ⟨oo, oc, po, pc, rfl, hO, hOl, hP⟩ := h0
  have hPl := hP.few
  have HP : Hid (V.Pas w (.slice po s.passes.length pc) s.passes) := hP
  have HSw : Hid (∀ X, Below w.heap.size w X → Calls Tryz.prog 22 #[.slice oo s.only.length oc] X fun e w' => e = .returned (.int .i64 (S.wrongE s.only)) ∧ Below X.heap.size X w') := fun X hX => refwrong_any X _ _ (hO.below hX (Nat.le_refl _)) hfit
  obtain ⟨⟨o1, o2⟩, HO⟩ : ∃ o, Hid (Cn.wrongF s = o) := ⟨_, rfl⟩
  rw [HO.out]
  clear hO hP
  have h2 := Cn.two_new w (.cells #[.bool s.has, .slice oo s.only.length oc, .slice po s.passes.length pc] 25) (.cells #[.int .i64 0, .int .i64 0] 29)
  have HX2 : Hid (((w.alloc (.cells #[.bool s.has, .slice oo s.only.length oc, .slice po s.passes.length pc] 25)).alloc (.cells #[.int .i64 0, .int .i64 0] 29)).heap[w.heap.size]? = some (.cells #[.bool s.has, .slice oo s.only.length oc, .slice po s.passes.length pc] 25) ∧ ((w.alloc (.cells #[.bool s.has, .slice oo s.only.length oc, .slice po s.passes.length pc] 25)).alloc (.cells #[.int .i64 0, .int .i64 0] 29)).heap[w.heap.size + 1]? = some (.cells #[.int .i64 0, .int .i64 0] 29) ∧ Below w.heap.size w ((w.alloc (.cells #[.bool s.has, .slice oo s.only.length oc, .slice po s.passes.length pc] 25)).alloc (.cells #[.int .i64 0, .int .i64 0] 29))) := h2
  clear h2
  cases hh : s.has with
  | false =>
    have HS0 : Hid (¬ (s.has = true ∧ ¬ S.wrongE s.only = 0)) := fun h => by
      have := h.1
      rw [hh] at this
      cases this
    rw [hh] at HX2
    have HX : Hid (_ ∧ _ ∧ _) := HX2.out
    clear HX2 HSw
    go_enter Tryz.func7, Tryz.ntmps7
    by_cases hbig : 60 < s.passes.length
    · have hw : Cn.wrongF s = (5, 0) := by unfold Cn.wrongF; rw [if_neg HS0.out, if_pos hbig]
      rw [HO.out] at hw
      cases hw
      have hbi : (60 : Int) < (s.passes.length : Int) := by omega
      go_wp2
      refine bodyPost_ret (v := .agg #[.int .i64 5, .int .i64 0]) (by simp [results, Tryz.results7, go_sem, *]) rfl ?_
      exact ⟨rfl, (Cn.two_new w _ _).2.2⟩
    · have hw : Cn.firstP 0 s.passes = (o1, o2) := by rw [← HO.out]; unfold Cn.wrongF; rw [if_neg HS0.out, if_neg hbig]
      have HF : Hid (Cn.firstP 0 s.passes = (o1, o2)) := hw
      have hbi : ¬ (60 : Int) < (s.passes.length : Int) := by omega
      clear hw
      go_wp2
      go_loopw [24] (fun i wr => ∃ k : Nat, k ≤ s.passes.length ∧ i = .int .i64 k ∧ Hid (Cn.firstP k (s.passes.drop k) = (o1, o2)) ∧ Hid (Below w.heap.size w wr) ∧ Hid (wr.heap[w.heap.size + 1]? = some (.cells #[.int .i64 0, .int .i64 0] 29))) (fun i _ => s.passes.length - (intOf i).toNat)
      case atStart => exact ⟨0, Nat.zero_le _, rfl, HF, HX.out.2.2, HX.out.2.1⟩
      case round =>
        obtain ⟨k, hk, rfl, HE, HB, HY⟩ := hrel
        by_cases hlt : k < s.passes.length
        · obtain ⟨p, hp⟩ : ∃ x, s.passes[k]? = some x := ⟨s.passes[k], by simp [hlt]⟩
          obtain ⟨ao', cap', e', _, hcs⟩ := HP.out.below HB.out
          cases e'
          obtain ⟨b, off, rfl, hcell⟩ := hcs (by intro h; rw [h] at hlt; simp at hlt)
          obtain ⟨c0, hn, ro, rc, c1, hr⟩ := hcell k p hp
          have HE2 : Hid (Cn.firstP k (s.passes.drop k) = if Cn.passE p = 0 then Cn.firstP (k + 1) (s.passes.drop (k + 1)) else (Cn.passE p, (k : Int))) := Cn.firstP_drop hp
          have hsz := HB.out.size
          have HW : Hid (∀ o, Calls Tryz.prog 23 #[.slice ro p.rules.length rc] (wr.alloc o) fun e w' => e = .returned (.agg #[.int .i64 (K.rulesF p.rules).1, .int .i64 (K.rulesF p.rules).2]) ∧ Below (wr.alloc o).heap.size (wr.alloc o) w') := fun o => rWrong8_any _ _ _ (hr.below ((Below.refl _ wr).alloc (Nat.le_refl _) o))
          have HPa : Hid (∀ X, Calls Tryz.prog 24 #[.string p.name] X fun e w' => e = .returned (.bool (R.passes p.name)) ∧ w' = X) := fun X => rpass_any p.name X
          have hrf := hr.few
          have hal : ∀ o, Below wr.heap.size wr (wr.alloc o) := fun o => (Below.refl _ wr).alloc (Nat.le_refl _) o
          have HA : Hid (∀ o, Below w.heap.size w (wr.alloc o) ∧ (wr.alloc o).heap[w.heap.size + 1]? = some (.cells #[.int .i64 0, .int .i64 0] 29)) := fun o => ⟨HB.out.trans ((hal o).mono hsz), K.blk_below HY.out (hal o)⟩
          have hy1 : w.heap.size + 1 < wr.heap.size := lt_of_block HY.out
          clear hp hcell hcs hr
          cases h1 : (p.name.toList == []) with
          | true =>
            have h1' := eq_of_beq h1
            have he : Cn.passE p = (K.rulesF p.rules).1 := by unfold Cn.passE; rw [if_pos h1']
            rw [he] at HE2
            obtain ⟨⟨r1, r2⟩, hru⟩ : ∃ o, K.rulesF p.rules = o := ⟨_, rfl⟩
            rw [hru] at HW HE2
            simp only at HW HE2
            clear hru he HPa
            go_wp2_with fail
            refine (HW.out _).mono ?_
            rintro e w1 ⟨rfl, b1⟩
            obtain ⟨_, B1, hl1⟩ := K.one_box b1
            have hY1 : w1.heap[w.heap.size + 1]? = some (.cells #[.int .i64 0, .int .i64 0] 29) := K.blk_below HY.out B1
            have HB1 : Hid (Below w.heap.size w w1) := HB.out.trans (B1.mono hsz)
            have HY1 : Hid (∀ o, (w1.alloc o).heap[w.heap.size + 1]? = some (.cells #[.int .i64 0, .int .i64 0] 29) ∧ Below w.heap.size w (w1.alloc o)) := fun o => ⟨K.blk_below hY1 ((Below.refl _ w1).alloc (Nat.le_refl _) o), HB1.out.alloc HB1.out.size o⟩
            have k0 : ∀ o, (w1.alloc o).cell? ⟨w.heap.size + 1, 0, none⟩ = some (.int .i64 0) := fun o => K.alloc_cell (K.at_box hY1 rfl) o
            have k1 : ∀ o, (w1.alloc o).cell? ⟨w.heap.size + 1, 1, none⟩ = some (.int .i64 0) := fun o => K.alloc_cell (K.at_box hY1 rfl) o
            have g0 : ∀ o i, (w1.alloc o).frozen? ⟨w.heap.size + 1, i, none⟩ = false := fun o i => K.alloc_free hY1 o i
            obtain ⟨x0, x1, f0, f1⟩ := K.box2 hY1
            have hy2 : w.heap.size + 1 < w1.heap.size := lt_of_block hY1
            clear b1 B1 hY1
            by_cases hz : r1 = 0
            · subst hz
              go_wp2
              go_roundw
              case rel => exact ⟨k + 1, by omega, by go_num, by show _ = _; rw [← HE.out, HE2.out]; simp, (HY1.out _).2, (HY1.out _).1⟩
              case measure => simp [intOf]; omega
            · go_wp2
              refine bodyPost_ret (v := .agg #[.int .i64 r1, .int .i64 k]) (by simp [results, Tryz.results7, go_sem, *]) rfl ?_
              have h := HE2.out
              rw [HE.out, if_neg hz] at h
              cases h
              exact ⟨rfl, (((HB1.out).setCell (p := ⟨w.heap.size + 1, 0, none⟩) (by simp) _).setCell (p := ⟨w.heap.size + 1, 1, none⟩) (by simp) _).alloc (by simp; omega) _⟩
          | false =>
            have h1' : ¬ p.name.toList = [] := by simpa using h1
            have k0 : ∀ o, (wr.alloc o).cell? ⟨w.heap.size + 1, 0, none⟩ = some (.int .i64 0) := fun o => K.alloc_cell (K.at_box HY.out rfl) o
            have k1 : ∀ o, (wr.alloc o).cell? ⟨w.heap.size + 1, 1, none⟩ = some (.int .i64 0) := fun o => K.alloc_cell (K.at_box HY.out rfl) o
            have g0 : ∀ o i, (wr.alloc o).frozen? ⟨w.heap.size + 1, i, none⟩ = false := fun o i => K.alloc_free HY.out o i
            obtain ⟨x0, x1, f0, f1⟩ := K.box2 HY.out
            cases hps : R.passes p.name with
            | false =>
              have he : Cn.passE p = 7 := by unfold Cn.passE; rw [if_neg h1', hps]; rfl
              rw [he, HE.out] at HE2
              rw [hps] at HPa
              have h := HE2.out
              rw [if_neg (by decide)] at h
              cases h
              go_wp2_with (go_at_call 24; refine (HPa.out _).mono ?_; rintro e w' ⟨rfl, rfl⟩)
              refine bodyPost_ret (v := .agg #[.int .i64 7, .int .i64 k]) (by simp [results, Tryz.results7, go_sem, *]) rfl ?_
              exact ⟨rfl, (((HB.out).setCell (p := ⟨w.heap.size + 1, 0, none⟩) (by simp) _).setCell (p := ⟨w.heap.size + 1, 1, none⟩) (by simp) _).alloc (by simp; omega) _⟩
            | true =>
              have he : Cn.passE p = if 0 < p.rules.length then 8 else 0 := by unfold Cn.passE; rw [if_neg h1', hps]; rfl
              rw [hps] at HPa
              by_cases hz : 0 < p.rules.length
              · rw [he, if_pos hz, HE.out] at HE2
                have h := HE2.out
                rw [if_neg (by decide)] at h
                cases h
                have hz' : (0 : Int) < (p.rules.length : Int) := by omega
                clear he
                go_wp2_with (go_at_call 24; refine (HPa.out _).mono ?_; rintro e w' ⟨rfl, rfl⟩)
                refine bodyPost_ret (v := .agg #[.int .i64 8, .int .i64 k]) (by simp [results, Tryz.results7, go_sem, *]) rfl ?_
                exact ⟨rfl, (((HB.out).setCell (p := ⟨w.heap.size + 1, 0, none⟩) (by simp) _).setCell (p := ⟨w.heap.size + 1, 1, none⟩) (by simp) _).alloc (by simp; omega) _⟩
              · rw [he, if_neg hz] at HE2
                have hz' : ¬ (0 : Int) < (p.rules.length : Int) := by omega
                clear he
                go_wp2_with (go_at_call 24; refine (HPa.out _).mono ?_; rintro e w' ⟨rfl, rfl⟩)
                go_roundw
                case rel => exact ⟨k + 1, by omega, by go_num, by show _ = _; rw [← HE.out, HE2.out]; simp, (HA.out _).1, (HA.out _).2⟩
                case measure => simp [intOf]; omega
        · obtain ⟨x0, x1, f0, f1⟩ := K.box2 HY.out
          have h := HE.out
          rw [List.drop_eq_nil_of_le (by omega)] at h
          cases h
          go_wp2
          refine bodyPost_ret (v := .agg #[.int .i64 0, .int .i64 0]) (by simp [results, Tryz.results7, go_sem, *]) rfl ?_
          exact ⟨rfl, ((HB.out).setCell (p := ⟨w.heap.size + 1, 0, none⟩) (by simp) _).setCell (p := ⟨w.heap.size + 1, 1, none⟩) (by simp) _⟩
  | true =>
    rw [hh] at HX2
    have hSw := HSw.out _ HX2.out.2.2
    obtain ⟨z, HZ⟩ : ∃ z, Hid (S.wrongE s.only = z) := ⟨_, rfl⟩
    rw [HZ.out] at hSw
    go_enter Tryz.func7, Tryz.ntmps7
    go_wp2_with fail
    refine hSw.mono ?_
    rintro e w1 ⟨rfl, b1⟩
    obtain ⟨g1, g2, g3⟩ := HX2.out
    have HX : Hid (w1.heap[w.heap.size]? = some (.cells #[.bool true, .slice oo s.only.length oc, .slice po s.passes.length pc] 25) ∧ w1.heap[w.heap.size + 1]? = some (.cells #[.int .i64 0, .int .i64 0] 29) ∧ Below w.heap.size w w1) := ⟨K.blk_below g1 b1, K.blk_below g2 b1, g3.trans (b1.mono g3.size)⟩
    clear g1 g2 g3 b1 hSw HX2 HSw
    by_cases hz : z = 0
    · subst hz
      have HS0 : Hid (¬ (s.has = true ∧ ¬ S.wrongE s.only = 0)) := fun h => h.2 HZ.out
      obtain ⟨kb, kf, kB⟩ := HX.out
      have kp : w1.cell? ⟨w.heap.size, 2, none⟩ = some (.slice po s.passes.length pc) := K.at_box kb rfl
      obtain ⟨y0, y1, f0, f1⟩ := K.box2 kf
      clear kb kf kB
      by_cases hbig : 60 < s.passes.length
      · have hw : Cn.wrongF s = (5, 0) := by unfold Cn.wrongF; rw [if_neg HS0.out, if_pos hbig]
        rw [HO.out] at hw
        cases hw
        have hbi : (60 : Int) < (s.passes.length : Int) := by omega
        go_wp2
        refine bodyPost_ret (v := .agg #[.int .i64 5, .int .i64 0]) (by simp [results, Tryz.results7, go_sem, *]) rfl ?_
        exact ⟨rfl, ((HX.out.2.2).setCell (p := ⟨w.heap.size + 1, 0, none⟩) (by simp) _).setCell (p := ⟨w.heap.size + 1, 1, none⟩) (by simp) _⟩
      · have hw : Cn.firstP 0 s.passes = (o1, o2) := by rw [← HO.out]; unfold Cn.wrongF; rw [if_neg HS0.out, if_neg hbig]
        have HF : Hid (Cn.firstP 0 s.passes = (o1, o2)) := hw
        have hbi : ¬ (60 : Int) < (s.passes.length : Int) := by omega
        clear hw y0 y1 f0 f1
        go_wp2
        go_loopw [24] (fun i wr => ∃ k : Nat, k ≤ s.passes.length ∧ i = .int .i64 k ∧ Hid (Cn.firstP k (s.passes.drop k) = (o1, o2)) ∧ Hid (Below w.heap.size w wr) ∧ Hid (wr.heap[w.heap.size + 1]? = some (.cells #[.int .i64 0, .int .i64 0] 29))) (fun i _ => s.passes.length - (intOf i).toNat)
        case atStart => exact ⟨0, Nat.zero_le _, rfl, HF, HX.out.2.2, HX.out.2.1⟩
        case round =>
          obtain ⟨k, hk, rfl, HE, HB, HY⟩ := hrel
          by_cases hlt : k < s.passes.length
          · obtain ⟨p, hp⟩ : ∃ x, s.passes[k]? = some x := ⟨s.passes[k], by simp [hlt]⟩
            obtain ⟨ao', cap', e', _, hcs⟩ := HP.out.below HB.out
            cases e'
            obtain ⟨b, off, rfl, hcell⟩ := hcs (by intro h; rw [h] at hlt; simp at hlt)
            obtain ⟨c0, hn, ro, rc, c1, hr⟩ := hcell k p hp
            have HE2 : Hid (Cn.firstP k (s.passes.drop k) = if Cn.passE p = 0 then Cn.firstP (k + 1) (s.passes.drop (k + 1)) else (Cn.passE p, (k : Int))) := Cn.firstP_drop hp
            have hsz := HB.out.size
            have HW : Hid (∀ o, Calls Tryz.prog 23 #[.slice ro p.rules.length rc] (wr.alloc o) fun e w' => e = .returned (.agg #[.int .i64 (K.rulesF p.rules).1, .int .i64 (K.rulesF p.rules).2]) ∧ Below (wr.alloc o).heap.size (wr.alloc o) w') := fun o => rWrong8_any _ _ _ (hr.below ((Below.refl _ wr).alloc (Nat.le_refl _) o))
            have HPa : Hid (∀ X, Calls Tryz.prog 24 #[.string p.name] X fun e w' => e = .returned (.bool (R.passes p.name)) ∧ w' = X) := fun X => rpass_any p.name X
            have hrf := hr.few
            have hal : ∀ o, Below wr.heap.size wr (wr.alloc o) := fun o => (Below.refl _ wr).alloc (Nat.le_refl _) o
            have HA : Hid (∀ o, Below w.heap.size w (wr.alloc o) ∧ (wr.alloc o).heap[w.heap.size + 1]? = some (.cells #[.int .i64 0, .int .i64 0] 29)) := fun o => ⟨HB.out.trans ((hal o).mono hsz), K.blk_below HY.out (hal o)⟩
            have hy1 : w.heap.size + 1 < wr.heap.size := lt_of_block HY.out
            clear hp hcell hcs hr
            cases h1 : (p.name.toList == []) with
            | true =>
              have h1' := eq_of_beq h1
              have he : Cn.passE p = (K.rulesF p.rules).1 := by unfold Cn.passE; rw [if_pos h1']
              rw [he] at HE2
              obtain ⟨⟨r1, r2⟩, hru⟩ : ∃ o, K.rulesF p.rules = o := ⟨_, rfl⟩
              rw [hru] at HW HE2
              simp only at HW HE2
              clear hru he HPa
              go_wp2_with fail
              refine (HW.out _).mono ?_
              rintro e w1 ⟨rfl, b1⟩
              obtain ⟨_, B1, hl1⟩ := K.one_box b1
              have hY1 : w1.heap[w.heap.size + 1]? = some (.cells #[.int .i64 0, .int .i64 0] 29) := K.blk_below HY.out B1
              have HB1 : Hid (Below w.heap.size w w1) := HB.out.trans (B1.mono hsz)
              have HY1 : Hid (∀ o, (w1.alloc o).heap[w.heap.size + 1]? = some (.cells #[.int .i64 0, .int .i64 0] 29) ∧ Below w.heap.size w (w1.alloc o)) := fun o => ⟨K.blk_below hY1 ((Below.refl _ w1).alloc (Nat.le_refl _) o), HB1.out.alloc HB1.out.size o⟩
              have k0 : ∀ o, (w1.alloc o).cell? ⟨w.heap.size + 1, 0, none⟩ = some (.int .i64 0) := fun o => K.alloc_cell (K.at_box hY1 rfl) o
              have k1 : ∀ o, (w1.alloc o).cell? ⟨w.heap.size + 1, 1, none⟩ = some (.int .i64 0) := fun o => K.alloc_cell (K.at_box hY1 rfl) o
              have g0 : ∀ o i, (w1.alloc o).frozen? ⟨w.heap.size + 1, i, none⟩ = false := fun o i => K.alloc_free hY1 o i
              obtain ⟨x0, x1, f0, f1⟩ := K.box2 hY1
              have hy2 : w.heap.size + 1 < w1.heap.size := lt_of_block hY1
              clear b1 B1 hY1
              by_cases hz : r1 = 0
              · subst hz
                go_wp2
                go_roundw
                case rel => exact ⟨k + 1, by omega, by go_num, by show _ = _; rw [← HE.out, HE2.out]; simp, (HY1.out _).2, (HY1.out _).1⟩
                case measure => simp [intOf]; omega
              · go_wp2
                refine bodyPost_ret (v := .agg #[.int .i64 r1, .int .i64 k]) (by simp [results, Tryz.results7, go_sem, *]) rfl ?_
                have h := HE2.out
                rw [HE.out, if_neg hz] at h
                cases h
                exact ⟨rfl, (((HB1.out).setCell (p := ⟨w.heap.size + 1, 0, none⟩) (by simp) _).setCell (p := ⟨w.heap.size + 1, 1, none⟩) (by simp) _).alloc (by simp; omega) _⟩
            | false =>
              have h1' : ¬ p.name.toList = [] := by simpa using h1
              have k0 : ∀ o, (wr.alloc o).cell? ⟨w.heap.size + 1, 0, none⟩ = some (.int .i64 0) := fun o => K.alloc_cell (K.at_box HY.out rfl) o
              have k1 : ∀ o, (wr.alloc o).cell? ⟨w.heap.size + 1, 1, none⟩ = some (.int .i64 0) := fun o => K.alloc_cell (K.at_box HY.out rfl) o
              have g0 : ∀ o i, (wr.alloc o).frozen? ⟨w.heap.size + 1, i, none⟩ = false := fun o i => K.alloc_free HY.out o i
              obtain ⟨x0, x1, f0, f1⟩ := K.box2 HY.out
              cases hps : R.passes p.name with
              | false =>
                have he : Cn.passE p = 7 := by unfold Cn.passE; rw [if_neg h1', hps]; rfl
                rw [he, HE.out] at HE2
                rw [hps] at HPa
                have h := HE2.out
                rw [if_neg (by decide)] at h
                cases h
                go_wp2_with (go_at_call 24; refine (HPa.out _).mono ?_; rintro e w' ⟨rfl, rfl⟩)
                refine bodyPost_ret (v := .agg #[.int .i64 7, .int .i64 k]) (by simp [results, Tryz.results7, go_sem, *]) rfl ?_
                exact ⟨rfl, (((HB.out).setCell (p := ⟨w.heap.size + 1, 0, none⟩) (by simp) _).setCell (p := ⟨w.heap.size + 1, 1, none⟩) (by simp) _).alloc (by simp; omega) _⟩
              | true =>
                have he : Cn.passE p = if 0 < p.rules.length then 8 else 0 := by unfold Cn.passE; rw [if_neg h1', hps]; rfl
                rw [hps] at HPa
                by_cases hz : 0 < p.rules.length
                · rw [he, if_pos hz, HE.out] at HE2
                  have h := HE2.out
                  rw [if_neg (by decide)] at h
                  cases h
                  have hz' : (0 : Int) < (p.rules.length : Int) := by omega
                  clear he
                  go_wp2_with (go_at_call 24; refine (HPa.out _).mono ?_; rintro e w' ⟨rfl, rfl⟩)
                  refine bodyPost_ret (v := .agg #[.int .i64 8, .int .i64 k]) (by simp [results, Tryz.results7, go_sem, *]) rfl ?_
                  exact ⟨rfl, (((HB.out).setCell (p := ⟨w.heap.size + 1, 0, none⟩) (by simp) _).setCell (p := ⟨w.heap.size + 1, 1, none⟩) (by simp) _).alloc (by simp; omega) _⟩
                · rw [he, if_neg hz] at HE2
                  have hz' : ¬ (0 : Int) < (p.rules.length : Int) := by omega
                  clear he
                  go_wp2_with (go_at_call 24; refine (HPa.out _).mono ?_; rintro e w' ⟨rfl, rfl⟩)
                  go_roundw
                  case rel => exact ⟨k + 1, by omega, by go_num, by show _ = _; rw [← HE.out, HE2.out]; simp, (HA.out _).1, (HA.out _).2⟩
                  case measure => simp [intOf]; omega
          · obtain ⟨x0, x1, f0, f1⟩ := K.box2 HY.out
            have h := HE.out
            rw [List.drop_eq_nil_of_le (by omega)] at h
            cases h
            go_wp2
            refine bodyPost_ret (v := .agg #[.int .i64 0, .int .i64 0]) (by simp [results, Tryz.results7, go_sem, *]) rfl ?_
            exact ⟨rfl, ((HB.out).setCell (p := ⟨w.heap.size + 1, 0, none⟩) (by simp) _).setCell (p := ⟨w.heap.size + 1, 1, none⟩) (by simp) _⟩
    · have hw : Cn.wrongF s = (z, 0) := by unfold Cn.wrongF; rw [if_pos ⟨hh, by rw [HZ.out]; exact hz⟩, HZ.out]
      rw [HO.out] at hw
      cases hw
      obtain ⟨y0, y1, f0, f1⟩ := K.box2 HX.out.2.1
      go_wp2
      refine bodyPost_ret (v := .agg #[.int .i64 o1, .int .i64 0]) (by simp [results, Tryz.results7, go_sem, *]) rfl ?_
      exact ⟨rfl, ((HX.out.2.2).setCell (p := ⟨w.heap.size + 1, 0, none⟩) (by simp) _).setCell (p := ⟨w.heap.size + 1, 1, none⟩) (by simp) _⟩

end Go.Proofs.YtjaodbaooogpnaaGreat

/-
  A script's passes in a row, and a piece that goes through them all.
-/
namespace Go.Proofs.YtjaodbaooogpnaaGreat
open Go.RowKit
set_option maxRecDepth 20000
set_option linter.unusedSimpArgs false
set_option linter.unusedVariables false

theorem Tryz.infoPass : (Tryz.prog.info? 61).map (fun i => (i.zero, i.size, i.bytes)) = some (some .nilFunc, 1, 8) := by kernel_rfl
namespace Cn
def FRow (w : World) (g : Nat) (cur : List Value) : Prop := w.heap[g]? = some (.cells cur.toArray 61 (0, 0))
theorem FRow.cell {w : World} {g : Nat} {cur : List Value} (h : FRow w g cur) (j : Nat) : w.cell? ⟨g, j, none⟩ = cur[j]? := by
  simp [World.cell?, show w.heap[g]? = _ from h]
theorem FRow.free {w : World} {g : Nat} {cur : List Value} (h : FRow w g cur) (j : Nat) : w.frozen? ⟨g, j, none⟩ = false := frozen_of_row w g j _ _ h
theorem FRow.set {w : World} {g k : Nat} {cur : List Value} (h : FRow w g cur) (u : Value) : FRow (w.setCell ⟨g, k, none⟩ u) g (cur.set k u) := by
  have := heap_setCell_same w g k _ _ u h
  unfold FRow
  rw [this]
  simp
theorem make_fns (w : World) (n : Nat) (hn : n ≤ 8000) : ∃ W, (∀ kl kc, (Instr.makeSlice 40 (.int kl (n : Int)) (.int kc (n : Int))).run Tryz.prog w = .ok (.slice (some ⟨w.heap.size, 0, none⟩) n n) W) ∧ FRow W w.heap.size (List.replicate n .nilFunc) ∧ Below w.heap.size w W ∧ W.heap.size = w.heap.size + 1 := by
  obtain ⟨i0, hi, hz0, hz1, hz2⟩ := info_parts Tryz.infoPass
  have hr := fun kl kc => run_make (P := Tryz.prog) w 40 61 i0 .nilFunc Tryz.underlying40 hi hz0 kl kc n n (by omega) (Int.le_refl _) (by rw [hz2]; omega) (by omega)
  simp only [Int.toNat_natCast] at hr
  refine ⟨_, hr, ?_, (Below.refl _ w).alloc (Nat.le_refl _) _, by simp⟩
  have h1 := Go.heap_alloc_new w (.cells (madeCells (Value.nilFunc).cells (n * i0.size)) 61)
  unfold FRow
  rw [h1, hz1, Nat.mul_one]
  have e : madeCells (Value.nilFunc).cells n = (List.replicate n Value.nilFunc).toArray := by
    have := toList_madeCells_one Value.nilFunc n
    rw [← this]
    simp [Value.cells]
  rw [e]
/-- a row of functions -/
def Fns (w0 : World) (B : Nat) (w : World) (v : Value) (Fs : List (List Int → List Int × Int)) : Prop :=
  ∃ b cap, v = .slice (some ⟨b, 0, none⟩) Fs.length cap ∧ ∀ (j : Nat) F, Fs[j]? = some F → ∃ u, w.cell? ⟨b, j, none⟩ = some u ∧ Acts w0 B w u F
theorem Fns.below {w0 w w' : World} {B : Nat} {v : Value} {Fs : List (List Int → List Int × Int)} (h : Fns w0 B w v Fs) (hb : Below w.heap.size w w') : Fns w0 B w' v Fs := by
  obtain ⟨b, cap, hv, hc⟩ := h
  refine ⟨b, cap, hv, fun j F hj => ?_⟩
  obtain ⟨u, h1, h2⟩ := hc j F hj
  exact ⟨u, by rw [hb.cell (p := ⟨b, j, none⟩) (L.block_lt h1)]; exact h1, h2.below hb⟩
/-- where the loop over the passes stands -/
def Mk (pl : Pl) (ps : List V.Pass) (w wr : World) (k : Nat) (cur : List Value) : Prop :=
  FRow wr w.heap.size cur ∧ cur.length = ps.length ∧ Below w.heap.size w wr ∧ ∀ (j : Nat) p, j < k → ps[j]? = some p → ∃ u, cur[j]? = some u ∧ Acts w (w.heap.size + 1) wr u (passF pl p)
theorem Mk.below {pl : Pl} {ps : List V.Pass} {w wr w' : World} {k : Nat} {cur : List Value} (h : Mk pl ps w wr k cur) (hb : Below wr.heap.size wr w') : Mk pl ps w w' k cur := by
  obtain ⟨h1, h2, h3, h4⟩ := h
  refine ⟨K.blk_below h1 hb, h2, h3.trans (hb.mono h3.size), fun j p hj hp => ?_⟩
  obtain ⟨u, g1, g2⟩ := h4 j p hj hp
  exact ⟨u, g1, g2.below hb⟩
theorem Mk.put {pl : Pl} {ps : List V.Pass} {w wr : World} {k : Nat} {cur : List Value} (h : Mk pl ps w wr k cur) {p : V.Pass} (hp : ps[k]? = some p) {u : Value} (hu : Acts w (w.heap.size + 1) wr u (passF pl p)) : Mk pl ps w (wr.setCell ⟨w.heap.size, k, none⟩ u) (k + 1) (cur.set k u) := by
  obtain ⟨h1, h2, h3, h4⟩ := h
  have hk : ∀ b o, w.heap.size + 1 ≤ b → wr.heap[b]? = some o → (wr.setCell ⟨w.heap.size, k, none⟩ u).heap[b]? = some o := fun b o hb ho => by
    rw [heap_setCell_other _ ⟨w.heap.size, k, none⟩ b _ (by simp; omega)]; exact ho
  refine ⟨h1.set u, by simpa using h2, h3.setCell (p := ⟨w.heap.size, k, none⟩) (Nat.le_refl _) _, fun j q hj hq => ?_⟩
  have hlt := (List.getElem?_eq_some_iff.1 hp).1
  by_cases e : j = k
  · subst e
    rw [hp] at hq
    cases hq
    exact ⟨u, List.getElem?_set_self (by omega), hu.keep (Nat.le_refl _) hk⟩
  · obtain ⟨u', g1, g2⟩ := h4 j q (by omega) hq
    exact ⟨u', by rw [List.getElem?_set_ne (fun h => e h.symm)]; exact g1, g2.keep (Nat.le_refl _) hk⟩
end Cn

set_option maxHeartbeats 2000000 in
theorem passes_any (pl : Cn.Pl) (hpl : Cn.PlOk pl) (w : World) (v : Value) (ps : List V.Pass) (hP : V.Pas w v ps) (hl : ps.length ≤ 60) (hE : ∀ p ∈ ps, Cn.passE p = 0) :
    Calls Tryz.prog 16 #[v] w fun e w' => ∃ v', e = .returned v' ∧ Cn.Fns w (w.heap.size + 1) w' v' (ps.map (Cn.passF pl)) ∧ Below w.heap.size w w' := by
  have HP : Hid (V.Pas w v ps ∧ (∀ p ∈ ps, Cn.passE p = 0)) := ⟨hP, hE⟩
  have HPl : Hid (Cn.PlOk pl) := hpl
  obtain ⟨ao, cap, rfl⟩ := hP.len
  obtain ⟨W, hmk, hrow, hB, hs⟩ := Cn.make_fns w ps.length (by omega)
  have HW : Hid (Cn.Mk pl ps w W 0 (List.replicate ps.length .nilFunc)) := ⟨hrow, by simp, hB, fun j p hj => by omega⟩
  clear hP hE hpl hrow hB hs
  go_enter Tryz.func16, Tryz.ntmps16
  go_wp2
  go_loopw [11] (fun i wr => ∃ (k : Nat) (cur : List Value), k ≤ ps.length ∧ i = .int .i64 k ∧ Hid (Cn.Mk pl ps w wr k cur)) (fun i _ => ps.length - (intOf i).toNat)
  case atStart => exact ⟨0, _, Nat.zero_le _, rfl, HW⟩
  case round =>
    obtain ⟨k, cur, hk, rfl, HI⟩ := hrel
    by_cases hlt : k < ps.length
    · obtain ⟨p, hp⟩ : ∃ x, ps[k]? = some x := ⟨ps[k], by simp [hlt]⟩
      obtain ⟨ao', cap', e', _, hcs⟩ := HP.out.1
      cases e'
      obtain ⟨b, off, rfl, hcell⟩ := hcs (by intro h; rw [h] at hlt; simp at hlt)
      obtain ⟨c0, hn, ro, rc, c1, hr⟩ := hcell k p hp
      rw [← HI.out.2.2.1.cell (p := ⟨b, off + k * 2, none⟩) (L.block_lt c0)] at c0
      rw [← HI.out.2.2.1.cell (p := ⟨b, off + k * 2 + 1, none⟩) (L.block_lt c1)] at c1
      have HC : Hid (∀ o, Calls Tryz.prog 31 #[.agg #[.string p.name, .slice ro p.rules.length rc]] (wr.alloc o) fun e w' => ∃ v, e = .returned v ∧ Cn.Acts w (wr.alloc o).heap.size w' v (Cn.passF pl p) ∧ Below (wr.alloc o).heap.size (wr.alloc o) w') := fun o => ready_any pl HPl.out w _ p ro rc hr (HP.out.2 p (List.mem_of_getElem? hp))
      have HQ : Hid (ps[k]? = some p) := hp
      clear hcs hcell hr hp
      go_wp2_with fail
      refine (HC.out _).mono ?_
      rintro e w1 ⟨u, rfl, hA, b1⟩
      obtain ⟨g, cb, bx, rfl, hA2⟩ := id hA
      obtain ⟨_, B1, hl1⟩ := K.one_box b1
      have hM1 := HI.out.below B1
      have hsz : w.heap.size < wr.heap.size := lt_of_block HI.out.1
      have HN : Hid (Cn.Mk pl ps w (w1.setCell ⟨w.heap.size, k, none⟩ (.func (.func g) #[] cb)) (k + 1) (cur.set k (.func (.func g) #[] cb))) := hM1.put HQ.out (hA.keep (by simp; omega) fun _ _ _ h => h)
      have hcl : k < cur.length := by have := HI.out.2.1; omega
      have k1 : w1.cell? ⟨w.heap.size, k, none⟩ = some (cur[k]) := by rw [hM1.1.cell k]; simp [hcl]
      have fz : w1.frozen? ⟨w.heap.size, k, none⟩ = false := hM1.1.free k
      clear hA hA2 b1 B1 hM1 HC
      go_wp2
      go_roundw
      case rel => exact ⟨k + 1, _, by omega, by go_num, HN⟩
      case measure => simp [intOf]; omega
    · have hkl : k = ps.length := by omega
      subst hkl
      go_wp2
      go_ret
      obtain ⟨h1, h2, h3, h4⟩ := HI.out
      refine ⟨_, rfl, ⟨w.heap.size, _, by rw [List.length_map]; rfl, fun j F hj => ?_⟩, h3⟩
      rw [List.getElem?_map] at hj
      cases hp : ps[j]? with
      | none => rw [hp] at hj; cases hj
      | some p =>
        rw [hp] at hj
        cases hj
        obtain ⟨u, g1, g2⟩ := h4 j p (List.getElem?_eq_some_iff.1 hp).1 hp
        exact ⟨u, by rw [h1.cell j]; exact g1, g2⟩

set_option maxHeartbeats 2000000 in
theorem through_any (pl : Cn.Pl) (hpl : Cn.PlOk pl) (w0 w : World) (B : Nat) (v : Value) (ps : List V.Pass) (h0 : Below w0.heap.size w0 w) (hF : Cn.Fns w0 B w v (ps.map (Cn.passF pl))) (hl : ps.length ≤ 60) (vt : Value) (t : List Int) (Rt : L.Rd w vt .i32 t) (ht : Cn.Tx t) :
    Calls Tryz.prog 28 #[v, vt] w fun e w' => ∃ v', e = .returned (.tuple #[v', .agg #[.int .i64 (Cn.thru pl 0 ps t).2.1, .int .i64 (Cn.thru pl 0 ps t).2.2]]) ∧ L.Rd w' v' .i32 (Cn.thru pl 0 ps t).1 ∧ Below w.heap.size w w' := by
  obtain ⟨⟨o, o1, o2⟩, HO⟩ : ∃ o, Hid (Cn.thru pl 0 ps t = o) := ⟨_, rfl⟩
  rw [HO.out]
  have HF : Hid (Cn.Fns w0 B w v (ps.map (Cn.passF pl)) ∧ Below w0.heap.size w0 w) := ⟨hF, h0⟩
  have HPl : Hid (Cn.PlOk pl) := hpl
  obtain ⟨b, cap, rfl, hcs⟩ := hF
  rw [List.length_map] at HF
  rw [List.length_map]
  have HCs : Hid (∀ (j : Nat) F, (ps.map (Cn.passF pl))[j]? = some F → ∃ u, w.cell? ⟨b, j, none⟩ = some u ∧ Cn.Acts w0 B w u F) := hcs
  obtain ⟨xo, xc, rfl⟩ : ∃ xo xc, vt = .slice xo t.length xc := by obtain ⟨a, c, h, _⟩ := Rt; exact ⟨a, c, h⟩
  have HA : Hid (∀ o, Below w.heap.size w (w.alloc o)) := fun o => (Below.refl _ w).alloc (Nat.le_refl _) o
  have HT : Hid (L.Rd w (.slice xo t.length xc) .i32 t ∧ Cn.Tx t) := ⟨Rt, ht⟩
  clear Rt ht h0 hpl hcs
  go_enter Tryz.func28, Tryz.ntmps28
  go_wp2
  go_loopw [1, 12] (fun i1 i wr => ∃ (k : Nat) (x : List Int) (yo : Option Addr) (yc : Nat), k ≤ ps.length ∧ i = .int .i64 k ∧ i1 = .slice yo x.length yc ∧ Hid (Cn.thru pl k (ps.drop k) x = (o, o1, o2)) ∧ Hid (L.Rd wr (.slice yo x.length yc) .i32 x ∧ Cn.Tx x) ∧ Hid (Below w.heap.size w wr) ∧ Hid (wr.heap[w.heap.size]? = some (.cells #[.int .i64 0, .int .i64 0] 29))) (fun _ i _ => ps.length - (intOf i).toNat)
  case atStart => exact ⟨0, t, xo, xc, Nat.zero_le _, rfl, rfl, HO, ⟨HT.out.1.below (HA.out _) (Nat.le_refl _), HT.out.2⟩, HA.out _, heap_alloc_new w _⟩
  case round =>
    obtain ⟨k, x, yo, yc, hk, rfl, rfl, HE, HX, HB, HY⟩ := hrel
    obtain ⟨x0, x1, f0, f1⟩ := K.box2 HY.out
    by_cases hlt : k < ps.length
    · obtain ⟨p, hp⟩ : ∃ x, ps[k]? = some x := ⟨ps[k], by simp [hlt]⟩
      obtain ⟨u, hu, hA⟩ := HCs.out k (Cn.passF pl p) (by rw [List.getElem?_map, hp]; rfl)
      rw [← HB.out.cell (p := ⟨b, k, none⟩) (L.block_lt hu)] at hu
      obtain ⟨g, cb, rfl, eg, hC⟩ := (hA.below HB.out).call (HF.out.2.trans (HB.out.mono HF.out.2.size))
      have hc := hC _ x HX.out.1 HX.out.2
      have HE2 : Hid (Cn.thru pl k (ps.drop k) x = if (Cn.passF pl p x).2 = 0 then Cn.thru pl (k + 1) (ps.drop (k + 1)) (Cn.passF pl p x).1 else ([], (Cn.passF pl p x).2, (k : Int))) := Cn.thru_drop hp
      have HTx : Hid (Cn.Tx (Cn.passF pl p x).1) := Cn.passF_tx HPl.out.2 HX.out.2
      obtain ⟨⟨q, z⟩, hq⟩ : ∃ q, Cn.passF pl p x = q := ⟨_, rfl⟩
      rw [hq] at hc HE2 HTx
      simp only at hc HE2 HTx
      have HCc : Hid (Calls Tryz.prog g (#[.slice yo x.length yc] ++ cb) wr fun e w' => ∃ v', e = .returned (.tuple #[v', .int .i64 z]) ∧ L.Rd w' v' .i32 q ∧ Below wr.heap.size wr w') := hc
      have hsz := HB.out.size
      clear hp hA hC hq hc
      go_wp2_with fail
      refine HCc.out.mono ?_
      rintro e w1 ⟨v1, rfl, d1, b1⟩
      obtain ⟨va, vc, rfl⟩ : ∃ va vc, v1 = .slice va q.length vc := by obtain ⟨a, c, h, _⟩ := d1; exact ⟨a, c, h⟩
      have HB1 : Hid (Below w.heap.size w w1) := HB.out.trans (b1.mono hsz)
      have HY1 : Hid (w1.heap[w.heap.size]? = some (.cells #[.int .i64 0, .int .i64 0] 29)) := K.blk_below HY.out b1
      have HD1 : Hid (L.Rd w1 (.slice va q.length vc) .i32 q ∧ Cn.Tx q) := ⟨d1, HTx.out⟩
      clear d1 b1 x0 x1 f0 f1 HCc hu
      obtain ⟨x0, x1, f0, f1⟩ := K.box2 HY1.out
      by_cases hz : z = 0
      · subst hz
        go_wp2
        go_roundw
        case rel => exact ⟨k + 1, q, va, vc, by omega, by go_num, rfl, by show _ = _; rw [← HE.out, HE2.out]; simp, HD1, HB1, HY1⟩
        case measure => simp [intOf]; omega
      · have h := HE2.out
        rw [HE.out, if_neg hz] at h
        simp only [Prod.mk.injEq] at h
        obtain ⟨rfl, rfl, rfl⟩ := h
        go_wp2
        refine bodyPost_ret (v := .tuple #[.slice none 0 0, .agg #[.int .i64 o1, .int .i64 k]]) (by simp [results, Tryz.results28, go_sem, *]) rfl ?_
        exact ⟨_, rfl, ⟨none, 0, rfl, fun _ => rfl, fun h => absurd rfl h⟩, (HB1.out.setCell (p := ⟨w.heap.size, 0, none⟩) (Nat.le_refl _) _).setCell (p := ⟨w.heap.size, 1, none⟩) (Nat.le_refl _) _⟩
    · have h := HE.out
      rw [List.drop_eq_nil_of_le (by omega)] at h
      simp only [Cn.thru, Prod.mk.injEq] at h
      obtain ⟨rfl, rfl, rfl⟩ := h
      go_wp2
      refine bodyPost_ret (v := .tuple #[.slice yo x.length yc, .agg #[.int .i64 0, .int .i64 0]]) (by simp [results, Tryz.results28, go_sem, *]) rfl ?_
      refine ⟨_, rfl, K.rd_block HX.out.1 fun hz q hq => ?_, (HB.out.setCell (p := ⟨w.heap.size, 0, none⟩) (Nat.le_refl _) _).setCell (p := ⟨w.heap.size, 1, none⟩) (Nat.le_refl _) _⟩
      have hne := K.rd_ne HX.out.1 HY.out hz q hq
      rw [heap_setCell_other _ ⟨w.heap.size, 1, none⟩ q _ (by simpa using hne), heap_setCell_other _ ⟨w.heap.size, 0, none⟩ q _ (by simpa using hne)]

end Go.Proofs.YtjaodbaooogpnaaGreat
