/-
  The document's Split.
-/
import Derived.Test.YtddiojckgjobmaaGreatWdWord
import Derived.Test.YtddiojckgjobmaaGreatMRefT
import Derived.Deep.RegionHeld3
namespace Go.Proofs.YtddiojckgjobmaaGreat
open Go.RowKit Go.Lib
set_option maxRecDepth 20000
set_option linter.unusedSimpArgs false
set_option linter.unusedVariables false

namespace Wd
abbrev Two (w X : World) (bk a b : Nat) (x y : Int) : Prop := Below w.heap.size w X ∧ X.cell? ⟨bk, a, none⟩ = some (.int .i32 x) ∧ X.cell? ⟨bk, b, none⟩ = some (.int .i32 y)
theorem Two.below {w X Y : World} {bk a b : Nat} {x y : Int} (h : Two w X bk a b x y) (hb : Below X.heap.size X Y) : Two w Y bk a b x y :=
  ⟨h.1.trans (hb.mono h.1.size), (hb.cell (p := ⟨bk, a, none⟩) (L.block_lt h.2.1)).trans h.2.1, (hb.cell (p := ⟨bk, b, none⟩) (L.block_lt h.2.2)).trans h.2.2⟩
abbrev On (w X : World) (bk a : Nat) (x : Int) : Prop := Below w.heap.size w X ∧ X.cell? ⟨bk, a, none⟩ = some (.int .i32 x)
theorem On.below {w X Y : World} {bk a : Nat} {x : Int} (h : On w X bk a x) (hb : Below X.heap.size X Y) : On w Y bk a x :=
  ⟨h.1.trans (hb.mono h.1.size), (hb.cell (p := ⟨bk, a, none⟩) (L.block_lt h.2)).trans h.2⟩
theorem On.alloc {w X : World} {bk a : Nat} {x : Int} (h : On w X bk a x) (o : Obj) : On w (X.alloc o) bk a x := h.below ((Below.refl _ X).alloc (Nat.le_refl _) o)
end Wd

set_option maxHeartbeats 4000000 in
theorem rSplit17_any (w : World) (v : Value) (A : List S.Sp) (R : S.Rd w v A) (hf : S.Fit A) (xo : Option Addr) (xc : Nat) (t : List Int) (Rt : L.Rd w (.slice xo t.length xc) .i32 t) (ht : t.length ≤ 140737488355328) :
    Calls Tryz.prog 5 #[v, .slice xo t.length xc] w fun e w' => ∃ v', e = .returned (.tuple #[v', .int .i64 (Wd.splitE A t)]) ∧ w'.ownsRow w.heap.size 32 3 v' (Wd.splitF A t).length (Wd.wcells (Wd.splitF A t)) ∧ Below w.heap.size w w' := by
  have H1 := zbm w v A R hf
  have H2 : Hid (∀ X, Below w.heap.size w X → Calls Tryz.prog 15 #[.slice xo t.length xc] X fun e w' => e = .returned (.int .i64 (K.textE t)) ∧ Below X.heap.size X w') := fun X hX => zb4 X _ t (Rt.below hX (Nat.le_refl _)) ht
  have HIn : Hid (S.Rd w v A ∧ L.Rd w (.slice xo t.length xc) .i32 t) := ⟨R, Rt⟩
  obtain ⟨va, vc, rfl⟩ := R.len
  obtain ⟨a1, HA1⟩ : ∃ z, Hid (S.wrongE A = z) := ⟨_, rfl⟩
  obtain ⟨a2, HA2⟩ : ∃ z, Hid (K.textE t = z) := ⟨_, rfl⟩
  rw [HA1.out] at H1
  rw [HA2.out] at H2
  clear R Rt
  go_enter Tryz.func5, Tryz.ntmps5
  go_wp2_with fail
  refine H1.mono ?_
  rintro e w1 ⟨rfl, b1⟩
  have H2' := H2.out _ b1
  have HB1 : Hid (Below w.heap.size w w1) := b1
  clear H1 b1 H2
  by_cases q1 : a1 = 0
  · subst q1
    go_wp2_with fail
    refine H2'.mono ?_
    rintro e w2 ⟨rfl, b2⟩
    have HB2 : Hid (Below w.heap.size w w2) := HB1.out.trans (b2.mono HB1.out.size)
    clear H2' b2 HB1
    by_cases q2 : a2 = 0
    · subst q2
      have hA := S.zaw.1 HA1.out
      have h4 := K.zbp HA2.out
      have HS : Hid (Wd.splitE A t = 0 ∧ Wd.splitF A t = Wd.rest (S.memb A) t 0) := by
        have e : Wd.splitE A t = 0 := by unfold Wd.splitE; rw [if_pos HA1.out, HA2.out]
        exact ⟨e, by unfold Wd.splitF; rw [if_pos e]⟩
      have HH : Hid (∀ X r, Below w.heap.size w X → Calls Tryz.prog 16 #[.slice va A.length vc, .int .i32 r] X fun e w' => e = .returned (.bool (S.memb A r)) ∧ Below X.heap.size X w') := fun X r hX => zbq X _ A r (HIn.out.1.below hX (Nat.le_refl _)) (by omega)
      clear hA
      go_wp2
      go_loopw [8, 9, 10] (fun i8 i9 i10 wr => ∃ (j m fr : Nat) (xs : List Wd.Wo) (vo : Option Addr) (vc' : Nat), m ≤ t.length + 1 ∧ i9 = .int .i64 fr ∧ i10 = .int .i64 (m : Int) ∧ i8 = .slice vo xs.length vc' ∧ Hid (m = j + 1 ∧ fr ≤ j ∧ j ≤ t.length) ∧ Hid ((j < t.length → S.memb A (t.getD fr 0) = S.memb A (t.getD j 0) ∧ Wd.rest (S.memb A) t 0 = xs ++ Wd.go (S.memb A) fr (j + 1) (S.memb A (t.getD fr 0)) (t.drop (j + 1))) ∧ (j = t.length → Wd.rest (S.memb A) t 0 = xs) ∧ wr.ownsRow w.heap.size 32 3 (.slice vo xs.length vc') xs.length (Wd.wcells xs) ∧ Below w.heap.size w wr ∧ xs.length ≤ 4000)) (fun _ _ i10 _ => t.length + 1 - (RowKit.intOf i10).toNat)
      case atStart => exact ⟨0, 1, 0, [], none, 0, by omega, rfl, rfl, rfl, ⟨rfl, Nat.le_refl _, Nat.zero_le _⟩, fun h => ⟨rfl, if_pos h⟩, fun h => Wd.rest_end (by omega), World.ownsRow_nil _ _ _ _, HB2.out, by simp⟩
      case round =>
        obtain ⟨j, m, fr, xs, vo, vc', hm1, rfl, rfl, rfl, HJ, HI⟩ := hrel
        have hI := HI.out
        have hBr := hI.2.2.2.1
        have hszr := hBr.size
        have hxl := hI.2.2.2.2
        by_cases hlt : m ≤ t.length
        · have hjl : j < t.length := by have := HJ.out.1; omega
          have hfl : fr < t.length := by have := HJ.out.2.1; omega
          obtain ⟨bk, off, rfl, hbk, hcell⟩ := Wd.at_text HIn.out.2 hjl
          obtain ⟨hpf, hrest⟩ := hI.1 hjl
          obtain ⟨xf, hxf⟩ : ∃ x, x = t.getD fr 0 := ⟨_, rfl⟩
          have cF : ∀ X, Below w.heap.size w X → X.cell? ⟨bk, off + fr, none⟩ = some (.int .i32 xf) := fun X hX => by rw [hxf]; exact hcell X hX fr hfl
          have HF : Hid (∀ X, Below w.heap.size w X → X.cell? ⟨bk, off + fr, none⟩ = some (.int .i32 xf)) := cF
          rw [← hxf] at hpf hrest
          -- one word more: what comes of it
          have HMore : Hid (∀ w3, Below wr.heap.size wr w3 → (m < t.length → S.memb A (t.getD m 0) ≠ S.memb A xf) → ∃ ao1 vc1 w4, (∀ ty, (Builtin.append_ #[27, 27] ty #[.slice vo xs.length vc', .slice (some ⟨w3.heap.size, 0, none⟩) 1 1]).run Tryz.prog (w3.alloc (.cells #[.int .i64 fr, .int .i64 (m : Int), .bool (S.memb A xf)] 32)) = .ok (.slice ao1 (xs.length + 1) vc1) w4) ∧ Wd.rest (S.memb A) t 0 = (xs ++ [(fr, m, S.memb A xf)]) ++ Wd.rest (S.memb A) t m ∧ w4.ownsRow w.heap.size 32 3 (.slice ao1 (xs.length + 1) vc1) (xs.length + 1) (Wd.wcells (xs ++ [(fr, m, S.memb A xf)])) ∧ Below w.heap.size w w4 ∧ (xs ++ [((fr, m, S.memb A xf) : Wd.Wo)]).length = xs.length + 1 ∧ xs.length + 1 ≤ 4000) := fun w3 b3 hne => by
            have hs3 := b3.size
            have hmj := HJ.out.1
            subst hmj
            obtain ⟨ao1, vc1, w4, run1, own1, kp1, sz1, be1⟩ := Al.app (sl := 27) Tryz.underlying27 Tryz.infoWord rfl (by decide) (by decide) (L.zat hI.2.2.1 b3 (Nat.le_refl _)) (by omega) (by omega) [.int .i64 fr, .int .i64 ((j + 1 : Nat) : Int), .bool (S.memb A xf)] rfl (fun u hu => by simp at hu; rcases hu with rfl | rfl | rfl <;> rfl)
            have e1 : Wd.rest (S.memb A) t 0 = (xs ++ [(fr, j + 1, S.memb A xf)]) ++ Wd.rest (S.memb A) t (j + 1) := by rw [hrest, Wd.go_cut (by omega) hne]; simp
            refine ⟨ao1, vc1, w4, run1, e1, by rw [Wd.wcells_append]; exact own1, (hBr.trans (b3.mono (by omega))).trans be1, by simp, ?_⟩
            have h1 := Wd.rest_len (S.memb A) t 0
            rw [e1, List.length_append, List.length_append] at h1
            simp only [List.length_cons, List.length_nil] at h1
            omega
          have HO : Hid (wr.ownsRow w.heap.size 32 3 (.slice vo xs.length vc') xs.length (Wd.wcells xs) ∧ Below w.heap.size w wr) := ⟨hI.2.2.1, hBr⟩
          have HRs : Hid (Wd.rest (S.memb A) t 0 = xs ++ Wd.go (S.memb A) fr (j + 1) (S.memb A xf) (t.drop (j + 1)) ∧ xs.length ≤ 4000) := ⟨hrest, hxl⟩
          have HXf : Hid (xf = t.getD fr 0) := hxf
          have HJm : Hid (m = j + 1) := HJ.out.1
          have HJl : Hid (fr ≤ j) := HJ.out.2.1
          clear hrest hI HI hxf
          by_cases hi : m < t.length
          · have hq : j < t.length := hjl
            have hwr : IntKind.i64.wrap ((m : Int) - 1) = (j : Int) := by rw [HJ.out.1, IntKind.wrap_i64]; omega
            obtain ⟨x1, hx1⟩ : ∃ x, x = t.getD m 0 := ⟨_, rfl⟩
            obtain ⟨x0, hx0⟩ : ∃ x, x = t.getD j 0 := ⟨_, rfl⟩
            have hK : Wd.Two w wr.drew bk (off + m) (off + j) x1 x0 := ⟨hBr.drew, by rw [hx1]; exact hcell _ hBr.drew _ hi, by rw [hx0]; exact hcell _ hBr.drew _ hq⟩
            have HK : Hid (Wd.Two w wr.drew bk (off + m) (off + j) x1 x0) := hK
            have HGo : Hid (S.memb A x1 = S.memb A xf → Wd.rest (S.memb A) t 0 = xs ++ Wd.go (S.memb A) fr (m + 1) (S.memb A xf) (t.drop (m + 1))) := fun h => by rw [HRs.out.1, ← HJ.out.1, Wd.go_step hi (by rw [← hx1]; exact h)]
            have HP : Hid (S.memb A xf = S.memb A x0) := by show _ = _; rw [hpf, ← hx0]
            rw [← hx1] at HMore
            have HX1 : Hid (x1 = t.getD m 0) := hx1
            clear hcell hpf hx1 hx0 hK cF HJ
            go_wp2
            go_region_held3 (fun w' => Below w.heap.size w w' ∧ w'.cell? ⟨bk, off + m, none⟩ = some (.int .i32 x1) ∧ w'.cell? ⟨bk, off + j, none⟩ = some (.int .i32 x0))
              (first | with_reducible exact kk2 | with_reducible exact kk1 | with_reducible exact HK.out | fail)
              (first
                | (have hy := kk1; clear hy; go_at_call 16; refine (HH.out _ _ (by with_reducible exact kk1.1)).mono ?_; rintro e w5 ⟨rfl, z5⟩; have kk2 := kk1.below z5)
                | (go_at_call 16; refine (HH.out _ _ (by with_reducible exact HK.out.1)).mono ?_; rintro e w4 ⟨rfl, z4⟩; have kk1 := HK.out.below z4)
                | fail)
            have B5 : Below wr.heap.size wr w5 := ((Below.refl _ wr).drew.trans z4).trans (z5.mono z4.size)
            clear kk1 kk2 z4 z5
            obtain ⟨c1, hc1⟩ : ∃ c, c = S.memb A x1 := ⟨_, rfl⟩
            obtain ⟨c0, hc0⟩ : ∃ c, c = S.memb A x0 := ⟨_, rfl⟩
            rw [← hc1] at HMore HGo
            rw [← hc0] at HP
            rw [← hc1, ← hc0]
            have HC1 : Hid (c1 = S.memb A x1) := hc1
            clear hc1 hc0 HK
            have HB5 : Hid (Below wr.heap.size wr w5) := B5
            by_cases hcc : c1 = c0
            · rw [show (c1 == c0) = true by rw [hcc]; simp]
              subst hcc
              have HO5 : Hid (w5.ownsRow w.heap.size 32 3 (.slice vo xs.length vc') xs.length (Wd.wcells xs) ∧ Below w.heap.size w w5) := ⟨L.zat HO.out.1 B5 (Nat.le_refl _), HO.out.2.trans (B5.mono HO.out.2.size)⟩
              have HG : Hid (Wd.rest (S.memb A) t 0 = xs ++ Wd.go (S.memb A) fr (m + 1) (S.memb A xf) (t.drop (m + 1))) := HGo.out HP.out.symm
              clear B5 HMore HGo
              go_wp2
              go_roundw
              case rel => exact ⟨j + 1, m + 1, fr, xs, vo, vc', by omega, rfl, by go_num, rfl, ⟨by rw [HJm.out], by have := HJl.out; omega, by have := HJm.out; omega⟩, fun h => ⟨by rw [← HXf.out, ← HJm.out, ← HX1.out, HP.out, HC1.out], by rw [HG.out, HXf.out, HJm.out]⟩, fun h => absurd h (by have := HJm.out; omega), HO5.out.1, HO5.out.2, HRs.out.2⟩
              case measure => simp [RowKit.intOf]; omega
            · have HNe : Hid (m < t.length → c1 ≠ S.memb A xf) := fun _ h => hcc (by rw [h, HP.out])
              rw [show (c1 == c0) = false by cases c1 <;> cases c0 <;> simp_all]
              clear HGo HP HC1 hcc
              have hBw : Below w.heap.size w w5 := HO.out.2.trans (B5.mono HO.out.2.size)
              have c5 := HF.out w5 hBw
              have hH5 := HH.out w5 xf hBw
              go_wp2_with fail
              refine hH5.mono ?_
              clear hH5 c5
              rintro e w6 ⟨rfl, z6⟩
              obtain ⟨ao1, vc1, w7, run7, hrest7, own7, hb7, hl7, hxl7⟩ := HMore.out w6 (HB5.out.trans (z6.mono HB5.out.size)) HNe.out
              have HM : Hid (Wd.rest (S.memb A) t 0 = (xs ++ [(fr, m, S.memb A xf)]) ++ Wd.rest (S.memb A) t m ∧ w7.ownsRow w.heap.size 32 3 (.slice ao1 (xs.length + 1) vc1) (xs.length + 1) (Wd.wcells (xs ++ [(fr, m, S.memb A xf)])) ∧ (xs ++ [((fr, m, S.memb A xf) : Wd.Wo)]).length = xs.length + 1 ∧ xs.length + 1 ≤ 4000 ∧ Below w.heap.size w w7) := ⟨hrest7, own7, hl7, hxl7, hb7⟩
              clear hrest7 own7 hb7 hl7 hxl7 z6 hBw
              go_wp2_with (at_builtin; refine Lib.wpList_append_run _ rfl _ _ _ _ rfl _ _ rfl rfl _ _ (run7 _) ?_; clear run7)
              go_roundw
              case rel => exact ⟨j + 1, m + 1, m, xs ++ [(fr, m, S.memb A xf)], ao1, vc1, by omega, rfl, by go_num, by rw [HM.out.2.2.1], ⟨by rw [HJm.out], by rw [HJm.out]; exact Nat.le_refl _, by have := HJm.out; omega⟩, fun h => ⟨by rw [HJm.out], by rw [HM.out.1, HJm.out, Wd.rest, if_pos h]⟩, fun h => by rw [HM.out.1, HJm.out, Wd.rest_end (by omega), List.append_nil], by rw [HM.out.2.2.1]; exact HM.out.2.1, HM.out.2.2.2.2, by rw [HM.out.2.2.1]; exact HM.out.2.2.2.1⟩
              case measure => simp [RowKit.intOf]; omega
          · have hmn : ¬ ((m : Int) < (t.length : Int)) := by omega
            have HNe : Hid (m < t.length → S.memb A (t.getD m 0) ≠ S.memb A xf) := fun h => absurd h hi
            clear hcell hpf cF HJ
            go_wp2
            go_big_quiet (fail)
            have c5 := HF.out wr HO.out.2
            go_wp2_with fail
            refine (HH.out _ xf (below_drewN HO.out.2 _)).mono ?_
            clear c5
            rintro e w6 ⟨rfl, z6⟩
            obtain ⟨ao1, vc1, w7, run7, hrest7, own7, hb7, hl7, hxl7⟩ := HMore.out w6 ((below_drewN (Below.refl _ wr) _).trans z6) HNe.out
            have HM : Hid (Wd.rest (S.memb A) t 0 = (xs ++ [(fr, m, S.memb A xf)]) ++ Wd.rest (S.memb A) t m ∧ w7.ownsRow w.heap.size 32 3 (.slice ao1 (xs.length + 1) vc1) (xs.length + 1) (Wd.wcells (xs ++ [(fr, m, S.memb A xf)])) ∧ (xs ++ [((fr, m, S.memb A xf) : Wd.Wo)]).length = xs.length + 1 ∧ xs.length + 1 ≤ 4000 ∧ Below w.heap.size w w7) := ⟨hrest7, own7, hl7, hxl7, hb7⟩
            clear hrest7 own7 hb7 hl7 hxl7 z6
            go_wp2_with (at_builtin; refine Lib.wpList_append_run _ rfl _ _ _ _ rfl _ _ rfl rfl _ _ (run7 _) ?_; clear run7)
            go_roundw
            case rel => exact ⟨j + 1, m + 1, m, xs ++ [(fr, m, S.memb A xf)], ao1, vc1, by omega, rfl, by go_num, by rw [HM.out.2.2.1], ⟨by rw [HJm.out], by rw [HJm.out]; exact Nat.le_refl _, by have := HJm.out; omega⟩, fun h => ⟨by rw [HJm.out], by rw [HM.out.1, HJm.out, Wd.rest, if_pos h]⟩, fun h => by rw [HM.out.1, HJm.out, Wd.rest_end (by omega), List.append_nil], by rw [HM.out.2.2.1]; exact HM.out.2.1, HM.out.2.2.2.2, by rw [HM.out.2.2.1]; exact HM.out.2.2.2.1⟩
            case measure => simp [RowKit.intOf]; omega
        · have hje : j = t.length := by have := HJ.out; omega
          have HE : Hid (Wd.splitF A t = xs) := by show _ = _; rw [HS.out.2, HI.out.2.1 hje]
          have hn : ¬ ((m : Int) ≤ (t.length : Int)) := by omega
          go_wp2
          refine bodyPost_ret (v := .tuple #[.slice vo xs.length vc', .int .i64 0]) (by simp [results, Tryz.results5, go_sem, *]) rfl ?_
          exact ⟨_, by rw [HS.out.1], by rw [HE.out]; exact HI.out.2.2.1, HI.out.2.2.2.1⟩
    · have HS : Hid (Wd.splitE A t = a2 ∧ Wd.splitF A t = []) := by
        have e : Wd.splitE A t = a2 := by unfold Wd.splitE; rw [if_pos HA1.out, HA2.out]
        exact ⟨e, by unfold Wd.splitF; rw [if_neg (by rw [e]; exact q2)]⟩
      go_wp2
      refine bodyPost_ret (v := .tuple #[.slice none 0 0, .int .i64 a2]) (by simp [results, Tryz.results5, go_sem, *]) rfl ?_
      exact ⟨_, by rw [HS.out.1], by rw [HS.out.2]; exact World.ownsRow_nil _ _ _ _, HB2.out⟩
  · have HS : Hid (Wd.splitE A t = a1 ∧ Wd.splitF A t = []) := by
      have e : Wd.splitE A t = a1 := by unfold Wd.splitE; rw [if_neg (by rw [HA1.out]; exact q1), HA1.out]
      exact ⟨e, by unfold Wd.splitF; rw [if_neg (by rw [e]; exact q1)]⟩
    go_wp2
    refine bodyPost_ret (v := .tuple #[.slice none 0 0, .int .i64 a1]) (by simp [results, Tryz.results5, go_sem, *]) rfl ?_
    exact ⟨_, by rw [HS.out.1], by rw [HS.out.2]; exact World.ownsRow_nil _ _ _ _, HB1.out⟩

end Go.Proofs.YtddiojckgjobmaaGreat
