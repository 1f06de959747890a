/-
  The document's Each.
-/
import Derived.Test.YtddiojckgjobmaaGreatWdEach
import Derived.Test.YtddiojckgjobmaaGreatWdRefS
import Derived.Test.YtddiojckgjobmaaGreatYFrame
import Derived.BigRegion
import Derived.Deep.DeepCutAuto
import Derived.Deep.RegionHeld3
namespace Go.Proofs.YtddiojckgjobmaaGreat
open Go.RowKit Go.Lib
set_option maxRecDepth 20000
set_option linter.unusedSimpArgs false
set_option linter.unusedVariables false

set_option maxHeartbeats 16000000 in
theorem rEach17_any (pl : Cn.Pl) (hpl : Cn.PlOk pl) (w : World) (v : Value) (A : List S.Sp) (R : S.Rd w v A) (hf : S.Fit A) (vs : Value) (s : V.Script) (h0 : V.ScIs w vs s) (hfit : S.Fit s.only) (xo : Option Addr) (xc : Nat) (t : List Int) (Rt : L.Rd w (.slice xo t.length xc) .i32 t) (hcap : t.length ≤ xc) (ht : t.length ≤ 140737488355328) :
    Calls Tryz.prog 10 #[v, vs, .slice xo t.length xc] w fun e w' => ∃ v', e = .returned (.tuple #[v', .agg #[.int .i64 (Wd.eachF pl A s t).2.1, .int .i64 (Wd.eachF pl A s t).2.2]]) ∧ L.Rd w' v' .i32 (Wd.eachF pl A s t).1 ∧ Below w.heap.size w w' := by
  have HWr : Hid (∀ X, Below w.heap.size w X → Calls Tryz.prog 23 #[vs] X fun e w' => e = .returned (.agg #[.int .i64 (Cn.wrongF s).1, .int .i64 (Cn.wrongF s).2]) ∧ Below X.heap.size X w') := fun X hX => zei X vs s (h0.below hX) hfit
  have HSp : Hid (∀ X, Below w.heap.size w X → Calls Tryz.prog 5 #[v, .slice xo t.length xc] X fun e w' => ∃ v', e = .returned (.tuple #[v', .int .i64 (Wd.splitE A t)]) ∧ w'.ownsRow X.heap.size 32 3 v' (Wd.splitF A t).length (Wd.wcells (Wd.splitF A t)) ∧ Below X.heap.size X w') := fun X hX => rSplit17_any X v A (R.below hX (Nat.le_refl _)) hf xo xc t (Rt.below hX (Nat.le_refl _)) ht
  obtain ⟨⟨g, g1, g2⟩, HG⟩ : ∃ o, Hid (Wd.eachF pl A s t = o) := ⟨_, rfl⟩
  rw [HG.out]
  obtain ⟨va, vc, rfl⟩ := R.len
  obtain ⟨oo, oc, po, pc, rfl, hO, hOl, hP⟩ := id h0
  have HIn : Hid (V.ScIs w (.agg #[.bool s.has, .slice oo s.only.length oc, .slice po s.passes.length pc]) s ∧ L.Rd w (.slice xo t.length xc) .i32 t ∧ Cn.PlOk pl) := ⟨h0, Rt, hpl⟩
  obtain ⟨W0, hW0⟩ : ∃ W0, W0 = (w.alloc (.cells #[.bool s.has, .slice oo s.only.length oc, .slice po s.passes.length pc] 25)).alloc (.cells #[.int .i64 0, .int .i64 0] 37) := ⟨_, rfl⟩
  have h2 := Cn.zca w (.cells #[.bool s.has, .slice oo s.only.length oc, .slice po s.passes.length pc] 25) (.cells #[.int .i64 0, .int .i64 0] 37)
  rw [← hW0] at h2
  have HA0 : Hid (Cn.At w W0 (.bool s.has) (.slice oo s.only.length oc) (.slice po s.passes.length pc)) := ⟨h2.2.2, K.zaa h2.1 rfl, K.zaa (i := 1) h2.1 rfl, K.zaa (i := 2) h2.1 rfl, h2.2.1⟩
  have hWr := HWr.out W0 HA0.out.1
  obtain ⟨⟨e1, e2⟩, HE⟩ : ∃ o, Hid (Cn.wrongF s = o) := ⟨_, rfl⟩
  rw [HE.out] at hWr
  have HW1 : Hid (Calls Tryz.prog 23 #[.agg #[.bool s.has, .slice oo s.only.length oc, .slice po s.passes.length pc]] W0 fun e w' => e = .returned (.agg #[.int .i64 e1, .int .i64 e2]) ∧ Below W0.heap.size W0 w') := hWr
  have HW0 : Hid (W0 = (w.alloc (.cells #[.bool s.has, .slice oo s.only.length oc, .slice po s.passes.length pc] 25)).alloc (.cells #[.int .i64 0, .int .i64 0] 37)) := hW0
  have HFt : Hid (S.Fit s.only ∧ t.length ≤ xc ∧ s.passes.length ≤ 4611686018427387903) := ⟨hfit, hcap, by have := hP.few; omega⟩
  clear hWr h2 hO hP Rt hpl HWr hW0 h0 R hfit hcap
  go_enter Tryz.func10, Tryz.ntmps10
  go_wp2_with fail
  rw [← HW0.out]
  refine HW1.out.mono ?_
  rintro e w1 ⟨rfl, b1⟩
  have hA1 := HA0.out.below b1
  have HA1 : Hid (∀ o, Cn.At w (w1.alloc o) (.bool s.has) (.slice oo s.only.length oc) (.slice po s.passes.length pc)) := fun o => hA1.alloc o
  have hx1 : w.heap.size + 1 < w1.heap.size := lt_of_block hA1.2.2.2.2
  obtain ⟨x0, x1, f0, f1⟩ := K.box2 hA1.2.2.2.2
  have k0 : ∀ o, (w1.alloc o).cell? ⟨w.heap.size + 1, 0, none⟩ = some (.int .i64 0) := fun o => K.zac x0 o
  have k1 : ∀ o, (w1.alloc o).cell? ⟨w.heap.size + 1, 1, none⟩ = some (.int .i64 0) := fun o => K.zac x1 o
  have fz : ∀ o i, (w1.alloc o).frozen? ⟨w.heap.size + 1, i, none⟩ = false := fun o i => K.zad hA1.2.2.2.2 o i
  have HB1 : Hid (Below w.heap.size w w1) := hA1.1
  clear b1 hA1 HW1 HA0 HW0
  by_cases q1 : e1 = 0
  · subst q1
    have HSt : Hid (∀ o, Calls Tryz.prog 5 #[.slice va A.length vc, .slice xo t.length xc] (w1.alloc o) fun e w' => ∃ v', e = .returned (.tuple #[v', .int .i64 (Wd.splitE A t)]) ∧ w'.ownsRow (w1.alloc o).heap.size 32 3 v' (Wd.splitF A t).length (Wd.wcells (Wd.splitF A t)) ∧ Below (w1.alloc o).heap.size (w1.alloc o) w') := fun o => HSp.out _ (HA1.out o).1
    obtain ⟨z, HZ⟩ : ∃ z, Hid (Wd.splitE A t = z) := ⟨_, rfl⟩
    obtain ⟨l, HLw⟩ : ∃ z, Hid (Wd.splitF A t = z) := ⟨_, rfl⟩
    rw [HZ.out, HLw.out] at HSt
    clear HSp k0 k1 fz x0 x1 f0 f1
    go_wp2_with fail
    refine (HSt.out _).mono ?_
    rintro e w2 ⟨v2, rfl, own2, b2⟩
    have hA2 := (HA1.out _).below b2
    have HA2 : Hid (Cn.At w w2 (.bool s.has) (.slice oo s.only.length oc) (.slice po s.passes.length pc)) := hA2
    obtain ⟨wo, wc, rfl, _⟩ := Al.lies own2
    have HW2 : Hid (w2.ownsRow 0 32 3 (.slice wo l.length wc) l.length (Wd.wcells l)) := L.za1 own2 (Nat.zero_le _)
    obtain ⟨x0, x1, f0, f1⟩ := K.box2 hA2.2.2.2.2
    have hx2 : w.heap.size + 1 < w2.heap.size := lt_of_block hA2.2.2.2.2
    clear b2 hA2 HSt HA1 HB1 own2
    by_cases q2 : z = 0
    · subst q2
      have hTx := Wd.split_tx HZ.out
      have h4 : t.length ≤ 4000 := hTx.1
      have HLt : Hid (l = Wd.words (S.memb A) t) := by
        show _ = _
        rw [← HLw.out]; unfold Wd.splitF; rw [if_pos HZ.out]
      have HGo : Hid (Wd.each pl s t l [] = (g, g1, g2)) := by
        show _ = _
        rw [← HG.out, Wd.eachF, if_pos (by rw [HE.out]), if_pos HZ.out, HLt.out]
      obtain ⟨n, hn⟩ : ∃ n, n = l.length := ⟨_, rfl⟩
      rw [← hn]
      have hnl : n ≤ 4000 := by rw [hn, HLt.out]; exact Nat.le_trans (Wd.rest_len (S.memb A) t 0) h4
      have HN : Hid (n = l.length) := hn
      clear hn hTx x0 x1 f0 f1
      go_wp2
      go_loopw [11, 34] (fun v11 i wr => ∃ (j k : Nat) (acc : List Int) (vo : Option Addr) (vc' : Nat), j ≤ n ∧ i = .int .i64 j ∧ v11 = .slice vo acc.length vc' ∧ Hid (Wd.each pl s t (l.drop j) acc = (g, g1, g2) ∧ acc.length ≤ 4000 * j ∧ l.drop j = Wd.rest (S.memb A) t k) ∧ Hid (wr.ownsRow w2.heap.size 21 1 (.slice vo acc.length vc') acc.length (K.ints acc) ∧ Below w2.heap.size w2 wr)) (fun _ i _ => n - (RowKit.intOf i).toNat)
      case atStart => exact ⟨0, 0, [], none, 0, Nat.zero_le _, rfl, rfl, ⟨HGo.out, Nat.zero_le _, HLt.out⟩, World.ownsRow_nil _ _ _ _, Below.refl _ _⟩
      case round =>
        obtain ⟨j, k, acc, vo, vc', hj, rfl, rfl, HI, HO⟩ := hrel
        have hA := HA2.out.below HO.out.2
        have HAw : Hid (Cn.At w wr (.bool s.has) (.slice oo s.only.length oc) (.slice po s.passes.length pc)) := hA
        have hsr := HO.out.2.size
        by_cases hlt : j < n
        · obtain ⟨x, hx⟩ : ∃ x, l[j]? = some x := ⟨l[j]'(by rw [← HN.out]; exact hlt), by simp⟩
          have hdj : l.drop j = x :: l.drop (j + 1) := by rw [List.drop_eq_getElem_cons (List.getElem?_eq_some_iff.1 hx).1, (List.getElem?_eq_some_iff.1 hx).2]
          have hdr : Wd.rest (S.memb A) t k = x :: l.drop (j + 1) := by rw [← HI.out.2.2, hdj]
          obtain ⟨hk1, hk2, hk3, hk4, hk5⟩ := Wd.rest_head hdr
          obtain ⟨hs1, hs2⟩ := Wd.seg_head hdr
          have HI1 : Hid ((if (Wd.res pl s x.2.2 (Wd.seg t x)).2.1 = 0 then Wd.each pl s t (l.drop (j + 1)) (acc ++ (Wd.res pl s x.2.2 (Wd.seg t x)).1) else ([], (Wd.res pl s x.2.2 (Wd.seg t x)).2)) = (g, g1, g2)) := by
            show _ = _
            rw [← Wd.each_cons, ← hdj]; exact HI.out.1
          obtain ⟨q, rfl, hq, hcl⟩ := Wd.at_word HW2.out hx
          obtain ⟨c0, c1, c2⟩ := hcl wr HO.out.2
          obtain ⟨a, b, bb⟩ := x
          simp only at hk2 hk3 hk4 hk5 hs1 hs2 c0 c1 c2 HI1
          subst hk2
          have hsl4 : (Wd.seg t (a, b, bb)).length ≤ 4000 := Nat.le_trans (Wd.seg_len _ _) h4
          have hal : acc.length ≤ 16000000 := by have := HI.out.2.1; omega
          obtain ⟨Z, hZ⟩ : ∃ Z, Z = wr.alloc (.cells #[.int .i64 (a : Nat), .int .i64 (b : Nat), .bool bb] 32) := ⟨_, rfl⟩
          have hbz : Below wr.heap.size wr Z := by rw [hZ]; exact Cn.al _ _
          have hkz : Z.heap[wr.heap.size]? = some (.cells #[.int .i64 (a : Nat), .int .i64 (b : Nat), .bool bb] 32) := by rw [hZ]; exact heap_alloc_new wr _
          have hAz := HAw.out.below hbz
          have hsb : w.heap.size < Z.heap.size := by have := lt_of_block hAz.2.2.2.2; omega
          have hkb : wr.heap.size < Z.heap.size := lt_of_block hkz
          have HKz : Hid (Wd.At7 Z Z w.heap.size wr.heap.size (.bool s.has) (.slice oo s.only.length oc) (.slice po s.passes.length pc) (.int .i64 (a : Nat)) (.int .i64 (b : Nat)) (.bool bb)) := ⟨Below.refl _ _, hAz.2.1, hAz.2.2.1, hAz.2.2.2.1, K.zaa (i := 0) hkz rfl, K.zaa (i := 1) hkz rfl, K.zaa (i := 2) hkz rfl⟩
          have HbZ : Hid (Below w2.heap.size w2 Z ∧ Below wr.heap.size wr Z ∧ Below w.heap.size w Z) := ⟨HO.out.2.trans (hbz.mono hsr), hbz, hAz.1⟩
          obtain ⟨pv, hpv⟩ : ∃ pv, pv = (if xc = a then xo else Option.map (fun p => p.add a) xo) := ⟨_, rfl⟩
          have hsl : ∀ w', (Instr.slice 26 (.slice xo t.length xc) (some (.int .i64 (a : Int))) (some (.int .i64 (b : Int))) none).run Tryz.prog w' = .ok (.slice pv (b - a) (xc - a)) w' := fun w' => by rw [hpv]; exact Wd.slice_mid xo t.length xc a b (by omega) (by have := HFt.out.2.1; omega) w'
          have HSeg : Hid (∀ X, Below w.heap.size w X → L.Rd X (.slice pv (b - a) (xc - a)) .i32 (Wd.seg t (a, b, bb)) ∧ (Wd.seg t (a, b, bb)).length = b - a ∧ b - a ≤ xc - a) := fun X hX => by
            have h := K.zcg (HIn.out.2.1.below hX (Nat.le_refl _)) (d := a) (by omega) HFt.out.2.1
            rw [← List.length_drop] at h
            have h3 := K.zfg h (n := b - a) (by rw [List.length_drop]; omega)
            rw [← hpv] at h3
            exact ⟨h3, hs2, by have := HFt.out.2.1; omega⟩
          have HIs : Hid (Wd.rest (S.memb A) t b = l.drop (j + 1)) := hk5.symm
          have HLa : Hid (acc.length ≤ 4000 * j) := HI.out.2.1
          cases bb with
          | false =>
            have hres : Wd.res pl s false (Wd.seg t (a, b, false)) = (Wd.seg t (a, b, false), 0, 0) := rfl
            rw [hres] at HI1
            simp only at HI1
            rw [if_pos trivial] at HI1
            obtain ⟨r1, r2, r3⟩ := HSeg.out Z HbZ.out.2.2
            rw [← r2] at r1
            obtain ⟨v', w7, run7, own7, hg7, _⟩ := K.zb9 Z w2.heap.size _ acc (L.zat HO.out.1 hbz (Nat.le_refl _)) _ (Wd.seg t (a, b, false)) r1 (by omega) (by omega)
            obtain ⟨ao1, vc1, rfl, _⟩ := Al.lies own7
            rw [r2] at run7
            have HN7 : Hid (Wd.each pl s t (l.drop (j + 1)) (acc ++ Wd.seg t (a, b, false)) = (g, g1, g2) ∧ (acc ++ Wd.seg t (a, b, false)).length ≤ 4000 * (j + 1) ∧ l.drop (j + 1) = Wd.rest (S.memb A) t b) := ⟨HI1.out, by rw [List.length_append]; have := HLa.out; omega, HIs.out.symm⟩
            have HO7 : Hid (w7.ownsRow w2.heap.size 21 1 (.slice ao1 (acc ++ Wd.seg t (a, b, false)).length vc1) (acc ++ Wd.seg t (a, b, false)).length (K.ints (acc ++ Wd.seg t (a, b, false))) ∧ Below w2.heap.size w2 w7) := ⟨own7, HbZ.out.1.grown hg7 (by omega) (fun y hy => (HO.out.1.lt y hy).1)⟩
            generalize acc ++ Wd.seg t (a, b, false) = acc2 at HN7 HO7 run7
            obtain ⟨z0, z1, z2⟩ : Z.cell? ⟨wr.heap.size, 0, none⟩ = some (.int .i64 (a : Nat)) ∧ Z.cell? ⟨wr.heap.size, 1, none⟩ = some (.int .i64 (b : Nat)) ∧ Z.cell? ⟨wr.heap.size, 2, none⟩ = some (.bool false) := ⟨HKz.out.2.2.2.2.1, HKz.out.2.2.2.2.2.1, HKz.out.2.2.2.2.2.2⟩
            clear hdj hdr hs1 hs2 hk5 hcl HI HI1 hx hkz hAz hbz own7 hg7 r1 r2 r3 hpv HSeg HKz HbZ
            have HZ : Hid (Z = wr.alloc (.cells #[.int .i64 (a : Nat), .int .i64 (b : Nat), .bool false] 32)) := hZ
            clear hZ
            go_wp2_with (at_builtin; rw [← HZ.out]; refine Lib.wpList_append_run _ rfl _ _ _ _ rfl _ _ rfl rfl _ _ (run7 _) ?_; clear run7)
            go_roundw
            case rel => exact ⟨j + 1, b, acc2, ao1, vc1, by omega, by go_num, rfl, HN7, HO7⟩
            case measure => simp [RowKit.intOf]; omega
          | true =>
          have hrt : Wd.res pl s true (Wd.seg t (a, b, true)) = Cn.goF pl s (Wd.seg t (a, b, true)) := rfl
          have HC : Hid (∀ X, Wd.At7 Z X w.heap.size wr.heap.size (.bool s.has) (.slice oo s.only.length oc) (.slice po s.passes.length pc) (.int .i64 (a : Nat)) (.int .i64 (b : Nat)) (.bool true) → Calls Tryz.prog 24 #[.agg #[.bool s.has, .slice oo s.only.length oc, .slice po s.passes.length pc], .slice pv (b - a) (xc - a)] X fun e w' => ∃ v', e = .returned (.tuple #[v', .agg #[.int .i64 (Wd.res pl s true (Wd.seg t (a, b, true))).2.1, .int .i64 (Wd.res pl s true (Wd.seg t (a, b, true))).2.2]]) ∧ L.Rd w' v' .i32 (Wd.res pl s true (Wd.seg t (a, b, true))).1 ∧ Below X.heap.size X w') := fun X hX => by
            have hwX := HbZ.out.2.2.trans (hX.1.mono (by omega))
            obtain ⟨r1, r2, r3⟩ := HSeg.out X hwX
            have h := zk2 pl HIn.out.2.2 X _ s (HIn.out.1.below hwX) HFt.out.1 pv (xc - a) (Wd.seg t (a, b, true)) (by rw [r2]; exact r1) (by rw [r2]; exact r3) (by omega)
            rw [r2] at h
            rw [hrt]
            exact h
          have hrl := Wd.res_len (pl := pl) (s := s) (b := true) hsl4
          obtain ⟨⟨r, r1, r2⟩, hr⟩ : ∃ o, Wd.res pl s true (Wd.seg t (a, b, true)) = o := ⟨_, rfl⟩
          rw [hr] at HC HI1 hrl
          simp only at HC HI1 hrl
          have HRl : Hid (r.length ≤ 4000) := hrl
          have HKd : Hid (Wd.At7 Z Z.drew w.heap.size wr.heap.size (.bool s.has) (.slice oo s.only.length oc) (.slice po s.passes.length pc) (.int .i64 (a : Nat)) (.int .i64 (b : Nat)) (.bool true)) := HKz.out.drew
          have HKDz : Hid (∀ o, Wd.At7 Z (Z.alloc o).drew w.heap.size wr.heap.size (.bool s.has) (.slice oo s.only.length oc) (.slice po s.passes.length pc) (.int .i64 (a : Nat)) (.int .i64 (b : Nat)) (.bool true)) := fun o => (HKz.out.alloc o).drew
          have HZ : Hid (Z = wr.alloc (.cells #[.int .i64 (a : Nat), .int .i64 (b : Nat), .bool true] 32)) := hZ
          clear hdj hdr hs1 hs2 hk5 hcl HI hx hkz hAz hbz hr hpv HSeg hZ hrl
          go_wp2
          rw [← HZ.out]
          clear HZ
          go_cut [14, 15] (fun v14 v15 wx => Hid (Wd.Got Z wx v14 v15 (r, r1, r2)))
          case first =>
            go_region_held3 (fun w' => Below Z.heap.size Z w' ∧ w'.cell? ⟨w.heap.size, 0, none⟩ = some (.bool s.has) ∧ w'.cell? ⟨w.heap.size, 1, none⟩ = some (.slice oo s.only.length oc) ∧ w'.cell? ⟨w.heap.size, 2, none⟩ = some (.slice po s.passes.length pc) ∧ w'.cell? ⟨wr.heap.size, 0, none⟩ = some (.int .i64 (a : Nat)) ∧ w'.cell? ⟨wr.heap.size, 1, none⟩ = some (.int .i64 (b : Nat)) ∧ w'.cell? ⟨wr.heap.size, 2, none⟩ = some (.bool true))
              (first | with_reducible exact HKd.out | with_reducible exact k1 | with_reducible exact k1.alloc _ | with_reducible exact HKd.out.alloc _ | with_reducible exact HKDz.out _ | with_reducible exact Wd.At7.set2 k1 hsb hkb k1.1.size _ _ | with_reducible exact Wd.At7.set2 k1 hsb hkb (Nat.le_refl _) _ _ | fail)
              (first
                | (go_at_call 24; refine (HC.out _ (by first | with_reducible exact HKd.out | with_reducible exact HKd.out.alloc _ | with_reducible exact HKDz.out _)).mono ?_; rintro e wd1 ⟨vd1, rfl, d1, z1⟩; have k1 : Wd.At7 Z wd1 w.heap.size wr.heap.size (.bool s.has) (.slice oo s.only.length oc) (.slice po s.passes.length pc) (.int .i64 (a : Nat)) (.int .i64 (b : Nat)) (.bool true) := (by first | with_reducible exact HKd.out.below z1 | with_reducible exact (HKd.out.alloc _).below z1 | with_reducible exact (HKDz.out _).below z1); first | (have rr := Cn.rbD z1; obtain ⟨y0, y1, ff0, ff1⟩ := K.box2 rr) | (have rr := Cn.rb z1; obtain ⟨y0, y1, ff0, ff1⟩ := K.box2 rr) | skip)
                | fail)
            all_goals
              first
                | (have HM := Wd.zkp (r1 := r1) (r2 := r2) k1 hsb hkb d1 rr (by first | with_reducible exact k1.1.size | with_reducible exact Nat.le_refl _))
                | (have HM := Wd.zkq (r1 := r1) (r2 := r2) k1 d1)
              clear k1 d1 z1
              go_wp2_with fail
              go_meet
              case rel => exact HM
          case rest =>
            obtain ⟨fb, rfl, hfb, hbox, hrd, hbl⟩ := hcut.out
            obtain ⟨va', vc2, rfl⟩ : ∃ va vc, _ = Value.slice va r.length vc := by obtain ⟨a, c, h, _⟩ := hrd; exact ⟨a, c, h⟩
            have hAc := ((HAw.out.below HbZ.out.2.1).below (hbl.mono (Nat.le_refl _)))
            have HM : Hid (L.Rd wc (.slice va' r.length vc2) .i32 r ∧ Below w2.heap.size w2 wc ∧ wc.ownsRow w2.heap.size 21 1 (.slice vo acc.length vc') acc.length (K.ints acc) ∧ Cn.At w wc (.bool s.has) (.slice oo s.only.length oc) (.slice po s.passes.length pc)) := ⟨hrd, HbZ.out.1.trans (hbl.mono (by omega)), L.zat (L.zat HO.out.1 HbZ.out.2.1 (Nat.le_refl _)) hbl (Nat.le_refl _), hAc⟩
            have a0 := K.zaa (i := 0) hbox rfl
            have a1 := K.zaa (i := 1) hbox rfl
            obtain ⟨y0, y1, g0, g1'⟩ := K.box2 hAc.2.2.2.2
            have n1 : ¬ fb = w.heap.size + 1 := by have := lt_of_block HAw.out.2.2.2.2; omega
            have n2 : ¬ w.heap.size + 1 = fb := by have := lt_of_block HAw.out.2.2.2.2; omega
            have hlc : w.heap.size + 1 < wc.heap.size := lt_of_block hAc.2.2.2.2
            have hfc : fb < wc.heap.size := lt_of_block hbox
            clear hbox hrd hbl hcut HC HKd HKDz hAc HKz HbZ hfb
            by_cases q3 : r1 = 0
            · subst q3
              rw [if_pos rfl] at HI1
              obtain ⟨v', w7, run7, own7, hg7, _⟩ := K.zb9 wc w2.heap.size _ acc HM.out.2.2.1 _ r HM.out.1 (by have := HRl.out; omega) HM.out.2.1.size
              obtain ⟨ao1, vc1, rfl, _⟩ := Al.lies own7
              have HN7 : Hid (Wd.each pl s t (l.drop (j + 1)) (acc ++ r) = (g, g1, g2) ∧ (acc ++ r).length ≤ 4000 * (j + 1) ∧ l.drop (j + 1) = Wd.rest (S.memb A) t b) := ⟨HI1.out, by rw [List.length_append]; have := HLa.out; have := HRl.out; omega, HIs.out.symm⟩
              have HO7 : Hid (w7.ownsRow w2.heap.size 21 1 (.slice ao1 (acc ++ r).length vc1) (acc ++ r).length (K.ints (acc ++ r)) ∧ Below w2.heap.size w2 w7) := ⟨own7, HM.out.2.1.grown hg7 HM.out.2.1.size (fun y hy => (HM.out.2.2.1.lt y hy).1)⟩
              generalize acc ++ r = acc2 at HN7 HO7 run7
              clear own7 hg7 HI1
              go_wp2_with (at_builtin; refine Lib.wpList_append_run _ rfl _ _ _ _ rfl _ _ rfl rfl _ _ (run7 _) ?_; clear run7)
              go_roundw
              case rel => exact ⟨j + 1, b, acc2, ao1, vc1, by omega, by go_num, rfl, HN7, HO7⟩
              case measure => simp [RowKit.intOf]; omega
            · rw [if_neg q3] at HI1
              have h := HI1.out
              simp only [Prod.mk.injEq] at h
              obtain ⟨rfl, rfl, rfl⟩ := h
              go_wp2
              go_region
              go_wp2
              refine bodyPost_ret (v := .tuple #[.slice none 0 0, .agg #[.int .i64 r1, .int .i64 r2]]) (by simp [results, Tryz.results10, go_sem, *]) rfl ?_
              exact ⟨_, rfl, ⟨none, 0, rfl, fun _ => rfl, fun h => absurd rfl h⟩, ((HM.out.2.2.2.1.setCell (p := ⟨w.heap.size + 1, 0, none⟩) (by simp) _).setCell (p := ⟨w.heap.size + 1, 1, none⟩) (by simp) _).drew⟩
        · have hjn : j = n := by omega
          have hend : (if 4000 < acc.length then (([] : List Int), (4 : Int), (s.passes.length : Int)) else (acc, 0, 0)) = (g, g1, g2) := by
            have h := HI.out.1
            rw [hjn, HN.out, List.drop_length, Wd.each] at h
            exact h
          have HRd : Hid (L.Rd wr (.slice vo acc.length vc') .i32 acc) := L.Rd.zaq HO.out.1
          obtain ⟨y0, y1, g0, g1'⟩ := K.box2 hA.2.2.2.2
          have p2 := hA.2.2.2.1
          have hlc : w.heap.size + 1 < wr.heap.size := lt_of_block hA.2.2.2.2
          clear hjn HI hA
          by_cases q4 : 4000 < acc.length
          · rw [if_pos q4] at hend
            simp only [Prod.mk.injEq] at hend
            obtain ⟨rfl, rfl, rfl⟩ := hend
            have q4' : (4000 : Int) < (acc.length : Int) := by omega
            go_wp2
            go_region
            go_wp2
            refine bodyPost_ret (v := .tuple #[.slice none 0 0, .agg #[.int .i64 4, .int .i64 s.passes.length]]) (by simp [results, Tryz.results10, go_sem, *]) rfl ?_
            exact ⟨_, rfl, ⟨none, 0, rfl, fun _ => rfl, fun h => absurd rfl h⟩, ((HAw.out.1.setCell (p := ⟨w.heap.size + 1, 0, none⟩) (by simp) _).setCell (p := ⟨w.heap.size + 1, 1, none⟩) (by simp) _).drew⟩
          · rw [if_neg q4] at hend
            simp only [Prod.mk.injEq] at hend
            obtain ⟨rfl, rfl, rfl⟩ := hend
            have q4' : ¬ (4000 : Int) < (acc.length : Int) := by omega
            go_wp2
            refine bodyPost_ret (v := .tuple #[.slice vo acc.length vc', .agg #[.int .i64 0, .int .i64 0]]) (by simp [results, Tryz.results10, go_sem, *]) rfl ?_
            refine ⟨_, rfl, K.zaz HRd.out fun hz k hk => ?_, (HAw.out.1.setCell (p := ⟨w.heap.size + 1, 0, none⟩) (by simp) _).setCell (p := ⟨w.heap.size + 1, 1, none⟩) (by simp) _⟩
            have hne := K.zjn HRd.out HAw.out.2.2.2.2 hz k hk
            rw [heap_setCell_other _ ⟨w.heap.size + 1, 1, none⟩ k _ (by simpa using hne), heap_setCell_other _ ⟨w.heap.size + 1, 0, none⟩ k _ (by simpa using hne)]
    · have h : (g, g1, g2) = ([], z, 0) := by rw [← HG.out, Wd.eachF, if_pos (by rw [HE.out]), if_neg (by rw [HZ.out]; exact q2), HZ.out]
      simp only [Prod.mk.injEq] at h
      obtain ⟨rfl, rfl, rfl⟩ := h
      go_wp2
      refine bodyPost_ret (v := .tuple #[.slice none 0 0, .agg #[.int .i64 g1, .int .i64 0]]) (by simp [results, Tryz.results10, go_sem, *]) rfl ?_
      exact ⟨_, rfl, ⟨none, 0, rfl, fun _ => rfl, fun h => absurd rfl h⟩, (HA2.out.1.setCell (p := ⟨w.heap.size + 1, 0, none⟩) (by simp) _).setCell (p := ⟨w.heap.size + 1, 1, none⟩) (by simp) _⟩
  · have h : (g, g1, g2) = ([], e1, e2) := by rw [← HG.out, Wd.eachF, if_neg (by rw [HE.out]; exact q1), HE.out]
    simp only [Prod.mk.injEq] at h
    obtain ⟨rfl, rfl, rfl⟩ := h
    go_wp2
    go_region
    go_wp2
    refine bodyPost_ret (v := .tuple #[.slice none 0 0, .agg #[.int .i64 g1, .int .i64 g2]]) (by simp [results, Tryz.results10, go_sem, *]) rfl ?_
    refine ⟨_, rfl, ⟨none, 0, rfl, fun _ => rfl, fun h => absurd rfl h⟩, ?_⟩
    first
      | exact (((HA1.out _).1.setCell (p := ⟨w.heap.size + 1, 0, none⟩) (by simp) _).setCell (p := ⟨w.heap.size + 1, 1, none⟩) (by simp) _).drew
      | exact (((HB1.out.setCell (p := ⟨w.heap.size + 1, 0, none⟩) (by simp) _).setCell (p := ⟨w.heap.size + 1, 1, none⟩) (by simp) _).alloc (by simp; omega) _).drew

end Go.Proofs.YtddiojckgjobmaaGreat
