/-
  A script plays over a text: the document's answer.
-/
import Derived.Test.YtjaodbaooogpnaaGreatCnWrong
import Derived.Test.YtjaodbaooogpnaaGreatCnThru
import Derived.Test.YtjaodbaooogpnaaGreatCnGo
import Derived.Test.YtjaodbaooogpnaaGreatRows
import Derived.Test.YtjaodbaooogpnaaGreatSMath
import Derived.Deep.QuietTactic
import Derived.BigQuiet
namespace Go.Proofs.YtjaodbaooogpnaaGreat
open Go.RowKit Go.Lib
set_option maxRecDepth 20000
set_option linter.unusedSimpArgs false
set_option linter.unusedVariables false

namespace Cn
/-- where the document's loop over the pieces stands; W: the world in which it began -/
structure Og (pl : Pl) (ps : List V.Pass) (c : List (List Int × Bool)) (W wr : World) (vo : Value) (i : Nat) (o : List Int) (q : List Int × Int × Int) : Prop where
  own : wr.ownsRow W.heap.size 21 1 vo o.length (K.ints o)
  few : o.length ≤ 4000 * i
  bel : Below W.heap.size W wr
  res : runP pl ps (c.drop i) o = q
theorem Og.below {pl : Pl} {ps : List V.Pass} {c : List (List Int × Bool)} {W wr w' : World} {vo : Value} {i : Nat} {o : List Int} {q : List Int × Int × Int} (h : Og pl ps c W wr vo i o q) (hb : Below wr.heap.size wr w') : Og pl ps c W w' vo i o q :=
  ⟨Ws.kept1 h.own fun g hg => hb.block g (h.own.lt g hg).2, h.few, h.bel.trans (hb.mono h.bel.size), h.res⟩
theorem pcs_cell {F : Nat} {w : World} {vo : Option Addr} {n vc : Nat} {l : List (List Int × Value)} (h : Pcs F w (.slice vo n vc) l) {j : Nat} {x : List Int} {u : Value} (hj : l[j]? = some (x, u)) : ∃ gp, vo = some ⟨gp, 0, none⟩ ∧ w.cell? ⟨gp, j, none⟩ = some u := by
  have hlt := (List.getElem?_eq_some_iff.1 hj).1
  rcases h.row.2 with ⟨_, h0⟩ | ⟨g, cap, cur, hv, _, hx, _, _, _, htk⟩
  · omega
  · simp only [Value.slice.injEq] at hv
    refine ⟨g, hv.1, K.at_box hx ?_⟩
    rw [Nat.mul_one] at htk
    have e : (cur.toList.take l.length)[j]? = some u := by rw [htk, List.getElem?_map, hj]; rfl
    rw [List.getElem?_take, if_pos hlt] at e
    simpa using e
theorem bool_cell2 {w : World} {F : Nat} {mo : Option Addr} {n mc : Nat} {bs : List Bool} (h : w.ownsRow F 4 1 (.slice mo n mc) n (bs.map Value.bool)) {j : Nat} {b : Bool} (hj : bs[j]? = some b) : ∃ gm, mo = some ⟨gm, 0, none⟩ ∧ w.cell? ⟨gm, j, none⟩ = some (.bool b) := by
  have e : bs.length = n := by have := h.1; simpa using this
  subst e
  exact bool_cell h hj
/-- what came of a piece is put behind -/
theorem Og.add {pl : Pl} {ps : List V.Pass} {c : List (List Int × Bool)} {W wr : World} {vo : Value} {i : Nat} {o : List Int} {q : List Int × Int × Int} (h : Og pl ps c W wr vo i o q) (hi : i ≤ 4000) (vx : Value) (y : List Int) (hx : L.Rd wr vx .i32 y) (hy : y.length ≤ 4000) (hr : runP pl ps (c.drop (i + 1)) (o ++ y) = q) :
    ∃ ao' vc' w', (∀ ty, (Builtin.append_ #[26, 26] ty #[vo, vx]).run Tryz.prog wr = .ok (.slice ao' (o ++ y).length vc') w') ∧ Og pl ps c W w' (.slice ao' (o ++ y).length vc') (i + 1) (o ++ y) q := by
  have hfew := h.few
  obtain ⟨v', w', run, own, gr, _⟩ := K.app_rd wr W.heap.size vo o h.own vx y hx (by omega) h.bel.size
  obtain ⟨ao', vc', rfl⟩ : ∃ ao cap, v' = .slice ao (o ++ y).length cap := by
    rcases own.2 with ⟨hv, h0⟩ | ⟨g, cap, cur, hv, _⟩
    · exact ⟨none, 0, by rw [hv, h0]⟩
    · exact ⟨_, cap, hv⟩
  exact ⟨ao', vc', w', run, own, by rw [List.length_append]; omega, h.bel.grown gr h.bel.size fun k hk => (h.own.lt k hk).1, hr⟩
end Cn

set_option maxHeartbeats 8000000 in
theorem rGo13_any (pl : Cn.Pl) (hpl : Cn.PlOk pl) (w : World) (v : Value) (s : V.Script) (h0 : V.ScIs w v s) (hfit : S.Fit s.only) (xo : Option Addr) (xc : Nat) (t : List Int) (Rt : L.Rd w (.slice xo t.length xc) .i32 t) (hcap : t.length ≤ xc) (ht : t.length ≤ 140737488355328) :
    Calls Tryz.prog 5 #[v, .slice xo t.length xc] w fun e w' => ∃ v', e = .returned (.tuple #[v', .agg #[.int .i64 (Cn.goF pl s t).2.1, .int .i64 (Cn.goF pl s t).2.2]]) ∧ L.Rd w' v' .i32 (Cn.goF pl s t).1 ∧ Below w.heap.size w w' := by
  have HWr : Hid (∀ X, Below w.heap.size w X → Calls Tryz.prog 7 #[v] X fun e w' => e = .returned (.agg #[.int .i64 (Cn.wrongF s).1, .int .i64 (Cn.wrongF s).2]) ∧ Below X.heap.size X w') := fun X hX => rWrong13_any X v s (h0.below hX) hfit
  have HTx : Hid (∀ X, Below w.heap.size w X → Calls Tryz.prog 17 #[.slice xo t.length xc] X fun e w' => e = .returned (.int .i64 (K.textE t)) ∧ Below X.heap.size X w') := fun X hX => rText_any X _ t (Rt.below hX (Nat.le_refl _)) ht
  obtain ⟨⟨g, g1, g2⟩, HG⟩ : ∃ o, Hid (Cn.goF pl s t = o) := ⟨_, rfl⟩
  rw [HG.out]
  obtain ⟨oo, oc, po, pc, rfl, hO, hOl, hP⟩ := h0
  have HIn : Hid (S.Rd w (.slice oo s.only.length oc) s.only ∧ V.Pas w (.slice po s.passes.length pc) s.passes ∧ L.Rd w (.slice xo t.length xc) .i32 t ∧ Cn.PlOk pl) := ⟨hO, hP, Rt, hpl⟩
  obtain ⟨W0, hW0⟩ : ∃ W0, W0 = (w.alloc (.cells #[.bool s.has, .slice oo s.only.length oc, .slice po s.passes.length pc] 25)).alloc (.cells #[.int .i64 0, .int .i64 0] 29) := ⟨_, rfl⟩
  have h2 := Cn.two_new w (.cells #[.bool s.has, .slice oo s.only.length oc, .slice po s.passes.length pc] 25) (.cells #[.int .i64 0, .int .i64 0] 29)
  rw [← hW0] at h2
  have HA0 : Hid (Cn.At w W0 (.bool s.has) (.slice oo s.only.length oc) (.slice po s.passes.length pc)) := ⟨h2.2.2, K.at_box h2.1 rfl, K.at_box (i := 1) h2.1 rfl, K.at_box (i := 2) h2.1 rfl, h2.2.1⟩
  have hWr := HWr.out W0 HA0.out.1
  obtain ⟨⟨e1, e2⟩, HE⟩ : ∃ o, Hid (Cn.wrongF s = o) := ⟨_, rfl⟩
  rw [HE.out] at hWr
  have HW1 : Hid (Calls Tryz.prog 7 #[.agg #[.bool s.has, .slice oo s.only.length oc, .slice po s.passes.length pc]] W0 fun e w' => e = .returned (.agg #[.int .i64 e1, .int .i64 e2]) ∧ Below W0.heap.size W0 w') := hWr
  have hPl := hP.few
  have HW0 : Hid (W0 = (w.alloc (.cells #[.bool s.has, .slice oo s.only.length oc, .slice po s.passes.length pc] 25)).alloc (.cells #[.int .i64 0, .int .i64 0] 29)) := hW0
  clear hWr h2 hO hP Rt hpl HWr hW0
  go_enter Tryz.func5, Tryz.ntmps5
  go_wp2_with fail
  rw [← HW0.out]
  refine HW1.out.mono ?_
  rintro e w1 ⟨rfl, b1⟩
  have hA1 := HA0.out.below b1
  have HA1 : Hid (∀ o, Cn.At w (w1.alloc o) (.bool s.has) (.slice oo s.only.length oc) (.slice po s.passes.length pc)) := fun o => hA1.alloc o
  have hx1 : w.heap.size + 1 < w1.heap.size := lt_of_block hA1.2.2.2.2
  obtain ⟨x0, x1, f0, f1⟩ := K.box2 hA1.2.2.2.2
  have k0 : ∀ o, (w1.alloc o).cell? ⟨w.heap.size + 1, 0, none⟩ = some (.int .i64 0) := fun o => K.alloc_cell x0 o
  have k1 : ∀ o, (w1.alloc o).cell? ⟨w.heap.size + 1, 1, none⟩ = some (.int .i64 0) := fun o => K.alloc_cell x1 o
  have fz : ∀ o i, (w1.alloc o).frozen? ⟨w.heap.size + 1, i, none⟩ = false := fun o i => K.alloc_free hA1.2.2.2.2 o i
  have HB1 : Hid (Below w.heap.size w w1) := hA1.1
  clear b1 hA1 HW1 HA0 HW0
  by_cases q1 : e1 = 0
  · subst q1
    have HTt : Hid (∀ o, Calls Tryz.prog 17 #[.slice xo t.length xc] (w1.alloc o) fun e w' => e = .returned (.int .i64 (K.textE t)) ∧ Below (w1.alloc o).heap.size (w1.alloc o) w') := fun o => HTx.out _ (HA1.out o).1
    obtain ⟨z, HZ⟩ : ∃ z, Hid (K.textE t = z) := ⟨_, rfl⟩
    rw [HZ.out] at HTt
    clear HTx k0 k1 fz x0 x1 f0 f1
    go_wp2_with fail
    refine (HTt.out _).mono ?_
    rintro e w2 ⟨rfl, b2⟩
    have hA2 := (HA1.out _).below b2
    have HA2 : Hid (Cn.At w w2 (.bool s.has) (.slice oo s.only.length oc) (.slice po s.passes.length pc)) := hA2
    obtain ⟨x0, x1, f0, f1⟩ := K.box2 hA2.2.2.2.2
    have hx2 : w.heap.size + 1 < w2.heap.size := lt_of_block hA2.2.2.2.2
    clear b2 hA2 HTt HA1 HB1
    by_cases q2 : z = 0
    · subst q2
      have hW := Cn.wrongF_zero (s := s) (by rw [HE.out])
      have hT := Cn.text_tx.1 HZ.out
      have HGo : Hid ((g, g1, g2) = if (Cn.runP pl s.passes (Cn.cut (Cn.inS s) t) []).2.1 = 0 then
        (if 4000 < (Cn.runP pl s.passes (Cn.cut (Cn.inS s) t) []).1.length then ([], 4, (s.passes.length : Int)) else ((Cn.runP pl s.passes (Cn.cut (Cn.inS s) t) []).1, 0, 0))
      else ([], (Cn.runP pl s.passes (Cn.cut (Cn.inS s) t) []).2)) := by
        show _ = _
        rw [← HG.out, Cn.goF, if_pos (by rw [HE.out]), if_pos HZ.out]
      have HSc : Hid (∀ X, Below w.heap.size w X → V.ScIs X (.agg #[.bool s.has, .slice oo s.only.length oc, .slice po s.passes.length pc]) s) := fun X hX => ⟨oo, oc, po, pc, rfl, HIn.out.1.below hX (Nat.le_refl _), hOl, HIn.out.2.1.below hX⟩
      have HPc := rPieces_any w2 _ s (HSc.out w2 HA2.out.1) _ t (HIn.out.2.2.1.below HA2.out.1 (Nat.le_refl _)) hT.1
      have HPi : Hid (Calls Tryz.prog 18 #[.agg #[.bool s.has, .slice oo s.only.length oc, .slice po s.passes.length pc], .slice xo t.length xc] w2 fun e w' => ∃ (l : List (List Int × Value)) (vo : Option Addr) (vc : Nat) (mo : Option Addr) (mc : Nat), e = .returned (.tuple #[.slice vo l.length vc, .slice mo l.length mc]) ∧ Cn.Pcs (w2.heap.size + 1) w' (.slice vo l.length vc) l ∧ l.map (·.1) = (Cn.cut (Cn.inS s) t).map (·.1) ∧ w'.ownsRow (w2.heap.size + 1) 4 1 (.slice mo l.length mc) l.length (((Cn.cut (Cn.inS s) t).map (·.2)).map Value.bool) ∧ Below w2.heap.size w2 w') := HPc
      have HTr : Hid (Cn.Tx t ∧ (∀ p ∈ s.passes, Cn.passE p = 0) ∧ s.passes.length ≤ 60) := ⟨hT, hW.2.2.1, hW.2.1⟩
      obtain ⟨c, hc⟩ : ∃ c, c = Cn.cut (Cn.inS s) t := ⟨_, rfl⟩
      obtain ⟨⟨q, r1, r2⟩, hQ⟩ : ∃ o, Cn.runP pl s.passes c [] = o := ⟨_, rfl⟩
      rw [← hc] at HPi HGo
      rw [hQ] at HGo
      simp only at HGo
      have HCt : Hid ((∀ q ∈ c, Cn.Tx q.1) ∧ c.length ≤ 4000) := ⟨fun q hq => Cn.cut_tx hT q (by rw [← hc]; exact hq), by rw [hc]; exact Nat.le_trans Cn.cut_few hT.1⟩
      have HQ : Hid (Cn.runP pl s.passes c [] = (q, r1, r2)) := hQ
      have k0 := HA2.out.2.1
      have k1 := HA2.out.2.2.1
      have k2 := HA2.out.2.2.2.1
      clear hc hQ HPc hW hT x0 x1 f0 f1
      go_wp2_with fail
      refine HPi.out.mono ?_
      rintro e W ⟨l, vo, vc, mo, mc, rfl, hP1, hP2, hP3, b3⟩
      have HAt : Hid (Cn.At w W (.bool s.has) (.slice oo s.only.length oc) (.slice po s.passes.length pc)) := HA2.out.below b3
      have hlc : l.length = c.length := by
        have := congrArg List.length hP2
        simpa using this
      have hl4 : l.length ≤ 4000 := by have := HCt.out.2; omega
      have HPs : Hid (Cn.Pcs (w2.heap.size + 1) W (.slice vo l.length vc) l ∧ l.map (·.1) = c.map (·.1) ∧ W.ownsRow (w2.heap.size + 1) 4 1 (.slice mo l.length mc) l.length ((c.map (·.2)).map Value.bool) ∧ l.length = c.length) := ⟨hP1, hP2, hP3, hlc⟩
      have HOg0 : Hid (Cn.Og pl s.passes c W W (.slice none ([] : List Int).length 0) 0 [] (q, r1, r2)) := ⟨World.ownsRow_nil _ _ _ _, by simp, Below.refl _ _, HQ.out⟩
      clear hP1 hP2 hP3 b3 HPi k0 k1 k2 hlc HA2
      go_wp2
      go_loopw [10, 37] (fun i10 i wr => ∃ (j : Nat) (o : List Int) (uo : Option Addr) (uc : Nat), j ≤ l.length ∧ i = .int .i64 j ∧ i10 = .slice uo o.length uc ∧ Hid (Cn.Og pl s.passes c W wr (.slice uo o.length uc) j o (q, r1, r2))) (fun _ i _ => l.length - (intOf i).toNat)
      case atStart => exact ⟨0, [], none, 0, Nat.zero_le _, rfl, rfl, HOg0⟩
      case round =>
        obtain ⟨j, o, uo, uc, hj, rfl, rfl, HO⟩ := hrel
        have hAt := HAt.out.below HO.out.bel
        clear HOg0
        by_cases hlt : j < l.length
        · skip
          obtain ⟨⟨x, m⟩, hx⟩ : ∃ x, c[j]? = some x := ⟨c[j]'(by have := HPs.out.2.2.2; omega), by simp⟩
          obtain ⟨u, hu⟩ : ∃ u, l[j]? = some (x, u) := by
            obtain ⟨⟨x', u⟩, hl⟩ : ∃ p, l[j]? = some p := ⟨l[j], by simp [hlt]⟩
            have h1 : (l.map (·.1))[j]? = (c.map (·.1))[j]? := by rw [HPs.out.2.1]
            rw [List.getElem?_map, List.getElem?_map, hl, hx] at h1
            simp at h1
            exact ⟨u, by rw [hl, h1]⟩
          obtain ⟨gp, rfl, hpc⟩ := Cn.pcs_cell HPs.out.1 hu
          obtain ⟨gm, rfl, hmc⟩ := Cn.bool_cell2 HPs.out.2.2.1 (j := j) (b := m) (by rw [List.getElem?_map, hx]; rfl)
          have hux := HPs.out.1.each (x, u) (List.mem_of_getElem? hu)
          obtain ⟨ua, ub, rfl⟩ : ∃ ua ub, u = .slice ua x.length ub := by
            rcases hux.2 with ⟨hv, h0⟩ | ⟨g, cap, cur, hv, _⟩
            · exact ⟨none, 0, by simp only at hv h0; rw [hv, h0]⟩
            · exact ⟨_, _, hv⟩
          have hrx : L.Rd wr (.slice ua x.length ub) .i32 x := (L.Rd.of_owns hux).below HO.out.bel (Nat.le_refl _)
          rw [← HO.out.bel.cell (p := ⟨gp, j, none⟩) (L.block_lt hpc)] at hpc
          rw [← HO.out.bel.cell (p := ⟨gm, j, none⟩) (L.block_lt hmc)] at hmc
          have HTx : Hid (Cn.Tx x) := HCt.out.1 (x, m) (List.mem_of_getElem? hx)
          have HRs : Hid ((q, r1, r2) = if m = true then (if (Cn.thru pl 0 s.passes x).2.1 = 0 then Cn.runP pl s.passes (c.drop (j + 1)) (o ++ (Cn.thru pl 0 s.passes x).1) else ([], (Cn.thru pl 0 s.passes x).2)) else Cn.runP pl s.passes (c.drop (j + 1)) (o ++ x)) := by
            show _ = _
            rw [← HO.out.res, Cn.runP_drop hx]
          have HRx : Hid (L.Rd wr (.slice ua x.length ub) .i32 x) := hrx
          have kp := hAt.2.2.2.1
          have HAw : Hid (Cn.At w wr (.bool s.has) (.slice oo s.only.length oc) (.slice po s.passes.length pc)) := hAt
          clear hux hrx hu hx hAt
          cases m with
          | false =>
            have HY0 : Hid (L.Rd wr (.slice ua x.length ub) .i32 x ∧ x.length ≤ 4000 ∧ Cn.Og pl s.passes c W wr (.slice uo o.length uc) j o (q, r1, r2) ∧ Cn.runP pl s.passes (c.drop (j + 1)) (o ++ x) = (q, r1, r2)) := ⟨HRx.out, HTx.out.1, HO.out, by have := HRs.out; rw [if_neg (by simp)] at this; exact this.symm⟩
            obtain ⟨y, yo, yc, hy, HY⟩ : ∃ y yo yc, Value.slice ua x.length ub = Value.slice yo y.length yc ∧ Hid (L.Rd wr (.slice yo y.length yc) .i32 y ∧ y.length ≤ 4000 ∧ Cn.Og pl s.passes c W wr (.slice uo o.length uc) j o (q, r1, r2) ∧ Cn.runP pl s.passes (c.drop (j + 1)) (o ++ y) = (q, r1, r2)) := ⟨x, ua, ub, rfl, HY0⟩
            rw [hy] at hpc
            clear hy HY0 HRs HRx HTx
            obtain ⟨ao3, vc3, w7, run3, hN⟩ := HY.out.2.2.1.add (by omega) (.slice yo y.length yc) y HY.out.1 HY.out.2.1 HY.out.2.2.2
            obtain ⟨N3, hN3⟩ : ∃ N3, N3 = (o ++ y).length := ⟨_, rfl⟩
            have HN : Hid (N3 = (o ++ y).length ∧ Cn.Og pl s.passes c W w7 (.slice ao3 (o ++ y).length vc3) (j + 1) (o ++ y) (q, r1, r2)) := ⟨hN3, hN⟩
            rw [← hN3] at run3
            clear hN hN3
            clear HY HO HAw
            go_wp2_with (at_builtin; refine Lib.wpList_append_run _ rfl _ _ _ _ rfl _ _ rfl rfl _ _ (run3 _) ?_; clear run3)
            go_roundw
            case rel => exact ⟨j + 1, o ++ y, ao3, vc3, by omega, by go_num, by rw [HN.out.1], HN.out.2⟩
            case measure => simp [intOf]; omega
          | true =>
            obtain ⟨⟨th, t1, t2⟩, hth⟩ : ∃ q, Cn.thru pl 0 s.passes x = q := ⟨_, rfl⟩
            rw [hth] at HRs
            simp only [if_true] at HRs
            have HTh : Hid (Cn.thru pl 0 s.passes x = (th, t1, t2)) := hth
            have HTl : Hid (Cn.Tx th) := by have := Cn.thru_tx HIn.out.2.2.2.2 (l := s.passes) (k := 0) HTx.out; rw [hth] at this; exact this
            obtain ⟨wo, hwo⟩ : ∃ wo, wo = wr := ⟨_, rfl⟩
            rw [← hwo] at HO HAw HRx hpc hmc kp ⊢
            clear hth hwo
            go_wp2
            go_loopw [12, 49] (fun i12 i wr => ∃ (k : Nat) (y : List Int) (yo : Option Addr) (yc : Nat), k ≤ s.passes.length ∧ i = .int .i64 k ∧ i12 = .slice yo y.length yc ∧ Hid (Cn.thru pl k (s.passes.drop k) y = (th, t1, t2)) ∧ Hid (L.Rd wr (.slice yo y.length yc) .i32 y ∧ Cn.Tx y ∧ Below wo.heap.size wo wr)) (fun _ i _ => s.passes.length - (intOf i).toNat)
            case atStart => exact ⟨0, x, ua, ub, Nat.zero_le _, rfl, rfl, HTh, ⟨HRx.out, HTx.out, Below.refl _ _⟩⟩
            case round =>
              obtain ⟨k, y, yo, yc, hk, rfl, rfl, HE, HX⟩ := hrel
              have hAt2 := HAw.out.below HX.out.2.2
              by_cases hkl : k < s.passes.length
              · obtain ⟨p, hp⟩ : ∃ x, s.passes[k]? = some x := ⟨s.passes[k], by simp [hkl]⟩
                obtain ⟨ao', cap', e', _, hcs⟩ := HIn.out.2.1.below hAt2.1
                cases e'
                obtain ⟨b, off, rfl, hcell⟩ := hcs (by intro h; rw [h] at hkl; simp at hkl)
                obtain ⟨c0, hn, ro, rc, c1, hr⟩ := hcell k p hp
                have hal : ∀ o, Below wr.heap.size wr (wr.alloc o) := fun o => (Below.refl _ wr).alloc (Nat.le_refl _) o
                have HCp : Hid (∀ o, Calls Tryz.prog 19 #[.agg #[.string p.name, .slice ro p.rules.length rc], .slice yo y.length yc] (wr.alloc o) fun e w' => ∃ v', e = .returned (.tuple #[v', .int .i64 (Cn.passF pl p y).2]) ∧ L.Rd w' v' .i32 (Cn.passF pl p y).1 ∧ Below (wr.alloc o).heap.size (wr.alloc o) w') := fun o => rPass13_any pl HIn.out.2.2.2 _ p ro rc (hr.below (hal o)) (HTr.out.2.1 p (List.mem_of_getElem? hp)) _ y (HX.out.1.below (hal o) (Nat.le_refl _)) HX.out.2.1
                have HE2 : Hid (Cn.thru pl k (s.passes.drop k) y = if (Cn.passF pl p y).2 = 0 then Cn.thru pl (k + 1) (s.passes.drop (k + 1)) (Cn.passF pl p y).1 else ([], (Cn.passF pl p y).2, (k : Int))) := Cn.thru_drop hp
                have HTy : Hid (Cn.Tx (Cn.passF pl p y).1) := Cn.passF_tx HIn.out.2.2.2.2 HX.out.2.1
                obtain ⟨⟨y2, z⟩, hq⟩ : ∃ q, Cn.passF pl p y = q := ⟨_, rfl⟩
                rw [hq] at HCp HE2 HTy
                simp only at HCp HE2 HTy
                have HA2 : Hid (Cn.At w wr (.bool s.has) (.slice oo s.only.length oc) (.slice (some ⟨b, off, none⟩) s.passes.length pc)) := hAt2
                clear hp hcs hcell hr hq hAt2 hal
                go_wp2_with fail
                refine (HCp.out _).mono ?_
                rintro e w6 ⟨v6, rfl, d6, b6⟩
                obtain ⟨va, vb, rfl⟩ : ∃ va vc, v6 = .slice va y2.length vc := by obtain ⟨a, c, h, _⟩ := d6; exact ⟨a, c, h⟩
                obtain ⟨_, B6, s6⟩ := K.one_box b6
                have HA6 : Hid (Cn.At w w6 (.bool s.has) (.slice oo s.only.length oc) (.slice (some ⟨b, off, none⟩) s.passes.length pc)) := HA2.out.below B6
                have HX6 : Hid (L.Rd w6 (.slice va y2.length vb) .i32 y2 ∧ Cn.Tx y2 ∧ Below wo.heap.size wo w6) := ⟨d6, HTy.out, HX.out.2.2.trans (B6.mono HX.out.2.2.size)⟩
                clear d6 b6 B6 HCp HX HA2
                by_cases hz : z = 0
                · subst hz
                  go_wp2
                  go_roundw
                  case rel => exact ⟨k + 1, y2, va, vb, by omega, by go_num, rfl, by show _ = _; rw [← HE.out, HE2.out]; simp, HX6⟩
                  case measure => simp [intOf]; omega
                · have h := HE2.out
                  rw [HE.out, if_neg hz] at h
                  simp only [Prod.mk.injEq] at h
                  obtain ⟨rfl, rfl, rfl⟩ := h
                  have h2 := HRs.out
                  rw [if_neg hz] at h2
                  simp only [Prod.mk.injEq] at h2
                  obtain ⟨rfl, rfl, rfl⟩ := h2
                  have h3 := HGo.out
                  rw [if_neg hz] at h3
                  simp only [Prod.mk.injEq] at h3
                  obtain ⟨rfl, rfl, rfl⟩ := h3
                  obtain ⟨x0, x1, f0, f1⟩ := K.box2 HA6.out.2.2.2.2
                  go_wp2
                  refine bodyPost_ret (v := .tuple #[.slice none 0 0, .agg #[.int .i64 g1, .int .i64 k]]) (by simp [results, Tryz.results5, go_sem, *]) rfl ?_
                  exact ⟨_, rfl, ⟨none, 0, rfl, fun _ => rfl, fun h => absurd rfl h⟩, (HA6.out.1.setCell (p := ⟨w.heap.size + 1, 0, none⟩) (by simp) _).setCell (p := ⟨w.heap.size + 1, 1, none⟩) (by simp) _⟩
              · have h := HE.out
                rw [List.drop_eq_nil_of_le (by omega)] at h
                simp only [Cn.thru, Prod.mk.injEq] at h
                obtain ⟨rfl, rfl, rfl⟩ := h
                have HY : Hid (L.Rd wr (.slice yo y.length yc) .i32 y ∧ y.length ≤ 4000 ∧ Cn.Og pl s.passes c W wr (.slice uo o.length uc) j o (q, r1, r2) ∧ Cn.runP pl s.passes (c.drop (j + 1)) (o ++ y) = (q, r1, r2)) := ⟨HX.out.1, HX.out.2.1.1, HO.out.below HX.out.2.2, by have := HRs.out; rw [if_pos rfl] at this; exact this.symm⟩
                obtain ⟨ao3, vc3, w7, run3, hN⟩ := HY.out.2.2.1.add (by omega) (.slice yo y.length yc) y HY.out.1 HY.out.2.1 HY.out.2.2.2
                obtain ⟨N3, hN3⟩ : ∃ N3, N3 = (o ++ y).length := ⟨_, rfl⟩
                have HN : Hid (N3 = (o ++ y).length ∧ Cn.Og pl s.passes c W w7 (.slice ao3 (o ++ y).length vc3) (j + 1) (o ++ y) (q, r1, r2)) := ⟨hN3, hN⟩
                rw [← hN3] at run3
                clear hN hN3
                clear HY HO HAw HRs HRx HTx HE HX hAt2
                go_wp2_with (at_builtin; refine Lib.wpList_append_run _ rfl _ _ _ _ rfl _ _ rfl rfl _ _ (run3 _) ?_; clear run3)
                go_roundw
                case rel => exact ⟨j + 1, o ++ y, ao3, vc3, by omega, by go_num, by rw [HN.out.1], HN.out.2⟩
                case measure => simp [intOf]; omega
        · have hjl : j = l.length := by omega
          have hq := HO.out.res
          rw [List.drop_eq_nil_of_le (by have := HPs.out.2.2.2; omega)] at hq
          simp only [Cn.runP, Prod.mk.injEq] at hq
          obtain ⟨rfl, rfl, rfl⟩ := hq
          have hof : o.length ≤ 16000000 := by have := HO.out.few; omega
          have p2 := hAt.2.2.2.1
          obtain ⟨y0, y1, g0, g1'⟩ := K.box2 hAt.2.2.2.2
          have HM : Hid (Cn.At w wr (.bool s.has) (.slice oo s.only.length oc) (.slice po s.passes.length pc)) := hAt
          clear hAt
          by_cases q4 : 4000 < o.length
          · have h := HGo.out
            rw [if_pos rfl, if_pos q4] at h
            simp only [Prod.mk.injEq] at h
            obtain ⟨rfl, rfl, rfl⟩ := h
            have q4' : (4000 : Int) < (o.length : Int) := by omega
            go_wp2
            go_region
            go_wp2
            refine bodyPost_ret (v := .tuple #[.slice none 0 0, .agg #[.int .i64 4, .int .i64 s.passes.length]]) (by simp [results, Tryz.results5, go_sem, *]) rfl ?_
            exact ⟨_, rfl, ⟨none, 0, rfl, fun _ => rfl, fun h => absurd rfl h⟩, ((HM.out.1.setCell (p := ⟨w.heap.size + 1, 0, none⟩) (by simp) _).setCell (p := ⟨w.heap.size + 1, 1, none⟩) (by simp) _).drew⟩
          · have h := HGo.out
            rw [if_pos rfl, if_neg q4] at h
            simp only [Prod.mk.injEq] at h
            obtain ⟨rfl, rfl, rfl⟩ := h
            have q4' : ¬ (4000 : Int) < (g.length : Int) := by omega
            go_wp2
            refine bodyPost_ret (v := .tuple #[.slice uo g.length uc, .agg #[.int .i64 0, .int .i64 0]]) (by simp [results, Tryz.results5, go_sem, *]) rfl ?_
            refine ⟨_, rfl, K.rd_block (L.Rd.of_owns HO.out.own) fun hz k hk => ?_, (HM.out.1.setCell (p := ⟨w.heap.size + 1, 0, none⟩) (by simp) _).setCell (p := ⟨w.heap.size + 1, 1, none⟩) (by simp) _⟩
            have hne := K.rd_ne (L.Rd.of_owns HO.out.own) HM.out.2.2.2.2 hz k hk
            rw [heap_setCell_other _ ⟨w.heap.size + 1, 1, none⟩ k _ (by simpa using hne), heap_setCell_other _ ⟨w.heap.size + 1, 0, none⟩ k _ (by simpa using hne)]
    · have h : (g, g1, g2) = ([], z, 0) := by rw [← HG.out, Cn.goF, if_pos (by rw [HE.out]), if_neg (by rw [HZ.out]; exact q2), HZ.out]
      simp only [Prod.mk.injEq] at h
      obtain ⟨rfl, rfl, rfl⟩ := h
      go_wp2
      refine bodyPost_ret (v := .tuple #[.slice none 0 0, .agg #[.int .i64 g1, .int .i64 0]]) (by simp [results, Tryz.results5, go_sem, *]) rfl ?_
      exact ⟨_, rfl, ⟨none, 0, rfl, fun _ => rfl, fun h => absurd rfl h⟩, (HA2.out.1.setCell (p := ⟨w.heap.size + 1, 0, none⟩) (by simp) _).setCell (p := ⟨w.heap.size + 1, 1, none⟩) (by simp) _⟩
  · have h : (g, g1, g2) = ([], e1, e2) := by rw [← HG.out, Cn.goF, if_neg (by rw [HE.out]; exact q1), HE.out]
    simp only [Prod.mk.injEq] at h
    obtain ⟨rfl, rfl, rfl⟩ := h
    go_wp2
    go_region
    go_wp2
    refine bodyPost_ret (v := .tuple #[.slice none 0 0, .agg #[.int .i64 g1, .int .i64 g2]]) (by simp [results, Tryz.results5, go_sem, *]) rfl ?_
    refine ⟨_, rfl, ⟨none, 0, rfl, fun _ => rfl, fun h => absurd rfl h⟩, ?_⟩
    first
      | exact (((HA1.out _).1.setCell (p := ⟨w.heap.size + 1, 0, none⟩) (by simp) _).setCell (p := ⟨w.heap.size + 1, 1, none⟩) (by simp) _).drew
      | exact (((HB1.out.setCell (p := ⟨w.heap.size + 1, 0, none⟩) (by simp) _).setCell (p := ⟨w.heap.size + 1, 1, none⟩) (by simp) _).alloc (by simp; omega) _).drew

end Go.Proofs.YtjaodbaooogpnaaGreat

/-
  What scriptref1.Same answers of two slices of runes: whether they read as the same list.
-/
namespace Go.Proofs.YtjaodbaooogpnaaGreat
open Go.RowKit

theorem take_eq_snoc {a b : List Int} {k : Nat} {x y : Int} (h : a.take k = b.take k) (hx : a[k]? = some x) (hy : b[k]? = some y) (e : x = y) : a.take (k + 1) = b.take (k + 1) := by
  rw [List.take_add_one, List.take_add_one, h, hx, hy, e]

set_option maxHeartbeats 400000 in
theorem same_any (w : World) (va vb : Value) (za zb : List Int) (ha : L.Rd w va .i32 za) (hb : L.Rd w vb .i32 zb) (hla : za.length ≤ 4611686018427387903) (hlb : zb.length ≤ 4611686018427387903) :
    Calls Tryz.prog 8 #[va, vb] w fun e w' => e = .returned (.bool (decide (za = zb))) ∧ Below w.heap.size w w' := by
  obtain ⟨ao, ca, rfl, _, ha⟩ := ha
  obtain ⟨bo, cb, rfl, _, hb⟩ := hb
  by_cases hl : za.length = zb.length
  · go_enter Tryz.func8, Tryz.ntmps8
    go_wp2
    go_loopw [13] (fun i wr => ∃ k n : Nat, k ≤ za.length ∧ i = .int .i64 k ∧ za.take k = zb.take k ∧ wr = w.drewN n) (fun i _ => za.length - (intOf i).toNat)
    case atStart => exact ⟨0, 0, Nat.zero_le _, rfl, by simp, rfl⟩
    case round =>
      obtain ⟨k, n, hk, rfl, ht, rfl⟩ := hrel
      by_cases hlt : k < za.length
      · obtain ⟨b1, o1, rfl, hc1⟩ := ha (by intro h; subst h; simp at hlt)
        obtain ⟨b2, o2, rfl, hc2⟩ := hb (by intro h; subst h; simp at hl; rw [hl] at hlt; simp at hlt)
        obtain ⟨x, hx⟩ : ∃ x, za[k]? = some x := ⟨za[k], by simp [hlt]⟩
        obtain ⟨y, hy⟩ : ∃ y, zb[k]? = some y := ⟨zb[k]'(by omega), by simp [show k < zb.length by omega]⟩
        have c1 := hc1 k x hx
        have c2 := hc2 k y hy
        clear hc1 hc2 ha hb
        have HX : Hid (za[k]? = some x ∧ zb[k]? = some y ∧ za.take k = zb.take k) := ⟨hx, hy, ht⟩
        clear hx hy ht
        by_cases hxy : x = y
        · go_wp2
          go_quiet (fail)
          go_wp2
          go_roundw
          case rel => exact ⟨k + 1, _, by omega, by go_num, take_eq_snoc HX.out.2.2 HX.out.1 HX.out.2.1 hxy, rfl⟩
          case measure => simp [intOf]; omega
        · go_wp2
          go_quiet (fail)
          go_wp2
          go_ret
          refine ⟨L.ret_bool ?_, below_drewN (below_drewN (Below.refl _ _) _) _⟩
          have : za ≠ zb := by
            intro e
            rw [e] at HX
            have h1 := HX.out.1
            rw [HX.out.2.1] at h1
            exact hxy (Option.some.inj h1).symm
          simp [this]
      · go_wp2
        go_ret
        refine ⟨L.ret_bool ?_, below_drewN (Below.refl _ _) _⟩
        rw [List.take_of_length_le (by omega), List.take_of_length_le (by omega)] at ht
        simp [ht]
  · go_enter Tryz.func8, Tryz.ntmps8
    go_wp2
    go_ret
    refine ⟨L.ret_bool ?_, Below.refl _ _⟩
    have : za ≠ zb := by intro e; exact hl (by rw [e])
    simp [this]

end Go.Proofs.YtjaodbaooogpnaaGreat

/-
  scriptlaw13.ChainTells: it returns true.
-/
namespace Go.Proofs.YtjaodbaooogpnaaGreat
open Go.RowKit Go.Lib
set_option maxRecDepth 20000
set_option linter.unusedSimpArgs false
set_option linter.unusedVariables false

namespace Cn
/-- the three boxes of the law -/
abbrev Lw (X Y : World) (a b c : Nat) (v0 v1 v2 f1 f2 : Value) : Prop :=
  Below X.heap.size X Y ∧ Y.cell? ⟨a, 0, none⟩ = some v0 ∧ Y.cell? ⟨a, 1, none⟩ = some v1 ∧ Y.cell? ⟨a, 2, none⟩ = some v2 ∧ Y.cell? ⟨b, 0, none⟩ = some f1 ∧ Y.cell? ⟨b, 1, none⟩ = some f2 ∧ Y.cell? ⟨c, 0, none⟩ = some f1 ∧ Y.cell? ⟨c, 1, none⟩ = some f2
theorem Lw.below {X Y Z : World} {a b c : Nat} {v0 v1 v2 f1 f2 : Value} (h : Lw X Y a b c v0 v1 v2 f1 f2) (hb : Below Y.heap.size Y Z) : Lw X Z a b c v0 v1 v2 f1 f2 := by
  obtain ⟨h0, h1, h2, h3, h4, h5, h6, h7⟩ := h
  exact ⟨h0.trans (hb.mono h0.size), (hb.cell (p := ⟨a, 0, none⟩) (L.block_lt h1)).trans h1, (hb.cell (p := ⟨a, 1, none⟩) (L.block_lt h1)).trans h2, (hb.cell (p := ⟨a, 2, none⟩) (L.block_lt h1)).trans h3, (hb.cell (p := ⟨b, 0, none⟩) (L.block_lt h4)).trans h4, (hb.cell (p := ⟨b, 1, none⟩) (L.block_lt h4)).trans h5, (hb.cell (p := ⟨c, 0, none⟩) (L.block_lt h6)).trans h6, (hb.cell (p := ⟨c, 1, none⟩) (L.block_lt h6)).trans h7⟩
theorem Lw.drew {X Y : World} {a b c : Nat} {v0 v1 v2 f1 f2 : Value} (h : Lw X Y a b c v0 v1 v2 f1 f2) : Lw X Y.drew a b c v0 v1 v2 f1 f2 := h.below (Below.refl _ Y).drew
end Cn

set_option maxHeartbeats 16000000 in
theorem chainTells_any (w : World) (v : Value) (s : V.Script) (h0 : V.ScIs w v s) (hfit : S.Fit s.only) (xo : Option Addr) (xc : Nat) (t : List Int) (Rt : L.Rd w (.slice xo t.length xc) .i32 t) (hcap : t.length ≤ xc) (ht : t.length ≤ 140737488355328) (r : Int) (hr1 : -2147483648 ≤ r) (hr2 : r ≤ 2147483647) :
    Calls Tryz.prog 3 #[v, .slice xo t.length xc, .int .i32 r] w fun e w' => e = .returned (.bool true) ∧ Below w.heap.size w w' := by
  obtain ⟨pl, hpl⟩ := Cn.pl_some
  have HCg : Hid (∀ X, Below w.heap.size w X → Calls Tryz.prog 4 #[v, .slice xo t.length xc] X fun e w' => ∃ v', e = .returned (.tuple #[v', .agg #[.int .i64 (Cn.goF pl s t).2.1, .int .i64 (Cn.goF pl s t).2.2]]) ∧ L.Rd w' v' .i32 (Cn.goF pl s t).1 ∧ Below X.heap.size X w') := fun X hX => cGo_any pl hpl X v s (h0.below hX) hfit xo xc t (Rt.below hX (Nat.le_refl _)) hcap ht
  have HRg : Hid (∀ X, Below w.heap.size w X → Calls Tryz.prog 5 #[v, .slice xo t.length xc] X fun e w' => ∃ v', e = .returned (.tuple #[v', .agg #[.int .i64 (Cn.goF pl s t).2.1, .int .i64 (Cn.goF pl s t).2.2]]) ∧ L.Rd w' v' .i32 (Cn.goF pl s t).1 ∧ Below X.heap.size X w') := fun X hX => rGo13_any pl hpl X v s (h0.below hX) hfit xo xc t (Rt.below hX (Nat.le_refl _)) hcap ht
  have HCw : Hid (∀ X, Below w.heap.size w X → Calls Tryz.prog 6 #[v] X fun e w' => e = .returned (.agg #[.int .i64 (Cn.wrongF s).1, .int .i64 (Cn.wrongF s).2]) ∧ Below X.heap.size X w') := fun X hX => cWrong_any X v s (h0.below hX) hfit
  have HRw : Hid (∀ X, Below w.heap.size w X → Calls Tryz.prog 7 #[v] X fun e w' => e = .returned (.agg #[.int .i64 (Cn.wrongF s).1, .int .i64 (Cn.wrongF s).2]) ∧ Below X.heap.size X w') := fun X hX => rWrong13_any X v s (h0.below hX) hfit
  have HU1 : Hid (∀ X, Calls Tryz.prog 9 #[.int .i32 r] X fun e w' => e = .returned (.int .i32 (Cn.up r)) ∧ w' = X) := fun X => upper_any r hr1 hr2 X
  have HU2 : Hid (∀ X, Calls Tryz.prog 10 #[.int .i32 r] X fun e w' => e = .returned (.int .i32 (Cn.up r)) ∧ w' = X) := fun X => rupper_any r hr1 hr2 X
  have HL1 : Hid (∀ X, Calls Tryz.prog 11 #[.int .i32 r] X fun e w' => e = .returned (.int .i32 (Cn.low r)) ∧ w' = X) := fun X => lower_any r hr1 hr2 X
  have HL2 : Hid (∀ X, Calls Tryz.prog 12 #[.int .i32 r] X fun e w' => e = .returned (.int .i32 (Cn.low r)) ∧ w' = X) := fun X => rlower_any r hr1 hr2 X
  have hlen : (Cn.goF pl s t).1.length ≤ 4000 := by
    unfold Cn.goF
    repeat' split
    all_goals first | (simp; done) | (simp only; omega)
  have HLen : Hid ((Cn.goF pl s t).1.length ≤ 4000) := hlen
  clear hlen
  obtain ⟨⟨g, g1, g2⟩, hg⟩ : ∃ o, Cn.goF pl s t = o := ⟨_, rfl⟩
  obtain ⟨⟨e1, e2⟩, he⟩ : ∃ o, Cn.wrongF s = o := ⟨_, rfl⟩
  rw [hg] at HCg HRg HLen
  rw [he] at HCw HRw
  simp only at HCg HRg HCw HRw HLen
  generalize Cn.up r = u at HU1 HU2
  generalize Cn.low r = lo at HL1 HL2
  obtain ⟨oo, oc, po, pc, rfl, _⟩ := h0
  have hal : ∀ o, Below w.heap.size w (w.alloc o) := fun o => (Below.refl _ w).alloc (Nat.le_refl _) o
  have hC := HCg.out _ (hal (.cells #[.bool s.has, .slice oo s.only.length oc, .slice po s.passes.length pc] 25))
  clear hg he HCg hpl Rt hal hcap
  go_enter Tryz.func3, Tryz.ntmps3
  go_wp2_with fail
  refine hC.mono ?_
  rintro e w1 ⟨v1, rfl, d1, b1⟩
  obtain ⟨va, vc, rfl⟩ : ∃ va vc, v1 = .slice va g.length vc := by obtain ⟨a, c, h, _⟩ := d1; exact ⟨a, c, h⟩
  obtain ⟨hs1, B1, _⟩ := K.one_box b1
  have k0 : ∀ o, (w1.alloc o).cell? ⟨w.heap.size, 0, none⟩ = some (.bool s.has) := fun o => K.alloc_cell (K.at_box (i := 0) hs1 rfl) o
  have k1 : ∀ o, (w1.alloc o).cell? ⟨w.heap.size, 1, none⟩ = some (.slice oo s.only.length oc) := fun o => K.alloc_cell (K.at_box (i := 1) hs1 rfl) o
  have k2 : ∀ o, (w1.alloc o).cell? ⟨w.heap.size, 2, none⟩ = some (.slice po s.passes.length pc) := fun o => K.alloc_cell (K.at_box (i := 2) hs1 rfl) o
  have HB1 : Hid (∀ o, Below w.heap.size w (w1.alloc o)) := fun o => B1.alloc B1.size o
  have HR : Hid (∀ o, Calls Tryz.prog 5 #[.agg #[.bool s.has, .slice oo s.only.length oc, .slice po s.passes.length pc], .slice xo t.length xc] (w1.alloc o) fun e w' => ∃ v', e = .returned (.tuple #[v', .agg #[.int .i64 g1, .int .i64 g2]]) ∧ L.Rd w' v' .i32 g ∧ Below (w1.alloc o).heap.size (w1.alloc o) w') := fun o => HRg.out _ (HB1.out o)
  have HD1 : Hid (L.Rd w1 (.slice va g.length vc) .i32 g ∧ w1.heap[w.heap.size]? = some (.cells #[.bool s.has, .slice oo s.only.length oc, .slice po s.passes.length pc] 25)) := ⟨d1, hs1⟩
  clear b1 d1 hs1 hC HRg B1
  go_wp2_with fail
  refine (HR.out _).mono ?_
  rintro e w2 ⟨v2, rfl, d2, b2⟩
  obtain ⟨vb, vd, rfl⟩ : ∃ va vc, v2 = .slice va g.length vc := by obtain ⟨a, c, h, _⟩ := d2; exact ⟨a, c, h⟩
  obtain ⟨hf, B2, hs2⟩ := K.one_box b2
  obtain ⟨X, hX⟩ : ∃ X, X = w2.alloc (.cells #[.int .i64 g1, .int .i64 g2] 29) := ⟨_, rfl⟩
  have hal : Below w2.heap.size w2 X := by rw [hX]; exact (Below.refl _ w2).alloc (Nat.le_refl _) _
  have hgx : X.heap[w2.heap.size]? = some (.cells #[.int .i64 g1, .int .i64 g2] 29) := by rw [hX]; exact heap_alloc_new w2 _
  have hfx := K.blk_below hf hal
  have hsx := K.blk_below (K.blk_below HD1.out.2 B2) hal
  have hLw : Cn.Lw X X w.heap.size w1.heap.size w2.heap.size (.bool s.has) (.slice oo s.only.length oc) (.slice po s.passes.length pc) (.int .i64 g1) (.int .i64 g2) := ⟨Below.refl _ _, K.at_box (i := 0) hsx rfl, K.at_box (i := 1) hsx rfl, K.at_box (i := 2) hsx rfl, K.at_box (i := 0) hfx rfl, K.at_box (i := 1) hfx rfl, K.at_box (i := 0) hgx rfl, K.at_box (i := 1) hgx rfl⟩
  have hbx : Below w.heap.size w X := ((HB1.out _).trans (b2.mono (HB1.out _).size)).trans (hal.mono ((HB1.out _).trans (b2.mono (HB1.out _).size)).size)
  have HBx : Hid (Below w.heap.size w X) := hbx
  have HSm : Hid (∀ Y, Below X.heap.size X Y → Calls Tryz.prog 8 #[.slice va g.length vc, .slice vb g.length vd] Y fun e w' => e = .returned (.bool true) ∧ Below Y.heap.size Y w') := fun Y hY => by
    have ha : L.Rd Y (.slice va g.length vc) .i32 g := ((HD1.out.1.below B2 (Nat.le_refl _)).below hal (Nat.le_refl _)).below hY (Nat.le_refl _)
    have hb : L.Rd Y (.slice vb g.length vd) .i32 g := (d2.below hal (Nat.le_refl _)).below hY (Nat.le_refl _)
    refine (same_any Y _ _ g g ha hb (by have := HLen.out; omega) (by have := HLen.out; omega)).mono ?_
    rintro e w' ⟨h1, h2⟩
    exact ⟨by simpa using h1, h2⟩
  have HCx : Hid (∀ Y, Below X.heap.size X Y → Calls Tryz.prog 6 #[.agg #[.bool s.has, .slice oo s.only.length oc, .slice po s.passes.length pc]] Y fun e w' => e = .returned (.agg #[.int .i64 e1, .int .i64 e2]) ∧ Below Y.heap.size Y w') := fun Y hY => HCw.out Y (hbx.trans (hY.mono hbx.size))
  have HRx : Hid (∀ Y, Below X.heap.size X Y → Calls Tryz.prog 7 #[.agg #[.bool s.has, .slice oo s.only.length oc, .slice po s.passes.length pc]] Y fun e w' => e = .returned (.agg #[.int .i64 e1, .int .i64 e2]) ∧ Below Y.heap.size Y w') := fun Y hY => HRw.out Y (hbx.trans (hY.mono hbx.size))
  have HK : Hid (Cn.Lw X X.drew w.heap.size w1.heap.size w2.heap.size (.bool s.has) (.slice oo s.only.length oc) (.slice po s.passes.length pc) (.int .i64 g1) (.int .i64 g2)) := hLw.drew
  have HX : Hid (X = w2.alloc (.cells #[.int .i64 g1, .int .i64 g2] 29)) := hX
  clear hX hal hgx hfx hsx hbx hLw hf b2 B2 d2 HR HB1 HD1 HCw HRw k0 k1 k2 HLen
  go_wp2
  rw [← HX.out]
  clear HX
  go_region_held3 (fun w' => Below X.heap.size X w' ∧ w'.cell? ⟨w.heap.size, 0, none⟩ = some (.bool s.has) ∧ w'.cell? ⟨w.heap.size, 1, none⟩ = some (.slice oo s.only.length oc) ∧ w'.cell? ⟨w.heap.size, 2, none⟩ = some (.slice po s.passes.length pc) ∧ w'.cell? ⟨w1.heap.size, 0, none⟩ = some (.int .i64 g1) ∧ w'.cell? ⟨w1.heap.size, 1, none⟩ = some (.int .i64 g2) ∧ w'.cell? ⟨w2.heap.size, 0, none⟩ = some (.int .i64 g1) ∧ w'.cell? ⟨w2.heap.size, 1, none⟩ = some (.int .i64 g2))
    (first | with_reducible exact j3 | with_reducible exact j2 | with_reducible exact j1 | with_reducible exact HK.out | fail)
    (first
      | (go_at_call 6; refine (HCx.out _ (by with_reducible exact HK.out.1)).mono ?_; rintro e w3 ⟨rfl, z1⟩; have j1 := HK.out.below z1)
      | (go_at_call 7; refine (HRx.out _ (by with_reducible exact j1.1)).mono ?_; rintro e w4 ⟨rfl, z2⟩; have j2 := j1.below z2)
      | (go_at_call 8; refine (HSm.out _ (by with_reducible exact j2.1)).mono ?_; rintro e w5 ⟨rfl, z3⟩; have j3 := j2.below z3)
      | (go_at_call 9; refine (HU1.out _).mono ?_; rintro e w' ⟨rfl, rfl⟩)
      | (go_at_call 10; refine (HU2.out _).mono ?_; rintro e w' ⟨rfl, rfl⟩)
      | (go_at_call 11; refine (HL1.out _).mono ?_; rintro e w' ⟨rfl, rfl⟩)
      | (go_at_call 12; refine (HL2.out _).mono ?_; rintro e w' ⟨rfl, rfl⟩)
      | fail)
  have HE : Hid (Below w.heap.size w _) := HBx.out.trans (j3.1.mono HBx.out.size)
  clear j1 j2 j3 z1 z2 z3
  go_wp2
  go_ret
  exact ⟨by simp, HE.out⟩

end Go.Proofs.YtjaodbaooogpnaaGreat
