/-
  The pieces of a text: the document's answer.
-/
import Derived.Test.YtjaodbaooogpnaaGreatCnRows
import Derived.Test.YtjaodbaooogpnaaGreatQWhichR
import Derived.Deep.DeepCutAuto
import Derived.Test.YtjaodbaooogpnaaGreatCnPass
import Derived.Test.YtjaodbaooogpnaaGreatSWrong
namespace Go.Proofs.YtjaodbaooogpnaaGreat
open Go.RowKit Go.Lib
set_option maxRecDepth 20000
set_option linter.unusedSimpArgs false
set_option linter.unusedVariables false

namespace Cn
/-- where the document's loop stands -/
structure Pz (s : V.Script) (t : List Int) (oo : Option Addr) (oc : Nat) (po : Option Addr) (pc : Nat) (w wr : World) (vo vm : Value) (l : List (List Int × Value)) (bs : List Bool) (k : Nat) : Prop where
  pcs : Pcs (w.heap.size + 1) wr vo l
  bools : wr.ownsRow (w.heap.size + 1) 4 1 vm bs.length (bs.map Value.bool)
  fst : l.map (·.1) = (cut (inS s) (t.take k)).map (·.1)
  snd : bs = (cut (inS s) (t.take k)).map (·.2)
  bel : Below w.heap.size w wr
  box : wr.heap[w.heap.size]? = some (.cells #[.bool s.has, .slice oo s.only.length oc, .slice po s.passes.length pc] 25)
theorem row_block {w : World} {F : Nat} {e : TypeId} {k : Nat} {v : Value} {n : Nat} {xs : List Value} (h : w.ownsRow F e k v n xs) : ∀ g, v.ownBlock = some g → ∃ cur : Array Value, w.heap[g]? = some (.cells cur e) := by
  intro g hg
  rcases h.2 with ⟨hv, _⟩ | ⟨g', cap, cur, hv, _, hx, _⟩
  · rw [hv] at hg; cases hg
  · rw [hv] at hg
    have e2 : g' = g := by simpa [Value.ownBlock] using hg
    rw [e2] at hx
    exact ⟨cur, hx⟩
theorem Pz.len {s : V.Script} {t : List Int} {oo : Option Addr} {oc : Nat} {po : Option Addr} {pc : Nat} {w wr : World} {vo vm : Value} {l : List (List Int × Value)} {bs : List Bool} {k : Nat} (h : Pz s t oo oc po pc w wr vo vm l bs k) : bs.length = l.length ∧ l.length ≤ k := by
  have h1 := congrArg List.length h.fst
  have h2 := congrArg List.length h.snd
  have h3 := cut_few (P := inS s) (t := t.take k)
  simp at h1 h2 h3
  omega
theorem Pz.below {s : V.Script} {t : List Int} {oo : Option Addr} {oc : Nat} {po : Option Addr} {pc : Nat} {w wr w' : World} {vo vm : Value} {l : List (List Int × Value)} {bs : List Bool} {k : Nat} (h : Pz s t oo oc po pc w wr vo vm l bs k) (hb : Below wr.heap.size wr w') : Pz s t oo oc po pc w w' vo vm l bs k :=
  ⟨h.pcs.kept fun g _ hg => hb.block g hg, Ws.kept1 h.bools fun g hg => hb.block g (h.bools.lt g hg).2, h.fst, h.snd, h.bel.trans (hb.mono h.bel.size), K.blk_below h.box hb⟩
theorem bool_cell {w : World} {F : Nat} {mo : Option Addr} {n mc : Nat} {bs : List Bool} (h : w.ownsRow F 4 1 (.slice mo n mc) bs.length (bs.map Value.bool)) {j : Nat} {b : Bool} (hj : bs[j]? = some b) : ∃ gm, mo = some ⟨gm, 0, none⟩ ∧ w.cell? ⟨gm, j, none⟩ = some (.bool b) := by
  have hlt := (List.getElem?_eq_some_iff.1 hj).1
  rcases h.2 with ⟨_, h0⟩ | ⟨g, cap, cur, hv, _, hx, _, _, _, htk⟩
  · omega
  · simp only [Value.slice.injEq] at hv
    refine ⟨g, hv.1, K.at_box hx ?_⟩
    rw [Nat.mul_one] at htk
    have e : (cur.toList.take bs.length)[j]? = some (.bool b) := by rw [htk, List.getElem?_map, hj]; rfl
    rw [List.getElem?_take, if_pos hlt] at e
    simpa using e
/-- a new piece -/
theorem Pz.more {s : V.Script} {t : List Int} {oo : Option Addr} {oc : Nat} {po : Option Addr} {pc : Nat} {w wr : World} {vo : Value} {mo : Option Addr} {mc : Nat} {l : List (List Int × Value)} {bs : List Bool} {k : Nat} (h : Pz s t oo oc po pc w wr vo (.slice mo l.length mc) l bs k) (hk : k ≤ 4000) (z : Int) (m : Bool) (hn : cut (inS s) (t.take (k + 1)) = cut (inS s) (t.take k) ++ [([z], m)]) :
    ∃ ao1 cap1 w1 ao2 cap2 w2, (∀ ty, (Builtin.append_ #[42, 42] ty #[vo, .slice (some ⟨wr.heap.size + 1, 0, none⟩) 1 1]).run Tryz.prog ((wr.alloc (.cells #[.int .i32 z] 21)).alloc (.cells #[.slice (some ⟨wr.heap.size, 0, none⟩) 1 1] 26)) = .ok (.slice ao1 (l.length + 1) cap1) w1) ∧
      (∀ ty, (Builtin.append_ #[43, 43] ty #[.slice mo l.length mc, .slice (some ⟨w1.heap.size, 0, none⟩) 1 1]).run Tryz.prog (w1.alloc (.cells #[.bool m] 4)) = .ok (.slice ao2 (l.length + 1) cap2) w2) ∧
      ∃ l' bs', l'.length = l.length + 1 ∧ Pz s t oo oc po pc w w2 (.slice ao1 l'.length cap1) (.slice ao2 l'.length cap2) l' bs' (k + 1) := by
  have hlen := h.len
  obtain ⟨ao1, cap1, w1, run1, pcs1, kp1, be1⟩ := h.pcs.push (lt_of_block h.box) (by omega) z
  have hs1 : w.heap.size + 1 ≤ w1.heap.size := Nat.le_trans (lt_of_block h.box) be1.size
  have hbw : w1.ownsRow (w.heap.size + 1) 4 1 (.slice mo l.length mc) bs.length (bs.map Value.bool) := Ws.kept1 h.bools fun g hg => by
    obtain ⟨cur, hx⟩ := row_block h.bools g hg
    exact kp1 g _ _ hx (by decide)
  obtain ⟨ao2, cap2, w2, run2, own2, kp2, be2⟩ := bool_push hbw hs1 (by omega) m
  rw [hlen.1] at run2 own2
  have hl1 : (l ++ [([z], Value.slice (some ⟨wr.heap.size, 0, none⟩) 1 1)]).length = l.length + 1 := by simp
  have hx1 := (kp1 _ _ _ h.box (by decide)).trans h.box
  refine ⟨ao1, cap1, w1, ao2, cap2, w2, run1, run2, l ++ [([z], .slice (some ⟨wr.heap.size, 0, none⟩) 1 1)], bs ++ [m], hl1, ?_⟩
  rw [hl1]
  refine ⟨⟨Ws.kept1 pcs1.row fun g hg => ?_, fun p hp => Ws.kept1 (pcs1.each p hp) fun g hg => ?_, pcs1.apart⟩, ?_, ?_, ?_, (h.bel.trans (be1.mono (by omega))).trans (be2.mono (by omega)), (kp2 _ _ _ hx1 (by decide)).trans hx1⟩
  · obtain ⟨cur, hx⟩ := row_block pcs1.row g hg
    exact kp2 g _ _ hx (by decide)
  · obtain ⟨cur, hx⟩ := row_block (pcs1.each p hp) g hg
    exact kp2 g _ _ hx (by decide)
  · have e : (bs ++ [m]).length = l.length + 1 := by simp [hlen.1]
    rw [e]; exact own2
  · rw [hn, List.map_append, List.map_append, h.fst]; rfl
  · rw [hn, List.map_append, ← h.snd]; rfl
/-- one rune more for the last piece -/
theorem Pz.join {s : V.Script} {t : List Int} {oo : Option Addr} {oc : Nat} {po : Option Addr} {pc : Nat} {w wr : World} {vo vm : Value} {d : List (List Int × Value)} {x : List Int} {u : Value} {bs : List Bool} {k : Nat} (h : Pz s t oo oc po pc w wr vo vm (d ++ [(x, u)]) bs k) (hx4 : x.length ≤ 4000) (z : Int) {e : List (List Int × Bool)} (hc : cut (inS s) (t.take k) = e ++ [(x, true)]) (hn : cut (inS s) (t.take (k + 1)) = e ++ [(x ++ [z], true)]) :
    ∃ g cap uo uc w1, vo = .slice (some ⟨g, 0, none⟩) (d.length + 1) cap ∧ wr.cell? ⟨g, d.length, none⟩ = some u ∧ (∃ ua ub, u = .slice ua x.length ub) ∧
      (∀ ty, (Builtin.append_ #[26, 26] ty #[u, .slice (some ⟨wr.heap.size, 0, none⟩) 1 1]).run Tryz.prog (wr.alloc (.cells #[.int .i32 z] 21)) = .ok (.slice uo (x.length + 1) uc) w1) ∧
      w1.cell? ⟨g, d.length, none⟩ = some u ∧ w1.frozen? ⟨g, d.length, none⟩ = false ∧
      ∃ l', l'.length = d.length + 1 ∧ Pz s t oo oc po pc w (w1.setCell ⟨g, d.length, none⟩ (.slice uo (x.length + 1) uc)) vo vm l' bs (k + 1) := by
  obtain ⟨g, cap, uo, uc, w1, h1, h2, h3, h4, h5, h6, h7, h8, h9⟩ := h.pcs.snoc (lt_of_block h.box) hx4 z
  refine ⟨g, cap, uo, uc, w1, h1, h2, h3, h4, h5, h6, d ++ [(x ++ [z], .slice uo (x.length + 1) uc)], by simp, h7, ?_, ?_, ?_, h.bel.trans (h9.mono (by omega)), (h8 _ _ _ h.box (by decide) (by decide)).trans h.box⟩
  · refine Ws.kept1 h.bools fun g hg => ?_
    obtain ⟨cur, hx⟩ := row_block h.bools g hg
    exact h8 g _ _ hx (by decide) (by decide)
  · have h10 := h.fst
    rw [hc, List.map_append, List.map_append] at h10
    have h11 := List.append_inj_left' h10 rfl
    rw [hn, List.map_append, List.map_append, h11]; rfl
  · rw [h.snd, hc, hn, List.map_append, List.map_append]; rfl
end Cn

set_option maxHeartbeats 8000000 in
theorem rPieces_any (w : World) (v : Value) (s : V.Script) (h0 : V.ScIs w v s) (vt : Value) (t : List Int) (Rt : L.Rd w vt .i32 t) (ht : t.length ≤ 4000) :
    Calls Tryz.prog 18 #[v, vt] w fun e w' => ∃ (l : List (List Int × Value)) (vo : Option Addr) (vc : Nat) (mo : Option Addr) (mc : Nat), e = .returned (.tuple #[.slice vo l.length vc, .slice mo l.length mc]) ∧ Cn.Pcs (w.heap.size + 1) w' (.slice vo l.length vc) l ∧ l.map (·.1) = (Cn.cut (Cn.inS s) t).map (·.1) ∧ w'.ownsRow (w.heap.size + 1) 4 1 (.slice mo l.length mc) l.length (((Cn.cut (Cn.inS s) t).map (·.2)).map Value.bool) ∧ Below w.heap.size w w' := by
  obtain ⟨oo, oc, po, pc, rfl, hO, hOl, hP⟩ := h0
  have hal : ∀ o, Below w.heap.size w (w.alloc o) := fun o => (Below.refl _ w).alloc (Nat.le_refl _) o
  have HIn : Hid (S.Rd w (.slice oo s.only.length oc) s.only ∧ L.Rd w vt .i32 t) := ⟨hO, Rt⟩
  have HZ0 : Hid (Cn.Pz s t oo oc po pc w (w.alloc (.cells #[.bool s.has, .slice oo s.only.length oc, .slice po s.passes.length pc] 25)) (.slice none ([] : List (List Int × Value)).length 0) (.slice none ([] : List (List Int × Value)).length 0) [] [] 0) := ⟨Cn.Pcs.nil _ _, World.ownsRow_nil _ _ _ _, rfl, rfl, hal _, heap_alloc_new w _⟩
  obtain ⟨xo, xc, rfl⟩ : ∃ xo xc, vt = .slice xo t.length xc := by obtain ⟨a, c, h, _⟩ := Rt; exact ⟨a, c, h⟩
  clear hO hP Rt hal
  go_enter Tryz.func18, Tryz.ntmps18
  go_wp2
  go_loopw [6, 7, 14] (fun i6 i7 i wr => ∃ (k : Nat) (l : List (List Int × Value)) (bs : List Bool) (vo : Option Addr) (vc : Nat) (mo : Option Addr) (mc : Nat), k ≤ t.length ∧ i = .int .i64 k ∧ i6 = .slice vo l.length vc ∧ i7 = .slice mo l.length mc ∧ Hid (Cn.Pz s t oo oc po pc w wr (.slice vo l.length vc) (.slice mo l.length mc) l bs k)) (fun _ _ i _ => t.length - (intOf i).toNat)
  case atStart => exact ⟨0, [], [], none, 0, none, 0, Nat.zero_le _, rfl, rfl, rfl, HZ0⟩
  case round =>
    obtain ⟨k, l, bs, vo, vc, mo, mc, hk, rfl, rfl, rfl, HI⟩ := hrel
    have hll : l.length ≤ 4000 := by have := HI.out.len; omega
    by_cases hlt : k < t.length
    · obtain ⟨z, hz⟩ : ∃ z, t[k]? = some z := ⟨t[k], by simp [hlt]⟩
      obtain ⟨ao', cap', e', _, hcs⟩ := HIn.out.2.below HI.out.bel (Nat.le_refl _)
      cases e'
      obtain ⟨bt, off, rfl, hcell⟩ := hcs (by intro h; subst h; simp at hlt)
      have c0 := hcell k z hz
      have HSn : Hid (Cn.cut (Cn.inS s) (t.take (k + 1)) = Cn.snocP (Cn.inS s z) z (Cn.cut (Cn.inS s) (t.take k))) := by
        show _ = _
        rw [List.take_add_one, hz]
        exact Cn.cut_snoc
      have kh : wr.cell? ⟨w.heap.size, 0, none⟩ = some (.bool s.has) := K.at_box (i := 0) HI.out.box rfl
      have ko : wr.cell? ⟨w.heap.size, 1, none⟩ = some (.slice oo s.only.length oc) := K.at_box (i := 1) HI.out.box rfl
      have HHs : Hid (Calls Tryz.prog 33 #[.slice oo s.only.length oc, .int .i32 z] wr fun e w' => e = .returned (.bool (S.memb s.only z)) ∧ Below wr.heap.size wr w') := refhas_any wr _ s.only z (HIn.out.1.below HI.out.bel (Nat.le_refl _)) (by omega)
      clear hcs hcell hz HZ0
      obtain ⟨m, hm⟩ : ∃ m, m = Cn.inS s z := ⟨_, rfl⟩
      rw [← hm] at HSn
      have HM : Hid (m = Cn.inS s z) := hm
      clear hm
      go_upto_region 6 with fail
      go_cut [10] (fun v10 wx => v10 = .bool m ∧ Hid (Cn.Pz s t oo oc po pc w wx (.slice vo l.length vc) (.slice mo l.length mc) l bs k))
      case first =>
        rcases Bool.eq_false_or_eq_true s.has with hh | hh
        rotate_left
        · rw [hh] at kh
          have hm : m = true := by rw [HM.out, Cn.inS, hh]; rfl
          subst hm
          clear HHs hh
          go_wp2
          go_meet
          case rel => exact ⟨rfl, HI⟩
        · rw [hh] at kh
          have hm : m = S.memb s.only z := by rw [HM.out, Cn.inS, hh]; rfl
          rw [← hm] at HHs
          clear hm hh
          go_wp2_with fail
          refine HHs.out.mono ?_
          rintro e w1 ⟨rfl, b1⟩
          have HI1 : Hid (Cn.Pz s t oo oc po pc w w1 (.slice vo l.length vc) (.slice mo l.length mc) l bs k) := HI.out.below b1
          clear b1 HHs
          go_wp2
          go_meet
          case rel => exact ⟨rfl, HI1⟩
      case rest =>
        obtain ⟨rfl, HC⟩ := hcut
        clear HI HHs kh ko c0
        have hlen := HC.out.len
        by_cases hj : m = true ∧ ∃ e x, Cn.cut (Cn.inS s) (t.take k) = e ++ [(x, true)]
        · obtain ⟨rfl, e, x, hc⟩ := hj
          have hn : Cn.cut (Cn.inS s) (t.take (k + 1)) = e ++ [(x ++ [z], true)] := by rw [HSn.out, hc, Cn.snocP_end, if_pos ⟨rfl, rfl⟩]
          have hx4 : x.length ≤ 4000 := by
            have h1 := Cn.cut_small (P := Cn.inS s) (t := t.take k) (x, true) (by rw [hc]; simp)
            rw [List.length_take] at h1
            simp only at h1
            omega
          obtain ⟨d, u, rfl⟩ : ∃ d u, l = d ++ [(x, u)] := by
            have h1 := HC.out.fst
            rw [hc, List.map_append] at h1
            rcases List.eq_nil_or_concat l with hl | ⟨d, ⟨x', u⟩, hl⟩
            · rw [hl] at h1; simp at h1
            · rw [hl, List.concat_eq_append] at h1
              rw [List.map_append] at h1
              have h2 := List.append_inj_right' h1 rfl
              simp at h2
              exact ⟨d, u, by rw [hl, List.concat_eq_append, h2]⟩
          obtain ⟨g, cap, uo, uc, w1, hv, hu, ⟨ua, ub, rfl⟩, run1, hu1, hf1, l', hl', hN⟩ := HC.out.join hx4 z hc hn
          have hdl : (d ++ [(x, Value.slice ua x.length ub)]).length = d.length + 1 := by simp
          rw [hdl] at hv HC hll hlen hN ⊢
          obtain ⟨rfl, rfl⟩ : vo = some ⟨g, 0, none⟩ ∧ vc = cap := by
            simp only [Value.slice.injEq] at hv
            exact ⟨hv.1, hv.2.2⟩
          have hbt : bs[d.length]? = some true := by
            have h1 := HC.out.snd
            have h2 := congrArg List.length HC.out.fst
            rw [hc] at h1 h2
            simp at h2
            rw [h1, List.map_append, h2]
            simp
          obtain ⟨gm, rfl, hmc⟩ := Cn.bool_cell HC.out.bools hbt
          have HN : Hid (l'.length = d.length + 1 ∧ Cn.Pz s t oo oc po pc w (w1.setCell ⟨g, d.length, none⟩ (.slice uo (x.length + 1) uc)) (.slice (some ⟨g, 0, none⟩) (d.length + 1) vc) (.slice (some ⟨gm, 0, none⟩) (d.length + 1) mc) l' bs (k + 1)) := ⟨hl', hN⟩
          clear hv hc hn hN hl' HC hbt HSn HM
          go_wp2_with (at_builtin; refine Lib.wpList_append_run _ rfl _ _ _ _ rfl _ _ rfl rfl _ _ (run1 _) ?_; clear run1)
          go_roundw
          case rel => exact ⟨k + 1, l', bs, some ⟨g, 0, none⟩, vc, some ⟨gm, 0, none⟩, mc, by omega, by go_num, by rw [HN.out.1], by rw [HN.out.1], by rw [HN.out.1]; exact HN.out.2⟩
          case measure => simp [intOf]; omega
        · have hn : Cn.cut (Cn.inS s) (t.take (k + 1)) = Cn.cut (Cn.inS s) (t.take k) ++ [([z], m)] := by
            rw [HSn.out]
            rcases List.eq_nil_or_concat (Cn.cut (Cn.inS s) (t.take k)) with h | ⟨e, ⟨x, b⟩, h⟩
            · rw [h]; rfl
            · rw [h, List.concat_eq_append, Cn.snocP_end, if_neg]
              · simp
              · rintro ⟨h1, rfl⟩
                exact hj ⟨h1, e, x, by rw [h, List.concat_eq_append]⟩
          obtain ⟨ao1, cap1, w1, ao2, cap2, w2, run1, run2, l', bs', hl', hN⟩ := HC.out.more (by omega) z m hn
          have HN : Hid (l'.length = l.length + 1 ∧ Cn.Pz s t oo oc po pc w w2 (.slice ao1 l'.length cap1) (.slice ao2 l'.length cap2) l' bs' (k + 1)) := ⟨hl', hN⟩
          have HHj : Hid (¬(m = true ∧ ∃ e x, Cn.cut (Cn.inS s) (t.take k) = e ++ [(x, true)])) := hj
          clear hn hN hl' hj
          cases m with
          | false =>
            clear HC HSn HM HHj
            go_wp2_with (at_builtin; first | (have hq := run1; clear hq; refine Lib.wpList_append_run _ rfl _ _ _ _ rfl _ _ rfl rfl _ _ (run1 _) ?_; clear run1) | ((fail_if_success (have hq := run1)); refine Lib.wpList_append_run _ rfl _ _ _ _ rfl _ _ rfl rfl _ _ (run2 _) ?_; clear run2) | fail)
            go_roundw
            case rel => exact ⟨k + 1, l', bs', ao1, cap1, ao2, cap2, by omega, by go_num, by rw [HN.out.1]; (try rfl), by rw [HN.out.1]; (try rfl), HN.out.2⟩
            case measure => simp [intOf]; omega
          | true =>
            by_cases hl0 : l.length = 0
            · have hl : l = [] := List.eq_nil_of_length_eq_zero hl0
              subst hl
              clear HC HSn HM HHj
              go_wp2_with (at_builtin; first | (have hq := run1; clear hq; refine Lib.wpList_append_run _ rfl _ _ _ _ rfl _ _ rfl rfl _ _ (run1 _) ?_; clear run1) | ((fail_if_success (have hq := run1)); refine Lib.wpList_append_run _ rfl _ _ _ _ rfl _ _ rfl rfl _ _ (run2 _) ?_; clear run2) | fail)
              go_roundw
              case rel => exact ⟨k + 1, l', bs', ao1, cap1, ao2, cap2, by omega, by go_num, by rw [HN.out.1]; (try rfl), by rw [HN.out.1]; (try rfl), HN.out.2⟩
              case measure => simp [intOf]; omega
            · obtain ⟨L, hL⟩ : ∃ L, l.length = L + 1 := ⟨l.length - 1, by omega⟩
              have hbt : bs[L]? = some false := by
                have hbl : bs.length = L + 1 := by omega
                rcases List.eq_nil_or_concat (Cn.cut (Cn.inS s) (t.take k)) with h | ⟨e, ⟨x, b⟩, h⟩
                · have h1 := HC.out.snd
                  rw [h] at h1
                  rw [h1] at hbl
                  simp at hbl
                · rw [List.concat_eq_append] at h
                  have h1 := HC.out.snd
                  rw [h, List.map_append] at h1
                  have h2 : e.length = L := by
                    rw [h1] at hbl
                    simpa using hbl
                  have hb : b = false := by
                    cases b with
                    | false => rfl
                    | true => exact absurd ⟨rfl, e, x, h⟩ HHj.out
                  rw [h1, hb, ← h2]
                  simp
              obtain ⟨gm, rfl, hmc⟩ := Cn.bool_cell HC.out.bools hbt
              have hLi : (l.length : Int) - 1 = (L : Int) := by omega
              have hLt : (L : Int) < (l.length : Int) := by omega
              obtain ⟨N1, hN1⟩ : ∃ N1, N1 = l.length + 1 := ⟨_, rfl⟩
              rw [← hN1] at HN run1 run2
              clear HC HSn HM HHj hbt hL hN1 hl0
              go_wp2_with (at_builtin; first | (have hq := run1; clear hq; refine Lib.wpList_append_run _ rfl _ _ _ _ rfl _ _ rfl rfl _ _ (run1 _) ?_; clear run1) | ((fail_if_success (have hq := run1)); refine Lib.wpList_append_run _ rfl _ _ _ _ rfl _ _ rfl rfl _ _ (run2 _) ?_; clear run2) | fail)
              go_roundw
              case rel => exact ⟨k + 1, l', bs', ao1, cap1, ao2, cap2, by omega, by go_num, by rw [HN.out.1]; (try rfl), by rw [HN.out.1]; (try rfl), HN.out.2⟩
              case measure => simp [intOf]; omega
    · have hkl : k = t.length := by omega
      go_wp2
      refine bodyPost_ret (v := .tuple #[.slice vo l.length vc, .slice mo l.length mc]) (by simp [results, Tryz.results18, go_sem, *]) rfl ?_
      obtain ⟨h1, h2, h3, h4, h5, h6⟩ := HI.out
      rw [hkl, List.take_length] at h3 h4
      have hbs : bs.length = l.length := HI.out.len.1
      rw [hbs, h4] at h2
      exact ⟨l, vo, vc, mo, mc, rfl, h1, h3, h2, h5⟩

end Go.Proofs.YtjaodbaooogpnaaGreat

/-
  The passes of a script are made.
-/
namespace Go.Proofs.YtjaodbaooogpnaaGreat
open Go.RowKit
set_option maxRecDepth 20000
set_option linter.unusedSimpArgs false
set_option linter.unusedVariables false

set_option maxHeartbeats 1000000 in
theorem each_any (w0 w : World) (g : Nat) (f : Int → Int) (eg : ∀ args w, (callFunc g args).run Tryz.prog w = .ok (.enter g args) w)
    (hf : ∀ W r, 0 ≤ r → r ≤ 1114111 → Calls Tryz.prog g #[.int .i32 r] W fun e w' => e = .returned (.int .i32 (f r)) ∧ w' = W) :
    Calls Tryz.prog 53 #[.func (.func g) #[] #[]] w fun e w' => ∃ v, e = .returned v ∧ Cn.Acts w0 w.heap.size w' v (fun x => (x.map f, 0)) ∧ Below w.heap.size w w' := by
  have HF : Hid (∀ W r, 0 ≤ r → r ≤ 1114111 → Calls Tryz.prog g #[.int .i32 r] W fun e w' => e = .returned (.int .i32 (f r)) ∧ w' = W) := hf
  have HG : Hid (∀ args w, (callFunc g args).run Tryz.prog w = .ok (.enter g args) w) := eg
  clear hf eg
  go_enter Tryz.func53, Tryz.ntmps53
  go_wp2
  go_ret
  have hal : ∀ o, Below w.heap.size w (w.alloc o) := fun o => (Below.refl _ w).alloc (Nat.le_refl _) o
  refine ⟨_, rfl, ⟨63, _, some (w.heap.size, _), rfl, enters_of Tryz.func63 (by kernel_rfl) rfl, fun p hp => by cases hp; exact ⟨Nat.le_refl _, heap_alloc_new w _⟩, fun W vt t hW hb hr ht => ?_⟩, hal _⟩
  exact eachPass_any W w.heap.size g _ f (hb _ rfl) HG.out HF.out vt t hr ht

set_option maxHeartbeats 1000000 in
theorem rules_any (pl : Cn.Pl) (hpl : Cn.PlOk pl) (w0 w : World) (v : Value) (l : List K.Rule) (R0 : V.Rus w0 v l) :
    Calls Tryz.prog 45 #[v] w fun e w' => ∃ v', e = .returned v' ∧ Cn.Acts w0 w.heap.size w' v' (pl l) ∧ Below w.heap.size w w' := by
  have HR : Hid (V.Rus w0 v l) := R0
  obtain ⟨ao, cap, rfl⟩ := R0.len
  clear R0
  go_enter Tryz.func45, Tryz.ntmps45
  go_wp2
  go_ret
  have hal : ∀ o, Below w.heap.size w (w.alloc o) := fun o => (Below.refl _ w).alloc (Nat.le_refl _) o
  refine ⟨_, rfl, ⟨58, _, some (w.heap.size, _), rfl, enters_of Tryz.func58 (by kernel_rfl) rfl, fun p hp => by cases hp; exact ⟨Nat.le_refl _, heap_alloc_new w _⟩, fun W vt t hW hb hr ht => ?_⟩, hal _⟩
  exact rulesPass_any pl hpl W w.heap.size _ l (hb _ rfl) (HR.out.below hW) vt t hr ht

/-- what a pass by that name makes of a text -/
def Cn.nameF (s : ByteArray) (x : List Int) : List Int × Int :=
  if s.toList = [117, 112, 112, 101, 114] then (x.map Cn.up, 0)
  else if s.toList = [108, 111, 119, 101, 114] then (x.map Cn.low, 0)
  else if s.toList = [110, 117, 108, 108] then (x, 0) else ([], 0)
theorem Cn.acts_null (w0 : World) (B : Nat) (w : World) : Cn.Acts w0 B w (.func (.func 54) #[] #[]) (fun x => (x, 0)) :=
  ⟨54, _, none, rfl, enters_of Tryz.func54 (by kernel_rfl) rfl, fun p hp => by (cases hp), fun W vt t hW _ hr ht => (nullPass_any W vt).mono fun e w' ⟨h1, h2⟩ => by subst h2; exact ⟨_, h1, hr, Below.refl _ _⟩⟩
theorem Cn.acts_remove (w0 : World) (B : Nat) (w : World) : Cn.Acts w0 B w (.func (.func 55) #[] #[]) (fun x => ([], 0)) :=
  ⟨55, _, none, rfl, enters_of Tryz.func55 (by kernel_rfl) rfl, fun p hp => by (cases hp), fun W vt t hW _ hr ht => (removePass_any W vt).mono fun e w' ⟨h1, h2⟩ => by subst h2; exact ⟨_, h1, ⟨none, 0, rfl, fun _ => rfl, fun h => absurd rfl h⟩, Below.refl _ _⟩⟩

def Cn.Nm (w0 w w' : World) (s : ByteArray) (v : Value) : Prop := (R.passes s = true → Cn.Acts w0 w.heap.size w' v (Cn.nameF s)) ∧ (R.passes s = false → v = .nilFunc) ∧ Below w.heap.size w w' ∧ (R.passes s = true → v ≠ .nilFunc)
theorem Cn.Acts.some {w0 w : World} {B : Nat} {v : Value} {F : List Int → List Int × Int} (h : Cn.Acts w0 B w v F) : v ≠ .nilFunc := by
  obtain ⟨g, cb, bx, rfl, _⟩ := h
  intro h; cases h
theorem Cn.nm_mk {w0 w w' : World} {s : ByteArray} {v : Value} {F : List Int → List Int × Int} (hp : R.passes s = true) (h : Cn.Acts w0 w.heap.size w' v F) (e : Cn.nameF s = F) (hb : Below w.heap.size w w') : Cn.Nm w0 w w' s v :=
  ⟨fun _ => e ▸ h, fun h => by (rw [hp] at h; cases h), hb, fun _ => h.some⟩
set_option maxHeartbeats 1000000 in
theorem named_any (w0 : World) (s : ByteArray) (w : World) :
    Calls Tryz.prog 38 #[.string s] w fun e w' => ∃ v, e = .returned v ∧ Cn.Nm w0 w w' s v := by
  have HL : Hid (∀ W, Calls Tryz.prog 53 #[.func (.func 11) #[] #[]] W fun e w' => ∃ v, e = .returned v ∧ Cn.Acts w0 W.heap.size w' v (fun x => (x.map Cn.low, 0)) ∧ Below W.heap.size W w') := fun W => each_any w0 W _ _ (enters_of Tryz.func11 (by kernel_rfl) rfl) fun W r h1 h2 => lower_any r (by omega) (by omega) W
  have HU : Hid (∀ W, Calls Tryz.prog 53 #[.func (.func 9) #[] #[]] W fun e w' => ∃ v, e = .returned v ∧ Cn.Acts w0 W.heap.size w' v (fun x => (x.map Cn.up, 0)) ∧ Below W.heap.size W w') := fun W => each_any w0 W _ _ (enters_of Tryz.func9 (by kernel_rfl) rfl) fun W r h1 h2 => upper_any r (by omega) (by omega) W
  cases h1 : (s.toList == [108, 111, 119, 101, 114]) with
  | true =>
    have h1' := eq_of_beq h1
    go_enter Tryz.func38, Tryz.ntmps38
    go_wp2_with fail
    refine (HL.out _).mono ?_
    rintro e w1 ⟨v, rfl, hA, hB⟩
    have HA : Hid (Cn.Acts w0 w.heap.size w1 v (fun x => (x.map Cn.low, 0)) ∧ Below w.heap.size w w1) := ⟨hA, hB⟩
    clear hA hB
    go_wp2
    go_ret
    exact ⟨_, rfl, Cn.nm_mk (by unfold R.passes; rw [h1']; decide) HA.out.1 (by funext x; unfold Cn.nameF; rw [h1']; rfl) HA.out.2⟩
  | false =>
    cases h2 : (s.toList == [110, 117, 108, 108]) with
    | true =>
      have h2' := eq_of_beq h2
      go_enter Tryz.func38, Tryz.ntmps38
      go_wp2
      go_ret
      exact ⟨_, rfl, Cn.nm_mk (by unfold R.passes; rw [h2']; decide) (Cn.acts_null w0 _ w) (by funext x; unfold Cn.nameF; rw [h2']; rfl) (Below.refl _ _)⟩
    | false =>
      cases h3 : (s.toList == [114, 101, 109, 111, 118, 101]) with
      | true =>
        have h3' := eq_of_beq h3
        go_enter Tryz.func38, Tryz.ntmps38
        go_wp2
        go_ret
        exact ⟨_, rfl, Cn.nm_mk (by unfold R.passes; rw [h3']; decide) (Cn.acts_remove w0 _ w) (by funext x; unfold Cn.nameF; rw [h3']; rfl) (Below.refl _ _)⟩
      | false =>
        cases h4 : (s.toList == [117, 112, 112, 101, 114]) with
        | true =>
          have h4' := eq_of_beq h4
          go_enter Tryz.func38, Tryz.ntmps38
          go_wp2_with fail
          refine (HU.out _).mono ?_
          rintro e w1 ⟨v, rfl, hA, hB⟩
          have HA : Hid (Cn.Acts w0 w.heap.size w1 v (fun x => (x.map Cn.up, 0)) ∧ Below w.heap.size w w1) := ⟨hA, hB⟩
          clear hA hB
          go_wp2
          go_ret
          exact ⟨_, rfl, Cn.nm_mk (by unfold R.passes; rw [h4']; decide) HA.out.1 (by funext x; unfold Cn.nameF; rw [h4']; rfl) HA.out.2⟩
        | false =>
          go_enter Tryz.func38, Tryz.ntmps38
          go_wp2
          go_ret
          have hp : R.passes s = false := by
            unfold R.passes
            simp only [beq_eq_false_iff_ne, ne_eq] at h1 h2 h3 h4
            simp [h1, h2, h3, h4]
          exact ⟨_, rfl, fun h => by (rw [hp] at h; cases h), fun _ => rfl, Below.refl _ _, fun h => by (rw [hp] at h; cases h)⟩

set_option maxHeartbeats 1000000 in
theorem ready_any (pl : Cn.Pl) (hpl : Cn.PlOk pl) (w0 w : World) (p : V.Pass) (ro : Option Addr) (rc : Nat) (R0 : V.Rus w0 (.slice ro p.rules.length rc) p.rules) (hp : Cn.passE p = 0) :
    Calls Tryz.prog 31 #[.agg #[.string p.name, .slice ro p.rules.length rc]] w fun e w' => ∃ v, e = .returned v ∧ Cn.Acts w0 w.heap.size w' v (Cn.passF pl p) ∧ Below w.heap.size w w' := by
  have hal : ∀ o, Below w.heap.size w (w.alloc o) := fun o => (Below.refl _ w).alloc (Nat.le_refl _) o
  have HR : Hid (∀ o, Calls Tryz.prog 45 #[.slice ro p.rules.length rc] (w.alloc o) fun e w' => ∃ v', e = .returned v' ∧ Cn.Acts w0 (w.alloc o).heap.size w' v' (pl p.rules) ∧ Below (w.alloc o).heap.size (w.alloc o) w') := fun o => rules_any pl hpl w0 _ _ _ R0
  have HN : Hid (∀ W, Calls Tryz.prog 38 #[.string p.name] W fun e w' => ∃ v, e = .returned v ∧ Cn.Nm w0 W w' p.name v) := fun W => named_any w0 p.name W
  have HA : Hid (∀ o w', Below (w.alloc o).heap.size (w.alloc o) w' → Below w.heap.size w w') := fun o w' h => (hal o).trans (h.mono (hal o).size)
  cases h1 : (p.name.toList == []) with
  | true =>
    have h1' := eq_of_beq h1
    go_enter Tryz.func31, Tryz.ntmps31
    go_wp2_with fail
    refine (HR.out _).mono ?_
    rintro e w1 ⟨v, rfl, hA, hB⟩
    have HE : Hid (Cn.Acts w0 w.heap.size w1 v (pl p.rules) ∧ Below w.heap.size w w1) := ⟨hA.keep (by simp) fun _ _ _ h => h, HA.out _ _ hB⟩
    clear hA hB
    go_wp2
    go_ret
    exact ⟨_, rfl, by have e : Cn.passF pl p = pl p.rules := by (funext x; unfold Cn.passF; rw [if_pos h1'])
                      rw [e]; exact HE.out.1, HE.out.2⟩
  | false =>
    have h1' : ¬ p.name.toList = [] := by simpa using h1
    have hps : R.passes p.name = true := by
      unfold Cn.passE at hp
      rw [if_neg h1'] at hp
      cases h : R.passes p.name with
      | true => rfl
      | false => rw [h] at hp; simp at hp
    go_enter Tryz.func31, Tryz.ntmps31
    go_wp2_with fail
    refine (HN.out _).mono ?_
    rintro e w1 ⟨v, rfl, hnm⟩
    have HE : Hid (Cn.Acts w0 w.heap.size w1 v (Cn.nameF p.name) ∧ Below w.heap.size w w1) := ⟨(hnm.1 hps).keep (by simp) fun _ _ _ h => h, HA.out _ _ hnm.2.2.1⟩
    clear hnm
    go_wp2
    go_ret
    exact ⟨_, rfl, by have e : Cn.passF pl p = Cn.nameF p.name := by (funext x; unfold Cn.passF Cn.nameF; rw [if_neg h1'])
                      rw [e]; exact HE.out.1, HE.out.2⟩

end Go.Proofs.YtjaodbaooogpnaaGreat

/-
  What is wrong with a script: the program's answer.
-/
namespace Go.Proofs.YtjaodbaooogpnaaGreat
open Go.RowKit
set_option maxRecDepth 20000
set_option linter.unusedSimpArgs false
set_option linter.unusedVariables false

set_option maxHeartbeats 1000000 in
theorem wrongPass_any (w : World) (p : V.Pass) (ro : Option Addr) (rc : Nat) (R0 : V.Rus w (.slice ro p.rules.length rc) p.rules) :
    Calls Tryz.prog 21 #[.agg #[.string p.name, .slice ro p.rules.length rc]] w fun e w' => e = .returned (.int .i64 (Cn.passE p)) ∧ Below w.heap.size w w' := by
  have hal : ∀ o, Below w.heap.size w (w.alloc o) := fun o => (Below.refl _ w).alloc (Nat.le_refl _) o
  have hfew := R0.few
  have HR : Hid (∀ o, Calls Tryz.prog 37 #[.slice ro p.rules.length rc] (w.alloc o) fun e w' => e = .returned (.agg #[.int .i64 (K.rulesF p.rules).1, .int .i64 (K.rulesF p.rules).2]) ∧ Below (w.alloc o).heap.size (w.alloc o) w') := fun o => qWrong_any _ _ _ (R0.below (hal o))
  have HN : Hid (∀ W, Calls Tryz.prog 38 #[.string p.name] W fun e w' => ∃ v, e = .returned v ∧ Cn.Nm w W w' p.name v) := fun W => named_any w p.name W
  have HA : Hid (∀ o w', Below (w.alloc o).heap.size (w.alloc o) w' → Below w.heap.size w w') := fun o w' h => (hal o).trans (h.mono (hal o).size)
  have q1 : ∀ g cb w, (binOp .eql 61 (.func (.func g) #[] cb) .nilFunc).run Tryz.prog w = .ok (.bool false) w := fun g cb w => by kernel_rfl
  have q2 : ∀ w, (binOp .eql 61 .nilFunc .nilFunc).run Tryz.prog w = .ok (.bool true) w := fun w => by kernel_rfl
  have q3 : ∀ a b w, (Instr.field 29 (.agg #[.int .i64 a, .int .i64 b]) 0).run Tryz.prog w = .ok (.int .i64 a) w := fun a b w => by kernel_rfl
  cases h1 : (p.name.toList == []) with
  | true =>
    have h1' := eq_of_beq h1
    have he : Cn.passE p = (K.rulesF p.rules).1 := by unfold Cn.passE; rw [if_pos h1']
    rw [he]
    obtain ⟨⟨r1, r2⟩, hr⟩ : ∃ o, K.rulesF p.rules = o := ⟨_, rfl⟩
    rw [hr] at HR ⊢
    simp only at HR ⊢
    clear hr he R0
    go_enter Tryz.func21, Tryz.ntmps21
    go_wp2_with fail
    refine (HR.out _).mono ?_
    rintro e w1 ⟨rfl, hB⟩
    have HE : Hid (Below w.heap.size w w1) := HA.out _ _ hB
    clear hB
    go_wp2
    go_ret
    exact ⟨rfl, HE.out⟩
  | false =>
    have h1' : ¬ p.name.toList = [] := by simpa using h1
    cases hps : R.passes p.name with
    | false =>
      have he : Cn.passE p = 7 := by unfold Cn.passE; rw [if_neg h1', hps]; rfl
      rw [he]
      go_enter Tryz.func21, Tryz.ntmps21
      go_wp2_with fail
      refine (HN.out _).mono ?_
      rintro e w1 ⟨v, rfl, hnm⟩
      obtain rfl := hnm.2.1 hps
      have HE : Hid (Below w.heap.size w w1) := HA.out _ _ hnm.2.2.1
      clear hnm
      go_wp2
      go_ret
      exact ⟨rfl, HE.out⟩
    | true =>
      have he : Cn.passE p = if 0 < p.rules.length then 8 else 0 := by unfold Cn.passE; rw [if_neg h1', hps]; rfl
      rw [he]
      obtain ⟨o, HO⟩ : ∃ o : Int, Hid ((if 0 < p.rules.length then 8 else 0) = o) := ⟨_, rfl⟩
      rw [HO.out]
      clear he
      go_enter Tryz.func21, Tryz.ntmps21
      go_wp2_with fail
      refine (HN.out _).mono ?_
      rintro e w1 ⟨v, rfl, hnm⟩
      obtain ⟨g, cb, bx, rfl, _⟩ := hnm.1 hps
      have HE : Hid (Below w.heap.size w w1 ∧ Below (w.alloc (.cells #[.string p.name, .slice ro p.rules.length rc] 48)).heap.size (w.alloc (.cells #[.string p.name, .slice ro p.rules.length rc] 48)) w1) := ⟨HA.out _ _ hnm.2.2.1, hnm.2.2.1⟩
      have hx : w1.heap[w.heap.size]? = some (.cells #[.string p.name, .slice ro p.rules.length rc] 48) := (HE.out.2.block _ (by simp)).trans (heap_alloc_new w _)
      obtain ⟨k0, k1, _, _⟩ := K.box2 hx
      clear hnm hx
      by_cases hz : 0 < p.rules.length
      · have ho := HO.out
        rw [if_pos hz] at ho
        subst ho
        have hz' : (0 : Int) < (p.rules.length : Int) := by omega
        go_wp2
        go_ret
        exact ⟨rfl, HE.out.1⟩
      · have ho := HO.out
        rw [if_neg hz] at ho
        subst ho
        have hz' : ¬ (0 : Int) < (p.rules.length : Int) := by omega
        go_wp2
        go_ret
        exact ⟨rfl, HE.out.1⟩

/-- GENERATED -/
theorem Cn.two_new (w : World) (o1 o2 : Obj) : ((w.alloc o1).alloc o2).heap[w.heap.size]? = some o1 ∧ ((w.alloc o1).alloc o2).heap[w.heap.size + 1]? = some o2 ∧ Below w.heap.size w ((w.alloc o1).alloc o2) := by
  have h := K.two_boxes (Below.refl _ ((w.alloc o1).alloc o2))
  exact ⟨h.1, h.2.1, h.2.2.1⟩

set_option maxHeartbeats 4000000 in
theorem cWrong_any (w : World) (v : Value) (s : V.Script) (h0 : V.ScIs w v s) (hfit : S.Fit s.only) :
    Calls Tryz.prog 6 #[v] w fun e w' => e = .returned (.agg #[.int .i64 (Cn.wrongF s).1, .int .i64 (Cn.wrongF s).2]) ∧ Below w.heap.size w w' := by
  obtain ⟨oo, oc, po, pc, rfl, hO, hOl, hP⟩ := h0
  have hPl := hP.few
  have HP : Hid (V.Pas w (.slice po s.passes.length pc) s.passes) := hP
  have HSw : Hid (∀ X, Below w.heap.size w X → Calls Tryz.prog 20 #[.slice oo s.only.length oc] X fun e w' => e = .returned (.int .i64 (S.wrongE s.only)) ∧ Below X.heap.size X w') := fun X hX => wrong_any X _ _ (hO.below hX (Nat.le_refl _)) hfit
  obtain ⟨⟨o1, o2⟩, HO⟩ : ∃ o, Hid (Cn.wrongF s = o) := ⟨_, rfl⟩
  rw [HO.out]
  clear hO hP
  have h2 := Cn.two_new w (.cells #[.bool s.has, .slice oo s.only.length oc, .slice po s.passes.length pc] 25) (.cells #[.int .i64 0, .int .i64 0] 29)
  have HX2 : Hid (((w.alloc (.cells #[.bool s.has, .slice oo s.only.length oc, .slice po s.passes.length pc] 25)).alloc (.cells #[.int .i64 0, .int .i64 0] 29)).heap[w.heap.size]? = some (.cells #[.bool s.has, .slice oo s.only.length oc, .slice po s.passes.length pc] 25) ∧ ((w.alloc (.cells #[.bool s.has, .slice oo s.only.length oc, .slice po s.passes.length pc] 25)).alloc (.cells #[.int .i64 0, .int .i64 0] 29)).heap[w.heap.size + 1]? = some (.cells #[.int .i64 0, .int .i64 0] 29) ∧ Below w.heap.size w ((w.alloc (.cells #[.bool s.has, .slice oo s.only.length oc, .slice po s.passes.length pc] 25)).alloc (.cells #[.int .i64 0, .int .i64 0] 29))) := h2
  clear h2
  cases hh : s.has with
  | false =>
    have HS0 : Hid (¬ (s.has = true ∧ ¬ S.wrongE s.only = 0)) := fun h => by
      have := h.1
      rw [hh] at this
      cases this
    rw [hh] at HX2
    have HX : Hid (_ ∧ _ ∧ _) := HX2.out
    clear HX2 HSw
    go_enter Tryz.func6, Tryz.ntmps6
    by_cases hbig : 60 < s.passes.length
    · have hw : Cn.wrongF s = (5, 0) := by unfold Cn.wrongF; rw [if_neg HS0.out, if_pos hbig]
      rw [HO.out] at hw
      cases hw
      have hbi : (60 : Int) < (s.passes.length : Int) := by omega
      go_wp2
      refine bodyPost_ret (v := .agg #[.int .i64 5, .int .i64 0]) (by simp [results, Tryz.results6, go_sem, *]) rfl ?_
      exact ⟨rfl, (Cn.two_new w _ _).2.2⟩
    · have hw : Cn.firstP 0 s.passes = (o1, o2) := by rw [← HO.out]; unfold Cn.wrongF; rw [if_neg HS0.out, if_neg hbig]
      have HF : Hid (Cn.firstP 0 s.passes = (o1, o2)) := hw
      have hbi : ¬ (60 : Int) < (s.passes.length : Int) := by omega
      clear hw
      go_wp2
      go_loopw [24] (fun i wr => ∃ k : Nat, k ≤ s.passes.length ∧ i = .int .i64 k ∧ Hid (Cn.firstP k (s.passes.drop k) = (o1, o2)) ∧ Hid (Below w.heap.size w wr) ∧ Hid (wr.heap[w.heap.size + 1]? = some (.cells #[.int .i64 0, .int .i64 0] 29))) (fun i _ => s.passes.length - (intOf i).toNat)
      case atStart => exact ⟨0, Nat.zero_le _, rfl, HF, HX.out.2.2, HX.out.2.1⟩
      case round =>
        obtain ⟨k, hk, rfl, HE, HB, HY⟩ := hrel
        by_cases hlt : k < s.passes.length
        · obtain ⟨p, hp⟩ : ∃ x, s.passes[k]? = some x := ⟨s.passes[k], by simp [hlt]⟩
          obtain ⟨ao', cap', e', _, hcs⟩ := HP.out.below HB.out
          cases e'
          obtain ⟨b, off, rfl, hcell⟩ := hcs (by intro h; rw [h] at hlt; simp at hlt)
          obtain ⟨c0, hn, ro, rc, c1, hr⟩ := hcell k p hp
          have HE2 : Hid (Cn.firstP k (s.passes.drop k) = if Cn.passE p = 0 then Cn.firstP (k + 1) (s.passes.drop (k + 1)) else (Cn.passE p, (k : Int))) := Cn.firstP_drop hp
          have hsz := HB.out.size
          have HW : Hid (∀ o, Calls Tryz.prog 21 #[.agg #[.string p.name, .slice ro p.rules.length rc]] (wr.alloc o) fun e w' => e = .returned (.int .i64 (Cn.passE p)) ∧ Below (wr.alloc o).heap.size (wr.alloc o) w') := fun o => wrongPass_any _ p ro rc (hr.below ((Below.refl _ wr).alloc (Nat.le_refl _) o))
          obtain ⟨z, HZ⟩ : ∃ z, Hid (Cn.passE p = z) := ⟨_, rfl⟩
          rw [HZ.out] at HW HE2
          clear hp hcell hcs hr
          go_wp2_with fail
          refine (HW.out _).mono ?_
          rintro e w1 ⟨rfl, b1⟩
          obtain ⟨_, B1, hl1⟩ := K.one_box b1
          have hY1 : w1.heap[w.heap.size + 1]? = some (.cells #[.int .i64 0, .int .i64 0] 29) := K.blk_below HY.out B1
          have HB1 : Hid (Below w.heap.size w w1) := HB.out.trans (B1.mono hsz)
          have HY1 : Hid (w1.heap[w.heap.size + 1]? = some (.cells #[.int .i64 0, .int .i64 0] 29)) := hY1
          obtain ⟨x0, x1, f0, f1⟩ := K.box2 hY1
          clear b1 B1 hY1
          by_cases hz : z = 0
          · subst hz
            go_wp2
            go_roundw
            case rel => exact ⟨k + 1, by omega, by go_num, by show _ = _; rw [← HE.out, HE2.out]; simp, HB1, HY1⟩
            case measure => simp [intOf]; omega
          · go_wp2
            refine bodyPost_ret (v := .agg #[.int .i64 z, .int .i64 k]) (by simp [results, Tryz.results6, go_sem, *]) rfl ?_
            have h := HE2.out
            rw [HE.out, if_neg hz] at h
            cases h
            exact ⟨rfl, ((HB1.out).setCell (p := ⟨w.heap.size + 1, 0, none⟩) (by simp) _).setCell (p := ⟨w.heap.size + 1, 1, none⟩) (by simp) _⟩
        · obtain ⟨x0, x1, f0, f1⟩ := K.box2 HY.out
          have h := HE.out
          rw [List.drop_eq_nil_of_le (by omega)] at h
          cases h
          go_wp2
          refine bodyPost_ret (v := .agg #[.int .i64 0, .int .i64 0]) (by simp [results, Tryz.results6, go_sem, *]) rfl ?_
          exact ⟨rfl, ((HB.out).setCell (p := ⟨w.heap.size + 1, 0, none⟩) (by simp) _).setCell (p := ⟨w.heap.size + 1, 1, none⟩) (by simp) _⟩
  | true =>
    rw [hh] at HX2
    have hSw := HSw.out _ HX2.out.2.2
    obtain ⟨z, HZ⟩ : ∃ z, Hid (S.wrongE s.only = z) := ⟨_, rfl⟩
    rw [HZ.out] at hSw
    go_enter Tryz.func6, Tryz.ntmps6
    go_wp2_with fail
    refine hSw.mono ?_
    rintro e w1 ⟨rfl, b1⟩
    obtain ⟨g1, g2, g3⟩ := HX2.out
    have HX : Hid (w1.heap[w.heap.size]? = some (.cells #[.bool true, .slice oo s.only.length oc, .slice po s.passes.length pc] 25) ∧ w1.heap[w.heap.size + 1]? = some (.cells #[.int .i64 0, .int .i64 0] 29) ∧ Below w.heap.size w w1) := ⟨K.blk_below g1 b1, K.blk_below g2 b1, g3.trans (b1.mono g3.size)⟩
    clear g1 g2 g3 b1 hSw HX2 HSw
    by_cases hz : z = 0
    · subst hz
      have HS0 : Hid (¬ (s.has = true ∧ ¬ S.wrongE s.only = 0)) := fun h => h.2 HZ.out
      obtain ⟨kb, kf, kB⟩ := HX.out
      have kp : w1.cell? ⟨w.heap.size, 2, none⟩ = some (.slice po s.passes.length pc) := K.at_box kb rfl
      obtain ⟨y0, y1, f0, f1⟩ := K.box2 kf
      clear kb kf kB
      by_cases hbig : 60 < s.passes.length
      · have hw : Cn.wrongF s = (5, 0) := by unfold Cn.wrongF; rw [if_neg HS0.out, if_pos hbig]
        rw [HO.out] at hw
        cases hw
        have hbi : (60 : Int) < (s.passes.length : Int) := by omega
        go_wp2
        refine bodyPost_ret (v := .agg #[.int .i64 5, .int .i64 0]) (by simp [results, Tryz.results6, go_sem, *]) rfl ?_
        exact ⟨rfl, ((HX.out.2.2).setCell (p := ⟨w.heap.size + 1, 0, none⟩) (by simp) _).setCell (p := ⟨w.heap.size + 1, 1, none⟩) (by simp) _⟩
      · have hw : Cn.firstP 0 s.passes = (o1, o2) := by rw [← HO.out]; unfold Cn.wrongF; rw [if_neg HS0.out, if_neg hbig]
        have HF : Hid (Cn.firstP 0 s.passes = (o1, o2)) := hw
        have hbi : ¬ (60 : Int) < (s.passes.length : Int) := by omega
        clear hw y0 y1 f0 f1
        go_wp2
        go_loopw [24] (fun i wr => ∃ k : Nat, k ≤ s.passes.length ∧ i = .int .i64 k ∧ Hid (Cn.firstP k (s.passes.drop k) = (o1, o2)) ∧ Hid (Below w.heap.size w wr) ∧ Hid (wr.heap[w.heap.size + 1]? = some (.cells #[.int .i64 0, .int .i64 0] 29))) (fun i _ => s.passes.length - (intOf i).toNat)
        case atStart => exact ⟨0, Nat.zero_le _, rfl, HF, HX.out.2.2, HX.out.2.1⟩
        case round =>
          obtain ⟨k, hk, rfl, HE, HB, HY⟩ := hrel
          by_cases hlt : k < s.passes.length
          · obtain ⟨p, hp⟩ : ∃ x, s.passes[k]? = some x := ⟨s.passes[k], by simp [hlt]⟩
            obtain ⟨ao', cap', e', _, hcs⟩ := HP.out.below HB.out
            cases e'
            obtain ⟨b, off, rfl, hcell⟩ := hcs (by intro h; rw [h] at hlt; simp at hlt)
            obtain ⟨c0, hn, ro, rc, c1, hr⟩ := hcell k p hp
            have HE2 : Hid (Cn.firstP k (s.passes.drop k) = if Cn.passE p = 0 then Cn.firstP (k + 1) (s.passes.drop (k + 1)) else (Cn.passE p, (k : Int))) := Cn.firstP_drop hp
            have hsz := HB.out.size
            have HW : Hid (∀ o, Calls Tryz.prog 21 #[.agg #[.string p.name, .slice ro p.rules.length rc]] (wr.alloc o) fun e w' => e = .returned (.int .i64 (Cn.passE p)) ∧ Below (wr.alloc o).heap.size (wr.alloc o) w') := fun o => wrongPass_any _ p ro rc (hr.below ((Below.refl _ wr).alloc (Nat.le_refl _) o))
            obtain ⟨z, HZ⟩ : ∃ z, Hid (Cn.passE p = z) := ⟨_, rfl⟩
            rw [HZ.out] at HW HE2
            clear hp hcell hcs hr
            go_wp2_with fail
            refine (HW.out _).mono ?_
            rintro e w1 ⟨rfl, b1⟩
            obtain ⟨_, B1, hl1⟩ := K.one_box b1
            have hY1 : w1.heap[w.heap.size + 1]? = some (.cells #[.int .i64 0, .int .i64 0] 29) := K.blk_below HY.out B1
            have HB1 : Hid (Below w.heap.size w w1) := HB.out.trans (B1.mono hsz)
            have HY1 : Hid (w1.heap[w.heap.size + 1]? = some (.cells #[.int .i64 0, .int .i64 0] 29)) := hY1
            obtain ⟨x0, x1, f0, f1⟩ := K.box2 hY1
            clear b1 B1 hY1
            by_cases hz : z = 0
            · subst hz
              go_wp2
              go_roundw
              case rel => exact ⟨k + 1, by omega, by go_num, by show _ = _; rw [← HE.out, HE2.out]; simp, HB1, HY1⟩
              case measure => simp [intOf]; omega
            · go_wp2
              refine bodyPost_ret (v := .agg #[.int .i64 z, .int .i64 k]) (by simp [results, Tryz.results6, go_sem, *]) rfl ?_
              have h := HE2.out
              rw [HE.out, if_neg hz] at h
              cases h
              exact ⟨rfl, ((HB1.out).setCell (p := ⟨w.heap.size + 1, 0, none⟩) (by simp) _).setCell (p := ⟨w.heap.size + 1, 1, none⟩) (by simp) _⟩
          · obtain ⟨x0, x1, f0, f1⟩ := K.box2 HY.out
            have h := HE.out
            rw [List.drop_eq_nil_of_le (by omega)] at h
            cases h
            go_wp2
            refine bodyPost_ret (v := .agg #[.int .i64 0, .int .i64 0]) (by simp [results, Tryz.results6, go_sem, *]) rfl ?_
            exact ⟨rfl, ((HB.out).setCell (p := ⟨w.heap.size + 1, 0, none⟩) (by simp) _).setCell (p := ⟨w.heap.size + 1, 1, none⟩) (by simp) _⟩
    · have hw : Cn.wrongF s = (z, 0) := by unfold Cn.wrongF; rw [if_pos ⟨hh, by rw [HZ.out]; exact hz⟩, HZ.out]
      rw [HO.out] at hw
      cases hw
      obtain ⟨y0, y1, f0, f1⟩ := K.box2 HX.out.2.1
      go_wp2
      refine bodyPost_ret (v := .agg #[.int .i64 o1, .int .i64 0]) (by simp [results, Tryz.results6, go_sem, *]) rfl ?_
      exact ⟨rfl, ((HX.out.2.2).setCell (p := ⟨w.heap.size + 1, 0, none⟩) (by simp) _).setCell (p := ⟨w.heap.size + 1, 1, none⟩) (by simp) _⟩

end Go.Proofs.YtjaodbaooogpnaaGreat
