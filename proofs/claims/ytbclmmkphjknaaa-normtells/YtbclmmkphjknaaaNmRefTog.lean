/-
  A text put together: the document's answer.
-/
import Derived.Test.YtbclmmkphjknaaaNmRefBare
import Derived.Test.YtbclmmkphjknaaaNmJoinP
import Derived.Test.YtbclmmkphjknaaaKStep
namespace Go.Proofs.Ytbclmmkphjknaaa
open Go.RowKit
set_option maxRecDepth 20000
set_option linter.unusedSimpArgs false
set_option linter.unusedVariables false

namespace Nm
/-- a row of one's own whose block stays reads as it did -/
theorem rd_kept {w w' : World} {F : Nat} {v : Value} {l : List Int} (own : w.ownsRow F 21 1 v l.length (K.ints l)) (hk : ∀ b, v.ownBlock = some b → w'.heap[b]? = w.heap[b]?) : L.Rd w' v .i32 l := by
  obtain ⟨ao, cap, rfl, hz, hc⟩ := K.rd_owns own
  refine ⟨ao, cap, rfl, hz, fun hne => ?_⟩
  obtain ⟨b, off, rfl, hcell⟩ := hc hne
  exact ⟨b, off, rfl, fun j z hj => (cell_eq (hk b rfl)).trans (hcell j z hj)⟩
theorem lead_mark {R : List Int} {k : Nat} (h : k < lead R) : ∃ m, R[k]? = some m ∧ 0 < cls m := by
  have hl := lead_le R
  refine ⟨R[k]'(by omega), by simp, ?_⟩
  have h1 : R[k]'(by omega) ∈ R.take (lead R) := by
    rw [List.mem_take_iff_getElem]
    exact ⟨k, by omega, rfl⟩
  rw [lead_take] at h1
  exact isM_pos.1 (take_marks R _ h1)
end Nm

set_option maxHeartbeats 8000000 in
theorem nmRefTog_any (w : World) (v : Value) (l : List Int) (R : L.Rd w v .i32 l) (hl : l.length ≤ 140737488355328) :
    Calls Try.prog 13 #[v] w fun e w' => ∃ v', e = .returned (.tuple #[v', .int .i64 (Nm.togF l).2]) ∧ w'.ownsRow w.heap.size 21 1 v' (Nm.togF l).1.length (K.ints (Nm.togF l).1) ∧ Below w.heap.size w w' := by
  have HT := nmRefApart_any w v l R hl
  obtain ⟨q, hq⟩ : ∃ q, q = Nm.togF l := ⟨_, rfl⟩
  have HQ : Hid (q = Nm.togF l) := hq
  rw [← hq]
  obtain ⟨ao, cap, rfl, _, _⟩ := R
  clear hq
  obtain ⟨q1, q2⟩ := q
  have hn := Nm.apart_len l
  have hbd := Nm.apart_bd l
  unfold Nm.togF at HQ
  obtain ⟨⟨t, te⟩, ht⟩ : ∃ p, p = Nm.apartF l := ⟨_, rfl⟩
  rw [← ht] at HT HQ hn hbd
  simp only at HT HQ hn hbd
  clear ht
  have HCl : Hid (∀ r X, Calls Try.prog 8 #[.int .i32 r] X fun e w' => e = .returned (.int .i64 (Nm.cls r)) ∧ w' = X) := fun r X => nmRefClass_any r X
  have HJd : Hid (∀ X a b, Calls Try.prog 34 #[.int .i32 a, .int .i32 b] X fun e w' => e = .returned (.int .i32 (Nm.jw a b)) ∧ Below X.heap.size X w') := fun X a b => nmJoined_any X a b
  go_enter Try.func13, Try.ntmps13
  go_wp2_with fail
  refine HT.mono ?_
  clear HT
  rintro e w1 ⟨vt, rfl, own1, b1⟩
  obtain ⟨xo, xc, rfl, hxc, hxm⟩ := K.own_slice own1
  have HB1 : Hid (Below w.heap.size w w1) := b1
  by_cases he : te = 0
  · have hQ : (q1, q2) = (Nm.tog t, 0) := by rw [HQ.out, if_neg (by simp [he])]
    have h1 := (Prod.mk.inj hQ).1
    obtain rfl := (Prod.mk.inj hQ).2
    subst he
    have HQ1 : Hid (q1 = Nm.tog t) := h1
    have HS1 : Hid (L.Rd w1 (.slice xo t.length xc) .i32 t) := K.rd_owns own1
    have HBd : Hid (∀ r ∈ t, 0 ≤ r ∧ r ≤ 1114111) := hbd
    clear HQ hQ own1 h1 hbd b1
    go_wp2
    go_loopw [6, 7] (fun vo vi wr => ∃ (i : Nat) (acc : List Int), vi = .int .i64 i ∧ i ≤ t.length ∧ acc.length ≤ i ∧ Hid (acc ++ Nm.tog (t.drop i) = Nm.tog t) ∧ Hid (wr.ownsRow w1.heap.size 21 1 vo acc.length (K.ints acc) ∧ Below w1.heap.size w1 wr)) (fun _ vi _ => t.length - (intOf vi).toNat)
    case atStart => exact ⟨0, [], rfl, Nat.zero_le _, Nat.zero_le _, rfl, World.ownsRow_nil _ _ _ _, Below.refl _ _⟩
    case round =>
      obtain ⟨i, acc, rfl, hi, hai, HA, HO⟩ := hrel
      by_cases hlt : i < t.length
      · obtain ⟨h, hh⟩ : ∃ h, t[i]? = some h := ⟨t[i], by simp [hlt]⟩
        obtain ⟨_, _, e', _, hc⟩ := HS1.out
        obtain ⟨rfl, -, rfl⟩ := Value.slice.inj e'
        obtain ⟨b, off, rfl, hcell⟩ := hc (by intro h; subst h; simp at hlt)
        have HCe : Hid (∀ W, Below w1.heap.size w1 W → ∀ (j : Nat) z, t[j]? = some z → W.cell? ⟨b, off + j, none⟩ = some (.int .i32 z)) := fun W hW j z hj => (hW.cell (p := ⟨b, off + j, none⟩) (L.block_lt (hcell j z hj))).trans (hcell j z hj)
        have c0 := HCe.out wr HO.out.2 i h hh
        have hdr : t.drop i = h :: t.drop (i + 1) := by
          rw [List.drop_eq_getElem_cons hlt]
          congr 1
          rw [List.getElem?_eq_getElem hlt] at hh
          exact Option.some.inj hh
        have hC := HCl.out h
        have hhb := HBd.out h (List.mem_of_getElem? hh)
        have hcp := Nm.cls_pos h
        clear hc hcell e'
        by_cases hM : 0 < Nm.cls h
        · obtain ⟨v3, w3, run3, own3, kp3, sz3, be3, nw3⟩ := Nm.app1x (w := wr) (B := w1.heap.size) (o := acc) HO.out.1 HO.out.2.size (by omega) h
          have HN : Hid (w3.ownsRow w1.heap.size 21 1 v3 (acc ++ [h]).length (K.ints (acc ++ [h])) ∧ Below w1.heap.size w1 w3) := ⟨own3, HO.out.2.trans be3⟩
          have HA2 : Hid ((acc ++ [h]) ++ Nm.tog (t.drop (i + 1)) = Nm.tog t) := by
            show _ = _
            rw [← HA.out, hdr, Nm.tog_mark _ (Nm.isM_pos.2 hM)]
            simp
          clear own3 kp3 sz3 be3 nw3 HO HA hdr hh
          go_wp2_with fail
          refine (hC _).mono ?_
          rintro e w4 ⟨rfl, rfl⟩
          go_wp2_with (at_builtin; first | refine Lib.wpList_append_run _ rfl _ _ _ _ rfl _ _ rfl rfl _ _ (run3 _) ?_)
          go_roundw
          case rel => exact ⟨i + 1, acc ++ [h], by go_num, by omega, by simp; omega, HA2, HN⟩
          case measure => simp [intOf]; omega
        · have hm0 : Nm.isM h = false := by
            cases hb : Nm.isM h with
            | false => rfl
            | true => exact absurd (Nm.isM_pos.1 hb) hM
          have hR1 : Hid (∀ (k : Nat), (t.drop (i + 1))[k]? = t[i + 1 + k]?) := fun k => by rw [List.getElem?_drop]
          have hRl : (t.drop (i + 1)).length = t.length - (i + 1) := List.length_drop
          have HA2 : Hid (acc ++ (Nm.jn h ((t.drop (i + 1)).take (Nm.lead (t.drop (i + 1)))) ++ Nm.tog ((t.drop (i + 1)).drop (Nm.lead (t.drop (i + 1))))) = Nm.tog t) := by
            show _ = _
            rw [← HA.out, hdr, Nm.tog_step _ hm0]
          obtain ⟨R1, hR⟩ : ∃ R1, R1 = t.drop (i + 1) := ⟨_, rfl⟩
          have HRe : Hid (R1 = t.drop (i + 1)) := hR
          rw [← hR] at hR1 hRl HA2
          have hll := Nm.lead_le R1
          obtain ⟨ld, hld⟩ : ∃ ld, ld = Nm.lead R1 := ⟨_, rfl⟩
          have HLm : Hid (∀ k, k < ld → ∃ m, R1[k]? = some m ∧ 0 < Nm.cls m) := fun k hk => Nm.lead_mark (by omega)
          have HLe : Hid (i + 1 + ld = t.length ∨ ∃ z, t[i + 1 + ld]? = some z ∧ Nm.cls z = 0) := by
            show _ ∨ _
            rcases Nm.lead_first R1 with h1 | ⟨z, R2, h1, h2⟩
            · have := congrArg List.length h1
              rw [List.length_drop, ← hld] at this
              simp at this
              exact .inl (by omega)
            · refine .inr ⟨z, ?_, ?_⟩
              · rw [← hR1.out, hld]
                have h3 : (R1.drop (Nm.lead R1))[0]? = some z := by rw [h1]; rfl
                rw [List.getElem?_drop] at h3
                exact h3
              · have h3 := Nm.cls_pos z
                by_cases h4 : 0 < Nm.cls z
                · rw [Nm.isM_pos.2 h4] at h2; cases h2
                · omega
          rw [← hld] at HA2 hll
          clear hld hdr hh HA hm0
          have hlt2 : i + 1 + ld ≤ t.length := by omega
          go_wp2_with fail
          refine (hC _).mono ?_
          rintro e w4 ⟨rfl, rfl⟩
          go_wp2
          go_loopw [7, 8, 9, 10] (fun vi vh vl vg wz => ∃ (k : Nat) (hd high : Int) (left : List Int), vi = .int .i64 ((i + 1 + k : Nat) : Int) ∧ k ≤ ld ∧ vh = .int .i32 hd ∧ vg = .int .i64 high ∧ Hid ((R1.take k).foldl Nm.js (h, [], 0) = (hd, left, high)) ∧ Hid (wz.ownsRow w4.heap.size 21 1 vl left.length (K.ints left) ∧ Below w4.heap.size w4 wz)) (fun vi _ _ _ _ => t.length - (intOf vi).toNat)
          case atStart => exact ⟨0, h, 0, [], by go_num, Nat.zero_le _, rfl, rfl, rfl, World.ownsRow_nil _ _ _ _, Below.refl _ _⟩
          case round =>
            obtain ⟨k, hd, high, left, rfl, hk, rfl, rfl, HF, HL⟩ := hrel
            have hbd := Nm.jf_bd (R1.take k) (h, [], 0) hhb
            have hln := Nm.jf_len (R1.take k) (h, [], 0)
            rw [HF.out] at hbd hln
            simp only [List.length_nil, Nat.zero_add, List.length_take] at hbd hln
            have hll4 : left.length ≤ 4000 := by omega
            have HBz : Hid (Below w1.heap.size w1 wr) := HO.out.2.trans (HL.out.2.mono HO.out.2.size)
            obtain ⟨i1, hi1⟩ : ∃ i1, i1 = i + 1 + k := ⟨_, rfl⟩
            have HI1 : Hid (i1 = i + 1 + k) := hi1
            rw [← hi1]
            by_cases hkl : k < ld
            · obtain ⟨m, hm, hmc⟩ := HLm.out k hkl
              have hmt : t[i1]? = some m := by rw [hi1, ← hR1.out]; exact hm
              have cm := HCe.out wr HBz.out i1 m hmt
              have hi1t : i1 < t.length := by omega
              have hCm := HCl.out m
              have hst : (R1.take (k + 1)).foldl Nm.js (h, [], 0) = Nm.js (hd, left, high) m := by rw [List.take_add_one, hm, List.foldl_append, HF.out]; rfl
              obtain ⟨x3, hx3⟩ : ∃ x3, x3 = Nm.jw hd m := ⟨_, rfl⟩
              have hJm := HJd.out wr hd m
              have hx3b := Nm.jw_bd hd m
              rw [← hx3] at hJm hx3b
              unfold Nm.js at hst
              simp only [← hx3] at hst
              have HMt : Hid (t[i1]? = some m) := hmt
              clear hx3 hm hmt HF hln hi1
              go_wp2_with fail
              refine (hCm _).mono ?_
              rintro e w5 ⟨rfl, rfl⟩
              go_wp2_with fail
              refine hJm.mono ?_
              clear hJm
              rintro e w6 ⟨rfl, b6⟩
              have HL6 : Hid (w6.ownsRow w4.heap.size 21 1 _ left.length (K.ints left) ∧ Below w4.heap.size w4 w6) := ⟨L.owns_below HL.out.1 b6 (Nat.le_refl _), HL.out.2.trans (b6.mono HL.out.2.size)⟩
              rw [← b6.cell (p := ⟨b, off + i1, none⟩) (L.block_lt cm)] at cm
              clear b6 HL HBz
              by_cases hx : 0 ≤ x3
              · by_cases hcl : high < Nm.cls m
                · rw [if_pos ⟨hx, hcl⟩] at hst
                  have HS2 : Hid ((R1.take (k + 1)).foldl Nm.js (h, [], 0) = (x3, left, high)) := hst
                  clear hst
                  go_wp2_with fail
                  refine (hCm _).mono ?_
                  rintro e w5 ⟨rfl, rfl⟩
                  go_wp2
                  go_roundw
                  case rel => exact ⟨k + 1, x3, high, left, by rw [HI1.out]; go_num, by omega, rfl, rfl, HS2, HL6⟩
                  case measure => simp [intOf]; omega
                · rw [if_neg (fun h => hcl h.2)] at hst
                  have HS2 : Hid ((R1.take (k + 1)).foldl Nm.js (h, [], 0) = (hd, left ++ [m], Nm.cls m)) := hst
                  clear hst
                  go_wp2_with fail
                  refine (hCm _).mono ?_
                  rintro e w5 ⟨rfl, rfl⟩
                  obtain ⟨v7, w7, run7, own7, kp7, sz7, be7, nw7⟩ := Nm.app1x HL6.out.1 HL6.out.2.size (by omega) m
                  have HL7 : Hid (w7.ownsRow w4.heap.size 21 1 v7 (left ++ [m]).length (K.ints (left ++ [m])) ∧ Below w4.heap.size w4 w7) := ⟨own7, HL6.out.2.trans be7⟩
                  have cm7 := HCe.out w7 (HO.out.2.trans (HL7.out.2.mono HO.out.2.size)) i1 m HMt.out
                  clear own7 kp7 sz7 be7 nw7 HL6
                  go_wp2_with (at_builtin; first | refine Lib.wpList_append_run _ rfl _ _ _ _ rfl _ _ rfl rfl _ _ (run7 _) ?_)
                  refine (hCm _).mono ?_
                  rintro e w5 ⟨rfl, rfl⟩
                  go_wp2
                  go_roundw
                  case rel => exact ⟨k + 1, hd, Nm.cls m, left ++ [m], by rw [HI1.out]; go_num, by omega, rfl, rfl, HS2, HL7⟩
                  case measure => simp [intOf]; omega
              · rw [if_neg (fun h => hx h.1)] at hst
                have HS2 : Hid ((R1.take (k + 1)).foldl Nm.js (h, [], 0) = (hd, left ++ [m], Nm.cls m)) := hst
                clear hst
                obtain ⟨v7, w7, run7, own7, kp7, sz7, be7, nw7⟩ := Nm.app1x HL6.out.1 HL6.out.2.size (by omega) m
                have HL7 : Hid (w7.ownsRow w4.heap.size 21 1 v7 (left ++ [m]).length (K.ints (left ++ [m])) ∧ Below w4.heap.size w4 w7) := ⟨own7, HL6.out.2.trans be7⟩
                have cm7 := HCe.out w7 (HO.out.2.trans (HL7.out.2.mono HO.out.2.size)) i1 m HMt.out
                clear own7 kp7 sz7 be7 nw7 HL6
                go_wp2_with (at_builtin; first | refine Lib.wpList_append_run _ rfl _ _ _ _ rfl _ _ rfl rfl _ _ (run7 _) ?_)
                refine (hCm _).mono ?_
                rintro e w5 ⟨rfl, rfl⟩
                go_wp2
                go_roundw
                case rel => exact ⟨k + 1, hd, Nm.cls m, left ++ [m], by rw [HI1.out]; go_num, by omega, rfl, rfl, HS2, HL7⟩
                case measure => simp [intOf]; omega
            · have e : k = ld := by omega
              subst e
              have HJn : Hid (Nm.jn h (R1.take k) = hd :: left) := by
                show _ = _
                unfold Nm.jn
                rw [HF.out]
              rw [HJn.out] at HA2
              have hal : acc.length ≤ 4000 := by omega
              have O1 := L.owns_below HO.out.1 HL.out.2 (Nat.le_refl _)
              have hsz := Nat.le_trans HO.out.2.size HL.out.2.size
              obtain ⟨v7, w7, run7, own7, kp7, sz7, be7, nw7⟩ := Nm.app1x O1 hsz (by omega) hd
              have hR7 := Nm.rd_kept HL.out.1 (w' := w7) fun b hb => kp7 b (HL.out.1.lt b hb).2 fun e => by
                have h1 := (HO.out.1.lt b e).2
                have h2 := (HL.out.1.lt b hb).1
                omega
              obtain ⟨v8, w8, run8, own8, gr8, nw8⟩ := K.app_rd w7 w1.heap.size v7 (acc ++ [hd]) own7 _ left hR7 (by simp; omega) (Nat.le_trans hsz sz7)
              have HN : Hid (w8.ownsRow w1.heap.size 21 1 v8 (acc ++ (hd :: left)).length (K.ints (acc ++ (hd :: left))) ∧ Below w1.heap.size w1 w8) := by
                have e : acc ++ (hd :: left) = acc ++ [hd] ++ left := by simp
                rw [e]
                exact ⟨own8, HBz.out.trans (be7.trans ((Below.refl _ w7).grown gr8 (Nat.le_trans hsz sz7) fun k hk => (own7.lt k hk).1))⟩
              have HA3 : Hid (acc ++ (hd :: left) ++ Nm.tog (t.drop i1) = Nm.tog t) := by
                show _ = _
                rw [← HA2.out, HRe.out, List.drop_drop, hi1, List.append_assoc]
              have hln2 : left.length ≤ k := by omega
              have hik : i < i1 := by omega
              have hi1t : i1 ≤ t.length := by omega
              have hlen : (acc ++ (hd :: left)).length ≤ i1 := by simp; omega
              have HLn : Hid ((acc ++ (hd :: left)).length ≤ i1) := hlen
              have hLe := HLe.out
              rw [← hi1] at hLe
              clear own7 kp7 be7 nw7 own8 gr8 nw8 hR7 HJn HA2 HF hln O1 hsz sz7 HLe HLm hlen hi1 hal
              rcases hLe with h1 | ⟨z, h1, h2⟩
              · clear HL HBz
                have h3 : ¬ i1 < t.length := by omega
                go_wp2_with (at_builtin; first | refine Lib.wpList_append_run _ rfl _ _ _ _ rfl _ _ rfl rfl _ _ (run7 _) ?_ | refine Lib.wpList_append_run _ rfl _ _ _ _ rfl _ _ rfl rfl _ _ (run8 _) ?_)
                go_roundw
                case rel => exact ⟨i1, acc ++ (hd :: left), by rw [h1], hi1t, HLn.out, HA3, HN⟩
                case measure => simp [intOf]; omega
              · have h3 : i1 < t.length := (List.getElem?_eq_some_iff.1 h1).1
                have cz := HCe.out wr HBz.out i1 z h1
                have hCz := HCl.out z
                rw [h2] at hCz
                clear HL HBz h1
                go_wp2_with fail
                refine (hCz _).mono ?_
                rintro e w5 ⟨rfl, rfl⟩
                go_wp2_with (at_builtin; first | refine Lib.wpList_append_run _ rfl _ _ _ _ rfl _ _ rfl rfl _ _ (run7 _) ?_ | refine Lib.wpList_append_run _ rfl _ _ _ _ rfl _ _ rfl rfl _ _ (run8 _) ?_)
                go_roundw
                case rel => exact ⟨i1, acc ++ (hd :: left), rfl, hi1t, HLn.out, HA3, HN⟩
                case measure => simp [intOf]; omega
      · have e : i = t.length := by omega
        have hqe : q1 = acc := by
          have := HA.out
          rw [e, List.drop_length, Nm.tog_nil, List.append_nil] at this
          rw [HQ1.out, this]
        subst hqe
        obtain ⟨oo, oc, rfl, hoc, _⟩ := K.own_slice HO.out.1
        have HF : Hid (wr.ownsRow w.heap.size 21 1 (.slice oo q1.length oc) q1.length (K.ints q1) ∧ Below w.heap.size w wr) := ⟨L.owns_base HO.out.1 HB1.out.size, HB1.out.trans (HO.out.2.mono HB1.out.size)⟩
        clear HO HA HQ1
        go_wp2
        refine bodyPost_ret (v := .tuple #[.slice oo q1.length oc, .int .i64 0]) (by simp [results, Try.results13, go_sem, *]) rfl ?_
        exact ⟨_, rfl, HF.out⟩
  · have hQ : (q1, q2) = ([], te) := by rw [HQ.out, if_pos he]
    obtain ⟨rfl, rfl⟩ := Prod.mk.inj hQ
    clear hQ
    clear HQ own1 b1 hbd
    go_wp2
    refine bodyPost_ret (v := .tuple #[.slice none 0 0, .int .i64 q2]) (by simp [results, Try.results13, go_sem, *]) rfl ?_
    exact ⟨_, rfl, World.ownsRow_nil _ _ _ _, HB1.out⟩

end Go.Proofs.Ytbclmmkphjknaaa
