/-
  Small letters: the document's answer.
-/
import Derived.Test.YtbclmmkphjknaaaCnLet
import Derived.Test.YtbclmmkphjknaaaOdRank
import Derived.Test.YtbclmmkphjknaaaOdApp
import Derived.Test.YtbclmmkphjknaaaNmChain
import Derived.Test.YtbclmmkphjknaaaNmRefBare
namespace Go.Proofs.Ytbclmmkphjknaaa
open Go.RowKit
set_option maxRecDepth 20000
set_option linter.unusedSimpArgs false
set_option linter.unusedVariables false

set_option maxHeartbeats 2000000 in
theorem rlower_any (r : Int) (h1 : -2147483648 ≤ r) (h2 : r ≤ 2147483647) (w : World) :
    Calls Try.prog 39 #[.int .i32 r] w fun e w' => e = .returned (.int .i32 (Cn.low r)) ∧ w' = w := by
  obtain ⟨o, HO⟩ : ∃ o, Hid (Cn.low r = o) := ⟨_, rfl⟩
  rw [show Cn.low r = o from HO.out]
  go_enter Try.func39, Try.ntmps39
  go_wp2
  all_goals go_ret
  all_goals (refine ⟨L.ret_int ?_, rfl⟩; rw [← HO.out])
  all_goals (unfold Cn.low Cn.lessF; (try simp_all); (try omega))
  all_goals (try (repeat' split))
  all_goals omega
end Go.Proofs.Ytbclmmkphjknaaa

/-
  A text's rows: order.Key.
-/
namespace Go.Proofs.Ytbclmmkphjknaaa
open Go.RowKit
set_option maxRecDepth 20000
set_option linter.unusedSimpArgs false
set_option linter.unusedVariables false

set_option maxHeartbeats 8000000 in
theorem odKey_any (w : World) (v : Value) (l : List Int) (R : L.Rd w v .i32 l) (hl : l.length ≤ 140737488355328) :
    Calls Try.prog 16 #[v] w fun e w' => ∃ a b c, e = .returned (.tuple #[a, b, c, .int .i64 (Od.keyF l).2]) ∧ Od.Tri w' w.heap.size a b c (Od.keyF l).1 ∧ Below w.heap.size w w' := by
  have HT := nmApart_any w v l R hl
  obtain ⟨q, hq⟩ : ∃ q, q = Od.keyF l := ⟨_, rfl⟩
  have HQ : Hid (q = Od.keyF l) := hq
  rw [← hq]
  obtain ⟨ao, cap, rfl, _, _⟩ := R
  clear hq
  obtain ⟨q1, q2⟩ := q
  have hn := Nm.apart_len l
  have hbd := Nm.apart_bd l
  unfold Od.keyF at HQ
  obtain ⟨⟨t, te⟩, ht⟩ : ∃ p, p = Nm.apartF l := ⟨_, rfl⟩
  rw [← ht] at HT HQ hn hbd
  simp only at HT HQ hn hbd
  clear ht
  have HCl : Hid (∀ r X, Calls Try.prog 7 #[.int .i32 r] X fun e w' => e = .returned (.int .i64 (Nm.cls r)) ∧ w' = X) := fun r X => nmClass_any r X
  have HLw : Hid (∀ r X, 0 ≤ r ∧ r ≤ 1114111 → Calls Try.prog 37 #[.int .i32 r] X fun e w' => e = .returned (.int .i32 (Cn.low r)) ∧ w' = X) := fun r X h => cnLower_any r (by omega) (by omega) X
  have HOn : Hid (∀ b X, Calls Try.prog 38 #[.bool b] X fun e w' => e = .returned (.int .i64 (if b = true then 1 else 0)) ∧ w' = X) := fun b X => odOne_any b X
  go_enter Try.func16, Try.ntmps16
  go_wp2_with fail
  refine HT.mono ?_
  clear HT
  rintro e w1 ⟨vt, rfl, own1, b1⟩
  obtain ⟨xo, xc, rfl, hxc, hxm⟩ := K.own_slice own1
  have HB1 : Hid (Below w.heap.size w w1) := b1
  by_cases he : te = 0
  · have hQ : (q1, q2) = (Od.keyL t, 0) := by rw [HQ.out, if_neg (by simp [he])]
    have h1 := (Prod.mk.inj hQ).1
    obtain rfl := (Prod.mk.inj hQ).2
    subst he
    have HQ1 : Hid (q1 = Od.keyL t) := h1
    have HS1 : Hid (L.Rd w1 (.slice xo t.length xc) .i32 t) := K.rd_owns own1
    have HBd : Hid (∀ r ∈ t, 0 ≤ r ∧ r ≤ 1114111) := hbd
    clear HQ hQ own1 h1 hbd b1
    go_wp2
    go_loopw [2, 3, 4, 20] (fun a b c vi wr => ∃ (va vb vc : Value) (j : Nat) (k : Od.K3), a = va ∧ b = vb ∧ c = vc ∧ vi = .int .i64 j ∧ j ≤ t.length ∧ Hid ((t.take j).foldl Od.kstep ([], [], []) = k) ∧ Hid (Od.Tri wr w1.heap.size va vb vc k ∧ Below w1.heap.size w1 wr)) (fun _ _ _ vi _ => t.length - (intOf vi).toNat)
    case atStart => exact ⟨_, _, _, 0, ([], [], []), rfl, rfl, rfl, rfl, Nat.zero_le _, rfl, Od.Tri.start _ _, Below.refl _ _⟩
    case round =>
      obtain ⟨va, vb, vc, j, k, ha, hb, hc, rfl, hj, HF, HO⟩ := hrel
      obtain rfl := ha.symm
      obtain rfl := hb.symm
      obtain rfl := hc.symm
      clear ha hb hc
      by_cases hlt : j < t.length
      · obtain ⟨r, hr⟩ : ∃ r, t[j]? = some r := ⟨t[j], by simp [hlt]⟩
        obtain ⟨_, _, e', _, hc⟩ := HS1.out
        obtain ⟨rfl, -, rfl⟩ := Value.slice.inj e'
        obtain ⟨b, off, rfl, hcell⟩ := hc (by intro h; subst h; simp at hlt)
        have c0 := hcell j r hr
        rw [← HO.out.2.cell (p := ⟨b, off + j, none⟩) (L.block_lt c0)] at c0
        have hC := HCl.out r
        have hL := HLw.out r
        have hrb := HBd.out r (List.mem_of_getElem? hr)
        have hcp := Nm.cls_pos r
        have hln := Od.kfold_len (t.take j) ([], [], [])
        rw [HF.out, List.length_take] at hln
        simp only [List.length_nil] at hln
        have hst : (t.take (j + 1)).foldl Od.kstep ([], [], []) = Od.kstep k r := by rw [List.take_add_one, hr, List.foldl_append, HF.out]; rfl
        have hws := HO.out.2.size
        unfold Od.kstep at hst
        clear hc hcell e' hr HF
        by_cases hM : 0 < Nm.cls r
        · rw [if_pos hM] at hst
          obtain ⟨v3, w3, run3, tr3, be3, sz3⟩ := HO.out.1.push2 hws (by omega) r
          have HN : Hid (Od.Tri w3 w1.heap.size _ v3 _ (k.1, k.2.1 ++ [r], k.2.2) ∧ Below w1.heap.size w1 w3) := ⟨tr3, HO.out.2.trans be3⟩
          have HS : Hid ((t.take (j + 1)).foldl Od.kstep ([], [], []) = (k.1, k.2.1 ++ [r], k.2.2)) := hst
          clear tr3 be3 sz3 hst HO hL
          go_wp2_with fail
          refine (hC _).mono ?_
          rintro e w4 ⟨rfl, h4⟩
          obtain rfl := h4.symm
          clear h4
          go_wp2_with (at_builtin; first | refine Lib.wpList_append_run _ rfl _ _ _ _ rfl _ _ rfl rfl _ _ (run3 _) ?_)
          go_roundw
          case rel => exact ⟨_, _, _, j + 1, _, rfl, rfl, rfl, by go_num, by omega, HS, HN⟩
          case measure => simp [intOf]; omega
        · rw [if_neg hM] at hst
          have hz : Nm.cls r = 0 := by omega
          rw [hz] at hC
          obtain ⟨v3, w3, run3, tr3, be3, sz3⟩ := HO.out.1.push1 hws (by omega) (Cn.low r)
          obtain ⟨v4, w4, run4, tr4, be4, sz4⟩ := tr3.push2 (Nat.le_trans hws sz3) (by show k.2.1.length ≤ _; omega) 0
          obtain ⟨v5, w5, run5, tr5, be5, sz5⟩ := tr4.push3 (Nat.le_trans (Nat.le_trans hws sz3) sz4) (by show k.2.2.length ≤ _; omega) (Od.g01 r)
          have HN : Hid (Od.Tri w5 w1.heap.size v3 v4 v5 (k.1 ++ [Cn.low r], k.2.1 ++ [0], k.2.2 ++ [Od.g01 r]) ∧ Below w1.heap.size w1 w5) := ⟨tr5, HO.out.2.trans (be3.trans (be4.trans be5))⟩
          have HS : Hid ((t.take (j + 1)).foldl Od.kstep ([], [], []) = (k.1 ++ [Cn.low r], k.2.1 ++ [0], k.2.2 ++ [Od.g01 r])) := hst
          have hL1 := hL wr hrb
          obtain ⟨s, hs⟩ : ∃ s, s = Cn.low r := ⟨_, rfl⟩
          have hs3 : 0 ≤ s ∧ s ≤ 1200000 := by
            rw [hs]; unfold Cn.low
            split
            · omega
            · split <;> omega
          obtain ⟨g, hg⟩ : ∃ g, g = Od.g01 r := ⟨_, rfl⟩
          rw [← hs] at run3 HN HS hL1
          rw [← hg] at run5 HN HS
          unfold Od.g01 at hg
          rw [← hs] at hg
          have hO1 := HOn.out true w4
          have hO0 := HOn.out false w4
          rw [if_pos rfl] at hO1
          rw [if_neg (by simp)] at hO0
          clear tr3 be3 sz3 hst HO hL tr4 be4 sz4 tr5 be5 sz5 hs hM
          by_cases hsr : s = r
          · rw [if_pos hsr] at hg
            subst hsr hg
            clear hO1
            go_wp2_with fail
            refine (hC _).mono ?_
            rintro e w6 ⟨rfl, h4⟩
            obtain rfl := h4.symm
            clear h4 hC
            go_wp2_with fail
            refine hL1.mono ?_
            rintro e w6 ⟨rfl, h4⟩
            obtain rfl := h4.symm
            clear h4 hL1
            go_wp2_with (at_builtin; first | refine Lib.wpList_append_run _ rfl _ _ _ _ rfl _ _ rfl rfl _ _ (run3 _) ?_ | refine Lib.wpList_append_run _ rfl _ _ _ _ rfl _ _ rfl rfl _ _ (run4 _) ?_)
            refine hO0.mono ?_
            rintro e w6 ⟨rfl, h4⟩
            obtain rfl := h4.symm
            clear h4 hO0
            go_wp2_with (at_builtin; first | refine Lib.wpList_append_run _ rfl _ _ _ _ rfl _ _ rfl rfl _ _ (run5 _) ?_)
            go_roundw
            case rel => exact ⟨_, _, _, j + 1, _, rfl, rfl, rfl, by go_num, by omega, HS, HN⟩
            case measure => simp [intOf]; omega
          · rw [if_neg hsr] at hg
            have hsb : (s == r) = false := by simp [hsr]
            subst hg
            clear hO0
            go_wp2_with fail
            refine (hC _).mono ?_
            rintro e w6 ⟨rfl, h4⟩
            obtain rfl := h4.symm
            clear h4 hC
            go_wp2_with fail
            refine hL1.mono ?_
            rintro e w6 ⟨rfl, h4⟩
            obtain rfl := h4.symm
            clear h4 hL1
            go_wp2_with (at_builtin; first | refine Lib.wpList_append_run _ rfl _ _ _ _ rfl _ _ rfl rfl _ _ (run3 _) ?_ | refine Lib.wpList_append_run _ rfl _ _ _ _ rfl _ _ rfl rfl _ _ (run4 _) ?_)
            rw [show (s != r) = true by simp [hsr]]
            refine hO1.mono ?_
            rintro e w6 ⟨rfl, h4⟩
            obtain rfl := h4.symm
            clear h4 hO1
            go_wp2_with (at_builtin; first | refine Lib.wpList_append_run _ rfl _ _ _ _ rfl _ _ rfl rfl _ _ (run5 _) ?_)
            go_roundw
            case rel => exact ⟨_, _, _, j + 1, _, rfl, rfl, rfl, by go_num, by omega, HS, HN⟩
            case measure => simp [intOf]; omega
      · have e : j = t.length := by omega
        have hk : q1 = k := by
          have := HF.out
          rw [e, List.take_length] at this
          rw [HQ1.out]; exact this
        subst hk
        have HE : Hid (Od.Tri wr w.heap.size _ _ _ q1 ∧ Below w.heap.size w wr) := ⟨HO.out.1.base HB1.out.size, HB1.out.trans (HO.out.2.mono HB1.out.size)⟩
        clear HO HF HQ1
        go_wp2
        refine bodyPost_ret (v := .tuple #[va, vb, vc, .int .i64 0]) (by simp [results, Try.results16, go_sem, *]) rfl ?_
        exact ⟨_, _, _, rfl, HE.out⟩
  · have hQ : (q1, q2) = (([], [], []), te) := by rw [HQ.out, if_pos he]
    obtain ⟨rfl, rfl⟩ := Prod.mk.inj hQ
    clear hQ
    clear HQ own1 b1 hbd
    go_wp2
    refine bodyPost_ret (v := .tuple #[.slice none 0 0, .slice none 0 0, .slice none 0 0, .int .i64 q2]) (by simp [results, Try.results16, go_sem, *]) rfl ?_
    exact ⟨_, _, _, rfl, Od.Tri.start _ _, HB1.out⟩

end Go.Proofs.Ytbclmmkphjknaaa
