/-
  Whether it is sure that rules undo others: the document's answer.
-/
import Derived.Test.YtkkocnkfdepoiaaPrTos
import Derived.Test.YtkkocnkfdepoiaaPrSure
import Derived.Test.YtkkocnkfdepoiaaSCntR
import Derived.Test.YtkkocnkfdepoiaaVStep
import Derived.BigQuiet
namespace Go.Proofs.Ytkkocnkfdepoiaa
open Go.RowKit Go.Shelf
set_option maxRecDepth 20000
set_option linter.unusedSimpArgs false
set_option linter.unusedVariables false

namespace Pr
/-- an append at a step of a drawn region, behind a guard -/
theorem step_runW {t : TypeId} {ops : Array Oper} {o : Oper} {a : Act} {w : World} {K : Act → World → Prop} {Q : Exit → Act → World → Prop} {E : Prop} (hw : Region.wanted o (yielded ops a.tmps) = true) (s x : Operand)
    (ho : o.op = .call { callee := .builtin .append, args := #[s, x], argTypes := #[t, t] }) (v vx v' : Value) (w' : World) (hs : a.eval s = v) (hx : a.eval x = vx)
    (hrun : ∀ ty, (Builtin.append_ #[t, t] ty #[v, vx]).run Try.prog w = .ok v' w') (h : K (a.put o.dst v') w') :
    if Region.wanted o (yielded ops a.tmps) = true then Oper.wp Try.prog o a w K Q else E := by
  rw [if_pos hw]
  unfold Oper.wp
  simp [execOp, ho, resolve, invoke, builtin, hs, hx, hrun, Result.andThen]
  exact h
end Pr

set_option maxHeartbeats 16000000 in
theorem rSure14_ok (w : World) (va vb : Value) (forth back : List K.Rule) (Ra : V.Rus w va forth) (Rb : V.Rus w vb back) (vs : Value) (s : List S.Sp) (Rs : S.Rd w vs s) (Fs : S.Fit s) (h1 : (K.rulesF forth).1 = 0) (h2 : (K.rulesF back).1 = 0) (h3 : S.wrongE s = 0) (h4 : ¬ 40 < S.total s) (hP1 : Pr.plainB forth = true) (hP2 : Pr.plainB back = true) :
    Calls Try.prog 7 #[va, vb, vs] w fun e w' => e = .returned (.tuple #[.bool (Pr.undoesB forth back (Pr.numbers s)), .int .i64 0]) ∧ Below w.heap.size w w' := by
  have hW1 := rWrong8_any w va forth Ra
  have HW2 : Hid (∀ X, Below w.heap.size w X → Calls Try.prog 16 #[vb] X fun e w' => e = .returned (.agg #[.int .i64 (K.rulesF back).1, .int .i64 (K.rulesF back).2]) ∧ Below X.heap.size X w') := fun X hX => rWrong8_any X vb back (Rb.below hX)
  have HC : Hid (∀ X, Below w.heap.size w X → Calls Try.prog 17 #[vs] X fun e w' => e = .returned (.tuple #[.int .i64 (cntF s), .int .i64 (S.wrongE s)]) ∧ Below X.heap.size X w') := fun X hX => refcount_any X vs s (Rs.below hX (Nat.le_refl _)) Fs
  obtain ⟨hla, hEa, _⟩ := K.rulesF_zero h1
  obtain ⟨hlb, hEb, _⟩ := K.rulesF_zero h2
  obtain ⟨hsl, N⟩ := S.wrongE_zero.1 h3
  have HPl1 : Hid (∀ X, Below w.heap.size w X → Calls Try.prog 18 #[va] X fun e w' => e = .returned (.bool true) ∧ Below X.heap.size X w') := fun X hX => by have := rPlain14_any X va forth (Ra.below hX); rw [hP1] at this; exact this
  have HPl2 : Hid (∀ X, Below w.heap.size w X → Calls Try.prog 18 #[vb] X fun e w' => e = .returned (.bool true) ∧ Below X.heap.size X w') := fun X hX => by have := rPlain14_any X vb back (Rb.below hX); rw [hP2] at this; exact this
  have HAl : Hid (∀ X, Below w.heap.size w X → Calls Try.prog 19 #[vs] X fun e w' => ∃ v', e = .returned v' ∧ (L.Rd w' v' .i32 (Pr.numbers s) ∧ ∀ F, Pr.Apart F w' v' (Pr.numbers s)) ∧ Below X.heap.size X w') := fun X hX => rAll14_any X vs s (Rs.below hX (Nat.le_refl _)) N hsl (by omega)
  have hdl : (Pr.numbers s).length ≤ 40 := by
    have := Pr.numbers_len (s := s) fun x hx => (N.mem hx).2.1
    omega
  generalize Pr.numbers s = dom at *
  have HCan : Hid (∀ X v r vd, Below w.heap.size w X → r ∈ forth → K.RuIs X v r → L.Rd X vd .i32 dom → Calls Try.prog 20 #[v, vd] X fun e w' => e = .returned (.bool (!(r.source.any (Pr.neverB dom)))) ∧ Below X.heap.size X w') := fun X v r vd hX hr hv hd => rCan14_any X v r hv (hEa r hr) vd dom hd (by omega)
  have HWh : Hid (∀ X vt u, Below w.heap.size w X → L.Rd X vt .i32 [u] → Calls Try.prog 21 #[va, vt, .int .i64 0] X fun e w' => e = .returned (.int .i64 (Pr.firstI (Pr.hitB u) forth)) ∧ Below X.heap.size X w') := fun X vt u hX ht => by
    rw [← Pr.which_one hP1 hEa u]
    exact rWhich8_any X va forth (Ra.below hX) hla hEa vt [u] ht (by simp) 0 (by omega) (by simp)
  have HRe : Hid (∀ X, Below w.heap.size w X → Calls Try.prog 22 #[vb] X fun e w' => e = .returned (.tuple #[.int .i64 (K.behind back), .int .i64 (K.ahead back)]) ∧ Below X.heap.size X w') := fun X hX => rReach9_any X vb back (Rb.below hX)
  have HUn : Hid (∀ X vt t u n, Below w.heap.size w X → L.Rd X vt .i32 t → t.length ≤ 40 → 0 < t.length → n ≤ 40 → Calls Try.prog 23 #[vb, vt, .int .i64 ((n : Nat) : Int), .int .i32 u] X fun e w' => e = .returned (.bool (Pr.undoneB back t n u)) ∧ Below X.heap.size X w') := fun X vt t u n hX ht h1 h2 h3 => rUndone14_any X vb back (Rb.below hX) hlb hEb vt t ht (by omega) h2 n (by omega) u
  have hml : ∀ u, (Pr.made forth u).length ≤ 20 := fun u => Pr.made_len hEa u
  have hah := K.ahead_le hEb
  have hbh := K.behind_le hEb
  have HPf : Hid (V.Rus w va forth ∧ Pr.plainB forth = true ∧ Pr.plainB back = true ∧ ∀ u, (Pr.made forth u).length ≤ 20) := ⟨Ra, hP1, hP2, hml⟩
  obtain ⟨o, HO⟩ : ∃ o, Hid (Pr.undoesB forth back dom = o) := ⟨_, rfl⟩
  rw [HO.out]
  have hct : cntF s = S.total s := by unfold cntF; rw [if_pos h3]
  rw [hct, h3] at HC
  generalize S.total s = tt at *
  have htl : 0 ≤ tt ∨ tt < 0 := by omega
  obtain ⟨aa, ca, rfl⟩ := Ra.len
  obtain ⟨ba, cb, rfl⟩ := Rb.len
  obtain ⟨so, sc, rfl⟩ := Rs.len
  obtain ⟨⟨f1, g1⟩, hf1⟩ : ∃ f, K.rulesF forth = f := ⟨_, rfl⟩
  obtain ⟨⟨f2, g2⟩, hf2⟩ : ∃ f, K.rulesF back = f := ⟨_, rfl⟩
  rw [hf1] at h1 hW1
  rw [hf2] at h2 HW2
  simp only at h1 h2 hW1 HW2
  subst h1 h2
  have HW1 : Hid (Calls Try.prog 16 #[.slice aa forth.length ca] w fun e w' => e = .returned (.agg #[.int .i64 0, .int .i64 g1]) ∧ Below w.heap.size w w') := hW1
  clear hW1 hf1 hf2 Ra Rb Rs Fs hEa hEb hsl N h3 hct hP1 hP2 hml htl
  generalize K.behind back = bhd at *
  go_enter Try.func7, Try.ntmps7
  go_wp2_with fail
  refine HW1.out.mono ?_
  rintro e w1 ⟨rfl, b1⟩
  have HA1 : Hid (∀ o, Below w.heap.size w (w1.alloc o)) := fun o => b1.alloc b1.size o
  have hC := HW2.out _ (HA1.out (.cells #[.int .i64 0, .int .i64 g1] 34))
  clear b1 HW1 HW2
  go_wp2_with fail
  refine hC.mono ?_
  rintro e w2 ⟨rfl, b2⟩
  have hB2 : Below w.heap.size w w2 := (HA1.out _).trans (b2.mono (HA1.out _).size)
  have HA2 : Hid (∀ o, Below w.heap.size w (w2.alloc o)) := fun o => hB2.alloc hB2.size o
  clear b2 hC hB2 HA1
  have hC := HC.out _ (HA2.out (.cells #[.int .i64 0, .int .i64 g2] 34))
  go_wp2_with fail
  refine hC.mono ?_
  rintro e w3 ⟨rfl, b3⟩
  have HB3 : Hid (Below w.heap.size w w3) := (HA2.out _).trans (b3.mono (HA2.out _).size)
  clear b3 hC HC HA2
  have hC := HPl1.out _ HB3.out
  go_wp2_with fail
  refine hC.mono ?_
  rintro e w4 ⟨rfl, b4⟩
  have HB4 : Hid (Below w.heap.size w w4) := HB3.out.trans (b4.mono HB3.out.size)
  clear b4 hC HPl1 HB3
  have hC := HPl2.out _ HB4.out
  go_wp2_with fail
  refine hC.mono ?_
  rintro e w5 ⟨rfl, b5⟩
  have HB5 : Hid (Below w.heap.size w w5) := HB4.out.trans (b5.mono HB4.out.size)
  clear b5 hC HPl2 HB4
  have hC := HAl.out _ HB5.out
  go_wp2_with fail
  refine hC.mono ?_
  rintro e w6 ⟨vd, rfl, rd6, b6⟩
  have HB6 : Hid (Below w.heap.size w w6) := HB5.out.trans (b6.mono HB5.out.size)
  obtain ⟨xo, xc, rfl⟩ : ∃ a c, vd = .slice a dom.length c := by obtain ⟨a, c, h, _⟩ := rd6.1; exact ⟨a, c, h⟩
  have HD : Hid (L.Rd w6 (.slice xo dom.length xc) .i32 dom) := rd6.1
  have HDa : Hid (Pr.Apart w.heap.size w6 (.slice xo dom.length xc) dom) := rd6.2 _
  clear b6 hC HAl HB5 rd6
  go_wp2
  go_loopw [62] (fun i wr => ∃ j : Nat, j ≤ forth.length ∧ i = .int .i64 j ∧ Hid (∀ r ∈ forth.take j, Pr.broadB dom r = false) ∧ Hid (Below w6.heap.size w6 wr)) (fun i _ => forth.length - (RowKit.intOf i).toNat)
  case atStart => exact ⟨0, Nat.zero_le _, rfl, (fun r hr => by simp at hr), Below.refl _ _⟩
  case round =>
    obtain ⟨j, hj, rfl, HW, HB⟩ := hrel
    have HBr : Hid (Below w.heap.size w wr) := HB6.out.trans (HB.out.mono HB6.out.size)
    by_cases hlt : j < forth.length
    · obtain ⟨p, hp⟩ : ∃ x, forth[j]? = some x := ⟨forth[j], by simp [hlt]⟩
      obtain ⟨ao', cap', e', _, hcs⟩ := HPf.out.1.below HBr.out
      cases e'
      obtain ⟨b, off, rfl, hcell⟩ := hcs (by intro h; subst h; simp at hlt)
      obtain ⟨bo, bc, sou', sc', ao, ac, tgo, tc, a0, a1, a2, a3, a4, a5, a6, hP⟩ := hcell j p hp
      have HY : Hid (Pr.broadB dom p = false → ∀ r ∈ forth.take (j + 1), Pr.broadB dom r = false) := fun h r hr => by
        rw [List.take_add_one, hp, List.mem_append] at hr
        rcases hr with hr | hr
        · exact HW.out r hr
        · simp at hr; rw [hr]; exact h
      have HNo : Hid (Pr.broadB dom p = true → o = false) := fun h => by rw [← HO.out]; exact Pr.no_broad (List.mem_of_getElem? hp) h
      have HBa : Hid (∀ o, Below w.heap.size w (wr.alloc o) ∧ Below w6.heap.size w6 (wr.alloc o)) := fun o => ⟨HBr.out.alloc HBr.out.size o, HB.out.alloc HB.out.size o⟩
      have hCn : ∀ o, Calls Try.prog 20 #[.agg #[.bool p.start, .bool p.fin, .slice bo p.before.length bc, .slice sou' p.source.length sc', .slice ao p.after.length ac, .slice tgo p.target.length tc, .int .i64 p.cursor], .slice xo dom.length xc] (wr.alloc o) fun e w' => e = .returned (.bool (!(p.source.any (Pr.neverB dom)))) ∧ Below (wr.alloc o).heap.size (wr.alloc o) w' := fun o =>
        HCan.out (wr.alloc o) _ p _ (HBa.out o).1 (List.mem_of_getElem? hp) (hP.below ((Below.refl _ wr).alloc (Nat.le_refl _) o)) (HD.out.below (HBa.out o).2 (Nat.le_refl _))
      have hcap : p.source.length ≤ 140737488355328 := by obtain ⟨_, _, _, _, _, _, _, _, _, _, q2, _⟩ := hP; exact q2.few
      unfold Pr.broadB at HY HNo
      generalize p.source.any (Pr.neverB dom) = z at *
      have HCn : Hid (∀ o, Calls Try.prog 20 #[.agg #[.bool p.start, .bool p.fin, .slice bo p.before.length bc, .slice sou' p.source.length sc', .slice ao p.after.length ac, .slice tgo p.target.length tc, .int .i64 p.cursor], .slice xo dom.length xc] (wr.alloc o) fun e w' => e = .returned (.bool (!z)) ∧ Below (wr.alloc o).heap.size (wr.alloc o) w') := hCn
      clear hp hcell hcs hP hCn HCan HWh HRe HUn
      obtain ⟨st, fi, be, sou, af, ta, cu⟩ := p
      simp only at a0 a1 a2 a3 a4 a5 a6 HY HNo HCn hcap
      by_cases q1 : 1 < sou.length
      · rw [decide_eq_true q1, Bool.true_and] at HY HNo
        go_wp2_with fail
        refine (HCn.out _).mono ?_
        rintro e w7 ⟨rfl, b7⟩
        have HB7 : Hid (Below w.heap.size w w7 ∧ Below w6.heap.size w6 w7) := ⟨HBr.out.trans ((K.one_box b7).2.1.mono HBr.out.size), HB.out.trans ((K.one_box b7).2.1.mono HB.out.size)⟩
        clear b7 HCn
        cases z with
        | false =>
          have ho := HNo.out rfl
          subst ho
          clear HY HNo HO
          go_wp2
          go_ret2
          exact ⟨rfl, HB7.out.1⟩
        | true =>
          have HT : Hid (∀ r ∈ forth.take (j + 1), Pr.broadB dom r = false) := HY.out rfl
          clear HY HNo
          go_wp2
          go_roundw
          case rel => exact ⟨j + 1, by omega, by go_num, HT, HB7.out.2⟩
          case measure => simp [RowKit.intOf]; omega
      · rw [decide_eq_false q1, Bool.false_and] at HY HNo
        have HT : Hid (∀ r ∈ forth.take (j + 1), Pr.broadB dom r = false) := HY.out rfl
        clear HY HNo HCn
        go_wp2
        go_roundw
        case rel => exact ⟨j + 1, by omega, by go_num, HT, (HBa.out _).2⟩
        case measure => simp [RowKit.intOf]; omega
    · have hjl : j = forth.length := by omega
      have hnb := HW.out
      rw [hjl, List.take_length] at hnb
      have HNb : Hid (∀ r ∈ forth, Pr.broadB dom r = false) := hnb
      obtain ⟨wA, hwA⟩ : ∃ wA, wA = wr := ⟨_, rfl⟩
      subst hwA
      clear hnb hjl HW HCan
      go_wp2
      go_loopw [15, 78] (fun vt i wr => ∃ (k : Nat) (tgo : Option Addr) (tc : Nat), k ≤ dom.length ∧ i = .int .i64 k ∧ vt = .slice tgo k tc ∧ Hid (Pr.Tos w.heap.size wr (.slice tgo k tc) ((dom.take k).map (Pr.made forth)) ∧ (∀ u ∈ dom.take k, 0 < (Pr.made forth u).length) ∧ Below w.heap.size w wr ∧ L.Rd wr (.slice xo dom.length xc) .i32 dom ∧ Pr.Apart w.heap.size wr (.slice xo dom.length xc) dom)) (fun _ i _ => dom.length - (RowKit.intOf i).toNat)
      case atStart => exact ⟨0, none, 0, Nat.zero_le _, rfl, rfl, ⟨Pr.Tos.nil _ _, fun u hu => by simp at hu, HBr.out, HD.out.below HB.out (Nat.le_refl _), HDa.out.below HB.out⟩⟩
      case round =>
        obtain ⟨k, tgo, tc, hk, rfl, rfl, HI⟩ := hrel
        by_cases hkt : k < dom.length
        · obtain ⟨u, hu⟩ : ∃ x, dom[k]? = some x := ⟨dom[k], by simp [hkt]⟩
          obtain ⟨xo', xc', ex, _, hxs⟩ := HI.out.2.2.2.1
          cases ex
          obtain ⟨xb, xoff, rfl, hxcell⟩ := hxs (by intro h; rw [h] at hkt; simp at hkt)
          have c0 := hxcell k u hu
          obtain ⟨X, hX⟩ : ∃ X, X = wr.alloc (.cells #[.int .i32 u] 21) := ⟨_, rfl⟩
          have k1 := K.one_box (w := wr) (Below.refl _ (wr.alloc (.cells #[.int .i32 u] 21)))
          rw [← hX] at k1
          have HXb : Hid (Below w.heap.size w X) := HI.out.2.2.1.trans (k1.2.1.mono HI.out.2.2.1.size)
          have hru : L.Rd X (.slice (some ⟨wr.heap.size, 0, none⟩) 1 1) .i32 [u] := ⟨_, _, rfl, fun e => (by cases e), fun _ => ⟨_, 0, rfl, fun j y hj => by
            match j, hj with
            | 0, hj => cases hj; exact K.at_box k1.1 rfl
            | n + 1, hj => simp at hj⟩⟩
          have hWc := HWh.out X _ u HXb.out hru
          have HU : Hid (dom[k]? = some u ∧ L.Rd X (.slice (some ⟨wr.heap.size, 0, none⟩) 1 1) .i32 [u] ∧ X.heap[wr.heap.size]? = some (.cells #[.int .i32 u] 21) ∧ Below wr.heap.size wr X) := ⟨hu, hru, k1.1, k1.2.1⟩
          have HTk : Hid ((dom.take (k + 1)).map (Pr.made forth) = (dom.take k).map (Pr.made forth) ++ [Pr.made forth u] ∧ ((dom.take k).map (Pr.made forth)).length = k) := ⟨by rw [List.take_add_one, hu, List.map_append]; rfl, by rw [List.length_map, List.length_take]; omega⟩
          have HEm : Hid ((Pr.made forth u).length = 0 → o = false) := fun h => by rw [← HO.out]; exact Pr.no_empty (List.mem_of_getElem? hu) h
          have HLn : Hid (0 < (Pr.made forth u).length → ∀ x ∈ dom.take (k + 1), 0 < (Pr.made forth x).length) := fun h x hx => by
            rw [List.take_add_one, hu, List.mem_append] at hx
            rcases hx with hx | hx
            · exact HI.out.2.1 x hx
            · simp at hx; rw [hx]; exact h
          clear hxcell hxs hu hru k1
          rcases Pr.firstI_is (P := Pr.hitB u) (l := forth) with hf | ⟨j, r, hjr, _, hf⟩
          · have hmd : Pr.made forth u = [u] := by unfold Pr.made; rw [hf, if_pos (by decide)]
            rw [hmd] at HTk HEm HLn
            rw [hf] at hWc
            clear hf hmd HEm
            go_wp2_with fail
            rw [← hX]
            refine hWc.mono ?_
            rintro e w7 ⟨rfl, b7⟩
            have hBx : Below wr.heap.size wr w7 := HU.out.2.2.2.trans (b7.mono HU.out.2.2.2.size)
            have hB7 : Below w.heap.size w w7 := HXb.out.trans (b7.mono HXb.out.size)
            obtain ⟨qo, qc, w8, run8, tos8, be8, kp8⟩ := (HI.out.1.below hBx).push hB7.size (by rw [HTk.out.2]; omega) [u] (.slice (some ⟨wr.heap.size, 0, none⟩) 1 1) (HU.out.2.1.below b7 (Nat.le_refl _)) (fun _ g hg => by cases hg; exact .inr ⟨_, K.blk_below HU.out.2.2.1 b7⟩)
            have hkp := kp8 _ _ (HI.out.2.2.2.1.below hBx (Nat.le_refl _)) (HI.out.2.2.2.2.below hBx)
            rw [HTk.out.2] at run8 tos8
            rw [← HTk.out.1] at tos8
            have HN : Hid (Pr.Tos w.heap.size w8 (.slice qo (k + 1) qc) ((dom.take (k + 1)).map (Pr.made forth)) ∧ (∀ x ∈ dom.take (k + 1), 0 < (Pr.made forth x).length) ∧ Below w.heap.size w w8 ∧ L.Rd w8 (.slice (some ⟨xb, xoff, none⟩) dom.length xc) .i32 dom ∧ Pr.Apart w.heap.size w8 (.slice (some ⟨xb, xoff, none⟩) dom.length xc) dom) := ⟨tos8, HLn.out (by simp), hB7.trans be8, hkp.1, hkp.2⟩
            have HR8 : Hid (∀ ty, (Builtin.append_ #[50, 50] ty #[.slice tgo k tc, .slice (some ⟨w7.heap.size, 0, none⟩) 1 1]).run Try.prog (w7.alloc (.cells #[.slice (some ⟨wr.heap.size, 0, none⟩) 1 1] 28)) = .ok (.slice qo (k + 1) qc) w8) := run8
            clear b7 hBx hB7 run8 tos8 be8 kp8 hkp HTk HLn HU hX
            go_wp2_with (at_builtin; refine Lib.wpList_append_run _ rfl _ _ _ _ rfl _ _ rfl rfl _ _ (HR8.out _) ?_; clear HR8)
            go_roundw
            case rel => exact ⟨k + 1, qo, qc, by omega, by go_num, rfl, HN⟩
            case measure => simp [RowKit.intOf]; omega
          · have hmd : Pr.made forth u = r.target := by unfold Pr.made; rw [hf, if_neg (by omega), Int.toNat_natCast, hjr]; rfl
            rw [hmd] at HTk HEm HLn
            rw [hf] at hWc
            have hjl := (List.getElem?_eq_some_iff.1 hjr).1
            have hjz : (j : Int) < (forth.length : Int) := by omega
            obtain ⟨ao', cap', e', _, hcs⟩ := HPf.out.1
            cases e'
            obtain ⟨b, off, rfl, hcell⟩ := hcs (by intro h; subst h; simp at hjr)
            obtain ⟨bo, bc, sou', sc', ao, ac, tt', tg, _, _, _, _, _, a5, _, hP⟩ := hcell j r hjr
            obtain ⟨_, _, _, _, _, _, _, _, e', _, _, _, hT, hT5, _⟩ := hP
            have e2 := Value.agg.inj e'
            simp only [Array.mk.injEq, List.cons.injEq, Value.slice.injEq, true_and, and_true] at e2
            obtain ⟨⟨rfl, rfl⟩, ⟨rfl, rfl⟩, ⟨rfl, rfl⟩, rfl, rfl⟩ := e2
            have HA5 : Hid (w.cell? ⟨b, off + j * 7 + 5, none⟩ = some (.slice tt' r.target.length tg) ∧ L.Rd w (.slice tt' r.target.length tg) .i32 r.target) := ⟨a5, hT⟩
            clear hf hmd hcs hcell a5 hT e' hjr
            obtain ⟨st, fi, be, sou, af, tar, cu⟩ := r
            simp only at HTk HEm HLn HA5 hT5
            go_wp2_with fail
            rw [← hX]
            refine hWc.mono ?_
            rintro e w7 ⟨rfl, b7⟩
            have hBx : Below wr.heap.size wr w7 := HU.out.2.2.2.trans (b7.mono HU.out.2.2.2.size)
            have hB7 : Below w.heap.size w w7 := HXb.out.trans (b7.mono HXb.out.size)
            have c5 : w7.cell? ⟨b, off + j * 7 + 5, none⟩ = some (.slice tt' tar.length tg) := by rw [hB7.cell (p := ⟨b, off + j * 7 + 5, none⟩) (L.block_lt HA5.out.1)]; exact HA5.out.1
            by_cases h0 : tar.length = 0
            · have ho := HEm.out h0
              have HB7 : Hid (Below w.heap.size w w7) := hB7
              rw [h0] at c5
              subst ho
              clear b7 hBx hB7 HTk HLn HEm HU HO hX
              go_wp2
              go_ret2
              exact ⟨rfl, HB7.out⟩
            · have hq0 : ((tar.length : Int) == 0) = false := beq_eq_false_iff_ne.2 (by omega)
              obtain ⟨qo, qc, w8, run8, tos8, be8, kp8⟩ := (HI.out.1.below hBx).push hB7.size (by rw [HTk.out.2]; omega) tar (.slice tt' tar.length tg) (HA5.out.2.below hB7 (Nat.le_refl _)) (Pr.Apart.old HA5.out.2 (Nat.le_refl _))
              have hkp := kp8 _ _ (HI.out.2.2.2.1.below hBx (Nat.le_refl _)) (HI.out.2.2.2.2.below hBx)
              rw [HTk.out.2] at run8 tos8
              rw [← HTk.out.1] at tos8
              have HN : Hid (Pr.Tos w.heap.size w8 (.slice qo (k + 1) qc) ((dom.take (k + 1)).map (Pr.made forth)) ∧ (∀ x ∈ dom.take (k + 1), 0 < (Pr.made forth x).length) ∧ Below w.heap.size w w8 ∧ L.Rd w8 (.slice (some ⟨xb, xoff, none⟩) dom.length xc) .i32 dom ∧ Pr.Apart w.heap.size w8 (.slice (some ⟨xb, xoff, none⟩) dom.length xc) dom) := ⟨tos8, HLn.out (by omega), hB7.trans be8, hkp.1, hkp.2⟩
              have HR8 : Hid (∀ ty, (Builtin.append_ #[50, 50] ty #[.slice tgo k tc, .slice (some ⟨w7.heap.size, 0, none⟩) 1 1]).run Try.prog (w7.alloc (.cells #[.slice tt' tar.length tg] 28)) = .ok (.slice qo (k + 1) qc) w8) := run8
              clear b7 hBx hB7 run8 tos8 be8 kp8 hkp HTk HLn HU hX HEm
              go_wp2_with (at_builtin; refine Lib.wpList_append_run _ rfl _ _ _ _ rfl _ _ rfl rfl _ _ (HR8.out _) ?_; clear HR8)
              go_roundw
              case rel => exact ⟨k + 1, qo, qc, by omega, by go_num, rfl, HN⟩
              case measure => simp [RowKit.intOf]; omega
        · have hkl : k = dom.length := by omega
          subst hkl
          have hI := HI.out
          rw [List.take_length] at hI
          have HTo : Hid (Ws.Rd wr (.slice tgo dom.length tc) (dom.map (Pr.made forth)) ∧ L.Rd wr (.slice xo dom.length xc) .i32 dom ∧ ∀ u ∈ dom, 0 < (Pr.made forth u).length) := ⟨hI.1.rd, hI.2.2.2.1, hI.2.1⟩
          have HBs : Hid (Below w.heap.size w wr) := hI.2.2.1
          have hC := HRe.out wr HBs.out
          clear hI HI HWh HRe
          go_wp2_with fail
          refine hC.mono ?_
          rintro e w9 ⟨rfl, b9⟩
          have HT9 : Hid (Ws.Rd w9 (.slice tgo dom.length tc) (dom.map (Pr.made forth)) ∧ L.Rd w9 (.slice xo dom.length xc) .i32 dom ∧ ∀ u ∈ dom, 0 < (Pr.made forth u).length) := ⟨HTo.out.1.below b9, HTo.out.2.1.below b9 (Nat.le_refl _), HTo.out.2.2⟩
          have HB9 : Hid (Below w.heap.size w w9) := HBs.out.trans (b9.mono HBs.out.size)
          clear b9 hC HTo HBs
          generalize hah' : K.ahead back = ah at *
          go_wp2
          go_loopw [109] (fun i wr => ∃ k : Nat, k ≤ dom.length ∧ i = .int .i64 k ∧ Hid ((∀ u ∈ dom.take k, Pr.comesB back (u, Pr.made forth u) [] = true ∧ ∀ v ∈ dom, ah ≤ (Pr.made forth u).length + (Pr.made forth v).length ∧ Pr.comesB back (u, Pr.made forth u) (Pr.made forth v) = true) ∧ Below w9.heap.size w9 wr)) (fun i _ => dom.length - (RowKit.intOf i).toNat)
          case atStart => exact ⟨0, Nat.zero_le _, rfl, ⟨fun u hu => by simp at hu, Below.refl _ _⟩⟩
          case round =>
            obtain ⟨k, hk, rfl, HI⟩ := hrel
            have HBr : Hid (Below w.heap.size w wr) := HB9.out.trans (HI.out.2.mono HB9.out.size)
            by_cases hkt : k < dom.length
            · obtain ⟨u, hu⟩ : ∃ x, dom[k]? = some x := ⟨dom[k], by simp [hkt]⟩
              have hum := List.mem_of_getElem? hu
              have htk : (dom.map (Pr.made forth))[k]? = some (Pr.made forth u) := by rw [List.getElem?_map, hu]; rfl
              obtain ⟨tb, toff, p1, q1, hto, ct, rt⟩ := Pr.rd_at (HT9.out.1.below HI.out.2) htk
              subst hto
              obtain ⟨xo', xc', ex, _, hxs⟩ := HT9.out.2.1.below HI.out.2 (Nat.le_refl _)
              cases ex
              obtain ⟨xb, xoff, rfl, hxcell⟩ := hxs (by intro h; rw [h] at hkt; simp at hkt)
              have cx := hxcell k u hu
              have hMp := HT9.out.2.2 u hum
              have hMl := HPf.out.2.2.2 u
              have HNa : Hid (Pr.comesB back (u, Pr.made forth u) [] = false → o = false) := fun h => by rw [← HO.out]; exact Pr.no_alone hum h
              have HNs : Hid (∀ v ∈ dom, (Pr.made forth u).length + (Pr.made forth v).length < ah → o = false) := fun v hv h => by rw [← HO.out]; exact Pr.no_short hum hv (by rw [hah']; exact h)
              have HNp : Hid (∀ v ∈ dom, Pr.comesB back (u, Pr.made forth u) (Pr.made forth v) = false → o = false) := fun v hv h => by rw [← HO.out]; exact Pr.no_pair hum hv h
              have HNx : Hid (Pr.comesB back (u, Pr.made forth u) [] = true → (∀ v ∈ dom, ah ≤ (Pr.made forth u).length + (Pr.made forth v).length ∧ Pr.comesB back (u, Pr.made forth u) (Pr.made forth v) = true) → ∀ x ∈ dom.take (k + 1), Pr.comesB back (x, Pr.made forth x) [] = true ∧ ∀ v ∈ dom, ah ≤ (Pr.made forth x).length + (Pr.made forth v).length ∧ Pr.comesB back (x, Pr.made forth x) (Pr.made forth v) = true) := fun h1 h2 x hx => by
                rw [List.take_add_one, hu, List.mem_append] at hx
                rcases hx with hx | hx
                · exact HI.out.1 x hx
                · simp at hx; rw [hx]; exact ⟨h1, h2⟩
              generalize Pr.made forth u = M at *
              have hUn := HUn.out wr _ M u M.length HBr.out rt (by omega) hMp (by omega)
              have e1 : Pr.undoneB back M M.length u = Pr.comesB back (u, M) [] := by
                have := Pr.undone_comes (back := back) (m := (u, M)) hMp []
                rw [List.append_nil] at this
                exact this
              rw [e1] at hUn
              obtain ⟨y, HY⟩ : ∃ y, Hid (Pr.comesB back (u, M) [] = y) := ⟨_, rfl⟩
              rw [HY.out] at hUn HNa HNx
              have HRt : Hid (L.Rd wr (.slice p1 M.length q1) .i32 M) := rt
              have HCx : Hid (wr.cell? ⟨xb, xoff + k, none⟩ = some (.int .i32 u)) := cx
              clear hxs hxcell htk hu rt e1
              go_wp2_with fail
              refine hUn.mono ?_
              rintro e w10 ⟨rfl, b10⟩
              have HB10 : Hid (Below w9.heap.size w9 w10 ∧ Below wr.heap.size wr w10) := ⟨HI.out.2.trans (b10.mono HI.out.2.size), b10⟩
              clear b10 hUn
              cases y with
              | false =>
                have ho := HNa.out rfl
                subst ho
                clear HNa HNs HNp HNx HO
                go_wp2
                go_ret2
                exact ⟨rfl, HB9.out.trans (HB10.out.1.mono HB9.out.size)⟩
              | true =>
                have HNx1 : Hid ((∀ v ∈ dom, ah ≤ M.length + (Pr.made forth v).length ∧ Pr.comesB back (u, M) (Pr.made forth v) = true) → ∀ x ∈ dom.take (k + 1), Pr.comesB back (x, Pr.made forth x) [] = true ∧ ∀ v ∈ dom, ah ≤ (Pr.made forth x).length + (Pr.made forth v).length ∧ Pr.comesB back (x, Pr.made forth x) (Pr.made forth v) = true) := HNx.out rfl
                obtain ⟨wc, hwc⟩ : ∃ wc, wc = wr := ⟨_, rfl⟩
                subst hwc
                clear HNa HNx cx ct
                go_wp2
                go_loopw [126] (fun i wr => ∃ q : Nat, q ≤ dom.length ∧ i = .int .i64 q ∧ Hid ((∀ v ∈ dom.take q, ah ≤ M.length + (Pr.made forth v).length ∧ Pr.comesB back (u, M) (Pr.made forth v) = true) ∧ Below w9.heap.size w9 wr ∧ Below wc.heap.size wc wr)) (fun i _ => dom.length - (RowKit.intOf i).toNat)
                case atStart => exact ⟨0, Nat.zero_le _, rfl, ⟨fun v hv => by simp at hv, HB10.out.1, HB10.out.2⟩⟩
                case round =>
                  obtain ⟨q, hq, rfl, HJ⟩ := hrel
                  have HBq : Hid (Below w.heap.size w wr) := HB9.out.trans (HJ.out.2.1.mono HB9.out.size)
                  by_cases hqt : q < dom.length
                  · obtain ⟨v, hv⟩ : ∃ x, dom[q]? = some x := ⟨dom[q], by simp [hqt]⟩
                    have hvm := List.mem_of_getElem? hv
                    have htq : (dom.map (Pr.made forth))[q]? = some (Pr.made forth v) := by rw [List.getElem?_map, hv]; rfl
                    obtain ⟨tb', toff', p2, q2, hto, ct2, rt2⟩ := Pr.rd_at (HT9.out.1.below HJ.out.2.1) htq
                    cases hto
                    have cx : wr.cell? ⟨xb, xoff + k, none⟩ = some (.int .i32 u) := by rw [HJ.out.2.2.cell (p := ⟨xb, xoff + k, none⟩) (L.block_lt HCx.out)]; exact HCx.out
                    have hVl := HPf.out.2.2.2 v
                    have HSh := HNs.out v hvm
                    have HPa := HNp.out v hvm
                    have HNx2 : Hid (ah ≤ M.length + (Pr.made forth v).length → Pr.comesB back (u, M) (Pr.made forth v) = true → ∀ x ∈ dom.take (q + 1), ah ≤ M.length + (Pr.made forth x).length ∧ Pr.comesB back (u, M) (Pr.made forth x) = true) := fun h1 h2 x hx => by
                      rw [List.take_add_one, hv, List.mem_append] at hx
                      rcases hx with hx | hx
                      · exact HJ.out.1 x hx
                      · simp at hx; rw [hx]; exact ⟨h1, h2⟩
                    generalize Pr.made forth v = Vt at *
                    have HRt2 : Hid (L.Rd wr (.slice p2 Vt.length q2) .i32 Vt) := rt2
                    clear htq hv hvm rt2
                    by_cases hs : M.length + Vt.length < ah
                    · have ho := HSh hs
                      have hsz : ((M.length : Int) + (Vt.length : Int) < (ah : Int)) := by omega
                      have hsd : decide ((M.length : Int) + (Vt.length : Int) < (ah : Int)) = true := decide_eq_true hsz
                      subst ho
                      clear HSh HPa HNx2 HNs HNp HNx1 HO
                      go_wp2_with fail
                      go_big_quiet (fail)
                      go_wp2
                      go_ret2
                      exact ⟨rfl, below_drewN HBq.out _⟩
                    · have hsd : decide ((M.length : Int) + (Vt.length : Int) < (ah : Int)) = false := decide_eq_false (by omega)
                      have hal : Below wr.heap.size wr wr.drew := (Below.refl _ wr).drew
                      obtain ⟨a1, c1, w11, a2, c2, w12, run1, run2, rd12, bl12, bl11⟩ := Pr.both2 (w := wr) hal ((HRt.out.below HJ.out.2.2 (Nat.le_refl _)).below hal (Nat.le_refl _)) (HRt2.out.below hal (Nat.le_refl _)) (by omega) (by omega)
                      have hU2 := HUn.out w12 _ (M ++ Vt) u M.length (HBq.out.trans (bl12.mono HBq.out.size)) rd12 (by rw [List.length_append]; omega) (by rw [List.length_append]; omega) (by omega)
                      have e1 := Pr.undone_comes (back := back) (m := (u, M)) hMp Vt
                      simp only at e1
                      rw [e1] at hU2
                      obtain ⟨y2, HY2⟩ : ∃ y, Hid (Pr.comesB back (u, M) Vt = y) := ⟨_, rfl⟩
                      rw [HY2.out] at hU2 HPa HNx2
                      obtain ⟨N, hN⟩ : ∃ N, N = (M ++ Vt).length := ⟨_, rfl⟩
                      rw [← hN] at run2 hU2
                      have HR1 : Hid (∀ ty, (Builtin.append_ #[28, 28] ty #[.slice (some ⟨wr.heap.size, 0, none⟩) 0 0, .slice p1 M.length q1]).run Try.prog (wr.alloc (.cells #[] 21)).drew = .ok (.slice a1 M.length c1) w11) := run1
                      have HR2 : Hid (∀ ty, (Builtin.append_ #[28, 28] ty #[.slice a1 M.length c1, .slice p2 Vt.length q2]).run Try.prog w11 = .ok (.slice a2 N c2) w12) := run2
                      have HU2 : Hid (Calls Try.prog 23 #[.slice ba back.length cb, .slice a2 N c2, .int .i64 (M.length : Int), .int .i32 u] w12 fun e w' => e = .returned (.bool y2) ∧ Below w12.heap.size w12 w') := hU2
                      have HKa : Hid ((∀ o, (wr.alloc o).cell? ⟨xb, xoff + k, none⟩ = some (.int .i32 u)) ∧ w11.cell? ⟨xb, xoff + k, none⟩ = some (.int .i32 u) ∧ w12.cell? ⟨xb, xoff + k, none⟩ = some (.int .i32 u)) := ⟨fun o => K.alloc_cell cx o, by rw [bl11.cell (p := ⟨xb, xoff + k, none⟩) (L.block_lt cx)]; exact cx, by rw [bl12.cell (p := ⟨xb, xoff + k, none⟩) (L.block_lt cx)]; exact cx⟩
                      have HB12 : Hid (Below wr.heap.size wr w12) := bl12
                      have HLe : Hid (ah ≤ M.length + Vt.length) := by show _ ≤ _; omega
                      clear run1 run2 rd12 bl12 bl11 hU2 e1 hN hal HSh
                      -- GEN
                      have hwrp : IntKind.i64.wrap ((M.length : Int) + (Vt.length : Int)) = (M.length : Int) + (Vt.length : Int) := by rw [IntKind.wrap_i64]; omega
                      go_wp2_with fail
                      refine wp_region_held_drew (S := fun w' => w'.cell? ⟨xb, xoff + k, none⟩ = some (.int .i32 u)) (by kernel_rfl) cx (fun hHeld => ?_)
                      refine V.take 0 130 (.slice p1 M.length q1) [true, false, false, false, false, false, false, false, false, false, false, false, false, false, false, false, false, false, false, false, false, false, false] rfl rfl (by kernel_rfl) (by kernel_rfl) (by kernel_rfl) (by kernel_rfl) (fun _ _ _ h => h) (Or.inl ⟨by rfl, ?_⟩) hHeld ?_
                      · intro wz hSw
                        go_simp
                      simp only [Act.put, List.setIfInBounds_toArray, List.set_cons_zero, List.set_cons_succ]
                      refine V.take 1 131 (.int .i64 (M.length : Int)) [true, true, false, false, false, false, false, false, false, false, false, false, false, false, false, false, false, false, false, false, false, false, false] rfl rfl (by kernel_rfl) (by kernel_rfl) (by kernel_rfl) (by kernel_rfl) (fun _ _ _ h => h) (Or.inl ⟨by rfl, ?_⟩) hHeld ?_
                      · intro wz hSw
                        go_simp
                      simp only [Act.put, List.setIfInBounds_toArray, List.set_cons_zero, List.set_cons_succ]
                      refine V.take 2 132 (.slice p2 Vt.length q2) [true, true, true, false, false, false, false, false, false, false, false, false, false, false, false, false, false, false, false, false, false, false, false] rfl rfl (by kernel_rfl) (by kernel_rfl) (by kernel_rfl) (by kernel_rfl) (fun _ _ _ h => h) (Or.inl ⟨by rfl, ?_⟩) hHeld ?_
                      · intro wz hSw
                        go_simp
                      simp only [Act.put, List.setIfInBounds_toArray, List.set_cons_zero, List.set_cons_succ]
                      refine V.take 3 133 (.int .i64 (Vt.length : Int)) [true, true, true, true, false, false, false, false, false, false, false, false, false, false, false, false, false, false, false, false, false, false, false] rfl rfl (by kernel_rfl) (by kernel_rfl) (by kernel_rfl) (by kernel_rfl) (fun _ _ _ h => h) (Or.inl ⟨by rfl, ?_⟩) hHeld ?_
                      · intro wz hSw
                        go_simp
                      simp only [Act.put, List.setIfInBounds_toArray, List.set_cons_zero, List.set_cons_succ]
                      refine V.take 4 134 (.int .i64 ((M.length : Int) + (Vt.length : Int))) [true, true, true, true, true, false, false, false, false, false, false, false, false, false, false, false, false, false, false, false, false, false, false] rfl rfl (by kernel_rfl) (by kernel_rfl) (by kernel_rfl) (by kernel_rfl) (fun _ _ _ h => h) (Or.inl ⟨by rfl, ?_⟩) hHeld ?_
                      · intro wz hSw
                        go_simp
                      simp only [Act.put, List.setIfInBounds_toArray, List.set_cons_zero, List.set_cons_succ]
                      refine V.take 5 135 (.int .i64 (ah : Int)) [true, true, true, true, true, true, false, false, false, false, false, false, false, false, false, false, false, false, false, false, false, false, false] rfl rfl (by kernel_rfl) (by kernel_rfl) (by kernel_rfl) (by kernel_rfl) (fun _ _ _ h => h) (Or.inl ⟨by rfl, ?_⟩) hHeld ?_
                      · intro wz hSw
                        go_simp
                      simp only [Act.put, List.setIfInBounds_toArray, List.set_cons_zero, List.set_cons_succ]
                      refine V.take 6 136 (.bool false) [true, true, true, true, true, true, true, false, false, false, false, false, false, false, false, false, false, false, false, false, false, false, false] rfl rfl (by kernel_rfl) (by kernel_rfl) (by kernel_rfl) (by kernel_rfl) (fun _ _ _ h => h) (Or.inl ⟨by rfl, ?_⟩) hHeld ?_
                      · intro wz hSw
                        go_simp
                      simp only [Act.put, List.setIfInBounds_toArray, List.set_cons_zero, List.set_cons_succ]
                      refine V.take 7 137 (.bool false) [true, true, true, true, true, true, true, true, false, false, false, false, false, false, false, false, false, false, false, false, false, false, false] rfl rfl (by kernel_rfl) (by kernel_rfl) (by kernel_rfl) (by kernel_rfl) (fun _ _ _ h => h) (Or.inl ⟨by rfl, ?_⟩) hHeld ?_
                      · intro wz hSw
                        go_simp
                      simp only [Act.put, List.setIfInBounds_toArray, List.set_cons_zero, List.set_cons_succ]
                      refine V.take 8 138 (.slice ba back.length cb) [true, true, true, true, true, true, true, true, true, false, false, false, false, false, false, false, false, false, false, false, false, false, false] rfl rfl (by kernel_rfl) (by kernel_rfl) (by kernel_rfl) (by kernel_rfl) (fun _ _ _ h => h) (Or.inl ⟨by rfl, ?_⟩) hHeld ?_
                      · intro wz hSw
                        go_simp
                      simp only [Act.put, List.setIfInBounds_toArray, List.set_cons_zero, List.set_cons_succ]
                      refine V.take 10 140 (.slice p1 M.length q1) [true, true, true, true, true, true, true, true, true, false, true, false, false, false, false, false, false, false, false, false, false, false, false] rfl rfl (by kernel_rfl) (by kernel_rfl) (by kernel_rfl) (by kernel_rfl) (fun _ _ _ h => h) (Or.inl ⟨by rfl, ?_⟩) hHeld ?_
                      · intro wz hSw
                        go_simp
                      simp only [Act.put, List.setIfInBounds_toArray, List.set_cons_zero, List.set_cons_succ]
                      refine V.take 12 142 (.slice p2 Vt.length q2) [true, true, true, true, true, true, true, true, true, false, true, false, true, false, false, false, false, false, false, false, false, false, false] rfl rfl (by kernel_rfl) (by kernel_rfl) (by kernel_rfl) (by kernel_rfl) (fun _ _ _ h => h) (Or.inl ⟨by rfl, ?_⟩) hHeld ?_
                      · intro wz hSw
                        go_simp
                      simp only [Act.put, List.setIfInBounds_toArray, List.set_cons_zero, List.set_cons_succ]
                      refine V.take 14 144 (.slice p1 M.length q1) [true, true, true, true, true, true, true, true, true, false, true, false, true, false, true, false, false, false, false, false, false, false, false] rfl rfl (by kernel_rfl) (by kernel_rfl) (by kernel_rfl) (by kernel_rfl) (fun _ _ _ h => h) (Or.inl ⟨by rfl, ?_⟩) hHeld ?_
                      · intro wz hSw
                        go_simp
                      simp only [Act.put, List.setIfInBounds_toArray, List.set_cons_zero, List.set_cons_succ]
                      refine V.take 15 145 (.int .i64 (M.length : Int)) [true, true, true, true, true, true, true, true, true, false, true, false, true, false, true, true, false, false, false, false, false, false, false] rfl rfl (by kernel_rfl) (by kernel_rfl) (by kernel_rfl) (by kernel_rfl) (fun _ _ _ h => h) (Or.inl ⟨by rfl, ?_⟩) hHeld ?_
                      · intro wz hSw
                        go_simp
                      simp only [Act.put, List.setIfInBounds_toArray, List.set_cons_zero, List.set_cons_succ]
                      refine V.take 16 146 (.slice (some ⟨xb, xoff, none⟩) dom.length xc) [true, true, true, true, true, true, true, true, true, false, true, false, true, false, true, true, true, false, false, false, false, false, false] rfl rfl (by kernel_rfl) (by kernel_rfl) (by kernel_rfl) (by kernel_rfl) (fun _ _ _ h => h) (Or.inl ⟨by rfl, ?_⟩) hHeld ?_
                      · intro wz hSw
                        go_simp
                      simp only [Act.put, List.setIfInBounds_toArray, List.set_cons_zero, List.set_cons_succ]
                      refine V.take 17 147 (.int .i64 (k : Int)) [true, true, true, true, true, true, true, true, true, false, true, false, true, false, true, true, true, true, false, false, false, false, false] rfl rfl (by kernel_rfl) (by kernel_rfl) (by kernel_rfl) (by kernel_rfl) (fun _ _ _ h => h) (Or.inl ⟨by rfl, ?_⟩) hHeld ?_
                      · intro wz hSw
                        go_simp
                      simp only [Act.put, List.setIfInBounds_toArray, List.set_cons_zero, List.set_cons_succ]
                      refine V.take 18 148 (.pointer (some ⟨xb, xoff + k, none⟩)) [true, true, true, true, true, true, true, true, true, false, true, false, true, false, true, true, true, true, true, false, false, false, false] rfl rfl (by kernel_rfl) (by kernel_rfl) (by kernel_rfl) (by kernel_rfl) (fun _ _ _ h => h) (Or.inl ⟨by rfl, ?_⟩) hHeld ?_
                      · intro wz hSw
                        go_simp
                      simp only [Act.put, List.setIfInBounds_toArray, List.set_cons_zero, List.set_cons_succ]
                      refine V.take 19 149 (.int .i32 u) [true, true, true, true, true, true, true, true, true, false, true, false, true, false, true, true, true, true, true, true, false, false, false] rfl rfl (by kernel_rfl) (by kernel_rfl) (by kernel_rfl) (by kernel_rfl) (fun _ _ _ h => h) (Or.inl ⟨by rfl, ?_⟩) hHeld ?_
                      · intro wz hSw
                        go_simp
                      simp only [Act.put, List.setIfInBounds_toArray, List.set_cons_zero, List.set_cons_succ]
                      refine wpAnyH_ready (rs := [9]) (by kernel_rfl) (by simp) ?_
                      refine AllReadyH.cons (o := _) rfl (fun KK hK => ?_) AllReadyH.nil
                      go_simp
                      refine hK.out _ _ (HKa.out.1 _) (fun hHeld => ?_)
                      clear hK
                      try simp only [Act.put, List.setIfInBounds_toArray, List.set_cons_zero, List.set_cons_succ]
                      refine wpAnyH_ready (rs := [11]) (by kernel_rfl) (by simp) ?_
                      refine AllReadyH.cons (o := _) rfl (fun KK hK => ?_) AllReadyH.nil
                      refine Pr.step_runW (by rfl) (.tmp 139) (.tmp 140) rfl (.slice (some ⟨wr.heap.size, 0, none⟩) 0 0) (.slice p1 M.length q1) (.slice a1 M.length c1) w11 rfl rfl HR1.out ?_
                      refine hK.out _ _ HKa.out.2.1 (fun hHeld => ?_)
                      clear hK
                      try simp only [Act.put, List.setIfInBounds_toArray, List.set_cons_zero, List.set_cons_succ]
                      refine wpAnyH_ready (rs := [13]) (by kernel_rfl) (by simp) ?_
                      refine AllReadyH.cons (o := _) rfl (fun KK hK => ?_) AllReadyH.nil
                      refine Pr.step_runW (by rfl) (.tmp 141) (.tmp 142) rfl (.slice a1 M.length c1) (.slice p2 Vt.length q2) (.slice a2 N c2) w12 rfl rfl HR2.out ?_
                      refine hK.out _ _ HKa.out.2.2 (fun hHeld => ?_)
                      clear hK
                      try simp only [Act.put, List.setIfInBounds_toArray, List.set_cons_zero, List.set_cons_succ]
                      refine wpAnyH_ready (rs := [20]) (by kernel_rfl) (by simp) ?_
                      refine AllReadyH.cons (o := _) rfl (fun KK hK => ?_) AllReadyH.nil
                      go_simp
                      refine HU2.out.mono ?_
                      rintro e w13 ⟨rfl, b13⟩
                      have c13 : w13.cell? ⟨xb, xoff + k, none⟩ = some (.int .i32 u) := (b13.cell (p := ⟨xb, xoff + k, none⟩) (L.block_lt HKa.out.2.2)).trans HKa.out.2.2
                      have HB13 : Hid (Below wr.heap.size wr w13) := HB12.out.trans (b13.mono HB12.out.size)
                      clear b13 HU2 HR1 HR2 HKa
                      refine hK.out _ _ c13 (fun hHeld => ?_)
                      clear hK
                      try simp only [Act.put, List.setIfInBounds_toArray, List.set_cons_zero, List.set_cons_succ]
                      refine V.take 21 151 (.bool (!y2)) [true, true, true, true, true, true, true, true, true, true, true, true, true, true, true, true, true, true, true, true, true, true, false] rfl rfl (by kernel_rfl) (by kernel_rfl) (by kernel_rfl) (by kernel_rfl) (fun _ _ _ h => h) (Or.inl ⟨by rfl, ?_⟩) hHeld ?_
                      · intro wz hSw
                        go_simp
                      simp only [Act.put, List.setIfInBounds_toArray, List.set_cons_zero, List.set_cons_succ]
                      refine V.take 22 152 (.bool (!y2)) [true, true, true, true, true, true, true, true, true, true, true, true, true, true, true, true, true, true, true, true, true, true, true] rfl rfl (by kernel_rfl) (by kernel_rfl) (by kernel_rfl) (by kernel_rfl) (fun _ _ _ h => h) (Or.inl ⟨by rfl, ?_⟩) hHeld ?_
                      · intro wz hSw
                        go_simp
                      simp only [Act.put, List.setIfInBounds_toArray, List.set_cons_zero, List.set_cons_succ]
                      refine wpAnyH_done (by kernel_rfl) ?_ _
                      cases y2 with
                      | false =>
                        have ho := HPa rfl
                        subst ho
                        have HE : Hid (Below w.heap.size w w13) := HBq.out.trans (HB13.out.mono HBq.out.size)
                        clear HPa HNx2 HNs HNp HNx1 HO
                        go_wp2
                        go_ret2
                        exact ⟨rfl, HE.out⟩
                      | true =>
                        have HT : Hid ((∀ x ∈ dom.take (q + 1), ah ≤ M.length + (Pr.made forth x).length ∧ Pr.comesB back (u, M) (Pr.made forth x) = true) ∧ Below w9.heap.size w9 w13 ∧ Below wc.heap.size wc w13) := ⟨HNx2.out HLe.out rfl, HJ.out.2.1.trans (HB13.out.mono HJ.out.2.1.size), HJ.out.2.2.trans (HB13.out.mono HJ.out.2.2.size)⟩
                        clear HPa HNx2
                        go_wp2
                        go_roundw
                        case rel => exact ⟨q + 1, by omega, by go_num, HT⟩
                        case measure => simp [RowKit.intOf]; omega
                  · have hql : q = dom.length := by omega
                    have hJ := HJ.out
                    rw [hql, List.take_length] at hJ
                    have HT : Hid ((∀ x ∈ dom.take (k + 1), Pr.comesB back (x, Pr.made forth x) [] = true ∧ ∀ v ∈ dom, ah ≤ (Pr.made forth x).length + (Pr.made forth v).length ∧ Pr.comesB back (x, Pr.made forth x) (Pr.made forth v) = true) ∧ Below w9.heap.size w9 wr) := ⟨HNx1.out hJ.1, hJ.2.1⟩
                    clear hJ hql HNs HNp HNx1
                    go_wp2
                    go_roundw
                    case rel => exact ⟨k + 1, by omega, by go_num, HT⟩
                    case measure => simp [RowKit.intOf]; omega
            · have hkl : k = dom.length := by omega
              have hI := HI.out
              rw [hkl, List.take_length] at hI
              have ho : o = true := by
                rw [← HO.out]
                exact Pr.yes_all HPf.out.2.1 HPf.out.2.2.1 HNb.out HT9.out.2.2 (by rw [hah']; exact hI.1)
              subst ho
              have HE : Hid (Below w.heap.size w wr) := HBr
              clear hI hkl HO
              go_wp2
              go_ret2
              exact ⟨rfl, HE.out⟩

set_option maxHeartbeats 8000000 in
theorem rSure14_bad (w : World) (va vb : Value) (forth back : List K.Rule) (Ra : V.Rus w va forth) (Rb : V.Rus w vb back) (vs : Value) (s : List S.Sp) (Rs : S.Rd w vs s) (Fs : S.Fit s) (hbad : ¬ ((K.rulesF forth).1 = 0 ∧ (K.rulesF back).1 = 0 ∧ S.wrongE s = 0 ∧ ¬ 40 < S.total s ∧ Pr.plainB forth = true ∧ Pr.plainB back = true)) :
    Calls Try.prog 7 #[va, vb, vs] w fun e w' => e = .returned (.tuple #[.bool (Pr.sureF forth back s).1, .int .i64 (Pr.sureF forth back s).2]) ∧ Below w.heap.size w w' := by
  have HW1 : Hid (Calls Try.prog 16 #[va] w fun e w' => e = .returned (.agg #[.int .i64 (K.rulesF forth).1, .int .i64 (K.rulesF forth).2]) ∧ Below w.heap.size w w') := rWrong8_any w va forth Ra
  have HW2 : Hid (∀ X, Below w.heap.size w X → Calls Try.prog 16 #[vb] X fun e w' => e = .returned (.agg #[.int .i64 (K.rulesF back).1, .int .i64 (K.rulesF back).2]) ∧ Below X.heap.size X w') := fun X hX => rWrong8_any X vb back (Rb.below hX)
  have HC : Hid (∀ X, Below w.heap.size w X → Calls Try.prog 17 #[vs] X fun e w' => e = .returned (.tuple #[.int .i64 (cntF s), .int .i64 (S.wrongE s)]) ∧ Below X.heap.size X w') := fun X hX => refcount_any X vs s (Rs.below hX (Nat.le_refl _)) Fs
  have HP1 : Hid (∀ X, Below w.heap.size w X → Calls Try.prog 18 #[va] X fun e w' => e = .returned (.bool (Pr.plainB forth)) ∧ Below X.heap.size X w') := fun X hX => rPlain14_any X va forth (Ra.below hX)
  have HP2 : Hid (∀ X, Below w.heap.size w X → Calls Try.prog 18 #[vb] X fun e w' => e = .returned (.bool (Pr.plainB back)) ∧ Below X.heap.size X w') := fun X hX => rPlain14_any X vb back (Rb.below hX)
  have HU : Hid ((Pr.plainB forth = false → Pr.undoesB forth back (Pr.numbers s) = false) ∧ (Pr.plainB back = false → Pr.undoesB forth back (Pr.numbers s) = false)) := ⟨Pr.no_plain1, Pr.no_plain2⟩
  obtain ⟨⟨o1, o2⟩, HO⟩ : ∃ o, Hid (Pr.sureF forth back s = o) := ⟨_, rfl⟩
  rw [HO.out]
  unfold Pr.sureF at HO
  have htot : S.wrongE s = 0 → cntF s = S.total s := fun h => by unfold cntF; rw [if_pos h]
  have hle : S.wrongE s = 0 → S.total s ≤ 1114112 := fun h => total_le (S.wrongE_zero.1 h).2 (by omega)
  obtain ⟨aa, ca, rfl⟩ := Ra.len
  obtain ⟨ba, cb, rfl⟩ := Rb.len
  obtain ⟨xo, xc, rfl⟩ := Rs.len
  clear Ra Rb Rs Fs
  generalize K.rulesF forth = f1 at *
  obtain ⟨f1, g1⟩ := f1
  generalize K.rulesF back = f2 at *
  obtain ⟨f2, g2⟩ := f2
  generalize S.wrongE s = we at *
  generalize cntF s = ct at *
  generalize Pr.plainB forth = z1 at *
  generalize Pr.plainB back = z2 at *
  generalize Pr.undoesB forth back (Pr.numbers s) = z at *
  generalize S.total s = tt at *
  simp only at *
  have HBad : Hid (¬ (f1 = 0 ∧ f2 = 0 ∧ we = 0 ∧ ¬ 40 < tt ∧ z1 = true ∧ z2 = true)) := hbad
  clear hbad
  go_enter Try.func7, Try.ntmps7
  go_wp2_with fail
  refine HW1.out.mono ?_
  rintro e w1 ⟨rfl, b1⟩
  have HA1 : Hid (∀ o, Below w.heap.size w (w1.alloc o)) := fun o => b1.alloc b1.size o
  clear b1 HW1
  by_cases h1 : f1 = 0
  · subst h1
    have HO1 := HO.out
    rw [if_neg (by simp)] at HO1
    have hC := HW2.out _ (HA1.out (.cells #[.int .i64 0, .int .i64 g1] 34))
    clear HO
    go_wp2_with fail
    refine hC.mono ?_
    rintro e w2 ⟨rfl, b2⟩
    have hB2 : Below w.heap.size w w2 := (HA1.out _).trans (b2.mono (HA1.out _).size)
    have HA2 : Hid (∀ o, Below w.heap.size w (w2.alloc o)) := fun o => hB2.alloc hB2.size o
    clear b2 hC HW2 hB2 HA1
    by_cases h2 : f2 = 0
    · subst h2
      rw [if_neg (by simp)] at HO1
      have hC := HC.out _ (HA2.out (.cells #[.int .i64 0, .int .i64 g2] 34))
      have HO2 : Hid _ := HO1
      clear HO1
      go_wp2_with fail
      refine hC.mono ?_
      rintro e w3 ⟨rfl, b3⟩
      have HB3 : Hid (Below w.heap.size w w3) := (HA2.out _).trans (b3.mono (HA2.out _).size)
      clear b3 hC HC HA2
      by_cases h3 : we = 0
      · subst h3
        have ht := htot rfl
        subst ht
        have hle' := hle rfl
        have HO3 := HO2.out
        rw [if_neg (by simp)] at HO3
        by_cases h4 : 40 < ct
        · rw [if_pos h4] at HO3
          cases HO3
          clear HO2 HU htot hle HP1 HP2 HBad
          go_wp2
          go_ret2
          exact ⟨rfl, HB3.out⟩
        · rw [if_neg h4] at HO3
          cases HO3
          have hC := HP1.out _ HB3.out
          have HBd2 : Hid (z1 = true → z2 = false) := fun hz => by
            cases z2 with
            | false => rfl
            | true => exfalso; have hb := HBad.out; simp [hz] at hb; omega
          clear HO2 htot hle HP1 HBad
          go_wp2_with fail
          refine hC.mono ?_
          rintro e w4 ⟨rfl, b4⟩
          have HB4 : Hid (Below w.heap.size w w4) := HB3.out.trans (b4.mono HB3.out.size)
          clear b4 hC
          cases z1 with
          | false =>
            have hz := HU.out.1 rfl
            subst hz
            clear HU HP2 HBd2
            go_wp2
            go_ret2
            exact ⟨rfl, HB4.out⟩
          | true =>
            have hz2 := HBd2.out rfl
            subst hz2
            have hz := HU.out.2 rfl
            subst hz
            have hC := HP2.out _ HB4.out
            clear HU HP2 HBd2
            go_wp2_with fail
            refine hC.mono ?_
            rintro e w5 ⟨rfl, b5⟩
            have HB5 : Hid (Below w.heap.size w w5) := HB4.out.trans (b5.mono HB4.out.size)
            clear b5 hC
            go_wp2
            go_ret2
            exact ⟨rfl, HB5.out⟩
      · have HO3 := HO2.out
        rw [if_pos h3] at HO3
        cases HO3
        clear HO2 HU htot hle HP1 HP2 HBad
        go_wp2
        go_ret2
        exact ⟨rfl, HB3.out⟩
    · rw [if_pos h2] at HO1
      cases HO1
      clear HC HU htot hle HP1 HP2 HBad
      go_wp2
      go_quiet (fail)
      go_wp2
      go_ret2
      exact ⟨rfl, below_drewN (HA2.out _) _⟩
  · have HO1 := HO.out
    rw [if_pos h1] at HO1
    cases HO1
    clear HO HC HU htot hle HW2 HP1 HP2 HBad
    go_wp2
    go_quiet (fail)
    go_wp2
    go_ret2
    exact ⟨rfl, below_drewN (HA1.out _) _⟩

theorem rSure14_any (w : World) (va vb : Value) (forth back : List K.Rule) (Ra : V.Rus w va forth) (Rb : V.Rus w vb back) (vs : Value) (s : List S.Sp) (Rs : S.Rd w vs s) (Fs : S.Fit s) :
    Calls Try.prog 7 #[va, vb, vs] w fun e w' => e = .returned (.tuple #[.bool (Pr.sureF forth back s).1, .int .i64 (Pr.sureF forth back s).2]) ∧ Below w.heap.size w w' := by
  by_cases h : (K.rulesF forth).1 = 0 ∧ (K.rulesF back).1 = 0 ∧ S.wrongE s = 0 ∧ ¬ 40 < S.total s ∧ Pr.plainB forth = true ∧ Pr.plainB back = true
  · obtain ⟨h1, h2, h3, h4, h5, h6⟩ := h
    have e : Pr.sureF forth back s = (Pr.undoesB forth back (Pr.numbers s), 0) := by
      unfold Pr.sureF
      rw [if_neg (by simp [h1]), if_neg (by simp [h2]), if_neg (by simp [h3]), if_neg h4]
    rw [e]
    exact rSure14_ok w va vb forth back Ra Rb vs s Rs Fs h1 h2 h3 h4 h5 h6
  · exact rSure14_bad w va vb forth back Ra Rb vs s Rs Fs h

end Go.Proofs.Ytkkocnkfdepoiaa

/-
  scriptlaw14.PairTells: it returns true.
-/
namespace Go.Proofs.Ytkkocnkfdepoiaa
open Go.RowKit Go.Shelf
set_option maxRecDepth 20000
set_option linter.unusedSimpArgs false
set_option linter.unusedVariables false

set_option maxHeartbeats 2000000 in
theorem pairTells_any (w : World) (va vb : Value) (forth back : List K.Rule) (Ra : V.Rus w va forth) (Rb : V.Rus w vb back) (vs : Value) (s : List S.Sp) (Rs : S.Rd w vs s) (Fs : S.Fit s) :
    Calls Try.prog 3 #[va, vb, vs] w fun e w' => e = .returned (.bool true) ∧ Below w.heap.size w w' := by
  have HS : Hid (Calls Try.prog 6 #[va, vb, vs] w fun e w' => e = .returned (.tuple #[.bool (Pr.sureF forth back s).1, .int .i64 (Pr.sureF forth back s).2]) ∧ Below w.heap.size w w') := pSure_any w va vb forth back Ra Rb vs s Rs Fs
  have HR : Hid (∀ X, Below w.heap.size w X → Calls Try.prog 7 #[va, vb, vs] X fun e w' => e = .returned (.tuple #[.bool (Pr.sureF forth back s).1, .int .i64 (Pr.sureF forth back s).2]) ∧ Below X.heap.size X w') := fun X hX => rSure14_any X va vb forth back (Ra.below hX) (Rb.below hX) vs s (Rs.below hX (Nat.le_refl _)) Fs
  obtain ⟨aa, ca, rfl⟩ := Ra.len
  obtain ⟨ba, cb, rfl⟩ := Rb.len
  obtain ⟨so, sc, rfl⟩ := Rs.len
  generalize Pr.sureF forth back s = o at *
  obtain ⟨z, e2⟩ := o
  simp only at HS HR
  clear Ra Rb Rs Fs
  go_enter Try.func3, Try.ntmps3
  go_wp2_with fail
  refine HS.out.mono ?_
  rintro e w1 ⟨rfl, b1⟩
  have hR := HR.out _ b1
  have HB1 : Hid (Below w.heap.size w w1) := b1
  clear b1 HS HR
  go_wp2_with fail
  refine hR.mono ?_
  rintro e w2 ⟨rfl, b2⟩
  have HB2 : Hid (Below w.heap.size w w2) := HB1.out.trans (b2.mono HB1.out.size)
  clear b2 hR HB1
  cases z with
  | false => go_wp2; go_ret; exact ⟨by simp, HB2.out⟩
  | true => go_wp2; go_ret; exact ⟨by simp, HB2.out⟩

end Go.Proofs.Ytkkocnkfdepoiaa
