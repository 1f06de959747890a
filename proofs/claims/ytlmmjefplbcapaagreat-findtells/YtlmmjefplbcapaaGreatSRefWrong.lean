/-
  find.Find: all that the program tells.
-/
import Derived.Test.YtlmmjefplbcapaaGreatFdAns
import Derived.Test.YtlmmjefplbcapaaGreatRows
import Derived.Test.YtlmmjefplbcapaaGreatKRight
import Derived.Test.YtlmmjefplbcapaaGreatKI32
import Derived.Test.YtlmmjefplbcapaaGreatSWrong
namespace Go.Proofs.YtlmmjefplbcapaaGreat
open Go.RowKit Go.Shelf
set_option maxRecDepth 20000
set_option linter.unusedSimpArgs false
set_option linter.unusedVariables false

theorem Fd.lies {F : Nat} {w : World} {v : Value} {X : List Al.Lk} (h : w.ownsRow F 44 5 v X.length (Al.lcells X)) : ∃ ao cap, v = .slice ao X.length cap ∧ X.length ≤ cap ∧ Fd.At w ao X := by
  obtain ⟨ao, cap, rfl, hc⟩ := Al.lies h
  refine ⟨ao, cap, rfl, ?_, hc⟩
  rcases h.2 with ⟨hv, h0⟩ | ⟨g, c, cur, hv, _, _, hle, _⟩
  · have h := Value.slice.inj hv; omega
  · have h := Value.slice.inj hv; omega

set_option maxHeartbeats 8000000 in
theorem fdFind_any (w : World) (v : Value) (l : List K.Rule) (R0 : V.Rus w v l) (vt : Value) (t : List Int) (Rt : L.Rd w vt .i32 t) (hcap : ∀ a n c, vt = .slice a n c → t.length ≤ c) (ht : t.length ≤ 140737488355328) (vp : Value) (p : List Int) (Rp : L.Rd w vp .i32 p) (hp : p.length ≤ 140737488355328) :
    Calls Tryz.prog 4 #[v, vt, vp] w fun e w' => ∃ (v' : Value) (o : List J.Hd × Int × Int), e = .returned (.tuple #[v', .agg #[.int .i64 (Fd.ansF l t p o).2.1, .int .i64 (Fd.ansF l t p o).2.2]]) ∧ Gm.Chk l t o ∧ w'.ownsRow w.heap.size 31 2 v' (Fd.ansF l t p o).1.length (Al.scells (Fd.ansF l t p o).1) ∧ Below w.heap.size w w' := by
  have HA : Hid (∀ o, Below w.heap.size w (w.alloc o)) := fun o => (Below.refl _ w).alloc (Nat.le_refl _) o
  have HLk : Hid (∀ o, Calls Tryz.prog 6 #[v, vt] (w.alloc o) fun e w' => ∃ (v' : Value) (o' : List J.Hd × Int × Int), e = .returned (.tuple #[v', .agg #[.int .i64 (Al.ans l t o').2.1, .int .i64 (Al.ans l t o').2.2]]) ∧ Gm.Chk l t o' ∧ w'.ownsRow (w.alloc o).heap.size 44 5 v' (Al.ans l t o').1.length (Al.lcells (Al.ans l t o').1) ∧ Below (w.alloc o).heap.size (w.alloc o) w') := fun o => alLinks_any _ v l (R0.below (HA.out o)) vt t (Rt.below (HA.out o) (Nat.le_refl _)) ht
  have HR : Hid (V.Rus w v l) := R0
  have HT : Hid (L.Rd w vt .i32 t) := Rt
  have HP : Hid (L.Rd w vp .i32 p) := Rp
  obtain ⟨va, vc, rfl⟩ := R0.len
  obtain ⟨xo, xc, rfl, _⟩ := Rt
  obtain ⟨po, pc, rfl, _⟩ := Rp
  have hxc := hcap _ _ _ rfl
  clear R0 hcap
  go_enter Tryz.func4, Tryz.ntmps4
  go_wp2_with fail
  refine (HLk.out _).mono ?_
  rintro e w1 ⟨v1, o, rfl, hch, own1, b1⟩
  obtain ⟨h1, B1, s1⟩ := K.one_box b1
  have HCh : Hid (Gm.Chk l t o) := hch
  have HFa : Hid ((Al.ans l t o).2.1 = 0 → (Al.ans l t o).2.2 = 0 ∧ (K.rulesF l).1 = 0 ∧ K.textE t = 0 ∧ l.length ≤ 200 ∧ t.length ≤ 4000 ∧ (K.play l (8 * t.length + 40) [] t 0 0).1 = 0 ∧ (K.play l (8 * t.length + 40) [] t 0 0).2.1.length ≤ 4000 ∧ (Al.ans l t o).1.length ≤ 32040 ∧ Fd.Row ((K.play l (8 * t.length + 40) [] t 0 0).2.1.length : Int) 0 (Al.ans l t o).1 ∧ (K.play l (8 * t.length + 40) [] t 0 0).2.1 = (Al.ans l t o).1.flatMap (Al.cameOf l t) ∧ ∀ x ∈ (Al.ans l t o).1, Al.Fits l t x) := Fd.facts hch
  have HAn : Hid (Fd.ansF l t p o = if (Al.ans l t o).2.1 = 0 then (if Fd.wrongF p = 0 then (Fd.hitsF (K.play l (8 * t.length + 40) [] t 0 0).2.1 p (Al.ans l t o).1, 0, 0) else ([], Fd.wrongF p, 1)) else ([], (Al.ans l t o).2.1, (Al.ans l t o).2.2)) := rfl
  generalize Al.ans l t o = an at *
  obtain ⟨X, f1, f2⟩ := an
  simp only at own1 HFa HAn
  obtain ⟨p1, pc1, rfl, hpc1, hat1⟩ := Fd.lies own1
  have HAt : Hid (Fd.At w1 p1 X) := hat1
  have HB1 : Hid (Below w.heap.size w w1 ∧ w1.heap[w.heap.size]? = some (.cells #[.int .i64 0, .int .i64 0] 27)) := ⟨B1, h1⟩
  obtain ⟨x0, x1, f0, f3⟩ := K.box2 h1
  have k0 : ∀ o, (w1.alloc o).cell? ⟨w.heap.size, 0, none⟩ = some (.int .i64 0) := fun o => K.alloc_cell x0 o
  have k1 : ∀ o, (w1.alloc o).cell? ⟨w.heap.size, 1, none⟩ = some (.int .i64 0) := fun o => K.alloc_cell x1 o
  have g0 : ∀ o, (w1.alloc o).frozen? ⟨w.heap.size, 0, none⟩ = false := fun o => K.alloc_free h1 o 0
  have g1 : ∀ o, (w1.alloc o).frozen? ⟨w.heap.size, 1, none⟩ = false := fun o => K.alloc_free h1 o 1
  clear HLk hch own1 b1 B1 h1 hat1 x0 x1 f0 f3
  by_cases q : f1 = 0
  · subst q
    obtain ⟨rfl, z1, z2, hl200, ht4, hp0, hC4, hXl, hRow, hCE, hFit⟩ := HFa.out rfl
    have HG : Hid (Fd.Row ((K.play l (8 * t.length + 40) [] t 0 0).2.1.length : Int) 0 X ∧ (K.play l (8 * t.length + 40) [] t 0 0).2.1 = X.flatMap (Al.cameOf l t) ∧ ∀ x ∈ X, Al.Fits l t x) := ⟨hRow, hCE, hFit⟩
    have HAn2 : Hid (Fd.ansF l t p o = if Fd.wrongF p = 0 then (Fd.hitsF (K.play l (8 * t.length + 40) [] t 0 0).2.1 p X, 0, 0) else ([], Fd.wrongF p, 1)) := by
      have := HAn.out
      rw [if_pos rfl] at this
      exact this
    have HWr : Hid (∀ o, Calls Tryz.prog 7 #[.slice po p.length pc] (w1.alloc o) fun e w' => e = .returned (.int .i64 (Fd.wrongF p)) ∧ Below (w1.alloc o).heap.size (w1.alloc o) w') := fun o => by
      have hb := HB1.out.1.alloc HB1.out.1.size o
      exact fdWrong_any _ _ p (HP.out.below hb (Nat.le_refl _)) hp
    have hp00 : Fd.wrongF p = 0 → 0 < p.length := fun h => by
      refine Nat.pos_of_ne_zero fun e => ?_
      unfold Fd.wrongF at h
      by_cases h2 : K.textE p = 0
      · rw [if_pos h2, if_pos e] at h; exact absurd h (by decide)
      · rw [if_neg h2] at h; exact h2 h
    have HP0 : Hid (Fd.wrongF p = 0 → 0 < p.length) := hp00
    generalize (K.play l (8 * t.length + 40) [] t 0 0).2.1 = C at *
    generalize Fd.wrongF p = ew at *
    clear HFa HAn z1 z2 hp0 hRow hCE hFit k0 k1 g0 g1 hp00
    go_wp2_with fail
    refine (HWr.out _).mono ?_
    rintro e w2 ⟨rfl, b2⟩
    have hal : Below w1.heap.size w1 (w1.alloc (.cells #[.int .i64 0, .int .i64 0] 27)) := (Below.refl _ w1).alloc (Nat.le_refl _) _
    have hB12 : Below w1.heap.size w1 w2 := hal.trans (b2.mono hal.size)
    have hB2 : Below w.heap.size w w2 := HB1.out.1.trans (hB12.mono HB1.out.1.size)
    have hx2 := K.blk_below HB1.out.2 hB12
    have HB2 : Hid (Below w.heap.size w w2 ∧ w2.heap[w.heap.size]? = some (.cells #[.int .i64 0, .int .i64 0] 27) ∧ Below w1.heap.size w1 w2) := ⟨hB2, hx2, hB12⟩
    clear b2 hal hB12 hB2 HWr
    by_cases q2 : ew = 0
    · subst q2
      have hA := HAn2.out
      rw [if_pos rfl] at hA
      have hpl := HP0.out rfl
      have HCm : Hid (Calls Tryz.prog 9 #[.slice va l.length vc, .slice xo t.length xc, .slice p1 X.length pc1] w2 fun e w' => ∃ zo zc, e = .returned (.slice zo C.length zc) ∧ L.Rd w' (.slice zo C.length zc) .i32 C ∧ C.length ≤ zc ∧ Below w2.heap.size w2 w') := by
        show Calls _ _ _ _ _
        have h := fdCame_any w2 va vc l (HR.out.below HB2.out.1) xo xc t (HT.out.below HB2.out.1 (Nat.le_refl _)) hxc ht4 p1 pc1 X (HAt.out.below HB2.out.2.2) hXl hl200 HG.out.2.2 (by rw [← HG.out.2.1]; exact hC4)
        rw [← HG.out.2.1] at h
        exact h
      have HHt : Hid (∀ w3 zo zc, L.Rd w3 (.slice zo C.length zc) .i32 C → C.length ≤ zc → Below w2.heap.size w2 w3 → Calls Tryz.prog 8 #[.slice p1 X.length pc1, .slice zo C.length zc, .slice po p.length pc] w3 fun e w' => ∃ v', e = .returned v' ∧ w'.ownsRow w3.heap.size 31 2 v' (Fd.hitsF C p X).length (Al.scells (Fd.hitsF C p X)) ∧ Below w3.heap.size w3 w') := fun w3 zo zc h1 h2 h3 => by
        have hb : Below w.heap.size w w3 := HB2.out.1.trans (h3.mono HB2.out.1.size)
        exact fdHits_any w3 p1 pc1 X ((HAt.out.below HB2.out.2.2).below h3) hXl hpc1 C HG.out.1 zo zc h1 h2 hC4 _ p (HP.out.below hb (Nat.le_refl _)) hpl hp
      clear HAn2 hx2
      have HA2 : Hid _ := hA
      clear hA
      go_wp2_with fail
      refine HCm.out.mono ?_
      rintro e w3 ⟨zo, zc, rfl, d3, hzc, b3⟩
      have hH := HHt.out w3 zo zc d3 hzc b3
      have HB3 : Hid (Below w.heap.size w w3 ∧ w3.heap[w.heap.size]? = some (.cells #[.int .i64 0, .int .i64 0] 27)) := ⟨HB2.out.1.trans (b3.mono HB2.out.1.size), K.blk_below HB2.out.2.1 b3⟩
      clear HCm HHt d3 b3
      go_wp2_with fail
      refine hH.mono ?_
      rintro e w4 ⟨v4, rfl, own4, b4⟩
      have h4 := K.blk_below HB3.out.2 b4
      have hB4 : Below w.heap.size w w4 := HB3.out.1.trans (b4.mono HB3.out.1.size)
      obtain ⟨x0, x1, f0, f3⟩ := K.box2 h4
      have HOut : Hid (((w4.setCell ⟨w.heap.size, 0, none⟩ (.int .i64 0)).setCell ⟨w.heap.size, 1, none⟩ (.int .i64 0)).ownsRow w.heap.size 31 2 v4 (Fd.hitsF C p X).length (Al.scells (Fd.hitsF C p X)) ∧ Below w.heap.size w ((w4.setCell ⟨w.heap.size, 0, none⟩ (.int .i64 0)).setCell ⟨w.heap.size, 1, none⟩ (.int .i64 0))) := by
        refine ⟨Al.held (L.owns_base own4 HB3.out.1.size) fun k hk hlt => ?_, (hB4.setCell (p := ⟨w.heap.size, 0, none⟩) (Nat.le_refl _) _).setCell (p := ⟨w.heap.size, 1, none⟩) (Nat.le_refl _) _⟩
        have hk2 := (own4.lt k hk).1
        have hs3 := lt_of_block HB3.out.2
        have hn : k ≠ w.heap.size := by omega
        rw [heap_setCell_other _ ⟨w.heap.size, 1, none⟩ k _ (by simpa using hn), heap_setCell_other _ ⟨w.heap.size, 0, none⟩ k _ (by simpa using hn)]
      clear hH own4 b4 h4 hB4
      go_wp2
      refine bodyPost_ret (v := .tuple #[v4, .agg #[.int .i64 0, .int .i64 0]]) (by simp [results, Tryz.results4, go_sem, *]) rfl ?_
      exact ⟨_, o, by rw [HA2.out], HCh.out, by rw [HA2.out]; exact HOut.out.1, HOut.out.2⟩
    · have hA := HAn2.out
      rw [if_neg q2] at hA
      have HA2 : Hid _ := hA
      clear hA
      obtain ⟨x0, x1, f0, f3⟩ := K.box2 hx2
      have HOut : Hid (Below w.heap.size w ((w2.setCell ⟨w.heap.size, 0, none⟩ (.int .i64 ew)).setCell ⟨w.heap.size, 1, none⟩ (.int .i64 1))) := (HB2.out.1.setCell (p := ⟨w.heap.size, 0, none⟩) (Nat.le_refl _) _).setCell (p := ⟨w.heap.size, 1, none⟩) (Nat.le_refl _) _
      clear HAn2 hx2
      go_wp2
      refine bodyPost_ret (v := .tuple #[.slice none 0 0, .agg #[.int .i64 ew, .int .i64 1]]) (by simp [results, Tryz.results4, go_sem, *]) rfl ?_
      exact ⟨_, o, by rw [HA2.out], HCh.out, by rw [HA2.out]; exact World.ownsRow_nil _ _ _ _, HOut.out⟩
  · have hA := HAn.out
    rw [if_neg q] at hA
    have HBd : Hid (∀ o x y, Below w.heap.size w (((w1.alloc o).setCell ⟨w.heap.size, 0, none⟩ x).setCell ⟨w.heap.size, 1, none⟩ y)) := fun o x y => ((HB1.out.1.alloc HB1.out.1.size o).setCell (p := ⟨w.heap.size, 0, none⟩) (Nat.le_refl _) _).setCell (p := ⟨w.heap.size, 1, none⟩) (Nat.le_refl _) _
    have HA2 : Hid _ := hA
    clear hA
    clear HFa HAn
    go_wp2
    go_region
    go_wp2
    refine bodyPost_ret (v := .tuple #[.slice none 0 0, .agg #[.int .i64 f1, .int .i64 f2]]) (by simp [results, Tryz.results4, go_sem, *]) rfl ?_
    exact ⟨_, o, by rw [HA2.out], HCh.out, by rw [HA2.out]; exact World.ownsRow_nil _ _ _ _, (HBd.out _ _ _).drew⟩

end Go.Proofs.YtlmmjefplbcapaaGreat

/-
  Whether all runes are right: what the document's text answers.
-/
namespace Go.Proofs.YtlmmjefplbcapaaGreat
open Go.RowKit
set_option maxRecDepth 20000
set_option linter.unusedSimpArgs false
set_option linter.unusedVariables false

set_option maxHeartbeats 400000 in
theorem refright_any (r : Int) (w : World) :
    Calls Tryz.prog 36 #[.int .i32 r] w fun e w' => e = .returned (.bool (M.right r)) ∧ w' = w := by
  go_enter Tryz.func36, Tryz.ntmps36
  go_wp2
  all_goals go_ret
  all_goals refine ⟨L.ret_bool ?_, rfl⟩
  all_goals (unfold M.right; rw [Bool.eq_iff_iff]; simp; try omega)

set_option maxHeartbeats 1000000 in
theorem refall_any (w : World) (v : Value) (l : List Int) (R : L.Rd w v .i32 l) (hl : l.length ≤ 4000) :
    Calls Tryz.prog 24 #[v] w fun e w' => e = .returned (.bool (K.allR l)) ∧ Below w.heap.size w w' := by
  obtain ⟨ao, cap, rfl, hn, hc⟩ := R
  go_enter Tryz.func24, Tryz.ntmps24
  go_wp2
  go_loopw [7] (fun i wr => ∃ k : Nat, k ≤ l.length ∧ i = .int .i64 k ∧ Hid (K.allR (l.take k) = true) ∧ Hid (Below w.heap.size w wr)) (fun i _ => l.length - (intOf i).toNat)
  case atStart => exact ⟨0, Nat.zero_le _, rfl, by show K.allR (l.take 0) = true; simp [K.allR], Below.refl _ w⟩
  case round =>
    obtain ⟨k, hk, rfl, HW, HB⟩ := hrel
    by_cases hlt : k < l.length
    · obtain ⟨b, off, rfl, hcell⟩ := hc (by intro h; subst h; simp at hlt)
      obtain ⟨x, hx⟩ : ∃ x, l[k]? = some x := ⟨l[k], by simp [hlt]⟩
      have c1 := hcell k x hx
      have hb := L.block_lt c1
      rw [← HB.out.cell (p := ⟨b, _, none⟩) hb] at c1
      have HX : Hid (l[k]? = some x) := hx
      have hsz := HB.out.size
      have hob := refright_any x wr
      clear hx hcell hc
      cases hbad : M.right x with
      | false =>
        rw [hbad] at hob
        have HR : Hid (M.right x = false) := hbad
        clear hbad
        go_wp2_with fail
        refine hob.mono ?_
        rintro e w1 ⟨rfl, rfl⟩
        go_wp2
        go_ret
        refine ⟨L.ret_bool ?_, HB.out⟩
        symm
        exact List.all_eq_false.2 ⟨_, List.mem_of_getElem? HX.out, by rw [HR.out]; simp⟩
      | true =>
        rw [hbad] at hob
        have HR : Hid (M.right x = true) := hbad
        clear hbad
        go_wp2_with fail
        refine hob.mono ?_
        rintro e w1 ⟨rfl, rfl⟩
        go_wp2
        go_roundw
        case rel =>
          refine ⟨k + 1, by omega, by go_num, ?_, HB.out⟩
          show K.allR (l.take (k + 1)) = true
          have h := HW.out
          unfold K.allR at h ⊢
          rw [List.take_add_one, HX.out, List.all_append, h]
          simp [HR.out]
        case measure => simp [intOf]; omega
    · go_wp2
      go_ret
      refine ⟨L.ret_bool ?_, HB.out⟩
      have h := HW.out
      rw [List.take_of_length_le (by omega)] at h
      rw [h]

theorem K.first3 {e1 e2 e3 o t : Int} (h : (if e1 ≠ 0 then e1 else if e2 ≠ 0 then e2 else if e3 ≠ 0 then e3 else t) = o) : ∀ (k : Nat) e, [e1, e2, e3][k]? = some e → (∀ (j : Nat) e', j < k → [e1, e2, e3][j]? = some e' → e' = 0) → e ≠ 0 → e = o := by
  intro k e hk hj he
  match k, hk with
  | 0, hk =>
    simp at hk
    subst hk
    rw [if_pos he] at h
    exact h
  | 1, hk =>
    simp at hk
    subst hk
    have h0 := hj 0 e1 (by omega) rfl
    rw [if_neg (by simp [h0]), if_pos he] at h
    exact h
  | 2, hk =>
    simp at hk
    subst hk
    have h0 := hj 0 e1 (by omega) rfl
    have h1 := hj 1 e2 (by omega) rfl
    rw [if_neg (by simp [h0]), if_neg (by simp [h1]), if_pos he] at h
    exact h
  | k + 3, hk => simp at hk


end Go.Proofs.YtlmmjefplbcapaaGreat

/-
  What the document's Wrong answers of any spans.
-/
namespace Go.Proofs.YtlmmjefplbcapaaGreat
open Go.RowKit

set_option maxHeartbeats 2000000 in
theorem refwrong_any (w : World) (v : Value) (l : List S.Sp) (R : S.Rd w v l) (hf : S.Fit l) :
    Calls Tryz.prog 54 #[v] w fun e w' => e = .returned (.int .i64 (S.wrongE l)) ∧ Below w.heap.size w w' := by
  obtain ⟨ao, cap, rfl, hn, hc⟩ := R
  unfold S.wrongE
  by_cases hbig : 200 < l.length
  · rw [if_pos hbig]
    go_enter Tryz.func54, Tryz.ntmps54
    go_wp2
    go_ret
    exact ⟨rfl, Below.refl _ w⟩
  · rw [if_neg hbig]
    go_enter Tryz.func54, Tryz.ntmps54
    go_wp2
    go_loopw [10] (fun i wr => ∃ k : Nat, k ≤ l.length ∧ i = .int .i64 k ∧ Hid (∃ b, S.wgo 0 l = S.wgo b (l.drop k) ∧ (k = 0 → b = 0) ∧ ∀ p, 0 < k → l[k-1]? = some p → b = p.2 + 2 ∧ p.2 ≤ 1114111) ∧ Hid (Below w.heap.size w wr)) (fun i _ => l.length - (intOf i).toNat)
    case atStart => exact ⟨0, Nat.zero_le _, rfl, ⟨0, by simp, fun _ => rfl, fun p h => absurd h (Nat.lt_irrefl _)⟩, Below.refl _ w⟩
    case round =>
      obtain ⟨k, hk, rfl, HW, HB⟩ := hrel
      by_cases hlt : k < l.length
      · obtain ⟨b, off, rfl, hcell⟩ := hc (by intro h; subst h; simp at hlt)
        obtain ⟨x, hx⟩ : ∃ x, l[k]? = some x := ⟨l[k], by simp [hlt]⟩
        have c0 := hcell k x hx
        have hb := L.block_lt c0.1
        have cc : ∀ o, wr.cell? ⟨b, o, none⟩ = w.cell? ⟨b, o, none⟩ := fun o => HB.out.cell (p := ⟨b, o, none⟩) hb
        have c1 := c0.1
        have c2 := c0.2
        rw [← cc] at c1 c2
        have HX : Hid (l[k]? = some x) := hx
        have fx := hf.at hx
        have hsz := HB.out.size
        have hne : b ≠ wr.heap.size := by omega
        obtain ⟨x1, x2⟩ := x
        simp only at c1 c2 fx
        clear c0 hx
        have HB2 : Hid (∀ o, Below w.heap.size w (wr.alloc o)) := fun o => HB.out.alloc hsz o
        cases hbad : S.bad (x1, x2) with
        | true =>
          have HR : Hid (S.bad (x1, x2) = true) := hbad
          have hE : Hid (S.wgo 0 l = 3) := by
            obtain ⟨bb, he, _⟩ := HW.out
            show S.wgo 0 l = 3
            rw [he, wgo_drop HX.out, HR.out]; rfl
          clear cc hcell hc
          by_cases h1 : x1 < 0
          · go_wp2
            go_ret
            exact ⟨by rw [hE.out]; rfl, HB2.out _⟩
          · by_cases h3 : x2 < x1
            · go_wp2
              go_ret
              exact ⟨by rw [hE.out]; rfl, HB2.out _⟩
            · have h2 : 1114111 < x2 := by
                simp [S.bad] at hbad; omega
              clear hbad
              go_wp2
              go_ret
              exact ⟨by rw [hE.out]; rfl, HB2.out _⟩
        | false =>
          have HR : Hid (S.bad (x1, x2) = false) := hbad
          have hok := S.bad_false.1 hbad
          simp only at hok
          clear hbad
          have h1 : ¬ x1 < 0 := by omega
          have h2 : ¬ x2 < x1 := by omega
          have h3 : ¬ 1114111 < x2 := by omega
          cases k with
          | zero =>
            clear cc hcell hc
            simp only [Nat.zero_mul, Nat.add_zero] at c1 c2
            go_wp2
            go_quiet (fail)
            go_wp2
            go_roundw
            case rel =>
              obtain ⟨bb, he, h0, _⟩ := HW.out
              refine ⟨1, by omega, by go_num, ⟨x2 + 2, ?_, fun h => by omega, fun p _ hp => ?_⟩, below_drewN (HB2.out _) _⟩
              · rw [he, wgo_drop HX.out, HR.out, h0 trivial, if_neg (by simp), if_neg (by simp; omega)]
              · have h1 := HX.out
                rw [hp] at h1
                cases h1
                exact ⟨rfl, by omega⟩
            case measure => simp [intOf]; omega
          | succ m =>
            obtain ⟨p, hp⟩ : ∃ p, l[m]? = some p := ⟨l[m]'(by omega), by simp [show m < l.length by omega]⟩
            have c3 := (hcell m p hp).2
            rw [← cc] at c3
            have fp := hf.at hp
            have HP : Hid (l[m]? = some p) := hp
            obtain ⟨p1, p2⟩ := p
            simp only at c3 fp
            clear cc hcell hc hp
            obtain ⟨bb, he, _, hpp⟩ := HW.out
            obtain ⟨rfl, hp2⟩ := hpp _ (Nat.succ_pos _) HP.out
            simp only at hp2
            have HE : Hid (S.wgo 0 l = S.wgo (p2 + 2) (l.drop (m + 1))) := he
            clear he hpp HW
            by_cases hlow : x1 - p2 < 2
            · go_wp2
              have HQ := S.boxed (wr := wr) (t := 86) (a := .int .i32 x1) (b := .int .i32 x2) (Below.refl _ _)
              have HB3 := HB2.out (.cells #[.int .i32 x1, .int .i32 x2] 86)
              generalize wr.alloc (.cells #[.int .i32 x1, .int .i32 x2] 86) = w1 at HQ HB3 ⊢
              obtain ⟨⟨d1, d2⟩, hold, hs1, _⟩ := HQ
              replace c3 := hold _ _ _ c3
              have HB4 : Hid (Below w.heap.size w w1) := HB3
              clear hold HB3
              go_quiet (fail)
              go_wp2
              go_ret
              refine ⟨?_, below_drewN HB4.out _⟩
              rw [HE.out, wgo_drop HX.out, HR.out, if_neg (by simp), if_pos (by show x1 < p2 + 2; omega)]; rfl
            · go_wp2
              have HQ := S.boxed (wr := wr) (t := 86) (a := .int .i32 x1) (b := .int .i32 x2) (Below.refl _ _)
              have HB3 := HB2.out (.cells #[.int .i32 x1, .int .i32 x2] 86)
              generalize wr.alloc (.cells #[.int .i32 x1, .int .i32 x2] 86) = w1 at HQ HB3 ⊢
              obtain ⟨⟨d1, d2⟩, hold, hs1, _⟩ := HQ
              replace c3 := hold _ _ _ c3
              have HB4 : Hid (Below w.heap.size w w1) := HB3
              clear hold HB3
              go_quiet (fail)
              go_wp2
              go_roundw
              case rel =>
                refine ⟨m + 1 + 1, by omega, by go_num, ⟨x2 + 2, ?_, fun h => by omega, fun p _ hp => ?_⟩, below_drewN HB4.out _⟩
                · rw [HE.out, wgo_drop HX.out, HR.out, if_neg (by simp), if_neg (by show ¬ x1 < p2 + 2; omega)]
                · have h1 := HX.out
                  have hp : l[m + 1]? = some p := hp
                  rw [hp] at h1
                  cases h1
                  exact ⟨rfl, by omega⟩
              case measure => simp [intOf]; omega
      · go_wp2
        go_ret
        refine ⟨?_, HB.out⟩
        obtain ⟨b, he, _⟩ := HW.out
        rw [he, List.drop_eq_nil_of_le (by omega)]
        rfl

end Go.Proofs.YtlmmjefplbcapaaGreat
