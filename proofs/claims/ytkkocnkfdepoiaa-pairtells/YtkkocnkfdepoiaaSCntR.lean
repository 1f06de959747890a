/-
  What is wrong with rules: what the document answers.
-/
import Derived.Test.YtkkocnkfdepoiaaQWrong
import Derived.Test.YtkkocnkfdepoiaaMSets
import Derived.Test.YtkkocnkfdepoiaaSRefWrong
import Derived.Test.YtkkocnkfdepoiaaPrNum
namespace Go.Proofs.Ytkkocnkfdepoiaa
open Go.RowKit
set_option maxRecDepth 20000
set_option linter.unusedSimpArgs false
set_option linter.unusedVariables false

set_option maxHeartbeats 2000000 in
theorem rWrong8_any (w : World) (v : Value) (l : List K.Rule) (R0 : V.Rus w v l) :
    Calls Try.prog 16 #[v] w fun e w' => e = .returned (.agg #[.int .i64 (K.rulesF l).1, .int .i64 (K.rulesF l).2]) ∧ Below w.heap.size w w' := by
  have HR : Hid (V.Rus w v l) := R0
  have hfew := R0.few
  obtain ⟨ao, cap, rfl⟩ := R0.len
  clear R0
  have HA : Hid (∀ o, Below w.heap.size w (w.alloc o)) := fun o => (Below.refl _ w).alloc (Nat.le_refl _) o
  unfold K.rulesF
  by_cases hbig : 200 < l.length
  · rw [if_pos hbig]
    go_enter Try.func16, Try.ntmps16
    go_wp2
    refine bodyPost_ret (v := .agg #[.int .i64 5, .int .i64 0]) (by simp [results, Try.results16, go_sem]) rfl ?_
    exact ⟨rfl, HA.out _⟩
  · rw [if_neg hbig]
    obtain ⟨⟨o1, o2⟩, HO⟩ : ∃ o, Hid (K.firstR 0 l = o) := ⟨_, rfl⟩
    rw [HO.out]
    go_enter Try.func16, Try.ntmps16
    go_wp2
    go_loopw [11] (fun i wr => ∃ k : Nat, k ≤ l.length ∧ i = .int .i64 k ∧ Hid (K.firstR k (l.drop k) = (o1, o2)) ∧ Hid (Below w.heap.size w wr) ∧ Hid (wr.heap[w.heap.size]? = some (.cells #[.int .i64 0, .int .i64 0] 34))) (fun i _ => l.length - (intOf i).toNat)
    case atStart => exact ⟨0, Nat.zero_le _, rfl, HO, HA.out _, heap_alloc_new w _⟩
    case round =>
      obtain ⟨k, hk, rfl, HE, HB, HX⟩ := hrel
      have hX := HX.out
      by_cases hlt : k < l.length
      · obtain ⟨p, hp⟩ : ∃ x, l[k]? = some x := ⟨l[k], by simp [hlt]⟩
        obtain ⟨ao', cap', e', _, hcs⟩ := HR.out.below HB.out
        cases e'
        obtain ⟨b, off, rfl, hcell⟩ := hcs (by intro h; subst h; simp at hlt)
        obtain ⟨bo, bc, so, sc, ao, ac, tgo, tc, c0, c1, c2, c3, c4, c5, c6, hP⟩ := hcell k p hp
        have HE2 : Hid (K.firstR k (l.drop k) = if K.ruleE p = 0 then K.firstR (k + 1) (l.drop (k + 1)) else (K.ruleE p, (k : Int))) := K.firstR_drop hp
        have hsz := HB.out.size
        have HW : Hid (Calls Try.prog 38 #[.agg #[.bool p.start, .bool p.fin, .slice bo p.before.length bc, .slice so p.source.length sc, .slice ao p.after.length ac, .slice tgo p.target.length tc, .int .i64 p.cursor]] wr fun e w' => e = .returned (.int .i64 (K.ruleE p)) ∧ Below wr.heap.size wr w') := rWrong_any _ _ p hP
        obtain ⟨z, HZ⟩ : ∃ z, Hid (K.ruleE p = z) := ⟨_, rfl⟩
        rw [HZ.out] at HW HE2
        clear hp hcell hcs hP hX
        obtain ⟨st, fi, be, sou, af, ta, cu⟩ := p
        simp only at c0 c1 c2 c3 c4 c5 c6 HW
        go_wp2_with fail
        refine HW.out.mono ?_
        rintro e w1 ⟨rfl, B1⟩
        have hX1 : w1.heap[w.heap.size]? = some (.cells #[.int .i64 0, .int .i64 0] 34) := by
          rw [B1.block _ (Array.getElem?_eq_some_iff.1 HX.out).1]; exact HX.out
        have HB1 : Hid (Below w.heap.size w w1) := HB.out.trans (B1.mono hsz)
        have HX1 : Hid _ := hX1
        obtain ⟨x0, x1, f0, f1⟩ := K.box2 hX1
        clear B1 hX1
        by_cases hz : z = 0
        · subst hz
          go_wp2
          go_roundw
          case rel => exact ⟨k + 1, by omega, by go_num, by show _ = _; rw [← HE.out, HE2.out]; simp, HB1, HX1⟩
          case measure => simp [intOf]; omega
        · go_wp2
          refine bodyPost_ret (v := .agg #[.int .i64 z, .int .i64 k]) (by simp [results, Try.results16, go_sem, *]) rfl ?_
          have h := HE2.out
          rw [HE.out, if_neg hz] at h
          cases h
          exact ⟨rfl, (HB1.out.setCell (p := ⟨w.heap.size, 0, none⟩) (Nat.le_refl _) _).setCell (p := ⟨w.heap.size, 1, none⟩) (Nat.le_refl _) _⟩
      · obtain ⟨x0, x1, f0, f1⟩ := K.box2 hX
        have h := HE.out
        rw [List.drop_eq_nil_of_le (by omega)] at h
        cases h
        go_wp2
        refine bodyPost_ret (v := .agg #[.int .i64 0, .int .i64 0]) (by simp [results, Try.results16, go_sem, *]) rfl ?_
        exact ⟨rfl, (HB.out.setCell (p := ⟨w.heap.size, 0, none⟩) (Nat.le_refl _) _).setCell (p := ⟨w.heap.size, 1, none⟩) (Nat.le_refl _) _⟩


end Go.Proofs.Ytkkocnkfdepoiaa

/-
  What the document's Count tells.
-/
namespace Go.Proofs.Ytkkocnkfdepoiaa
open Go.RowKit

set_option maxHeartbeats 1000000 in
theorem refcount_any (w : World) (v : Value) (l : List S.Sp) (R : S.Rd w v l) (F : S.Fit l) :
    Calls Try.prog 17 #[v] w fun e w' => e = .returned (.tuple #[.int .i64 (cntF l), .int .i64 (S.wrongE l)]) ∧ Below w.heap.size w w' := by
  have hw := refwrong_any w v l R F
  obtain ⟨ao, cap, rfl, hn, hc⟩ := R
  unfold cntF
  by_cases hz : S.wrongE l = 0
  · obtain ⟨hl, N⟩ := S.wrongE_zero.1 hz
    rw [if_pos hz]
    rw [hz] at hw ⊢
    clear hz
    have HN : Hid (S.Nf 0 l) := N
    clear N
    go_enter Try.func17, Try.ntmps17
    go_wp2_with fail
    refine hw.mono ?_
    clear hw
    rintro e w1 ⟨rfl, b1⟩
    have BW1 : Hid (Below w.heap.size w w1) := b1
    clear b1
    go_wp2
    go_loopw [5, 15] (fun s i wr => ∃ (k : Nat) (acc : Int), k ≤ l.length ∧ i = .int .i64 k ∧ s = .int .i64 acc ∧ 0 ≤ acc ∧ acc ≤ 1114112 ∧ Hid (acc = S.total (l.take k)) ∧ Hid (Below w.heap.size w wr)) (fun _ i _ => l.length - (intOf i).toNat)
    case atStart => exact ⟨0, 0, Nat.zero_le _, rfl, rfl, by omega, by omega, by show _ = _; simp [S.total], BW1⟩
    case round =>
      obtain ⟨k, acc, hk, rfl, rfl, h0, h1, HT, HB⟩ := hrel
      have hsz := HB.out.size
      by_cases hlt : k < l.length
      · obtain ⟨b, off, rfl, hcell⟩ := hc (by intro h; subst h; simp at hlt)
        obtain ⟨x, hx⟩ : ∃ x, l[k]? = some x := ⟨l[k], by simp [hlt]⟩
        have c0 := hcell k x hx
        have hb := L.block_lt c0.1
        have c1 := c0.1
        have c2 := c0.2
        rw [← HB.out.cell (p := ⟨b, _, none⟩) hb] at c1 c2
        have hxo := HN.out.mem (List.mem_of_getElem? hx)
        have hT2 := total_take hx
        rw [← HT.out] at hT2
        have hle := total_le (HN.out.take (k + 1)) (by omega)
        rw [hT2] at hle
        obtain ⟨x1, x2⟩ := x
        simp only at c1 c2 hxo hle hT2
        have HT2 : Hid _ := hT2
        have HBa : Hid (∀ o, Below w.heap.size w (wr.alloc o)) := fun o => HB.out.alloc hsz o
        clear c0 hx hcell hc hT2
        go_wp2
        go_roundw
        case rel => exact ⟨k + 1, acc + x2 - x1 + 1, by omega, by go_num, rfl, by omega, by omega, by show _ = _; rw [HT2.out]; omega, HBa.out _⟩
        case measure => simp [intOf]; omega
      · go_wp2
        go_ret2
        refine ⟨?_, HB.out⟩
        rw [HT.out, List.take_of_length_le (by omega)]; rfl
  · rw [if_neg hz]
    generalize S.wrongE l = we at *
    go_enter Try.func17, Try.ntmps17
    go_wp2_with fail
    refine hw.mono ?_
    clear hw
    rintro e w1 ⟨rfl, b1⟩
    go_wp2
    go_ret2
    exact ⟨rfl, b1⟩

end Go.Proofs.Ytkkocnkfdepoiaa
