/-
  What sets.Nth and the document's Nth tell.
-/
import Derived.Test.YtginejblmkiamaaSCount
namespace Go.Proofs.Ytginejblmkiamaa
open Go.RowKit

theorem nthF_skip {l : List S.Sp} {b : Int} (h : S.Nf b l) (i : Nat) {k : Int} (hk : S.total (l.take i) ≤ k) : S.nthF l k = S.nthF (l.drop i) (k - S.total (l.take i)) := by
  induction i generalizing l b k with
  | zero => simp [S.total]
  | succ i ih =>
    cases l with
    | nil => simp [S.nthF]
    | cons x l =>
      obtain ⟨h1, h2, h3, h4⟩ := h
      have ht := S.total_nonneg (h4.take i)
      simp only [List.take_succ_cons, S.total, List.drop_succ_cons] at hk ⊢
      rw [S.nthF, if_neg (by omega), ih h4 (by omega)]
      congr 1
      omega

set_option maxHeartbeats 1000000 in
theorem nth_any (w : World) (v : Value) (l : List S.Sp) (k : Int) (R : S.Rd w v l) (F : S.Fit l) (hk1 : -9223372036854775808 ≤ k) (hk2 : k ≤ 9223372036854775807) :
    Calls Try.prog 15 #[v, .int .i64 k] w fun e w' => e = .returned (.tuple #[.int .i32 (nthR l k), .int .i64 (nthE l k)]) ∧ Below w.heap.size w w' := by
  have hw := wrong_any w v l R F
  obtain ⟨ao, cap, rfl, hn, hc⟩ := R
  unfold nthR nthE
  by_cases hz : S.wrongE l = 0
  · obtain ⟨hl, N⟩ := S.wrongE_zero.1 hz
    rw [hz] at hw ⊢
    clear hz
    have HN : Hid (S.Nf 0 l) := N
    clear N
    simp only [ne_eq, not_true_eq_false, if_false]
    by_cases hneg : k < 0
    · rw [if_pos hneg, if_pos hneg]
      go_enter Try.func15, Try.ntmps15
      go_wp2_with fail
      refine hw.mono ?_
      clear hw
      rintro e w1 ⟨rfl, b1⟩
      go_wp2
      go_ret2
      exact ⟨rfl, b1⟩
    · rw [if_neg hneg, if_neg hneg]
      generalize hres : S.nthF l k = res
      have HRes : Hid (S.nthF l k = res) := hres
      clear hres
      go_enter Try.func15, Try.ntmps15
      go_wp2_with fail
      refine hw.mono ?_
      clear hw
      rintro e w1 ⟨rfl, b1⟩
      have BW1 : Hid (Below w.heap.size w w1) := b1
      clear b1
      go_wp2
      go_loopw [1, 18] (fun kv i wr => ∃ (n : Nat) (q : Int), n ≤ l.length ∧ i = .int .i64 n ∧ kv = .int .i64 q ∧ 0 ≤ q ∧ q ≤ 9223372036854775807 ∧ Hid (S.nthF (l.drop n) q = res) ∧ Hid (Below w.heap.size w wr)) (fun _ i _ => l.length - (intOf i).toNat)
      case atStart => exact ⟨0, k, Nat.zero_le _, rfl, rfl, by omega, by omega, HRes, BW1⟩
      case round =>
        obtain ⟨n, q, hn2, rfl, rfl, h0, h1, HT, HB⟩ := hrel
        have hsz := HB.out.size
        by_cases hlt : n < l.length
        · obtain ⟨b, off, rfl, hcell⟩ := hc (by intro h; subst h; simp at hlt)
          obtain ⟨x, hx⟩ : ∃ x, l[n]? = some x := ⟨l[n], by simp [hlt]⟩
          have c0 := hcell n x hx
          have hb := L.block_lt c0.1
          have c1 := c0.1
          have c2 := c0.2
          rw [← HB.out.cell (p := ⟨b, _, none⟩) hb] at c1 c2
          have hxo := HN.out.mem (List.mem_of_getElem? hx)
          have hT2 := nthF_drop (k := q) hx
          rw [HT.out] at hT2
          obtain ⟨x1, x2⟩ := x
          simp only at c1 c2 hxo hT2
          have HT2 : Hid _ := hT2
          have HBa : Hid (∀ o, Below w.heap.size w (wr.alloc o)) := fun o => HB.out.alloc hsz o
          have hsi := fun W => size_any W x1 x2 hxo.1 hxo.2.1 hxo.2.2
          clear c0 hx hcell hc hT2
          go_wp2_with fail
          refine (hsi _).mono ?_
          rintro e w2 ⟨rfl, b2⟩
          obtain ⟨⟨d1, d2⟩, _, hs2, _⟩ := S.boxed b2
          have HB2 : Hid (Below w.heap.size w w2) := (HBa.out _).trans (b2.mono (by simp; omega))
          have hs3 : w.heap.size ≤ w2.heap.size := by omega
          clear b2
          by_cases hq : q < x2 - x1 + 1
          · clear hsi
            have hR : res = some (x1 + q) := by rw [HT2.out, if_pos hq]
            subst hR
            go_wp2
            go_ret2
            exact ⟨rfl, HB2.out⟩
          · have hR : Hid (res = S.nthF (l.drop (n + 1)) (q - (x2 - x1 + 1))) := by show _ = _; rw [HT2.out, if_neg hq]
            go_wp2_with fail
            refine (hsi _).mono ?_
            clear hsi
            rintro e w3 ⟨rfl, b3⟩
            have HB3 : Hid (Below w.heap.size w w3) := HB2.out.trans (b3.mono hs3)
            clear b3
            go_wp2
            go_roundw
            case rel => exact ⟨n + 1, q - (x2 - x1 + 1), by omega, by go_num, rfl, by omega, by omega, hR.out.symm, HB3⟩
            case measure => simp [intOf]; omega
        · have hR : res = none := by
            rw [← HT.out, List.drop_eq_nil_of_le (by omega)]; rfl
          subst hR
          go_wp2
          go_ret2
          exact ⟨rfl, HB.out⟩
  · rw [if_pos hz, if_pos hz]
    generalize S.wrongE l = we at *
    go_enter Try.func15, Try.ntmps15
    go_wp2_with fail
    refine hw.mono ?_
    clear hw
    rintro e w1 ⟨rfl, b1⟩
    go_wp2
    go_ret2
    exact ⟨rfl, b1⟩

set_option maxHeartbeats 1000000 in
theorem refnth_any (w : World) (v : Value) (l : List S.Sp) (k : Int) (R : S.Rd w v l) (F : S.Fit l) (hcap : ∀ ao n c, v = .slice ao n c → n ≤ c) (hk1 : -9223372036854775808 ≤ k) (hk2 : k ≤ 9223372036854775807) :
    Calls Try.prog 16 #[v, .int .i64 k] w fun e w' => e = .returned (.tuple #[.int .i32 (nthR l k), .int .i64 (nthE l k)]) ∧ Below w.heap.size w w' := by
  have hw := refwrong_any w v l R F
  have HR : Hid (S.Rd w v l) := R
  obtain ⟨ao, cap, rfl, hn, hc⟩ := R
  have hcp := hcap _ _ _ rfl
  clear hcap
  unfold nthR nthE
  by_cases hz : S.wrongE l = 0
  · obtain ⟨hl, N⟩ := S.wrongE_zero.1 hz
    rw [hz] at hw ⊢
    clear hz
    have HN : Hid (S.Nf 0 l) := N
    clear N
    simp only [ne_eq, not_true_eq_false, if_false]
    by_cases hneg : k < 0
    · rw [if_pos hneg, if_pos hneg]
      go_enter Try.func16, Try.ntmps16
      go_wp2_with fail
      refine hw.mono ?_
      clear hw
      rintro e w1 ⟨rfl, b1⟩
      go_wp2
      go_ret2
      exact ⟨rfl, b1⟩
    · rw [if_neg hneg, if_neg hneg]
      generalize hres : S.nthF l k = res
      have HRes : Hid (S.nthF l k = res) := hres
      clear hres
      go_enter Try.func16, Try.ntmps16
      go_wp2_with fail
      refine hw.mono ?_
      clear hw
      rintro e w1 ⟨rfl, b1⟩
      have BW1 : Hid (Below w.heap.size w w1) := b1
      clear b1
      go_wp2
      go_loopw [21] (fun i wr => ∃ (n : Nat), n ≤ l.length ∧ i = .int .i64 n ∧ Hid (S.total (l.take n) ≤ k) ∧ Hid (Below w.heap.size w wr)) (fun i _ => l.length - (intOf i).toNat)
      case atStart => exact ⟨0, Nat.zero_le _, rfl, by show S.total (l.take 0) ≤ k; simp [S.total]; omega, BW1⟩
      case round =>
        obtain ⟨n, hn2, rfl, HT, HB⟩ := hrel
        have hsz := HB.out.size
        by_cases hlt : n < l.length
        · obtain ⟨b, off, rfl, hcell⟩ := hc (by intro h; subst h; simp at hlt)
          obtain ⟨x, hx⟩ : ∃ x, l[n]? = some x := ⟨l[n], by simp [hlt]⟩
          have c1 := (hcell n x hx).1
          have hb := L.block_lt c1
          have HC1 : Hid (w.cell? ⟨b, off + n * 2, none⟩ = some (.int .i32 x.1)) := c1
          have hxo := HN.out.mem (List.mem_of_getElem? hx)
          have R1 := HR.out.below HB.out (Nat.le_refl _)
          have n1 := HN.out.take n
          have n2 := HN.out.take (n + 1)
          have hq1 := refcount_any wr _ _ (rd_take R1 n (by omega)) (S.Fit.of_nf n1 (by omega))
          have w1e : S.wrongE (l.take n) = 0 := S.wrong_ok n1 (by rw [List.length_take]; omega)
          have w2e : S.wrongE (l.take (n + 1)) = 0 := S.wrong_ok n2 (by rw [List.length_take]; omega)
          rw [show cntF (l.take n) = S.total (l.take n) by unfold cntF; rw [if_pos w1e], w1e] at hq1
          have t1 := total_le n1 (by omega)
          have t2 := total_le n2 (by omega)
          have t3 := S.total_nonneg n1
          have hT2 := total_take hx
          have hT := HT.out
          have hD := nthF_skip HN.out n hT
          rw [HRes.out, nthF_drop hx] at hD
          have HF2 : Hid (S.Fit (l.take (n + 1))) := S.Fit.of_nf n2 (by omega)
          have HW2 : Hid (cntF (l.take (n + 1)) = S.total (l.take (n + 1)) ∧ S.wrongE (l.take (n + 1)) = 0) := ⟨by unfold cntF; rw [if_pos w2e], w2e⟩
          generalize hA : S.total (l.take n) = A at *
          generalize hB : S.total (l.take (n + 1)) = Bn at *
          have HAB : Hid (S.total (l.take (n + 1)) = Bn) := hB
          have HD : Hid _ := hD
          obtain ⟨x1, x2⟩ := x
          simp only at HC1 hxo hT2
          have hT3 : Bn = A + (x2 - x1 + 1) := hT2
          have hcn : (n : Int) + 1 ≤ (cap : Int) := by omega
          clear c1 hx hcell hc hT2 hA hB hD n1 n2 w1e w2e
          go_wp2_with fail
          refine hq1.mono ?_
          clear hq1
          rintro e w2 ⟨rfl, b2⟩
          have hs2 := b2.size
          have HB2 : Hid (Below w.heap.size w w2) := HB.out.trans (b2.mono hsz)
          have hq2 := refcount_any w2 _ _ (rd_take (HR.out.below HB2.out (Nat.le_refl _)) (n + 1) (by omega)) HF2.out
          rw [HW2.out.1, HW2.out.2] at hq2
          clear b2 R1
          go_wp2_with fail
          refine hq2.mono ?_
          clear hq2
          rintro e w3 ⟨rfl, b3⟩
          have HB3 : Hid (Below w.heap.size w w3) := HB2.out.trans (b3.mono (by omega))
          have hs3 := b3.size
          have c1 : w3.cell? ⟨b, off + n * 2, none⟩ = some (.int .i32 x1) := by rw [HB3.out.cell (p := ⟨b, off + n * 2, none⟩) hb]; exact HC1.out
          clear b3
          by_cases hq : k < Bn
          · have hR : res = some (x1 + (k - A)) := by rw [HD.out, if_pos (by omega)]
            subst hR
            go_wp2
            go_ret2
            exact ⟨rfl, HB3.out⟩
          · go_wp2
            go_roundw
            case rel => exact ⟨n + 1, by omega, by go_num, by show _ ≤ _; rw [HAB.out]; omega, HB3⟩
            case measure => simp [intOf]; omega
        · have hR : res = none := by
            rw [← HRes.out, nthF_skip HN.out n HT.out, List.drop_eq_nil_of_le (by omega)]; rfl
          subst hR
          go_wp2
          go_ret2
          exact ⟨rfl, HB.out⟩
  · rw [if_pos hz, if_pos hz]
    generalize S.wrongE l = we at *
    go_enter Try.func16, Try.ntmps16
    go_wp2_with fail
    refine hw.mono ?_
    clear hw
    rintro e w1 ⟨rfl, b1⟩
    go_wp2
    go_ret2
    exact ⟨rfl, b1⟩

end Go.Proofs.Ytginejblmkiamaa
