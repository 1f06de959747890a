/-
  Runes that are sorted: a stretch that is nearly in order.
-/
import Derived.Test.YtlmmjefplbcapaaGreatZIns
import Derived.Deep.CutBlock
import Derived.Sort.WalkA6
namespace Go.Proofs.YtlmmjefplbcapaaGreat
open Go.RowKit Go.Sort
set_option maxRecDepth 20000
set_option linter.unusedSimpArgs false
set_option linter.unusedVariables false

set_option maxHeartbeats 4000000 in
theorem zpartial_any (w : World) (blk off cap a b : Nat) (d : Array Int) (h0 : Holds Z.en w blk off d) (hab : a < b) (hb : b ≤ d.size) (hsz : d.size < 1152921504606846976) :
    Calls Tryz.prog 92 #[.slice (some ⟨blk, off, none⟩) d.size cap, .int .i64 a, .int .i64 b] w fun e w' => e = .returned (.bool (partialInsertionSort ltInt d a b).2) ∧ Z.At w blk off d.size (partialInsertionSort ltInt d a b).1 w' := by
  have H0 : Hid (Holds Z.en w blk off d) := h0
  have HS : Hid (Z.At w blk off d.size d w) := Z.At.start h0
  clear h0
  go_enter Tryz.func92, Tryz.ntmps92
  go_wp2
  go_loopw [7, 8] (fun v7 v8 wr => ∃ (i s : Nat) (e : Array Int), v7 = .int .i64 i ∧ v8 = .int .i64 s ∧ s ≤ 5 ∧ a < i ∧ i ≤ b ∧ Hid (Z.At w blk off d.size e wr ∧ partialIns ltInt a b (5 - s) i e = partialIns ltInt a b 5 (a + 1) d)) (fun _ v8 _ => 5 - (RowKit.intOf v8).toNat)
  case atStart => exact ⟨a + 1, 0, d, by go_num, rfl, by omega, by omega, by omega, HS.out, rfl⟩
  case round =>
    obtain ⟨i, s, e, rfl, rfl, hs5, hai, hib, HE⟩ := hrel
    clear HS
    by_cases hs : s < 5
    · go_upto_block 2 with fail
      go_cut [7] (fun v7 wx => ∃ k : Nat, v7 = .int .i64 k ∧ i ≤ k ∧ k ≤ b ∧ Hid (Z.At w blk off d.size e wx ∧ scanSorted ltInt e b i = k))
      case first =>
        go_wp2
        go_loopw [7] (fun v7 wx => ∃ k : Nat, v7 = .int .i64 k ∧ i ≤ k ∧ k ≤ b ∧ Hid (Z.At w blk off d.size e wx ∧ scanSorted ltInt e b k = scanSorted ltInt e b i)) (fun v7 _ => b - (RowKit.intOf v7).toNat)
        case atStart => exact ⟨i, rfl, Nat.le_refl _, hib, HE.out.1, rfl⟩
        case round =>
          obtain ⟨k, rfl, hik, hkb, HK⟩ := hrel
          obtain ⟨G, hG⟩ : ∃ G : Nat → Int, ∀ t, G t = e[t]! := ⟨fun t => e[t]!, fun _ => rfl⟩
          have hcw : ∀ t, t < d.size → wr.cell? ⟨blk, off + t, none⟩ = some (.int .i32 (G t)) := fun t ht => by rw [hG]; exact HK.out.1.cell H0.out rfl ht
          have HG : Hid (∀ t, G t = e[t]!) := hG
          clear hG
          by_cases hk : k < b
          · go_wp2
            go_quiet (first | (go_at_call 93; refine Calls.quiet_of_same (zless_any _ _ _)))
            cases hl : ltInt (G k) (G (k - 1)) with
            | false =>
              go_wp2
              go_roundw
              case rel => exact ⟨k + 1, by go_num, by omega, by omega, HK.out.1.drew _, by rw [← HK.out.2, scanSorted_go ltInt e b k hk (by rw [← HG.out, ← HG.out]; exact hl)]⟩
              case measure => simp [RowKit.intOf]; omega
            | true =>
              go_wp2
              go_meet
              case rel => exact ⟨k, rfl, hik, hkb, HK.out.1.drew _, by rw [← HK.out.2, scanSorted_stop ltInt e b k (.inr (by rw [← HG.out, ← HG.out]; exact hl))]⟩
          · go_wp2
            go_quiet (first | (go_at_call 93; refine Calls.quiet_of_same (zless_any _ _ _)))
            go_wp2
            go_meet
            case rel => exact ⟨k, rfl, hik, hkb, HK.out.1.drew _, by rw [← HK.out.2, scanSorted_stop ltInt e b k (.inl hk)]⟩
      case rest =>
        obtain ⟨k, rfl, hik, hkb, HK⟩ := hcut
        by_cases hkb2 : k = b
        · subst hkb2
          go_wp2
          go_ret
          have h5 : partialInsertionSort ltInt d a k = (e, true) := by
            unfold Sort.partialInsertionSort
            rw [← HE.out.2, pi_true ltInt a k s i e hs HK.out.2]
          rw [h5]
          exact ⟨rfl, HK.out.1⟩
        · by_cases h50 : b - a < 50
          · go_wp2
            go_ret
            have h5 : partialInsertionSort ltInt d a b = (e, false) := by
              unfold Sort.partialInsertionSort
              rw [← HE.out.2, pi_short ltInt a b s i e hs (by rw [HK.out.2]; exact hkb2) h50]
            rw [h5]
            exact ⟨rfl, HK.out.1⟩
          · have HP : Hid (partialIns ltInt a b (5 - (s + 1)) k (fixUp ltInt b k (fixDown ltInt a k (swp e k (k - 1)))) = partialIns ltInt a b 5 (a + 1) d) := by
              show _ = _
              rw [← HE.out.2, pi_go ltInt a b s i k e hs HK.out.2 hkb2 h50]
            obtain ⟨f, hf⟩ : ∃ f, f = swp e k (k - 1) := ⟨_, rfl⟩
            obtain ⟨G, hG⟩ : ∃ G : Nat → Int, ∀ t, G t = e[t]! := ⟨fun t => e[t]!, fun _ => rfl⟩
            have hcw : ∀ t, t < d.size → wc.cell? ⟨blk, off + t, none⟩ = some (.int .i32 (G t)) := fun t ht => by rw [hG]; exact HK.out.1.cell H0.out rfl ht
            have hfw : ∀ t, t < d.size → wc.frozen? ⟨blk, off + t, none⟩ = false := fun t ht => HK.out.1.free H0.out rfl ht
            have hsw := HK.out.1.swap (i := k) (j := k - 1) (by omega) (by omega) 1
            rw [← hG, ← hG, ← hf] at hsw
            rw [← hf] at HP
            have HSw : Hid (∀ X, X = ((wc.setCell ⟨blk, off + k, none⟩ (.int .i32 (G (k - 1)))).setCell ⟨blk, off + (k - 1), none⟩ (.int .i32 (G k))).drew → Z.At w blk off d.size f X) := fun X hX => by rw [hX]; exact hsw
            clear hsw hG hf HK HE
            go_wp2_with fail
            go_region
            go_upto_if 61 with fail
            go_cut [] (fun wx => Hid (Z.At w blk off d.size (fixDown ltInt a k f) wx))
            case first =>
              by_cases h2 : 2 ≤ k - a
              · go_wp2
                go_loopw [9] (fun v9 wx => ∃ (j : Nat) (g : Array Int), v9 = .int .i64 j ∧ j < k ∧ Hid (Z.At w blk off d.size g wx ∧ shiftDown ltInt j g = shiftDown ltInt (k - 1) f)) (fun v9 _ => (RowKit.intOf v9).toNat)
                case atStart => exact ⟨k - 1, f, by congr 1; omega, by omega, HSw.out _ rfl, rfl⟩
                case round =>
                  obtain ⟨j, g, rfl, hjk, HG2⟩ := hrel
                  clear hcw hfw HSw
                  have HF : Hid (∀ g', shiftDown ltInt (k - 1) f = g' → fixDown ltInt a k f = g') := fun g' hg => by unfold fixDown; rw [if_pos h2, hg]
                  cases j with
                  | zero =>
                    go_wp2
                    go_meet
                    case rel => rw [HF.out g (HG2.out.2.symm.trans (shiftDown_stop ltInt 0 g (.inl rfl)))]; exact HG2.out.1
                  | succ m =>
                    rw [show ((m + 1 : Nat) : Int) = (m : Int) + 1 by omega]
                    obtain ⟨G', hG⟩ : ∃ G : Nat → Int, ∀ t, G t = g[t]! := ⟨fun t => g[t]!, fun _ => rfl⟩
                    have hcw : ∀ t, t < d.size → wr.cell? ⟨blk, off + t, none⟩ = some (.int .i32 (G' t)) := fun t ht => by rw [hG]; exact HG2.out.1.cell H0.out rfl ht
                    have hfw : ∀ t, t < d.size → wr.frozen? ⟨blk, off + t, none⟩ = false := fun t ht => HG2.out.1.free H0.out rfl ht
                    have HG : Hid (∀ t, G' t = g[t]!) := hG
                    clear hG
                    go_wp2
                    go_quiet (first | (go_at_call 93; refine Calls.quiet_of_same (zless_any _ _ _)))
                    cases hl : ltInt (G' (m + 1)) (G' m) with
                    | false =>
                      go_wp2
                      go_meet
                      case rel =>
                        rw [HF.out g (HG2.out.2.symm.trans (shiftDown_stop ltInt (m + 1) g (.inr (by rw [Nat.add_sub_cancel, ← HG.out, ← HG.out]; exact hl))))]
                        exact HG2.out.1.drew _
                    | true =>
                      have HSd : Hid (shiftDown ltInt (m + 1) g = shiftDown ltInt m (swp g (m + 1) m)) := shiftDown_go ltInt (m + 1) g (by omega) (by rw [Nat.add_sub_cancel, ← HG.out, ← HG.out]; exact hl)
                      have hsw := HG2.out.1.swap (i := m + 1) (j := m) (by omega) (by omega) (nq + 1)
                      rw [← HG.out, ← HG.out] at hsw
                      have HSw : Hid (Z.At w blk off d.size (swp g (m + 1) m) (((wr.drewN (nq + 1)).setCell ⟨blk, off + (m + 1), none⟩ (.int .i32 (G' m))).setCell ⟨blk, off + m, none⟩ (.int .i32 (G' (m + 1))))) := hsw
                      clear hsw
                      go_wp2_with fail
                      go_region
                      all_goals go_wp2
                      go_roundw
                      case rel => exact ⟨m, swp g (m + 1) m, by congr 1, by omega, HSw.out, by rw [← HG2.out.2, HSd.out]⟩
                      case measure => simp [RowKit.intOf]
              · go_wp2
                go_meet
                case rel => unfold fixDown; rw [if_neg h2]; exact HSw.out _ rfl
            case rest =>
              clear HSw hcw hfw
              obtain ⟨f2, hf2⟩ : ∃ f2, f2 = fixDown ltInt a k f := ⟨_, rfl⟩
              rw [← hf2] at hcut HP
              have HC : Hid (Z.At w blk off d.size f2 wc) := hcut
              clear hcut hf2
              have HEnd : Hid (∀ (g : Array Int) (X : World), fixUp ltInt b k f2 = g → Z.At w blk off d.size g X → Z.At w blk off d.size g X ∧ partialIns ltInt a b (5 - (s + 1)) k g = partialIns ltInt a b 5 (a + 1) d) := fun g X hg hX => ⟨hX, by rw [← hg]; exact HP.out⟩
              have hs6 : ((s : Int) + 1) = ((s + 1 : Nat) : Int) := by omega
              have HS6 : Hid (((s : Int) + 1) = ((s + 1 : Nat) : Int)) := hs6
              clear hs6
              · by_cases h2 : 2 ≤ b - k
                · go_wp2
                  go_loopw [10] (fun v10 wx => ∃ (j : Nat) (g : Array Int), v10 = .int .i64 j ∧ k < j ∧ j ≤ b ∧ Hid (Z.At w blk off d.size g wx ∧ shiftUp ltInt b j g = shiftUp ltInt b (k + 1) f2)) (fun v10 _ => b - (RowKit.intOf v10).toNat)
                  case atStart => exact ⟨k + 1, f2, by go_num, by omega, by omega, HC.out, rfl⟩
                  case round =>
                    obtain ⟨j, g, rfl, hkj, hjb, HG2⟩ := hrel
                    clear HC
                    have HF : Hid (∀ g', shiftUp ltInt b (k + 1) f2 = g' → fixUp ltInt b k f2 = g') := fun g' hg => by unfold fixUp; rw [if_pos h2, hg]
                    by_cases hj : j < b
                    · obtain ⟨G', hG⟩ : ∃ G : Nat → Int, ∀ t, G t = g[t]! := ⟨fun t => g[t]!, fun _ => rfl⟩
                      have hcw : ∀ t, t < d.size → wr.cell? ⟨blk, off + t, none⟩ = some (.int .i32 (G' t)) := fun t ht => by rw [hG]; exact HG2.out.1.cell H0.out rfl ht
                      have hfw : ∀ t, t < d.size → wr.frozen? ⟨blk, off + t, none⟩ = false := fun t ht => HG2.out.1.free H0.out rfl ht
                      have HG : Hid (∀ t, G' t = g[t]!) := hG
                      clear hG
                      go_wp2
                      go_quiet (first | (go_at_call 93; refine Calls.quiet_of_same (zless_any _ _ _)))
                      cases hl : ltInt (G' j) (G' (j - 1)) with
                      | false =>
                        go_wp2
                        go_roundw
                        case rel => exact ⟨k, s + 1, g, rfl, by rw [HS6.out], by omega, by omega, by omega, HEnd.out g _ (HF.out g (HG2.out.2.symm.trans (shiftUp_stop ltInt b j g (.inr (by rw [← HG.out, ← HG.out]; exact hl))))) (HG2.out.1.drew _)⟩
                        case measure => simp [RowKit.intOf]; omega
                      | true =>
                        have HSd : Hid (shiftUp ltInt b j g = shiftUp ltInt b (j + 1) (swp g j (j - 1))) := shiftUp_go ltInt b j g hj (by rw [← HG.out, ← HG.out]; exact hl)
                        have hsw := HG2.out.1.swap (i := j) (j := j - 1) (by omega) (by omega) (nq + 1)
                        rw [← HG.out, ← HG.out] at hsw
                        have HSw : Hid (Z.At w blk off d.size (swp g j (j - 1)) (((wr.drewN (nq + 1)).setCell ⟨blk, off + j, none⟩ (.int .i32 (G' (j - 1)))).setCell ⟨blk, off + (j - 1), none⟩ (.int .i32 (G' j)))) := hsw
                        clear hsw
                        go_wp2_with fail
                        go_region
                        all_goals go_wp2
                        go_roundw
                        case rel => exact ⟨j + 1, swp g j (j - 1), by go_num, by omega, by omega, HSw.out, by rw [← HG2.out.2, HSd.out]⟩
                        case measure => simp [RowKit.intOf]; omega
                    · go_wp2
                      go_roundw
                      case rel => exact ⟨k, s + 1, g, rfl, by rw [HS6.out], by omega, by omega, by omega, HEnd.out g _ (HF.out g (HG2.out.2.symm.trans (shiftUp_stop ltInt b j g (.inl hj)))) HG2.out.1⟩
                      case measure => simp [RowKit.intOf]; omega
                · go_wp2
                  go_roundw
                  case rel => exact ⟨k, s + 1, f2, rfl, by rw [HS6.out], by omega, by omega, by omega, HEnd.out f2 _ (by unfold fixUp; rw [if_neg h2]) HC.out⟩
                  case measure => simp [RowKit.intOf]; omega
    · obtain rfl : s = 5 := by omega
      go_wp2
      go_ret
      have h5 : (e, false) = partialInsertionSort ltInt d a b := HE.out.2
      rw [← h5]
      exact ⟨rfl, HE.out.1⟩

end Go.Proofs.YtlmmjefplbcapaaGreat
