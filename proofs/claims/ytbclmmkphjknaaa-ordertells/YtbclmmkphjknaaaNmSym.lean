/-
  Two rows of marks in order, made one: where one of them is one mark.
-/
import Derived.Test.YtbclmmkphjknaaaNmSymP
namespace Go.Proofs.Ytbclmmkphjknaaa
open Go.RowKit Go.Sort Go.Shelf
set_option maxRecDepth 20000
set_option linter.unusedSimpArgs false
set_option linter.unusedVariables false

set_option maxHeartbeats 4000000 in
theorem nmSym1_any (w0 w : World) (blk off n cap a m b : Nat) (P B Q : List Int) (x : Int) (h0 : Nm.In w0 blk off n (P ++ (x :: B) ++ Q) w) (ha : a = P.length) (hm : m = a + 1) (hb : b = m + B.length) (hB : Nm.Srt B) (hsz : n < 1152921504606846976) :
    Calls Try.prog 67 #[.slice (some ⟨blk, off, none⟩) n cap, .int .i64 a, .int .i64 m, .int .i64 b, .func (.func 47) #[] #[]] w fun e w' => e = .returned (.tuple #[]) ∧ ∃ S', S'.length = B.length + 1 ∧ Nm.Srt S' ∧ Nm.Eqv (x :: B) S' ∧ Nm.In w0 blk off n (P ++ S' ++ Q) w' := by
  have eg : ∀ args w, (callFunc 47 args).run Try.prog w = .ok (.enter 47 args) w := enters_of Try.func47 (by kernel_rfl) rfl
  have hlen : (P ++ (x :: B) ++ Q).length = n := h0.1
  simp only [List.length_append, List.length_cons] at hlen
  have hbn : b ≤ n := by omega
  have hmb : m ≤ b := by omega
  have e1 : (m : Int) - (a : Int) = 1 := by omega
  have ham : a + 1 ≤ m := by omega
  have hma : m ≤ a + 1 := by omega
  have HL : Hid (a = P.length ∧ m = a + 1 ∧ b = m + B.length ∧ Nm.Srt B) := ⟨ha, hm, hb, hB⟩
  obtain ⟨G, hG⟩ : ∃ G : Nat → Int, ∀ t, G t = (P ++ (x :: B) ++ Q).toArray[t]! := ⟨fun t => (P ++ (x :: B) ++ Q).toArray[t]!, fun _ => rfl⟩
  have HGa : Hid (G a = x) := by
    show _ = _
    rw [hG, Nm.mid_get P (x :: B) Q (by omega) (by simp; omega)]
    simp [ha]
  have HGB : Hid (∀ (t k : Nat) (h : k < B.length), t = m + k → G t = B[k]) := fun t k h e0 => by
    have e : P ++ (x :: B) ++ Q = (P ++ [x]) ++ B ++ Q := by simp
    rw [hG, e, Nm.mid_get (P ++ [x]) B Q (by simp; omega) (by simp; omega)]
    congr 1; simp; omega
  have HIn : Hid (Nm.In w0 blk off n (P ++ (x :: B) ++ Q) w) := h0
  have HG : Hid (∀ t, G t = (P ++ (x :: B) ++ Q).toArray[t]!) := hG
  clear h0 ha hm hb hB hlen hG
  go_enter Try.func67, Try.ntmps67
  go_wp2
  go_loopw [10, 11] (fun vi vj wr => ∃ i j : Nat, vi = .int .i64 i ∧ vj = .int .i64 j ∧ m ≤ i ∧ i ≤ j ∧ j ≤ b ∧ Hid (Nm.In w0 blk off n (P ++ (x :: B) ++ Q) wr) ∧ Hid ((m < i → Nm.cls (G (i - 1)) < Nm.cls x) ∧ (j < b → Nm.cls x ≤ Nm.cls (G j)))) (fun vi vj _ => (RowKit.intOf vj).toNat - (RowKit.intOf vi).toNat)
  case atStart => exact ⟨m, b, rfl, rfl, Nat.le_refl _, hmb, Nat.le_refl _, HIn.out, fun h => absurd h (Nat.lt_irrefl _), fun h => absurd h (Nat.lt_irrefl _)⟩
  case round =>
    obtain ⟨i, j, rfl, rfl, hmi, hij, hjb, HI, HO⟩ := hrel
    by_cases hlt : i < j
    · obtain ⟨c, hc⟩ : ∃ c : Nat, ((i : Int) + (j : Int)) / 2 = (c : Int) := ⟨(i + j) / 2, by omega⟩
      have hc1 : i ≤ c := by omega
      have hc2 : c < j := by omega
      have hcw : ∀ t, t < n → wr.cell? ⟨blk, off + t, none⟩ = some (.int .i32 (G t)) := fun t ht => by rw [HG.out]; exact HI.out.cell t ht
      have ca : wr.cell? ⟨blk, off + a, none⟩ = some (.int .i32 x) := by rw [hcw a (by omega), HGa.out]
      obtain ⟨y, hy⟩ : ∃ y, y = G c := ⟨_, rfl⟩
      have cc : wr.cell? ⟨blk, off + c, none⟩ = some (.int .i32 y) := by rw [hcw c (by omega), hy]
      have HY : Hid (y = G c) := hy
      have HC : Hid (Nm.cmp y x < 0 ↔ Nm.cls y < Nm.cls x) := Nm.cmp_lt
      clear hcw hy
      go_wp2
      by_cases hxy : Nm.cmp y x < 0
      · go_quiet (first | (go_at_call 47; refine Calls.quiet_of_same (nmCmp_any _ _ _)))
        go_wp2
        go_roundw
        case rel => exact ⟨c + 1, j, by go_num, rfl, by omega, by omega, hjb, HI.out.drew _, fun _ => by rw [Nat.add_sub_cancel, ← HY.out]; exact HC.out.1 hxy, HO.out.2⟩
        case measure => simp [RowKit.intOf]; omega
      · go_quiet (first | (go_at_call 47; refine Calls.quiet_of_same (nmCmp_any _ _ _)))
        go_wp2
        go_roundw
        case rel => exact ⟨i, c, rfl, rfl, hmi, by omega, by omega, HI.out.drew _, HO.out.1, fun _ => by rw [← HY.out]; exact Int.not_lt.1 fun h => hxy (HC.out.2 h)⟩
        case measure => simp [RowKit.intOf]; omega
    · have hje : j = i := by omega
      subst hje
      have hk : j - m ≤ B.length := by have := HL.out; omega
      have HS : Hid (Nm.Srt (B.take (j - m) ++ x :: B.drop (j - m)) ∧ Nm.Eqv (x :: B) (B.take (j - m) ++ x :: B.drop (j - m))) := by
        have hb := HL.out.2.2.1
        refine Nm.one_srt HL.out.2.2.2 (Nm.srt_take_lt HL.out.2.2.2 hk fun h => ?_) (Nm.srt_drop_le HL.out.2.2.2 fun h => ?_)
        · have h1 := HO.out.1 (by omega)
          rw [HGB.out (j - 1) (j - m - 1) (by omega) (by omega)] at h1
          exact h1
        · have h1 := HO.out.2 (by omega)
          rw [HGB.out j (j - m) (by omega) (by omega)] at h1
          exact h1
      obtain ⟨D, hD⟩ : ∃ D, D = B.take (j - m) := ⟨_, rfl⟩
      obtain ⟨R, hR⟩ : ∃ R, R = B.drop (j - m) := ⟨_, rfl⟩
      have hDl : m + D.length = j := by rw [hD, List.length_take]; omega
      have HB : Hid (B = D ++ R ∧ m + D.length = j) := ⟨by rw [hD, hR, List.take_append_drop], hDl⟩
      rw [← hD, ← hR] at HS
      have HU : Hid (Nm.In w0 blk off n (Nm.up P D x (R ++ Q) 0) wr) := by
        show Nm.In _ _ _ _ _ _
        rw [Nm.up_zero]
        refine HI.out.of ?_
        rw [HB.out.1]; simp
      have hDl1 : m + D.length ≤ j := by omega
      have hDl2 : j ≤ m + D.length := by omega
      clear HI HO HGB HGa HG HIn hk hD hR hDl
      go_wp2
      go_loopw [13] (fun vk wr => ∃ t : Nat, vk = .int .i64 ((a + t : Nat) : Int) ∧ t ≤ D.length ∧ Hid (Nm.In w0 blk off n (Nm.up P D x (R ++ Q) t) wr)) (fun vk _ => j - (RowKit.intOf vk).toNat)
      case atStart => exact ⟨0, by simp, Nat.zero_le _, HU.out⟩
      case round =>
        obtain ⟨t, rfl, ht, HT⟩ := hrel
        clear HU
        by_cases hlt : t < D.length
        · obtain ⟨F, hF⟩ : ∃ F : Nat → Int, ∀ q, F q = (Nm.up P D x (R ++ Q) t).toArray[q]! := ⟨fun q => (Nm.up P D x (R ++ Q) t).toArray[q]!, fun _ => rfl⟩
          obtain ⟨k, hk⟩ : ∃ k, k = a + t := ⟨_, rfl⟩
          have hk1 : k + 1 < j := by omega
          have hcw : ∀ q, q < n → wr.cell? ⟨blk, off + q, none⟩ = some (.int .i32 (F q)) := fun q hq => by rw [hF]; exact HT.out.cell q hq
          have hfw : ∀ q, q < n → wr.frozen? ⟨blk, off + q, none⟩ = false := fun q hq => HT.out.free q hq
          have HW : Hid (∀ q, Nm.In w0 blk off n (Nm.up P D x (R ++ Q) (t + 1)) (((wr.drewN q).setCell ⟨blk, off + k, none⟩ (.int .i32 (F (k + 1)))).setCell ⟨blk, off + (k + 1), none⟩ (.int .i32 (F k)))) := fun q => by
            rw [hF, hF]
            exact HT.out.swap (i := k) (j := k + 1) (by omega) (by omega) (Nm.up_step P D x (R ++ Q) hlt (by have := HL.out.1; omega)) q
          rw [← hk]
          have HK : Hid (k = a + t) := hk
          clear hF HT hk
          go_wp2
          go_region
          all_goals go_wp2
          go_roundw
          case rel => exact ⟨t + 1, by have := HK.out; congr 1; omega, by omega, HW.out 1⟩
          case measure => have := HK.out; simp [RowKit.intOf]; omega
        · have e : t = D.length := by omega
          have HE : Hid (Nm.In w0 blk off n (P ++ (D ++ x :: R) ++ Q) wr) := by
            have h := HT.out
            rw [e, Nm.up_all] at h
            refine h.of ?_
            simp
          clear HT
          go_wp2
          refine bodyPost_ret (v := .tuple #[]) (by simp [results, Try.results67, go_sem, *]) rfl ?_
          refine ⟨rfl, _, ?_, HS.out.1, HS.out.2, HE.out⟩
          rw [HB.out.1]; simp; omega

set_option maxHeartbeats 4000000 in
theorem nmSym2_any (w0 w : World) (blk off n cap a m b : Nat) (P A Q : List Int) (y : Int) (h0 : Nm.In w0 blk off n (P ++ (A ++ [y]) ++ Q) w) (ha : a = P.length) (hm : m = a + A.length) (hb : b = m + 1) (h2 : 2 ≤ A.length) (hA : Nm.Srt A) (hsz : n < 1152921504606846976) :
    Calls Try.prog 67 #[.slice (some ⟨blk, off, none⟩) n cap, .int .i64 a, .int .i64 m, .int .i64 b, .func (.func 47) #[] #[]] w fun e w' => e = .returned (.tuple #[]) ∧ ∃ S', S'.length = A.length + 1 ∧ Nm.Srt S' ∧ Nm.Eqv (A ++ [y]) S' ∧ Nm.In w0 blk off n (P ++ S' ++ Q) w' := by
  have eg : ∀ args w, (callFunc 47 args).run Try.prog w = .ok (.enter 47 args) w := enters_of Try.func47 (by kernel_rfl) rfl
  have hlen : (P ++ (A ++ [y]) ++ Q).length = n := h0.1
  simp only [List.length_append, List.length_cons, List.length_nil] at hlen
  have hmn : m < n := by omega
  have ham : a + 2 ≤ m := by omega
  have e1 : ¬ ((m : Int) - (a : Int) = 1) := by omega
  have e2 : (b : Int) - (m : Int) = 1 := by omega
  have HL : Hid (a = P.length ∧ m = a + A.length ∧ b = m + 1 ∧ Nm.Srt A) := ⟨ha, hm, hb, hA⟩
  obtain ⟨G, hG⟩ : ∃ G : Nat → Int, ∀ t, G t = (P ++ (A ++ [y]) ++ Q).toArray[t]! := ⟨fun t => (P ++ (A ++ [y]) ++ Q).toArray[t]!, fun _ => rfl⟩
  have HGm : Hid (G m = y) := by
    show _ = _
    have e : P ++ (A ++ [y]) ++ Q = (P ++ A) ++ y :: Q := by simp
    rw [hG, e]
    exact Nm.at_mid (P ++ A) Q y (by simp; omega)
  have HGA : Hid (∀ (t k : Nat) (h : k < A.length), t = a + k → G t = A[k]) := fun t k h e0 => by
    have e : P ++ (A ++ [y]) ++ Q = P ++ A ++ ([y] ++ Q) := by simp
    rw [hG, e, Nm.mid_get P A ([y] ++ Q) (by omega) (by omega)]
    congr 1; omega
  have HIn : Hid (Nm.In w0 blk off n (P ++ (A ++ [y]) ++ Q) w) := h0
  have HG : Hid (∀ t, G t = (P ++ (A ++ [y]) ++ Q).toArray[t]!) := hG
  clear h0 ha hm hb hA hlen hG h2
  go_enter Try.func67, Try.ntmps67
  go_wp2
  go_loopw [14, 15] (fun vi vj wr => ∃ i j : Nat, vi = .int .i64 i ∧ vj = .int .i64 j ∧ a ≤ i ∧ i ≤ j ∧ j ≤ m ∧ Hid (Nm.In w0 blk off n (P ++ (A ++ [y]) ++ Q) wr) ∧ Hid ((a < i → Nm.cls (G (i - 1)) ≤ Nm.cls y) ∧ (j < m → Nm.cls y < Nm.cls (G j)))) (fun vi vj _ => (RowKit.intOf vj).toNat - (RowKit.intOf vi).toNat)
  case atStart => exact ⟨a, m, rfl, rfl, Nat.le_refl _, by omega, Nat.le_refl _, HIn.out, fun h => absurd h (Nat.lt_irrefl _), fun h => absurd h (Nat.lt_irrefl _)⟩
  case round =>
    obtain ⟨i, j, rfl, rfl, hai, hij, hjm, HI, HO⟩ := hrel
    by_cases hlt : i < j
    · obtain ⟨c, hc⟩ : ∃ c : Nat, ((i : Int) + (j : Int)) / 2 = (c : Int) := ⟨(i + j) / 2, by omega⟩
      have hc1 : i ≤ c := by omega
      have hc2 : c < j := by omega
      have hcw : ∀ t, t < n → wr.cell? ⟨blk, off + t, none⟩ = some (.int .i32 (G t)) := fun t ht => by rw [HG.out]; exact HI.out.cell t ht
      have cm : wr.cell? ⟨blk, off + m, none⟩ = some (.int .i32 y) := by rw [hcw m (by omega), HGm.out]
      obtain ⟨x, hx⟩ : ∃ x, x = G c := ⟨_, rfl⟩
      have cc : wr.cell? ⟨blk, off + c, none⟩ = some (.int .i32 x) := by rw [hcw c (by omega), hx]
      have HY : Hid (x = G c) := hx
      have HC : Hid (Nm.cmp y x < 0 ↔ Nm.cls y < Nm.cls x) := Nm.cmp_lt
      clear hcw hx
      go_wp2
      by_cases hxy : Nm.cmp y x < 0
      · go_quiet (first | (go_at_call 47; refine Calls.quiet_of_same (nmCmp_any _ _ _)))
        go_wp2
        go_roundw
        case rel => exact ⟨i, c, rfl, rfl, hai, by omega, by omega, HI.out.drew _, HO.out.1, fun _ => by rw [← HY.out]; exact HC.out.1 hxy⟩
        case measure => simp [RowKit.intOf]; omega
      · go_quiet (first | (go_at_call 47; refine Calls.quiet_of_same (nmCmp_any _ _ _)))
        go_wp2
        go_roundw
        case rel => exact ⟨c + 1, j, by go_num, rfl, by omega, by omega, hjm, HI.out.drew _, fun _ => by rw [Nat.add_sub_cancel, ← HY.out]; exact Int.not_lt.1 fun h => hxy (HC.out.2 h), HO.out.2⟩
        case measure => simp [RowKit.intOf]; omega
    · have hje : j = i := by omega
      subst hje
      have hk : j - a ≤ A.length := by have := HL.out; omega
      have HS : Hid (Nm.Srt (A.take (j - a) ++ y :: A.drop (j - a)) ∧ Nm.Eqv (A ++ [y]) (A.take (j - a) ++ y :: A.drop (j - a))) := by
        have hm := HL.out.2.1
        have k1 : ∀ u ∈ A.take (j - a), Nm.cls u ≤ Nm.cls y := Nm.srt_take_le HL.out.2.2.2 hk fun h => by
          have h1 := HO.out.1 (by omega)
          rw [HGA.out (j - 1) (j - a - 1) (by omega) (by omega)] at h1
          exact h1
        have k2 : ∀ u ∈ A.drop (j - a), Nm.cls y < Nm.cls u := Nm.srt_drop_lt HL.out.2.2.2 fun h => by
          have h1 := HO.out.2 (by omega)
          rw [HGA.out j (j - a) (by omega) (by omega)] at h1
          exact h1
        refine ⟨Nm.put_srt (by rw [List.take_append_drop]; exact HL.out.2.2.2) k1 k2, ?_⟩
        have h := Nm.put_eqv (D1 := A.take (j - a)) k2
        rw [List.take_append_drop] at h
        exact h
      obtain ⟨E, hE⟩ : ∃ E, E = A.take (j - a) := ⟨_, rfl⟩
      obtain ⟨D, hD⟩ : ∃ D, D = A.drop (j - a) := ⟨_, rfl⟩
      have hEl : a + E.length = j := by rw [hE, List.length_take]; omega
      have hDl : j + D.length = m := by have := HL.out.2.1; rw [hD, List.length_drop]; omega
      have HB : Hid (A = E ++ D ∧ a + E.length = j) := ⟨by rw [hE, hD, List.take_append_drop], hEl⟩
      rw [← hE, ← hD] at HS
      have HU : Hid (Nm.In w0 blk off n (Nm.up (P ++ E) D y Q D.length) wr) := by
        show Nm.In _ _ _ _ _ _
        rw [Nm.up_all]
        refine HI.out.of ?_
        rw [HB.out.1]; simp
      have hDl1 : j + D.length ≤ m := by omega
      have hDl2 : m ≤ j + D.length := by omega
      clear HI HO HGA HGm HG HIn hk hD hE hEl hDl
      go_wp2
      go_loopw [17] (fun vk wr => ∃ t : Nat, vk = .int .i64 ((j + t : Nat) : Int) ∧ t ≤ D.length ∧ Hid (Nm.In w0 blk off n (Nm.up (P ++ E) D y Q t) wr)) (fun vk _ => (RowKit.intOf vk).toNat)
      case atStart => exact ⟨D.length, by congr 1; omega, Nat.le_refl _, HU.out⟩
      case round =>
        obtain ⟨t, rfl, ht, HT⟩ := hrel
        clear HU
        cases t with
        | succ t =>
          obtain ⟨F, hF⟩ : ∃ F : Nat → Int, ∀ q, F q = (Nm.up (P ++ E) D y Q (t + 1)).toArray[q]! := ⟨fun q => (Nm.up (P ++ E) D y Q (t + 1)).toArray[q]!, fun _ => rfl⟩
          obtain ⟨k, hk⟩ : ∃ k, k = j + (t + 1) := ⟨_, rfl⟩
          have hk1 : j < k := by omega
          have hk2 : k ≤ m := by omega
          have hcw : ∀ q, q < n → wr.cell? ⟨blk, off + q, none⟩ = some (.int .i32 (F q)) := fun q hq => by rw [hF]; exact HT.out.cell q hq
          have hfw : ∀ q, q < n → wr.frozen? ⟨blk, off + q, none⟩ = false := fun q hq => HT.out.free q hq
          have HW : Hid (∀ q, Nm.In w0 blk off n (Nm.up (P ++ E) D y Q t) (((wr.drewN q).setCell ⟨blk, off + k, none⟩ (.int .i32 (F (k - 1)))).setCell ⟨blk, off + (k - 1), none⟩ (.int .i32 (F k)))) := fun q => by
            rw [hF, hF]
            exact HT.out.swap (i := k) (j := k - 1) (by omega) (by omega) (Nm.up_back (P ++ E) D y Q (by omega) (by have := HL.out.1; have := HB.out.2; simp; omega)) q
          rw [← hk]
          have HK : Hid (k = j + (t + 1)) := hk
          clear hF HT hk
          go_wp2
          go_region
          all_goals go_wp2
          go_roundw
          case rel => exact ⟨t, by have := HK.out; congr 1; omega, by omega, HW.out 1⟩
          case measure => have := HK.out; simp [RowKit.intOf]; omega
        | zero =>
          have HE : Hid (Nm.In w0 blk off n (P ++ (E ++ y :: D) ++ Q) wr) := by
            have h := HT.out
            rw [Nm.up_zero] at h
            refine h.of ?_
            simp
          clear HT
          go_wp2
          refine bodyPost_ret (v := .tuple #[]) (by simp [results, Try.results67, go_sem, *]) rfl ?_
          refine ⟨rfl, _, ?_, HS.out.1, HS.out.2, HE.out⟩
          rw [HB.out.1]; simp; omega

end Go.Proofs.Ytbclmmkphjknaaa
