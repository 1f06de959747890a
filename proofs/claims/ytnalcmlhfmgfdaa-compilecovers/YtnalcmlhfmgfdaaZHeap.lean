/-
  Runes that are sorted by a heap.
-/
import Derived.Test.YtnalcmlhfmgfdaaZLess
import Derived.BigGuard
import Derived.BigCall
import Derived.CellFam
import Derived.Deep.Draws
import Derived.Deep.QuietTactic
import Derived.BigQuiet
import Derived.BigRegion
namespace Go.Proofs.Ytnalcmlhfmgfdaa
open Go.RowKit Go.Sort
set_option maxRecDepth 20000
set_option linter.unusedSimpArgs false
set_option linter.unusedVariables false

namespace Z
theorem sift_leaf {hi first r : Nat} {d : Array Int} (h : hi ≤ 2 * r + 1) : siftDown ltInt hi first r d = d := by
  rw [siftDown, dif_pos h]
theorem sift_right {hi first r : Nat} {d : Array Int} (h : 2 * r + 1 + 1 < hi) (hl : ltInt d[first + (2 * r + 1)]! d[first + (2 * r + 1) + 1]! = true) :
    siftDown ltInt hi first r d = if ltInt d[first + r]! d[first + (2 * r + 2)]! = true then siftDown ltInt hi first (2 * r + 2) (swp d (first + r) (first + (2 * r + 2))) else d := by
  rw [siftDown, dif_neg (by omega)]
  simp only [h, decide_true, hl, Bool.and_self, if_true, Bool.not_eq_true']
  by_cases hx : ltInt d[first + r]! d[first + (2 * r + 2)]! = true
  · rw [if_neg (by simp [hx]), dif_pos trivial, if_pos hx]
  · rw [if_pos (by simpa using hx), if_neg hx]
theorem sift_left {hi first r : Nat} {d : Array Int} (h0 : 2 * r + 1 < hi) (h : ¬ 2 * r + 1 + 1 < hi ∨ ltInt d[first + (2 * r + 1)]! d[first + (2 * r + 1) + 1]! = false) :
    siftDown ltInt hi first r d = if ltInt d[first + r]! d[first + (2 * r + 1)]! = true then siftDown ltInt hi first (2 * r + 1) (swp d (first + r) (first + (2 * r + 1))) else d := by
  rw [siftDown, dif_neg (by omega)]
  have hc : (decide (2 * r + 1 + 1 < hi) && ltInt d[first + (2 * r + 1)]! d[first + (2 * r + 1) + 1]!) = false := by
    rcases h with h | h
    · simp [h]
    · simp [h]
  rw [if_neg (by rw [hc]; simp)]
  by_cases hx : ltInt d[first + r]! d[first + (2 * r + 1)]! = true
  · rw [if_neg (by simp [hx]), if_pos hx]
  · rw [if_pos (by simpa using hx), if_neg hx]
end Z

set_option maxHeartbeats 8000000 in
theorem zsift_any (w : World) (blk off cap lo hi first : Nat) (d : Array Int) (h0 : Holds Z.en w blk off d) (hb : first + hi ≤ d.size) (hsz : d.size < 1152921504606846976) (hlo : lo ≤ d.size) :
    Calls Try.prog 89 #[.slice (some ⟨blk, off, none⟩) d.size cap, .int .i64 lo, .int .i64 hi, .int .i64 first] w fun e w' => e = .returned (.tuple #[]) ∧ Z.At w blk off d.size (siftDown ltInt hi first lo d) w' := by
  have H0 : Hid (Holds Z.en w blk off d) := h0
  have HS : Hid (Z.At w blk off d.size d w) := Z.At.start h0
  clear h0
  go_enter Try.func89, Try.ntmps89
  go_wp2
  go_loopw [8] (fun vr wr => ∃ (r : Nat) (e : Array Int), vr = .int .i64 r ∧ r ≤ d.size ∧ Hid (Z.At w blk off d.size e wr ∧ siftDown ltInt hi first r e = siftDown ltInt hi first lo d)) (fun vr _ => d.size - (RowKit.intOf vr).toNat)
  case atStart => exact ⟨lo, d, rfl, hlo, HS.out, rfl⟩
  case round =>
    obtain ⟨r, e, rfl, hr, HE⟩ := hrel
    clear HS
    by_cases hc : 2 * r + 1 < hi
    · obtain ⟨G, hG⟩ : ∃ G : Nat → Int, ∀ t, G t = e[t]! := ⟨fun t => e[t]!, fun _ => rfl⟩
      have hcw : ∀ t, t < d.size → wr.cell? ⟨blk, off + t, none⟩ = some (.int .i32 (G t)) := fun t ht => by rw [hG]; exact HE.out.1.cell H0.out rfl ht
      have hfw : ∀ t, t < d.size → wr.frozen? ⟨blk, off + t, none⟩ = false := fun t ht => HE.out.1.free H0.out rfl ht
      have HG : Hid (∀ t, G t = e[t]!) := hG
      clear hG
      have h0z : ¬ ((hi : Int) ≤ 2 * (r : Int) + 1) := by omega
      by_cases h1 : 2 * r + 1 + 1 < hi
      · have h1z : 2 * (r : Int) + 1 + 1 < (hi : Int) := by omega
        go_wp2
        go_quiet (first | (go_at_call 79; refine Calls.quiet_of_same (zless_any _ _ _)))
        go_wp2
        · have hl : ltInt (G (first + 2 * r + 1)) (G (first + 2 * r + 2)) = true := by assumption
          obtain ⟨w2, hw2⟩ : ∃ w2, w2 = wr.drewN nq := ⟨_, rfl⟩
          have HA2 : Hid (Z.At w blk off d.size e w2) := by show Z.At w blk off d.size e w2; rw [hw2]; exact HE.out.1.drew nq
          have hcw2 : ∀ t, t < d.size → w2.cell? ⟨blk, off + t, none⟩ = some (.int .i32 (G t)) := fun t ht => by rw [HG.out]; exact HA2.out.cell H0.out rfl ht
          have hfw2 : ∀ t, t < d.size → w2.frozen? ⟨blk, off + t, none⟩ = false := fun t ht => HA2.out.free H0.out rfl ht
          have HEq : Hid (siftDown ltInt hi first r e = if ltInt (G (first + r)) (G (first + 2 * r + 2)) = true then siftDown ltInt hi first (2 * r + 2) (swp e (first + r) (first + (2 * r + 2))) else e) := by
            show _ = _
            rw [HG.out, HG.out, ← Nat.add_assoc first]
            exact Z.sift_right h1 (by rw [← HG.out, ← HG.out]; exact hl)
          rw [← hw2]
          clear hcw hfw hw2
          go_quiet (first | (go_at_call 79; refine Calls.quiet_of_same (zless_any _ _ _)))
          go_wp2
          · have hx : ltInt (G (first + r)) (G (first + 2 * r + 2)) = false := by
              have h : (!ltInt (G (first + r)) (G (first + 2 * r + 2))) = true := by assumption
              simpa using h
            refine bodyPost_ret (v := .tuple #[]) (by simp [results, Try.results89, go_sem]) rfl ?_
            refine ⟨rfl, ?_⟩
            rw [← HE.out.2, HEq.out, hx]
            exact HA2.out.drew _
          · have hx : ltInt (G (first + r)) (G (first + 2 * r + 2)) = true := by
              have h : (!ltInt (G (first + r)) (G (first + 2 * r + 2))) = false := by assumption
              simpa using h
            go_region
            all_goals go_wp2
            go_roundw
            case rel =>
              refine ⟨2 * r + 2, swp e (first + r) (first + (2 * r + 2)), by congr 1 <;> omega, by omega, ?_, ?_⟩
              · have := HA2.out.swap (i := first + r) (j := first + (2 * r + 2)) (by omega) (by omega) (nq + 1)
                rw [HG.out, HG.out]
                simpa only [Nat.add_assoc] using this
              · rw [← HE.out.2, HEq.out, if_pos hx]
            case measure => simp [RowKit.intOf]; omega
        · have hl : ltInt (G (first + 2 * r + 1)) (G (first + 2 * r + 2)) = false := by assumption
          obtain ⟨w2, hw2⟩ : ∃ w2, w2 = wr.drewN nq := ⟨_, rfl⟩
          have HA2 : Hid (Z.At w blk off d.size e w2) := by show Z.At w blk off d.size e w2; rw [hw2]; exact HE.out.1.drew nq
          have hcw2 : ∀ t, t < d.size → w2.cell? ⟨blk, off + t, none⟩ = some (.int .i32 (G t)) := fun t ht => by rw [HG.out]; exact HA2.out.cell H0.out rfl ht
          have hfw2 : ∀ t, t < d.size → w2.frozen? ⟨blk, off + t, none⟩ = false := fun t ht => HA2.out.free H0.out rfl ht
          have HEq : Hid (siftDown ltInt hi first r e = if ltInt (G (first + r)) (G (first + 2 * r + 1)) = true then siftDown ltInt hi first (2 * r + 1) (swp e (first + r) (first + (2 * r + 1))) else e) := by
            show _ = _
            rw [HG.out, HG.out, ← Nat.add_assoc first]
            exact Z.sift_left hc (.inr (by rw [← HG.out, ← HG.out]; exact hl))
          rw [← hw2]
          clear hcw hfw hw2
          go_quiet (first | (go_at_call 79; refine Calls.quiet_of_same (zless_any _ _ _)))
          go_wp2
          · have hx : ltInt (G (first + r)) (G (first + 2 * r + 1)) = false := by
              have h : (!ltInt (G (first + r)) (G (first + 2 * r + 1))) = true := by assumption
              simpa using h
            refine bodyPost_ret (v := .tuple #[]) (by simp [results, Try.results89, go_sem]) rfl ?_
            refine ⟨rfl, ?_⟩
            rw [← HE.out.2, HEq.out, hx]
            exact HA2.out.drew _
          · have hx : ltInt (G (first + r)) (G (first + 2 * r + 1)) = true := by
              have h : (!ltInt (G (first + r)) (G (first + 2 * r + 1))) = false := by assumption
              simpa using h
            go_region
            all_goals go_wp2
            go_roundw
            case rel =>
              refine ⟨2 * r + 1, swp e (first + r) (first + (2 * r + 1)), by congr 1 <;> omega, by omega, ?_, ?_⟩
              · have := HA2.out.swap (i := first + r) (j := first + (2 * r + 1)) (by omega) (by omega) (nq + 1)
                rw [HG.out, HG.out]
                simpa only [Nat.add_assoc] using this
              · rw [← HE.out.2, HEq.out, if_pos hx]
            case measure => simp [RowKit.intOf]; omega
      · have h1z : decide (2 * (r : Int) + 1 + 1 < (hi : Int)) = false := decide_eq_false (by omega)
        go_wp2
        go_quiet (first | (go_at_call 79; refine Calls.quiet_of_same (zless_any _ _ _)))
        go_wp2
        obtain ⟨w2, hw2⟩ : ∃ w2, w2 = wr.drewN nq := ⟨_, rfl⟩
        have HA2 : Hid (Z.At w blk off d.size e w2) := by show Z.At w blk off d.size e w2; rw [hw2]; exact HE.out.1.drew nq
        have hcw2 : ∀ t, t < d.size → w2.cell? ⟨blk, off + t, none⟩ = some (.int .i32 (G t)) := fun t ht => by rw [HG.out]; exact HA2.out.cell H0.out rfl ht
        have hfw2 : ∀ t, t < d.size → w2.frozen? ⟨blk, off + t, none⟩ = false := fun t ht => HA2.out.free H0.out rfl ht
        have HEq : Hid (siftDown ltInt hi first r e = if ltInt (G (first + r)) (G (first + 2 * r + 1)) = true then siftDown ltInt hi first (2 * r + 1) (swp e (first + r) (first + (2 * r + 1))) else e) := by
          show _ = _
          rw [HG.out, HG.out, ← Nat.add_assoc first]
          exact Z.sift_left hc (.inl h1)
        rw [← hw2]
        clear hcw hfw hw2
        go_quiet (first | (go_at_call 79; refine Calls.quiet_of_same (zless_any _ _ _)))
        go_wp2
        · have hx : ltInt (G (first + r)) (G (first + 2 * r + 1)) = false := by
            have h : (!ltInt (G (first + r)) (G (first + 2 * r + 1))) = true := by assumption
            simpa using h
          refine bodyPost_ret (v := .tuple #[]) (by simp [results, Try.results89, go_sem]) rfl ?_
          refine ⟨rfl, ?_⟩
          rw [← HE.out.2, HEq.out, hx]
          exact HA2.out.drew _
        · have hx : ltInt (G (first + r)) (G (first + 2 * r + 1)) = true := by
            have h : (!ltInt (G (first + r)) (G (first + 2 * r + 1))) = false := by assumption
            simpa using h
          go_region
          all_goals go_wp2
          go_roundw
          case rel =>
            refine ⟨2 * r + 1, swp e (first + r) (first + (2 * r + 1)), by congr 1 <;> omega, by omega, ?_, ?_⟩
            · have := HA2.out.swap (i := first + r) (j := first + (2 * r + 1)) (by omega) (by omega) (nq + 1)
              rw [HG.out, HG.out]
              simpa only [Nat.add_assoc] using this
            · rw [← HE.out.2, HEq.out, if_pos hx]
          case measure => simp [RowKit.intOf]; omega
    · have hc2 : hi ≤ 2 * r + 1 := by omega
      have h0z : (hi : Int) ≤ 2 * (r : Int) + 1 := by omega
      go_wp2
      go_end0
      refine ⟨rfl, ?_⟩
      rw [← HE.out.2, Z.sift_leaf hc2]
      exact HE.out.1

end Go.Proofs.Ytnalcmlhfmgfdaa
