/-
  The closure within the document's Edges, walked (no).
-/
import Derived.Test.YtginejblmkiamaaSEdgeP
namespace Go.Proofs.Ytginejblmkiamaa
open Go.RowKit

attribute [local go_sem ↓] Go.wp_at_zero Go.wp_at_succ

set_option maxHeartbeats 40000000 in
theorem put_no (W : World) (B bo g cap : Nat) (zs : List Int) (r : Int) (X : S.Bx W bo 52 (.slice (some ⟨g, 0, none⟩) zs.length cap)) (own : W.ownsRow B 21 1 (.slice (some ⟨g, 0, none⟩) zs.length cap) zs.length (zs.map (Value.int .i32))) (hbo : bo < W.heap.size) (hB : B ≤ W.heap.size)
    (hl : zs.length ≤ 1099511627776) (hyp : 1114111 < r ∨ zs[S.lowF zs r]? = some r) :
    Calls Try.prog 55 #[.int .i32 r, .pointer (some ⟨bo, 0, none⟩)] W fun e w' => e = .returned (.tuple #[]) ∧ ∃ g' cap', S.Bx w' bo 52 (.slice (some ⟨g', 0, none⟩) (S.insF zs r).length cap') ∧ w'.ownsRow B 21 1 (.slice (some ⟨g', 0, none⟩) (S.insF zs r).length cap') (S.insF zs r).length ((S.insF zs r).map (Value.int .i32)) ∧ W.grownBy w' (some bo) := by
  obtain ⟨i0, hi, hz0, hz1, hz2⟩ := info_parts Try.infoI32
  have cb := X.cell
  have fb := X.free
  have HX : Hid _ := X
  have HO : Hid (W.ownsRow B 21 1 (.slice (some ⟨g, 0, none⟩) zs.length cap) zs.length (zs.map (Value.int .i32))) := own
  have hcap : zs.length ≤ cap := by
    rcases own.2 with ⟨h, _⟩ | ⟨g', cap', cur, h, _, _, h1, _⟩
    · cases h
    · cases h; exact h1
  have HC : Hid (∀ j z, zs[j]? = some z → W.cell? ⟨g, j, none⟩ = some (.int .i32 z)) := fun j z hj => by
    have := own.cells (g := g) rfl j (.int .i32 z) (by simp [hj])
    rw [L.addr_add] at this
    simpa using this
  have hg : B ≤ g ∧ g < W.heap.size := own.lt g rfl
  have HY : Hid _ := hyp
  clear X own hyp
  go_enter Try.func55, Try.ntmps55
  go_wp2
  go_loopw [3] (fun kv wr => ∃ k : Nat, k ≤ zs.length ∧ kv = .int .i64 k ∧ wr = W ∧ Hid (∀ i z, i < k → zs[i]? = some z → z < r)) (fun kv _ => zs.length - (intOf kv).toNat)
  case atStart => exact ⟨0, Nat.zero_le _, rfl, rfl, fun i z h => absurd h (Nat.not_lt_zero _)⟩
  case round =>
    obtain ⟨k, hk, rfl, rfl, HP⟩ := hrel
    by_cases hlt : k < zs.length
    · obtain ⟨z, hz⟩ : ∃ z, zs[k]? = some z := ⟨zs[k], by simp [hlt]⟩
      have cz := HC.out k z hz
      have HZ : Hid (zs[k]? = some z) := hz
      clear hz
      by_cases hzr : z < r
      · go_wp2
        go_roundw
        case rel =>
          refine ⟨k + 1, by omega, by go_num, trivial, fun i y hi hy => ?_⟩
          by_cases e : i = k
          · subst e; rw [HZ.out] at hy; cases hy; exact hzr
          · exact HP.out i y (by omega) hy
        case measure => simp [intOf]; omega
      · have hlow : S.lowF zs r = k := S.lowF_eq HP.out hk fun y hy => by rw [HZ.out] at hy; cases hy; exact hzr
        have HLow : Hid _ := hlow
        clear hlow
        by_cases hr : 1114111 < r
        · go_wp2
          (try simp only [Exit.inBlock, Exit.then])
          refine bodyPost_ret (results_none rfl _ _ _) rfl ?_
          have e : S.insF zs r = zs := by unfold S.insF; rw [if_pos (.inl hr)]
          rw [e]
          exact ⟨rfl, g, cap, HX.out, HO.out, S.grown_refl _ _⟩
        · have he : z = r := by
            rcases HY.out with h | h
            · exact absurd h hr
            · rw [HLow.out, HZ.out] at h; exact Option.some.inj h
          subst he
          go_wp2
          (try simp only [Exit.inBlock, Exit.then])
          refine bodyPost_ret (results_none rfl _ _ _) rfl ?_
          have e : S.insF zs z = zs := by unfold S.insF; rw [if_pos (.inr (by rw [HLow.out]; exact HZ.out))]
          rw [e]
          exact ⟨rfl, g, cap, HX.out, HO.out, S.grown_refl _ _⟩
    · have hke : k = zs.length := by omega
      have hlow : S.lowF zs r = k := S.lowF_eq HP.out hk fun y hy => by rw [hke] at hy; simp at hy
      have HLow : Hid _ := hlow
      have HCo : Hid (zs[k]? = none) := by show _ = _; rw [hke]; simp
      clear hlow
      have hr : 1114111 < r := by
        rcases HY.out with h | h
        · exact h
        · rw [HLow.out, HCo.out] at h; cases h
      go_wp2
      (try simp only [Exit.inBlock, Exit.then])
      refine bodyPost_ret (results_none rfl _ _ _) rfl ?_
      have e : S.insF zs r = zs := by unfold S.insF; rw [if_pos (.inl hr)]
      rw [e]
      exact ⟨rfl, g, cap, HX.out, HO.out, S.grown_refl _ _⟩

end Go.Proofs.Ytginejblmkiamaa
