/-
  The closure within the document's Edges, walked (room).
-/
import Derived.Test.YtlmmjefplbcapaaGreatSEdgeN
namespace Go.Proofs.YtlmmjefplbcapaaGreat
open Go.RowKit

attribute [local go_sem ↓] Go.wp_at_zero Go.wp_at_succ

set_option maxHeartbeats 40000000 in
theorem put_room (W : World) (B bo g cap : Nat) (zs : List Int) (r : Int) (X : S.Bx W bo 23 (.slice (some ⟨g, 0, none⟩) zs.length cap)) (own : W.ownsRow B 21 1 (.slice (some ⟨g, 0, none⟩) zs.length cap) zs.length (zs.map (Value.int .i32))) (hbo : bo < W.heap.size) (hB : B ≤ W.heap.size)
    (hl : zs.length ≤ 1099511627776) (hyp : ¬ (1114111 < r ∨ zs[S.lowF zs r]? = some r) ∧ S.lowF zs r = zs.length ∧ cap ≠ zs.length) :
    Calls Tryz.prog 44 #[.int .i32 r, .pointer (some ⟨bo, 0, none⟩)] W fun e w' => e = .returned (.tuple #[]) ∧ ∃ g' cap', S.Bx w' bo 23 (.slice (some ⟨g', 0, none⟩) (S.insF zs r).length cap') ∧ w'.ownsRow B 21 1 (.slice (some ⟨g', 0, none⟩) (S.insF zs r).length cap') (S.insF zs r).length ((S.insF zs r).map (Value.int .i32)) ∧ W.grownBy w' (some bo) := by
  obtain ⟨i0, hi, hz0, hz1, hz2⟩ := info_parts Tryz.infoI32
  have cb := X.cell
  have fb := X.free
  have HX : Hid _ := X
  have HO : Hid (W.ownsRow B 21 1 (.slice (some ⟨g, 0, none⟩) zs.length cap) zs.length (zs.map (Value.int .i32))) := own
  have hcap : zs.length ≤ cap := by
    rcases own.2 with ⟨h, _⟩ | ⟨g', cap', cur, h, _, _, h1, _⟩
    · cases h
    · cases h; exact h1
  have HC : Hid (∀ j z, zs[j]? = some z → W.cell? ⟨g, j, none⟩ = some (.int .i32 z)) := fun j z hj => by
    have := own.cells (g := g) rfl j (.int .i32 z) (by simp [hj])
    rw [L.addr_add] at this
    simpa using this
  have hg : B ≤ g ∧ g < W.heap.size := own.lt g rfl
  have HY : Hid _ := hyp
  clear X own hyp
  go_enter Tryz.func44, Tryz.ntmps44
  go_wp2
  go_loopw [3] (fun kv wr => ∃ k : Nat, k ≤ zs.length ∧ kv = .int .i64 k ∧ wr = W ∧ Hid (∀ i z, i < k → zs[i]? = some z → z < r)) (fun kv _ => zs.length - (intOf kv).toNat)
  case atStart => exact ⟨0, Nat.zero_le _, rfl, rfl, fun i z h => absurd h (Nat.not_lt_zero _)⟩
  case round =>
    obtain ⟨k, hk, rfl, rfl, HP⟩ := hrel
    by_cases hlt : k < zs.length
    · obtain ⟨z, hz⟩ : ∃ z, zs[k]? = some z := ⟨zs[k], by simp [hlt]⟩
      have cz := HC.out k z hz
      have HZ : Hid (zs[k]? = some z) := hz
      clear hz
      by_cases hzr : z < r
      · go_wp2
        go_roundw
        case rel =>
          refine ⟨k + 1, by omega, by go_num, trivial, fun i y hi hy => ?_⟩
          by_cases e : i = k
          · subst e; rw [HZ.out] at hy; cases hy; exact hzr
          · exact HP.out i y (by omega) hy
        case measure => simp [intOf]; omega
      · have hlow : S.lowF zs r = k := S.lowF_eq HP.out hk fun y hy => by rw [HZ.out] at hy; cases hy; exact hzr
        have HLow : Hid _ := hlow
        clear hlow
        exfalso
        have h := HY.out.2.1
        rw [HLow.out] at h
        omega
    · have hke : k = zs.length := by omega
      have hlow : S.lowF zs r = k := S.lowF_eq HP.out hk fun y hy => by rw [hke] at hy; simp at hy
      have HLow : Hid _ := hlow
      have HCo : Hid (zs[k]? = none) := by show _ = _; rw [hke]; simp
      clear hlow
      have hr : ¬ 1114111 < r := fun h => HY.out.1 (.inl h)
      have HKe : Hid (zs.length ≤ k) := by show _ ≤ _; omega
      have HCond : Hid (¬ (1114111 < r ∨ zs[k]? = some r)) := fun h => HY.out.1 (by rw [HLow.out]; exact h)
      have hck : ¬ cap = k := by have := HY.out.2.2; omega
      clear hke
      go_wp2
      have HLen : Hid ((zs.take k).length = k ∧ (zs.drop k).length = zs.length - k) := ⟨by rw [List.length_take]; omega, List.length_drop⟩
      have hk0 : (0 : Int) ≤ (k : Int) := by omega
      have hk1' : (k : Int) ≤ (zs.length : Int) := by omega
      have hk2' : (k : Int) ≤ (cap : Int) := by omega
      have hk3' : (zs.length : Int) ≤ (cap : Int) := by omega
      have OM1 : Hid (∀ X : World, wr.heap.size ≤ X.heap.size → (X.alloc (.cells #[] 21)).ownsRow wr.heap.size 21 1 (.slice (some ⟨X.heap.size, 0, none⟩) 0 0) 0 []) := fun X hX => World.ownsRow_made X #[] 0 hX (Nat.zero_le _) (by simp)
      have OM2 : Hid (((wr.alloc (.cells #[.int .i32 r] 21)).alloc (.cells #[] 21)).ownsRow wr.heap.size 21 1 (.slice (some ⟨wr.heap.size + 1, 0, none⟩) 0 0) 0 []) := by
        have h := OM1.out (wr.alloc (.cells #[.int .i32 r] 21)) (by simp)
        rw [World.size_alloc] at h
        exact h
      have hbl : bo < wr.heap.size := by omega
      have KA1 : Hid (∀ o, ((wr.alloc o).drew.cell? ⟨bo, 0, none⟩ = some (.slice (some ⟨g, 0, none⟩) zs.length cap) ∧ (wr.alloc o).drew.frozen? ⟨bo, 0, none⟩ = false) ∧ Below wr.heap.size wr (wr.alloc o).drew) := fun o => ⟨⟨cel_alloc cb o, frz_alloc fb hbl o⟩, below_drewN ((Below.refl _ wr).alloc (Nat.le_refl _) _) 1⟩
      have KA2 : Hid (∀ o o', (((wr.alloc o).alloc o').drew.cell? ⟨bo, 0, none⟩ = some (.slice (some ⟨g, 0, none⟩) zs.length cap) ∧ ((wr.alloc o).alloc o').drew.frozen? ⟨bo, 0, none⟩ = false) ∧ Below wr.heap.size wr ((wr.alloc o).alloc o').drew) := fun o o' => ⟨⟨cel_alloc (cel_alloc cb o) o', frz_alloc (frz_alloc fb hbl o) (by simp; omega) o'⟩, below_drewN (((Below.refl _ wr).alloc (Nat.le_refl _) _).alloc (by simp) _) 1⟩
      have HIns : Hid _ := put_ins hk HLow.out HCond.out
      have hne0 : bo ≠ wr.heap.size := by omega
      have hne00 : bo ≠ wr.heap.size + 1 := by omega
      go_region_law
        (first
          | (refine step_append_k (W0 := wr) (b := bo) (vb := .slice (some ⟨g, 0, none⟩) zs.length cap) (by rfl) (.tmp 34) (.tmp 37) _ (by rfl) 21 i0 _ 1 4 Tryz.underlying23 hi hz0 hz1 hz2 rfl (by decide) _ 0 [] (by rfl) (by first | exact owns_heap (OM1.out wr (Nat.le_refl _)) rfl | exact owns_heap ((OM1.out wr (Nat.le_refl _)).alloc (.cells #[.int .i32 r] 21)) rfl | exact owns_heap OM2.out rfl)
              ⟨g, 0, none⟩ k cap ((zs.take k).map (Value.int .i32)) (by rfl) (by rw [List.length_map, HLen.out.1, Nat.mul_one]) (take_cells HC.out (by first | exact (KA1.out _).2 | exact (KA2.out _ _).2) k) (fun x hx => by obtain ⟨z, _, rfl⟩ := List.mem_map.1 hx; rfl)
              (by unfold maxLen; omega) (by omega) (by first | exact KA1.out _ | exact KA2.out _ _) hbl ?_; intro v1 w1 hown1 hgrow1 kp1 bl1; have kc1 := kp1.1; have kf1 := kp1.2; have ka1 : ∀ o, (w1.alloc o).cell? ⟨bo, 0, none⟩ = some (.slice (some ⟨g, 0, none⟩) zs.length cap) := fun o => cel_alloc kp1.1 o)
          | (refine step_append_k (W0 := wr) (b := bo) (vb := .slice (some ⟨g, 0, none⟩) zs.length cap) (by rfl) (.tmp 38) (.tmp 40) _ (by rfl) 21 i0 _ 1 4 Tryz.underlying23 hi hz0 hz1 hz2 rfl (by decide) _ _ _ (by rfl) (hown1.alloc _)
              ⟨w1.heap.size, 0, none⟩ 1 1 [.int .i32 r] (by rfl) (by rfl) (one_cell (cell_one_new0 _ _ _)) (fun x hx => by simp at hx; subst hx; rfl)
              (by unfold maxLen; omega) (by omega) ⟨⟨cel_alloc kp1.1 _, frz_alloc kp1.2 (by have := bl1.size; omega) _⟩, bl1.alloc bl1.size _⟩ hbl ?_; intro v2 w2 hown2 hgrow2 kp2 bl2; have kc2 := kp2.1; have kf2 := kp2.2)
          | (refine step_append_k (W0 := wr) (b := bo) (vb := .slice (some ⟨g, 0, none⟩) zs.length cap) (by rfl) (.tmp 38) (.tmp 40) _ (by rfl) 21 i0 _ 1 4 Tryz.underlying23 hi hz0 hz1 hz2 rfl (by decide) _ _ _ (by rfl) hown1
              ⟨wr.heap.size + 1, 0, none⟩ 1 1 [.int .i32 r] (by rfl) (by rfl) (one_cell (by rw [hgrow1.cell_far _ (by simp <;> omega) (fun e => by change some (wr.heap.size + 1) = some wr.heap.size at e; simp at e)]; simp)) (fun x hx => by simp at hx; subst hx; rfl)
              (by unfold maxLen; omega) (by omega) ⟨kp1, bl1⟩ hbl ?_; intro v2 w2 hown2 hgrow2 kp2 bl2; have kc2 := kp2.1; have kf2 := kp2.2)
          | (refine step_append_k (W0 := wr) (b := bo) (vb := .slice (some ⟨g, 0, none⟩) zs.length cap) (by rfl) (.tmp 38) (.tmp 40) _ (by rfl) 21 i0 _ 1 4 Tryz.underlying23 hi hz0 hz1 hz2 rfl (by decide) _ _ _ (by rfl) hown1
              ⟨wr.heap.size, 0, none⟩ 1 1 [.int .i32 r] (by rfl) (by rfl) (one_cell (by rw [hgrow1.cell_far _ (by simp <;> omega) (fun e => by change some wr.heap.size = some (wr.heap.size + 1) at e; simp at e)]; simp)) (fun x hx => by simp at hx; subst hx; rfl)
              (by unfold maxLen; omega) (by omega) ⟨kp1, bl1⟩ hbl ?_; intro v2 w2 hown2 hgrow2 kp2 bl2; have kc2 := kp2.1; have kf2 := kp2.2)
          | (refine step_append_s (W0 := wr) (b := bo) (vb := .slice (some ⟨g, 0, none⟩) zs.length cap) (by rfl) (.tmp 41) (.tmp 44) _ (by rfl) 21 i0 _ 1 4 Tryz.underlying23 hi hz0 hz1 hz2 rfl (by decide) _ _ _ (by rfl) hown2
              ⟨g, k, none⟩ (zs.length - k) (cap - k) ((zs.drop k).map (Value.int .i32)) (by rfl) (by rw [List.length_map, HLen.out.2, Nat.mul_one]) (drop_cells HC.out bl2 k) (fun x hx => by obtain ⟨z, _, rfl⟩ := List.mem_map.1 hx; rfl)
              (by unfold maxLen; omega) (by omega) ⟨kp2, bl2⟩ hbl (S.insF zs r).length ((S.insF zs r).map (Value.int .i32)) HIns.out.1 HIns.out.2.1 HIns.out.2.2 ?_; intro g3 cap3 w3 hown3 kp3 bl3; have kc3 := kp3.1; have kf3 := kp3.2))
      all_goals go_wp2
      all_goals go_end0
      all_goals exact ⟨rfl, put_fin HX.out hbo hB hown3 bl3⟩

end Go.Proofs.YtlmmjefplbcapaaGreat
