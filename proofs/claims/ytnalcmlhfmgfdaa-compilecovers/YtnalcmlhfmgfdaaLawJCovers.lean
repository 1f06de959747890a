/-
  scriptlaw10.CompileCovers: it returns true.
-/
import Derived.Test.YtnalcmlhfmgfdaaJAlive
import Derived.Test.YtnalcmlhfmgfdaaYSame9
import Derived.Deep.Cut
import Derived.Deep.DeepCutAuto
import Derived.Deep.QuietTactic
import Derived.BigQuiet
namespace Go.Proofs.Ytnalcmlhfmgfdaa
open Go.RowKit Go.Shelf
set_option maxRecDepth 20000
set_option linter.unusedSimpArgs false
set_option linter.unusedVariables false

theorem J.Comp.heads {l : List K.Rule} {o : List J.Hd × Int × Int} (h : J.Comp l o) (h0 : o.2.1 = 0) : (∀ r ∈ l, K.ruleE r = 0) ∧ o.2.2 = 0 ∧ ∃ c, J.Cuts l c ∧ 2 ≤ c.length ∧ c.length - 1 ≤ 400 ∧ o.1 = J.heads (J.begins l) c (c.length - 1) := by
  rcases h with ⟨h1, rfl⟩ | ⟨h1, c, hc, h2, ⟨_, rfl⟩ | ⟨h3, rfl⟩⟩
  · exact absurd h0 h1
  · simp at h0
  · exact ⟨(K.rulesF_zero h1).2.1, rfl, c, hc, h2, h3, rfl⟩

set_option maxHeartbeats 8000000 in
theorem compileCovers_any (w : World) (v : Value) (l : List K.Rule) (R0 : V.Rus w v l) :
    Calls Try.prog 6 #[v] w fun e w' => e = .returned (.bool true) ∧ Below w.heap.size w w' := by
  have HC : Hid (∀ X, Below w.heap.size w X → Calls Try.prog 12 #[v] X fun e w' => ∃ (v' : Value) (o : List J.Hd × Int × Int), J.Comp l o ∧ e = .returned (.tuple #[v', .agg #[.int .i64 o.2.1, .int .i64 o.2.2]]) ∧ J.Rd w' v' o.1 ∧ Below w.heap.size w w') := fun X hX => by
    refine (jCompile_any X v l (R0.below hX)).mono ?_
    rintro e w' ⟨v', o, h1, h2, h3, h4⟩
    exact ⟨v', o, h1, h2, h3.rd, hX.trans (h4.mono hX.size)⟩
  have hfew : ∀ q, (J.begins l q).length ≤ 4611686018427387903 := fun q => by
    have h1 := R0.few
    have h2 := J.which_len (fun r => S.memb (K.headS r) q) l 0
    unfold J.begins
    omega
  have HFew : Hid (∀ q, (J.begins l q).length ≤ 4611686018427387903) := hfew
  obtain ⟨ao, cap, rfl⟩ := R0.len
  clear R0 hfew
  go_enter Try.func6, Try.ntmps6
  go_wp2_with fail
  refine (jAlive_any w).mono ?_
  rintro e w1 ⟨rfl, b1⟩
  have HB1 : Hid (Below w.heap.size w w1) := b1
  clear b1
  go_wp2_with fail
  refine (HC.out _ HB1.out).mono ?_
  rintro e w2 ⟨v2, ⟨hs, e1, e2⟩, hco, rfl, hrd, b2⟩
  have HB2 : Hid (Below w.heap.size w w2) := b2
  have hbw := b2.size
  have HBa : Hid (∀ o, Below w.heap.size w (w2.alloc o)) := fun o => b2.alloc hbw o
  have HRd : Hid (J.Rd w2 v2 hs) := hrd
  obtain ⟨ho, hcap, rfl, _⟩ := id hrd
  have HCo : Hid (e1 = 0 → (∀ r ∈ l, K.ruleE r = 0) ∧ e2 = 0 ∧ ∃ c, J.Cuts l c ∧ 2 ≤ c.length ∧ c.length - 1 ≤ 400 ∧ hs = J.heads (J.begins l) c (c.length - 1)) := hco.heads
  clear b2 HC HB1 hrd hco
  simp only
  by_cases hq : e1 = 0
  · subst hq
    obtain ⟨hE, rfl, c, hc, hc2, hc4, hhs⟩ := HCo.out rfl
    have HCu : Hid (J.Cuts l c) := hc
    have HE : Hid (∀ r ∈ l, K.ruleE r = 0) := hE
    have HHs : Hid (hs = J.heads (J.begins l) c (c.length - 1)) := hhs
    have hlen : hs.length = c.length - 1 := by rw [hhs, J.heads_len]
    have h0 := hc.first hE
    have hz : c.getD 0 0 = 0 := h0
    have HZ : Hid (c.getD 0 0 = 0) := h0
    have HL : Hid (c.getD (c.length - 1) 0 = 1114112) := hc.last hE
    obtain ⟨Y, hY⟩ : ∃ Y, Y = w2.alloc (.cells #[.int .i64 0, .int .i64 0] 28) := ⟨_, rfl⟩
    have HBY : Hid (Below w.heap.size w Y ∧ J.Rd Y (.slice ho hs.length hcap) hs) := by
      show _ ∧ _
      rw [hY]
      exact ⟨HBa.out _, HRd.out.below ((Below.refl _ w2).alloc (Nat.le_refl _) _)⟩
    have HYY : Hid (Y = w2.alloc (.cells #[.int .i64 0, .int .i64 0] 28)) := hY
    clear hE hc hhs h0 hz hY
    rw [hlen] at HBY ⊢
    go_wp2_with fail
    rw [← HYY.out]
    go_loopw [5, 20] (fun va vi wr => ∃ k : Nat, k ≤ c.length - 1 ∧ vi = .int .i64 k ∧ va = .int .i32 (c.getD k 0) ∧ Hid (Below w.heap.size w wr ∧ Below Y.heap.size Y wr)) (fun _ vi _ => c.length - 1 - (RowKit.intOf vi).toNat)
    case atStart => exact ⟨0, Nat.zero_le _, rfl, by rw [HZ.out], HBY.out.1, Below.refl _ _⟩
    case round =>
      obtain ⟨k, hk, rfl, rfl, HB⟩ := hrel
      by_cases hlt : k < c.length - 1
      · have HRw : J.Rd wr (.slice ho (c.length - 1) hcap) hs := HBY.out.2.below HB.out.2
        have hk0 : hs[k]? = some (J.headAt (J.begins l) c k) := by rw [HHs.out]; exact J.heads_at hlt
        obtain ⟨X, off, ro, rc, rfl, c0, c1, c2, r0⟩ := HRw.at hk0
        have r1 := J.mem_range HE.out ((HCu.out.2 _).1 (HCu.out.get (k := k) (by omega)))
        have r2 := J.mem_range HE.out ((HCu.out.2 _).1 (HCu.out.get (k := k + 1) (by omega)))
        have r3 := HCu.out.lt (i := k) (j := k + 1) (by omega) (by omega)
        have hbl := HB.out.1.size
        simp only [J.headAt] at c0 c1 c2 r0
        obtain ⟨Z, hZ⟩ : ∃ Z, Z = wr.alloc (.cells #[.int .i32 (c.getD k 0), .int .i32 (c.getD (k + 1) 0 - 1), .slice ro (J.begins l (c.getD k 0)).length rc] 46) := ⟨_, rfl⟩
        have hZb : Below wr.heap.size wr Z := by rw [hZ]; exact (Below.refl _ wr).alloc (Nat.le_refl _) _
        have HZB : Hid (Below w.heap.size w Z ∧ Below Y.heap.size Y Z) := ⟨HB.out.1.trans (hZb.mono hbl), HB.out.2.trans (hZb.mono HB.out.2.size)⟩
        have hZh : Z.heap[wr.heap.size]? = some (.cells #[.int .i32 (c.getD k 0), .int .i32 (c.getD (k + 1) 0 - 1), .slice ro (J.begins l (c.getD k 0)).length rc] 46) := by
          rw [hZ]
          show (wr.heap.push _)[wr.heap.size]? = _
          exact Array.getElem?_push_size
        have z0 : Z.cell? ⟨wr.heap.size, 0, none⟩ = some (.int .i32 (c.getD k 0)) := K.at_box (i := 0) hZh rfl
        have z1 : Z.cell? ⟨wr.heap.size, 1, none⟩ = some (.int .i32 (c.getD (k + 1) 0 - 1)) := K.at_box (i := 1) hZh rfl
        have z2 : Z.cell? ⟨wr.heap.size, 2, none⟩ = some (.slice ro (J.begins l (c.getD k 0)).length rc) := K.at_box (i := 2) hZh rfl
        have HZr : Hid (L.Rd Z (.slice ro (J.begins l (c.getD k 0)).length rc) .i64 (J.begins l (c.getD k 0))) := r0.below hZb (Nat.le_refl _)
        have HZk : Hid (∀ m p, hs[m]? = some p → ∃ qo qc, Z.cell? ⟨X, off + m * 3 + 2, none⟩ = some (.slice qo p.2.2.length qc) ∧ L.Rd Z (.slice qo p.2.2.length qc) .i64 p.2.2) := fun m p hm => by
          obtain ⟨X', off', qo, qc, h9, _, _, d2, d3⟩ := (HRw.below hZb).at hm
          cases h9
          exact ⟨qo, qc, d2, d3⟩
        have hbn : (J.begins l (c.getD k 0)).length ≤ 4611686018427387903 := HFew.out _
        clear r0 HRw hk0 hZh hZb
        have HDiff : Hid (0 < k → decide (J.begins l (c.getD (k - 1) 0) = J.begins l (c.getD k 0)) = false) := fun h => by
          have := HCu.out.diff HE.out (k := k - 1) (by omega)
          rw [show k - 1 + 1 = k by omega] at this
          exact decide_eq_false this
        have HPrev : Hid (0 < k → hs[k - 1]? = some (J.headAt (J.begins l) c (k - 1))) := fun h => by rw [HHs.out]; exact J.heads_at (by omega)
        generalize hlo : c.getD k 0 = lo at c0 z0 z2 HZr hZ r1 r3 c2 hbn HDiff
        generalize hnx : c.getD (k + 1) 0 = nx at c1 z1 hZ r2 r3
        have HNx : Hid (c.getD (k + 1) 0 = nx) := hnx
        clear hnx hlo
        generalize J.begins l lo = bl at c2 z2 HZr hZ hbn HDiff
        obtain ⟨r4, r5⟩ := r1
        obtain ⟨r6, r7⟩ := r2
        have r8 : decide (nx - 1 < lo) = false := decide_eq_false (by omega)
        go_wp2_with fail
        rw [← hZ]
        clear c0 c1 c2 hZ
        go_cut [50] (fun v50 wx => v50 = .bool false ∧ ∃ n, wx = Z.drewN n)
        case first =>
          by_cases hk0 : 0 < k
          · obtain ⟨qo, qc, d2, d3⟩ := HZk.out (k - 1) _ (HPrev.out hk0)
            simp only [J.headAt] at d2 d3
            have hdi := HDiff.out hk0
            have hbm : (J.begins l (c.getD (k - 1) 0)).length ≤ 4611686018427387903 := HFew.out _
            have HS9 : Hid (∀ n, Calls Try.prog 16 #[.slice qo (J.begins l (c.getD (k - 1) 0)).length qc, .slice ro bl.length rc] (Z.drewN n) fun e w' => e = .returned (.bool false) ∧ ∃ m, w' = (Z.drewN n).drewN m) := fun n => by
              have := rSame9_drew (Z.drewN n) _ _ _ _ (d3.below (below_drewN (Below.refl _ _) _) (Nat.le_refl _)) (HZr.out.below (below_drewN (Below.refl _ _) _) (Nat.le_refl _)) hbm hbn
              rw [hdi] at this
              exact this
            clear hdi d3 hbm
            generalize (J.begins l (c.getD (k - 1) 0)).length = bm at d2 HS9
            have hki : (0 : Int) < (k : Int) := by omega
            go_big_quiet (first | (go_at_call 16; exact Calls.quiet_of (HS9.out _)))
            go_wp2
            go_meet
            case rel => exact ⟨rfl, _, rfl⟩
          · have hkf : decide ((0 : Int) < (k : Int)) = false := decide_eq_false (by omega)
            go_big_quiet (fail)
            go_wp2
            go_meet
            case rel => exact ⟨rfl, _, rfl⟩
        case rest =>
          obtain ⟨rfl, n, rfl⟩ := hcut
          go_wp2
          go_roundw
          case rel => exact ⟨k + 1, by omega, by go_num, by rw [HNx.out], below_drewN HZB.out.1 _, below_drewN HZB.out.2 _⟩
          case measure => simp [RowKit.intOf]; omega
      · have hke : k = c.length - 1 := by omega
        subst hke
        have hlast : c.getD (c.length - 1) 0 = 1114112 := HL.out
        rw [hlast]
        go_wp2
        go_ret
        exact ⟨rfl, HB.out.1⟩
  · go_wp2
    go_ret
    exact ⟨rfl, HBa.out _⟩

end Go.Proofs.Ytnalcmlhfmgfdaa
