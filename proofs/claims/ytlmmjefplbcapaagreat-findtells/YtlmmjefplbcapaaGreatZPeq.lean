/-
  Runes that are sorted: those that are the same as one, ahead of those that are more.
-/
import Derived.Test.YtlmmjefplbcapaaGreatZPart
import Derived.Sort.WalkC4
namespace Go.Proofs.YtlmmjefplbcapaaGreat
open Go.RowKit Go.Sort
set_option maxRecDepth 20000
set_option linter.unusedSimpArgs false
set_option linter.unusedVariables false

set_option maxHeartbeats 4000000 in
theorem zpeq_any (w : World) (blk off cap a b p : Nat) (d : Array Int) (h0 : Holds Z.en w blk off d) (hap : a ≤ p) (hpb : p < b) (hb : b ≤ d.size) (hsz : d.size < 1152921504606846976) :
    Calls Tryz.prog 94 #[.slice (some ⟨blk, off, none⟩) d.size cap, .int .i64 a, .int .i64 b, .int .i64 p] w fun e w' => e = .returned (.int .i64 ((partitionEqual ltInt d a b p).1 : Nat)) ∧ Z.At w blk off d.size (partitionEqual ltInt d a b p).2 w' := by
  have H0 : Hid (Holds Z.en w blk off d) := h0
  have hS : Z.At w blk off d.size d w := Z.At.start h0
  clear h0
  obtain ⟨G, hG⟩ : ∃ G : Nat → Int, ∀ t, G t = d[t]! := ⟨fun t => d[t]!, fun _ => rfl⟩
  have hcw : ∀ t, t < d.size → w.cell? ⟨blk, off + t, none⟩ = some (.int .i32 (G t)) := fun t ht => by rw [hG]; exact hS.cell H0.out rfl ht
  have hfw : ∀ t, t < d.size → w.frozen? ⟨blk, off + t, none⟩ = false := fun t ht => hS.free H0.out rfl ht
  have hsw := hS.swap (i := a) (j := p) (by omega) (by omega) 1
  rw [← hG, ← hG] at hsw
  have HSw : Hid (∀ X, X = ((w.setCell ⟨blk, off + a, none⟩ (.int .i32 (G p))).setCell ⟨blk, off + p, none⟩ (.int .i32 (G a))).drew → Z.At w blk off d.size (swp d a p) X) := fun X hX => by rw [hX]; exact hsw
  obtain ⟨v', x1⟩ : ∃ v', ((w.setCell ⟨blk, off + a, none⟩ (.int .i32 (G p))).drew).cell? ⟨blk, off + p, none⟩ = some v' := cell?_setCell_some (w := w) (p := ⟨blk, off + a, none⟩) (x := .int .i32 (G p)) (q := ⟨blk, off + p, none⟩) (hcw p (by omega))
  have x2 : ((w.setCell ⟨blk, off + a, none⟩ (.int .i32 (G p))).drew).frozen? ⟨blk, off + p, none⟩ = false := (World.frozen?_setCell _ _ _ _).trans (hfw p (by omega))
  clear hsw hG hS
  go_enter Tryz.func94, Tryz.ntmps94
  go_wp2_with fail
  go_region
  go_wp2
  go_loopw [9, 10] (fun v9 v10 wr => ∃ (i j : Nat) (e : Array Int), v9 = .int .i64 i ∧ v10 = .int .i64 j ∧ a < i ∧ i ≤ j + 1 ∧ j < b ∧ Hid (Z.At w blk off d.size e wr ∧ partEqLoop ltInt a i j e = partitionEqual ltInt d a b p)) (fun v9 v10 _ => (RowKit.intOf v10 + 1 - RowKit.intOf v9).toNat)
  case atStart => exact ⟨a + 1, b - 1, swp d a p, by go_num, by congr 1; omega, by omega, by omega, by omega, HSw.out _ rfl, rfl⟩
  case round =>
    obtain ⟨i, j, e, rfl, rfl, hai, hij, hjb, HE⟩ := hrel
    clear hcw hfw HSw x1 x2
    go_upto_block 2 with fail
    go_cut [9] (fun v9 wx => ∃ k : Nat, v9 = .int .i64 k ∧ i ≤ k ∧ k ≤ j + 1 ∧ Hid (Z.At w blk off d.size e wx ∧ k = scanUp (fun x => !ltInt e[a]! x) e j i))
    case first =>
      go_wp2
      go_loopw [9] (fun v9 wx => ∃ k : Nat, v9 = .int .i64 k ∧ i ≤ k ∧ k ≤ j + 1 ∧ Hid (Z.At w blk off d.size e wx ∧ scanUp (fun x => !ltInt e[a]! x) e j k = scanUp (fun x => !ltInt e[a]! x) e j i)) (fun v9 _ => j + 1 - (RowKit.intOf v9).toNat)
      case atStart => exact ⟨i, rfl, Nat.le_refl _, hij, HE.out.1, rfl⟩
      case round =>
        obtain ⟨k, rfl, hik, hkj, HK⟩ := hrel
        obtain ⟨G', hG⟩ : ∃ G : Nat → Int, ∀ t, G t = e[t]! := ⟨fun t => e[t]!, fun _ => rfl⟩
        have hcw : ∀ t, t < d.size → wr.cell? ⟨blk, off + t, none⟩ = some (.int .i32 (G' t)) := fun t ht => by rw [hG]; exact HK.out.1.cell H0.out rfl ht
        have HG : Hid (∀ t, G' t = e[t]!) := hG
        clear hG
        by_cases hk : k ≤ j
        · go_wp2
          go_quiet (first | (go_at_call 93; refine Calls.quiet_of_same (zless_any _ _ _)))
          cases hl : ltInt (G' a) (G' k) with
          | false =>
            go_wp2
            go_roundw
            case rel => exact ⟨k + 1, by go_num, by omega, by omega, HK.out.1.drew _, by rw [← HK.out.2, scanUp_go (fun x => !ltInt e[a]! x) e j k hk (by rw [← HG.out, ← HG.out, hl]; rfl)]⟩
            case measure => simp [RowKit.intOf]; omega
          | true =>
            go_wp2
            go_meet
            case rel => exact ⟨k, rfl, hik, hkj, HK.out.1.drew _, by rw [← HK.out.2, scanUp_end (fun x => !ltInt e[a]! x) e j k (.inr (by rw [← HG.out, ← HG.out, hl]; rfl))]⟩
        · go_wp2
          go_quiet (first | (go_at_call 93; refine Calls.quiet_of_same (zless_any _ _ _)))
          go_wp2
          go_meet
          case rel => exact ⟨k, rfl, hik, hkj, HK.out.1.drew _, by rw [← HK.out.2, scanUp_end (fun x => !ltInt e[a]! x) e j k (.inl hk)]⟩
    case rest =>
      obtain ⟨k, rfl, hik, hkj, HK⟩ := hcut
      go_upto_block 4 with fail
      go_cut [10] (fun v10 wx => ∃ l : Nat, v10 = .int .i64 l ∧ l ≤ j ∧ k ≤ l + 1 ∧ Hid (Z.At w blk off d.size e wx ∧ l = scanDown (fun x => ltInt e[a]! x) e k j))
      case first =>
        go_wp2
        go_loopw [10] (fun v10 wx => ∃ l : Nat, v10 = .int .i64 l ∧ l ≤ j ∧ k ≤ l + 1 ∧ Hid (Z.At w blk off d.size e wx ∧ scanDown (fun x => ltInt e[a]! x) e k l = scanDown (fun x => ltInt e[a]! x) e k j)) (fun v10 _ => (RowKit.intOf v10).toNat)
        case atStart => exact ⟨j, rfl, Nat.le_refl _, hkj, HK.out.1, rfl⟩
        case round =>
          obtain ⟨l, rfl, hlj, hkl, HL⟩ := hrel
          obtain ⟨G', hG⟩ : ∃ G : Nat → Int, ∀ t, G t = e[t]! := ⟨fun t => e[t]!, fun _ => rfl⟩
          have hcw : ∀ t, t < d.size → wr.cell? ⟨blk, off + t, none⟩ = some (.int .i32 (G' t)) := fun t ht => by rw [hG]; exact HL.out.1.cell H0.out rfl ht
          have HG : Hid (∀ t, G' t = e[t]!) := hG
          clear hG
          by_cases hk : k ≤ l
          · go_wp2
            go_quiet (first | (go_at_call 93; refine Calls.quiet_of_same (zless_any _ _ _)))
            cases hl : ltInt (G' a) (G' l) with
            | true =>
              go_wp2
              go_roundw
              case rel => exact ⟨l - 1, by congr 1; omega, by omega, by omega, HL.out.1.drew _, by rw [← HL.out.2, scanDown_go (fun x => ltInt e[a]! x) e k l hk (by omega) (by rw [← HG.out, ← HG.out, hl])]⟩
              case measure => simp [RowKit.intOf]; omega
            | false =>
              go_wp2
              go_meet
              case rel => exact ⟨l, rfl, hlj, hkl, HL.out.1.drew _, by rw [← HL.out.2, scanDown_end (fun x => ltInt e[a]! x) e k l (.inr (by rw [← HG.out, ← HG.out, hl]))]⟩
          · go_wp2
            go_quiet (first | (go_at_call 93; refine Calls.quiet_of_same (zless_any _ _ _)))
            go_wp2
            go_meet
            case rel => exact ⟨l, rfl, hlj, hkl, HL.out.1.drew _, by rw [← HL.out.2, scanDown_end (fun x => ltInt e[a]! x) e k l (.inl hk)]⟩
      case rest =>
        obtain ⟨l, rfl, hlj, hkl, HL⟩ := hcut
        by_cases hkl2 : l < k
        · have HB : Hid (partitionEqual ltInt d a b p = (k, e)) := by
            show _ = _
            rw [← HE.out.2, partEq_break ltInt a i j e HK.out.2 HL.out.2 hkl2]
          clear HE HK
          go_wp2
          go_ret
          rw [HB.out]
          exact ⟨rfl, HL.out.1⟩
        · have HB : Hid (partEqLoop ltInt a (k + 1) (l - 1) (swp e k l) = partitionEqual ltInt d a b p) := by
            show _ = _
            rw [← HE.out.2, partEq_go ltInt a i j e HK.out.2 HL.out.2 (by omega)]
          have hlt3 := scans_lt ltInt a i j e (by omega) HK.out.2 HL.out.2 (by omega)
          obtain ⟨G', hG⟩ : ∃ G : Nat → Int, ∀ t, G t = e[t]! := ⟨fun t => e[t]!, fun _ => rfl⟩
          have hcw : ∀ t, t < d.size → wc.cell? ⟨blk, off + t, none⟩ = some (.int .i32 (G' t)) := fun t ht => by rw [hG]; exact HL.out.1.cell H0.out rfl ht
          have hfw : ∀ t, t < d.size → wc.frozen? ⟨blk, off + t, none⟩ = false := fun t ht => HL.out.1.free H0.out rfl ht
          have hsw := HL.out.1.swap (i := k) (j := l) (by omega) (by omega) 1
          rw [← hG, ← hG] at hsw
          have HSw : Hid (∀ X, X = ((wc.setCell ⟨blk, off + k, none⟩ (.int .i32 (G' l))).setCell ⟨blk, off + l, none⟩ (.int .i32 (G' k))).drew → Z.At w blk off d.size (swp e k l) X) := fun X hX => by rw [hX]; exact hsw
          clear hsw hG HE HK HL
          go_wp2_with fail
          go_region
          all_goals go_wp2
          go_roundw
          case rel => exact ⟨k + 1, l - 1, swp e k l, by go_num, by congr 1; omega, by omega, by omega, by omega, HSw.out _ rfl, HB.out⟩
          case measure => simp [RowKit.intOf]; omega

end Go.Proofs.YtlmmjefplbcapaaGreat
