/-
  Runes that are sorted: those that are less than one ahead of it, the others behind it.
-/
import Derived.Test.YtlmmjefplbcapaaGreatZPeq
namespace Go.Proofs.YtlmmjefplbcapaaGreat
open Go.RowKit Go.Sort
set_option maxRecDepth 20000
set_option linter.unusedSimpArgs false
set_option linter.unusedVariables false

set_option maxHeartbeats 8000000 in
theorem zpart_any (w : World) (blk off cap a b p : Nat) (d : Array Int) (h0 : Holds Z.en w blk off d) (hap : a ≤ p) (hpb : p < b) (hb : b ≤ d.size) (hsz : d.size < 1152921504606846976) :
    Calls Tryz.prog 95 #[.slice (some ⟨blk, off, none⟩) d.size cap, .int .i64 a, .int .i64 b, .int .i64 p] w fun e w' => e = .returned (.tuple #[.int .i64 ((partition ltInt d a b p).1 : Nat), .bool (partition ltInt d a b p).2.1]) ∧ Z.At w blk off d.size (partition ltInt d a b p).2.2 w' := by
  have H0 : Hid (Holds Z.en w blk off d) := h0
  have hS : Z.At w blk off d.size d w := Z.At.start h0
  clear h0
  obtain ⟨G, hG⟩ : ∃ G : Nat → Int, ∀ t, G t = d[t]! := ⟨fun t => d[t]!, fun _ => rfl⟩
  have hcw : ∀ t, t < d.size → w.cell? ⟨blk, off + t, none⟩ = some (.int .i32 (G t)) := fun t ht => by rw [hG]; exact hS.cell H0.out rfl ht
  have hfw : ∀ t, t < d.size → w.frozen? ⟨blk, off + t, none⟩ = false := fun t ht => hS.free H0.out rfl ht
  have hsw := hS.swap (i := a) (j := p) (by omega) (by omega) 1
  rw [← hG, ← hG] at hsw
  obtain ⟨e, he⟩ : ∃ e, e = swp d a p := ⟨_, rfl⟩
  rw [← he] at hsw
  have HD : Hid (e = swp d a p) := he
  have HSw : Hid (∀ X, X = ((w.setCell ⟨blk, off + a, none⟩ (.int .i32 (G p))).setCell ⟨blk, off + p, none⟩ (.int .i32 (G a))).drew → Z.At w blk off d.size e X) := fun X hX => by rw [hX]; exact hsw
  obtain ⟨v', x1⟩ : ∃ v', ((w.setCell ⟨blk, off + a, none⟩ (.int .i32 (G p))).drew).cell? ⟨blk, off + p, none⟩ = some v' := cell?_setCell_some (w := w) (p := ⟨blk, off + a, none⟩) (x := .int .i32 (G p)) (q := ⟨blk, off + p, none⟩) (hcw p (by omega))
  have x2 : ((w.setCell ⟨blk, off + a, none⟩ (.int .i32 (G p))).drew).frozen? ⟨blk, off + p, none⟩ = false := (World.frozen?_setCell _ _ _ _).trans (hfw p (by omega))
  obtain ⟨i, hi⟩ : ∃ i, i = a + 1 := ⟨_, rfl⟩
  obtain ⟨j, hj⟩ : ∃ j, j = b - 1 := ⟨_, rfl⟩
  have hai : a < i := by omega
  have hij : i ≤ j + 1 := by omega
  have hjb : j < b := by omega
  have e1 : ((a : Int) + 1) = (i : Int) := by omega
  have e2 : ((b : Int) - 1) = (j : Int) := by omega
  have HI : Hid (i = a + 1) := hi
  have HJ : Hid (j = b - 1) := hj
  clear hsw hG hS hi hj he
  go_enter Tryz.func95, Tryz.ntmps95
  go_wp2_with fail
  go_region
  go_upto_block 0 with fail
  have HE : Hid (Z.At w blk off d.size e (((w.setCell ⟨blk, off + a, none⟩ (.int .i32 (G p))).setCell ⟨blk, off + p, none⟩ (.int .i32 (G a))).drew)) := HSw.out _ rfl
  clear hcw hfw HSw x1 x2 e1 e2
  go_upto_block 0 with fail
  go_cut [10] (fun v10 wx => ∃ k : Nat, v10 = .int .i64 k ∧ i ≤ k ∧ k ≤ j + 1 ∧ Hid (Z.At w blk off d.size e wx ∧ k = scanUp (fun x => ltInt x e[a]!) e j i))
  case first =>
    go_wp2
    go_loopw [10] (fun v10 wx => ∃ k : Nat, v10 = .int .i64 k ∧ i ≤ k ∧ k ≤ j + 1 ∧ Hid (Z.At w blk off d.size e wx ∧ scanUp (fun x => ltInt x e[a]!) e j k = scanUp (fun x => ltInt x e[a]!) e j i)) (fun v10 _ => j + 1 - (RowKit.intOf v10).toNat)
    case atStart => exact ⟨i, rfl, Nat.le_refl _, hij, HE.out, rfl⟩
    case round =>
      obtain ⟨k, rfl, hik, hkj, HK⟩ := hrel
      obtain ⟨G', hG⟩ : ∃ G : Nat → Int, ∀ t, G t = e[t]! := ⟨fun t => e[t]!, fun _ => rfl⟩
      have hcw : ∀ t, t < d.size → wr.cell? ⟨blk, off + t, none⟩ = some (.int .i32 (G' t)) := fun t ht => by rw [hG]; exact HK.out.1.cell H0.out rfl ht
      have HG : Hid (∀ t, G' t = e[t]!) := hG
      clear hG
      by_cases hk : k ≤ j
      · go_wp2
        go_quiet (first | (go_at_call 93; refine Calls.quiet_of_same (zless_any _ _ _)))
        cases hl : ltInt (G' k) (G' a) with
        | true =>
          go_wp2
          go_roundw
          case rel => exact ⟨k + 1, by go_num, by omega, by omega, HK.out.1.drew _, by rw [← HK.out.2, scanUp_go (fun x => ltInt x e[a]!) e j k hk (by rw [← HG.out, ← HG.out, hl])]⟩
          case measure => simp [RowKit.intOf]; omega
        | false =>
          go_wp2
          go_meet
          case rel => exact ⟨k, rfl, hik, hkj, HK.out.1.drew _, by rw [← HK.out.2, scanUp_end (fun x => ltInt x e[a]!) e j k (.inr (by rw [← HG.out, ← HG.out, hl]))]⟩
      · go_wp2
        go_quiet (first | (go_at_call 93; refine Calls.quiet_of_same (zless_any _ _ _)))
        go_wp2
        go_meet
        case rel => exact ⟨k, rfl, hik, hkj, HK.out.1.drew _, by rw [← HK.out.2, scanUp_end (fun x => ltInt x e[a]!) e j k (.inl hk)]⟩
  case rest =>
    obtain ⟨k, rfl, hik, hkj, HK⟩ := hcut
    go_upto_block 2 with fail
    go_cut [11] (fun v11 wx => ∃ l : Nat, v11 = .int .i64 l ∧ l ≤ j ∧ k ≤ l + 1 ∧ Hid (Z.At w blk off d.size e wx ∧ l = scanDown (fun x => !ltInt x e[a]!) e k j))
    case first =>
      go_wp2
      go_loopw [11] (fun v11 wx => ∃ l : Nat, v11 = .int .i64 l ∧ l ≤ j ∧ k ≤ l + 1 ∧ Hid (Z.At w blk off d.size e wx ∧ scanDown (fun x => !ltInt x e[a]!) e k l = scanDown (fun x => !ltInt x e[a]!) e k j)) (fun v11 _ => (RowKit.intOf v11).toNat)
      case atStart => exact ⟨j, rfl, Nat.le_refl _, hkj, HK.out.1, rfl⟩
      case round =>
        obtain ⟨l, rfl, hlj, hkl, HL⟩ := hrel
        obtain ⟨G', hG⟩ : ∃ G : Nat → Int, ∀ t, G t = e[t]! := ⟨fun t => e[t]!, fun _ => rfl⟩
        have hcw : ∀ t, t < d.size → wr.cell? ⟨blk, off + t, none⟩ = some (.int .i32 (G' t)) := fun t ht => by rw [hG]; exact HL.out.1.cell H0.out rfl ht
        have HG : Hid (∀ t, G' t = e[t]!) := hG
        clear hG
        by_cases hk : k ≤ l
        · go_wp2
          go_quiet (first | (go_at_call 93; refine Calls.quiet_of_same (zless_any _ _ _)))
          cases hl : ltInt (G' l) (G' a) with
          | false =>
            go_wp2
            go_roundw
            case rel => exact ⟨l - 1, by congr 1; omega, by omega, by omega, HL.out.1.drew _, by rw [← HL.out.2, scanDown_go (fun x => !ltInt x e[a]!) e k l hk (by omega) (by rw [← HG.out, ← HG.out, hl]; rfl)]⟩
            case measure => simp [RowKit.intOf]; omega
          | true =>
            go_wp2
            go_meet
            case rel => exact ⟨l, rfl, hlj, hkl, HL.out.1.drew _, by rw [← HL.out.2, scanDown_end (fun x => !ltInt x e[a]!) e k l (.inr (by rw [← HG.out, ← HG.out, hl]; rfl))]⟩
        · go_wp2
          go_quiet (first | (go_at_call 93; refine Calls.quiet_of_same (zless_any _ _ _)))
          go_wp2
          go_meet
          case rel => exact ⟨l, rfl, hlj, hkl, HL.out.1.drew _, by rw [← HL.out.2, scanDown_end (fun x => !ltInt x e[a]!) e k l (.inl hk)]⟩
    case rest =>
      obtain ⟨l, rfl, hlj, hkl, HL⟩ := hcut
      by_cases hkl2 : l < k
      · have HB : Hid (partition ltInt d a b p = (l, true, swp e l a)) := part_first_break ltInt d a b p HI.out HJ.out HD.out HK.out.2 HL.out.2 hkl2
        obtain ⟨G', hG⟩ : ∃ G : Nat → Int, ∀ t, G t = e[t]! := ⟨fun t => e[t]!, fun _ => rfl⟩
        have hcw : ∀ t, t < d.size → wc.cell? ⟨blk, off + t, none⟩ = some (.int .i32 (G' t)) := fun t ht => by rw [hG]; exact HL.out.1.cell H0.out rfl ht
        have hfw : ∀ t, t < d.size → wc.frozen? ⟨blk, off + t, none⟩ = false := fun t ht => HL.out.1.free H0.out rfl ht
        have hsw := HL.out.1.swap (i := l) (j := a) (by omega) (by omega) 1
        rw [← hG, ← hG] at hsw
        have HSw : Hid (∀ X, X = ((wc.setCell ⟨blk, off + l, none⟩ (.int .i32 (G' a))).setCell ⟨blk, off + a, none⟩ (.int .i32 (G' l))).drew → Z.At w blk off d.size (swp e l a) X) := fun X hX => by rw [hX]; exact hsw
        obtain ⟨v', x1⟩ : ∃ v', ((wc.setCell ⟨blk, off + l, none⟩ (.int .i32 (G' a))).drew).cell? ⟨blk, off + a, none⟩ = some v' := cell?_setCell_some (w := wc) (p := ⟨blk, off + l, none⟩) (x := .int .i32 (G' a)) (q := ⟨blk, off + a, none⟩) (hcw a (by omega))
        have x2 : ((wc.setCell ⟨blk, off + l, none⟩ (.int .i32 (G' a))).drew).frozen? ⟨blk, off + a, none⟩ = false := (World.frozen?_setCell _ _ _ _).trans (hfw a (by omega))
        clear hsw hG
        clear HE HK HL HI HJ HD
        go_wp2_with fail
        go_region
        go_wp2
        refine bodyPost_ret (v := .tuple #[.int .i64 l, .bool true]) (by simp [results, Tryz.results95, go_sem, *]) rfl ?_
        rw [HB.out]
        exact ⟨rfl, HSw.out _ rfl⟩
      · have HP0 : Hid (partition ltInt d a b p = ((partLoop ltInt a (k + 1) (l - 1) (swp e k l)).1, false, swp (partLoop ltInt a (k + 1) (l - 1) (swp e k l)).2 (partLoop ltInt a (k + 1) (l - 1) (swp e k l)).1 a)) := part_first_go ltInt d a b p HI.out HJ.out HD.out HK.out.2 HL.out.2 (by omega)
        have hlt3 := part_scans_lt ltInt a i j e (by omega) HK.out.2 HL.out.2 (by omega)
        obtain ⟨G', hG⟩ : ∃ G : Nat → Int, ∀ t, G t = e[t]! := ⟨fun t => e[t]!, fun _ => rfl⟩
        have hcw : ∀ t, t < d.size → wc.cell? ⟨blk, off + t, none⟩ = some (.int .i32 (G' t)) := fun t ht => by rw [hG]; exact HL.out.1.cell H0.out rfl ht
        have hfw : ∀ t, t < d.size → wc.frozen? ⟨blk, off + t, none⟩ = false := fun t ht => HL.out.1.free H0.out rfl ht
        have hsw := HL.out.1.swap (i := k) (j := l) (by omega) (by omega) 1
        rw [← hG, ← hG] at hsw
        have HSw : Hid (∀ X, X = ((wc.setCell ⟨blk, off + k, none⟩ (.int .i32 (G' l))).setCell ⟨blk, off + l, none⟩ (.int .i32 (G' k))).drew → Z.At w blk off d.size (swp e k l) X) := fun X hX => by rw [hX]; exact hsw
        clear hsw hG
        obtain ⟨i0, hi0⟩ : ∃ i0, i0 = k + 1 := ⟨_, rfl⟩
        obtain ⟨j0, hj0⟩ : ∃ j0, j0 = l - 1 := ⟨_, rfl⟩
        obtain ⟨e0, he0⟩ : ∃ e0, e0 = swp e k l := ⟨_, rfl⟩
        rw [← hi0, ← hj0, ← he0] at HP0
        rw [← he0] at HSw
        have HP : Hid (partition ltInt d a b p = ((partLoop ltInt a i0 j0 e0).1, false, swp (partLoop ltInt a i0 j0 e0).2 (partLoop ltInt a i0 j0 e0).1 a)) := HP0.out
        have HI0 : Hid (i0 = k + 1) := hi0
        have HJ0 : Hid (j0 = l - 1) := hj0
        clear HE HK HL HI HJ HD HP0 hi0 hj0 he0
        go_wp2_with fail
        go_region
        go_wp2
        go_loopw [10, 11] (fun v10 v11 wr => ∃ (i j : Nat) (e : Array Int), v10 = .int .i64 i ∧ v11 = .int .i64 j ∧ a < i ∧ i ≤ j + 1 ∧ j < b ∧ Hid (Z.At w blk off d.size e wr ∧ partLoop ltInt a i j e = partLoop ltInt a i0 j0 e0)) (fun v10 v11 _ => (RowKit.intOf v11 + 1 - RowKit.intOf v10).toNat)
        case atStart => exact ⟨i0, j0, e0, by rw [HI0.out]; go_num, by rw [HJ0.out]; congr 1; omega, by have := HI0.out; omega, by have := HI0.out; have := HJ0.out; omega, by have := HJ0.out; omega, HSw.out _ rfl, rfl⟩
        case round =>
          clear hcw hfw HSw HI0 HJ0 hlt3 hkl2 hkl hlj hik hkj hij hai hjb
          obtain ⟨i, j, e, rfl, rfl, hai, hij, hjb, HEE⟩ := hrel
          have HE : Hid (Z.At w blk off d.size e wr) := HEE.out.1
          have HE2 : Hid (partLoop ltInt a i j e = partLoop ltInt a i0 j0 e0) := HEE.out.2
          clear HEE
          go_upto_block 6 with fail
          go_cut [10] (fun v10 wx => ∃ k : Nat, v10 = .int .i64 k ∧ i ≤ k ∧ k ≤ j + 1 ∧ Hid (Z.At w blk off d.size e wx ∧ k = scanUp (fun x => ltInt x e[a]!) e j i))
          case first =>
            go_wp2
            go_loopw [10] (fun v10 wx => ∃ k : Nat, v10 = .int .i64 k ∧ i ≤ k ∧ k ≤ j + 1 ∧ Hid (Z.At w blk off d.size e wx ∧ scanUp (fun x => ltInt x e[a]!) e j k = scanUp (fun x => ltInt x e[a]!) e j i)) (fun v10 _ => j + 1 - (RowKit.intOf v10).toNat)
            case atStart => exact ⟨i, rfl, Nat.le_refl _, hij, HE.out, rfl⟩
            case round =>
              obtain ⟨k, rfl, hik, hkj, HK⟩ := hrel
              obtain ⟨G', hG⟩ : ∃ G : Nat → Int, ∀ t, G t = e[t]! := ⟨fun t => e[t]!, fun _ => rfl⟩
              have hcw : ∀ t, t < d.size → wr.cell? ⟨blk, off + t, none⟩ = some (.int .i32 (G' t)) := fun t ht => by rw [hG]; exact HK.out.1.cell H0.out rfl ht
              have HG : Hid (∀ t, G' t = e[t]!) := hG
              clear hG
              by_cases hk : k ≤ j
              · go_wp2
                go_quiet (first | (go_at_call 93; refine Calls.quiet_of_same (zless_any _ _ _)))
                cases hl : ltInt (G' k) (G' a) with
                | true =>
                  go_wp2
                  go_roundw
                  case rel => exact ⟨k + 1, by go_num, by omega, by omega, HK.out.1.drew _, by rw [← HK.out.2, scanUp_go (fun x => ltInt x e[a]!) e j k hk (by rw [← HG.out, ← HG.out, hl])]⟩
                  case measure => simp [RowKit.intOf]; omega
                | false =>
                  go_wp2
                  go_meet
                  case rel => exact ⟨k, rfl, hik, hkj, HK.out.1.drew _, by rw [← HK.out.2, scanUp_end (fun x => ltInt x e[a]!) e j k (.inr (by rw [← HG.out, ← HG.out, hl]))]⟩
              · go_wp2
                go_quiet (first | (go_at_call 93; refine Calls.quiet_of_same (zless_any _ _ _)))
                go_wp2
                go_meet
                case rel => exact ⟨k, rfl, hik, hkj, HK.out.1.drew _, by rw [← HK.out.2, scanUp_end (fun x => ltInt x e[a]!) e j k (.inl hk)]⟩
          case rest =>
            obtain ⟨k, rfl, hik, hkj, HK⟩ := hcut
            go_upto_block 8 with fail
            go_cut [11] (fun v11 wx => ∃ l : Nat, v11 = .int .i64 l ∧ l ≤ j ∧ k ≤ l + 1 ∧ Hid (Z.At w blk off d.size e wx ∧ l = scanDown (fun x => !ltInt x e[a]!) e k j))
            case first =>
              go_wp2
              go_loopw [11] (fun v11 wx => ∃ l : Nat, v11 = .int .i64 l ∧ l ≤ j ∧ k ≤ l + 1 ∧ Hid (Z.At w blk off d.size e wx ∧ scanDown (fun x => !ltInt x e[a]!) e k l = scanDown (fun x => !ltInt x e[a]!) e k j)) (fun v11 _ => (RowKit.intOf v11).toNat)
              case atStart => exact ⟨j, rfl, Nat.le_refl _, hkj, HK.out.1, rfl⟩
              case round =>
                obtain ⟨l, rfl, hlj, hkl, HL⟩ := hrel
                obtain ⟨G', hG⟩ : ∃ G : Nat → Int, ∀ t, G t = e[t]! := ⟨fun t => e[t]!, fun _ => rfl⟩
                have hcw : ∀ t, t < d.size → wr.cell? ⟨blk, off + t, none⟩ = some (.int .i32 (G' t)) := fun t ht => by rw [hG]; exact HL.out.1.cell H0.out rfl ht
                have HG : Hid (∀ t, G' t = e[t]!) := hG
                clear hG
                by_cases hk : k ≤ l
                · go_wp2
                  go_quiet (first | (go_at_call 93; refine Calls.quiet_of_same (zless_any _ _ _)))
                  cases hl : ltInt (G' l) (G' a) with
                  | false =>
                    go_wp2
                    go_roundw
                    case rel => exact ⟨l - 1, by congr 1; omega, by omega, by omega, HL.out.1.drew _, by rw [← HL.out.2, scanDown_go (fun x => !ltInt x e[a]!) e k l hk (by omega) (by rw [← HG.out, ← HG.out, hl]; rfl)]⟩
                    case measure => simp [RowKit.intOf]; omega
                  | true =>
                    go_wp2
                    go_meet
                    case rel => exact ⟨l, rfl, hlj, hkl, HL.out.1.drew _, by rw [← HL.out.2, scanDown_end (fun x => !ltInt x e[a]!) e k l (.inr (by rw [← HG.out, ← HG.out, hl]; rfl))]⟩
                · go_wp2
                  go_quiet (first | (go_at_call 93; refine Calls.quiet_of_same (zless_any _ _ _)))
                  go_wp2
                  go_meet
                  case rel => exact ⟨l, rfl, hlj, hkl, HL.out.1.drew _, by rw [← HL.out.2, scanDown_end (fun x => !ltInt x e[a]!) e k l (.inl hk)]⟩
            case rest =>
              obtain ⟨l, rfl, hlj, hkl, HL⟩ := hcut
              by_cases hkl2 : l < k
              · have HB : Hid (partition ltInt d a b p = (l, false, swp e l a)) := by
                  show _ = _
                  rw [HP.out, ← HE2.out, part_break ltInt a i j e HK.out.2 HL.out.2 hkl2]
                obtain ⟨G', hG⟩ : ∃ G : Nat → Int, ∀ t, G t = e[t]! := ⟨fun t => e[t]!, fun _ => rfl⟩
                have hcw : ∀ t, t < d.size → wc.cell? ⟨blk, off + t, none⟩ = some (.int .i32 (G' t)) := fun t ht => by rw [hG]; exact HL.out.1.cell H0.out rfl ht
                have hfw : ∀ t, t < d.size → wc.frozen? ⟨blk, off + t, none⟩ = false := fun t ht => HL.out.1.free H0.out rfl ht
                have hsw := HL.out.1.swap (i := l) (j := a) (by omega) (by omega) 1
                rw [← hG, ← hG] at hsw
                have HSw : Hid (∀ X, X = ((wc.setCell ⟨blk, off + l, none⟩ (.int .i32 (G' a))).setCell ⟨blk, off + a, none⟩ (.int .i32 (G' l))).drew → Z.At w blk off d.size (swp e l a) X) := fun X hX => by rw [hX]; exact hsw
                obtain ⟨v', x1⟩ : ∃ v', ((wc.setCell ⟨blk, off + l, none⟩ (.int .i32 (G' a))).drew).cell? ⟨blk, off + a, none⟩ = some v' := cell?_setCell_some (w := wc) (p := ⟨blk, off + l, none⟩) (x := .int .i32 (G' a)) (q := ⟨blk, off + a, none⟩) (hcw a (by omega))
                have x2 : ((wc.setCell ⟨blk, off + l, none⟩ (.int .i32 (G' a))).drew).frozen? ⟨blk, off + a, none⟩ = false := (World.frozen?_setCell _ _ _ _).trans (hfw a (by omega))
                clear hsw hG
                clear HE HK HL HP HE2
                go_wp2_with fail
                go_region
                go_wp2
                refine bodyPost_ret (v := .tuple #[.int .i64 l, .bool false]) (by simp [results, Tryz.results95, go_sem, *]) rfl ?_
                rw [HB.out]
                exact ⟨rfl, HSw.out _ rfl⟩
              · have HB : Hid (partLoop ltInt a (k + 1) (l - 1) (swp e k l) = partLoop ltInt a i0 j0 e0) := by
                  show _ = _
                  rw [← HE2.out, part_go ltInt a i j e HK.out.2 HL.out.2 (by omega)]
                have hlt3 := part_scans_lt ltInt a i j e (by omega) HK.out.2 HL.out.2 (by omega)
                obtain ⟨G', hG⟩ : ∃ G : Nat → Int, ∀ t, G t = e[t]! := ⟨fun t => e[t]!, fun _ => rfl⟩
                have hcw : ∀ t, t < d.size → wc.cell? ⟨blk, off + t, none⟩ = some (.int .i32 (G' t)) := fun t ht => by rw [hG]; exact HL.out.1.cell H0.out rfl ht
                have hfw : ∀ t, t < d.size → wc.frozen? ⟨blk, off + t, none⟩ = false := fun t ht => HL.out.1.free H0.out rfl ht
                have hsw := HL.out.1.swap (i := k) (j := l) (by omega) (by omega) 1
                rw [← hG, ← hG] at hsw
                have HSw : Hid (∀ X, X = ((wc.setCell ⟨blk, off + k, none⟩ (.int .i32 (G' l))).setCell ⟨blk, off + l, none⟩ (.int .i32 (G' k))).drew → Z.At w blk off d.size (swp e k l) X) := fun X hX => by rw [hX]; exact hsw
                clear hsw hG
                clear HE HK HL HE2
                go_wp2_with fail
                go_region
                all_goals go_wp2
                go_roundw
                case rel => exact ⟨k + 1, l - 1, swp e k l, by go_num, by congr 1; omega, by omega, by omega, by omega, HSw.out _ rfl, HB.out⟩
                case measure => simp [RowKit.intOf]; omega

end Go.Proofs.YtlmmjefplbcapaaGreat
