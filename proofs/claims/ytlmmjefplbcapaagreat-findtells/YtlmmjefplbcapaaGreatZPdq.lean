/-
  Runes that are sorted: round by round.
-/
import Derived.Test.YtlmmjefplbcapaaGreatZPd
namespace Go.Proofs.YtlmmjefplbcapaaGreat
open Go.RowKit Go.Sort
set_option maxRecDepth 20000
set_option linter.unusedSimpArgs false
set_option linter.unusedVariables false

set_option maxHeartbeats 8000000 in
theorem zpdq_any (N : Nat) : ∀ (w : World) (blk off cap a b lim : Nat) (d : Array Int), b - a ≤ N → Holds Z.en w blk off d → blk < w.heap.size → Sort.Below ltInt a b d → a ≤ b → b ≤ d.size → d.size < 1152921504606846976 → lim < 1152921504606846976 →
    Calls Tryz.prog 83 #[.slice (some ⟨blk, off, none⟩) d.size cap, .int .i64 a, .int .i64 b, .int .i64 lim] w fun x w' => x = .returned (.tuple #[]) ∧ ∃ R, Z.Fin w blk off a b d R w' := by
  induction N using Nat.strongRecOn with
  | ind N ih => ?_
  intro w blk off cap a b lim d hN hH hbl hB hab hb hsz hlim
  have HH : Hid (Holds Z.en w blk off d) := hH
  have HS : Hid (Z.Pd w blk off a b d a b d w) := Z.Pd.start hH hB
  have IH : Hid (∀ (w : World) (a' b' lim : Nat) (e : Array Int), b' - a' < b - a → Holds Z.en w blk off e → blk < w.heap.size → Sort.Below ltInt a' b' e → a' ≤ b' → b' ≤ e.size → e.size = d.size → lim < 1152921504606846976 →
      Calls Tryz.prog 83 #[.slice (some ⟨blk, off, none⟩) d.size cap, .int .i64 a', .int .i64 b', .int .i64 lim] w fun x w' => x = .returned (.tuple #[]) ∧ ∃ R, Z.Fin w blk off a' b' e R w') := fun w a' b' lim e h1 h2 h3 h4 h5 h6 h7 h8 => by
    have := ih (b' - a') (by omega) w blk off cap a' b' lim e (Nat.le_refl _) h2 h3 h4 h5 h6 (by omega) h8
    rw [h7] at this
    exact this
  clear hH hB ih hN
  go_enter Tryz.func83, Tryz.ntmps83
  go_wp2_with fail
  go_loopw [1, 2, 3, 8, 9] (fun v1 v2 v3 v8 v9 wr => ∃ (a' b' l : Nat) (wb wp : Bool) (e : Array Int), v1 = .int .i64 a' ∧ v2 = .int .i64 b' ∧ v3 = .int .i64 l ∧ v8 = .bool wb ∧ v9 = .bool wp ∧ a ≤ a' ∧ a' ≤ b' ∧ b' ≤ b ∧ l < 1152921504606846976 ∧ Hid (Z.Pd w blk off a b d a' b' e wr)) (fun v1 v2 _ _ _ _ => (RowKit.intOf v2 - RowKit.intOf v1).toNat)
  case atStart => exact ⟨a, b, lim, true, true, d, rfl, rfl, rfl, rfl, rfl, Nat.le_refl _, hab, Nat.le_refl _, hlim, HS.out⟩
  case round =>
    obtain ⟨a', b', l, wb, wp, e, rfl, rfl, rfl, rfl, rfl, ha1, hab1, hb1, hl1, HP⟩ := hrel
    clear HS
    by_cases h12 : b' - a' ≤ 12
    · go_wp2_with fail
      go_at_call 87
      refine (zins_pd w wr blk off cap a b a' b' d e HH.out hbl HP.out hab1 (by omega) hsz).mono ?_
      rintro _ w2 ⟨rfl, hR⟩
      go_wp2_with fail
      refine bodyPost_ret (v := .tuple #[]) (by simp [results, Tryz.results83, go_sem, *]) rfl ?_
      exact ⟨rfl, hR⟩
    · by_cases hl0 : l = 0
      · subst hl0
        go_wp2_with fail
        go_at_call 88
        refine (zheap_pd w wr blk off cap a b a' b' d e HH.out hbl HP.out (by omega) (by omega) hsz).mono ?_
        rintro _ w2 ⟨rfl, hR⟩
        go_wp2_with fail
        refine bodyPost_ret (v := .tuple #[]) (by simp [results, Tryz.results83, go_sem, *]) rfl ?_
        exact ⟨rfl, hR⟩
      · go_upto_if 35 with fail
        go_cut [3] (fun v3 wx => ∃ (l : Nat) (e : Array Int), v3 = .int .i64 l ∧ l < 1152921504606846976 ∧ Hid (Z.Pd w blk off a b d a' b' e wx))
        case first =>
          cases wb with
          | true =>
            go_wp2_with fail
            go_meet
            case rel => exact ⟨l, e, rfl, hl1, HP.out⟩
          | false =>
            go_wp2_with fail
            go_at_call 89
            refine (zbreak_pd w wr blk off cap a b a' b' d e HH.out hbl HP.out (by omega) (by omega) hsz).mono ?_
            rintro _ w2 ⟨rfl, e2, h2⟩
            have H2 : Hid (Z.Pd w blk off a b d a' b' e2 w2) := h2
            clear h2 HP
            go_wp2_with fail
            go_meet
            case rel => exact ⟨l - 1, e2, by congr 1; omega, by omega, H2.out⟩
        case rest =>
          clear HP hl0 hl1
          obtain ⟨l, e, rfl, hl1, HP⟩ := hcut
          go_wp2_with fail
          go_at_call 90
          refine (zpivot_pd w wc blk off cap a b a' b' d e HH.out hbl HP.out (by omega) (by omega) hsz).mono ?_
          rintro _ w2 ⟨p, c, hp1, hp2, hc, rfl, h2⟩
          have H2 : Hid (Z.Pd w blk off a b d a' b' e w2) := h2
          clear h2 HP
          go_upto_if 50 with fail
          go_cut [11, 12] (fun v11 v12 wx => ∃ (p c : Nat) (e : Array Int), v11 = .int .i64 p ∧ v12 = .int .i64 c ∧ a' ≤ p ∧ p < b' ∧ c ≤ 2 ∧ Hid (Z.Pd w blk off a b d a' b' e wx))
          case first =>
            by_cases hc2 : c = 2
            · subst hc2
              go_wp2_with fail
              go_at_call 91
              refine (zrev_pd w w2 blk off cap a b a' b' d e HH.out hbl H2.out (by omega) (by omega) hsz).mono ?_
              rintro _ w3 ⟨rfl, e2, h3⟩
              have H3 : Hid (Z.Pd w blk off a b d a' b' e2 w3) := h3
              clear h3 H2
              go_wp2_with fail
              go_meet
              case rel => exact ⟨b' - 1 - (p - a'), 1, e2, by congr 1; omega, rfl, by omega, by omega, by omega, H3.out⟩
            · go_wp2_with fail
              go_meet
              case rel => exact ⟨p, c, e, rfl, rfl, hp1, hp2, hc, H2.out⟩
          case rest =>
            clear H2 hp1 hp2 hc
            obtain ⟨p, c, e, rfl, rfl, hp1, hp2, hc, HP⟩ := hcut
            go_upto_region 15 with fail
            go_cut [68] (fun v68 wx => ∃ β : Bool, v68 = .bool β ∧ wx = wc)
            case first =>
              cases wb <;> cases wp <;> (by_cases hc1 : c = 1) <;> go_wp2_with fail
              all_goals go_meet
              all_goals exact ⟨_, rfl, rfl⟩
            case rest =>
              obtain ⟨β, rfl, hwc⟩ := hcut
              rw [hwc]
              go_upto_if 68 with fail
              go_cut [] (fun wx => ∃ e : Array Int, Hid (Z.Pd w blk off a b d a' b' e wx))
              case first =>
                cases β with
                | false =>
                  go_wp2_with fail
                  go_meet
                  case rel => exact ⟨e, HP.out⟩
                | true =>
                  go_wp2_with fail
                  go_at_call 92
                  refine (zpartial_pd w _ blk off cap a b a' b' d e HH.out hbl HP.out (by omega) (by omega) hsz).mono ?_
                  rintro _ w3 ⟨β, e2, rfl, h3, h4⟩
                  have H3 : Hid (Z.Pd w blk off a b d a' b' e2 w3) := h3
                  have H4 : Hid (β = true → Z.Fin w blk off a b d e2 w3) := h4
                  clear h3 h4 HP
                  cases β with
                  | true =>
                    go_wp2_with fail
                    refine bodyPost_ret (v := .tuple #[]) (by simp [results, Tryz.results83, go_sem, *]) rfl ?_
                    exact ⟨rfl, e2, H4.out trivial⟩
                  | false =>
                    go_wp2_with fail
                    go_meet
                    case rel => exact ⟨e2, H3.out⟩
              case rest =>
                clear HP hwc
                obtain ⟨e, HP⟩ := hcut
                obtain ⟨G, hG⟩ : ∃ G : Nat → Int, ∀ t, G t = e[t]! := ⟨fun t => e[t]!, fun _ => rfl⟩
                have hcw : ∀ t, t < d.size → wc.cell? ⟨blk, off + t, none⟩ = some (.int .i32 (G t)) := fun t ht => by rw [hG]; exact (HP.out.holds HH.out hbl t (by have := HP.out.2.1; omega)).1
                have HG : Hid (∀ t, G t = e[t]!) := hG
                clear hG
                go_upto_region 17 with fail
                go_cut [87] (fun v87 wx => ∃ β : Bool, v87 = .bool β ∧ Hid (Z.Pd w blk off a b d a' b' e wx ∧ (β = true → 0 < a' ∧ ltInt e[a' - 1]! e[p]! = false)))
                case first =>
                  by_cases ha0 : 0 < a'
                  · go_quiet (first | (go_at_call 93; refine Calls.quiet_of_same (zless_any _ _ _)))
                    go_wp2_with fail
                    go_meet
                    case rel => exact ⟨_, rfl, ⟨HP.out.1.ahead _, HP.out.2⟩, fun hβ => ⟨ha0, by rw [← HG.out, ← HG.out]; simpa using hβ⟩⟩
                  · go_quiet (first | (go_at_call 93; refine Calls.quiet_of_same (zless_any _ _ _)))
                    go_wp2_with fail
                    go_meet
                    case rel => exact ⟨false, rfl, ⟨HP.out.1.ahead _, HP.out.2⟩, fun hβ => by cases hβ⟩
                case rest =>
                  clear HP hcw HG
                  obtain ⟨β, rfl, HP⟩ := hcut
                  cases β with
                  | true =>
                    obtain ⟨ha0, hle⟩ := HP.out.2 rfl
                    have HL : Hid (ltInt e[a' - 1]! e[p]! = false) := hle
                    clear hle
                    go_wp2_with fail
                    go_at_call 94
                    refine (zpeq_pd w _ blk off cap a b a' b' p d e HH.out hbl HP.out.1 hp1 hp2 (by omega) hsz ha0 HL.out).mono ?_
                    rintro _ w3 ⟨m, e2, hm1, hm2, rfl, h3⟩
                    have H3 : Hid (Z.Pd w blk off a b d m b' e2 w3) := h3
                    clear h3 HP HL
                    go_wp2_with fail
                    go_roundw
                    case rel => exact ⟨m, b', l, wb, wp, e2, rfl, rfl, rfl, rfl, rfl, by omega, by omega, hb1, hl1, H3.out⟩
                    case measure => simp [RowKit.intOf]; omega
                  | false =>
                    go_wp2_with fail
                    go_at_call 95
                    refine (zpart_pd w _ blk off cap a b a' b' p d e HH.out hbl HP.out.1 hp1 hp2 (by omega) hsz).mono ?_
                    rintro _ w3 ⟨m, γ, e2, hm1, hm2, rfl, h3⟩
                    have H3 : Hid (Z.Pt w blk off a b d a' b' m e2 w3) := h3
                    clear h3 HP
                    have HM : Hid (((m : Int) + 1) = ((m + 1 : Nat) : Int)) := (by omega : ((m : Int) + 1) = ((m + 1 : Nat) : Int))
                    by_cases hlr : m - a' < b' - m
                    · go_wp2_with fail
                      go_at_call 83
                      refine (IH.out w3 a' m l e2 (by omega) (H3.out.1.holds HH.out H3.out.2.1 hbl).1 (H3.out.1.holds HH.out H3.out.2.1 hbl).2 H3.out.2.2.1 hm1 (by have := H3.out.2.1; omega) H3.out.2.1 hl1).mono ?_
                      rintro _ w4 ⟨rfl, R, h4⟩
                      have H4 : Hid (Z.Pd w blk off a b d (m + 1) b' R w4) := H3.out.2.2.2.2.1 R w4 h4
                      clear h4 H3
                      go_wp2_with fail
                      go_roundw
                      case rel => exact ⟨m + 1, b', l, _, γ, R, by go_num, rfl, rfl, rfl, rfl, by omega, by omega, hb1, hl1, H4.out⟩
                      case measure => simp [RowKit.intOf]; omega
                    · go_wp2_with fail
                      rw [HM.out]
                      go_at_call 83
                      refine (IH.out w3 (m + 1) b' l e2 (by omega) (H3.out.1.holds HH.out H3.out.2.1 hbl).1 (H3.out.1.holds HH.out H3.out.2.1 hbl).2 H3.out.2.2.2.1 (by omega) (by have := H3.out.2.1; omega) H3.out.2.1 hl1).mono ?_
                      rintro _ w4 ⟨rfl, R, h4⟩
                      have H4 : Hid (Z.Pd w blk off a b d a' m R w4) := H3.out.2.2.2.2.2 R w4 h4
                      clear h4 H3
                      go_wp2_with fail
                      go_roundw
                      case rel => exact ⟨a', m, l, _, γ, R, rfl, rfl, rfl, rfl, rfl, ha1, hm1, by omega, hl1, H4.out⟩
                      case measure => simp [RowKit.intOf]; omega

end Go.Proofs.YtlmmjefplbcapaaGreat
