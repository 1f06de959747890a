/-
  Whatever comes in: scriptlaw16.ShelfDots returns true, and each argument reads behind the call as it read before. (The row lists tables and sentinels of the library; the card ties them to the program's text.)
-/
import Derived.Test.YtdfjokdknanlfaaGreatDoorTpComp
import Derived.Test.YtdfjokdknanlfaaGreatDoorShScrD
import Derived.Laws.Concat
import Derived.Test.YtdfjokdknanlfaaGreatDoorMath
import Derived.Test.YtdfjokdknanlfaaGreatDoorTClass4
namespace Go.Proofs.YtdfjokdknanlfaaGreatDoor
open Go.RowKit Go.Lib
set_option maxRecDepth 20000
set_option linter.unusedSimpArgs false
set_option linter.unusedVariables false

set_option maxHeartbeats 8000000 in
theorem shelfDots_any (hK : T.ClassOk) (w : World) (s : ByteArray) : Calls Tryz.prog 7 #[.string s] w fun e w' => e = .returned (.bool true) ∧ Below w.heap.size w w' := by
  have HS : Hid (∀ X, Calls Tryz.prog 9 #[.string s] X fun e w' => e = .returned (.bool (decide (s.size ≤ 1000))) ∧ w' = X) := fun X => zbu s X
  by_cases hs : s.size ≤ 1000
  · rw [decide_eq_true hs] at HS
    obtain ⟨pl, hpl⟩ := Cn.ze6
    have HD : Hid (∀ X, Calls Tryz.prog 10 #[.string s] X fun e w' => ∃ xo xc, e = .returned (.slice xo (M.rn s).length xc) ∧ L.Rd w' (.slice xo (M.rn s).length xc) .i32 (M.rn s) ∧ Below X.heap.size X w') := fun X => zby s (by omega) X
    have htl : (M.rn s).length ≤ 1000 := Nat.le_trans (M.zb9 s) hs
    have hR := zcu s
    have hRb : ∀ z ∈ Sh.cw Sh.gD none (M.rn s), M.right z = true := Sh.cw_mem (fun z => M.right z = true) (fun p r n h z hz => Sh.gD_right p r n h z hz) _ _ hR
    have HT1 : Hid (∀ X, Calls Tryz.prog 12 #[.string { data := #[100, 111, 116, 115] }, .string s, .string (runesBytes (Sh.cw Sh.gD none (M.rn s)))] X fun e w' => e = .returned (.bool true) ∧ Below X.heap.size X w') := fun X =>
      zbl hK Sh.nDots _ Sh.scr_d s (by omega) pl hpl _ (Sh.go_d hpl htl hR) hRb _ rfl X
    have HRt : Hid (∀ z ∈ M.rn s, M.right z = true) := hR
    clear hRb hR hs
    generalize M.rn s = tx at HD htl HT1 HRt
    go_enter Tryz.func7, Tryz.ntmps7
    go_wp2_with fail
    refine (HS.out _).mono ?_
    rintro e w0 ⟨rfl, rfl⟩
    clear HS
    go_wp2_with fail
    refine (HD.out _).mono ?_
    clear HD
    rintro e w1 ⟨xo, xc, rfl, hd, b1⟩
    have HB1 : Hid (Below w0.heap.size w0 w1) := b1
    obtain ⟨ao', cap', e', _, hcs⟩ := hd
    obtain ⟨rfl, -, rfl⟩ := Value.slice.inj e'
    have HC : Hid (tx ≠ [] → ∃ b off, xo = some ⟨b, off, none⟩ ∧ ∀ j z, tx[j]? = some z → w1.cell? ⟨b, off + j, none⟩ = some (.int .i32 z)) := hcs
    clear hcs e' b1
    go_wp2
    go_loopw [4, 14] (fun wa i wr => ∃ (j : Nat) (acc : List Int), j ≤ tx.length ∧ i = .int .i64 j ∧ Hid (wa = .string (runesBytes acc)) ∧ Hid (acc ++ Sh.cw Sh.gD (Sh.pv tx j) (tx.drop j) = Sh.cw Sh.gD none tx) ∧ Hid (acc.length ≤ j ∧ ∀ z ∈ acc, M.right z = true) ∧ Hid (Below w1.heap.size w1 wr)) (fun _ i _ => tx.length - (RowKit.intOf i).toNat)
    case atStart => exact ⟨0, [], Nat.zero_le _, rfl, by show _ = _; rfl, by show _ = _; rfl, ⟨Nat.le_refl _, fun z hz => by cases hz⟩, Below.refl _ _⟩
    case round =>
      obtain ⟨j, acc, hj, rfl, HWa, HE, HA, HB⟩ := hrel
      obtain ⟨A, hA⟩ : ∃ A, A = runesBytes acc := ⟨_, rfl⟩
      have hAs : A.size ≤ 4000 := by have := Sh.zas acc HA.out.2; have := HA.out.1; rw [hA]; omega
      have HA2 : Hid (A = runesBytes acc) := hA
      have hwa := HWa.out
      rw [← hA] at hwa
      subst hwa
      clear HWa hA
      by_cases hlt : j < tx.length
      · obtain ⟨r, hr⟩ : ∃ x, tx[j]? = some x := ⟨tx[j], by simp [hlt]⟩
        obtain ⟨b, off, rfl, hcell⟩ := HC.out (by intro h; subst h; simp at hlt)
        have c0 := hcell j r hr
        rw [← HB.out.cell (p := ⟨b, off + j, none⟩) (L.block_lt c0)] at c0
        have hrr := HRt.out r (List.mem_of_getElem? hr)
        have HE2 : Hid (acc ++ (Sh.gD (Sh.pv tx j) r tx[j + 1]? ++ Sh.cw Sh.gD (Sh.pv tx (j + 1)) (tx.drop (j + 1))) = Sh.cw Sh.gD none tx) := by
          have h := HE.out
          rw [Sh.cw_step hr] at h
          exact h
        have HP : Hid (∀ q X, M.right q = true → Calls Tryz.prog 11 #[.int .i32 q] X fun e w' => e = .returned (.string (runesBytes [q])) ∧ Below X.heap.size X w') := fun q X hq => zch q hq X
        have HRr : Hid (M.right r = true) := hrr
        clear hrr HE
        by_cases h1 : r = 32
        · subst h1
          by_cases h0 : j + 1 < tx.length
          · obtain ⟨y, hy⟩ : ∃ y, tx[j + 1]? = some y := ⟨tx[j + 1], by simp [h0]⟩
            have c1 := hcell (j + 1) y hy
            rw [← HB.out.cell (p := ⟨b, off + (j + 1), none⟩) (L.block_lt c1)] at c1
            have hiI : (j : Int) + 1 < (tx.length : Int) := by omega
            have hnx := Sh.nxD_is y
            by_cases h2 : y = 46 ∨ y = 33 ∨ y = 63 ∨ y = 44 ∨ y = 59 ∨ y = 58
            · have hg : Sh.gD (Sh.pv tx j) 32 tx[j + 1]? = [] := by rw [hy]; unfold Sh.gD; rw [if_pos ⟨rfl, by rw [hnx]; exact decide_eq_true h2⟩]
              clear hnx
              rcases h2 with rfl | rfl | rfl | rfl | rfl | rfl
              · have HE3 : Hid (acc ++ Sh.cw Sh.gD (Sh.pv tx (j + 1)) (tx.drop (j + 1)) = Sh.cw Sh.gD none tx) := by have h := HE2.out; rw [hg, List.nil_append] at h; exact h
                clear HE2 HP hr hcell hg hy
                go_wp2
                go_roundw
                case rel => exact ⟨j + 1, acc, by omega, by go_num, by show _ = _; rw [HA2.out], HE3, ⟨by have := HA.out.1; omega, HA.out.2⟩, HB⟩
                case measure => simp [RowKit.intOf]; omega
              · have HE3 : Hid (acc ++ Sh.cw Sh.gD (Sh.pv tx (j + 1)) (tx.drop (j + 1)) = Sh.cw Sh.gD none tx) := by have h := HE2.out; rw [hg, List.nil_append] at h; exact h
                clear HE2 HP hr hcell hg hy
                go_wp2
                go_roundw
                case rel => exact ⟨j + 1, acc, by omega, by go_num, by show _ = _; rw [HA2.out], HE3, ⟨by have := HA.out.1; omega, HA.out.2⟩, HB⟩
                case measure => simp [RowKit.intOf]; omega
              · have HE3 : Hid (acc ++ Sh.cw Sh.gD (Sh.pv tx (j + 1)) (tx.drop (j + 1)) = Sh.cw Sh.gD none tx) := by have h := HE2.out; rw [hg, List.nil_append] at h; exact h
                clear HE2 HP hr hcell hg hy
                go_wp2
                go_roundw
                case rel => exact ⟨j + 1, acc, by omega, by go_num, by show _ = _; rw [HA2.out], HE3, ⟨by have := HA.out.1; omega, HA.out.2⟩, HB⟩
                case measure => simp [RowKit.intOf]; omega
              · have HE3 : Hid (acc ++ Sh.cw Sh.gD (Sh.pv tx (j + 1)) (tx.drop (j + 1)) = Sh.cw Sh.gD none tx) := by have h := HE2.out; rw [hg, List.nil_append] at h; exact h
                clear HE2 HP hr hcell hg hy
                go_wp2
                go_roundw
                case rel => exact ⟨j + 1, acc, by omega, by go_num, by show _ = _; rw [HA2.out], HE3, ⟨by have := HA.out.1; omega, HA.out.2⟩, HB⟩
                case measure => simp [RowKit.intOf]; omega
              · have HE3 : Hid (acc ++ Sh.cw Sh.gD (Sh.pv tx (j + 1)) (tx.drop (j + 1)) = Sh.cw Sh.gD none tx) := by have h := HE2.out; rw [hg, List.nil_append] at h; exact h
                clear HE2 HP hr hcell hg hy
                go_wp2
                go_roundw
                case rel => exact ⟨j + 1, acc, by omega, by go_num, by show _ = _; rw [HA2.out], HE3, ⟨by have := HA.out.1; omega, HA.out.2⟩, HB⟩
                case measure => simp [RowKit.intOf]; omega
              · have HE3 : Hid (acc ++ Sh.cw Sh.gD (Sh.pv tx (j + 1)) (tx.drop (j + 1)) = Sh.cw Sh.gD none tx) := by have h := HE2.out; rw [hg, List.nil_append] at h; exact h
                clear HE2 HP hr hcell hg hy
                go_wp2
                go_roundw
                case rel => exact ⟨j + 1, acc, by omega, by go_num, by show _ = _; rw [HA2.out], HE3, ⟨by have := HA.out.1; omega, HA.out.2⟩, HB⟩
                case measure => simp [RowKit.intOf]; omega
            · have hg : Sh.gD (Sh.pv tx j) 32 tx[j + 1]? = [32] := by rw [hy]; unfold Sh.gD; rw [if_neg (fun h => by rw [hnx] at h; exact h2 (of_decide_eq_true h.2))]
              have n1 : (y == 46) = false := by simp; intro h; exact h2 (by omega)
              have n2 : (y == 33) = false := by simp; intro h; exact h2 (by omega)
              have n3 : (y == 63) = false := by simp; intro h; exact h2 (by omega)
              have n4 : (y == 44) = false := by simp; intro h; exact h2 (by omega)
              have n5 : (y == 59) = false := by simp; intro h; exact h2 (by omega)
              have n6 : (y == 58) = false := by simp; intro h; exact h2 (by omega)
              clear h2 hnx
              have HE3 : Hid ((acc ++ [32]) ++ Sh.cw Sh.gD (Sh.pv tx (j + 1)) (tx.drop (j + 1)) = Sh.cw Sh.gD none tx) := by have h := HE2.out; rw [hg] at h; rw [← h]; show _ = _; simp
              have hBs : (runesBytes [32]).size ≤ 4 := by have := Sh.zas [32] (fun z hz => by simp at hz; subst hz; exact (by decide)); simpa using this
              have HQ : Hid (∀ X, Calls Tryz.prog 11 #[.int .i32 32] X fun e w' => e = .returned (.string (runesBytes [32])) ∧ Below X.heap.size X w') := fun X => HP.out 32 X (by decide)
              have HRq : Hid (M.right 32 = true) := (show M.right 32 = true from (by decide))
              obtain ⟨B, hB⟩ : ∃ B, B = runesBytes [32] := ⟨_, rfl⟩
              rw [← hB] at HQ hBs
              have HB2 : Hid (B = runesBytes [32]) := hB
              clear HE2 hB HP hr hcell hg hy
              go_wp2_with fail
              refine (HQ.out _).mono ?_
              clear HQ
              rintro e w2 ⟨rfl, b2⟩
              have HB3 : Hid (Below w1.heap.size w1 w2) := HB.out.trans (b2.mono HB.out.size)
              clear b2
              go_wp2
              go_roundw
              case rel => exact ⟨j + 1, acc ++ [32], by omega, by go_num, by show _ = _; rw [Sh.zax, HA2.out, HB2.out], HE3, ⟨by have := HA.out.1; rw [List.length_append, List.length_singleton]; omega, fun z hz => (List.mem_append.1 hz).elim (HA.out.2 z) (fun h => by simp at h; subst h; exact HRq.out)⟩, HB3⟩
              case measure => simp [RowKit.intOf]; omega
          · have hje : j + 1 = tx.length := by omega
            have hnn : tx[j + 1]? = none := by rw [hje]; simp
            have hg : Sh.gD (Sh.pv tx j) 32 tx[j + 1]? = [32] := by rw [hnn]; rfl
            have heI : ¬ ((j : Int) + 1 < (tx.length : Int)) := by omega
            have HE3 : Hid ((acc ++ [32]) ++ Sh.cw Sh.gD (Sh.pv tx (j + 1)) (tx.drop (j + 1)) = Sh.cw Sh.gD none tx) := by have h := HE2.out; rw [hg] at h; rw [← h]; show _ = _; simp
            have hBs : (runesBytes [32]).size ≤ 4 := by have := Sh.zas [32] (fun z hz => by simp at hz; subst hz; exact (by decide)); simpa using this
            have HQ : Hid (∀ X, Calls Tryz.prog 11 #[.int .i32 32] X fun e w' => e = .returned (.string (runesBytes [32])) ∧ Below X.heap.size X w') := fun X => HP.out 32 X (by decide)
            have HRq : Hid (M.right 32 = true) := (show M.right 32 = true from (by decide))
            obtain ⟨B, hB⟩ : ∃ B, B = runesBytes [32] := ⟨_, rfl⟩
            rw [← hB] at HQ hBs
            have HB2 : Hid (B = runesBytes [32]) := hB
            clear HE2 hB HP hr hcell hg hnn hje
            go_wp2_with fail
            refine (HQ.out _).mono ?_
            clear HQ
            rintro e w2 ⟨rfl, b2⟩
            have HB3 : Hid (Below w1.heap.size w1 w2) := HB.out.trans (b2.mono HB.out.size)
            clear b2
            go_wp2
            go_roundw
            case rel => exact ⟨j + 1, acc ++ [32], by omega, by go_num, by show _ = _; rw [Sh.zax, HA2.out, HB2.out], HE3, ⟨by have := HA.out.1; rw [List.length_append, List.length_singleton]; omega, fun z hz => (List.mem_append.1 hz).elim (HA.out.2 z) (fun h => by simp at h; subst h; exact HRq.out)⟩, HB3⟩
            case measure => simp [RowKit.intOf]; omega
        · have hg : Sh.gD (Sh.pv tx j) r tx[j + 1]? = [r] := by unfold Sh.gD; rw [if_neg (fun h => h1 h.1)]
          have HE3 : Hid ((acc ++ [r]) ++ Sh.cw Sh.gD (Sh.pv tx (j + 1)) (tx.drop (j + 1)) = Sh.cw Sh.gD none tx) := by have h := HE2.out; rw [hg] at h; rw [← h]; show _ = _; simp
          have hBs : (runesBytes [r]).size ≤ 4 := by have := Sh.zas [r] (fun z hz => by simp at hz; subst hz; exact HRr.out); simpa using this
          have HQ : Hid (∀ X, Calls Tryz.prog 11 #[.int .i32 r] X fun e w' => e = .returned (.string (runesBytes [r])) ∧ Below X.heap.size X w') := fun X => HP.out r X HRr.out
          have HRq : Hid (M.right r = true) := (show M.right r = true from HRr.out)
          obtain ⟨B, hB⟩ : ∃ B, B = runesBytes [r] := ⟨_, rfl⟩
          rw [← hB] at HQ hBs
          have HB2 : Hid (B = runesBytes [r]) := hB
          clear HE2 hB HP hr hcell hg
          go_wp2_with fail
          refine (HQ.out _).mono ?_
          clear HQ
          rintro e w2 ⟨rfl, b2⟩
          have HB3 : Hid (Below w1.heap.size w1 w2) := HB.out.trans (b2.mono HB.out.size)
          clear b2
          go_wp2
          go_roundw
          case rel => exact ⟨j + 1, acc ++ [r], by omega, by go_num, by show _ = _; rw [Sh.zax, HA2.out, HB2.out], HE3, ⟨by have := HA.out.1; rw [List.length_append, List.length_singleton]; omega, fun z hz => (List.mem_append.1 hz).elim (HA.out.2 z) (fun h => by simp at h; subst h; exact HRq.out)⟩, HB3⟩
          case measure => simp [RowKit.intOf]; omega
      · have hkl : j = tx.length := by omega
        subst hkl
        have hacc : acc = Sh.cw Sh.gD none tx := by have h := HE.out; rw [List.drop_length, Sh.cw, List.append_nil] at h; exact h
        rw [← hacc, ← HA2.out] at HT1
        clear hacc HE HA2 HA HC hAs
        go_wp2_with fail
        refine (HT1.out _).mono ?_
        clear HT1
        rintro e w2 ⟨rfl, b2⟩
        have HB3 : Hid (Below w0.heap.size w0 w2) := HB1.out.trans ((HB.out.trans (b2.mono HB.out.size)).mono HB1.out.size)
        clear b2
        go_wp2
        go_ret
        exact ⟨rfl, HB3.out⟩
  · rw [decide_eq_false hs] at HS
    clear hs
    go_enter Tryz.func7, Tryz.ntmps7
    go_wp2_with fail
    refine (HS.out _).mono ?_
    rintro e w0 ⟨rfl, rfl⟩
    clear HS
    go_wp2
    go_ret
    exact ⟨rfl, Below.refl _ _⟩

end Go.Proofs.YtdfjokdknanlfaaGreatDoor
namespace Go.Proofs.YtdfjokdknanlfaaGreatDoor
open Go.ChangeShapes Go.WideShapes Go.ChangeAt Go.RowKit
open Go.ChangeMaps (open_string shut_string)
set_option linter.unusedVariables false
set_option linter.unusedSimpArgs false

set_option maxRecDepth 100000 in
theorem shelfDotsArgs {H : Type} {enc : TypeId × Value → H} {W : World} {base : Nat} {args : Array Value} {ds gs : List (DataW H)} {p : List MemPlace}
    (hval : ∀ (j : Nat) t v, Tryz.f7.params[j]? = some t → args[j]? = some v → Value.okWide Tryz.prog W .any base t v)
    (hA : DataW.TrodAll enc Tryz.prog W 0 (fun _ => true) true Tryz.f7.params.toList args.toList ds p)  :
    Calls Tryz.prog 7 args W fun e W' => e = .returned (.bool true) ∧ Below W.heap.size W W' := by
  rw [Tryz.params7] at hA hval
  obtain ⟨v0, vs0, d0, ds0, p0, q0, hargs, rfl, rfl, h0, r0⟩ := trodAll_cons hA
  obtain ⟨rfl, rfl, rfl⟩ := trodAll_nil r0
  obtain rfl : args = #[v0] := by cases args; simp_all
  obtain ⟨a0, rfl, rfl, rfl, w0⟩ := open_string Tryz.underlying9 (hval 0 9 v0 rfl rfl) h0
  exact shelfDots_any zdx W a0

set_option maxRecDepth 100000 in
theorem shelfDotsContract (H : Type) (enc : TypeId × Value → H) (F : Stop.Interp) (W : World) (base : Nat) (args : Array Value) (ds gs : List (DataW H)) (before : List MemPlace)
    (hval : ∀ (j : Nat) t v, Tryz.f7.params[j]? = some t → args[j]? = some v → Value.okWide Tryz.prog W .any base t v)
    (hW : DataW.Whole enc Tryz.prog Tryz.f7.params.toList (OpenSpec.ofChange Rows.shelfDotsSpec).vars false W args.toList ds gs before) (hL : laidMetH Tryz.prog Rows.shelfDotsRow.laid W) :
    Calls Tryz.prog 7 args W fun e W' => ∃ v, e = .returned v ∧ ((OpenSpec.ofChange Rows.shelfDotsSpec).at F).post enc Tryz.prog Tryz.f7 false true false false W args v W' := by
  have hW' := hW
  obtain ⟨p, q, hA0, hV, rfl, hfz, hnd⟩ := hW
  have hA : DataW.TrodAll enc Tryz.prog W 0 (fun _ => true) true Tryz.f7.params.toList args.toList ds p := hA0
  obtain ⟨rfl, rfl⟩ := trodVars_none hV
  refine (shelfDotsArgs hval hA (gs := [])).mono fun e W' ⟨he, bel⟩ => ?_
  subst he
  have hA' := za8 Tryz.laidOut bel _ _ _ _ (by kernel_rfl) hA
  obtain ⟨x0, rfl⟩ : ∃ x0, ds = [x0] := by
    rw [Tryz.params7] at hA
    obtain ⟨v0, vs0, d0, ds0, p0, q0, hargs, rfl, rfl, h0, r0⟩ := trodAll_cons hA
    obtain ⟨rfl, rfl, rfl⟩ := trodAll_nil r0
    exact ⟨_, rfl⟩
  exact ⟨_, rfl, _, _, _, [], p, [], hW', trodAll_mk1 (shut_bool Tryz.underlying4 _), hA', rfl, bel.frame _, fun h => by cases h⟩

/-- a world that holds the tables and the sentinels -/
noncomputable def shelfDotsLow : Nat := (World.holding Tryz.prog default ⟨#[], #[], []⟩).heap.size
noncomputable def shelfDotsWorld (os : Os) : World :=
  let w0 := World.holding Tryz.prog os ⟨#[.cells #[.string ⟨#[105, 110, 118, 97, 108, 105, 100, 32, 115, 121, 110, 116, 97, 120]⟩] 278, .cells #[.string ⟨#[118, 97, 108, 117, 101, 32, 111, 117, 116, 32, 111, 102, 32, 114, 97, 110, 103, 101]⟩] 278], #[], []⟩
  { w0 with heap := ((((w0.heap.modify 3 (relay pow10Cells)).modify 4 (relay tab32Cells)).modify 5 (relay tab64Cells)).modify 1 (relay #[.iface 276 (.pointer (some ⟨shelfDotsLow, 0, none⟩))])).modify 2 (relay #[.iface 276 (.pointer (some ⟨shelfDotsLow + 1, 0, none⟩))]) }
theorem shelfDotsMet (os : Os) : laidMet Tryz.prog Rows.shelfDotsRow.laid ((shelfDotsWorld os).forCall (fun _ _ => 0) ⟨#[], #[.string .empty], []⟩).memory :=
  laidMet_of_run' 8 (by kernel_rfl) (by kernel_rfl)
theorem shelfDotsReads (os : Os) {H : Type} (enc : TypeId × Value → H) : ∃ places, DataW.whole enc Tryz.prog ((shelfDotsWorld os).forCall (fun _ _ => 0) ⟨#[], #[.string .empty], []⟩).memory Tryz.f7.params.toList (OpenSpec.ofChange Rows.shelfDotsSpec).vars false (#[.string .empty] : Array Value).toList 8 = some ([.lit (.string [])], [], places) :=
  ⟨[], by kernel_rfl⟩

set_option maxRecDepth 100000 in
theorem shelfDotsLifted (os : Os) (started : os.Started) (H : Type) (enc : TypeId × Value → H) (F : Stop.Interp) :
    ReturnsInHanded {} Tryz.checked os 7 .any ((OpenSpec.ofChange Rows.shelfDotsSpec).preRow enc Tryz.prog Tryz.f7 Rows.shelfDotsRow.domain false Rows.shelfDotsRow.laid) (((OpenSpec.ofChange Rows.shelfDotsSpec).at F).post enc Tryz.prog Tryz.f7 false true false false) := by
  obtain ⟨places, hx⟩ := shelfDotsReads os enc
  refine returnsInHanded_of_row (C := Tryz.checked) (s := (OpenSpec.ofChange Rows.shelfDotsSpec)) Tryz.own started (by kernel_rfl) Tryz.func7
    (witness_row_at (enc := enc) (C := Tryz.checked) false (shelfDotsWorld os) #[.string .empty] rfl (by kernel_rfl) (by kernel_rfl) (by kernel_rfl)
      (OpenSpec.preRow_of_cond 8 hx (by kernel_rfl) (fun k hk => by cases hk) (by kernel_rfl) (shelfDotsMet os))) ?_
  intro W base args ds gs before hval hW _ hk _ hL _ _
  exact shelfDotsContract H enc F W base args ds gs before hval hW hL

theorem shelfDotsC0 : (Rows.shelfDotsRow.inPlace == Tryz.pinned.checked.prog.inPlace 7) = true := by kernel_rfl
theorem shelfDotsC1 : (Rows.shelfDotsRow.unfollowed == Tryz.pinned.checked.prog.unfollowed 7) = true := by kernel_rfl
theorem shelfDotsC2 : (Rows.shelfDotsRow.recurses == Tryz.pinned.checked.prog.recurses 7) = true := by kernel_rfl
theorem shelfDotsC3 : (Rows.shelfDotsRow.named == Tryz.pinned.checked.prog.varsNamed 7) = true := by kernel_rfl
theorem shelfDotsClosed : joinedFacts Tryz.pinned.checked.prog 7 Tryz.f7 (OpenSpec.ofChange Rows.shelfDotsSpec).bare Rows.shelfDotsRow = true := by
  unfold joinedFacts
  rw [shelfDotsC0, shelfDotsC1, shelfDotsC2, shelfDotsC3]
  kernel_rfl
theorem shelfDotsNamed : Tryz.pinned.checked.prog.funcNamed Rows.shelfDotsRow.func = some 7 := by kernel_rfl

theorem shelfDotsSaid : Rows.ShelfDotsSaid :=
  OpenClaim.holds_of_cond 7 Tryz.f7 rfl rfl rfl rfl rfl rfl rfl ⟨rfl, rfl, rfl, rfl, rfl⟩ rfl rfl rfl rfl rfl shelfDotsNamed Tryz.func7 shelfDotsClosed
    (of_decide_eq_true (by kernel_rfl)) (by unfold Func.isWrapper; first | (rw [if_pos (by decide +kernel)]; kernel_rfl) | (rw [if_neg (by decide +kernel)]; exact ⟨rfl, rfl⟩))
    (fun os started H enc _ F => by rw [OpenClaim.pre_eq_preRow]; exact shelfDotsLifted os started H enc F)

theorem shelfDotsPlain (f : FuncId) (fn : Func) (hf : Tryz.pinned.checked.prog.funcNamed "scriptshift/scriptlaw16.ShelfDots" = some f) (hfn : Tryz.pinned.checked.prog.funcs[f]? = some fn) :
    true = Tryz.pinned.checked.prog.looks [] ∧ ∀ (j : Nat) t, fn.params[j]? = some t → Tryz.pinned.checked.prog.wantsStandIn t = false := by
  obtain rfl : f = 7 := Option.some.inj ((show Tryz.prog.funcNamed "scriptshift/scriptlaw16.ShelfDots" = some 7 by kernel_rfl).symm.trans hf) |>.symm
  obtain rfl : fn = Tryz.f7 := (Option.some.inj (Tryz.func7.symm.trans hfn)).symm
  refine ⟨by kernel_rfl, fun j t ht => ?_⟩
  rw [Tryz.params7] at ht
  have hm := Array.mem_of_getElem? ht
  have hm2 : t = 9 := by simpa using hm
  subst hm2
  exact (show Tryz.prog.wantsStandIn 9 = false by kernel_rfl)

theorem shelfDots_card : Rows.ShelfDotsCardSaid :=
  Claim7.holds_tied_plain_at .later [] _ _ _ _ shelfDotsSaid (fun _ h => by cases h) (by kernel_rfl) (fun _ h => by cases h) shelfDots_row_tie rfl ⟨rfl, rfl⟩ (by kernel_rfl) rfl shelfDotsPlain (by kernel_rfl)

#print axioms shelfDots_card
end Go.Proofs.YtdfjokdknanlfaaGreatDoor
