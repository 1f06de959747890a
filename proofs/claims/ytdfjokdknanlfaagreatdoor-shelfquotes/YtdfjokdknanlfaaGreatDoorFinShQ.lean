/-
  Whatever comes in: scriptlaw16.ShelfQuotes returns true, and each argument reads behind the call as it read before. (The row lists tables and sentinels of the library; the card ties them to the program's text.)
-/
import Derived.Test.YtdfjokdknanlfaaGreatDoorTpComp
import Derived.Test.YtdfjokdknanlfaaGreatDoorShScrQ
import Derived.Laws.Concat
import Derived.Test.YtdfjokdknanlfaaGreatDoorMath
import Derived.Test.YtdfjokdknanlfaaGreatDoorTClass4
namespace Go.Proofs.YtdfjokdknanlfaaGreatDoor
open Go.RowKit Go.Lib
set_option maxRecDepth 20000
set_option linter.unusedSimpArgs false
set_option linter.unusedVariables false

set_option maxHeartbeats 8000000 in
theorem shelfQuotes_any (hK : T.ClassOk) (w : World) (s : ByteArray) : Calls Tryz.prog 8 #[.string s] w fun e w' => e = .returned (.bool true) ∧ Below w.heap.size w w' := by
  have HS : Hid (∀ X, Calls Tryz.prog 9 #[.string s] X fun e w' => e = .returned (.bool (decide (s.size ≤ 1000))) ∧ w' = X) := fun X => zbu s X
  by_cases hs : s.size ≤ 1000
  · rw [decide_eq_true hs] at HS
    obtain ⟨pl, hpl⟩ := Cn.ze6
    have HD : Hid (∀ X, Calls Tryz.prog 10 #[.string s] X fun e w' => ∃ xo xc, e = .returned (.slice xo (M.rn s).length xc) ∧ L.Rd w' (.slice xo (M.rn s).length xc) .i32 (M.rn s) ∧ Below X.heap.size X w') := fun X => zby s (by omega) X
    have htl : (M.rn s).length ≤ 1000 := Nat.le_trans (M.zb9 s) hs
    have hR := zcu s
    have hRb : ∀ z ∈ Sh.cw Sh.gQ none (M.rn s), M.right z = true := Sh.cw_mem (fun z => M.right z = true) (fun p r n h z hz => Sh.gQ_right p r n h z hz) _ _ hR
    have HT1 : Hid (∀ X, Calls Tryz.prog 12 #[.string { data := #[113, 117, 111, 116, 101, 115] }, .string s, .string (runesBytes (Sh.cw Sh.gQ none (M.rn s)))] X fun e w' => e = .returned (.bool true) ∧ Below X.heap.size X w') := fun X =>
      zbl hK Sh.nQuotes _ Sh.scr_q s (by omega) pl hpl _ (Sh.go_q hpl htl hR) hRb _ rfl X
    have HRt : Hid (∀ z ∈ M.rn s, M.right z = true) := hR
    clear hRb hR hs
    generalize M.rn s = tx at HD htl HT1 HRt
    go_enter Tryz.func8, Tryz.ntmps8
    go_wp2_with fail
    refine (HS.out _).mono ?_
    rintro e w0 ⟨rfl, rfl⟩
    clear HS
    go_wp2_with fail
    refine (HD.out _).mono ?_
    clear HD
    rintro e w1 ⟨xo, xc, rfl, hd, b1⟩
    have HB1 : Hid (Below w0.heap.size w0 w1) := b1
    obtain ⟨ao', cap', e', _, hcs⟩ := hd
    obtain ⟨rfl, -, rfl⟩ := Value.slice.inj e'
    have HC : Hid (tx ≠ [] → ∃ b off, xo = some ⟨b, off, none⟩ ∧ ∀ j z, tx[j]? = some z → w1.cell? ⟨b, off + j, none⟩ = some (.int .i32 z)) := hcs
    clear hcs e' b1
    go_wp2
    go_loopw [4, 14] (fun wa i wr => ∃ (j : Nat) (acc : List Int), j ≤ tx.length ∧ i = .int .i64 j ∧ Hid (wa = .string (runesBytes acc)) ∧ Hid (acc ++ Sh.cw Sh.gQ (Sh.pv tx j) (tx.drop j) = Sh.cw Sh.gQ none tx) ∧ Hid (acc.length ≤ j ∧ ∀ z ∈ acc, M.right z = true) ∧ Hid (Below w1.heap.size w1 wr)) (fun _ i _ => tx.length - (RowKit.intOf i).toNat)
    case atStart => exact ⟨0, [], Nat.zero_le _, rfl, by show _ = _; rfl, by show _ = _; rfl, ⟨Nat.le_refl _, fun z hz => by cases hz⟩, Below.refl _ _⟩
    case round =>
      obtain ⟨j, acc, hj, rfl, HWa, HE, HA, HB⟩ := hrel
      obtain ⟨A, hA⟩ : ∃ A, A = runesBytes acc := ⟨_, rfl⟩
      have hAs : A.size ≤ 4000 := by have := Sh.zas acc HA.out.2; have := HA.out.1; rw [hA]; omega
      have HA2 : Hid (A = runesBytes acc) := hA
      have hwa := HWa.out
      rw [← hA] at hwa
      subst hwa
      clear HWa hA
      by_cases hlt : j < tx.length
      · obtain ⟨r, hr⟩ : ∃ x, tx[j]? = some x := ⟨tx[j], by simp [hlt]⟩
        obtain ⟨b, off, rfl, hcell⟩ := HC.out (by intro h; subst h; simp at hlt)
        have c0 := hcell j r hr
        rw [← HB.out.cell (p := ⟨b, off + j, none⟩) (L.block_lt c0)] at c0
        have hrr := HRt.out r (List.mem_of_getElem? hr)
        have HE2 : Hid (acc ++ (Sh.gQ (Sh.pv tx j) r tx[j + 1]? ++ Sh.cw Sh.gQ (Sh.pv tx (j + 1)) (tx.drop (j + 1))) = Sh.cw Sh.gQ none tx) := by
          have h := HE.out
          rw [Sh.cw_step hr] at h
          exact h
        have HP : Hid (∀ q X, M.right q = true → Calls Tryz.prog 11 #[.int .i32 q] X fun e w' => e = .returned (.string (runesBytes [q])) ∧ Below X.heap.size X w') := fun q X hq => zch q hq X
        have HRr : Hid (M.right r = true) := hrr
        clear hrr HE
        by_cases h1 : r = 34
        · subst h1
          by_cases h0 : j = 0
          · subst h0
            rw [Nat.add_zero] at c0
            have HE3 : Hid ((acc ++ [8220]) ++ Sh.cw Sh.gQ (Sh.pv tx (0 + 1)) (tx.drop (0 + 1)) = Sh.cw Sh.gQ none tx) := by have h := HE2.out; rw [show Sh.gQ (Sh.pv tx 0) 34 tx[0 + 1]? = [8220] from rfl] at h; rw [← h]; show _ = _; simp
            have hBs : (runesBytes [8220]).size ≤ 4 := by have := Sh.zas [8220] (fun z hz => by simp at hz; subst hz; exact (by decide)); simpa using this
            have HQ : Hid (∀ X, Calls Tryz.prog 11 #[.int .i32 8220] X fun e w' => e = .returned (.string (runesBytes [8220])) ∧ Below X.heap.size X w') := fun X => HP.out 8220 X (by decide)
            have HRq : Hid (M.right 8220 = true) := (show M.right 8220 = true from (by decide))
            obtain ⟨B, hB⟩ : ∃ B, B = runesBytes [8220] := ⟨_, rfl⟩
            rw [← hB] at HQ hBs
            have HB2 : Hid (B = runesBytes [8220]) := hB
            clear HE2 hB HP hr hcell
            go_wp2_with fail
            refine (HQ.out _).mono ?_
            clear HQ
            rintro e w2 ⟨rfl, b2⟩
            have HB3 : Hid (Below w1.heap.size w1 w2) := HB.out.trans (b2.mono HB.out.size)
            clear b2
            go_wp2
            go_roundw
            case rel => exact ⟨0 + 1, acc ++ [8220], by omega, by go_num, by show _ = _; rw [Sh.zax, HA2.out, HB2.out], HE3, ⟨by have := HA.out.1; rw [List.length_append, List.length_singleton]; omega, fun z hz => (List.mem_append.1 hz).elim (HA.out.2 z) (fun h => by simp at h; subst h; exact HRq.out)⟩, HB3⟩
            case measure => simp [RowKit.intOf]; omega
          · obtain ⟨m, rfl⟩ : ∃ m, j = m + 1 := ⟨j - 1, by omega⟩
            obtain ⟨x, hx⟩ : ∃ x, tx[m]? = some x := ⟨tx[m]'(by omega), by simp⟩
            have c1 := hcell m x hx
            rw [← HB.out.cell (p := ⟨b, off + m, none⟩) (L.block_lt c1)] at c1
            have h5 : ((m : Int) + 1 == 0) = false := by simp; omega
            by_cases h2 : x = 32
            · subst h2
              have HE3 : Hid ((acc ++ [8220]) ++ Sh.cw Sh.gQ (Sh.pv tx (m + 1 + 1)) (tx.drop (m + 1 + 1)) = Sh.cw Sh.gQ none tx) := by have h := HE2.out; rw [show Sh.gQ (Sh.pv tx (m + 1)) 34 tx[m + 1 + 1]? = [8220] from Sh.gQ_blank hx] at h; rw [← h]; show _ = _; simp
              have hBs : (runesBytes [8220]).size ≤ 4 := by have := Sh.zas [8220] (fun z hz => by simp at hz; subst hz; exact (by decide)); simpa using this
              have HQ : Hid (∀ X, Calls Tryz.prog 11 #[.int .i32 8220] X fun e w' => e = .returned (.string (runesBytes [8220])) ∧ Below X.heap.size X w') := fun X => HP.out 8220 X (by decide)
              have HRq : Hid (M.right 8220 = true) := (show M.right 8220 = true from (by decide))
              obtain ⟨B, hB⟩ : ∃ B, B = runesBytes [8220] := ⟨_, rfl⟩
              rw [← hB] at HQ hBs
              have HB2 : Hid (B = runesBytes [8220]) := hB
              clear HE2 hB HP hr hcell hx
              go_wp2_with fail
              refine (HQ.out _).mono ?_
              clear HQ
              rintro e w2 ⟨rfl, b2⟩
              have HB3 : Hid (Below w1.heap.size w1 w2) := HB.out.trans (b2.mono HB.out.size)
              clear b2
              go_wp2
              go_roundw
              case rel => exact ⟨m + 1 + 1, acc ++ [8220], by omega, by go_num, by show _ = _; rw [Sh.zax, HA2.out, HB2.out], HE3, ⟨by have := HA.out.1; rw [List.length_append, List.length_singleton]; omega, fun z hz => (List.mem_append.1 hz).elim (HA.out.2 z) (fun h => by simp at h; subst h; exact HRq.out)⟩, HB3⟩
              case measure => simp [RowKit.intOf]; omega
            · have hg : Sh.gQ (Sh.pv tx (m + 1)) 34 tx[m + 1 + 1]? = [8221] := Sh.gQ_else hx h2
              have h6 : (x == 32) = false := by simp; exact h2
              have HE3 : Hid ((acc ++ [8221]) ++ Sh.cw Sh.gQ (Sh.pv tx (m + 1 + 1)) (tx.drop (m + 1 + 1)) = Sh.cw Sh.gQ none tx) := by have h := HE2.out; rw [hg] at h; rw [← h]; show _ = _; simp
              have hBs : (runesBytes [8221]).size ≤ 4 := by have := Sh.zas [8221] (fun z hz => by simp at hz; subst hz; exact (by decide)); simpa using this
              have HQ : Hid (∀ X, Calls Tryz.prog 11 #[.int .i32 8221] X fun e w' => e = .returned (.string (runesBytes [8221])) ∧ Below X.heap.size X w') := fun X => HP.out 8221 X (by decide)
              have HRq : Hid (M.right 8221 = true) := (show M.right 8221 = true from (by decide))
              obtain ⟨B, hB⟩ : ∃ B, B = runesBytes [8221] := ⟨_, rfl⟩
              rw [← hB] at HQ hBs
              have HB2 : Hid (B = runesBytes [8221]) := hB
              clear HE2 hB HP hr hcell hx hg
              go_wp2_with fail
              refine (HQ.out _).mono ?_
              clear HQ
              rintro e w2 ⟨rfl, b2⟩
              have HB3 : Hid (Below w1.heap.size w1 w2) := HB.out.trans (b2.mono HB.out.size)
              clear b2
              go_wp2
              go_roundw
              case rel => exact ⟨m + 1 + 1, acc ++ [8221], by omega, by go_num, by show _ = _; rw [Sh.zax, HA2.out, HB2.out], HE3, ⟨by have := HA.out.1; rw [List.length_append, List.length_singleton]; omega, fun z hz => (List.mem_append.1 hz).elim (HA.out.2 z) (fun h => by simp at h; subst h; exact HRq.out)⟩, HB3⟩
              case measure => simp [RowKit.intOf]; omega
        · have hg : Sh.gQ (Sh.pv tx j) r tx[j + 1]? = [r] := by unfold Sh.gQ; rw [if_neg h1]
          have HE3 : Hid ((acc ++ [r]) ++ Sh.cw Sh.gQ (Sh.pv tx (j + 1)) (tx.drop (j + 1)) = Sh.cw Sh.gQ none tx) := by have h := HE2.out; rw [hg] at h; rw [← h]; show _ = _; simp
          have hBs : (runesBytes [r]).size ≤ 4 := by have := Sh.zas [r] (fun z hz => by simp at hz; subst hz; exact HRr.out); simpa using this
          have HQ : Hid (∀ X, Calls Tryz.prog 11 #[.int .i32 r] X fun e w' => e = .returned (.string (runesBytes [r])) ∧ Below X.heap.size X w') := fun X => HP.out r X HRr.out
          have HRq : Hid (M.right r = true) := (show M.right r = true from HRr.out)
          obtain ⟨B, hB⟩ : ∃ B, B = runesBytes [r] := ⟨_, rfl⟩
          rw [← hB] at HQ hBs
          have HB2 : Hid (B = runesBytes [r]) := hB
          clear HE2 hB HP hr hcell hg
          go_wp2_with fail
          refine (HQ.out _).mono ?_
          clear HQ
          rintro e w2 ⟨rfl, b2⟩
          have HB3 : Hid (Below w1.heap.size w1 w2) := HB.out.trans (b2.mono HB.out.size)
          clear b2
          go_wp2
          go_roundw
          case rel => exact ⟨j + 1, acc ++ [r], by omega, by go_num, by show _ = _; rw [Sh.zax, HA2.out, HB2.out], HE3, ⟨by have := HA.out.1; rw [List.length_append, List.length_singleton]; omega, fun z hz => (List.mem_append.1 hz).elim (HA.out.2 z) (fun h => by simp at h; subst h; exact HRq.out)⟩, HB3⟩
          case measure => simp [RowKit.intOf]; omega
      · have hkl : j = tx.length := by omega
        subst hkl
        have hacc : acc = Sh.cw Sh.gQ none tx := by have h := HE.out; rw [List.drop_length, Sh.cw, List.append_nil] at h; exact h
        rw [← hacc, ← HA2.out] at HT1
        clear hacc HE HA2 HA HC hAs
        go_wp2_with fail
        refine (HT1.out _).mono ?_
        clear HT1
        rintro e w2 ⟨rfl, b2⟩
        have HB3 : Hid (Below w0.heap.size w0 w2) := HB1.out.trans ((HB.out.trans (b2.mono HB.out.size)).mono HB1.out.size)
        clear b2
        go_wp2
        go_ret
        exact ⟨rfl, HB3.out⟩
  · rw [decide_eq_false hs] at HS
    clear hs
    go_enter Tryz.func8, Tryz.ntmps8
    go_wp2_with fail
    refine (HS.out _).mono ?_
    rintro e w0 ⟨rfl, rfl⟩
    clear HS
    go_wp2
    go_ret
    exact ⟨rfl, Below.refl _ _⟩

end Go.Proofs.YtdfjokdknanlfaaGreatDoor
namespace Go.Proofs.YtdfjokdknanlfaaGreatDoor
open Go.ChangeShapes Go.WideShapes Go.ChangeAt Go.RowKit
open Go.ChangeMaps (open_string shut_string)
set_option linter.unusedVariables false
set_option linter.unusedSimpArgs false

set_option maxRecDepth 100000 in
theorem shelfQuotesArgs {H : Type} {enc : TypeId × Value → H} {W : World} {base : Nat} {args : Array Value} {ds gs : List (DataW H)} {p : List MemPlace}
    (hval : ∀ (j : Nat) t v, Tryz.f8.params[j]? = some t → args[j]? = some v → Value.okWide Tryz.prog W .any base t v)
    (hA : DataW.TrodAll enc Tryz.prog W 0 (fun _ => true) true Tryz.f8.params.toList args.toList ds p)  :
    Calls Tryz.prog 8 args W fun e W' => e = .returned (.bool true) ∧ Below W.heap.size W W' := by
  rw [Tryz.params8] at hA hval
  obtain ⟨v0, vs0, d0, ds0, p0, q0, hargs, rfl, rfl, h0, r0⟩ := trodAll_cons hA
  obtain ⟨rfl, rfl, rfl⟩ := trodAll_nil r0
  obtain rfl : args = #[v0] := by cases args; simp_all
  obtain ⟨a0, rfl, rfl, rfl, w0⟩ := open_string Tryz.underlying9 (hval 0 9 v0 rfl rfl) h0
  exact shelfQuotes_any zdx W a0

set_option maxRecDepth 100000 in
theorem shelfQuotesContract (H : Type) (enc : TypeId × Value → H) (F : Stop.Interp) (W : World) (base : Nat) (args : Array Value) (ds gs : List (DataW H)) (before : List MemPlace)
    (hval : ∀ (j : Nat) t v, Tryz.f8.params[j]? = some t → args[j]? = some v → Value.okWide Tryz.prog W .any base t v)
    (hW : DataW.Whole enc Tryz.prog Tryz.f8.params.toList (OpenSpec.ofChange Rows.shelfQuotesSpec).vars false W args.toList ds gs before) (hL : laidMetH Tryz.prog Rows.shelfQuotesRow.laid W) :
    Calls Tryz.prog 8 args W fun e W' => ∃ v, e = .returned v ∧ ((OpenSpec.ofChange Rows.shelfQuotesSpec).at F).post enc Tryz.prog Tryz.f8 false true false false W args v W' := by
  have hW' := hW
  obtain ⟨p, q, hA0, hV, rfl, hfz, hnd⟩ := hW
  have hA : DataW.TrodAll enc Tryz.prog W 0 (fun _ => true) true Tryz.f8.params.toList args.toList ds p := hA0
  obtain ⟨rfl, rfl⟩ := trodVars_none hV
  refine (shelfQuotesArgs hval hA (gs := [])).mono fun e W' ⟨he, bel⟩ => ?_
  subst he
  have hA' := za8 Tryz.laidOut bel _ _ _ _ (by kernel_rfl) hA
  obtain ⟨x0, rfl⟩ : ∃ x0, ds = [x0] := by
    rw [Tryz.params8] at hA
    obtain ⟨v0, vs0, d0, ds0, p0, q0, hargs, rfl, rfl, h0, r0⟩ := trodAll_cons hA
    obtain ⟨rfl, rfl, rfl⟩ := trodAll_nil r0
    exact ⟨_, rfl⟩
  exact ⟨_, rfl, _, _, _, [], p, [], hW', trodAll_mk1 (shut_bool Tryz.underlying4 _), hA', rfl, bel.frame _, fun h => by cases h⟩

/-- a world that holds the tables and the sentinels -/
noncomputable def shelfQuotesLow : Nat := (World.holding Tryz.prog default ⟨#[], #[], []⟩).heap.size
noncomputable def shelfQuotesWorld (os : Os) : World :=
  let w0 := World.holding Tryz.prog os ⟨#[.cells #[.string ⟨#[105, 110, 118, 97, 108, 105, 100, 32, 115, 121, 110, 116, 97, 120]⟩] 278, .cells #[.string ⟨#[118, 97, 108, 117, 101, 32, 111, 117, 116, 32, 111, 102, 32, 114, 97, 110, 103, 101]⟩] 278], #[], []⟩
  { w0 with heap := ((((w0.heap.modify 3 (relay pow10Cells)).modify 4 (relay tab32Cells)).modify 5 (relay tab64Cells)).modify 1 (relay #[.iface 276 (.pointer (some ⟨shelfQuotesLow, 0, none⟩))])).modify 2 (relay #[.iface 276 (.pointer (some ⟨shelfQuotesLow + 1, 0, none⟩))]) }
theorem shelfQuotesMet (os : Os) : laidMet Tryz.prog Rows.shelfQuotesRow.laid ((shelfQuotesWorld os).forCall (fun _ _ => 0) ⟨#[], #[.string .empty], []⟩).memory :=
  laidMet_of_run' 8 (by kernel_rfl) (by kernel_rfl)
theorem shelfQuotesReads (os : Os) {H : Type} (enc : TypeId × Value → H) : ∃ places, DataW.whole enc Tryz.prog ((shelfQuotesWorld os).forCall (fun _ _ => 0) ⟨#[], #[.string .empty], []⟩).memory Tryz.f8.params.toList (OpenSpec.ofChange Rows.shelfQuotesSpec).vars false (#[.string .empty] : Array Value).toList 8 = some ([.lit (.string [])], [], places) :=
  ⟨[], by kernel_rfl⟩

set_option maxRecDepth 100000 in
theorem shelfQuotesLifted (os : Os) (started : os.Started) (H : Type) (enc : TypeId × Value → H) (F : Stop.Interp) :
    ReturnsInHanded {} Tryz.checked os 8 .any ((OpenSpec.ofChange Rows.shelfQuotesSpec).preRow enc Tryz.prog Tryz.f8 Rows.shelfQuotesRow.domain false Rows.shelfQuotesRow.laid) (((OpenSpec.ofChange Rows.shelfQuotesSpec).at F).post enc Tryz.prog Tryz.f8 false true false false) := by
  obtain ⟨places, hx⟩ := shelfQuotesReads os enc
  refine returnsInHanded_of_row (C := Tryz.checked) (s := (OpenSpec.ofChange Rows.shelfQuotesSpec)) Tryz.own started (by kernel_rfl) Tryz.func8
    (witness_row_at (enc := enc) (C := Tryz.checked) false (shelfQuotesWorld os) #[.string .empty] rfl (by kernel_rfl) (by kernel_rfl) (by kernel_rfl)
      (OpenSpec.preRow_of_cond 8 hx (by kernel_rfl) (fun k hk => by cases hk) (by kernel_rfl) (shelfQuotesMet os))) ?_
  intro W base args ds gs before hval hW _ hk _ hL _ _
  exact shelfQuotesContract H enc F W base args ds gs before hval hW hL

theorem shelfQuotesC0 : (Rows.shelfQuotesRow.inPlace == Tryz.pinned.checked.prog.inPlace 8) = true := by kernel_rfl
theorem shelfQuotesC1 : (Rows.shelfQuotesRow.unfollowed == Tryz.pinned.checked.prog.unfollowed 8) = true := by kernel_rfl
theorem shelfQuotesC2 : (Rows.shelfQuotesRow.recurses == Tryz.pinned.checked.prog.recurses 8) = true := by kernel_rfl
theorem shelfQuotesC3 : (Rows.shelfQuotesRow.named == Tryz.pinned.checked.prog.varsNamed 8) = true := by kernel_rfl
theorem shelfQuotesClosed : joinedFacts Tryz.pinned.checked.prog 8 Tryz.f8 (OpenSpec.ofChange Rows.shelfQuotesSpec).bare Rows.shelfQuotesRow = true := by
  unfold joinedFacts
  rw [shelfQuotesC0, shelfQuotesC1, shelfQuotesC2, shelfQuotesC3]
  kernel_rfl
theorem shelfQuotesNamed : Tryz.pinned.checked.prog.funcNamed Rows.shelfQuotesRow.func = some 8 := by kernel_rfl

theorem shelfQuotesSaid : Rows.ShelfQuotesSaid :=
  OpenClaim.holds_of_cond 8 Tryz.f8 rfl rfl rfl rfl rfl rfl rfl ⟨rfl, rfl, rfl, rfl, rfl⟩ rfl rfl rfl rfl rfl shelfQuotesNamed Tryz.func8 shelfQuotesClosed
    (of_decide_eq_true (by kernel_rfl)) (by unfold Func.isWrapper; first | (rw [if_pos (by decide +kernel)]; kernel_rfl) | (rw [if_neg (by decide +kernel)]; exact ⟨rfl, rfl⟩))
    (fun os started H enc _ F => by rw [OpenClaim.pre_eq_preRow]; exact shelfQuotesLifted os started H enc F)

theorem shelfQuotesPlain (f : FuncId) (fn : Func) (hf : Tryz.pinned.checked.prog.funcNamed "scriptshift/scriptlaw16.ShelfQuotes" = some f) (hfn : Tryz.pinned.checked.prog.funcs[f]? = some fn) :
    true = Tryz.pinned.checked.prog.looks [] ∧ ∀ (j : Nat) t, fn.params[j]? = some t → Tryz.pinned.checked.prog.wantsStandIn t = false := by
  obtain rfl : f = 8 := Option.some.inj ((show Tryz.prog.funcNamed "scriptshift/scriptlaw16.ShelfQuotes" = some 8 by kernel_rfl).symm.trans hf) |>.symm
  obtain rfl : fn = Tryz.f8 := (Option.some.inj (Tryz.func8.symm.trans hfn)).symm
  refine ⟨by kernel_rfl, fun j t ht => ?_⟩
  rw [Tryz.params8] at ht
  have hm := Array.mem_of_getElem? ht
  have hm2 : t = 9 := by simpa using hm
  subst hm2
  exact (show Tryz.prog.wantsStandIn 9 = false by kernel_rfl)

theorem shelfQuotes_card : Rows.ShelfQuotesCardSaid :=
  Claim7.holds_tied_plain_at .later [] _ _ _ _ shelfQuotesSaid (fun _ h => by cases h) (by kernel_rfl) (fun _ h => by cases h) shelfQuotes_row_tie rfl ⟨rfl, rfl⟩ (by kernel_rfl) rfl shelfQuotesPlain (by kernel_rfl)

#print axioms shelfQuotes_card
end Go.Proofs.YtdfjokdknanlfaaGreatDoor
