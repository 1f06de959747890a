/-
  Whatever comes in: scriptlaw16.ShelfSqueeze returns true, and each argument reads behind the call as it read before. (The row lists tables and sentinels of the library; the card ties them to the program's text.)
-/
import Derived.Test.YtdfjokdknanlfaaGreatDoorTpComp
import Derived.Test.YtdfjokdknanlfaaGreatDoorShScrQ
import Derived.Laws.Concat
import Derived.Test.YtdfjokdknanlfaaGreatDoorMath
import Derived.Test.YtdfjokdknanlfaaGreatDoorTClass4
namespace Go.Proofs.YtdfjokdknanlfaaGreatDoor
open Go.RowKit Go.Lib
set_option maxRecDepth 20000
set_option linter.unusedSimpArgs false
set_option linter.unusedVariables false

set_option maxHeartbeats 8000000 in
theorem shelfSqueeze_any (hK : T.ClassOk) (w : World) (s : ByteArray) : Calls Tryz.prog 6 #[.string s] w fun e w' => e = .returned (.bool true) ∧ Below w.heap.size w w' := by
  have HS : Hid (∀ X, Calls Tryz.prog 9 #[.string s] X fun e w' => e = .returned (.bool (decide (s.size ≤ 1000))) ∧ w' = X) := fun X => zbu s X
  by_cases hs : s.size ≤ 1000
  · rw [decide_eq_true hs] at HS
    obtain ⟨pl, hpl⟩ := Cn.ze6
    have HD : Hid (∀ X, Calls Tryz.prog 10 #[.string s] X fun e w' => ∃ xo xc, e = .returned (.slice xo (M.rn s).length xc) ∧ L.Rd w' (.slice xo (M.rn s).length xc) .i32 (M.rn s) ∧ Below X.heap.size X w') := fun X => zby s (by omega) X
    have htl : (M.rn s).length ≤ 1000 := Nat.le_trans (M.zb9 s) hs
    have hR := zcu s
    have hRb : ∀ z ∈ Sh.sq (-1) (M.rn s), M.right z = true := fun z hz => hR z (Sh.sq_mem _ _ _ hz)
    have HT1 : Hid (∀ X, Calls Tryz.prog 12 #[.string { data := #[115, 113, 117, 101, 101, 122, 101] }, .string s, .string (runesBytes (Sh.sq (-1) (M.rn s)))] X fun e w' => e = .returned (.bool true) ∧ Below X.heap.size X w') := fun X =>
      zbl hK Sh.nSqueeze _ Sh.scr_z s (by omega) pl hpl _ (Sh.go_sq hpl htl hR) hRb _ rfl X
    have HRt : Hid (∀ z ∈ M.rn s, M.right z = true) := hR
    clear hRb hR hs
    generalize M.rn s = tx at HD htl HT1 HRt
    go_enter Tryz.func6, Tryz.ntmps6
    go_wp2_with fail
    refine (HS.out _).mono ?_
    rintro e w0 ⟨rfl, rfl⟩
    clear HS
    go_wp2_with fail
    refine (HD.out _).mono ?_
    clear HD
    rintro e w1 ⟨xo, xc, rfl, hd, b1⟩
    have HB1 : Hid (Below w0.heap.size w0 w1) := b1
    obtain ⟨ao', cap', e', _, hcs⟩ := hd
    obtain ⟨rfl, -, rfl⟩ := Value.slice.inj e'
    have HC : Hid (tx ≠ [] → ∃ b off, xo = some ⟨b, off, none⟩ ∧ ∀ j z, tx[j]? = some z → w1.cell? ⟨b, off + j, none⟩ = some (.int .i32 z)) := hcs
    clear hcs e' b1
    go_wp2
    go_loopw [3, 4, 13] (fun wa la i wr => ∃ (j : Nat) (last : Int) (acc : List Int), j ≤ tx.length ∧ i = .int .i64 j ∧ la = .int .i32 last ∧ Hid (wa = .string (runesBytes acc)) ∧ Hid (acc ++ Sh.sq last (tx.drop j) = Sh.sq (-1) tx) ∧ Hid (acc.length ≤ j ∧ ∀ z ∈ acc, M.right z = true) ∧ Hid (Below w1.heap.size w1 wr)) (fun _ _ i _ => tx.length - (RowKit.intOf i).toNat)
    case atStart => exact ⟨0, -1, [], Nat.zero_le _, rfl, rfl, by show _ = _; rfl, by show _ = _; simp, ⟨Nat.le_refl _, fun z hz => by cases hz⟩, Below.refl _ _⟩
    case round =>
      obtain ⟨j, last, acc, hj, rfl, rfl, HWa, HE, HA, HB⟩ := hrel
      obtain ⟨A, hA⟩ : ∃ A, A = runesBytes acc := ⟨_, rfl⟩
      have hAs : A.size ≤ 4000 := by have := Sh.zas acc HA.out.2; have := HA.out.1; rw [hA]; omega
      have HA2 : Hid (A = runesBytes acc) := hA
      have hwa := HWa.out
      rw [← hA] at hwa
      subst hwa
      clear HWa hA
      by_cases hlt : j < tx.length
      · obtain ⟨r, hr⟩ : ∃ x, tx[j]? = some x := ⟨tx[j], by simp [hlt]⟩
        obtain ⟨b, off, rfl, hcell⟩ := HC.out (by intro h; subst h; simp at hlt)
        have c0 := hcell j r hr
        rw [← HB.out.cell (p := ⟨b, off + j, none⟩) (L.block_lt c0)] at c0
        have hrr := HRt.out r (List.mem_of_getElem? hr)
        have hdr : tx.drop j = r :: tx.drop (j + 1) := by
          have h2 := (List.getElem?_eq_some_iff.1 hr).2
          rw [List.drop_eq_getElem_cons hlt, h2]
        have HE2 : Hid (acc ++ (if r = last ∧ 98 ≤ r ∧ r ≤ 100 then Sh.sq r (tx.drop (j + 1)) else r :: Sh.sq r (tx.drop (j + 1))) = Sh.sq (-1) tx) := by
          have h := HE.out
          rw [hdr, Sh.sq] at h
          exact h
        have HP : Hid (∀ X, Calls Tryz.prog 11 #[.int .i32 r] X fun e w' => e = .returned (.string (runesBytes [r])) ∧ Below X.heap.size X w') := fun X => zch r hrr X
        have HRr : Hid (M.right r = true) := hrr
        have hBs : (runesBytes [r]).size ≤ 4 := by have := Sh.zas [r] (fun z hz => by simp at hz; subst hz; exact hrr); simpa using this
        obtain ⟨B, hB⟩ : ∃ B, B = runesBytes [r] := ⟨_, rfl⟩
        rw [← hB] at HP hBs
        have HB2 : Hid (B = runesBytes [r]) := hB
        clear hr hcell hdr hB hrr HE HC
        by_cases h1 : r = last
        · subst h1
          by_cases h2 : r < 98
          · have HE3 : Hid ((acc ++ [r]) ++ Sh.sq r (tx.drop (j + 1)) = Sh.sq (-1) tx) := by have h := HE2.out; rw [if_neg (fun h => by omega)] at h; rw [← h]; show _ = _; simp
            clear HE2
            go_wp2_with fail
            refine (HP.out _).mono ?_
            clear HP
            rintro e w2 ⟨rfl, b2⟩
            have HB3 : Hid (Below w1.heap.size w1 w2) := HB.out.trans (b2.mono HB.out.size)
            clear b2
            go_wp2
            go_roundw
            case rel => exact ⟨j + 1, r, acc ++ [r], by omega, by go_num, rfl, by show _ = _; rw [Sh.zax, HA2.out, HB2.out], HE3, ⟨by have := HA.out.1; simp; omega, fun z hz => (List.mem_append.1 hz).elim (HA.out.2 z) (fun h => by simp at h; subst h; exact HRr.out)⟩, HB3⟩
            case measure => simp [RowKit.intOf]; omega
          · by_cases h3 : 100 < r
            · have HE3 : Hid ((acc ++ [r]) ++ Sh.sq r (tx.drop (j + 1)) = Sh.sq (-1) tx) := by have h := HE2.out; rw [if_neg (fun h => by omega)] at h; rw [← h]; show _ = _; simp
              clear HE2
              go_wp2_with fail
              refine (HP.out _).mono ?_
              clear HP
              rintro e w2 ⟨rfl, b2⟩
              have HB3 : Hid (Below w1.heap.size w1 w2) := HB.out.trans (b2.mono HB.out.size)
              clear b2
              go_wp2
              go_roundw
              case rel => exact ⟨j + 1, r, acc ++ [r], by omega, by go_num, rfl, by show _ = _; rw [Sh.zax, HA2.out, HB2.out], HE3, ⟨by have := HA.out.1; simp; omega, fun z hz => (List.mem_append.1 hz).elim (HA.out.2 z) (fun h => by simp at h; subst h; exact HRr.out)⟩, HB3⟩
              case measure => simp [RowKit.intOf]; omega
            · have HE3 : Hid (acc ++ Sh.sq r (tx.drop (j + 1)) = Sh.sq (-1) tx) := by have h := HE2.out; rw [if_pos ⟨rfl, by omega, by omega⟩] at h; exact h
              clear HE2 HP
              go_wp2
              go_roundw
              case rel => exact ⟨j + 1, r, acc, by omega, by go_num, rfl, by show _ = _; rw [HA2.out], HE3, ⟨by have := HA.out.1; omega, HA.out.2⟩, HB⟩
              case measure => simp [RowKit.intOf]; omega
        · have HE3 : Hid ((acc ++ [r]) ++ Sh.sq r (tx.drop (j + 1)) = Sh.sq (-1) tx) := by have h := HE2.out; rw [if_neg (fun h => h1 h.1)] at h; rw [← h]; show _ = _; simp
          clear HE2
          go_wp2_with fail
          refine (HP.out _).mono ?_
          clear HP
          rintro e w2 ⟨rfl, b2⟩
          have HB3 : Hid (Below w1.heap.size w1 w2) := HB.out.trans (b2.mono HB.out.size)
          clear b2
          go_wp2
          go_roundw
          case rel => exact ⟨j + 1, r, acc ++ [r], by omega, by go_num, rfl, by show _ = _; rw [Sh.zax, HA2.out, HB2.out], HE3, ⟨by have := HA.out.1; simp; omega, fun z hz => (List.mem_append.1 hz).elim (HA.out.2 z) (fun h => by simp at h; subst h; exact HRr.out)⟩, HB3⟩
          case measure => simp [RowKit.intOf]; omega
      · have hkl : j = tx.length := by omega
        subst hkl
        have hacc : acc = Sh.sq (-1) tx := by have h := HE.out; rw [List.drop_length, Sh.sq, List.append_nil] at h; exact h
        rw [← hacc, ← HA2.out] at HT1
        clear hacc HE HA2 HA HC hAs
        go_wp2_with fail
        refine (HT1.out _).mono ?_
        clear HT1
        rintro e w2 ⟨rfl, b2⟩
        have HB3 : Hid (Below w0.heap.size w0 w2) := HB1.out.trans ((HB.out.trans (b2.mono HB.out.size)).mono HB1.out.size)
        clear b2
        go_wp2
        go_ret
        exact ⟨rfl, HB3.out⟩
  · rw [decide_eq_false hs] at HS
    clear hs
    go_enter Tryz.func6, Tryz.ntmps6
    go_wp2_with fail
    refine (HS.out _).mono ?_
    rintro e w0 ⟨rfl, rfl⟩
    clear HS
    go_wp2
    go_ret
    exact ⟨rfl, Below.refl _ _⟩

end Go.Proofs.YtdfjokdknanlfaaGreatDoor
namespace Go.Proofs.YtdfjokdknanlfaaGreatDoor
open Go.ChangeShapes Go.WideShapes Go.ChangeAt Go.RowKit
open Go.ChangeMaps (open_string shut_string)
set_option linter.unusedVariables false
set_option linter.unusedSimpArgs false

set_option maxRecDepth 100000 in
theorem shelfSqueezeArgs {H : Type} {enc : TypeId × Value → H} {W : World} {base : Nat} {args : Array Value} {ds gs : List (DataW H)} {p : List MemPlace}
    (hval : ∀ (j : Nat) t v, Tryz.f6.params[j]? = some t → args[j]? = some v → Value.okWide Tryz.prog W .any base t v)
    (hA : DataW.TrodAll enc Tryz.prog W 0 (fun _ => true) true Tryz.f6.params.toList args.toList ds p)  :
    Calls Tryz.prog 6 args W fun e W' => e = .returned (.bool true) ∧ Below W.heap.size W W' := by
  rw [Tryz.params6] at hA hval
  obtain ⟨v0, vs0, d0, ds0, p0, q0, hargs, rfl, rfl, h0, r0⟩ := trodAll_cons hA
  obtain ⟨rfl, rfl, rfl⟩ := trodAll_nil r0
  obtain rfl : args = #[v0] := by cases args; simp_all
  obtain ⟨a0, rfl, rfl, rfl, w0⟩ := open_string Tryz.underlying9 (hval 0 9 v0 rfl rfl) h0
  exact shelfSqueeze_any zdx W a0

set_option maxRecDepth 100000 in
theorem shelfSqueezeContract (H : Type) (enc : TypeId × Value → H) (F : Stop.Interp) (W : World) (base : Nat) (args : Array Value) (ds gs : List (DataW H)) (before : List MemPlace)
    (hval : ∀ (j : Nat) t v, Tryz.f6.params[j]? = some t → args[j]? = some v → Value.okWide Tryz.prog W .any base t v)
    (hW : DataW.Whole enc Tryz.prog Tryz.f6.params.toList (OpenSpec.ofChange Rows.shelfSqueezeSpec).vars false W args.toList ds gs before) (hL : laidMetH Tryz.prog Rows.shelfSqueezeRow.laid W) :
    Calls Tryz.prog 6 args W fun e W' => ∃ v, e = .returned v ∧ ((OpenSpec.ofChange Rows.shelfSqueezeSpec).at F).post enc Tryz.prog Tryz.f6 false true false false W args v W' := by
  have hW' := hW
  obtain ⟨p, q, hA0, hV, rfl, hfz, hnd⟩ := hW
  have hA : DataW.TrodAll enc Tryz.prog W 0 (fun _ => true) true Tryz.f6.params.toList args.toList ds p := hA0
  obtain ⟨rfl, rfl⟩ := trodVars_none hV
  refine (shelfSqueezeArgs hval hA (gs := [])).mono fun e W' ⟨he, bel⟩ => ?_
  subst he
  have hA' := za8 Tryz.laidOut bel _ _ _ _ (by kernel_rfl) hA
  obtain ⟨x0, rfl⟩ : ∃ x0, ds = [x0] := by
    rw [Tryz.params6] at hA
    obtain ⟨v0, vs0, d0, ds0, p0, q0, hargs, rfl, rfl, h0, r0⟩ := trodAll_cons hA
    obtain ⟨rfl, rfl, rfl⟩ := trodAll_nil r0
    exact ⟨_, rfl⟩
  exact ⟨_, rfl, _, _, _, [], p, [], hW', trodAll_mk1 (shut_bool Tryz.underlying4 _), hA', rfl, bel.frame _, fun h => by cases h⟩

/-- a world that holds the tables and the sentinels -/
noncomputable def shelfSqueezeLow : Nat := (World.holding Tryz.prog default ⟨#[], #[], []⟩).heap.size
noncomputable def shelfSqueezeWorld (os : Os) : World :=
  let w0 := World.holding Tryz.prog os ⟨#[.cells #[.string ⟨#[105, 110, 118, 97, 108, 105, 100, 32, 115, 121, 110, 116, 97, 120]⟩] 278, .cells #[.string ⟨#[118, 97, 108, 117, 101, 32, 111, 117, 116, 32, 111, 102, 32, 114, 97, 110, 103, 101]⟩] 278], #[], []⟩
  { w0 with heap := ((((w0.heap.modify 3 (relay pow10Cells)).modify 4 (relay tab32Cells)).modify 5 (relay tab64Cells)).modify 1 (relay #[.iface 276 (.pointer (some ⟨shelfSqueezeLow, 0, none⟩))])).modify 2 (relay #[.iface 276 (.pointer (some ⟨shelfSqueezeLow + 1, 0, none⟩))]) }
theorem shelfSqueezeMet (os : Os) : laidMet Tryz.prog Rows.shelfSqueezeRow.laid ((shelfSqueezeWorld os).forCall (fun _ _ => 0) ⟨#[], #[.string .empty], []⟩).memory :=
  laidMet_of_run' 8 (by kernel_rfl) (by kernel_rfl)
theorem shelfSqueezeReads (os : Os) {H : Type} (enc : TypeId × Value → H) : ∃ places, DataW.whole enc Tryz.prog ((shelfSqueezeWorld os).forCall (fun _ _ => 0) ⟨#[], #[.string .empty], []⟩).memory Tryz.f6.params.toList (OpenSpec.ofChange Rows.shelfSqueezeSpec).vars false (#[.string .empty] : Array Value).toList 8 = some ([.lit (.string [])], [], places) :=
  ⟨[], by kernel_rfl⟩

set_option maxRecDepth 100000 in
theorem shelfSqueezeLifted (os : Os) (started : os.Started) (H : Type) (enc : TypeId × Value → H) (F : Stop.Interp) :
    ReturnsInHanded {} Tryz.checked os 6 .any ((OpenSpec.ofChange Rows.shelfSqueezeSpec).preRow enc Tryz.prog Tryz.f6 Rows.shelfSqueezeRow.domain false Rows.shelfSqueezeRow.laid) (((OpenSpec.ofChange Rows.shelfSqueezeSpec).at F).post enc Tryz.prog Tryz.f6 false true false false) := by
  obtain ⟨places, hx⟩ := shelfSqueezeReads os enc
  refine returnsInHanded_of_row (C := Tryz.checked) (s := (OpenSpec.ofChange Rows.shelfSqueezeSpec)) Tryz.own started (by kernel_rfl) Tryz.func6
    (witness_row_at (enc := enc) (C := Tryz.checked) false (shelfSqueezeWorld os) #[.string .empty] rfl (by kernel_rfl) (by kernel_rfl) (by kernel_rfl)
      (OpenSpec.preRow_of_cond 8 hx (by kernel_rfl) (fun k hk => by cases hk) (by kernel_rfl) (shelfSqueezeMet os))) ?_
  intro W base args ds gs before hval hW _ hk _ hL _ _
  exact shelfSqueezeContract H enc F W base args ds gs before hval hW hL

theorem shelfSqueezeC0 : (Rows.shelfSqueezeRow.inPlace == Tryz.pinned.checked.prog.inPlace 6) = true := by kernel_rfl
theorem shelfSqueezeC1 : (Rows.shelfSqueezeRow.unfollowed == Tryz.pinned.checked.prog.unfollowed 6) = true := by kernel_rfl
theorem shelfSqueezeC2 : (Rows.shelfSqueezeRow.recurses == Tryz.pinned.checked.prog.recurses 6) = true := by kernel_rfl
theorem shelfSqueezeC3 : (Rows.shelfSqueezeRow.named == Tryz.pinned.checked.prog.varsNamed 6) = true := by kernel_rfl
theorem shelfSqueezeClosed : joinedFacts Tryz.pinned.checked.prog 6 Tryz.f6 (OpenSpec.ofChange Rows.shelfSqueezeSpec).bare Rows.shelfSqueezeRow = true := by
  unfold joinedFacts
  rw [shelfSqueezeC0, shelfSqueezeC1, shelfSqueezeC2, shelfSqueezeC3]
  kernel_rfl
theorem shelfSqueezeNamed : Tryz.pinned.checked.prog.funcNamed Rows.shelfSqueezeRow.func = some 6 := by kernel_rfl

theorem shelfSqueezeSaid : Rows.ShelfSqueezeSaid :=
  OpenClaim.holds_of_cond 6 Tryz.f6 rfl rfl rfl rfl rfl rfl rfl ⟨rfl, rfl, rfl, rfl, rfl⟩ rfl rfl rfl rfl rfl shelfSqueezeNamed Tryz.func6 shelfSqueezeClosed
    (of_decide_eq_true (by kernel_rfl)) (by unfold Func.isWrapper; first | (rw [if_pos (by decide +kernel)]; kernel_rfl) | (rw [if_neg (by decide +kernel)]; exact ⟨rfl, rfl⟩))
    (fun os started H enc _ F => by rw [OpenClaim.pre_eq_preRow]; exact shelfSqueezeLifted os started H enc F)

theorem shelfSqueezePlain (f : FuncId) (fn : Func) (hf : Tryz.pinned.checked.prog.funcNamed "scriptshift/scriptlaw16.ShelfSqueeze" = some f) (hfn : Tryz.pinned.checked.prog.funcs[f]? = some fn) :
    true = Tryz.pinned.checked.prog.looks [] ∧ ∀ (j : Nat) t, fn.params[j]? = some t → Tryz.pinned.checked.prog.wantsStandIn t = false := by
  obtain rfl : f = 6 := Option.some.inj ((show Tryz.prog.funcNamed "scriptshift/scriptlaw16.ShelfSqueeze" = some 6 by kernel_rfl).symm.trans hf) |>.symm
  obtain rfl : fn = Tryz.f6 := (Option.some.inj (Tryz.func6.symm.trans hfn)).symm
  refine ⟨by kernel_rfl, fun j t ht => ?_⟩
  rw [Tryz.params6] at ht
  have hm := Array.mem_of_getElem? ht
  have hm2 : t = 9 := by simpa using hm
  subst hm2
  exact (show Tryz.prog.wantsStandIn 9 = false by kernel_rfl)

theorem shelfSqueeze_card : Rows.ShelfSqueezeCardSaid :=
  Claim7.holds_tied_plain_at .later [] _ _ _ _ shelfSqueezeSaid (fun _ h => by cases h) (by kernel_rfl) (fun _ h => by cases h) shelfSqueeze_row_tie rfl ⟨rfl, rfl⟩ (by kernel_rfl) rfl shelfSqueezePlain (by kernel_rfl)

#print axioms shelfSqueeze_card
end Go.Proofs.YtdfjokdknanlfaaGreatDoor
