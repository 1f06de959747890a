/-
  Whatever comes in, where it is of bulk at most 1048576: scriptlaw16.ShelfTelex returns true, and each argument reads behind the call as it read before. (The row lists tables and sentinels of the library; the card ties them to the program's text.)
-/
import Derived.Test.YtgbhkkojkpndmaaGreatDoorShScanL
import Derived.Test.YtgbhkkojkpndmaaGreatDoorShText2
import Derived.Test.YtgbhkkojkpndmaaGreatDoorTClass4
namespace Go.Proofs.YtgbhkkojkpndmaaGreatDoor
open Go.RowKit Go.Lib
set_option maxRecDepth 20000
set_option linter.unusedSimpArgs false
set_option linter.unusedVariables false

theorem Sh.fst_telex : (Sh.lTelex.map Sh.eb).map Prod.fst = [[97, 119], [97, 97], [101, 101], [111, 111], [111, 119], [117, 119], [100, 100]] := by decide +kernel
theorem Sh.snd_telex : (Sh.lTelex.map Sh.eb).map Prod.snd = [[196, 131], [195, 162], [195, 170], [195, 180], [198, 161], [198, 176], [196, 145]] := by decide +kernel
theorem Sh.hl_telex : (∀ x ∈ Sh.lTelex, 1 ≤ x.1.length ∧ x.2.length ≤ x.1.length) ∧ (K.rulesF (Sh.lTelex.map Sh.rl)).1 = 0 ∧ (J.edgesL (Sh.lTelex.map Sh.rl)).length ≤ 400 ∧ (∀ x ∈ Sh.lTelex, ∀ z ∈ x.2, M.right z = true) ∧ (∀ x ∈ Sh.lTelex, x.1 ≠ [] ∧ Sh.Asc x.1) ∧ ∀ x ∈ Sh.lTelex.map Sh.eb, 1 ≤ x.1.length ∧ x.1.length ≤ 8 ∧ x.2.length ≤ 8 :=
  ⟨by decide, by decide +kernel, by decide +kernel, by decide, by unfold Sh.Asc; decide, by decide +kernel⟩

set_option maxHeartbeats 8000000 in
theorem shelfTelex_any (hK : T.ClassOk) (w : World) (s : ByteArray) (hs0 : s.size ≤ 1099511627776) : Calls Tryz.prog 6 #[.string s] w fun e w' => e = .returned (.bool true) ∧ Below w.heap.size w w' := by
  have HW : Hid (Calls Tryz.prog 16 #[.string s] w fun e w' => e = .returned (.bool (decide (s.size ≤ 1000) && decide (M.sp s.data.toList = 0))) ∧ Below w.heap.size w w') := shWhole_any s w hs0
  cases hc : (decide (s.size ≤ 1000) && decide (M.sp s.data.toList = 0)) with
  | true =>
    rw [hc] at HW
    simp only [Bool.and_eq_true, decide_eq_true_iff] at hc
    obtain ⟨hs, hsp⟩ := hc
    obtain ⟨pl, hpl⟩ := Cn.zgu
    have htl : (M.rn s).length ≤ 1000 := Nat.le_trans (M.zb3 s) hs
    have hR := zcq s
    have HT0 : Hid (∀ X, Calls Tryz.prog 10 #[.string { data := #[116, 101, 108, 101, 120] }, .string s, .string (Sh.bA (Sh.bs (Sh.lTelex.map Sh.eb) (Sh.bL s)))] X fun e w' => e = .returned (.bool true) ∧ Below X.heap.size X w') := fun X =>
      zbj hK Sh.nTelex _ Sh.scr_telex s (by omega) pl hpl _ (Sh.go_sc hpl Sh.hl_telex.1 Sh.hl_telex.2.1 Sh.hl_telex.2.2.1 htl hR) (Sh.sc_right Sh.hl_telex.2.2.2.1 _ _ hR) _ (Sh.scan_want Sh.hl_telex.2.2.2.2.1 hsp) X
    have HSc0 : Hid (∀ X bf bt, Sh.Row X bf [[97, 119], [97, 97], [101, 101], [111, 111], [111, 119], [117, 119], [100, 100]] → Sh.Row X bt [[196, 131], [195, 162], [195, 170], [195, 180], [198, 161], [198, 176], [196, 145]] → Calls Tryz.prog 17 #[.string s, .slice (some ⟨bf, 0, none⟩) 7 7, .slice (some ⟨bt, 0, none⟩) 7 7] X fun e w' => e = .returned (.string (Sh.bA (Sh.bs (Sh.lTelex.map Sh.eb) (Sh.bL s)))) ∧ w' = X) := fun X bf bt h1 h2 =>
      shScan_any X s hs (Sh.lTelex.map Sh.eb) bf bt 7 7 (by rw [Sh.fst_telex]; exact h1) (by rw [Sh.snd_telex]; exact h2) Sh.hl_telex.2.2.2.2.2 (by decide)
    clear hR htl hs hsp
    generalize Sh.bA (Sh.bs (Sh.lTelex.map Sh.eb) (Sh.bL s)) = want0 at HT0 HSc0
    go_enter Tryz.func6, Tryz.ntmps6
    go_wp2_with fail
    refine HW.out.mono ?_
    clear HW
    rintro e w1 ⟨rfl, b1⟩
    have HB1 : Hid (Below w.heap.size w w1) := b1
    clear b1
    go_wp2_with fail
    have hr0 := Sh.row_two w1 [[97, 119], [97, 97], [101, 101], [111, 111], [111, 119], [117, 119], [100, 100]] [[196, 131], [195, 162], [195, 170], [195, 180], [198, 161], [198, 176], [196, 145]] 9 _ _ rfl rfl
    refine (HSc0.out _ _ _ hr0.1 hr0.2).mono ?_
    clear HSc0 hr0
    rintro e x1 ⟨rfl, rfl⟩
    have HA1 : Hid (∀ o o' : Obj, Below w.heap.size w ((w1.alloc o).alloc o')) := fun o o' => HB1.out.trans ((((Below.refl _ w1).alloc (Nat.le_refl _) o).alloc (by simp) o').mono HB1.out.size)
    go_wp2_with fail
    refine (HT0.out _).mono ?_
    clear HT0
    rintro e w2 ⟨rfl, b2⟩
    have HB2 : Hid (Below w.heap.size w w2) := (HA1.out _ _).trans (b2.mono (HA1.out _ _).size)
    clear b2 HA1 HB1
    go_wp2
    go_ret
    exact ⟨rfl, HB2.out⟩
  | false =>
    rw [hc] at HW
    clear hc
    go_enter Tryz.func6, Tryz.ntmps6
    go_wp2_with fail
    refine HW.out.mono ?_
    clear HW
    rintro e w1 ⟨rfl, b1⟩
    have HB1 : Hid (Below w.heap.size w w1) := b1
    clear b1
    go_wp2
    go_ret
    exact ⟨rfl, HB1.out⟩

end Go.Proofs.YtgbhkkojkpndmaaGreatDoor
namespace Go.Proofs.YtgbhkkojkpndmaaGreatDoor
open Go.ChangeShapes Go.WideShapes Go.ChangeAt Go.RowKit
open Go.ChangeMaps (open_string shut_string)
set_option linter.unusedVariables false
set_option linter.unusedSimpArgs false

set_option maxRecDepth 100000 in
theorem shelfTelexArgs {H : Type} {enc : TypeId × Value → H} {W : World} {base : Nat} {args : Array Value} {ds gs : List (DataW H)} {p : List MemPlace}
    (hval : ∀ (j : Nat) t v, Tryz.f6.params[j]? = some t → args[j]? = some v → Value.okWide Tryz.prog W .any base t v)
    (hA : DataW.TrodAll enc Tryz.prog W 0 (fun _ => true) true Tryz.f6.params.toList args.toList ds p)  (hk : Rows.uptoSmall H (ds ++ gs) = true) :
    Calls Tryz.prog 6 args W fun e W' => e = .returned (.bool true) ∧ Below W.heap.size W W' := by
  rw [Tryz.params6] at hA hval
  obtain ⟨v0, vs0, d0, ds0, p0, q0, hargs, rfl, rfl, h0, r0⟩ := trodAll_cons hA
  obtain ⟨rfl, rfl, rfl⟩ := trodAll_nil r0
  obtain rfl : args = #[v0] := by cases args; simp_all
  obtain ⟨a0, rfl, rfl, rfl, w0⟩ := open_string Tryz.underlying9 (hval 0 9 v0 rfl rfl) h0
  have hb := bulk_bdW hk
  simp only [bulk_appW, Rows.uptoBulkAll, bulk_stringW] at hb
  exact shelfTelex_any zei W a0 (by omega)

set_option maxRecDepth 100000 in
theorem shelfTelexContract (H : Type) (enc : TypeId × Value → H) (F : Stop.Interp) (W : World) (base : Nat) (args : Array Value) (ds gs : List (DataW H)) (before : List MemPlace)
    (hval : ∀ (j : Nat) t v, Tryz.f6.params[j]? = some t → args[j]? = some v → Value.okWide Tryz.prog W .any base t v)
    (hW : DataW.Whole enc Tryz.prog Tryz.f6.params.toList (Rows.OpenSpec.upto Rows.shelfTelexSpec).vars false W args.toList ds gs before) (hk : ∀ k, (Rows.OpenSpec.upto Rows.shelfTelexSpec).cond = some k → k H (ds ++ gs) = true) (hL : laidMetH Tryz.prog Rows.shelfTelexUptoRow.laid W) :
    Calls Tryz.prog 6 args W fun e W' => ∃ v, e = .returned v ∧ ((Rows.OpenSpec.upto Rows.shelfTelexSpec).at F).post enc Tryz.prog Tryz.f6 false true false false W args v W' := by
  have hW' := hW
  obtain ⟨p, q, hA0, hV, rfl, hfz, hnd⟩ := hW
  have hA : DataW.TrodAll enc Tryz.prog W 0 (fun _ => true) true Tryz.f6.params.toList args.toList ds p := hA0
  obtain ⟨rfl, rfl⟩ := trodVars_none hV
  refine (shelfTelexArgs hval hA (hk Rows.uptoSmall rfl)).mono fun e W' ⟨he, bel⟩ => ?_
  subst he
  have hA' := zbb Tryz.laidOut bel _ _ _ _ (by kernel_rfl) hA
  obtain ⟨x0, rfl⟩ : ∃ x0, ds = [x0] := by
    rw [Tryz.params6] at hA
    obtain ⟨v0, vs0, d0, ds0, p0, q0, hargs, rfl, rfl, h0, r0⟩ := trodAll_cons hA
    obtain ⟨rfl, rfl, rfl⟩ := trodAll_nil r0
    exact ⟨_, rfl⟩
  exact ⟨_, rfl, _, _, _, [], p, [], hW', trodAll_mk1 (shut_bool Tryz.underlying4 _), hA', rfl, bel.frame _, fun h => by cases h⟩

/-- a world that holds the tables and the sentinels -/
noncomputable def shelfTelexLow : Nat := (World.holding Tryz.prog default ⟨#[], #[], []⟩).heap.size
noncomputable def shelfTelexWorld (os : Os) : World :=
  let w0 := World.holding Tryz.prog os ⟨#[.cells #[.string ⟨#[105, 110, 118, 97, 108, 105, 100, 32, 115, 121, 110, 116, 97, 120]⟩] 282, .cells #[.string ⟨#[118, 97, 108, 117, 101, 32, 111, 117, 116, 32, 111, 102, 32, 114, 97, 110, 103, 101]⟩] 282], #[], []⟩
  { w0 with heap := ((((w0.heap.modify 3 (relay pow10Cells)).modify 4 (relay tab32Cells)).modify 5 (relay tab64Cells)).modify 1 (relay #[.iface 280 (.pointer (some ⟨shelfTelexLow, 0, none⟩))])).modify 2 (relay #[.iface 280 (.pointer (some ⟨shelfTelexLow + 1, 0, none⟩))]) }
theorem shelfTelexMet (os : Os) : laidMet Tryz.prog Rows.shelfTelexUptoRow.laid ((shelfTelexWorld os).forCall (fun _ _ => 0) ⟨#[], #[.string .empty], []⟩).memory :=
  laidMet_of_run' 8 (by kernel_rfl) (by kernel_rfl)
theorem shelfTelexReads (os : Os) {H : Type} (enc : TypeId × Value → H) : ∃ places, DataW.whole enc Tryz.prog ((shelfTelexWorld os).forCall (fun _ _ => 0) ⟨#[], #[.string .empty], []⟩).memory Tryz.f6.params.toList (Rows.OpenSpec.upto Rows.shelfTelexSpec).vars false (#[.string .empty] : Array Value).toList 8 = some ([.lit (.string [])], [], places) :=
  ⟨[], by kernel_rfl⟩

set_option maxRecDepth 100000 in
theorem shelfTelexLifted (os : Os) (started : os.Started) (H : Type) (enc : TypeId × Value → H) (F : Stop.Interp) :
    ReturnsInHanded {} Tryz.checked os 6 .any ((Rows.OpenSpec.upto Rows.shelfTelexSpec).preRow enc Tryz.prog Tryz.f6 Rows.shelfTelexUptoRow.domain false Rows.shelfTelexUptoRow.laid) (((Rows.OpenSpec.upto Rows.shelfTelexSpec).at F).post enc Tryz.prog Tryz.f6 false true false false) := by
  obtain ⟨places, hx⟩ := shelfTelexReads os enc
  refine returnsInHanded_of_row (C := Tryz.checked) (s := (Rows.OpenSpec.upto Rows.shelfTelexSpec)) Tryz.own started (by kernel_rfl) Tryz.func6
    (witness_row_at (enc := enc) (C := Tryz.checked) false (shelfTelexWorld os) #[.string .empty] rfl (by kernel_rfl) (by kernel_rfl) (by kernel_rfl)
      (OpenSpec.preRow_of_cond 8 hx (by kernel_rfl) (fun k hk => by cases hk; kernel_rfl) (by kernel_rfl) (shelfTelexMet os))) ?_
  intro W base args ds gs before hval hW _ hk _ hL _ _
  exact shelfTelexContract H enc F W base args ds gs before hval hW hk hL

theorem shelfTelexC0 : (Rows.shelfTelexUptoRow.inPlace == Tryz.pinned.checked.prog.inPlace 6) = true := by kernel_rfl
theorem shelfTelexC1 : (Rows.shelfTelexUptoRow.unfollowed == Tryz.pinned.checked.prog.unfollowed 6) = true := by kernel_rfl
theorem shelfTelexC2 : (Rows.shelfTelexUptoRow.recurses == Tryz.pinned.checked.prog.recurses 6) = true := by kernel_rfl
theorem shelfTelexC3 : (Rows.shelfTelexUptoRow.named == Tryz.pinned.checked.prog.varsNamed 6) = true := by kernel_rfl
theorem shelfTelexClosed : joinedFacts Tryz.pinned.checked.prog 6 Tryz.f6 (Rows.OpenSpec.upto Rows.shelfTelexSpec).bare Rows.shelfTelexUptoRow = true := by
  unfold joinedFacts
  rw [shelfTelexC0, shelfTelexC1, shelfTelexC2, shelfTelexC3]
  kernel_rfl
theorem shelfTelexNamed : Tryz.pinned.checked.prog.funcNamed Rows.shelfTelexUptoRow.func = some 6 := by kernel_rfl

theorem shelfTelexSaid : Rows.ShelfTelexUptoSaid :=
  OpenClaim.holds_of_cond 6 Tryz.f6 rfl rfl rfl rfl rfl rfl rfl ⟨rfl, rfl, rfl, rfl, rfl⟩ rfl rfl rfl rfl rfl shelfTelexNamed Tryz.func6 shelfTelexClosed
    (of_decide_eq_true (by kernel_rfl)) (by unfold Func.isWrapper; first | (rw [if_pos (by decide +kernel)]; kernel_rfl) | (rw [if_neg (by decide +kernel)]; exact ⟨rfl, rfl⟩))
    (fun os started H enc _ F => by rw [OpenClaim.pre_eq_preRow]; exact shelfTelexLifted os started H enc F)

theorem shelfTelexPlain (f : FuncId) (fn : Func) (hf : Tryz.pinned.checked.prog.funcNamed "scriptshift/scriptlaw16.ShelfTelex" = some f) (hfn : Tryz.pinned.checked.prog.funcs[f]? = some fn) :
    true = Tryz.pinned.checked.prog.looks [] ∧ ∀ (j : Nat) t, fn.params[j]? = some t → Tryz.pinned.checked.prog.wantsStandIn t = false := by
  obtain rfl : f = 6 := Option.some.inj ((show Tryz.prog.funcNamed "scriptshift/scriptlaw16.ShelfTelex" = some 6 by kernel_rfl).symm.trans hf) |>.symm
  obtain rfl : fn = Tryz.f6 := (Option.some.inj (Tryz.func6.symm.trans hfn)).symm
  refine ⟨by kernel_rfl, fun j t ht => ?_⟩
  rw [Tryz.params6] at ht
  have hm := Array.mem_of_getElem? ht
  have hm2 : t = 9 := by simpa using hm
  subst hm2
  exact (show Tryz.prog.wantsStandIn 9 = false by kernel_rfl)

theorem shelfTelex_card : Rows.ShelfTelexUptoCardSaid :=
  Claim7.holds_tied_plain_at .later [] _ _ _ _ shelfTelexSaid (fun _ h => by cases h) (by kernel_rfl) (fun _ h => by cases h) shelfTelexUpto_row_tie rfl ⟨rfl, rfl⟩ (by kernel_rfl) rfl shelfTelexPlain (by kernel_rfl)

#print axioms shelfTelex_card
end Go.Proofs.YtgbhkkojkpndmaaGreatDoor
