/-
  Whatever comes in, where it is of bulk at most 1048576: scriptlaw16.ShelfSigns returns true, and each argument reads behind the call as it read before. (The row lists tables and sentinels of the library; the card ties them to the program's text.)
-/
import Derived.Test.YtgbhkkojkpndmaaGreatDoorShScanL
import Derived.Test.YtgbhkkojkpndmaaGreatDoorShText2
import Derived.Test.YtgbhkkojkpndmaaGreatDoorTClass4
namespace Go.Proofs.YtgbhkkojkpndmaaGreatDoor
open Go.RowKit Go.Lib
set_option maxRecDepth 20000
set_option linter.unusedSimpArgs false
set_option linter.unusedVariables false

theorem Sh.fst_arrows : (Sh.lArrows.map Sh.eb).map Prod.fst = [[45, 62], [60, 45]] := by decide +kernel
theorem Sh.snd_arrows : (Sh.lArrows.map Sh.eb).map Prod.snd = [[226, 134, 146], [226, 134, 144]] := by decide +kernel
theorem Sh.hl_arrows : (∀ x ∈ Sh.lArrows, 1 ≤ x.1.length ∧ x.2.length ≤ x.1.length) ∧ (K.rulesF (Sh.lArrows.map Sh.rl)).1 = 0 ∧ (J.edgesL (Sh.lArrows.map Sh.rl)).length ≤ 400 ∧ (∀ x ∈ Sh.lArrows, ∀ z ∈ x.2, M.right z = true) ∧ (∀ x ∈ Sh.lArrows, x.1 ≠ [] ∧ Sh.Asc x.1) ∧ ∀ x ∈ Sh.lArrows.map Sh.eb, 1 ≤ x.1.length ∧ x.1.length ≤ 8 ∧ x.2.length ≤ 8 :=
  ⟨by decide, by decide +kernel, by decide +kernel, by decide, by unfold Sh.Asc; decide, by decide +kernel⟩
theorem Sh.fst_dashes : (Sh.lDashes.map Sh.eb).map Prod.fst = [[45, 45, 45], [45, 45]] := by decide +kernel
theorem Sh.snd_dashes : (Sh.lDashes.map Sh.eb).map Prod.snd = [[226, 128, 148], [226, 128, 147]] := by decide +kernel
theorem Sh.hl_dashes : (∀ x ∈ Sh.lDashes, 1 ≤ x.1.length ∧ x.2.length ≤ x.1.length) ∧ (K.rulesF (Sh.lDashes.map Sh.rl)).1 = 0 ∧ (J.edgesL (Sh.lDashes.map Sh.rl)).length ≤ 400 ∧ (∀ x ∈ Sh.lDashes, ∀ z ∈ x.2, M.right z = true) ∧ (∀ x ∈ Sh.lDashes, x.1 ≠ [] ∧ Sh.Asc x.1) ∧ ∀ x ∈ Sh.lDashes.map Sh.eb, 1 ≤ x.1.length ∧ x.1.length ≤ 8 ∧ x.2.length ≤ 8 :=
  ⟨by decide, by decide +kernel, by decide +kernel, by decide, by unfold Sh.Asc; decide, by decide +kernel⟩
theorem Sh.fst_points : (Sh.lPoints.map Sh.eb).map Prod.fst = [[46, 46, 46]] := by decide +kernel
theorem Sh.snd_points : (Sh.lPoints.map Sh.eb).map Prod.snd = [[226, 128, 166]] := by decide +kernel
theorem Sh.hl_points : (∀ x ∈ Sh.lPoints, 1 ≤ x.1.length ∧ x.2.length ≤ x.1.length) ∧ (K.rulesF (Sh.lPoints.map Sh.rl)).1 = 0 ∧ (J.edgesL (Sh.lPoints.map Sh.rl)).length ≤ 400 ∧ (∀ x ∈ Sh.lPoints, ∀ z ∈ x.2, M.right z = true) ∧ (∀ x ∈ Sh.lPoints, x.1 ≠ [] ∧ Sh.Asc x.1) ∧ ∀ x ∈ Sh.lPoints.map Sh.eb, 1 ≤ x.1.length ∧ x.1.length ≤ 8 ∧ x.2.length ≤ 8 :=
  ⟨by decide, by decide +kernel, by decide +kernel, by decide, by unfold Sh.Asc; decide, by decide +kernel⟩

set_option maxHeartbeats 8000000 in
theorem shelfSigns_any (hK : T.ClassOk) (w : World) (s : ByteArray) (hs0 : s.size ≤ 1099511627776) : Calls Tryz.prog 5 #[.string s] w fun e w' => e = .returned (.bool true) ∧ Below w.heap.size w w' := by
  have HW : Hid (Calls Tryz.prog 16 #[.string s] w fun e w' => e = .returned (.bool (decide (s.size ≤ 1000) && decide (M.sp s.data.toList = 0))) ∧ Below w.heap.size w w') := shWhole_any s w hs0
  cases hc : (decide (s.size ≤ 1000) && decide (M.sp s.data.toList = 0)) with
  | true =>
    rw [hc] at HW
    simp only [Bool.and_eq_true, decide_eq_true_iff] at hc
    obtain ⟨hs, hsp⟩ := hc
    obtain ⟨pl, hpl⟩ := Cn.zgu
    have htl : (M.rn s).length ≤ 1000 := Nat.le_trans (M.zb3 s) hs
    have hR := zcq s
    have HT0 : Hid (∀ X, Calls Tryz.prog 10 #[.string { data := #[97, 114, 114, 111, 119, 115] }, .string s, .string (Sh.bA (Sh.bs (Sh.lArrows.map Sh.eb) (Sh.bL s)))] X fun e w' => e = .returned (.bool true) ∧ Below X.heap.size X w') := fun X =>
      zbj hK Sh.nArrows _ Sh.scr_arrows s (by omega) pl hpl _ (Sh.go_sc hpl Sh.hl_arrows.1 Sh.hl_arrows.2.1 Sh.hl_arrows.2.2.1 htl hR) (Sh.sc_right Sh.hl_arrows.2.2.2.1 _ _ hR) _ (Sh.scan_want Sh.hl_arrows.2.2.2.2.1 hsp) X
    have HSc0 : Hid (∀ X bf bt, Sh.Row X bf [[45, 62], [60, 45]] → Sh.Row X bt [[226, 134, 146], [226, 134, 144]] → Calls Tryz.prog 17 #[.string s, .slice (some ⟨bf, 0, none⟩) 2 2, .slice (some ⟨bt, 0, none⟩) 2 2] X fun e w' => e = .returned (.string (Sh.bA (Sh.bs (Sh.lArrows.map Sh.eb) (Sh.bL s)))) ∧ w' = X) := fun X bf bt h1 h2 =>
      shScan_any X s hs (Sh.lArrows.map Sh.eb) bf bt 2 2 (by rw [Sh.fst_arrows]; exact h1) (by rw [Sh.snd_arrows]; exact h2) Sh.hl_arrows.2.2.2.2.2 (by decide)
    have HT1 : Hid (∀ X, Calls Tryz.prog 10 #[.string { data := #[100, 97, 115, 104, 101, 115] }, .string s, .string (Sh.bA (Sh.bs (Sh.lDashes.map Sh.eb) (Sh.bL s)))] X fun e w' => e = .returned (.bool true) ∧ Below X.heap.size X w') := fun X =>
      zbj hK Sh.nDashes _ Sh.scr_dashes s (by omega) pl hpl _ (Sh.go_sc hpl Sh.hl_dashes.1 Sh.hl_dashes.2.1 Sh.hl_dashes.2.2.1 htl hR) (Sh.sc_right Sh.hl_dashes.2.2.2.1 _ _ hR) _ (Sh.scan_want Sh.hl_dashes.2.2.2.2.1 hsp) X
    have HSc1 : Hid (∀ X bf bt, Sh.Row X bf [[45, 45, 45], [45, 45]] → Sh.Row X bt [[226, 128, 148], [226, 128, 147]] → Calls Tryz.prog 17 #[.string s, .slice (some ⟨bf, 0, none⟩) 2 2, .slice (some ⟨bt, 0, none⟩) 2 2] X fun e w' => e = .returned (.string (Sh.bA (Sh.bs (Sh.lDashes.map Sh.eb) (Sh.bL s)))) ∧ w' = X) := fun X bf bt h1 h2 =>
      shScan_any X s hs (Sh.lDashes.map Sh.eb) bf bt 2 2 (by rw [Sh.fst_dashes]; exact h1) (by rw [Sh.snd_dashes]; exact h2) Sh.hl_dashes.2.2.2.2.2 (by decide)
    have HT2 : Hid (∀ X, Calls Tryz.prog 10 #[.string { data := #[112, 111, 105, 110, 116, 115] }, .string s, .string (Sh.bA (Sh.bs (Sh.lPoints.map Sh.eb) (Sh.bL s)))] X fun e w' => e = .returned (.bool true) ∧ Below X.heap.size X w') := fun X =>
      zbj hK Sh.nPoints _ Sh.scr_points s (by omega) pl hpl _ (Sh.go_sc hpl Sh.hl_points.1 Sh.hl_points.2.1 Sh.hl_points.2.2.1 htl hR) (Sh.sc_right Sh.hl_points.2.2.2.1 _ _ hR) _ (Sh.scan_want Sh.hl_points.2.2.2.2.1 hsp) X
    have HSc2 : Hid (∀ X bf bt, Sh.Row X bf [[46, 46, 46]] → Sh.Row X bt [[226, 128, 166]] → Calls Tryz.prog 17 #[.string s, .slice (some ⟨bf, 0, none⟩) 1 1, .slice (some ⟨bt, 0, none⟩) 1 1] X fun e w' => e = .returned (.string (Sh.bA (Sh.bs (Sh.lPoints.map Sh.eb) (Sh.bL s)))) ∧ w' = X) := fun X bf bt h1 h2 =>
      shScan_any X s hs (Sh.lPoints.map Sh.eb) bf bt 1 1 (by rw [Sh.fst_points]; exact h1) (by rw [Sh.snd_points]; exact h2) Sh.hl_points.2.2.2.2.2 (by decide)
    clear hR htl hs hsp
    generalize Sh.bA (Sh.bs (Sh.lArrows.map Sh.eb) (Sh.bL s)) = want0 at HT0 HSc0
    generalize Sh.bA (Sh.bs (Sh.lDashes.map Sh.eb) (Sh.bL s)) = want1 at HT1 HSc1
    generalize Sh.bA (Sh.bs (Sh.lPoints.map Sh.eb) (Sh.bL s)) = want2 at HT2 HSc2
    go_enter Tryz.func5, Tryz.ntmps5
    go_wp2_with fail
    refine HW.out.mono ?_
    clear HW
    rintro e w1 ⟨rfl, b1⟩
    have HB1 : Hid (Below w.heap.size w w1) := b1
    clear b1
    go_wp2_with fail
    have hr0 := Sh.row_two w1 [[45, 62], [60, 45]] [[226, 134, 146], [226, 134, 144]] 9 _ _ rfl rfl
    refine (HSc0.out _ _ _ hr0.1 hr0.2).mono ?_
    clear HSc0 hr0
    rintro e x1 ⟨rfl, rfl⟩
    have HA1 : Hid (∀ o o' : Obj, Below w.heap.size w ((w1.alloc o).alloc o')) := fun o o' => HB1.out.trans ((((Below.refl _ w1).alloc (Nat.le_refl _) o).alloc (by simp) o').mono HB1.out.size)
    go_wp2_with fail
    refine (HT0.out _).mono ?_
    clear HT0
    rintro e w2 ⟨rfl, b2⟩
    have HB2 : Hid (Below w.heap.size w w2) := (HA1.out _ _).trans (b2.mono (HA1.out _ _).size)
    clear b2 HA1 HB1
    go_wp2_with fail
    have hr1 := Sh.row_two w2 [[45, 45, 45], [45, 45]] [[226, 128, 148], [226, 128, 147]] 9 _ _ rfl rfl
    refine (HSc1.out _ _ _ hr1.1 hr1.2).mono ?_
    clear HSc1 hr1
    rintro e x2 ⟨rfl, rfl⟩
    have HA2 : Hid (∀ o o' : Obj, Below w.heap.size w ((w2.alloc o).alloc o')) := fun o o' => HB2.out.trans ((((Below.refl _ w2).alloc (Nat.le_refl _) o).alloc (by simp) o').mono HB2.out.size)
    go_wp2_with fail
    refine (HT1.out _).mono ?_
    clear HT1
    rintro e w3 ⟨rfl, b3⟩
    have HB3 : Hid (Below w.heap.size w w3) := (HA2.out _ _).trans (b3.mono (HA2.out _ _).size)
    clear b3 HA2 HB2
    go_wp2_with fail
    have hr2 := Sh.row_two w3 [[46, 46, 46]] [[226, 128, 166]] 9 _ _ rfl rfl
    refine (HSc2.out _ _ _ hr2.1 hr2.2).mono ?_
    clear HSc2 hr2
    rintro e x3 ⟨rfl, rfl⟩
    have HA3 : Hid (∀ o o' : Obj, Below w.heap.size w ((w3.alloc o).alloc o')) := fun o o' => HB3.out.trans ((((Below.refl _ w3).alloc (Nat.le_refl _) o).alloc (by simp) o').mono HB3.out.size)
    go_wp2_with fail
    refine (HT2.out _).mono ?_
    clear HT2
    rintro e w4 ⟨rfl, b4⟩
    have HB4 : Hid (Below w.heap.size w w4) := (HA3.out _ _).trans (b4.mono (HA3.out _ _).size)
    clear b4 HA3 HB3
    go_wp2
    go_ret
    exact ⟨rfl, HB4.out⟩
  | false =>
    rw [hc] at HW
    clear hc
    go_enter Tryz.func5, Tryz.ntmps5
    go_wp2_with fail
    refine HW.out.mono ?_
    clear HW
    rintro e w1 ⟨rfl, b1⟩
    have HB1 : Hid (Below w.heap.size w w1) := b1
    clear b1
    go_wp2
    go_ret
    exact ⟨rfl, HB1.out⟩

end Go.Proofs.YtgbhkkojkpndmaaGreatDoor
namespace Go.Proofs.YtgbhkkojkpndmaaGreatDoor
open Go.ChangeShapes Go.WideShapes Go.ChangeAt Go.RowKit
open Go.ChangeMaps (open_string shut_string)
set_option linter.unusedVariables false
set_option linter.unusedSimpArgs false

set_option maxRecDepth 100000 in
theorem shelfSignsArgs {H : Type} {enc : TypeId × Value → H} {W : World} {base : Nat} {args : Array Value} {ds gs : List (DataW H)} {p : List MemPlace}
    (hval : ∀ (j : Nat) t v, Tryz.f5.params[j]? = some t → args[j]? = some v → Value.okWide Tryz.prog W .any base t v)
    (hA : DataW.TrodAll enc Tryz.prog W 0 (fun _ => true) true Tryz.f5.params.toList args.toList ds p)  (hk : Rows.uptoSmall H (ds ++ gs) = true) :
    Calls Tryz.prog 5 args W fun e W' => e = .returned (.bool true) ∧ Below W.heap.size W W' := by
  rw [Tryz.params5] at hA hval
  obtain ⟨v0, vs0, d0, ds0, p0, q0, hargs, rfl, rfl, h0, r0⟩ := trodAll_cons hA
  obtain ⟨rfl, rfl, rfl⟩ := trodAll_nil r0
  obtain rfl : args = #[v0] := by cases args; simp_all
  obtain ⟨a0, rfl, rfl, rfl, w0⟩ := open_string Tryz.underlying9 (hval 0 9 v0 rfl rfl) h0
  have hb := bulk_bdW hk
  simp only [bulk_appW, Rows.uptoBulkAll, bulk_stringW] at hb
  exact shelfSigns_any zei W a0 (by omega)

set_option maxRecDepth 100000 in
theorem shelfSignsContract (H : Type) (enc : TypeId × Value → H) (F : Stop.Interp) (W : World) (base : Nat) (args : Array Value) (ds gs : List (DataW H)) (before : List MemPlace)
    (hval : ∀ (j : Nat) t v, Tryz.f5.params[j]? = some t → args[j]? = some v → Value.okWide Tryz.prog W .any base t v)
    (hW : DataW.Whole enc Tryz.prog Tryz.f5.params.toList (Rows.OpenSpec.upto Rows.shelfSignsSpec).vars false W args.toList ds gs before) (hk : ∀ k, (Rows.OpenSpec.upto Rows.shelfSignsSpec).cond = some k → k H (ds ++ gs) = true) (hL : laidMetH Tryz.prog Rows.shelfSignsUptoRow.laid W) :
    Calls Tryz.prog 5 args W fun e W' => ∃ v, e = .returned v ∧ ((Rows.OpenSpec.upto Rows.shelfSignsSpec).at F).post enc Tryz.prog Tryz.f5 false true false false W args v W' := by
  have hW' := hW
  obtain ⟨p, q, hA0, hV, rfl, hfz, hnd⟩ := hW
  have hA : DataW.TrodAll enc Tryz.prog W 0 (fun _ => true) true Tryz.f5.params.toList args.toList ds p := hA0
  obtain ⟨rfl, rfl⟩ := trodVars_none hV
  refine (shelfSignsArgs hval hA (hk Rows.uptoSmall rfl)).mono fun e W' ⟨he, bel⟩ => ?_
  subst he
  have hA' := zbb Tryz.laidOut bel _ _ _ _ (by kernel_rfl) hA
  obtain ⟨x0, rfl⟩ : ∃ x0, ds = [x0] := by
    rw [Tryz.params5] at hA
    obtain ⟨v0, vs0, d0, ds0, p0, q0, hargs, rfl, rfl, h0, r0⟩ := trodAll_cons hA
    obtain ⟨rfl, rfl, rfl⟩ := trodAll_nil r0
    exact ⟨_, rfl⟩
  exact ⟨_, rfl, _, _, _, [], p, [], hW', trodAll_mk1 (shut_bool Tryz.underlying4 _), hA', rfl, bel.frame _, fun h => by cases h⟩

/-- a world that holds the tables and the sentinels -/
noncomputable def shelfSignsLow : Nat := (World.holding Tryz.prog default ⟨#[], #[], []⟩).heap.size
noncomputable def shelfSignsWorld (os : Os) : World :=
  let w0 := World.holding Tryz.prog os ⟨#[.cells #[.string ⟨#[105, 110, 118, 97, 108, 105, 100, 32, 115, 121, 110, 116, 97, 120]⟩] 282, .cells #[.string ⟨#[118, 97, 108, 117, 101, 32, 111, 117, 116, 32, 111, 102, 32, 114, 97, 110, 103, 101]⟩] 282], #[], []⟩
  { w0 with heap := ((((w0.heap.modify 3 (relay pow10Cells)).modify 4 (relay tab32Cells)).modify 5 (relay tab64Cells)).modify 1 (relay #[.iface 280 (.pointer (some ⟨shelfSignsLow, 0, none⟩))])).modify 2 (relay #[.iface 280 (.pointer (some ⟨shelfSignsLow + 1, 0, none⟩))]) }
theorem shelfSignsMet (os : Os) : laidMet Tryz.prog Rows.shelfSignsUptoRow.laid ((shelfSignsWorld os).forCall (fun _ _ => 0) ⟨#[], #[.string .empty], []⟩).memory :=
  laidMet_of_run' 8 (by kernel_rfl) (by kernel_rfl)
theorem shelfSignsReads (os : Os) {H : Type} (enc : TypeId × Value → H) : ∃ places, DataW.whole enc Tryz.prog ((shelfSignsWorld os).forCall (fun _ _ => 0) ⟨#[], #[.string .empty], []⟩).memory Tryz.f5.params.toList (Rows.OpenSpec.upto Rows.shelfSignsSpec).vars false (#[.string .empty] : Array Value).toList 8 = some ([.lit (.string [])], [], places) :=
  ⟨[], by kernel_rfl⟩

set_option maxRecDepth 100000 in
theorem shelfSignsLifted (os : Os) (started : os.Started) (H : Type) (enc : TypeId × Value → H) (F : Stop.Interp) :
    ReturnsInHanded {} Tryz.checked os 5 .any ((Rows.OpenSpec.upto Rows.shelfSignsSpec).preRow enc Tryz.prog Tryz.f5 Rows.shelfSignsUptoRow.domain false Rows.shelfSignsUptoRow.laid) (((Rows.OpenSpec.upto Rows.shelfSignsSpec).at F).post enc Tryz.prog Tryz.f5 false true false false) := by
  obtain ⟨places, hx⟩ := shelfSignsReads os enc
  refine returnsInHanded_of_row (C := Tryz.checked) (s := (Rows.OpenSpec.upto Rows.shelfSignsSpec)) Tryz.own started (by kernel_rfl) Tryz.func5
    (witness_row_at (enc := enc) (C := Tryz.checked) false (shelfSignsWorld os) #[.string .empty] rfl (by kernel_rfl) (by kernel_rfl) (by kernel_rfl)
      (OpenSpec.preRow_of_cond 8 hx (by kernel_rfl) (fun k hk => by cases hk; kernel_rfl) (by kernel_rfl) (shelfSignsMet os))) ?_
  intro W base args ds gs before hval hW _ hk _ hL _ _
  exact shelfSignsContract H enc F W base args ds gs before hval hW hk hL

theorem shelfSignsC0 : (Rows.shelfSignsUptoRow.inPlace == Tryz.pinned.checked.prog.inPlace 5) = true := by kernel_rfl
theorem shelfSignsC1 : (Rows.shelfSignsUptoRow.unfollowed == Tryz.pinned.checked.prog.unfollowed 5) = true := by kernel_rfl
theorem shelfSignsC2 : (Rows.shelfSignsUptoRow.recurses == Tryz.pinned.checked.prog.recurses 5) = true := by kernel_rfl
theorem shelfSignsC3 : (Rows.shelfSignsUptoRow.named == Tryz.pinned.checked.prog.varsNamed 5) = true := by kernel_rfl
theorem shelfSignsClosed : joinedFacts Tryz.pinned.checked.prog 5 Tryz.f5 (Rows.OpenSpec.upto Rows.shelfSignsSpec).bare Rows.shelfSignsUptoRow = true := by
  unfold joinedFacts
  rw [shelfSignsC0, shelfSignsC1, shelfSignsC2, shelfSignsC3]
  kernel_rfl
theorem shelfSignsNamed : Tryz.pinned.checked.prog.funcNamed Rows.shelfSignsUptoRow.func = some 5 := by kernel_rfl

theorem shelfSignsSaid : Rows.ShelfSignsUptoSaid :=
  OpenClaim.holds_of_cond 5 Tryz.f5 rfl rfl rfl rfl rfl rfl rfl ⟨rfl, rfl, rfl, rfl, rfl⟩ rfl rfl rfl rfl rfl shelfSignsNamed Tryz.func5 shelfSignsClosed
    (of_decide_eq_true (by kernel_rfl)) (by unfold Func.isWrapper; first | (rw [if_pos (by decide +kernel)]; kernel_rfl) | (rw [if_neg (by decide +kernel)]; exact ⟨rfl, rfl⟩))
    (fun os started H enc _ F => by rw [OpenClaim.pre_eq_preRow]; exact shelfSignsLifted os started H enc F)

theorem shelfSignsPlain (f : FuncId) (fn : Func) (hf : Tryz.pinned.checked.prog.funcNamed "scriptshift/scriptlaw16.ShelfSigns" = some f) (hfn : Tryz.pinned.checked.prog.funcs[f]? = some fn) :
    true = Tryz.pinned.checked.prog.looks [] ∧ ∀ (j : Nat) t, fn.params[j]? = some t → Tryz.pinned.checked.prog.wantsStandIn t = false := by
  obtain rfl : f = 5 := Option.some.inj ((show Tryz.prog.funcNamed "scriptshift/scriptlaw16.ShelfSigns" = some 5 by kernel_rfl).symm.trans hf) |>.symm
  obtain rfl : fn = Tryz.f5 := (Option.some.inj (Tryz.func5.symm.trans hfn)).symm
  refine ⟨by kernel_rfl, fun j t ht => ?_⟩
  rw [Tryz.params5] at ht
  have hm := Array.mem_of_getElem? ht
  have hm2 : t = 9 := by simpa using hm
  subst hm2
  exact (show Tryz.prog.wantsStandIn 9 = false by kernel_rfl)

theorem shelfSigns_card : Rows.ShelfSignsUptoCardSaid :=
  Claim7.holds_tied_plain_at .later [] _ _ _ _ shelfSignsSaid (fun _ h => by cases h) (by kernel_rfl) (fun _ h => by cases h) shelfSignsUpto_row_tie rfl ⟨rfl, rfl⟩ (by kernel_rfl) rfl shelfSignsPlain (by kernel_rfl)

#print axioms shelfSigns_card
end Go.Proofs.YtgbhkkojkpndmaaGreatDoor
