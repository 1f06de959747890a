/-
  Whatever comes in: scriptlaw3.SetsynSigns returns true, and each argument reads behind the call as it read before. (The row lists tables and sentinels of the library; the card ties them to the program's text.)
-/
import Derived.Test.YtbepnmmcdllklaaDoorTTabs
import Derived.Test.YtbepnmmcdllklaaDoorLawSigns
namespace Go.Proofs.YtbepnmmcdllklaaDoor
open Go.ChangeShapes Go.WideShapes Go.ChangeAt Go.RowKit
open Go.ChangeMaps (open_string shut_string)
set_option linter.unusedVariables false
set_option linter.unusedSimpArgs false

set_option maxRecDepth 100000 in
theorem setsynSignsArgs {H : Type} {enc : TypeId × Value → H} {W : World} {base : Nat} {args : Array Value} {ds gs : List (DataW H)} {p : List MemPlace}
    (hval : ∀ (j : Nat) t v, Tryd.f5.params[j]? = some t → args[j]? = some v → Value.okWide Tryd.prog W .any base t v)
    (hA : DataW.TrodAll enc Tryd.prog W 0 (fun _ => true) true Tryd.f5.params.toList args.toList ds p) (hT : T.Tz W) :
    Calls Tryd.prog 5 args W fun e W' => e = .returned (.bool true) ∧ Below W.heap.size W W' := by
  rw [Tryd.params5] at hA hval
  obtain ⟨v0, vs0, d0, ds0, p0, q0, hargs, rfl, rfl, h0, r0⟩ := trodAll_cons hA
  obtain ⟨v1, vs1, d1, ds1, p1, q1, rfl, rfl, rfl, h1, r1⟩ := trodAll_cons r0
  obtain ⟨rfl, rfl, rfl⟩ := trodAll_nil r1
  obtain rfl : args = #[v0, v1] := by cases args; simp_all
  obtain ⟨z0, R0, F0, hbk0, hcp0⟩ := spans_rd (hval 0 22 v0 rfl rfl) h0
  obtain ⟨z1, R1, F1, hbk1, hcp1⟩ := spans_rd (hval 1 22 v1 rfl rfl) h1
  exact signs_any W v0 v1 z0 z1 R0 R1 F0 F1 hT

set_option maxRecDepth 100000 in
theorem setsynSignsContract (H : Type) (enc : TypeId × Value → H) (F : Stop.Interp) (W : World) (base : Nat) (args : Array Value) (ds gs : List (DataW H)) (before : List MemPlace)
    (hval : ∀ (j : Nat) t v, Tryd.f5.params[j]? = some t → args[j]? = some v → Value.okWide Tryd.prog W .any base t v)
    (hW : DataW.Whole enc Tryd.prog Tryd.f5.params.toList (OpenSpec.ofChange Rows.setsynSignsSpec).vars false W args.toList ds gs before) (hL : laidMetH Tryd.prog Rows.setsynSignsRow.laid W) :
    Calls Tryd.prog 5 args W fun e W' => ∃ v, e = .returned v ∧ ((OpenSpec.ofChange Rows.setsynSignsSpec).at F).post enc Tryd.prog Tryd.f5 false true false false W args v W' := by
  have hT : T.Tz W := (tab_of hL).cell gTab 15 (by decide)
  have hW' := hW
  obtain ⟨p, q, hA0, hV, rfl, hfz, hnd⟩ := hW
  have hA : DataW.TrodAll enc Tryd.prog W 0 (fun _ => true) true Tryd.f5.params.toList args.toList ds p := hA0
  obtain ⟨rfl, rfl⟩ := trodVars_none hV
  refine (setsynSignsArgs hval hA hT (gs := [])).mono fun e W' ⟨he, bel⟩ => ?_
  subst he
  have hA' := trodAll_below Tryd.laidOut bel _ _ _ _ (by kernel_rfl) hA
  obtain ⟨x0, x1, rfl⟩ : ∃ x0 x1, ds = [x0, x1] := by
    rw [Tryd.params5] at hA
    obtain ⟨v0, vs0, d0, ds0, p0, q0, hargs, rfl, rfl, h0, r0⟩ := trodAll_cons hA
    obtain ⟨v1, vs1, d1, ds1, p1, q1, rfl, rfl, rfl, h1, r1⟩ := trodAll_cons r0
    obtain ⟨rfl, rfl, rfl⟩ := trodAll_nil r1
    exact ⟨_, _, rfl⟩
  exact ⟨_, rfl, _, _, _, [], p, [], hW', trodAll_mk1 (shut_bool Tryd.underlying4 _), hA', rfl, bel.frame _, fun h => by cases h⟩

/-- a world that holds the tables and the sentinels -/
noncomputable def setsynSignsLow : Nat := (World.holding Tryd.prog default ⟨#[], #[], []⟩).heap.size
noncomputable def setsynSignsWorld (os : Os) : World :=
  let w0 := World.holding Tryd.prog os ⟨#[.cells #[.string ⟨#[105, 110, 118, 97, 108, 105, 100, 32, 115, 121, 110, 116, 97, 120]⟩] 153, .cells #[.string ⟨#[118, 97, 108, 117, 101, 32, 111, 117, 116, 32, 111, 102, 32, 114, 97, 110, 103, 101]⟩] 153], #[], []⟩
  { w0 with heap := ((((w0.heap.modify 0 (relay pow10Cells)).modify 1 (relay tab32Cells)).modify 2 (relay tab64Cells)).modify 4 (relay #[.iface 151 (.pointer (some ⟨setsynSignsLow, 0, none⟩))])).modify 5 (relay #[.iface 151 (.pointer (some ⟨setsynSignsLow + 1, 0, none⟩))]) }
theorem setsynSignsMet (os : Os) : laidMet Tryd.prog Rows.setsynSignsRow.laid ((setsynSignsWorld os).forCall (fun _ _ => 0) ⟨#[], #[.slice none 0 0, .slice none 0 0], []⟩).memory :=
  laidMet_of_run' 8 (by kernel_rfl) (by kernel_rfl)
theorem setsynSignsReads (os : Os) {H : Type} (enc : TypeId × Value → H) : ∃ places, DataW.whole enc Tryd.prog ((setsynSignsWorld os).forCall (fun _ _ => 0) ⟨#[], #[.slice none 0 0, .slice none 0 0], []⟩).memory Tryd.f5.params.toList (OpenSpec.ofChange Rows.setsynSignsSpec).vars false (#[.slice none 0 0, .slice none 0 0] : Array Value).toList 8 = some ([.nil, .nil], [], places) :=
  ⟨[], by kernel_rfl⟩

set_option maxRecDepth 100000 in
theorem setsynSignsLifted (os : Os) (started : os.Started) (H : Type) (enc : TypeId × Value → H) (F : Stop.Interp) :
    ReturnsInHanded {} Tryd.checked os 5 .any ((OpenSpec.ofChange Rows.setsynSignsSpec).preRow enc Tryd.prog Tryd.f5 Rows.setsynSignsRow.domain false Rows.setsynSignsRow.laid) (((OpenSpec.ofChange Rows.setsynSignsSpec).at F).post enc Tryd.prog Tryd.f5 false true false false) := by
  obtain ⟨places, hx⟩ := setsynSignsReads os enc
  refine returnsInHanded_of_row (C := Tryd.checked) (s := (OpenSpec.ofChange Rows.setsynSignsSpec)) Tryd.own started (by kernel_rfl) Tryd.func5
    (witness_row_at (enc := enc) (C := Tryd.checked) false (setsynSignsWorld os) #[.slice none 0 0, .slice none 0 0] rfl (by kernel_rfl) (by kernel_rfl) (by kernel_rfl)
      (OpenSpec.preRow_of_cond 8 hx (by kernel_rfl) (fun k hk => by cases hk) (by kernel_rfl) (setsynSignsMet os))) ?_
  intro W base args ds gs before hval hW _ hk _ hL _ _
  exact setsynSignsContract H enc F W base args ds gs before hval hW hL

theorem setsynSignsSaid : Rows.SetsynSignsSaid :=
  OpenClaim.holds_of_cond 5 Tryd.f5 rfl rfl rfl rfl rfl rfl rfl ⟨rfl, rfl, rfl, rfl, rfl⟩ rfl rfl rfl rfl rfl (by kernel_rfl) Tryd.func5 (by kernel_rfl)
    (of_decide_eq_true (by kernel_rfl)) (by unfold Func.isWrapper; first | (rw [if_pos (by decide +kernel)]; kernel_rfl) | (rw [if_neg (by decide +kernel)]; exact ⟨rfl, rfl⟩))
    (fun os started H enc _ F => by rw [OpenClaim.pre_eq_preRow]; exact setsynSignsLifted os started H enc F)

theorem setsynSignsPlain (f : FuncId) (fn : Func) (hf : Tryd.pinned.checked.prog.funcNamed "scriptshift/scriptlaw3.SetsynSigns" = some f) (hfn : Tryd.pinned.checked.prog.funcs[f]? = some fn) :
    true = Tryd.pinned.checked.prog.looks [] ∧ ∀ (j : Nat) t, fn.params[j]? = some t → Tryd.pinned.checked.prog.wantsStandIn t = false := by
  obtain rfl : f = 5 := Option.some.inj ((show Tryd.prog.funcNamed "scriptshift/scriptlaw3.SetsynSigns" = some 5 by kernel_rfl).symm.trans hf) |>.symm
  obtain rfl : fn = Tryd.f5 := (Option.some.inj (Tryd.func5.symm.trans hfn)).symm
  refine ⟨by kernel_rfl, fun j t ht => ?_⟩
  rw [Tryd.params5] at ht
  have hm := Array.mem_of_getElem? ht
  have hm2 : t = 22 := by simpa using hm
  subst hm2
  exact (show Tryd.prog.wantsStandIn 22 = false by kernel_rfl)

theorem setsynSigns_card : Rows.SetsynSignsCardSaid :=
  Claim7.holds_tied_plain_at .later [] _ _ _ _ setsynSignsSaid (fun _ h => by cases h) (by kernel_rfl) (fun _ h => by cases h) setsynSigns_row_tie rfl ⟨rfl, rfl⟩ (by kernel_rfl) rfl setsynSignsPlain (by kernel_rfl)

#print axioms setsynSigns_card
end Go.Proofs.YtbepnmmcdllklaaDoor
