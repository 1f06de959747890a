/-
  Whatever comes in: scriptlaw5.RulesPrint returns true, and the argument reads behind the call as it read before. (The row lists three tables of the library; the card ties them to the program's text.)
-/
import Derived.Test.YtafkfnkcabahnaaDoorTTabs
import Derived.Test.YtafkfnkcabahnaaDoorLawRPrint
import Derived.Test.YtafkfnkcabahnaaDoorRFrame
namespace Go.Proofs.YtafkfnkcabahnaaDoor
open Go.ChangeShapes Go.WideShapes Go.ChangeAt Go.RowKit

set_option maxRecDepth 100000 in
theorem rprintArgs {H : Type} {enc : TypeId × Value → H} {W : World} {base : Nat} {args : Array Value} {ds : List (DataW H)} {p : List MemPlace}
    (hval : ∀ (j : Nat) t v, Tryd.f3.params[j]? = some t → args[j]? = some v → Value.okWide Tryd.prog W .any base t v)
    (hA : DataW.TrodAll enc Tryd.prog W 0 (fun _ => true) true Tryd.f3.params.toList args.toList ds p) (hT : T.Tz W) (hsz : (DataW.weightsEach Tryd.prog Tryd.f3.params.toList ds).all (· ≤ reachBytes) = true) :
    Calls Tryd.prog 3 args W fun e W' => e = .returned (.bool true) ∧ Below W.heap.size W W' := by
  rw [Tryd.params3] at hA hval hsz
  obtain ⟨v0, vs0, d0, ds0, p0, q0, hargs, rfl, rfl, h0, r0⟩ := trodAll_cons hA
  obtain ⟨rfl, rfl, rfl⟩ := trodAll_nil r0
  obtain rfl : args = #[v0] := by cases args; simp_all
  have hw : ∀ n ∈ DataW.weightsEach Tryd.prog [22] [d0], n ≤ reachBytes := fun n hn => by
    have := List.all_eq_true.1 hsz n hn
    simpa using this
  obtain ⟨z0, R0⟩ := parts_rd (hval 0 22 v0 rfl rfl) h0 fun n hn => hw n (DataW.weights_mem_each (j := 0) rfl rfl n hn)
  exact rulesPrint_any W v0 z0 R0 hT

set_option maxRecDepth 100000 in
theorem rprintContract (H : Type) (enc : TypeId × Value → H) (W : World) (base : Nat) (args : Array Value) (ds gs : List (DataW H)) (before : List MemPlace)
    (hval : ∀ (j : Nat) t v, Tryd.f3.params[j]? = some t → args[j]? = some v → Value.okWide Tryd.prog W .any base t v)
    (hW : DataW.Whole enc Tryd.prog Tryd.f3.params.toList Rows.rulesPrintSpec.vars false W args.toList ds gs before) (hL : laidMetH Tryd.prog Rows.rulesPrintRow.laid W) (hsz0 : (DataW.weightsEach Tryd.prog (Tryd.f3.params.toList ++ (OpenSpec.ofChange Rows.rulesPrintSpec).bare.plain.varTypes Tryd.prog) (ds ++ gs)).all (· ≤ reachBytes) = true) :
    Calls Tryd.prog 3 args W fun e W' => ∃ v, e = .returned v ∧ Rows.rulesPrintSpec.post enc Tryd.prog Tryd.f3 false true false false W args v W' := by
  have hT : T.Tz W := (tab_of hL).cell gTab 15 (by decide)
  have hW' := hW
  obtain ⟨p, q, hA0, hV, rfl, hfz, hnd⟩ := hW
  have hA : DataW.TrodAll enc Tryd.prog W 0 (fun _ => true) true Tryd.f3.params.toList args.toList ds p := hA0
  obtain ⟨rfl, rfl⟩ := trodVars_none hV
  have hsz : (DataW.weightsEach Tryd.prog Tryd.f3.params.toList ds).all (· ≤ reachBytes) = true := by
    have h := hsz0
    rw [List.append_nil] at h
    have e : (OpenSpec.ofChange Rows.rulesPrintSpec).bare.plain.varTypes Tryd.prog = [] := by kernel_rfl
    rw [e, List.append_nil] at h
    exact h
  refine (rprintArgs hval hA hT hsz).mono fun e W' ⟨he, bel⟩ => ?_
  subst he
  have hA' := trodAll_below Tryd.laidOut bel _ _ _ _ (by kernel_rfl) hA
  obtain ⟨x0, rfl⟩ : ∃ x0, ds = [x0] := by
    rw [Tryd.params3] at hA
    obtain ⟨v0, vs0, d0, ds0, p0, q0, hargs, rfl, rfl, h0, r0⟩ := trodAll_cons hA
    obtain ⟨rfl, rfl, rfl⟩ := trodAll_nil r0
    exact ⟨_, rfl⟩
  exact ⟨_, rfl, _, _, _, [], p, [], hW', trodAll_mk1 (shut_bool Tryd.underlying4 _), hA', rfl, bel.frame _, fun h => by cases h⟩

/-- a world that holds the tables -/
noncomputable def rprintWorld (os : Os) : World :=
  { World.holding Tryd.prog os ⟨#[], #[], []⟩ with heap := (((World.holding Tryd.prog os ⟨#[], #[], []⟩).heap.modify 0 (relay pow10Cells)).modify 1 (relay tab32Cells)).modify 2 (relay tab64Cells) }
theorem rprintMet (os : Os) : laidMet Tryd.prog Rows.rulesPrintRow.laid ((rprintWorld os).forCall (fun _ _ => 0) ⟨#[], #[.slice none 0 0], []⟩).memory :=
  laidMet_of_run' 8 (by kernel_rfl) (by kernel_rfl)
theorem rprintReads (os : Os) {H : Type} (enc : TypeId × Value → H) : ∃ places, DataW.whole enc Tryd.prog ((rprintWorld os).forCall (fun _ _ => 0) ⟨#[], #[.slice none 0 0], []⟩).memory Tryd.f3.params.toList Rows.rulesPrintSpec.vars false #[Value.slice none 0 0].toList 8 = some ([.nil], [], places) :=
  ⟨[], by kernel_rfl⟩

set_option maxRecDepth 100000 in
theorem rprintLifted (os : Os) (started : os.Started) (H : Type) (enc : TypeId × Value → H) (F : Stop.Interp) :
    ReturnsInHanded {} Tryd.checked os 3 .any ((OpenSpec.ofChange Rows.rulesPrintSpec).preRow enc Tryd.prog Tryd.f3 Rows.rulesPrintRow.domain false Rows.rulesPrintRow.laid) (((OpenSpec.ofChange Rows.rulesPrintSpec).at F).post enc Tryd.prog Tryd.f3 false true false false) := by
  obtain ⟨places, hx⟩ := rprintReads os enc
  refine returnsInHanded_of_row (C := Tryd.checked) (s := OpenSpec.ofChange Rows.rulesPrintSpec) Tryd.own started (by kernel_rfl) Tryd.func3
    (witness_row_at (enc := enc) (C := Tryd.checked) false (rprintWorld os) #[.slice none 0 0] rfl (by kernel_rfl) (by kernel_rfl) (by kernel_rfl)
      (OpenSpec.preRow_of_cond 8 hx (by kernel_rfl) (fun k hk => by cases hk) (by kernel_rfl) (rprintMet os))) ?_
  intro W base args ds gs before hval hW _ _ hz hL _ _
  exact rprintContract H enc W base args ds gs before hval hW hL hz

theorem rprintSaid : Rows.RulesPrintSaid :=
  OpenClaim.holds_of_cond 3 Tryd.f3 rfl rfl rfl rfl rfl rfl rfl ⟨rfl, rfl, rfl, rfl, rfl⟩ rfl rfl rfl rfl rfl (by kernel_rfl) Tryd.func3 (by kernel_rfl)
    (of_decide_eq_true (by kernel_rfl)) (by unfold Func.isWrapper; first | (rw [if_pos (by decide +kernel)]; kernel_rfl) | (rw [if_neg (by decide +kernel)]; exact ⟨rfl, rfl⟩))
    (fun os started H enc _ F => by rw [OpenClaim.pre_eq_preRow]; exact rprintLifted os started H enc F)

theorem rprintPlain (f : FuncId) (fn : Func) (hf : Tryd.pinned.checked.prog.funcNamed "scriptshift/scriptlaw5.RulesPrint" = some f) (hfn : Tryd.pinned.checked.prog.funcs[f]? = some fn) :
    false = Tryd.pinned.checked.prog.looks [] ∧ ∀ (j : Nat) t, fn.params[j]? = some t → Tryd.pinned.checked.prog.wantsStandIn t = false := by
  obtain rfl : f = 3 := Option.some.inj ((show Tryd.prog.funcNamed "scriptshift/scriptlaw5.RulesPrint" = some 3 by kernel_rfl).symm.trans hf) |>.symm
  obtain rfl : fn = Tryd.f3 := (Option.some.inj (Tryd.func3.symm.trans hfn)).symm
  refine ⟨by kernel_rfl, fun j t ht => ?_⟩
  rw [Tryd.params3] at ht
  obtain rfl : t = 22 := by simpa using Array.mem_of_getElem? ht
  exact (show Tryd.prog.wantsStandIn 22 = false by kernel_rfl)

theorem rulesPrint_card : Rows.RulesPrintCardSaid :=
  Claim7.holds_tied_plain_at .later [] _ _ _ _ rprintSaid (fun _ h => by cases h) (by kernel_rfl) (fun _ h => by cases h) rulesPrint_row_tie rfl ⟨rfl, rfl⟩ (by kernel_rfl) rfl rprintPlain (by kernel_rfl)

#print axioms rulesPrint_card
end Go.Proofs.YtafkfnkcabahnaaDoor
