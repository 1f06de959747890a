/-
  Whatever comes in: scriptlaw6.ResolveWritten returns true, and each argument reads behind the call as it read before. (The row lists tables and sentinels of the library; the card ties them to the program's text.)
-/
import Derived.Test.YtchkcjaahjhbcabGreatDoorMath
import Derived.Test.YtchkcjaahjhbcabGreatDoorRFrame
namespace Go.Proofs.YtchkcjaahjhbcabGreatDoor
open Go.ChangeShapes Go.WideShapes Go.ChangeAt Go.RowKit
open Go.ChangeMaps (open_string shut_string)
set_option linter.unusedVariables false
set_option linter.unusedSimpArgs false

set_option maxRecDepth 100000 in
theorem resolveWrittenArgs {H : Type} {enc : TypeId × Value → H} {W : World} {base : Nat} {args : Array Value} {ds gs : List (DataW H)} {p : List MemPlace}
    (hval : ∀ (j : Nat) t v, Tryz.f3.params[j]? = some t → args[j]? = some v → Value.okWide Tryz.prog W .any base t v)
    (hA : DataW.TrodAll enc Tryz.prog W 0 (fun _ => true) true Tryz.f3.params.toList args.toList ds p) (hT : T.Tz W) (hsz : (DataW.weightsEach Tryz.prog Tryz.f3.params.toList ds).all (· ≤ reachBytes) = true) :
    Calls Tryz.prog 3 args W fun e W' => e = .returned (.bool true) ∧ Below W.heap.size W W' := by
  rw [Tryz.params3] at hA hval hsz
  obtain ⟨v0, vs0, d0, ds0, p0, q0, hargs, rfl, rfl, h0, r0⟩ := trodAll_cons hA
  obtain ⟨rfl, rfl, rfl⟩ := trodAll_nil r0
  have hw : ∀ n ∈ DataW.weightsEach Tryz.prog [22] [d0], n ≤ reachBytes := fun n hn => by
    have := List.all_eq_true.1 hsz n hn
    simpa using this
  obtain rfl : args = #[v0] := by cases args; simp_all
  obtain ⟨z0, R0⟩ := parts_rd (hval 0 22 v0 rfl rfl) h0 fun n hn => hw n (DataW.weights_mem_each (j := 0) rfl rfl n hn)
  clear hw hsz
  exact resolveWritten_any W v0 z0 R0 hT

set_option maxRecDepth 100000 in
theorem resolveWrittenContract (H : Type) (enc : TypeId × Value → H) (F : Stop.Interp) (W : World) (base : Nat) (args : Array Value) (ds gs : List (DataW H)) (before : List MemPlace)
    (hval : ∀ (j : Nat) t v, Tryz.f3.params[j]? = some t → args[j]? = some v → Value.okWide Tryz.prog W .any base t v)
    (hW : DataW.Whole enc Tryz.prog Tryz.f3.params.toList (OpenSpec.ofChange Rows.resolveWrittenSpec).vars false W args.toList ds gs before) (hL : laidMetH Tryz.prog Rows.resolveWrittenRow.laid W) (hsz0 : (DataW.weightsEach Tryz.prog (Tryz.f3.params.toList ++ (OpenSpec.ofChange Rows.resolveWrittenSpec).bare.plain.varTypes Tryz.prog) (ds ++ gs)).all (· ≤ reachBytes) = true) :
    Calls Tryz.prog 3 args W fun e W' => ∃ v, e = .returned v ∧ ((OpenSpec.ofChange Rows.resolveWrittenSpec).at F).post enc Tryz.prog Tryz.f3 false true false false W args v W' := by
  have hT : T.Tz W := (tab_of hL).cell gTab 15 (by decide)
  have hW' := hW
  obtain ⟨p, q, hA0, hV, rfl, hfz, hnd⟩ := hW
  have hA : DataW.TrodAll enc Tryz.prog W 0 (fun _ => true) true Tryz.f3.params.toList args.toList ds p := hA0
  obtain ⟨rfl, rfl⟩ := trodVars_none hV
  have hsz : (DataW.weightsEach Tryz.prog Tryz.f3.params.toList ds).all (· ≤ reachBytes) = true := by
    have h := hsz0
    rw [List.append_nil] at h
    have e : (OpenSpec.ofChange Rows.resolveWrittenSpec).bare.plain.varTypes Tryz.prog = [] := by kernel_rfl
    rw [e, List.append_nil] at h
    exact h
  refine (resolveWrittenArgs (gs := []) hval hA hT hsz).mono fun e W' ⟨he, bel⟩ => ?_
  subst he
  have hA' := trodAll_below Tryz.laidOut bel _ _ _ _ (by kernel_rfl) hA
  obtain ⟨x0, rfl⟩ : ∃ x0, ds = [x0] := by
    rw [Tryz.params3] at hA
    obtain ⟨v0, vs0, d0, ds0, p0, q0, hargs, rfl, rfl, h0, r0⟩ := trodAll_cons hA
    obtain ⟨rfl, rfl, rfl⟩ := trodAll_nil r0
    exact ⟨_, rfl⟩
  exact ⟨_, rfl, _, _, _, [], p, [], hW', trodAll_mk1 (shut_bool Tryz.underlying4 _), hA', rfl, bel.frame _, fun h => by cases h⟩

/-- a world that holds the tables and the sentinels -/
noncomputable def resolveWrittenLow : Nat := (World.holding Tryz.prog default ⟨#[], #[], []⟩).heap.size
noncomputable def resolveWrittenWorld (os : Os) : World :=
  let w0 := World.holding Tryz.prog os ⟨#[.cells #[.string ⟨#[105, 110, 118, 97, 108, 105, 100, 32, 115, 121, 110, 116, 97, 120]⟩] 198, .cells #[.string ⟨#[118, 97, 108, 117, 101, 32, 111, 117, 116, 32, 111, 102, 32, 114, 97, 110, 103, 101]⟩] 198], #[], []⟩
  { w0 with heap := ((((w0.heap.modify 0 (relay pow10Cells)).modify 2 (relay tab32Cells)).modify 3 (relay tab64Cells)).modify 4 (relay #[.iface 196 (.pointer (some ⟨resolveWrittenLow, 0, none⟩))])).modify 5 (relay #[.iface 196 (.pointer (some ⟨resolveWrittenLow + 1, 0, none⟩))]) }
theorem resolveWrittenMet (os : Os) : laidMet Tryz.prog Rows.resolveWrittenRow.laid ((resolveWrittenWorld os).forCall (fun _ _ => 0) ⟨#[], #[.slice none 0 0], []⟩).memory :=
  laidMet_of_run' 8 (by kernel_rfl) (by kernel_rfl)
theorem resolveWrittenReads (os : Os) {H : Type} (enc : TypeId × Value → H) : ∃ places, DataW.whole enc Tryz.prog ((resolveWrittenWorld os).forCall (fun _ _ => 0) ⟨#[], #[.slice none 0 0], []⟩).memory Tryz.f3.params.toList (OpenSpec.ofChange Rows.resolveWrittenSpec).vars false (#[.slice none 0 0] : Array Value).toList 8 = some ([.nil], [], places) :=
  ⟨[], by kernel_rfl⟩

set_option maxRecDepth 100000 in
theorem resolveWrittenLifted (os : Os) (started : os.Started) (H : Type) (enc : TypeId × Value → H) (F : Stop.Interp) :
    ReturnsInHanded {} Tryz.checked os 3 .any ((OpenSpec.ofChange Rows.resolveWrittenSpec).preRow enc Tryz.prog Tryz.f3 Rows.resolveWrittenRow.domain false Rows.resolveWrittenRow.laid) (((OpenSpec.ofChange Rows.resolveWrittenSpec).at F).post enc Tryz.prog Tryz.f3 false true false false) := by
  obtain ⟨places, hx⟩ := resolveWrittenReads os enc
  refine returnsInHanded_of_row (C := Tryz.checked) (s := (OpenSpec.ofChange Rows.resolveWrittenSpec)) Tryz.own started (by kernel_rfl) Tryz.func3
    (witness_row_at (enc := enc) (C := Tryz.checked) false (resolveWrittenWorld os) #[.slice none 0 0] rfl (by kernel_rfl) (by kernel_rfl) (by kernel_rfl)
      (OpenSpec.preRow_of_cond 8 hx (by kernel_rfl) (fun k hk => by cases hk) (by kernel_rfl) (resolveWrittenMet os))) ?_
  intro W base args ds gs before hval hW _ hk hz hL _ _
  exact resolveWrittenContract H enc F W base args ds gs before hval hW hL hz

theorem resolveWrittenSaid : Rows.ResolveWrittenSaid :=
  OpenClaim.holds_of_cond 3 Tryz.f3 rfl rfl rfl rfl rfl rfl rfl ⟨rfl, rfl, rfl, rfl, rfl⟩ rfl rfl rfl rfl rfl (by kernel_rfl) Tryz.func3 (by kernel_rfl)
    (of_decide_eq_true (by kernel_rfl)) (by unfold Func.isWrapper; first | (rw [if_pos (by decide +kernel)]; kernel_rfl) | (rw [if_neg (by decide +kernel)]; exact ⟨rfl, rfl⟩))
    (fun os started H enc _ F => by rw [OpenClaim.pre_eq_preRow]; exact resolveWrittenLifted os started H enc F)

theorem resolveWrittenPlain (f : FuncId) (fn : Func) (hf : Tryz.pinned.checked.prog.funcNamed "scriptshift/scriptlaw6.ResolveWritten" = some f) (hfn : Tryz.pinned.checked.prog.funcs[f]? = some fn) :
    true = Tryz.pinned.checked.prog.looks [] ∧ ∀ (j : Nat) t, fn.params[j]? = some t → Tryz.pinned.checked.prog.wantsStandIn t = false := by
  obtain rfl : f = 3 := Option.some.inj ((show Tryz.prog.funcNamed "scriptshift/scriptlaw6.ResolveWritten" = some 3 by kernel_rfl).symm.trans hf) |>.symm
  obtain rfl : fn = Tryz.f3 := (Option.some.inj (Tryz.func3.symm.trans hfn)).symm
  refine ⟨by kernel_rfl, fun j t ht => ?_⟩
  rw [Tryz.params3] at ht
  have hm := Array.mem_of_getElem? ht
  have hm2 : t = 22 := by simpa using hm
  subst hm2
  exact (show Tryz.prog.wantsStandIn 22 = false by kernel_rfl)

theorem resolveWritten_card : Rows.ResolveWrittenCardSaid :=
  Claim7.holds_tied_plain_at .later [] _ _ _ _ resolveWrittenSaid (fun _ h => by cases h) (by kernel_rfl) (fun _ h => by cases h) resolveWritten_row_tie rfl ⟨rfl, rfl⟩ (by kernel_rfl) rfl resolveWrittenPlain (by kernel_rfl)

#print axioms resolveWritten_card
end Go.Proofs.YtchkcjaahjhbcabGreatDoor
