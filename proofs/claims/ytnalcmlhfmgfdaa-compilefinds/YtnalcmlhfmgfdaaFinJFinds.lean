/-
  Whatever comes in: scriptlaw10.CompileFinds returns true, and each argument reads behind the call as it read before.
-/
import Derived.Test.YtnalcmlhfmgfdaaYFrame
import Derived.Test.YtnalcmlhfmgfdaaLawJFinds
namespace Go.Proofs.Ytnalcmlhfmgfdaa
open Go.ChangeShapes Go.WideShapes Go.ChangeAt Go.RowKit
set_option linter.unusedVariables false
set_option linter.unusedSimpArgs false

set_option maxRecDepth 100000 in
theorem compileFindsArgs {H : Type} {enc : TypeId × Value → H} {W : World} {base : Nat} {args : Array Value} {ds : List (DataW H)} {p : List MemPlace}
    (hval : ∀ (j : Nat) t v, Try.f5.params[j]? = some t → args[j]? = some v → Value.okWide Try.prog W .any base t v)
    (hA : DataW.TrodAll enc Try.prog W 0 (fun _ => true) true Try.f5.params.toList args.toList ds p)
    (hsz : (DataW.weightsEach Try.prog Try.f5.params.toList ds).all (· ≤ reachBytes) = true) :
    Calls Try.prog 5 args W fun e W' => e = .returned (.bool true) ∧ Below W.heap.size W W' := by
  rw [Try.params5] at hA hval hsz
  obtain ⟨v0, vs0, d0, ds0, p0, q0, hargs, rfl, rfl, h0, r0⟩ := trodAll_cons hA
  obtain ⟨v1, vs1, d1, ds1, p1, q1, rfl, rfl, rfl, h1, r1⟩ := trodAll_cons r0
  obtain ⟨rfl, rfl, rfl⟩ := trodAll_nil r1
  obtain rfl : args = #[v0, v1] := by cases args; simp_all
  have hw : ∀ n ∈ DataW.weightsEach Try.prog [22, 21] [d0, d1], n ≤ reachBytes := fun n hn => by
    have := List.all_eq_true.1 hsz n hn
    simpa using this
  have C0 := rules_cap (hval 0 22 v0 rfl rfl) h0
  obtain ⟨l0, R0⟩ := rules_rd (hval 0 22 v0 rfl rfl) h0 fun n hn => hw n (DataW.weights_mem_each (j := 0) rfl rfl n hn)
  clear hw hsz
  obtain ⟨a1, rfl, rfl, rfl, w1⟩ := open_int Try.underlying21 (hval 1 21 v1 rfl rfl) h1
  have I1 := w1
  exact compileFinds_any W _ l0 R0 a1

set_option maxRecDepth 100000 in
theorem compileFindsLifted (os : Os) (started : os.Started) (H : Type) (enc : TypeId × Value → H) :
    ReturnsInHanded {} Try.checked os 5 .any (Rows.compileFindsSpec.pre6 enc Try.prog Try.f5 Rows.compileFindsRow.domain false) (Rows.compileFindsSpec.post enc Try.prog Try.f5 false true false false) := by
  refine returnsInHanded_of_change_sized (C := Try.checked) Try.own started (by kernel_rfl) Try.func5
    (ChangeSpec.witness6 (enc := enc) (C := Try.checked) (s := Rows.compileFindsSpec) false ⟨#[], #[.slice none 0 0, .int .i32 0], []⟩ 8 (by kernel_rfl) (by kernel_rfl) (by kernel_rfl) (by kernel_rfl)) ?_
  intro W base args ds gs before hval hW _ hsz0 _
  have hW' := hW
  obtain ⟨p, q, hA0, hV, rfl, hfz, hnd⟩ := hW
  have hA : DataW.TrodAll enc Try.prog W 0 (fun _ => true) true Try.f5.params.toList args.toList ds p := hA0
  obtain ⟨rfl, rfl⟩ := trodVars_none hV
  have hsz : (DataW.weightsEach Try.prog Try.f5.params.toList ds).all (· ≤ reachBytes) = true := by
    have h := hsz0
    rw [List.append_nil] at h
    have e : Rows.compileFindsSpec.plain.varTypes Try.prog = [] := by kernel_rfl
    have h2 : (DataW.weightsEach Try.prog (Try.f5.params.toList ++ Rows.compileFindsSpec.plain.varTypes Try.prog) ds).all (· ≤ reachBytes) = true := h
    rw [e, List.append_nil] at h2
    exact h2
  refine (compileFindsArgs hval hA hsz).mono fun e W' ⟨he, bel⟩ => ?_
  subst he
  have hA' := trodAll_below Try.laidOut bel _ _ _ _ (by kernel_rfl) hA
  obtain ⟨x0, x1, rfl⟩ : ∃ x0 x1, ds = [x0, x1] := by
    rw [Try.params5] at hA
    obtain ⟨v0, vs0, d0, ds0, p0, q0, hargs, rfl, rfl, h0, r0⟩ := trodAll_cons hA
    obtain ⟨v1, vs1, d1, ds1, p1, q1, rfl, rfl, rfl, h1, r1⟩ := trodAll_cons r0
    obtain ⟨rfl, rfl, rfl⟩ := trodAll_nil r1
    exact ⟨_, _, rfl⟩
  exact ⟨_, rfl, _, _, _, [], p, [], hW', trodAll_mk1 (shut_bool Try.underlying4 _), hA', rfl, bel.frame _, fun h => by cases h⟩

theorem compileFinds_holds : Rows.CompileFindsSaid :=
  OpenClaim.holds_of_wide 5 Try.f5 rfl rfl rfl rfl rfl rfl rfl ⟨rfl, rfl, rfl, rfl, rfl⟩ rfl rfl rfl rfl rfl (by kernel_rfl) Try.func5 (by kernel_rfl)
    (of_decide_eq_true (by kernel_rfl)) (by unfold Func.isWrapper; first | (rw [if_pos (by decide +kernel)]; kernel_rfl) | (rw [if_neg (by decide +kernel)]; exact ⟨rfl, rfl⟩))
    (fun os started H enc _ => compileFindsLifted os started H enc)

#print axioms compileFinds_holds
end Go.Proofs.Ytnalcmlhfmgfdaa
