/-
  Whatever comes in: scriptlaw14.PairTells returns true, and each argument reads behind the call as it read before.
-/
import Derived.Test.YtkkocnkfdepoiaaYFrame
import Derived.Test.YtkkocnkfdepoiaaQMath
import Derived.Test.YtkkocnkfdepoiaaLawPrTells
namespace Go.Proofs.Ytkkocnkfdepoiaa
open Go.ChangeShapes Go.WideShapes Go.ChangeAt Go.RowKit
set_option linter.unusedVariables false
set_option linter.unusedSimpArgs false

set_option maxRecDepth 100000 in
theorem pairTellsArgs {H : Type} {enc : TypeId × Value → H} {W : World} {base : Nat} {args : Array Value} {ds : List (DataW H)} {p : List MemPlace}
    (hval : ∀ (j : Nat) t v, Try.f3.params[j]? = some t → args[j]? = some v → Value.okWide Try.prog W .any base t v)
    (hA : DataW.TrodAll enc Try.prog W 0 (fun _ => true) true Try.f3.params.toList args.toList ds p)
    (hsz : (DataW.weightsEach Try.prog Try.f3.params.toList ds).all (· ≤ reachBytes) = true) :
    Calls Try.prog 3 args W fun e W' => e = .returned (.bool true) ∧ Below W.heap.size W W' := by
  rw [Try.params3] at hA hval hsz
  obtain ⟨v0, vs0, d0, ds0, p0, q0, hargs, rfl, rfl, h0, r0⟩ := trodAll_cons hA
  obtain ⟨v1, vs1, d1, ds1, p1, q1, rfl, rfl, rfl, h1, r1⟩ := trodAll_cons r0
  obtain ⟨v2, vs2, d2, ds2, p2, q2, rfl, rfl, rfl, h2, r2⟩ := trodAll_cons r1
  obtain ⟨rfl, rfl, rfl⟩ := trodAll_nil r2
  obtain rfl : args = #[v0, v1, v2] := by cases args; simp_all
  have hw : ∀ n ∈ DataW.weightsEach Try.prog [22, 22, 23] [d0, d1, d2], n ≤ reachBytes := fun n hn => by
    have := List.all_eq_true.1 hsz n hn
    simpa using this
  have C0 := rules_cap (hval 0 22 v0 rfl rfl) h0
  obtain ⟨l0, R0⟩ := rules_rd (hval 0 22 v0 rfl rfl) h0 fun n hn => hw n (DataW.weights_mem_each (j := 0) rfl rfl n hn)
  have C1 := rules_cap (hval 1 22 v1 rfl rfl) h1
  obtain ⟨l1, R1⟩ := rules_rd (hval 1 22 v1 rfl rfl) h1 fun n hn => hw n (DataW.weights_mem_each (j := 1) rfl rfl n hn)
  obtain ⟨z2, R2, F2, L2, C2⟩ := spans_rd2 (hval 2 23 v2 rfl rfl) h2 fun n hn => hw n (DataW.weights_mem_each (j := 2) rfl rfl n hn)
  clear hw hsz
  exact pairTells_any W _ _ l0 l1 R0 R1 _ z2 R2 F2

set_option maxRecDepth 100000 in
theorem pairTellsLifted (os : Os) (started : os.Started) (H : Type) (enc : TypeId × Value → H) :
    ReturnsInHanded {} Try.checked os 3 .any (Rows.pairTellsSpec.pre6 enc Try.prog Try.f3 Rows.pairTellsRow.domain false) (Rows.pairTellsSpec.post enc Try.prog Try.f3 false true false false) := by
  refine returnsInHanded_of_change_sized (C := Try.checked) Try.own started (by kernel_rfl) Try.func3
    (ChangeSpec.witness6 (enc := enc) (C := Try.checked) (s := Rows.pairTellsSpec) false ⟨#[], #[.slice none 0 0, .slice none 0 0, .slice none 0 0], []⟩ 8 (by kernel_rfl) (by kernel_rfl) (by kernel_rfl) (by kernel_rfl)) ?_
  intro W base args ds gs before hval hW _ hsz0 _
  have hW' := hW
  obtain ⟨p, q, hA0, hV, rfl, hfz, hnd⟩ := hW
  have hA : DataW.TrodAll enc Try.prog W 0 (fun _ => true) true Try.f3.params.toList args.toList ds p := hA0
  obtain ⟨rfl, rfl⟩ := trodVars_none hV
  have hsz : (DataW.weightsEach Try.prog Try.f3.params.toList ds).all (· ≤ reachBytes) = true := by
    have h := hsz0
    rw [List.append_nil] at h
    have e : Rows.pairTellsSpec.plain.varTypes Try.prog = [] := by kernel_rfl
    have h2 : (DataW.weightsEach Try.prog (Try.f3.params.toList ++ Rows.pairTellsSpec.plain.varTypes Try.prog) ds).all (· ≤ reachBytes) = true := h
    rw [e, List.append_nil] at h2
    exact h2
  refine (pairTellsArgs hval hA hsz).mono fun e W' ⟨he, bel⟩ => ?_
  subst he
  have hA' := trodAll_below Try.laidOut bel _ _ _ _ (by kernel_rfl) hA
  obtain ⟨x0, x1, x2, rfl⟩ : ∃ x0 x1 x2, ds = [x0, x1, x2] := by
    rw [Try.params3] at hA
    obtain ⟨v0, vs0, d0, ds0, p0, q0, hargs, rfl, rfl, h0, r0⟩ := trodAll_cons hA
    obtain ⟨v1, vs1, d1, ds1, p1, q1, rfl, rfl, rfl, h1, r1⟩ := trodAll_cons r0
    obtain ⟨v2, vs2, d2, ds2, p2, q2, rfl, rfl, rfl, h2, r2⟩ := trodAll_cons r1
    obtain ⟨rfl, rfl, rfl⟩ := trodAll_nil r2
    exact ⟨_, _, _, rfl⟩
  exact ⟨_, rfl, _, _, _, [], p, [], hW', trodAll_mk1 (shut_bool Try.underlying4 _), hA', rfl, bel.frame _, fun h => by cases h⟩

theorem pairTells_holds : Rows.PairTellsSaid :=
  OpenClaim.holds_of_wide 3 Try.f3 rfl rfl rfl rfl rfl rfl rfl ⟨rfl, rfl, rfl, rfl, rfl⟩ rfl rfl rfl rfl rfl (by kernel_rfl) Try.func3 (by kernel_rfl)
    (of_decide_eq_true (by kernel_rfl)) (by unfold Func.isWrapper; first | (rw [if_pos (by decide +kernel)]; kernel_rfl) | (rw [if_neg (by decide +kernel)]; exact ⟨rfl, rfl⟩))
    (fun os started H enc _ => pairTellsLifted os started H enc)

#print axioms pairTells_holds
end Go.Proofs.Ytkkocnkfdepoiaa
