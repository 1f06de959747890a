/-
  Whatever comes in, where it is of bulk at most 1048576: scriptlaw14.PairApart returns true, and each argument reads behind the call as it read before.
-/
import Derived.Deep.CondSized
import Derived.Test.YtkkocnkfdepoiaaFrame
import Derived.Test.YtkkocnkfdepoiaaYFrame
import Derived.Test.YtkkocnkfdepoiaaYIdx
import Derived.Test.YtkkocnkfdepoiaaLawPrApart
namespace Go.Proofs.Ytkkocnkfdepoiaa
open Go.ChangeShapes Go.WideShapes Go.ChangeAt Go.RowKit
set_option linter.unusedVariables false
set_option linter.unusedSimpArgs false

set_option maxRecDepth 100000 in
theorem pairApartArgs {H : Type} {enc : TypeId × Value → H} {W : World} {base : Nat} {args : Array Value} {ds : List (DataW H)} {p : List MemPlace}
    (hval : ∀ (j : Nat) t v, Try.f5.params[j]? = some t → args[j]? = some v → Value.okWide Try.prog W .any base t v)
    (hA : DataW.TrodAll enc Try.prog W 0 (fun _ => true) true Try.f5.params.toList args.toList ds p)
    (hk : Rows.uptoSmall H (ds ++ []) = true) (hsz : (DataW.weightsEach Try.prog Try.f5.params.toList ds).all (· ≤ reachBytes) = true) :
    Calls Try.prog 5 args W fun e W' => e = .returned (.bool true) ∧ Below W.heap.size W W' := by
  rw [Try.params5] at hA hval hsz
  obtain ⟨v0, vs0, d0, ds0, p0, q0, hargs, rfl, rfl, h0, r0⟩ := trodAll_cons hA
  obtain ⟨v1, vs1, d1, ds1, p1, q1, rfl, rfl, rfl, h1, r1⟩ := trodAll_cons r0
  obtain ⟨v2, vs2, d2, ds2, p2, q2, rfl, rfl, rfl, h2, r2⟩ := trodAll_cons r1
  obtain ⟨v3, vs3, d3, ds3, p3, q3, rfl, rfl, rfl, h3, r3⟩ := trodAll_cons r2
  obtain ⟨v4, vs4, d4, ds4, p4, q4, rfl, rfl, rfl, h4, r4⟩ := trodAll_cons r3
  obtain ⟨rfl, rfl, rfl⟩ := trodAll_nil r4
  obtain rfl : args = #[v0, v1, v2, v3, v4] := by cases args; simp_all
  have hw : ∀ n ∈ DataW.weightsEach Try.prog [22, 22, 23, 28, 28] [d0, d1, d2, d3, d4], n ≤ reachBytes := fun n hn => by
    have := List.all_eq_true.1 hsz n hn
    simpa using this
  have C0 := rules_cap (hval 0 22 v0 rfl rfl) h0
  obtain ⟨l0, R0⟩ := rules_rd (hval 0 22 v0 rfl rfl) h0 fun n hn => hw n (DataW.weights_mem_each (j := 0) rfl rfl n hn)
  have C1 := rules_cap (hval 1 22 v1 rfl rfl) h1
  obtain ⟨l1, R1⟩ := rules_rd (hval 1 22 v1 rfl rfl) h1 fun n hn => hw n (DataW.weights_mem_each (j := 1) rfl rfl n hn)
  obtain ⟨z2, R2, F2, L2, C2⟩ := spans_rd2 (hval 2 23 v2 rfl rfl) h2 fun n hn => hw n (DataW.weights_mem_each (j := 2) rfl rfl n hn)
  obtain ⟨z3, R3, wf3, B3⟩ := ints_rd (k := .i32) Try.underlying28 Try.underlying21 (by kernel_rfl) (hval 3 28 v3 rfl rfl) h3
  obtain ⟨z4, R4, wf4, B4⟩ := ints_rd (k := .i32) Try.underlying28 Try.underlying21 (by kernel_rfl) (hval 4 28 v4 rfl rfl) h4
  clear hw hsz
  have hb := bulk_bd hk
  simp only [bulk_app, Rows.uptoBulkAll] at hb
  exact pairApart_any W _ _ l0 l1 R0 R1 _ z2 R2 F2 _ z3 R3 (by omega) _ z4 R4 (by omega)

set_option maxRecDepth 100000 in
theorem pairApartLifted (os : Os) (started : os.Started) (H : Type) (enc : TypeId × Value → H) (F : Stop.Interp) :
    ReturnsInHanded {} Try.checked os 5 .any ((Rows.OpenSpec.upto Rows.pairApartSpec).pre6 enc Try.prog Try.f5 Rows.pairApartUptoRow.domain false) (((Rows.OpenSpec.upto Rows.pairApartSpec).at F).post enc Try.prog Try.f5 false true false false) := by
  refine returnsInHanded_of_cond_sized (C := Try.checked) (s := Rows.OpenSpec.upto Rows.pairApartSpec) (k := Rows.uptoSmall) rfl Try.own started (by kernel_rfl) Try.func5
    (OpenSpec.witness (enc := enc) (C := Try.checked) (s := Rows.OpenSpec.upto Rows.pairApartSpec) (k := Rows.uptoSmall) rfl false ⟨#[], #[.slice none 0 0, .slice none 0 0, .slice none 0 0, .slice none 0 0, .slice none 0 0], []⟩ 8 (by kernel_rfl) (by kernel_rfl) (by kernel_rfl)
      (x := ([.nil, .nil, .nil, .nil, .nil], [], [])) (by kernel_rfl) rfl (by kernel_rfl)) ?_
  intro W base args ds gs before hval hW _ hk hsz0 _
  have hW' := hW
  obtain ⟨p, q, hA0, hV, rfl, hfz, hnd⟩ := hW
  have hA : DataW.TrodAll enc Try.prog W 0 (fun _ => true) true Try.f5.params.toList args.toList ds p := hA0
  obtain ⟨rfl, rfl⟩ := trodVars_none hV
  have hsz : (DataW.weightsEach Try.prog Try.f5.params.toList ds).all (· ≤ reachBytes) = true := by
    have h := hsz0
    rw [List.append_nil] at h
    have e : (Rows.OpenSpec.upto Rows.pairApartSpec).bare.plain.varTypes Try.prog = [] := by kernel_rfl
    have h2 : (DataW.weightsEach Try.prog (Try.f5.params.toList ++ (Rows.OpenSpec.upto Rows.pairApartSpec).bare.plain.varTypes Try.prog) ds).all (· ≤ reachBytes) = true := h
    rw [e, List.append_nil] at h2
    exact h2
  refine (pairApartArgs hval hA hk hsz).mono fun e W' ⟨he, bel⟩ => ?_
  subst he
  have hA' := trodAll_below Try.laidOut bel _ _ _ _ (by kernel_rfl) hA
  obtain ⟨x0, x1, x2, x3, x4, rfl⟩ : ∃ x0 x1 x2 x3 x4, ds = [x0, x1, x2, x3, x4] := by
    rw [Try.params5] at hA
    obtain ⟨v0, vs0, d0, ds0, p0, q0, hargs, rfl, rfl, h0, r0⟩ := trodAll_cons hA
    obtain ⟨v1, vs1, d1, ds1, p1, q1, rfl, rfl, rfl, h1, r1⟩ := trodAll_cons r0
    obtain ⟨v2, vs2, d2, ds2, p2, q2, rfl, rfl, rfl, h2, r2⟩ := trodAll_cons r1
    obtain ⟨v3, vs3, d3, ds3, p3, q3, rfl, rfl, rfl, h3, r3⟩ := trodAll_cons r2
    obtain ⟨v4, vs4, d4, ds4, p4, q4, rfl, rfl, rfl, h4, r4⟩ := trodAll_cons r3
    obtain ⟨rfl, rfl, rfl⟩ := trodAll_nil r4
    exact ⟨_, _, _, _, _, rfl⟩
  exact ⟨_, rfl, _, _, _, [], p, [], hW', trodAll_mk1 (shut_bool Try.underlying4 _), hA', rfl, bel.frame _, fun h => by cases h⟩

theorem pairApart_proved : Rows.PairApartUptoSaid :=
  OpenClaim.holds_of_cond 5 Try.f5 rfl rfl rfl rfl rfl rfl rfl ⟨rfl, rfl, rfl, rfl, rfl⟩ rfl rfl rfl rfl rfl (by kernel_rfl) Try.func5 (by kernel_rfl)
    (of_decide_eq_true (by kernel_rfl)) (by unfold Func.isWrapper; first | (rw [if_pos (by decide +kernel)]; kernel_rfl) | (rw [if_neg (by decide +kernel)]; exact ⟨rfl, rfl⟩))
    (fun os started H enc _ F => pairApartLifted os started H enc F)

#print axioms pairApart_proved
end Go.Proofs.Ytkkocnkfdepoiaa
