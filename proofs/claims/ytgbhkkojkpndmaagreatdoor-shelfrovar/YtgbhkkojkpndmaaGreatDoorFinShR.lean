/-
  Whatever comes in: scriptlaw16.ShelfRovar returns true, and each argument reads behind the call as it read before. (The row lists tables and sentinels of the library; the card ties them to the program's text.)
-/
import Derived.Test.YtgbhkkojkpndmaaGreatDoorShVow
import Derived.Test.YtgbhkkojkpndmaaGreatDoorShScrG
import Derived.Test.YtgbhkkojkpndmaaGreatDoorShText2
import Derived.Test.YtgbhkkojkpndmaaGreatDoorTClass4
namespace Go.Proofs.YtgbhkkojkpndmaaGreatDoor
open Go.RowKit Go.Lib
set_option maxRecDepth 20000
set_option linter.unusedSimpArgs false
set_option linter.unusedVariables false

set_option maxHeartbeats 8000000 in
theorem shelfRovar_any (hK : T.ClassOk) (w : World) (s : ByteArray) : Calls Tryz.prog 7 #[.string s] w fun e w' => e = .returned (.bool true) ∧ Below w.heap.size w w' := by
  have HS : Hid (∀ X, Calls Tryz.prog 9 #[.string s] X fun e w' => e = .returned (.bool (decide (s.size ≤ 1000))) ∧ w' = X) := fun X => zcd s X
  by_cases hs : s.size ≤ 1000
  · rw [decide_eq_true hs] at HS
    obtain ⟨pl, hpl⟩ := Cn.zgu
    have htl : (M.rn s).length ≤ 1000 := Nat.le_trans (M.zb3 s) hs
    have hR := zcq s
    have hF : ∀ r, M.right r = true → ∀ z ∈ (Sh.by1 Sh.rvL) r, M.right z = true := fun r hr => Sh.by_right (by decide) hr
    have h4 : ∀ r, ((Sh.by1 Sh.rvL) r).length ≤ 4 := Sh.by_len (by decide)
    have hRb := Sh.by_right1 hF hR
    have HBy : Hid (∀ X, Calls Tryz.prog 11 #[.string s, .func (.func 18) #[] #[]] X fun e w' => e = .returned (.string (runesBytes ((M.rn s).flatMap (Sh.by1 Sh.rvL)))) ∧ Below X.heap.size X w') := fun X =>
      shBy_any s hs X 18 #[] (Sh.by1 Sh.rvL) h4 hF (enters_of Tryz.func18 (by kernel_rfl) rfl) (fun W r _ hr => shRov1_any r hr W)
    have HT1 : Hid (∀ X, Calls Tryz.prog 10 #[.string { data := #[114, 111, 118, 97, 114] }, .string s, .string (runesBytes ((M.rn s).flatMap (Sh.by1 Sh.rvL)))] X fun e w' => e = .returned (.bool true) ∧ Below X.heap.size X w') := fun X =>
      zbj hK Sh.nRovar _ Sh.scr_r s (by omega) pl hpl _ (Sh.go_r hpl htl hR) hRb _ rfl X
    clear htl hR hF h4 hRb hpl hs
    generalize runesBytes ((M.rn s).flatMap (Sh.by1 Sh.rvL)) = want at *
    go_enter Tryz.func7, Tryz.ntmps7
    go_wp2_with fail
    refine (HS.out _).mono ?_
    rintro e w0 ⟨rfl, rfl⟩
    clear HS
    go_wp2_with fail
    refine (HBy.out _).mono ?_
    clear HBy
    rintro e w1 ⟨rfl, b1⟩
    have HB1 : Hid (Below w0.heap.size w0 w1) := b1
    clear b1
    go_wp2_with fail
    refine (HT1.out _).mono ?_
    clear HT1
    rintro e w2 ⟨rfl, b2⟩
    have HB2 : Hid (Below w0.heap.size w0 w2) := HB1.out.trans (b2.mono HB1.out.size)
    clear b2
    go_wp2
    go_ret
    exact ⟨rfl, HB2.out⟩
  · rw [decide_eq_false hs] at HS
    clear hs
    go_enter Tryz.func7, Tryz.ntmps7
    go_wp2_with fail
    refine (HS.out _).mono ?_
    rintro e w0 ⟨rfl, rfl⟩
    clear HS
    go_wp2
    go_ret
    exact ⟨rfl, Below.refl _ _⟩

end Go.Proofs.YtgbhkkojkpndmaaGreatDoor
namespace Go.Proofs.YtgbhkkojkpndmaaGreatDoor
open Go.ChangeShapes Go.WideShapes Go.ChangeAt Go.RowKit
open Go.ChangeMaps (open_string shut_string)
set_option linter.unusedVariables false
set_option linter.unusedSimpArgs false

set_option maxRecDepth 100000 in
theorem shelfRovarArgs {H : Type} {enc : TypeId × Value → H} {W : World} {base : Nat} {args : Array Value} {ds gs : List (DataW H)} {p : List MemPlace}
    (hval : ∀ (j : Nat) t v, Tryz.f7.params[j]? = some t → args[j]? = some v → Value.okWide Tryz.prog W .any base t v)
    (hA : DataW.TrodAll enc Tryz.prog W 0 (fun _ => true) true Tryz.f7.params.toList args.toList ds p)  :
    Calls Tryz.prog 7 args W fun e W' => e = .returned (.bool true) ∧ Below W.heap.size W W' := by
  rw [Tryz.params7] at hA hval
  obtain ⟨v0, vs0, d0, ds0, p0, q0, hargs, rfl, rfl, h0, r0⟩ := trodAll_cons hA
  obtain ⟨rfl, rfl, rfl⟩ := trodAll_nil r0
  obtain rfl : args = #[v0] := by cases args; simp_all
  obtain ⟨a0, rfl, rfl, rfl, w0⟩ := open_string Tryz.underlying9 (hval 0 9 v0 rfl rfl) h0
  exact shelfRovar_any zei W a0

set_option maxRecDepth 100000 in
theorem shelfRovarContract (H : Type) (enc : TypeId × Value → H) (F : Stop.Interp) (W : World) (base : Nat) (args : Array Value) (ds gs : List (DataW H)) (before : List MemPlace)
    (hval : ∀ (j : Nat) t v, Tryz.f7.params[j]? = some t → args[j]? = some v → Value.okWide Tryz.prog W .any base t v)
    (hW : DataW.Whole enc Tryz.prog Tryz.f7.params.toList (OpenSpec.ofChange Rows.shelfRovarSpec).vars false W args.toList ds gs before) (hL : laidMetH Tryz.prog Rows.shelfRovarRow.laid W) :
    Calls Tryz.prog 7 args W fun e W' => ∃ v, e = .returned v ∧ ((OpenSpec.ofChange Rows.shelfRovarSpec).at F).post enc Tryz.prog Tryz.f7 false true false false W args v W' := by
  have hW' := hW
  obtain ⟨p, q, hA0, hV, rfl, hfz, hnd⟩ := hW
  have hA : DataW.TrodAll enc Tryz.prog W 0 (fun _ => true) true Tryz.f7.params.toList args.toList ds p := hA0
  obtain ⟨rfl, rfl⟩ := trodVars_none hV
  refine (shelfRovarArgs hval hA (gs := [])).mono fun e W' ⟨he, bel⟩ => ?_
  subst he
  have hA' := zbb Tryz.laidOut bel _ _ _ _ (by kernel_rfl) hA
  obtain ⟨x0, rfl⟩ : ∃ x0, ds = [x0] := by
    rw [Tryz.params7] at hA
    obtain ⟨v0, vs0, d0, ds0, p0, q0, hargs, rfl, rfl, h0, r0⟩ := trodAll_cons hA
    obtain ⟨rfl, rfl, rfl⟩ := trodAll_nil r0
    exact ⟨_, rfl⟩
  exact ⟨_, rfl, _, _, _, [], p, [], hW', trodAll_mk1 (shut_bool Tryz.underlying4 _), hA', rfl, bel.frame _, fun h => by cases h⟩

/-- a world that holds the tables and the sentinels -/
noncomputable def shelfRovarLow : Nat := (World.holding Tryz.prog default ⟨#[], #[], []⟩).heap.size
noncomputable def shelfRovarWorld (os : Os) : World :=
  let w0 := World.holding Tryz.prog os ⟨#[.cells #[.string ⟨#[105, 110, 118, 97, 108, 105, 100, 32, 115, 121, 110, 116, 97, 120]⟩] 282, .cells #[.string ⟨#[118, 97, 108, 117, 101, 32, 111, 117, 116, 32, 111, 102, 32, 114, 97, 110, 103, 101]⟩] 282], #[], []⟩
  { w0 with heap := ((((w0.heap.modify 3 (relay pow10Cells)).modify 4 (relay tab32Cells)).modify 5 (relay tab64Cells)).modify 1 (relay #[.iface 280 (.pointer (some ⟨shelfRovarLow, 0, none⟩))])).modify 2 (relay #[.iface 280 (.pointer (some ⟨shelfRovarLow + 1, 0, none⟩))]) }
theorem shelfRovarMet (os : Os) : laidMet Tryz.prog Rows.shelfRovarRow.laid ((shelfRovarWorld os).forCall (fun _ _ => 0) ⟨#[], #[.string .empty], []⟩).memory :=
  laidMet_of_run' 8 (by kernel_rfl) (by kernel_rfl)
theorem shelfRovarReads (os : Os) {H : Type} (enc : TypeId × Value → H) : ∃ places, DataW.whole enc Tryz.prog ((shelfRovarWorld os).forCall (fun _ _ => 0) ⟨#[], #[.string .empty], []⟩).memory Tryz.f7.params.toList (OpenSpec.ofChange Rows.shelfRovarSpec).vars false (#[.string .empty] : Array Value).toList 8 = some ([.lit (.string [])], [], places) :=
  ⟨[], by kernel_rfl⟩

set_option maxRecDepth 100000 in
theorem shelfRovarLifted (os : Os) (started : os.Started) (H : Type) (enc : TypeId × Value → H) (F : Stop.Interp) :
    ReturnsInHanded {} Tryz.checked os 7 .any ((OpenSpec.ofChange Rows.shelfRovarSpec).preRow enc Tryz.prog Tryz.f7 Rows.shelfRovarRow.domain false Rows.shelfRovarRow.laid) (((OpenSpec.ofChange Rows.shelfRovarSpec).at F).post enc Tryz.prog Tryz.f7 false true false false) := by
  obtain ⟨places, hx⟩ := shelfRovarReads os enc
  refine returnsInHanded_of_row (C := Tryz.checked) (s := (OpenSpec.ofChange Rows.shelfRovarSpec)) Tryz.own started (by kernel_rfl) Tryz.func7
    (witness_row_at (enc := enc) (C := Tryz.checked) false (shelfRovarWorld os) #[.string .empty] rfl (by kernel_rfl) (by kernel_rfl) (by kernel_rfl)
      (OpenSpec.preRow_of_cond 8 hx (by kernel_rfl) (fun k hk => by cases hk) (by kernel_rfl) (shelfRovarMet os))) ?_
  intro W base args ds gs before hval hW _ hk _ hL _ _
  exact shelfRovarContract H enc F W base args ds gs before hval hW hL

theorem shelfRovarC0 : (Rows.shelfRovarRow.inPlace == Tryz.pinned.checked.prog.inPlace 7) = true := by kernel_rfl
theorem shelfRovarC1 : (Rows.shelfRovarRow.unfollowed == Tryz.pinned.checked.prog.unfollowed 7) = true := by kernel_rfl
theorem shelfRovarC2 : (Rows.shelfRovarRow.recurses == Tryz.pinned.checked.prog.recurses 7) = true := by kernel_rfl
theorem shelfRovarC3 : (Rows.shelfRovarRow.named == Tryz.pinned.checked.prog.varsNamed 7) = true := by kernel_rfl
theorem shelfRovarClosed : joinedFacts Tryz.pinned.checked.prog 7 Tryz.f7 (OpenSpec.ofChange Rows.shelfRovarSpec).bare Rows.shelfRovarRow = true := by
  unfold joinedFacts
  rw [shelfRovarC0, shelfRovarC1, shelfRovarC2, shelfRovarC3]
  kernel_rfl
theorem shelfRovarNamed : Tryz.pinned.checked.prog.funcNamed Rows.shelfRovarRow.func = some 7 := by kernel_rfl

theorem shelfRovarSaid : Rows.ShelfRovarSaid :=
  OpenClaim.holds_of_cond 7 Tryz.f7 rfl rfl rfl rfl rfl rfl rfl ⟨rfl, rfl, rfl, rfl, rfl⟩ rfl rfl rfl rfl rfl shelfRovarNamed Tryz.func7 shelfRovarClosed
    (of_decide_eq_true (by kernel_rfl)) (by unfold Func.isWrapper; first | (rw [if_pos (by decide +kernel)]; kernel_rfl) | (rw [if_neg (by decide +kernel)]; exact ⟨rfl, rfl⟩))
    (fun os started H enc _ F => by rw [OpenClaim.pre_eq_preRow]; exact shelfRovarLifted os started H enc F)

theorem shelfRovarPlain (f : FuncId) (fn : Func) (hf : Tryz.pinned.checked.prog.funcNamed "scriptshift/scriptlaw16.ShelfRovar" = some f) (hfn : Tryz.pinned.checked.prog.funcs[f]? = some fn) :
    true = Tryz.pinned.checked.prog.looks [] ∧ ∀ (j : Nat) t, fn.params[j]? = some t → Tryz.pinned.checked.prog.wantsStandIn t = false := by
  obtain rfl : f = 7 := Option.some.inj ((show Tryz.prog.funcNamed "scriptshift/scriptlaw16.ShelfRovar" = some 7 by kernel_rfl).symm.trans hf) |>.symm
  obtain rfl : fn = Tryz.f7 := (Option.some.inj (Tryz.func7.symm.trans hfn)).symm
  refine ⟨by kernel_rfl, fun j t ht => ?_⟩
  rw [Tryz.params7] at ht
  have hm := Array.mem_of_getElem? ht
  have hm2 : t = 9 := by simpa using hm
  subst hm2
  exact (show Tryz.prog.wantsStandIn 9 = false by kernel_rfl)

theorem shelfRovar_card : Rows.ShelfRovarCardSaid :=
  Claim7.holds_tied_plain_at .later [] _ _ _ _ shelfRovarSaid (fun _ h => by cases h) (by kernel_rfl) (fun _ h => by cases h) shelfRovar_row_tie rfl ⟨rfl, rfl⟩ (by kernel_rfl) rfl shelfRovarPlain (by kernel_rfl)

#print axioms shelfRovar_card
end Go.Proofs.YtgbhkkojkpndmaaGreatDoor
