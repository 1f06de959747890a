/-
  Whatever comes in: scriptlaw16.ShelfVowels returns true, and each argument reads behind the call as it read before. (The row lists tables and sentinels of the library; the card ties them to the program's text.)
-/
import Derived.Test.YtgbhkkojkpndmaaGreatDoorShVow
import Derived.Test.YtgbhkkojkpndmaaGreatDoorShScrV
import Derived.Test.YtgbhkkojkpndmaaGreatDoorShText2
import Derived.Test.YtgbhkkojkpndmaaGreatDoorTClass4
namespace Go.Proofs.YtgbhkkojkpndmaaGreatDoor
open Go.RowKit Go.Lib
set_option maxRecDepth 20000
set_option linter.unusedSimpArgs false
set_option linter.unusedVariables false

set_option maxHeartbeats 8000000 in
theorem shelfVowels_any (hK : T.ClassOk) (w : World) (s : ByteArray) : Calls Tryz.prog 8 #[.string s] w fun e w' => e = .returned (.bool true) ∧ Below w.heap.size w w' := by
  have HS : Hid (∀ X, Calls Tryz.prog 9 #[.string s] X fun e w' => e = .returned (.bool (decide (s.size ≤ 1000))) ∧ w' = X) := fun X => zcd s X
  by_cases hs : s.size ≤ 1000
  · rw [decide_eq_true hs] at HS
    obtain ⟨pl, hpl⟩ := Cn.zgu
    have htl : (M.rn s).length ≤ 1000 := Nat.le_trans (M.zb3 s) hs
    have hR := zcq s
    have hF : ∀ r, M.right r = true → ∀ z ∈ (Sh.by1 Sh.vwL) r, M.right z = true := fun r hr => Sh.by_right (by decide) hr
    have h4 : ∀ r, ((Sh.by1 Sh.vwL) r).length ≤ 4 := Sh.by_len (by decide)
    have hRb := Sh.by_right1 hF hR
    have HBy : Hid (∀ X, Calls Tryz.prog 11 #[.string s, .func (.func 19) #[] #[]] X fun e w' => e = .returned (.string (runesBytes ((M.rn s).flatMap (Sh.by1 Sh.vwL)))) ∧ Below X.heap.size X w') := fun X =>
      shBy_any s hs X 19 #[] (Sh.by1 Sh.vwL) h4 hF (enters_of Tryz.func19 (by kernel_rfl) rfl) (fun W r _ hr => shVow1_any r hr W)
    have HT1 : Hid (∀ X, Calls Tryz.prog 10 #[.string { data := #[118, 111, 119, 101, 108, 115] }, .string s, .string (runesBytes ((M.rn s).flatMap (Sh.by1 Sh.vwL)))] X fun e w' => e = .returned (.bool true) ∧ Below X.heap.size X w') := fun X =>
      zbj hK Sh.nVowels _ Sh.scr_v s (by omega) pl hpl _ (Sh.go_v hpl htl hR) hRb _ rfl X
    have hl : ((M.rn s).flatMap (Sh.by1 Sh.vwL)).length ≤ 1000 := Nat.le_trans (Sh.vw_len _) htl
    have HT2 : Hid (∀ X, Calls Tryz.prog 10 #[.string { data := #[118, 111, 119, 101, 108, 115] }, .string (runesBytes ((M.rn s).flatMap (Sh.by1 Sh.vwL))), .string (runesBytes ((M.rn s).flatMap (Sh.by1 Sh.vwL)))] X fun e w' => e = .returned (.bool true) ∧ Below X.heap.size X w') := fun X => by
      refine zbj hK Sh.nVowels _ Sh.scr_v _ (Nat.le_trans (Sh.zcv _ hRb) (by omega)) pl hpl ((M.rn s).flatMap (Sh.by1 Sh.vwL)) ?_ hRb _ rfl X
      rw [Sh.zrn hRb, Sh.go_v hpl hl hRb, Sh.vw_twice]
    clear hl
    clear htl hR hF h4 hRb hpl hs
    generalize runesBytes ((M.rn s).flatMap (Sh.by1 Sh.vwL)) = want at *
    go_enter Tryz.func8, Tryz.ntmps8
    go_wp2_with fail
    refine (HS.out _).mono ?_
    rintro e w0 ⟨rfl, rfl⟩
    clear HS
    go_wp2_with fail
    refine (HBy.out _).mono ?_
    clear HBy
    rintro e w1 ⟨rfl, b1⟩
    have HB1 : Hid (Below w0.heap.size w0 w1) := b1
    clear b1
    go_wp2_with fail
    refine (HT1.out _).mono ?_
    clear HT1
    rintro e w2 ⟨rfl, b2⟩
    have HB2 : Hid (Below w0.heap.size w0 w2) := HB1.out.trans (b2.mono HB1.out.size)
    clear b2
    go_wp2_with fail
    refine (HT2.out _).mono ?_
    clear HT2
    rintro e w3 ⟨rfl, b3⟩
    have HB3 : Hid (Below w0.heap.size w0 w3) := HB2.out.trans (b3.mono HB2.out.size)
    clear b3
    go_wp2
    go_ret
    exact ⟨rfl, HB3.out⟩
  · rw [decide_eq_false hs] at HS
    clear hs
    go_enter Tryz.func8, Tryz.ntmps8
    go_wp2_with fail
    refine (HS.out _).mono ?_
    rintro e w0 ⟨rfl, rfl⟩
    clear HS
    go_wp2
    go_ret
    exact ⟨rfl, Below.refl _ _⟩

end Go.Proofs.YtgbhkkojkpndmaaGreatDoor
namespace Go.Proofs.YtgbhkkojkpndmaaGreatDoor
open Go.ChangeShapes Go.WideShapes Go.ChangeAt Go.RowKit
open Go.ChangeMaps (open_string shut_string)
set_option linter.unusedVariables false
set_option linter.unusedSimpArgs false

set_option maxRecDepth 100000 in
theorem shelfVowelsArgs {H : Type} {enc : TypeId × Value → H} {W : World} {base : Nat} {args : Array Value} {ds gs : List (DataW H)} {p : List MemPlace}
    (hval : ∀ (j : Nat) t v, Tryz.f8.params[j]? = some t → args[j]? = some v → Value.okWide Tryz.prog W .any base t v)
    (hA : DataW.TrodAll enc Tryz.prog W 0 (fun _ => true) true Tryz.f8.params.toList args.toList ds p)  :
    Calls Tryz.prog 8 args W fun e W' => e = .returned (.bool true) ∧ Below W.heap.size W W' := by
  rw [Tryz.params8] at hA hval
  obtain ⟨v0, vs0, d0, ds0, p0, q0, hargs, rfl, rfl, h0, r0⟩ := trodAll_cons hA
  obtain ⟨rfl, rfl, rfl⟩ := trodAll_nil r0
  obtain rfl : args = #[v0] := by cases args; simp_all
  obtain ⟨a0, rfl, rfl, rfl, w0⟩ := open_string Tryz.underlying9 (hval 0 9 v0 rfl rfl) h0
  exact shelfVowels_any zei W a0

set_option maxRecDepth 100000 in
theorem shelfVowelsContract (H : Type) (enc : TypeId × Value → H) (F : Stop.Interp) (W : World) (base : Nat) (args : Array Value) (ds gs : List (DataW H)) (before : List MemPlace)
    (hval : ∀ (j : Nat) t v, Tryz.f8.params[j]? = some t → args[j]? = some v → Value.okWide Tryz.prog W .any base t v)
    (hW : DataW.Whole enc Tryz.prog Tryz.f8.params.toList (OpenSpec.ofChange Rows.shelfVowelsSpec).vars false W args.toList ds gs before) (hL : laidMetH Tryz.prog Rows.shelfVowelsRow.laid W) :
    Calls Tryz.prog 8 args W fun e W' => ∃ v, e = .returned v ∧ ((OpenSpec.ofChange Rows.shelfVowelsSpec).at F).post enc Tryz.prog Tryz.f8 false true false false W args v W' := by
  have hW' := hW
  obtain ⟨p, q, hA0, hV, rfl, hfz, hnd⟩ := hW
  have hA : DataW.TrodAll enc Tryz.prog W 0 (fun _ => true) true Tryz.f8.params.toList args.toList ds p := hA0
  obtain ⟨rfl, rfl⟩ := trodVars_none hV
  refine (shelfVowelsArgs hval hA (gs := [])).mono fun e W' ⟨he, bel⟩ => ?_
  subst he
  have hA' := zbb Tryz.laidOut bel _ _ _ _ (by kernel_rfl) hA
  obtain ⟨x0, rfl⟩ : ∃ x0, ds = [x0] := by
    rw [Tryz.params8] at hA
    obtain ⟨v0, vs0, d0, ds0, p0, q0, hargs, rfl, rfl, h0, r0⟩ := trodAll_cons hA
    obtain ⟨rfl, rfl, rfl⟩ := trodAll_nil r0
    exact ⟨_, rfl⟩
  exact ⟨_, rfl, _, _, _, [], p, [], hW', trodAll_mk1 (shut_bool Tryz.underlying4 _), hA', rfl, bel.frame _, fun h => by cases h⟩

/-- a world that holds the tables and the sentinels -/
noncomputable def shelfVowelsLow : Nat := (World.holding Tryz.prog default ⟨#[], #[], []⟩).heap.size
noncomputable def shelfVowelsWorld (os : Os) : World :=
  let w0 := World.holding Tryz.prog os ⟨#[.cells #[.string ⟨#[105, 110, 118, 97, 108, 105, 100, 32, 115, 121, 110, 116, 97, 120]⟩] 282, .cells #[.string ⟨#[118, 97, 108, 117, 101, 32, 111, 117, 116, 32, 111, 102, 32, 114, 97, 110, 103, 101]⟩] 282], #[], []⟩
  { w0 with heap := ((((w0.heap.modify 3 (relay pow10Cells)).modify 4 (relay tab32Cells)).modify 5 (relay tab64Cells)).modify 1 (relay #[.iface 280 (.pointer (some ⟨shelfVowelsLow, 0, none⟩))])).modify 2 (relay #[.iface 280 (.pointer (some ⟨shelfVowelsLow + 1, 0, none⟩))]) }
theorem shelfVowelsMet (os : Os) : laidMet Tryz.prog Rows.shelfVowelsRow.laid ((shelfVowelsWorld os).forCall (fun _ _ => 0) ⟨#[], #[.string .empty], []⟩).memory :=
  laidMet_of_run' 8 (by kernel_rfl) (by kernel_rfl)
theorem shelfVowelsReads (os : Os) {H : Type} (enc : TypeId × Value → H) : ∃ places, DataW.whole enc Tryz.prog ((shelfVowelsWorld os).forCall (fun _ _ => 0) ⟨#[], #[.string .empty], []⟩).memory Tryz.f8.params.toList (OpenSpec.ofChange Rows.shelfVowelsSpec).vars false (#[.string .empty] : Array Value).toList 8 = some ([.lit (.string [])], [], places) :=
  ⟨[], by kernel_rfl⟩

set_option maxRecDepth 100000 in
theorem shelfVowelsLifted (os : Os) (started : os.Started) (H : Type) (enc : TypeId × Value → H) (F : Stop.Interp) :
    ReturnsInHanded {} Tryz.checked os 8 .any ((OpenSpec.ofChange Rows.shelfVowelsSpec).preRow enc Tryz.prog Tryz.f8 Rows.shelfVowelsRow.domain false Rows.shelfVowelsRow.laid) (((OpenSpec.ofChange Rows.shelfVowelsSpec).at F).post enc Tryz.prog Tryz.f8 false true false false) := by
  obtain ⟨places, hx⟩ := shelfVowelsReads os enc
  refine returnsInHanded_of_row (C := Tryz.checked) (s := (OpenSpec.ofChange Rows.shelfVowelsSpec)) Tryz.own started (by kernel_rfl) Tryz.func8
    (witness_row_at (enc := enc) (C := Tryz.checked) false (shelfVowelsWorld os) #[.string .empty] rfl (by kernel_rfl) (by kernel_rfl) (by kernel_rfl)
      (OpenSpec.preRow_of_cond 8 hx (by kernel_rfl) (fun k hk => by cases hk) (by kernel_rfl) (shelfVowelsMet os))) ?_
  intro W base args ds gs before hval hW _ hk _ hL _ _
  exact shelfVowelsContract H enc F W base args ds gs before hval hW hL

theorem shelfVowelsC0 : (Rows.shelfVowelsRow.inPlace == Tryz.pinned.checked.prog.inPlace 8) = true := by kernel_rfl
theorem shelfVowelsC1 : (Rows.shelfVowelsRow.unfollowed == Tryz.pinned.checked.prog.unfollowed 8) = true := by kernel_rfl
theorem shelfVowelsC2 : (Rows.shelfVowelsRow.recurses == Tryz.pinned.checked.prog.recurses 8) = true := by kernel_rfl
theorem shelfVowelsC3 : (Rows.shelfVowelsRow.named == Tryz.pinned.checked.prog.varsNamed 8) = true := by kernel_rfl
theorem shelfVowelsClosed : joinedFacts Tryz.pinned.checked.prog 8 Tryz.f8 (OpenSpec.ofChange Rows.shelfVowelsSpec).bare Rows.shelfVowelsRow = true := by
  unfold joinedFacts
  rw [shelfVowelsC0, shelfVowelsC1, shelfVowelsC2, shelfVowelsC3]
  kernel_rfl
theorem shelfVowelsNamed : Tryz.pinned.checked.prog.funcNamed Rows.shelfVowelsRow.func = some 8 := by kernel_rfl

theorem shelfVowelsSaid : Rows.ShelfVowelsSaid :=
  OpenClaim.holds_of_cond 8 Tryz.f8 rfl rfl rfl rfl rfl rfl rfl ⟨rfl, rfl, rfl, rfl, rfl⟩ rfl rfl rfl rfl rfl shelfVowelsNamed Tryz.func8 shelfVowelsClosed
    (of_decide_eq_true (by kernel_rfl)) (by unfold Func.isWrapper; first | (rw [if_pos (by decide +kernel)]; kernel_rfl) | (rw [if_neg (by decide +kernel)]; exact ⟨rfl, rfl⟩))
    (fun os started H enc _ F => by rw [OpenClaim.pre_eq_preRow]; exact shelfVowelsLifted os started H enc F)

theorem shelfVowelsPlain (f : FuncId) (fn : Func) (hf : Tryz.pinned.checked.prog.funcNamed "scriptshift/scriptlaw16.ShelfVowels" = some f) (hfn : Tryz.pinned.checked.prog.funcs[f]? = some fn) :
    true = Tryz.pinned.checked.prog.looks [] ∧ ∀ (j : Nat) t, fn.params[j]? = some t → Tryz.pinned.checked.prog.wantsStandIn t = false := by
  obtain rfl : f = 8 := Option.some.inj ((show Tryz.prog.funcNamed "scriptshift/scriptlaw16.ShelfVowels" = some 8 by kernel_rfl).symm.trans hf) |>.symm
  obtain rfl : fn = Tryz.f8 := (Option.some.inj (Tryz.func8.symm.trans hfn)).symm
  refine ⟨by kernel_rfl, fun j t ht => ?_⟩
  rw [Tryz.params8] at ht
  have hm := Array.mem_of_getElem? ht
  have hm2 : t = 9 := by simpa using hm
  subst hm2
  exact (show Tryz.prog.wantsStandIn 9 = false by kernel_rfl)

theorem shelfVowels_card : Rows.ShelfVowelsCardSaid :=
  Claim7.holds_tied_plain_at .later [] _ _ _ _ shelfVowelsSaid (fun _ h => by cases h) (by kernel_rfl) (fun _ h => by cases h) shelfVowels_row_tie rfl ⟨rfl, rfl⟩ (by kernel_rfl) rfl shelfVowelsPlain (by kernel_rfl)

#print axioms shelfVowels_card
end Go.Proofs.YtgbhkkojkpndmaaGreatDoor
