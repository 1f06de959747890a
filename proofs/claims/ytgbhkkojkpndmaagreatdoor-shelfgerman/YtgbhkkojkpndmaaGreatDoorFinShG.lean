/-
  Whatever comes in: scriptlaw16.ShelfGerman returns true, and each argument reads behind the call as it read before. (The row lists tables and sentinels of the library; the card ties them to the program's text.)
-/
import Derived.Test.YtgbhkkojkpndmaaGreatDoorShBy
import Derived.Test.YtgbhkkojkpndmaaGreatDoorShByP
import Derived.Test.YtgbhkkojkpndmaaGreatDoorShMap
import Derived.Test.YtgbhkkojkpndmaaGreatDoorShScrG
import Derived.Test.YtgbhkkojkpndmaaGreatDoorShText2
import Derived.Test.YtgbhkkojkpndmaaGreatDoorTClass4
namespace Go.Proofs.YtgbhkkojkpndmaaGreatDoor
open Go.RowKit Go.Lib
set_option maxRecDepth 20000
set_option linter.unusedSimpArgs false
set_option linter.unusedVariables false

set_option maxHeartbeats 8000000 in
theorem shGer1_any (r : Int) (hr : M.right r = true) (w : World) : Calls Tryz.prog 12 #[.int .i32 r] w fun e w' => e = .returned (.string (runesBytes (Sh.by1 Sh.gmL r))) ∧ Below w.heap.size w w' := by
  have HP : Hid (∀ X, Calls Tryz.prog 13 #[.int .i32 r] X fun e w' => e = .returned (.string (runesBytes [r])) ∧ Below X.heap.size X w') := fun X => zce r hr X
  clear hr
  by_cases h228 : r = 228
  · subst h228
    rw [show runesBytes (Sh.by1 Sh.gmL 228) = ⟨#[97, 101]⟩ by decide +kernel]
    clear HP
    go_enter Tryz.func12, Tryz.ntmps12
    go_wp2_with fail
    obtain ⟨w1, b, q, hC, hB⟩ := mp_start w
    rw [q]; clear q
    go_wp2_with fail
    obtain ⟨w2, q, hC, hB⟩ := mp_step hC hB 228 ⟨#[97, 101]⟩ (by decide +kernel)
    rw [q]; clear q
    go_wp2_with fail
    obtain ⟨w3, q, hC, hB⟩ := mp_step hC hB 246 ⟨#[111, 101]⟩ (by decide +kernel)
    rw [q]; clear q
    go_wp2_with fail
    obtain ⟨w4, q, hC, hB⟩ := mp_step hC hB 252 ⟨#[117, 101]⟩ (by decide +kernel)
    rw [q]; clear q
    have hl := (mp_look hC 228 ⟨#[97, 101]⟩ (by decide +kernel)).1
    go_wp2
    go_ret
    exact ⟨rfl, hB.out.2⟩
  by_cases h246 : r = 246
  · subst h246
    rw [show runesBytes (Sh.by1 Sh.gmL 246) = ⟨#[111, 101]⟩ by decide +kernel]
    clear HP
    go_enter Tryz.func12, Tryz.ntmps12
    go_wp2_with fail
    obtain ⟨w1, b, q, hC, hB⟩ := mp_start w
    rw [q]; clear q
    go_wp2_with fail
    obtain ⟨w2, q, hC, hB⟩ := mp_step hC hB 228 ⟨#[97, 101]⟩ (by decide +kernel)
    rw [q]; clear q
    go_wp2_with fail
    obtain ⟨w3, q, hC, hB⟩ := mp_step hC hB 246 ⟨#[111, 101]⟩ (by decide +kernel)
    rw [q]; clear q
    go_wp2_with fail
    obtain ⟨w4, q, hC, hB⟩ := mp_step hC hB 252 ⟨#[117, 101]⟩ (by decide +kernel)
    rw [q]; clear q
    have hl := (mp_look hC 246 ⟨#[111, 101]⟩ (by decide +kernel)).1
    go_wp2
    go_ret
    exact ⟨rfl, hB.out.2⟩
  by_cases h252 : r = 252
  · subst h252
    rw [show runesBytes (Sh.by1 Sh.gmL 252) = ⟨#[117, 101]⟩ by decide +kernel]
    clear HP
    go_enter Tryz.func12, Tryz.ntmps12
    go_wp2_with fail
    obtain ⟨w1, b, q, hC, hB⟩ := mp_start w
    rw [q]; clear q
    go_wp2_with fail
    obtain ⟨w2, q, hC, hB⟩ := mp_step hC hB 228 ⟨#[97, 101]⟩ (by decide +kernel)
    rw [q]; clear q
    go_wp2_with fail
    obtain ⟨w3, q, hC, hB⟩ := mp_step hC hB 246 ⟨#[111, 101]⟩ (by decide +kernel)
    rw [q]; clear q
    go_wp2_with fail
    obtain ⟨w4, q, hC, hB⟩ := mp_step hC hB 252 ⟨#[117, 101]⟩ (by decide +kernel)
    rw [q]; clear q
    have hl := (mp_look hC 252 ⟨#[117, 101]⟩ (by decide +kernel)).1
    go_wp2
    go_ret
    exact ⟨rfl, hB.out.2⟩
  by_cases h196 : r = 196
  · subst h196
    rw [show runesBytes (Sh.by1 Sh.gmL 196) = ⟨#[65, 101]⟩ by decide +kernel]
    clear HP
    go_enter Tryz.func12, Tryz.ntmps12
    go_wp2_with fail
    obtain ⟨w1, b, q, hC, hB⟩ := mp_start w
    rw [q]; clear q
    go_wp2_with fail
    obtain ⟨w2, q, hC, hB⟩ := mp_step hC hB 196 ⟨#[65, 101]⟩ (by decide +kernel)
    rw [q]; clear q
    go_wp2_with fail
    obtain ⟨w3, q, hC, hB⟩ := mp_step hC hB 214 ⟨#[79, 101]⟩ (by decide +kernel)
    rw [q]; clear q
    go_wp2_with fail
    obtain ⟨w4, q, hC, hB⟩ := mp_step hC hB 220 ⟨#[85, 101]⟩ (by decide +kernel)
    rw [q]; clear q
    have hl := (mp_look hC 196 ⟨#[65, 101]⟩ (by decide +kernel)).1
    go_wp2
    go_ret
    exact ⟨rfl, hB.out.2⟩
  by_cases h214 : r = 214
  · subst h214
    rw [show runesBytes (Sh.by1 Sh.gmL 214) = ⟨#[79, 101]⟩ by decide +kernel]
    clear HP
    go_enter Tryz.func12, Tryz.ntmps12
    go_wp2_with fail
    obtain ⟨w1, b, q, hC, hB⟩ := mp_start w
    rw [q]; clear q
    go_wp2_with fail
    obtain ⟨w2, q, hC, hB⟩ := mp_step hC hB 196 ⟨#[65, 101]⟩ (by decide +kernel)
    rw [q]; clear q
    go_wp2_with fail
    obtain ⟨w3, q, hC, hB⟩ := mp_step hC hB 214 ⟨#[79, 101]⟩ (by decide +kernel)
    rw [q]; clear q
    go_wp2_with fail
    obtain ⟨w4, q, hC, hB⟩ := mp_step hC hB 220 ⟨#[85, 101]⟩ (by decide +kernel)
    rw [q]; clear q
    have hl := (mp_look hC 214 ⟨#[79, 101]⟩ (by decide +kernel)).1
    go_wp2
    go_ret
    exact ⟨rfl, hB.out.2⟩
  by_cases h220 : r = 220
  · subst h220
    rw [show runesBytes (Sh.by1 Sh.gmL 220) = ⟨#[85, 101]⟩ by decide +kernel]
    clear HP
    go_enter Tryz.func12, Tryz.ntmps12
    go_wp2_with fail
    obtain ⟨w1, b, q, hC, hB⟩ := mp_start w
    rw [q]; clear q
    go_wp2_with fail
    obtain ⟨w2, q, hC, hB⟩ := mp_step hC hB 196 ⟨#[65, 101]⟩ (by decide +kernel)
    rw [q]; clear q
    go_wp2_with fail
    obtain ⟨w3, q, hC, hB⟩ := mp_step hC hB 214 ⟨#[79, 101]⟩ (by decide +kernel)
    rw [q]; clear q
    go_wp2_with fail
    obtain ⟨w4, q, hC, hB⟩ := mp_step hC hB 220 ⟨#[85, 101]⟩ (by decide +kernel)
    rw [q]; clear q
    have hl := (mp_look hC 220 ⟨#[85, 101]⟩ (by decide +kernel)).1
    go_wp2
    go_ret
    exact ⟨rfl, hB.out.2⟩
  by_cases h223 : r = 223
  · subst h223
    rw [show runesBytes (Sh.by1 Sh.gmL 223) = ⟨#[115, 115]⟩ by decide +kernel]
    clear HP
    go_enter Tryz.func12, Tryz.ntmps12
    go_wp2
    go_ret
    exact ⟨rfl, Below.refl _ _⟩
  have hb : Sh.by1 Sh.gmL r = [r] := by
    unfold Sh.by1 Sh.gmL
    simp only [Sh.look, Sh.memb1, decide_eq_true_eq]
    rw [if_neg h228, if_neg h246, if_neg h252, if_neg h223, if_neg h196, if_neg h214, if_neg h220]
    rfl
  rw [hb]
  clear hb
  go_enter Tryz.func12, Tryz.ntmps12
  go_wp2_with fail
  refine (HP.out _).mono ?_
  clear HP
  rintro e w1 ⟨rfl, b1⟩
  have HB : Hid (Below w.heap.size w w1) := b1
  clear b1
  go_wp2
  go_ret
  exact ⟨rfl, HB.out⟩

end Go.Proofs.YtgbhkkojkpndmaaGreatDoor
namespace Go.Proofs.YtgbhkkojkpndmaaGreatDoor
open Go.RowKit Go.Lib
set_option maxRecDepth 20000
set_option linter.unusedSimpArgs false
set_option linter.unusedVariables false

set_option maxHeartbeats 8000000 in
theorem shelfGerman_any (hK : T.ClassOk) (w : World) (s : ByteArray) : Calls Tryz.prog 3 #[.string s] w fun e w' => e = .returned (.bool true) ∧ Below w.heap.size w w' := by
  have HS : Hid (∀ X, Calls Tryz.prog 9 #[.string s] X fun e w' => e = .returned (.bool (decide (s.size ≤ 1000))) ∧ w' = X) := fun X => zcd s X
  by_cases hs : s.size ≤ 1000
  · rw [decide_eq_true hs] at HS
    obtain ⟨pl, hpl⟩ := Cn.zgu
    have htl : (M.rn s).length ≤ 1000 := Nat.le_trans (M.zb3 s) hs
    have hR := zcq s
    have hF : ∀ r, M.right r = true → ∀ z ∈ (Sh.by1 Sh.gmL) r, M.right z = true := fun r hr => Sh.by_right (by decide) hr
    have h4 : ∀ r, ((Sh.by1 Sh.gmL) r).length ≤ 4 := Sh.by_len (by decide)
    have hRb := Sh.by_right1 hF hR
    have HBy : Hid (∀ X, Calls Tryz.prog 11 #[.string s, .func (.func 12) #[] #[]] X fun e w' => e = .returned (.string (runesBytes ((M.rn s).flatMap (Sh.by1 Sh.gmL)))) ∧ Below X.heap.size X w') := fun X =>
      shBy_any s hs X 12 #[] (Sh.by1 Sh.gmL) h4 hF (enters_of Tryz.func12 (by kernel_rfl) rfl) (fun W r _ hr => shGer1_any r hr W)
    have HT1 : Hid (∀ X, Calls Tryz.prog 10 #[.string { data := #[103, 101, 114, 109, 97, 110] }, .string s, .string (runesBytes ((M.rn s).flatMap (Sh.by1 Sh.gmL)))] X fun e w' => e = .returned (.bool true) ∧ Below X.heap.size X w') := fun X =>
      zbj hK Sh.nGerman _ Sh.scr_g s (by omega) pl hpl _ (Sh.go_g hpl htl hR) hRb _ rfl X
    clear htl hR hF h4 hRb hpl hs
    generalize runesBytes ((M.rn s).flatMap (Sh.by1 Sh.gmL)) = want at *
    go_enter Tryz.func3, Tryz.ntmps3
    go_wp2_with fail
    refine (HS.out _).mono ?_
    rintro e w0 ⟨rfl, rfl⟩
    clear HS
    go_wp2_with fail
    refine (HBy.out _).mono ?_
    clear HBy
    rintro e w1 ⟨rfl, b1⟩
    have HB1 : Hid (Below w0.heap.size w0 w1) := b1
    clear b1
    go_wp2_with fail
    refine (HT1.out _).mono ?_
    clear HT1
    rintro e w2 ⟨rfl, b2⟩
    have HB2 : Hid (Below w0.heap.size w0 w2) := HB1.out.trans (b2.mono HB1.out.size)
    clear b2
    go_wp2
    go_ret
    exact ⟨rfl, HB2.out⟩
  · rw [decide_eq_false hs] at HS
    clear hs
    go_enter Tryz.func3, Tryz.ntmps3
    go_wp2_with fail
    refine (HS.out _).mono ?_
    rintro e w0 ⟨rfl, rfl⟩
    clear HS
    go_wp2
    go_ret
    exact ⟨rfl, Below.refl _ _⟩

end Go.Proofs.YtgbhkkojkpndmaaGreatDoor
namespace Go.Proofs.YtgbhkkojkpndmaaGreatDoor
open Go.ChangeShapes Go.WideShapes Go.ChangeAt Go.RowKit
open Go.ChangeMaps (open_string shut_string)
set_option linter.unusedVariables false
set_option linter.unusedSimpArgs false

set_option maxRecDepth 100000 in
theorem shelfGermanArgs {H : Type} {enc : TypeId × Value → H} {W : World} {base : Nat} {args : Array Value} {ds gs : List (DataW H)} {p : List MemPlace}
    (hval : ∀ (j : Nat) t v, Tryz.f3.params[j]? = some t → args[j]? = some v → Value.okWide Tryz.prog W .any base t v)
    (hA : DataW.TrodAll enc Tryz.prog W 0 (fun _ => true) true Tryz.f3.params.toList args.toList ds p)  :
    Calls Tryz.prog 3 args W fun e W' => e = .returned (.bool true) ∧ Below W.heap.size W W' := by
  rw [Tryz.params3] at hA hval
  obtain ⟨v0, vs0, d0, ds0, p0, q0, hargs, rfl, rfl, h0, r0⟩ := trodAll_cons hA
  obtain ⟨rfl, rfl, rfl⟩ := trodAll_nil r0
  obtain rfl : args = #[v0] := by cases args; simp_all
  obtain ⟨a0, rfl, rfl, rfl, w0⟩ := open_string Tryz.underlying9 (hval 0 9 v0 rfl rfl) h0
  exact shelfGerman_any zei W a0

set_option maxRecDepth 100000 in
theorem shelfGermanContract (H : Type) (enc : TypeId × Value → H) (F : Stop.Interp) (W : World) (base : Nat) (args : Array Value) (ds gs : List (DataW H)) (before : List MemPlace)
    (hval : ∀ (j : Nat) t v, Tryz.f3.params[j]? = some t → args[j]? = some v → Value.okWide Tryz.prog W .any base t v)
    (hW : DataW.Whole enc Tryz.prog Tryz.f3.params.toList (OpenSpec.ofChange Rows.shelfGermanSpec).vars false W args.toList ds gs before) (hL : laidMetH Tryz.prog Rows.shelfGermanRow.laid W) :
    Calls Tryz.prog 3 args W fun e W' => ∃ v, e = .returned v ∧ ((OpenSpec.ofChange Rows.shelfGermanSpec).at F).post enc Tryz.prog Tryz.f3 false true false false W args v W' := by
  have hW' := hW
  obtain ⟨p, q, hA0, hV, rfl, hfz, hnd⟩ := hW
  have hA : DataW.TrodAll enc Tryz.prog W 0 (fun _ => true) true Tryz.f3.params.toList args.toList ds p := hA0
  obtain ⟨rfl, rfl⟩ := trodVars_none hV
  refine (shelfGermanArgs hval hA (gs := [])).mono fun e W' ⟨he, bel⟩ => ?_
  subst he
  have hA' := zbb Tryz.laidOut bel _ _ _ _ (by kernel_rfl) hA
  obtain ⟨x0, rfl⟩ : ∃ x0, ds = [x0] := by
    rw [Tryz.params3] at hA
    obtain ⟨v0, vs0, d0, ds0, p0, q0, hargs, rfl, rfl, h0, r0⟩ := trodAll_cons hA
    obtain ⟨rfl, rfl, rfl⟩ := trodAll_nil r0
    exact ⟨_, rfl⟩
  exact ⟨_, rfl, _, _, _, [], p, [], hW', trodAll_mk1 (shut_bool Tryz.underlying4 _), hA', rfl, bel.frame _, fun h => by cases h⟩

/-- a world that holds the tables and the sentinels -/
noncomputable def shelfGermanLow : Nat := (World.holding Tryz.prog default ⟨#[], #[], []⟩).heap.size
noncomputable def shelfGermanWorld (os : Os) : World :=
  let w0 := World.holding Tryz.prog os ⟨#[.cells #[.string ⟨#[105, 110, 118, 97, 108, 105, 100, 32, 115, 121, 110, 116, 97, 120]⟩] 282, .cells #[.string ⟨#[118, 97, 108, 117, 101, 32, 111, 117, 116, 32, 111, 102, 32, 114, 97, 110, 103, 101]⟩] 282], #[], []⟩
  { w0 with heap := ((((w0.heap.modify 3 (relay pow10Cells)).modify 4 (relay tab32Cells)).modify 5 (relay tab64Cells)).modify 1 (relay #[.iface 280 (.pointer (some ⟨shelfGermanLow, 0, none⟩))])).modify 2 (relay #[.iface 280 (.pointer (some ⟨shelfGermanLow + 1, 0, none⟩))]) }
theorem shelfGermanMet (os : Os) : laidMet Tryz.prog Rows.shelfGermanRow.laid ((shelfGermanWorld os).forCall (fun _ _ => 0) ⟨#[], #[.string .empty], []⟩).memory :=
  laidMet_of_run' 8 (by kernel_rfl) (by kernel_rfl)
theorem shelfGermanReads (os : Os) {H : Type} (enc : TypeId × Value → H) : ∃ places, DataW.whole enc Tryz.prog ((shelfGermanWorld os).forCall (fun _ _ => 0) ⟨#[], #[.string .empty], []⟩).memory Tryz.f3.params.toList (OpenSpec.ofChange Rows.shelfGermanSpec).vars false (#[.string .empty] : Array Value).toList 8 = some ([.lit (.string [])], [], places) :=
  ⟨[], by kernel_rfl⟩

set_option maxRecDepth 100000 in
theorem shelfGermanLifted (os : Os) (started : os.Started) (H : Type) (enc : TypeId × Value → H) (F : Stop.Interp) :
    ReturnsInHanded {} Tryz.checked os 3 .any ((OpenSpec.ofChange Rows.shelfGermanSpec).preRow enc Tryz.prog Tryz.f3 Rows.shelfGermanRow.domain false Rows.shelfGermanRow.laid) (((OpenSpec.ofChange Rows.shelfGermanSpec).at F).post enc Tryz.prog Tryz.f3 false true false false) := by
  obtain ⟨places, hx⟩ := shelfGermanReads os enc
  refine returnsInHanded_of_row (C := Tryz.checked) (s := (OpenSpec.ofChange Rows.shelfGermanSpec)) Tryz.own started (by kernel_rfl) Tryz.func3
    (witness_row_at (enc := enc) (C := Tryz.checked) false (shelfGermanWorld os) #[.string .empty] rfl (by kernel_rfl) (by kernel_rfl) (by kernel_rfl)
      (OpenSpec.preRow_of_cond 8 hx (by kernel_rfl) (fun k hk => by cases hk) (by kernel_rfl) (shelfGermanMet os))) ?_
  intro W base args ds gs before hval hW _ hk _ hL _ _
  exact shelfGermanContract H enc F W base args ds gs before hval hW hL

theorem shelfGermanC0 : (Rows.shelfGermanRow.inPlace == Tryz.pinned.checked.prog.inPlace 3) = true := by kernel_rfl
theorem shelfGermanC1 : (Rows.shelfGermanRow.unfollowed == Tryz.pinned.checked.prog.unfollowed 3) = true := by kernel_rfl
theorem shelfGermanC2 : (Rows.shelfGermanRow.recurses == Tryz.pinned.checked.prog.recurses 3) = true := by kernel_rfl
theorem shelfGermanC3 : (Rows.shelfGermanRow.named == Tryz.pinned.checked.prog.varsNamed 3) = true := by kernel_rfl
theorem shelfGermanClosed : joinedFacts Tryz.pinned.checked.prog 3 Tryz.f3 (OpenSpec.ofChange Rows.shelfGermanSpec).bare Rows.shelfGermanRow = true := by
  unfold joinedFacts
  rw [shelfGermanC0, shelfGermanC1, shelfGermanC2, shelfGermanC3]
  kernel_rfl
theorem shelfGermanNamed : Tryz.pinned.checked.prog.funcNamed Rows.shelfGermanRow.func = some 3 := by kernel_rfl

theorem shelfGermanSaid : Rows.ShelfGermanSaid :=
  OpenClaim.holds_of_cond 3 Tryz.f3 rfl rfl rfl rfl rfl rfl rfl ⟨rfl, rfl, rfl, rfl, rfl⟩ rfl rfl rfl rfl rfl shelfGermanNamed Tryz.func3 shelfGermanClosed
    (of_decide_eq_true (by kernel_rfl)) (by unfold Func.isWrapper; first | (rw [if_pos (by decide +kernel)]; kernel_rfl) | (rw [if_neg (by decide +kernel)]; exact ⟨rfl, rfl⟩))
    (fun os started H enc _ F => by rw [OpenClaim.pre_eq_preRow]; exact shelfGermanLifted os started H enc F)

theorem shelfGermanPlain (f : FuncId) (fn : Func) (hf : Tryz.pinned.checked.prog.funcNamed "scriptshift/scriptlaw16.ShelfGerman" = some f) (hfn : Tryz.pinned.checked.prog.funcs[f]? = some fn) :
    true = Tryz.pinned.checked.prog.looks [] ∧ ∀ (j : Nat) t, fn.params[j]? = some t → Tryz.pinned.checked.prog.wantsStandIn t = false := by
  obtain rfl : f = 3 := Option.some.inj ((show Tryz.prog.funcNamed "scriptshift/scriptlaw16.ShelfGerman" = some 3 by kernel_rfl).symm.trans hf) |>.symm
  obtain rfl : fn = Tryz.f3 := (Option.some.inj (Tryz.func3.symm.trans hfn)).symm
  refine ⟨by kernel_rfl, fun j t ht => ?_⟩
  rw [Tryz.params3] at ht
  have hm := Array.mem_of_getElem? ht
  have hm2 : t = 9 := by simpa using hm
  subst hm2
  exact (show Tryz.prog.wantsStandIn 9 = false by kernel_rfl)

theorem shelfGerman_card : Rows.ShelfGermanCardSaid :=
  Claim7.holds_tied_plain_at .later [] _ _ _ _ shelfGermanSaid (fun _ h => by cases h) (by kernel_rfl) (fun _ h => by cases h) shelfGerman_row_tie rfl ⟨rfl, rfl⟩ (by kernel_rfl) rfl shelfGermanPlain (by kernel_rfl)

#print axioms shelfGerman_card
end Go.Proofs.YtgbhkkojkpndmaaGreatDoor
