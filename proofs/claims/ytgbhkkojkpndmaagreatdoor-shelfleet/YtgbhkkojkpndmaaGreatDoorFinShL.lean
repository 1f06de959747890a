/-
  Whatever comes in: scriptlaw16.ShelfLeet returns true, and each argument reads behind the call as it read before. (The row lists tables and sentinels of the library; the card ties them to the program's text.)
-/
import Derived.Test.YtgbhkkojkpndmaaGreatDoorCnLet
import Derived.Test.YtgbhkkojkpndmaaGreatDoorShBy
import Derived.Test.YtgbhkkojkpndmaaGreatDoorShLeeP
import Derived.Test.YtgbhkkojkpndmaaGreatDoorShMap
import Derived.Test.YtgbhkkojkpndmaaGreatDoorShScrG
import Derived.Test.YtgbhkkojkpndmaaGreatDoorShText2
import Derived.Test.YtgbhkkojkpndmaaGreatDoorTClass4
namespace Go.Proofs.YtgbhkkojkpndmaaGreatDoor
open Go.RowKit
set_option maxRecDepth 20000
set_option linter.unusedSimpArgs false
set_option linter.unusedVariables false

set_option maxHeartbeats 2000000 in
theorem rlower_any (r : Int) (h1 : -2147483648 ≤ r) (h2 : r ≤ 2147483647) (w : World) :
    Calls Tryz.prog 15 #[.int .i32 r] w fun e w' => e = .returned (.int .i32 (Cn.low r)) ∧ w' = w := by
  obtain ⟨o, HO⟩ : ∃ o, Hid (Cn.low r = o) := ⟨_, rfl⟩
  rw [show Cn.low r = o from HO.out]
  go_enter Tryz.func15, Tryz.ntmps15
  go_wp2
  all_goals go_ret
  all_goals (refine ⟨L.ze0 ?_, rfl⟩; rw [← HO.out])
  all_goals (unfold Cn.low Cn.lessF; (try simp_all); (try omega))
  all_goals (try (repeat' split))
  all_goals omega
end Go.Proofs.YtgbhkkojkpndmaaGreatDoor
namespace Go.Proofs.YtgbhkkojkpndmaaGreatDoor
open Go.RowKit Go.Lib
set_option maxRecDepth 20000
set_option linter.unusedSimpArgs false
set_option linter.unusedVariables false

set_option maxHeartbeats 8000000 in
theorem shLee1_any (r : Int) (hr : M.right r = true) (w : World) : Calls Tryz.prog 14 #[.int .i32 r] w fun e w' => e = .returned (.string (runesBytes (Sh.by1 Sh.ltL (Cn.low r)))) ∧ Below w.heap.size w w' := by
  have hb := zb4 hr
  have HL : Hid (∀ X, Calls Tryz.prog 15 #[.int .i32 r] X fun e w' => e = .returned (.int .i32 (Cn.low r)) ∧ w' = X) := fun X => rlower_any r (by omega) (by omega) X
  have hlr := Sh.low_right hr
  generalize Cn.low r = z at HL hlr
  have HP : Hid (∀ X, Calls Tryz.prog 13 #[.int .i32 z] X fun e w' => e = .returned (.string (runesBytes [z])) ∧ Below X.heap.size X w') := fun X => zce z hlr X
  clear hr hb hlr
  by_cases h97 : z = 97
  · subst h97
    rw [show runesBytes (Sh.by1 Sh.ltL 97) = ⟨#[52]⟩ by decide +kernel]
    clear HP
    go_enter Tryz.func14, Tryz.ntmps14
    go_wp2_with fail
    refine (HL.out _).mono ?_
    clear HL
    rintro e w0 ⟨rfl, rfl⟩
    go_wp2_with fail
    obtain ⟨w1, b, q, hC, hB⟩ := mp_start w0
    rw [q]; clear q
    go_wp2_with fail
    obtain ⟨w2, q, hC, hB⟩ := mp_step hC hB 97 ⟨#[52]⟩ (by decide +kernel)
    rw [q]; clear q
    go_wp2_with fail
    obtain ⟨w3, q, hC, hB⟩ := mp_step hC hB 101 ⟨#[51]⟩ (by decide +kernel)
    rw [q]; clear q
    go_wp2_with fail
    obtain ⟨w4, q, hC, hB⟩ := mp_step hC hB 105 ⟨#[49]⟩ (by decide +kernel)
    rw [q]; clear q
    go_wp2_with fail
    obtain ⟨w5, q, hC, hB⟩ := mp_step hC hB 111 ⟨#[48]⟩ (by decide +kernel)
    rw [q]; clear q
    go_wp2_with fail
    obtain ⟨w6, q, hC, hB⟩ := mp_step hC hB 115 ⟨#[53]⟩ (by decide +kernel)
    rw [q]; clear q
    go_wp2_with fail
    obtain ⟨w7, q, hC, hB⟩ := mp_step hC hB 116 ⟨#[55]⟩ (by decide +kernel)
    rw [q]; clear q
    have hl := (mp_look hC 97 ⟨#[52]⟩ (by decide +kernel)).2
    go_wp2
    go_ret
    exact ⟨rfl, hB.out.2⟩
  by_cases h101 : z = 101
  · subst h101
    rw [show runesBytes (Sh.by1 Sh.ltL 101) = ⟨#[51]⟩ by decide +kernel]
    clear HP
    go_enter Tryz.func14, Tryz.ntmps14
    go_wp2_with fail
    refine (HL.out _).mono ?_
    clear HL
    rintro e w0 ⟨rfl, rfl⟩
    go_wp2_with fail
    obtain ⟨w1, b, q, hC, hB⟩ := mp_start w0
    rw [q]; clear q
    go_wp2_with fail
    obtain ⟨w2, q, hC, hB⟩ := mp_step hC hB 97 ⟨#[52]⟩ (by decide +kernel)
    rw [q]; clear q
    go_wp2_with fail
    obtain ⟨w3, q, hC, hB⟩ := mp_step hC hB 101 ⟨#[51]⟩ (by decide +kernel)
    rw [q]; clear q
    go_wp2_with fail
    obtain ⟨w4, q, hC, hB⟩ := mp_step hC hB 105 ⟨#[49]⟩ (by decide +kernel)
    rw [q]; clear q
    go_wp2_with fail
    obtain ⟨w5, q, hC, hB⟩ := mp_step hC hB 111 ⟨#[48]⟩ (by decide +kernel)
    rw [q]; clear q
    go_wp2_with fail
    obtain ⟨w6, q, hC, hB⟩ := mp_step hC hB 115 ⟨#[53]⟩ (by decide +kernel)
    rw [q]; clear q
    go_wp2_with fail
    obtain ⟨w7, q, hC, hB⟩ := mp_step hC hB 116 ⟨#[55]⟩ (by decide +kernel)
    rw [q]; clear q
    have hl := (mp_look hC 101 ⟨#[51]⟩ (by decide +kernel)).2
    go_wp2
    go_ret
    exact ⟨rfl, hB.out.2⟩
  by_cases h105 : z = 105
  · subst h105
    rw [show runesBytes (Sh.by1 Sh.ltL 105) = ⟨#[49]⟩ by decide +kernel]
    clear HP
    go_enter Tryz.func14, Tryz.ntmps14
    go_wp2_with fail
    refine (HL.out _).mono ?_
    clear HL
    rintro e w0 ⟨rfl, rfl⟩
    go_wp2_with fail
    obtain ⟨w1, b, q, hC, hB⟩ := mp_start w0
    rw [q]; clear q
    go_wp2_with fail
    obtain ⟨w2, q, hC, hB⟩ := mp_step hC hB 97 ⟨#[52]⟩ (by decide +kernel)
    rw [q]; clear q
    go_wp2_with fail
    obtain ⟨w3, q, hC, hB⟩ := mp_step hC hB 101 ⟨#[51]⟩ (by decide +kernel)
    rw [q]; clear q
    go_wp2_with fail
    obtain ⟨w4, q, hC, hB⟩ := mp_step hC hB 105 ⟨#[49]⟩ (by decide +kernel)
    rw [q]; clear q
    go_wp2_with fail
    obtain ⟨w5, q, hC, hB⟩ := mp_step hC hB 111 ⟨#[48]⟩ (by decide +kernel)
    rw [q]; clear q
    go_wp2_with fail
    obtain ⟨w6, q, hC, hB⟩ := mp_step hC hB 115 ⟨#[53]⟩ (by decide +kernel)
    rw [q]; clear q
    go_wp2_with fail
    obtain ⟨w7, q, hC, hB⟩ := mp_step hC hB 116 ⟨#[55]⟩ (by decide +kernel)
    rw [q]; clear q
    have hl := (mp_look hC 105 ⟨#[49]⟩ (by decide +kernel)).2
    go_wp2
    go_ret
    exact ⟨rfl, hB.out.2⟩
  by_cases h111 : z = 111
  · subst h111
    rw [show runesBytes (Sh.by1 Sh.ltL 111) = ⟨#[48]⟩ by decide +kernel]
    clear HP
    go_enter Tryz.func14, Tryz.ntmps14
    go_wp2_with fail
    refine (HL.out _).mono ?_
    clear HL
    rintro e w0 ⟨rfl, rfl⟩
    go_wp2_with fail
    obtain ⟨w1, b, q, hC, hB⟩ := mp_start w0
    rw [q]; clear q
    go_wp2_with fail
    obtain ⟨w2, q, hC, hB⟩ := mp_step hC hB 97 ⟨#[52]⟩ (by decide +kernel)
    rw [q]; clear q
    go_wp2_with fail
    obtain ⟨w3, q, hC, hB⟩ := mp_step hC hB 101 ⟨#[51]⟩ (by decide +kernel)
    rw [q]; clear q
    go_wp2_with fail
    obtain ⟨w4, q, hC, hB⟩ := mp_step hC hB 105 ⟨#[49]⟩ (by decide +kernel)
    rw [q]; clear q
    go_wp2_with fail
    obtain ⟨w5, q, hC, hB⟩ := mp_step hC hB 111 ⟨#[48]⟩ (by decide +kernel)
    rw [q]; clear q
    go_wp2_with fail
    obtain ⟨w6, q, hC, hB⟩ := mp_step hC hB 115 ⟨#[53]⟩ (by decide +kernel)
    rw [q]; clear q
    go_wp2_with fail
    obtain ⟨w7, q, hC, hB⟩ := mp_step hC hB 116 ⟨#[55]⟩ (by decide +kernel)
    rw [q]; clear q
    have hl := (mp_look hC 111 ⟨#[48]⟩ (by decide +kernel)).2
    go_wp2
    go_ret
    exact ⟨rfl, hB.out.2⟩
  by_cases h115 : z = 115
  · subst h115
    rw [show runesBytes (Sh.by1 Sh.ltL 115) = ⟨#[53]⟩ by decide +kernel]
    clear HP
    go_enter Tryz.func14, Tryz.ntmps14
    go_wp2_with fail
    refine (HL.out _).mono ?_
    clear HL
    rintro e w0 ⟨rfl, rfl⟩
    go_wp2_with fail
    obtain ⟨w1, b, q, hC, hB⟩ := mp_start w0
    rw [q]; clear q
    go_wp2_with fail
    obtain ⟨w2, q, hC, hB⟩ := mp_step hC hB 97 ⟨#[52]⟩ (by decide +kernel)
    rw [q]; clear q
    go_wp2_with fail
    obtain ⟨w3, q, hC, hB⟩ := mp_step hC hB 101 ⟨#[51]⟩ (by decide +kernel)
    rw [q]; clear q
    go_wp2_with fail
    obtain ⟨w4, q, hC, hB⟩ := mp_step hC hB 105 ⟨#[49]⟩ (by decide +kernel)
    rw [q]; clear q
    go_wp2_with fail
    obtain ⟨w5, q, hC, hB⟩ := mp_step hC hB 111 ⟨#[48]⟩ (by decide +kernel)
    rw [q]; clear q
    go_wp2_with fail
    obtain ⟨w6, q, hC, hB⟩ := mp_step hC hB 115 ⟨#[53]⟩ (by decide +kernel)
    rw [q]; clear q
    go_wp2_with fail
    obtain ⟨w7, q, hC, hB⟩ := mp_step hC hB 116 ⟨#[55]⟩ (by decide +kernel)
    rw [q]; clear q
    have hl := (mp_look hC 115 ⟨#[53]⟩ (by decide +kernel)).2
    go_wp2
    go_ret
    exact ⟨rfl, hB.out.2⟩
  by_cases h116 : z = 116
  · subst h116
    rw [show runesBytes (Sh.by1 Sh.ltL 116) = ⟨#[55]⟩ by decide +kernel]
    clear HP
    go_enter Tryz.func14, Tryz.ntmps14
    go_wp2_with fail
    refine (HL.out _).mono ?_
    clear HL
    rintro e w0 ⟨rfl, rfl⟩
    go_wp2_with fail
    obtain ⟨w1, b, q, hC, hB⟩ := mp_start w0
    rw [q]; clear q
    go_wp2_with fail
    obtain ⟨w2, q, hC, hB⟩ := mp_step hC hB 97 ⟨#[52]⟩ (by decide +kernel)
    rw [q]; clear q
    go_wp2_with fail
    obtain ⟨w3, q, hC, hB⟩ := mp_step hC hB 101 ⟨#[51]⟩ (by decide +kernel)
    rw [q]; clear q
    go_wp2_with fail
    obtain ⟨w4, q, hC, hB⟩ := mp_step hC hB 105 ⟨#[49]⟩ (by decide +kernel)
    rw [q]; clear q
    go_wp2_with fail
    obtain ⟨w5, q, hC, hB⟩ := mp_step hC hB 111 ⟨#[48]⟩ (by decide +kernel)
    rw [q]; clear q
    go_wp2_with fail
    obtain ⟨w6, q, hC, hB⟩ := mp_step hC hB 115 ⟨#[53]⟩ (by decide +kernel)
    rw [q]; clear q
    go_wp2_with fail
    obtain ⟨w7, q, hC, hB⟩ := mp_step hC hB 116 ⟨#[55]⟩ (by decide +kernel)
    rw [q]; clear q
    have hl := (mp_look hC 116 ⟨#[55]⟩ (by decide +kernel)).2
    go_wp2
    go_ret
    exact ⟨rfl, hB.out.2⟩
  have hb : Sh.by1 Sh.ltL z = [z] := by
    unfold Sh.by1 Sh.ltL
    simp only [Sh.look, Sh.memb1, decide_eq_true_eq]
    rw [if_neg h97, if_neg h101, if_neg h105, if_neg h111, if_neg h115, if_neg h116]
    rfl
  rw [hb]
  clear hb
  go_enter Tryz.func14, Tryz.ntmps14
  go_wp2_with fail
  refine (HL.out _).mono ?_
  clear HL
  rintro e w0 ⟨rfl, rfl⟩
  go_wp2_with fail
  obtain ⟨w1, b, q, hC, hB⟩ := mp_start w0
  rw [q]; clear q
  go_wp2_with fail
  obtain ⟨w2, q, hC, hB⟩ := mp_step hC hB 97 ⟨#[52]⟩ (by decide +kernel)
  rw [q]; clear q
  go_wp2_with fail
  obtain ⟨w3, q, hC, hB⟩ := mp_step hC hB 101 ⟨#[51]⟩ (by decide +kernel)
  rw [q]; clear q
  go_wp2_with fail
  obtain ⟨w4, q, hC, hB⟩ := mp_step hC hB 105 ⟨#[49]⟩ (by decide +kernel)
  rw [q]; clear q
  go_wp2_with fail
  obtain ⟨w5, q, hC, hB⟩ := mp_step hC hB 111 ⟨#[48]⟩ (by decide +kernel)
  rw [q]; clear q
  go_wp2_with fail
  obtain ⟨w6, q, hC, hB⟩ := mp_step hC hB 115 ⟨#[53]⟩ (by decide +kernel)
  rw [q]; clear q
  go_wp2_with fail
  obtain ⟨w7, q, hC, hB⟩ := mp_step hC hB 116 ⟨#[55]⟩ (by decide +kernel)
  rw [q]; clear q
  have hl := mp_none hC z (by
    unfold Sh.got
    simp [h97, h101, h105, h111, h115, h116])
  have HB : Hid (Below w0.heap.size w0 w7) := hB.out.2
  go_wp2_with fail
  refine (HP.out _).mono ?_
  clear HP
  rintro e w8 ⟨rfl, b8⟩
  have HB2 : Hid (Below w0.heap.size w0 w8) := HB.out.trans (b8.mono HB.out.size)
  clear b8
  go_wp2
  go_ret
  exact ⟨rfl, HB2.out⟩

end Go.Proofs.YtgbhkkojkpndmaaGreatDoor
namespace Go.Proofs.YtgbhkkojkpndmaaGreatDoor
open Go.RowKit Go.Lib
set_option maxRecDepth 20000
set_option linter.unusedSimpArgs false
set_option linter.unusedVariables false

set_option maxHeartbeats 8000000 in
theorem shelfLeet_any (hK : T.ClassOk) (w : World) (s : ByteArray) : Calls Tryz.prog 4 #[.string s] w fun e w' => e = .returned (.bool true) ∧ Below w.heap.size w w' := by
  have HS : Hid (∀ X, Calls Tryz.prog 9 #[.string s] X fun e w' => e = .returned (.bool (decide (s.size ≤ 1000))) ∧ w' = X) := fun X => zcd s X
  by_cases hs : s.size ≤ 1000
  · rw [decide_eq_true hs] at HS
    obtain ⟨pl, hpl⟩ := Cn.zgu
    have htl : (M.rn s).length ≤ 1000 := Nat.le_trans (M.zb3 s) hs
    have hR := zcq s
    have hF : ∀ r, M.right r = true → ∀ z ∈ (fun r => Sh.by1 Sh.ltL (Cn.low r)) r, M.right z = true := fun r hr => Sh.by_right (by decide) (Sh.low_right hr)
    have h4 : ∀ r, ((fun r => Sh.by1 Sh.ltL (Cn.low r)) r).length ≤ 4 := fun r => Sh.by_len (by decide) _
    have hRb := Sh.by_right1 hF hR
    have HBy : Hid (∀ X, Calls Tryz.prog 11 #[.string s, .func (.func 14) #[] #[]] X fun e w' => e = .returned (.string (runesBytes ((M.rn s).flatMap (fun r => Sh.by1 Sh.ltL (Cn.low r))))) ∧ Below X.heap.size X w') := fun X =>
      shBy_any s hs X 14 #[] (fun r => Sh.by1 Sh.ltL (Cn.low r)) h4 hF (enters_of Tryz.func14 (by kernel_rfl) rfl) (fun W r _ hr => shLee1_any r hr W)
    have HT1 : Hid (∀ X, Calls Tryz.prog 10 #[.string { data := #[108, 101, 101, 116] }, .string s, .string (runesBytes ((M.rn s).flatMap (fun r => Sh.by1 Sh.ltL (Cn.low r))))] X fun e w' => e = .returned (.bool true) ∧ Below X.heap.size X w') := fun X =>
      zbj hK Sh.nLeet _ Sh.scr_l s (by omega) pl hpl _ (Sh.go_leet hpl htl hR) hRb _ rfl X
    clear htl hR hF h4 hRb hpl hs
    generalize runesBytes ((M.rn s).flatMap (fun r => Sh.by1 Sh.ltL (Cn.low r))) = want at *
    go_enter Tryz.func4, Tryz.ntmps4
    go_wp2_with fail
    refine (HS.out _).mono ?_
    rintro e w0 ⟨rfl, rfl⟩
    clear HS
    go_wp2_with fail
    refine (HBy.out _).mono ?_
    clear HBy
    rintro e w1 ⟨rfl, b1⟩
    have HB1 : Hid (Below w0.heap.size w0 w1) := b1
    clear b1
    go_wp2_with fail
    refine (HT1.out _).mono ?_
    clear HT1
    rintro e w2 ⟨rfl, b2⟩
    have HB2 : Hid (Below w0.heap.size w0 w2) := HB1.out.trans (b2.mono HB1.out.size)
    clear b2
    go_wp2
    go_ret
    exact ⟨rfl, HB2.out⟩
  · rw [decide_eq_false hs] at HS
    clear hs
    go_enter Tryz.func4, Tryz.ntmps4
    go_wp2_with fail
    refine (HS.out _).mono ?_
    rintro e w0 ⟨rfl, rfl⟩
    clear HS
    go_wp2
    go_ret
    exact ⟨rfl, Below.refl _ _⟩

end Go.Proofs.YtgbhkkojkpndmaaGreatDoor
namespace Go.Proofs.YtgbhkkojkpndmaaGreatDoor
open Go.ChangeShapes Go.WideShapes Go.ChangeAt Go.RowKit
open Go.ChangeMaps (open_string shut_string)
set_option linter.unusedVariables false
set_option linter.unusedSimpArgs false

set_option maxRecDepth 100000 in
theorem shelfLeetArgs {H : Type} {enc : TypeId × Value → H} {W : World} {base : Nat} {args : Array Value} {ds gs : List (DataW H)} {p : List MemPlace}
    (hval : ∀ (j : Nat) t v, Tryz.f4.params[j]? = some t → args[j]? = some v → Value.okWide Tryz.prog W .any base t v)
    (hA : DataW.TrodAll enc Tryz.prog W 0 (fun _ => true) true Tryz.f4.params.toList args.toList ds p)  :
    Calls Tryz.prog 4 args W fun e W' => e = .returned (.bool true) ∧ Below W.heap.size W W' := by
  rw [Tryz.params4] at hA hval
  obtain ⟨v0, vs0, d0, ds0, p0, q0, hargs, rfl, rfl, h0, r0⟩ := trodAll_cons hA
  obtain ⟨rfl, rfl, rfl⟩ := trodAll_nil r0
  obtain rfl : args = #[v0] := by cases args; simp_all
  obtain ⟨a0, rfl, rfl, rfl, w0⟩ := open_string Tryz.underlying9 (hval 0 9 v0 rfl rfl) h0
  exact shelfLeet_any zei W a0

set_option maxRecDepth 100000 in
theorem shelfLeetContract (H : Type) (enc : TypeId × Value → H) (F : Stop.Interp) (W : World) (base : Nat) (args : Array Value) (ds gs : List (DataW H)) (before : List MemPlace)
    (hval : ∀ (j : Nat) t v, Tryz.f4.params[j]? = some t → args[j]? = some v → Value.okWide Tryz.prog W .any base t v)
    (hW : DataW.Whole enc Tryz.prog Tryz.f4.params.toList (OpenSpec.ofChange Rows.shelfLeetSpec).vars false W args.toList ds gs before) (hL : laidMetH Tryz.prog Rows.shelfLeetRow.laid W) :
    Calls Tryz.prog 4 args W fun e W' => ∃ v, e = .returned v ∧ ((OpenSpec.ofChange Rows.shelfLeetSpec).at F).post enc Tryz.prog Tryz.f4 false true false false W args v W' := by
  have hW' := hW
  obtain ⟨p, q, hA0, hV, rfl, hfz, hnd⟩ := hW
  have hA : DataW.TrodAll enc Tryz.prog W 0 (fun _ => true) true Tryz.f4.params.toList args.toList ds p := hA0
  obtain ⟨rfl, rfl⟩ := trodVars_none hV
  refine (shelfLeetArgs hval hA (gs := [])).mono fun e W' ⟨he, bel⟩ => ?_
  subst he
  have hA' := zbb Tryz.laidOut bel _ _ _ _ (by kernel_rfl) hA
  obtain ⟨x0, rfl⟩ : ∃ x0, ds = [x0] := by
    rw [Tryz.params4] at hA
    obtain ⟨v0, vs0, d0, ds0, p0, q0, hargs, rfl, rfl, h0, r0⟩ := trodAll_cons hA
    obtain ⟨rfl, rfl, rfl⟩ := trodAll_nil r0
    exact ⟨_, rfl⟩
  exact ⟨_, rfl, _, _, _, [], p, [], hW', trodAll_mk1 (shut_bool Tryz.underlying4 _), hA', rfl, bel.frame _, fun h => by cases h⟩

/-- a world that holds the tables and the sentinels -/
noncomputable def shelfLeetLow : Nat := (World.holding Tryz.prog default ⟨#[], #[], []⟩).heap.size
noncomputable def shelfLeetWorld (os : Os) : World :=
  let w0 := World.holding Tryz.prog os ⟨#[.cells #[.string ⟨#[105, 110, 118, 97, 108, 105, 100, 32, 115, 121, 110, 116, 97, 120]⟩] 282, .cells #[.string ⟨#[118, 97, 108, 117, 101, 32, 111, 117, 116, 32, 111, 102, 32, 114, 97, 110, 103, 101]⟩] 282], #[], []⟩
  { w0 with heap := ((((w0.heap.modify 3 (relay pow10Cells)).modify 4 (relay tab32Cells)).modify 5 (relay tab64Cells)).modify 1 (relay #[.iface 280 (.pointer (some ⟨shelfLeetLow, 0, none⟩))])).modify 2 (relay #[.iface 280 (.pointer (some ⟨shelfLeetLow + 1, 0, none⟩))]) }
theorem shelfLeetMet (os : Os) : laidMet Tryz.prog Rows.shelfLeetRow.laid ((shelfLeetWorld os).forCall (fun _ _ => 0) ⟨#[], #[.string .empty], []⟩).memory :=
  laidMet_of_run' 8 (by kernel_rfl) (by kernel_rfl)
theorem shelfLeetReads (os : Os) {H : Type} (enc : TypeId × Value → H) : ∃ places, DataW.whole enc Tryz.prog ((shelfLeetWorld os).forCall (fun _ _ => 0) ⟨#[], #[.string .empty], []⟩).memory Tryz.f4.params.toList (OpenSpec.ofChange Rows.shelfLeetSpec).vars false (#[.string .empty] : Array Value).toList 8 = some ([.lit (.string [])], [], places) :=
  ⟨[], by kernel_rfl⟩

set_option maxRecDepth 100000 in
theorem shelfLeetLifted (os : Os) (started : os.Started) (H : Type) (enc : TypeId × Value → H) (F : Stop.Interp) :
    ReturnsInHanded {} Tryz.checked os 4 .any ((OpenSpec.ofChange Rows.shelfLeetSpec).preRow enc Tryz.prog Tryz.f4 Rows.shelfLeetRow.domain false Rows.shelfLeetRow.laid) (((OpenSpec.ofChange Rows.shelfLeetSpec).at F).post enc Tryz.prog Tryz.f4 false true false false) := by
  obtain ⟨places, hx⟩ := shelfLeetReads os enc
  refine returnsInHanded_of_row (C := Tryz.checked) (s := (OpenSpec.ofChange Rows.shelfLeetSpec)) Tryz.own started (by kernel_rfl) Tryz.func4
    (witness_row_at (enc := enc) (C := Tryz.checked) false (shelfLeetWorld os) #[.string .empty] rfl (by kernel_rfl) (by kernel_rfl) (by kernel_rfl)
      (OpenSpec.preRow_of_cond 8 hx (by kernel_rfl) (fun k hk => by cases hk) (by kernel_rfl) (shelfLeetMet os))) ?_
  intro W base args ds gs before hval hW _ hk _ hL _ _
  exact shelfLeetContract H enc F W base args ds gs before hval hW hL

theorem shelfLeetC0 : (Rows.shelfLeetRow.inPlace == Tryz.pinned.checked.prog.inPlace 4) = true := by kernel_rfl
theorem shelfLeetC1 : (Rows.shelfLeetRow.unfollowed == Tryz.pinned.checked.prog.unfollowed 4) = true := by kernel_rfl
theorem shelfLeetC2 : (Rows.shelfLeetRow.recurses == Tryz.pinned.checked.prog.recurses 4) = true := by kernel_rfl
theorem shelfLeetC3 : (Rows.shelfLeetRow.named == Tryz.pinned.checked.prog.varsNamed 4) = true := by kernel_rfl
theorem shelfLeetClosed : joinedFacts Tryz.pinned.checked.prog 4 Tryz.f4 (OpenSpec.ofChange Rows.shelfLeetSpec).bare Rows.shelfLeetRow = true := by
  unfold joinedFacts
  rw [shelfLeetC0, shelfLeetC1, shelfLeetC2, shelfLeetC3]
  kernel_rfl
theorem shelfLeetNamed : Tryz.pinned.checked.prog.funcNamed Rows.shelfLeetRow.func = some 4 := by kernel_rfl

theorem shelfLeetSaid : Rows.ShelfLeetSaid :=
  OpenClaim.holds_of_cond 4 Tryz.f4 rfl rfl rfl rfl rfl rfl rfl ⟨rfl, rfl, rfl, rfl, rfl⟩ rfl rfl rfl rfl rfl shelfLeetNamed Tryz.func4 shelfLeetClosed
    (of_decide_eq_true (by kernel_rfl)) (by unfold Func.isWrapper; first | (rw [if_pos (by decide +kernel)]; kernel_rfl) | (rw [if_neg (by decide +kernel)]; exact ⟨rfl, rfl⟩))
    (fun os started H enc _ F => by rw [OpenClaim.pre_eq_preRow]; exact shelfLeetLifted os started H enc F)

theorem shelfLeetPlain (f : FuncId) (fn : Func) (hf : Tryz.pinned.checked.prog.funcNamed "scriptshift/scriptlaw16.ShelfLeet" = some f) (hfn : Tryz.pinned.checked.prog.funcs[f]? = some fn) :
    true = Tryz.pinned.checked.prog.looks [] ∧ ∀ (j : Nat) t, fn.params[j]? = some t → Tryz.pinned.checked.prog.wantsStandIn t = false := by
  obtain rfl : f = 4 := Option.some.inj ((show Tryz.prog.funcNamed "scriptshift/scriptlaw16.ShelfLeet" = some 4 by kernel_rfl).symm.trans hf) |>.symm
  obtain rfl : fn = Tryz.f4 := (Option.some.inj (Tryz.func4.symm.trans hfn)).symm
  refine ⟨by kernel_rfl, fun j t ht => ?_⟩
  rw [Tryz.params4] at ht
  have hm := Array.mem_of_getElem? ht
  have hm2 : t = 9 := by simpa using hm
  subst hm2
  exact (show Tryz.prog.wantsStandIn 9 = false by kernel_rfl)

theorem shelfLeet_card : Rows.ShelfLeetCardSaid :=
  Claim7.holds_tied_plain_at .later [] _ _ _ _ shelfLeetSaid (fun _ h => by cases h) (by kernel_rfl) (fun _ h => by cases h) shelfLeet_row_tie rfl ⟨rfl, rfl⟩ (by kernel_rfl) rfl shelfLeetPlain (by kernel_rfl)

#print axioms shelfLeet_card
end Go.Proofs.YtgbhkkojkpndmaaGreatDoor
