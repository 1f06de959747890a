/-
  Whether each image comes back: pair.longEnough, image.comesBack, pair.allComeBack.
-/
import Derived.Test.YtkkocnkfdepoiaaPrMade
import Derived.Test.YtkkocnkfdepoiaaPrCat
import Derived.Test.YtkkocnkfdepoiaaYLook
import Derived.Test.YtkkocnkfdepoiaaYReach
import Derived.Test.YtkkocnkfdepoiaaMHere
import Derived.BigQuiet
namespace Go.Proofs.Ytkkocnkfdepoiaa
open Go.RowKit Go.Shelf
set_option maxRecDepth 20000
set_option linter.unusedSimpArgs false
set_option linter.unusedVariables false

set_option maxHeartbeats 1000000 in
theorem long1_any (w : World) (bm : Nat) (most : Nat) (hmo : most ≤ 8000) (hc : w.cell? ⟨bm, 0, none⟩ = some (.int .i64 most)) (v : Value) (m : Int × List Int) (R : Pr.ImIs w v m) (hm : m.2.length ≤ 1000) :
    Calls Try.prog 62 (#[v] ++ #[.pointer (some ⟨bm, 0, none⟩)]) w fun e w' => e = .returned (.bool (Pr.shortB most m)) ∧ Below w.heap.size w w' := by
  obtain ⟨mo, mc, rfl, _⟩ := R
  have HA : Hid (∀ o, Below w.heap.size w (w.alloc o)) := fun o => (Below.refl _ w).alloc (Nat.le_refl _) o
  have hca : ∀ o, (w.alloc o).cell? ⟨bm, 0, none⟩ = some (.int .i64 most) := fun o => K.alloc_cell hc o
  unfold Pr.shortB
  obtain ⟨mu, ml⟩ := m
  simp only at hm ⊢
  clear hc
  show Calls Try.prog 62 #[_, .pointer (some ⟨bm, 0, none⟩)] w _
  by_cases q1 : ml.length = 0
  · rw [q1]
    go_enter Try.func62, Try.ntmps62
    go_wp2
    go_ret
    exact ⟨by simp, HA.out _⟩
  · have q1' : ((ml.length : Int) == 0) = false := beq_eq_false_iff_ne.2 (by omega)
    have e : (decide (ml.length = 0) || decide (2 * ml.length < most)) = decide ((2 : Int) * ml.length < most) := by
      rw [decide_eq_false q1, Bool.false_or]; exact decide_eq_decide.2 (by omega)
    rw [e]
    go_enter Try.func62, Try.ntmps62
    go_wp2
    go_ret
    exact ⟨rfl, HA.out _⟩

set_option maxHeartbeats 1000000 in
theorem long_any (w : World) (vi : Value) (l : List (Int × List Int)) (Ri : Pr.Ims w vi l) (hm : ∀ m ∈ l, m.2.length ≤ 1000) (v : Value) (back : List K.Rule) (R0 : V.Rus w v back) (hE : ∀ r ∈ back, K.ruleE r = 0) :
    Calls Try.prog 36 #[vi, v] w fun e w' => e = .returned (.bool (Pr.longB l back)) ∧ Below w.heap.size w w' := by
  have hmf : ∀ (fn : Fn) (first cap : Array Value) (w : World), (Instr.makeFunc fn first cap).run Try.prog w = .ok (.func fn first cap) w := fun _ _ _ _ => rfl
  have HR : Hid (Calls Try.prog 60 #[v] w fun e w' => e = .returned (.tuple #[.int .i64 (K.behind back), .int .i64 (K.ahead back)]) ∧ Below w.heap.size w w') := yReach_any w v back R0
  have hah := K.ahead_le hE
  unfold Pr.longB
  generalize K.behind back = bh at *
  generalize K.ahead back = ah at *
  have HC : Hid (∀ X, Below w.heap.size w X → Calls Try.prog 61 #[vi, .func (.func 62) #[] #[.pointer (some ⟨X.heap.size, 0, none⟩)]] (X.alloc (.cells #[.int .i64 ah] 3)) fun e w' => e = .returned (.bool (l.any (Pr.shortB ah))) ∧ Below (X.alloc (.cells #[.int .i64 ah] 3)).heap.size (X.alloc (.cells #[.int .i64 ah] 3)) w') := fun X hX => by
    have hb := K.one_box (w := X) (Below.refl _ (X.alloc (.cells #[.int .i64 ah] 3)))
    exact imAny_any _ vi l ((Ri.below hX).below hb.2.1) 62 _ (Pr.shortB ah) (enters_of Try.func62 (by kernel_rfl) rfl)
      (fun W m u hW hm' hu => long1_any W X.heap.size ah (by omega) (K.at_box (i := 0) (K.blk_below hb.1 hW) rfl) u m hu (hm m hm'))
  generalize l.any (Pr.shortB ah) = z at *
  obtain ⟨ao, cap, rfl⟩ := R0.len
  obtain ⟨io, ic, rfl⟩ := Ri.len
  clear R0 Ri hE
  go_enter Try.func36, Try.ntmps36
  go_wp2_with fail
  refine HR.out.mono ?_
  rintro e w1 ⟨rfl, b1⟩
  have HB1 : Hid (Below w.heap.size w w1) := b1
  have HC1 := HC.out w1 b1
  clear b1 HR HC
  go_wp2_with fail
  refine HC1.mono ?_
  rintro e w2 ⟨rfl, b2⟩
  have HB2 : Hid (Below w.heap.size w w2) := HB1.out.trans ((K.one_box b2).2.1.mono HB1.out.size)
  clear b2 HC1
  cases z with
  | false => go_wp2; go_ret; exact ⟨rfl, HB2.out⟩
  | true => go_wp2; go_ret; exact ⟨rfl, HB2.out⟩

set_option maxHeartbeats 1000000 in
theorem back1_any (w : World) (v : Value) (r : K.Rule) (R : K.RuIs w v r) (hE : K.ruleE r = 0) (vt : Value) (t : List Int) (Rt : L.Rd w vt .i32 t) (ht : t.length ≤ 4000) (bt : Nat) (c1 : w.cell? ⟨bt, 0, none⟩ = some vt) :
    Calls Try.prog 81 (#[v] ++ #[.pointer (some ⟨bt, 0, none⟩)]) w fun e w' => e = .returned (.bool (K.matchB r t 0)) ∧ Below w.heap.size w w' := by
  have HA : Hid (∀ o, Below w.heap.size w (w.alloc o)) := fun o => (Below.refl _ w).alloc (Nat.le_refl _) o
  have HH : Hid (∀ o, Calls Try.prog 69 #[v, .iface 79 vt, .int .i64 0] (w.alloc o) fun e w' => e = .returned (.bool (K.matchB r t 0)) ∧ Below (w.alloc o).heap.size (w.alloc o) w') := fun o => mHere_any _ v r (R.below (HA.out o)) hE vt t (Rt.below (HA.out o) (Nat.le_refl _)) ht 0 (by omega) (by omega)
  have d1 : ∀ o, (w.alloc o).cell? ⟨bt, 0, none⟩ = some vt := fun o => K.alloc_cell c1 o
  obtain ⟨bo, bc, so, sc, ao, ac, tgo, tc, rfl, _⟩ := R
  obtain ⟨xo, xc, rfl, _⟩ := Rt
  generalize K.matchB r t 0 = mb at *
  clear hE
  show Calls Try.prog 81 #[_, .pointer (some ⟨bt, 0, none⟩)] w _
  go_enter Try.func81, Try.ntmps81
  go_wp2_with fail
  refine (HH.out _).mono ?_
  rintro e w1 ⟨rfl, b1⟩
  have HB1 : Hid (Below w.heap.size w w1) := (K.one_box b1).2.1
  clear b1 d1 c1
  go_wp2
  go_ret
  exact ⟨by simp, HB1.out⟩

end Go.Proofs.Ytkkocnkfdepoiaa

/-
  Whether of an image, with others behind it, its number comes: image.comesBack.
-/
namespace Go.Proofs.Ytkkocnkfdepoiaa
open Go.RowKit Go.Shelf
set_option maxRecDepth 20000
set_option linter.unusedSimpArgs false
set_option linter.unusedVariables false

set_option maxHeartbeats 4000000 in
theorem comes_none (w : World) (m : Int × List Int) (mo : Option Addr) (mc : Nat) (Rm : L.Rd w (.slice mo m.2.length mc) .i32 m.2) (hm : m.2.length ≤ 1000) (v : Value) (back : List K.Rule) (R0 : V.Rus w v back) (hl : back.length ≤ 200) (hE : ∀ r ∈ back, K.ruleE r = 0) (vh : Value) (bh : List Int) (Rh : L.Rd w vh .i32 bh) (hh : bh.length ≤ 1000) (hk : K.which back (m.2 ++ bh) 0 = -1) :
    Calls Try.prog 65 #[.agg #[.int .i32 m.1, .slice mo m.2.length mc], v, vh] w fun e w' => e = .returned (.bool (decide (m.2 = [m.1]))) ∧ Below w.heap.size w w' := by
  have hmf : ∀ (fn : Fn) (first cap : Array Value) (w : World), (Instr.makeFunc fn first cap).run Try.prog w = .ok (.func fn first cap) w := fun _ _ _ _ => rfl
  obtain ⟨X, hX⟩ : ∃ X, X = (w.alloc (.cells #[.int .i32 m.1, .slice mo m.2.length mc] 92)).alloc (.cells #[.slice mo m.2.length mc, vh] 28) := ⟨_, rfl⟩
  have hb := K.two_boxes (w := w) (Below.refl _ ((w.alloc (.cells #[.int .i32 m.1, .slice mo m.2.length mc] 92)).alloc (.cells #[.slice mo m.2.length mc, vh] 28)))
  rw [← hX] at hb
  have HX : Hid (X.heap[w.heap.size]? = some (.cells #[.int .i32 m.1, .slice mo m.2.length mc] 92) ∧ Below w.heap.size w X ∧ w.heap.size + 2 ≤ X.heap.size) := ⟨hb.1, hb.2.2.1, hb.2.2.2⟩
  have HCt : Hid (Calls Try.prog 80 #[.slice (some ⟨w.heap.size + 1, 0, none⟩) 2 2] X fun e w' => ∃ v, e = .returned v ∧ w'.ownsRow X.heap.size 21 1 v (m.2 ++ bh).length ((m.2 ++ bh).map (Value.int .i32)) ∧ Below X.heap.size X w') :=
    concat2_any X (w.heap.size + 1) _ _ m.2 bh (K.at_box (i := 0) hb.2.1 rfl) (K.at_box (i := 1) hb.2.1 rfl) (Rm.below hb.2.2.1 (Nat.le_refl _)) (Rh.below hb.2.2.1 (Nat.le_refl _)) (by omega)
  have HR : Hid (V.Rus w v back ∧ (∀ r ∈ back, K.ruleE r = 0) ∧ L.Rd w (.slice mo m.2.length mc) .i32 m.2 ∧ (m.2 ++ bh).length ≤ 4000) := ⟨R0, hE, Rm, by rw [List.length_append]; omega⟩
  have hwh : K.which back (m.2 ++ bh) 0 = Pr.firstI (fun r => K.matchB r (m.2 ++ bh) 0) back := Pr.which_first
  have HI : Hid (∀ (w1 W : World) (ta : Option Addr) (tc : Nat) (bt : Nat), Below w.heap.size w w1 → L.Rd w1 (.slice ta (m.2 ++ bh).length tc) .i32 (m.2 ++ bh) → Below w1.heap.size w1 W → W.heap[bt]? = some (.cells #[.slice ta (m.2 ++ bh).length tc] 79) → Calls Try.prog 67 #[v, .func (.func 81) #[] #[.pointer (some ⟨bt, 0, none⟩)]] W fun e w' => e = .returned (.int .i64 (K.which back (m.2 ++ bh) 0)) ∧ Below W.heap.size W w') := fun w1 W ta tc bt h1 hr h2 hbt => by
    rw [hwh]
    exact ruFirst_any W v back ((R0.below h1).below h2) _ _ (fun r => K.matchB r (m.2 ++ bh) 0) (enters_of Try.func81 (by kernel_rfl) rfl)
      (fun W' r u hW hr' hu => back1_any W' u r hu (hE r hr') _ (m.2 ++ bh) ((hr.below h2 (Nat.le_refl _)).below hW (Nat.le_refl _)) (by rw [List.length_append]; omega) bt (K.at_box (i := 0) (K.blk_below hbt hW) rfl))
  obtain ⟨ho, hc, rfl⟩ : ∃ ho hc, vh = .slice ho bh.length hc := by obtain ⟨a, c, h, _⟩ := Rh; exact ⟨a, c, h⟩
  obtain ⟨aa, ca, rfl⟩ := R0.len
  clear hb hwh R0 Rm Rh hE
  obtain ⟨mu, ml⟩ := m
  simp only at *
  obtain ⟨tl, htl⟩ : ∃ tl, tl = ml ++ bh := ⟨_, rfl⟩
  rw [← htl] at HCt HR HI hk
  clear htl
  rw [hk] at HI
  clear hk
  obtain ⟨z, HZ⟩ : ∃ z, Hid (decide (ml = [mu]) = z) := ⟨_, rfl⟩
  rw [HZ.out]
  go_enter Try.func65, Try.ntmps65
  go_wp2_with fail
  rw [← hX]
  refine HCt.out.mono ?_
  rintro e w1 ⟨v1, rfl, own1, b1⟩
  have hrd : L.Rd w1 v1 .i32 tl := L.Rd.of_owns own1
  obtain ⟨ta, tc, rfl⟩ : ∃ ta tc, v1 = .slice ta tl.length tc := by obtain ⟨a, c, h, _⟩ := hrd; exact ⟨a, c, h⟩
  have HRd : Hid (L.Rd w1 (.slice ta tl.length tc) .i32 tl) := hrd
  have HB1 : Hid (Below w.heap.size w w1) := HX.out.2.1.trans (b1.mono (by have := HX.out.2.2; omega))
  have HX1 : Hid (w1.heap[w.heap.size]? = some (.cells #[.int .i32 mu, .slice mo ml.length mc] 92)) := K.blk_below HX.out.1 b1
  have x0 : ∀ o, (w1.alloc o).cell? ⟨w.heap.size, 0, none⟩ = some (.int .i32 mu) := fun o => K.alloc_cell (K.at_box (i := 0) HX1.out rfl) o
  obtain ⟨Y, hY⟩ : ∃ Y, Y = (w1.alloc (.cells #[.slice ta tl.length tc] 79)).alloc (.cells #[.int .i32 mu] 21) := ⟨_, rfl⟩
  have hb2 := K.two_boxes (w := w1) (Below.refl _ ((w1.alloc (.cells #[.slice ta tl.length tc] 79)).alloc (.cells #[.int .i32 mu] 21)))
  rw [← hY] at hb2
  have HY : Hid (Y.heap[w1.heap.size + 1]? = some (.cells #[.int .i32 mu] 21) ∧ Below w1.heap.size w1 Y ∧ w1.heap.size + 2 ≤ Y.heap.size) := ⟨hb2.2.1, hb2.2.2.1, hb2.2.2.2⟩
  have HI2 := HI.out w1 Y ta tc w1.heap.size HB1.out hrd hb2.2.2.1 hb2.1
  clear hrd own1 b1 HCt HI hb2 hX
  go_wp2_with fail
  rw [← hY]
  refine HI2.mono ?_
  rintro e w2 ⟨rfl, b2⟩
  have HB12 : Hid (Below w1.heap.size w1 w2) := HY.out.2.1.trans (b2.mono (by have := HY.out.2.2; omega))
  have HB2 : Hid (Below w.heap.size w w2) := HB1.out.trans (HB12.out.mono HB1.out.size)
  have HX2 := K.blk_below HX1.out HB12.out
  have y0 := K.at_box (i := 0) HX2 rfl
  have y1 := K.at_box (i := 1) HX2 rfl
  have hnb : w2.heap[w1.heap.size + 1]? = some (.cells #[.int .i32 mu] 21) := K.blk_below HY.out.1 b2
  have HNu : Hid (L.Rd w2 (.slice (some ⟨w1.heap.size + 1, 0, none⟩) 1 1) .i32 [mu]) := ⟨_, _, rfl, fun e => (by cases e), fun _ => ⟨_, 0, rfl, fun j y hj => by
    match j, hj with
    | 0, hj => cases hj; exact K.at_box hnb rfl
    | n + 1, hj => simp at hj⟩⟩
  clear b2 HI2 HX2 hnb x0 hY
  have HEq : Hid (Calls Try.prog 82 #[.slice mo ml.length mc, .slice (some ⟨w1.heap.size + 1, 0, none⟩) 1 1] w2 fun e w' => e = .returned (.bool z) ∧ Below w2.heap.size w2 w') := by
    have h := prEqual_any w2 _ _ ml [mu] (HR.out.2.2.1.below HB2.out (Nat.le_refl _)) HNu.out (by omega) (by simp)
    rw [HZ.out] at h
    exact h
  clear HZ HR HX HX1 HY HRd HNu
  go_wp2_with fail
  refine HEq.out.mono ?_
  rintro e w3 ⟨rfl, b3⟩
  have HB3 : Hid (Below w.heap.size w w3) := HB2.out.trans (b3.mono HB2.out.size)
  clear b3 HEq
  go_wp2
  go_ret
  exact ⟨rfl, HB3.out⟩

set_option maxHeartbeats 4000000 in
theorem comes_same (w : World) (m : Int × List Int) (mo : Option Addr) (mc : Nat) (Rm : L.Rd w (.slice mo m.2.length mc) .i32 m.2) (hm : m.2.length ≤ 1000) (v : Value) (back : List K.Rule) (R0 : V.Rus w v back) (hl : back.length ≤ 200) (hE : ∀ r ∈ back, K.ruleE r = 0) (vh : Value) (bh : List Int) (Rh : L.Rd w vh .i32 bh) (hh : bh.length ≤ 1000) (j : Nat) (r : K.Rule) (hj : back[j]? = some r) (hk : K.which back (m.2 ++ bh) 0 = (j : Int)) (q : r.source.length = m.2.length) :
    Calls Try.prog 65 #[.agg #[.int .i32 m.1, .slice mo m.2.length mc], v, vh] w fun e w' => e = .returned (.bool (decide (r.target = [m.1]))) ∧ Below w.heap.size w w' := by
  have hmf : ∀ (fn : Fn) (first cap : Array Value) (w : World), (Instr.makeFunc fn first cap).run Try.prog w = .ok (.func fn first cap) w := fun _ _ _ _ => rfl
  obtain ⟨X, hX⟩ : ∃ X, X = (w.alloc (.cells #[.int .i32 m.1, .slice mo m.2.length mc] 92)).alloc (.cells #[.slice mo m.2.length mc, vh] 28) := ⟨_, rfl⟩
  have hb := K.two_boxes (w := w) (Below.refl _ ((w.alloc (.cells #[.int .i32 m.1, .slice mo m.2.length mc] 92)).alloc (.cells #[.slice mo m.2.length mc, vh] 28)))
  rw [← hX] at hb
  have HX : Hid (X.heap[w.heap.size]? = some (.cells #[.int .i32 m.1, .slice mo m.2.length mc] 92) ∧ Below w.heap.size w X ∧ w.heap.size + 2 ≤ X.heap.size) := ⟨hb.1, hb.2.2.1, hb.2.2.2⟩
  have HCt : Hid (Calls Try.prog 80 #[.slice (some ⟨w.heap.size + 1, 0, none⟩) 2 2] X fun e w' => ∃ v, e = .returned v ∧ w'.ownsRow X.heap.size 21 1 v (m.2 ++ bh).length ((m.2 ++ bh).map (Value.int .i32)) ∧ Below X.heap.size X w') :=
    concat2_any X (w.heap.size + 1) _ _ m.2 bh (K.at_box (i := 0) hb.2.1 rfl) (K.at_box (i := 1) hb.2.1 rfl) (Rm.below hb.2.2.1 (Nat.le_refl _)) (Rh.below hb.2.2.1 (Nat.le_refl _)) (by omega)
  have HR : Hid (V.Rus w v back ∧ (∀ r ∈ back, K.ruleE r = 0) ∧ L.Rd w (.slice mo m.2.length mc) .i32 m.2 ∧ (m.2 ++ bh).length ≤ 4000) := ⟨R0, hE, Rm, by rw [List.length_append]; omega⟩
  have hwh : K.which back (m.2 ++ bh) 0 = Pr.firstI (fun r => K.matchB r (m.2 ++ bh) 0) back := Pr.which_first
  have HI : Hid (∀ (w1 W : World) (ta : Option Addr) (tc : Nat) (bt : Nat), Below w.heap.size w w1 → L.Rd w1 (.slice ta (m.2 ++ bh).length tc) .i32 (m.2 ++ bh) → Below w1.heap.size w1 W → W.heap[bt]? = some (.cells #[.slice ta (m.2 ++ bh).length tc] 79) → Calls Try.prog 67 #[v, .func (.func 81) #[] #[.pointer (some ⟨bt, 0, none⟩)]] W fun e w' => e = .returned (.int .i64 (K.which back (m.2 ++ bh) 0)) ∧ Below W.heap.size W w') := fun w1 W ta tc bt h1 hr h2 hbt => by
    rw [hwh]
    exact ruFirst_any W v back ((R0.below h1).below h2) _ _ (fun r => K.matchB r (m.2 ++ bh) 0) (enters_of Try.func81 (by kernel_rfl) rfl)
      (fun W' r u hW hr' hu => back1_any W' u r hu (hE r hr') _ (m.2 ++ bh) ((hr.below h2 (Nat.le_refl _)).below hW (Nat.le_refl _)) (by rw [List.length_append]; omega) bt (K.at_box (i := 0) (K.blk_below hbt hW) rfl))
  obtain ⟨ho, hc, rfl⟩ : ∃ ho hc, vh = .slice ho bh.length hc := by obtain ⟨a, c, h, _⟩ := Rh; exact ⟨a, c, h⟩
  obtain ⟨aa, ca, rfl⟩ := R0.len
  clear hb hwh R0 Rm Rh hE
  obtain ⟨mu, ml⟩ := m
  simp only at *
  obtain ⟨tl, htl⟩ : ∃ tl, tl = ml ++ bh := ⟨_, rfl⟩
  rw [← htl] at HCt HR HI hk
  clear htl
  rw [hk] at HI
  clear hk
  have hjl := (List.getElem?_eq_some_iff.1 hj).1
  have hjz : (j : Int) < (back.length : Int) := by omega
  have hrE := HR.out.2.1 r (List.mem_of_getElem? hj)
  have hsl := (K.ruleE_zero hrE).2.1.1
  have htg := (K.ruleE_zero hrE).2.2.2.2.1
  obtain ⟨ao', cap', e', _, hcs⟩ := HR.out.1
  cases e'
  obtain ⟨b, off, rfl, hcell⟩ := hcs (by intro h; subst h; simp at hj)
  obtain ⟨bo, bc, so, sc, ao, ac, tgo, tg, _, _, _, a3, _, a5, _, hP⟩ := hcell j r hj
  obtain ⟨bo', bc', so', sc', ao', ac', tgo', tc', e', _, _, _, hT, _⟩ := hP
  have e2 := Value.agg.inj e'
  simp only [Array.mk.injEq, List.cons.injEq, Value.slice.injEq, true_and, and_true] at e2
  obtain ⟨⟨rfl, rfl⟩, ⟨rfl, rfl⟩, ⟨rfl, rfl⟩, rfl, rfl⟩ := e2
  have HA : Hid (w.cell? ⟨b, off + j * 7 + 3, none⟩ = some (.slice so r.source.length sc) ∧ w.cell? ⟨b, off + j * 7 + 5, none⟩ = some (.slice tgo r.target.length tg) ∧ L.Rd w (.slice tgo r.target.length tg) .i32 r.target) := ⟨a3, a5, hT⟩
  clear hT hcs hcell hj e' a3 a5 hrE
  obtain ⟨st, fi, be, sou, af, tar, cu⟩ := r
  simp only at hsl htg HA q
  obtain ⟨z, HZ⟩ : ∃ z, Hid (decide (tar = [mu]) = z) := ⟨_, rfl⟩
  rw [HZ.out]
  have HQ : Hid (sou.length = ml.length) := q
  clear q
  go_enter Try.func65, Try.ntmps65
  go_wp2_with fail
  rw [← hX]
  refine HCt.out.mono ?_
  rintro e w1 ⟨v1, rfl, own1, b1⟩
  have hrd : L.Rd w1 v1 .i32 tl := L.Rd.of_owns own1
  obtain ⟨ta, tc, rfl⟩ : ∃ ta tc, v1 = .slice ta tl.length tc := by obtain ⟨a, c, h, _⟩ := hrd; exact ⟨a, c, h⟩
  have HRd : Hid (L.Rd w1 (.slice ta tl.length tc) .i32 tl) := hrd
  have HB1 : Hid (Below w.heap.size w w1) := HX.out.2.1.trans (b1.mono (by have := HX.out.2.2; omega))
  have HX1 : Hid (w1.heap[w.heap.size]? = some (.cells #[.int .i32 mu, .slice mo ml.length mc] 92)) := K.blk_below HX.out.1 b1
  have x0 : ∀ o, (w1.alloc o).cell? ⟨w.heap.size, 0, none⟩ = some (.int .i32 mu) := fun o => K.alloc_cell (K.at_box (i := 0) HX1.out rfl) o
  obtain ⟨Y, hY⟩ : ∃ Y, Y = (w1.alloc (.cells #[.slice ta tl.length tc] 79)).alloc (.cells #[.int .i32 mu] 21) := ⟨_, rfl⟩
  have hb2 := K.two_boxes (w := w1) (Below.refl _ ((w1.alloc (.cells #[.slice ta tl.length tc] 79)).alloc (.cells #[.int .i32 mu] 21)))
  rw [← hY] at hb2
  have HY : Hid (Y.heap[w1.heap.size + 1]? = some (.cells #[.int .i32 mu] 21) ∧ Below w1.heap.size w1 Y ∧ w1.heap.size + 2 ≤ Y.heap.size) := ⟨hb2.2.1, hb2.2.2.1, hb2.2.2.2⟩
  have HI2 := HI.out w1 Y ta tc w1.heap.size HB1.out hrd hb2.2.2.1 hb2.1
  clear hrd own1 b1 HCt HI hb2 hX
  go_wp2_with fail
  rw [← hY]
  refine HI2.mono ?_
  rintro e w2 ⟨rfl, b2⟩
  have HB12 : Hid (Below w1.heap.size w1 w2) := HY.out.2.1.trans (b2.mono (by have := HY.out.2.2; omega))
  have HB2 : Hid (Below w.heap.size w w2) := HB1.out.trans (HB12.out.mono HB1.out.size)
  have HX2 := K.blk_below HX1.out HB12.out
  have y0 := K.at_box (i := 0) HX2 rfl
  have y1 := K.at_box (i := 1) HX2 rfl
  have hnb : w2.heap[w1.heap.size + 1]? = some (.cells #[.int .i32 mu] 21) := K.blk_below HY.out.1 b2
  have HNu : Hid (L.Rd w2 (.slice (some ⟨w1.heap.size + 1, 0, none⟩) 1 1) .i32 [mu]) := ⟨_, _, rfl, fun e => (by cases e), fun _ => ⟨_, 0, rfl, fun j y hj => by
    match j, hj with
    | 0, hj => cases hj; exact K.at_box hnb rfl
    | n + 1, hj => simp at hj⟩⟩
  clear b2 HI2 HX2 hnb x0 hY
  have c3 : w2.cell? ⟨b, off + j * 7 + 3, none⟩ = some (.slice so sou.length sc) := by rw [HB2.out.cell (p := ⟨b, off + j * 7 + 3, none⟩) (L.block_lt HA.out.1)]; exact HA.out.1
  have c5 : w2.cell? ⟨b, off + j * 7 + 5, none⟩ = some (.slice tgo tar.length tg) := by rw [HB2.out.cell (p := ⟨b, off + j * 7 + 5, none⟩) (L.block_lt HA.out.2.1)]; exact HA.out.2.1
  rw [HQ.out] at c3
  have HEq : Hid (∀ n, Calls Try.prog 82 #[.slice tgo tar.length tg, .slice (some ⟨w1.heap.size + 1, 0, none⟩) 1 1] (w2.drewN n) fun e w' => e = .returned (.bool z) ∧ ∃ m, w' = (w2.drewN n).drewN m) := fun n => by
    have h := prEqual_drew (w2.drewN n) _ _ tar [mu] ((HA.out.2.2.below HB2.out (Nat.le_refl _)).below (below_drewN (Below.refl _ _) _) (Nat.le_refl _)) (HNu.out.below (below_drewN (Below.refl _ _) _) (Nat.le_refl _)) (by omega) (by simp)
    rw [HZ.out] at h
    exact h
  clear HZ HR HA HNu HX HX1 HY HRd HQ HB12 HB1
  go_wp2_with fail
  go_big_quiet (first | (go_at_call 82; exact Calls.quiet_of (HEq.out _)))
  go_wp2
  go_ret
  exact ⟨rfl, below_drewN HB2.out _⟩

set_option maxHeartbeats 4000000 in
theorem comes_other (w : World) (m : Int × List Int) (mo : Option Addr) (mc : Nat) (Rm : L.Rd w (.slice mo m.2.length mc) .i32 m.2) (hm : m.2.length ≤ 1000) (v : Value) (back : List K.Rule) (R0 : V.Rus w v back) (hl : back.length ≤ 200) (hE : ∀ r ∈ back, K.ruleE r = 0) (vh : Value) (bh : List Int) (Rh : L.Rd w vh .i32 bh) (hh : bh.length ≤ 1000) (j : Nat) (r : K.Rule) (hj : back[j]? = some r) (hk : K.which back (m.2 ++ bh) 0 = (j : Int)) (q : ¬ r.source.length = m.2.length) :
    Calls Try.prog 65 #[.agg #[.int .i32 m.1, .slice mo m.2.length mc], v, vh] w fun e w' => e = .returned (.bool (false)) ∧ Below w.heap.size w w' := by
  have hmf : ∀ (fn : Fn) (first cap : Array Value) (w : World), (Instr.makeFunc fn first cap).run Try.prog w = .ok (.func fn first cap) w := fun _ _ _ _ => rfl
  obtain ⟨X, hX⟩ : ∃ X, X = (w.alloc (.cells #[.int .i32 m.1, .slice mo m.2.length mc] 92)).alloc (.cells #[.slice mo m.2.length mc, vh] 28) := ⟨_, rfl⟩
  have hb := K.two_boxes (w := w) (Below.refl _ ((w.alloc (.cells #[.int .i32 m.1, .slice mo m.2.length mc] 92)).alloc (.cells #[.slice mo m.2.length mc, vh] 28)))
  rw [← hX] at hb
  have HX : Hid (X.heap[w.heap.size]? = some (.cells #[.int .i32 m.1, .slice mo m.2.length mc] 92) ∧ Below w.heap.size w X ∧ w.heap.size + 2 ≤ X.heap.size) := ⟨hb.1, hb.2.2.1, hb.2.2.2⟩
  have HCt : Hid (Calls Try.prog 80 #[.slice (some ⟨w.heap.size + 1, 0, none⟩) 2 2] X fun e w' => ∃ v, e = .returned v ∧ w'.ownsRow X.heap.size 21 1 v (m.2 ++ bh).length ((m.2 ++ bh).map (Value.int .i32)) ∧ Below X.heap.size X w') :=
    concat2_any X (w.heap.size + 1) _ _ m.2 bh (K.at_box (i := 0) hb.2.1 rfl) (K.at_box (i := 1) hb.2.1 rfl) (Rm.below hb.2.2.1 (Nat.le_refl _)) (Rh.below hb.2.2.1 (Nat.le_refl _)) (by omega)
  have HR : Hid (V.Rus w v back ∧ (∀ r ∈ back, K.ruleE r = 0) ∧ L.Rd w (.slice mo m.2.length mc) .i32 m.2 ∧ (m.2 ++ bh).length ≤ 4000) := ⟨R0, hE, Rm, by rw [List.length_append]; omega⟩
  have hwh : K.which back (m.2 ++ bh) 0 = Pr.firstI (fun r => K.matchB r (m.2 ++ bh) 0) back := Pr.which_first
  have HI : Hid (∀ (w1 W : World) (ta : Option Addr) (tc : Nat) (bt : Nat), Below w.heap.size w w1 → L.Rd w1 (.slice ta (m.2 ++ bh).length tc) .i32 (m.2 ++ bh) → Below w1.heap.size w1 W → W.heap[bt]? = some (.cells #[.slice ta (m.2 ++ bh).length tc] 79) → Calls Try.prog 67 #[v, .func (.func 81) #[] #[.pointer (some ⟨bt, 0, none⟩)]] W fun e w' => e = .returned (.int .i64 (K.which back (m.2 ++ bh) 0)) ∧ Below W.heap.size W w') := fun w1 W ta tc bt h1 hr h2 hbt => by
    rw [hwh]
    exact ruFirst_any W v back ((R0.below h1).below h2) _ _ (fun r => K.matchB r (m.2 ++ bh) 0) (enters_of Try.func81 (by kernel_rfl) rfl)
      (fun W' r u hW hr' hu => back1_any W' u r hu (hE r hr') _ (m.2 ++ bh) ((hr.below h2 (Nat.le_refl _)).below hW (Nat.le_refl _)) (by rw [List.length_append]; omega) bt (K.at_box (i := 0) (K.blk_below hbt hW) rfl))
  obtain ⟨ho, hc, rfl⟩ : ∃ ho hc, vh = .slice ho bh.length hc := by obtain ⟨a, c, h, _⟩ := Rh; exact ⟨a, c, h⟩
  obtain ⟨aa, ca, rfl⟩ := R0.len
  clear hb hwh R0 Rm Rh hE
  obtain ⟨mu, ml⟩ := m
  simp only at *
  obtain ⟨tl, htl⟩ : ∃ tl, tl = ml ++ bh := ⟨_, rfl⟩
  rw [← htl] at HCt HR HI hk
  clear htl
  rw [hk] at HI
  clear hk
  have hjl := (List.getElem?_eq_some_iff.1 hj).1
  have hjz : (j : Int) < (back.length : Int) := by omega
  have hrE := HR.out.2.1 r (List.mem_of_getElem? hj)
  have hsl := (K.ruleE_zero hrE).2.1.1
  have htg := (K.ruleE_zero hrE).2.2.2.2.1
  obtain ⟨ao', cap', e', _, hcs⟩ := HR.out.1
  cases e'
  obtain ⟨b, off, rfl, hcell⟩ := hcs (by intro h; subst h; simp at hj)
  obtain ⟨bo, bc, so, sc, ao, ac, tgo, tg, _, _, _, a3, _, a5, _, hP⟩ := hcell j r hj
  obtain ⟨bo', bc', so', sc', ao', ac', tgo', tc', e', _, _, _, hT, _⟩ := hP
  have e2 := Value.agg.inj e'
  simp only [Array.mk.injEq, List.cons.injEq, Value.slice.injEq, true_and, and_true] at e2
  obtain ⟨⟨rfl, rfl⟩, ⟨rfl, rfl⟩, ⟨rfl, rfl⟩, rfl, rfl⟩ := e2
  have HA : Hid (w.cell? ⟨b, off + j * 7 + 3, none⟩ = some (.slice so r.source.length sc) ∧ w.cell? ⟨b, off + j * 7 + 5, none⟩ = some (.slice tgo r.target.length tg) ∧ L.Rd w (.slice tgo r.target.length tg) .i32 r.target) := ⟨a3, a5, hT⟩
  clear hT hcs hcell hj e' a3 a5 hrE
  obtain ⟨st, fi, be, sou, af, tar, cu⟩ := r
  simp only at hsl htg HA q
  go_enter Try.func65, Try.ntmps65
  go_wp2_with fail
  rw [← hX]
  refine HCt.out.mono ?_
  rintro e w1 ⟨v1, rfl, own1, b1⟩
  have hrd : L.Rd w1 v1 .i32 tl := L.Rd.of_owns own1
  obtain ⟨ta, tc, rfl⟩ : ∃ ta tc, v1 = .slice ta tl.length tc := by obtain ⟨a, c, h, _⟩ := hrd; exact ⟨a, c, h⟩
  have HRd : Hid (L.Rd w1 (.slice ta tl.length tc) .i32 tl) := hrd
  have HB1 : Hid (Below w.heap.size w w1) := HX.out.2.1.trans (b1.mono (by have := HX.out.2.2; omega))
  have HX1 : Hid (w1.heap[w.heap.size]? = some (.cells #[.int .i32 mu, .slice mo ml.length mc] 92)) := K.blk_below HX.out.1 b1
  have x0 : ∀ o, (w1.alloc o).cell? ⟨w.heap.size, 0, none⟩ = some (.int .i32 mu) := fun o => K.alloc_cell (K.at_box (i := 0) HX1.out rfl) o
  obtain ⟨Y, hY⟩ : ∃ Y, Y = (w1.alloc (.cells #[.slice ta tl.length tc] 79)).alloc (.cells #[.int .i32 mu] 21) := ⟨_, rfl⟩
  have hb2 := K.two_boxes (w := w1) (Below.refl _ ((w1.alloc (.cells #[.slice ta tl.length tc] 79)).alloc (.cells #[.int .i32 mu] 21)))
  rw [← hY] at hb2
  have HY : Hid (Y.heap[w1.heap.size + 1]? = some (.cells #[.int .i32 mu] 21) ∧ Below w1.heap.size w1 Y ∧ w1.heap.size + 2 ≤ Y.heap.size) := ⟨hb2.2.1, hb2.2.2.1, hb2.2.2.2⟩
  have HI2 := HI.out w1 Y ta tc w1.heap.size HB1.out hrd hb2.2.2.1 hb2.1
  clear hrd own1 b1 HCt HI hb2 hX
  go_wp2_with fail
  rw [← hY]
  refine HI2.mono ?_
  rintro e w2 ⟨rfl, b2⟩
  have HB12 : Hid (Below w1.heap.size w1 w2) := HY.out.2.1.trans (b2.mono (by have := HY.out.2.2; omega))
  have HB2 : Hid (Below w.heap.size w w2) := HB1.out.trans (HB12.out.mono HB1.out.size)
  have HX2 := K.blk_below HX1.out HB12.out
  have y0 := K.at_box (i := 0) HX2 rfl
  have y1 := K.at_box (i := 1) HX2 rfl
  have hnb : w2.heap[w1.heap.size + 1]? = some (.cells #[.int .i32 mu] 21) := K.blk_below HY.out.1 b2
  have HNu : Hid (L.Rd w2 (.slice (some ⟨w1.heap.size + 1, 0, none⟩) 1 1) .i32 [mu]) := ⟨_, _, rfl, fun e => (by cases e), fun _ => ⟨_, 0, rfl, fun j y hj => by
    match j, hj with
    | 0, hj => cases hj; exact K.at_box hnb rfl
    | n + 1, hj => simp at hj⟩⟩
  clear b2 HI2 HX2 hnb x0 hY
  have c3 : w2.cell? ⟨b, off + j * 7 + 3, none⟩ = some (.slice so sou.length sc) := by rw [HB2.out.cell (p := ⟨b, off + j * 7 + 3, none⟩) (L.block_lt HA.out.1)]; exact HA.out.1
  have c5 : w2.cell? ⟨b, off + j * 7 + 5, none⟩ = some (.slice tgo tar.length tg) := by rw [HB2.out.cell (p := ⟨b, off + j * 7 + 5, none⟩) (L.block_lt HA.out.2.1)]; exact HA.out.2.1
  have q2 : ((sou.length : Int) == (ml.length : Int)) = false := by simp; omega
  have q3 : decide ((sou.length : Int) = (ml.length : Int)) = false := by simp; omega
  clear HR HA HNu HX HX1 HY HRd HB12 HB1
  go_wp2_with fail
  go_big_quiet (fail)
  go_wp2
  go_ret
  exact ⟨rfl, below_drewN HB2.out _⟩

theorem comes_any (w : World) (m : Int × List Int) (mo : Option Addr) (mc : Nat) (Rm : L.Rd w (.slice mo m.2.length mc) .i32 m.2) (hm : m.2.length ≤ 1000) (v : Value) (back : List K.Rule) (R0 : V.Rus w v back) (hl : back.length ≤ 200) (hE : ∀ r ∈ back, K.ruleE r = 0) (vh : Value) (bh : List Int) (Rh : L.Rd w vh .i32 bh) (hh : bh.length ≤ 1000) :
    Calls Try.prog 65 #[.agg #[.int .i32 m.1, .slice mo m.2.length mc], v, vh] w fun e w' => e = .returned (.bool (Pr.comesB back m bh)) ∧ Below w.heap.size w w' := by
  unfold Pr.comesB
  rcases K.which_is (l := back) (t := m.2 ++ bh) (k := 0) with hk | ⟨j, r, hj, hmt, hk⟩
  · rw [hk, if_pos (by decide)]
    exact comes_none w m mo mc Rm hm v back R0 hl hE vh bh Rh hh hk
  · rw [hk, if_neg (by omega), Int.toNat_natCast, hj]
    simp only [Option.getD_some]
    by_cases q : r.source.length = m.2.length
    · rw [decide_eq_true q, Bool.true_and]
      exact comes_same w m mo mc Rm hm v back R0 hl hE vh bh Rh hh j r hj hk q
    · rw [decide_eq_false q, Bool.false_and]
      exact comes_other w m mo mc Rm hm v back R0 hl hE vh bh Rh hh j r hj hk q

end Go.Proofs.Ytkkocnkfdepoiaa
