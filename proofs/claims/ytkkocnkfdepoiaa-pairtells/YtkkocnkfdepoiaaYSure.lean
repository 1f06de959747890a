/-
  Whether all images come back: pair.allComeBack.
-/
import Derived.Test.YtkkocnkfdepoiaaPrComes
import Derived.Test.YtkkocnkfdepoiaaYIdx
import Derived.Test.YtkkocnkfdepoiaaYReach
import Derived.Lib.MinMax
import Derived.Shelf.Abstract
namespace Go.Proofs.Ytkkocnkfdepoiaa
open Go.RowKit Go.Shelf
set_option maxRecDepth 20000
set_option linter.unusedSimpArgs false
set_option linter.unusedVariables false

set_option maxHeartbeats 1000000 in
theorem all11_any (w : World) (bm bb : Nat) (m : Int × List Int) (mo : Option Addr) (mc : Nat) (hbm : w.heap[bm]? = some (.cells #[.int .i32 m.1, .slice mo m.2.length mc] 92)) (Rm : L.Rd w (.slice mo m.2.length mc) .i32 m.2) (hm : m.2.length ≤ 1000) (vb : Value) (back : List K.Rule) (R0 : V.Rus w vb back) (hl : back.length ≤ 200) (hE : ∀ r ∈ back, K.ruleE r = 0) (hbb : w.cell? ⟨bb, 0, none⟩ = some vb) (v : Value) (nx : Int × List Int) (R : Pr.ImIs w v nx) (hn : nx.2.length ≤ 1000) :
    Calls Try.prog 64 (#[v] ++ #[.pointer (some ⟨bm, 0, none⟩), .pointer (some ⟨bb, 0, none⟩)]) w fun e w' => e = .returned (.bool (!(Pr.comesB back m nx.2))) ∧ Below w.heap.size w w' := by
  obtain ⟨no, nc, rfl, Rn⟩ := R
  have HA : Hid (∀ o, Below w.heap.size w (w.alloc o)) := fun o => (Below.refl _ w).alloc (Nat.le_refl _) o
  have c0 : ∀ o, (w.alloc o).cell? ⟨bm, 0, none⟩ = some (.int .i32 m.1) := fun o => K.alloc_cell (K.at_box (i := 0) hbm rfl) o
  have c1 : ∀ o, (w.alloc o).cell? ⟨bm, 1, none⟩ = some (.slice mo m.2.length mc) := fun o => K.alloc_cell (K.at_box (i := 1) hbm rfl) o
  have c2 : ∀ o, (w.alloc o).cell? ⟨bb, 0, none⟩ = some vb := fun o => K.alloc_cell hbb o
  have HC : Hid (∀ o, Calls Try.prog 65 #[.agg #[.int .i32 m.1, .slice mo m.2.length mc], vb, .slice no nx.2.length nc] (w.alloc o) fun e w' => e = .returned (.bool (Pr.comesB back m nx.2)) ∧ Below (w.alloc o).heap.size (w.alloc o) w') := fun o => comes_any _ m mo mc (Rm.below (HA.out o) (Nat.le_refl _)) hm vb back (R0.below (HA.out o)) hl hE _ nx.2 (Rn.below (HA.out o) (Nat.le_refl _)) hn
  generalize Pr.comesB back m nx.2 = z at *
  obtain ⟨aa, ca, rfl⟩ := R0.len
  obtain ⟨mu, ml⟩ := m
  obtain ⟨nu, nl⟩ := nx
  simp only at *
  clear R0 hE Rm Rn hbm hbb
  show Calls Try.prog 64 #[_, .pointer (some ⟨bm, 0, none⟩), .pointer (some ⟨bb, 0, none⟩)] w _
  go_enter Try.func64, Try.ntmps64
  go_wp2_with fail
  refine (HC.out _).mono ?_
  rintro e w1 ⟨rfl, b1⟩
  have HB1 : Hid (Below w.heap.size w w1) := (K.one_box b1).2.1
  clear b1 HC c0 c1 c2
  cases z with
  | false => go_wp2; go_ret; exact ⟨rfl, HB1.out⟩
  | true => go_wp2; go_ret; exact ⟨rfl, HB1.out⟩

set_option maxHeartbeats 2000000 in
theorem all1_any (w : World) (bb bl : Nat) (vb : Value) (back : List K.Rule) (R0 : V.Rus w vb back) (hl : back.length ≤ 200) (hE : ∀ r ∈ back, K.ruleE r = 0) (hbb : w.cell? ⟨bb, 0, none⟩ = some vb) (vi : Value) (l : List (Int × List Int)) (Ri : Pr.Ims w vi l) (hls : ∀ m ∈ l, m.2.length ≤ 1000) (hbl : w.cell? ⟨bl, 0, none⟩ = some vi) (v : Value) (m : Int × List Int) (R : Pr.ImIs w v m) (hm : m.2.length ≤ 1000) :
    Calls Try.prog 63 (#[v] ++ #[.pointer (some ⟨bb, 0, none⟩), .pointer (some ⟨bl, 0, none⟩)]) w fun e w' => e = .returned (.bool (Pr.lostB back l m)) ∧ Below w.heap.size w w' := by
  have hmf : ∀ (fn : Fn) (first cap : Array Value) (w : World), (Instr.makeFunc fn first cap).run Try.prog w = .ok (.func fn first cap) w := fun _ _ _ _ => rfl
  have eg : ∀ args w, (callFunc 64 args).run Try.prog w = .ok (.enter 64 args) w := enters_of Try.func64 (by kernel_rfl) rfl
  obtain ⟨mo, mc, rfl, Rm⟩ := R
  obtain ⟨X, hX⟩ : ∃ X, X = w.alloc (.cells #[.int .i32 m.1, .slice mo m.2.length mc] 92) := ⟨_, rfl⟩
  have hb := K.one_box (w := w) (Below.refl _ (w.alloc (.cells #[.int .i32 m.1, .slice mo m.2.length mc] 92)))
  rw [← hX] at hb
  have HX : Hid (Below w.heap.size w X ∧ w.heap.size + 1 ≤ X.heap.size) := hb.2
  have HL : Hid (∀ W, Below X.heap.size X W → ∀ u nx, Pr.ImIs W u nx → nx.2.length ≤ 1000 → Calls Try.prog 64 (#[u] ++ #[.pointer (some ⟨w.heap.size, 0, none⟩), .pointer (some ⟨bb, 0, none⟩)]) W fun e w' => e = .returned (.bool (!(Pr.comesB back m nx.2))) ∧ Below W.heap.size W w') := fun W hW u nx hu hn =>
    all11_any W w.heap.size bb m mo mc (K.blk_below hb.1 hW) ((Rm.below hb.2.1 (Nat.le_refl _)).below hW (Nat.le_refl _)) hm vb back ((R0.below hb.2.1).below hW) hl hE (by
      have h1 := hb.2.1.cell (p := ⟨bb, 0, none⟩) (L.block_lt hbb)
      rw [hbb] at h1
      rw [hW.cell (p := ⟨bb, 0, none⟩) (L.block_lt h1)]; exact h1) u nx hu hn
  have H0 : Hid (Calls Try.prog 64 #[.agg #[.int .i32 0, .slice none 0 0], .pointer (some ⟨w.heap.size, 0, none⟩), .pointer (some ⟨bb, 0, none⟩)] X fun e w' => e = .returned (.bool (!(Pr.comesB back m []))) ∧ Below X.heap.size X w') := by
    have h := HL.out X (Below.refl _ _) (.agg #[.int .i32 0, .slice none 0 0]) (0, []) ⟨none, 0, rfl, none, 0, rfl, fun _ => rfl, fun h => absurd rfl h⟩ (by simp)
    exact h
  have HC : Hid (∀ W, Below X.heap.size X W → Calls Try.prog 61 #[vi, .func (.func 64) #[] #[.pointer (some ⟨w.heap.size, 0, none⟩), .pointer (some ⟨bb, 0, none⟩)]] W fun e w' => e = .returned (.bool (l.any fun n => !(Pr.comesB back m n.2))) ∧ Below W.heap.size W w') := fun W hW =>
    imAny_any W vi l ((Ri.below hb.2.1).below hW) _ _ (fun n => !(Pr.comesB back m n.2)) eg (fun W' n u hW' hn hu => HL.out W' (hW.trans (hW'.mono hW.size)) u n hu (hls n hn))
  have HBl : Hid (∀ W, Below X.heap.size X W → W.cell? ⟨bl, 0, none⟩ = some vi) := fun W hW => by
    have h1 := hb.2.1.cell (p := ⟨bl, 0, none⟩) (L.block_lt hbl)
    rw [hbl] at h1
    rw [hW.cell (p := ⟨bl, 0, none⟩) (L.block_lt h1)]; exact h1
  unfold Pr.lostB
  generalize (!(Pr.comesB back m [])) = y at *
  generalize (l.any fun n => !(Pr.comesB back m n.2)) = z at *
  obtain ⟨io, ic, rfl⟩ := Ri.len
  obtain ⟨mu, ml⟩ := m
  simp only at *
  clear R0 hE Rm hbb hbl hb Ri HL
  show Calls Try.prog 63 #[_, .pointer (some ⟨bb, 0, none⟩), .pointer (some ⟨bl, 0, none⟩)] w _
  go_enter Try.func63, Try.ntmps63
  go_wp2_with fail
  rw [← hX]
  refine H0.out.mono ?_
  rintro e w1 ⟨rfl, b1⟩
  have HB1 : Hid (Below w.heap.size w w1) := HX.out.1.trans (b1.mono (by have := HX.out.2; omega))
  have k0 := HBl.out w1 b1
  have HC1 := HC.out w1 b1
  clear b1 H0 HC HBl hX
  cases y with
  | true => go_wp2; go_ret; exact ⟨rfl, HB1.out⟩
  | false =>
    go_wp2_with fail
    refine HC1.mono ?_
    rintro e w2 ⟨rfl, b2⟩
    have HB2 : Hid (Below w.heap.size w w2) := HB1.out.trans (b2.mono HB1.out.size)
    clear b2 HC1 k0
    cases z with
    | false => go_wp2; go_ret; exact ⟨rfl, HB2.out⟩
    | true => go_wp2; go_ret; exact ⟨rfl, HB2.out⟩

set_option maxHeartbeats 1000000 in
theorem allBack_any (w : World) (vi : Value) (l : List (Int × List Int)) (Ri : Pr.Ims w vi l) (hls : ∀ m ∈ l, m.2.length ≤ 1000) (vb : Value) (back : List K.Rule) (R0 : V.Rus w vb back) (hl : back.length ≤ 200) (hE : ∀ r ∈ back, K.ruleE r = 0) :
    Calls Try.prog 37 #[vi, vb] w fun e w' => e = .returned (.bool (Pr.allB l back)) ∧ Below w.heap.size w w' := by
  have hmf : ∀ (fn : Fn) (first cap : Array Value) (w : World), (Instr.makeFunc fn first cap).run Try.prog w = .ok (.func fn first cap) w := fun _ _ _ _ => rfl
  obtain ⟨X, hX⟩ : ∃ X, X = (w.alloc (.cells #[vi] 70)).alloc (.cells #[vb] 22) := ⟨_, rfl⟩
  have hb := K.two_boxes (w := w) (Below.refl _ ((w.alloc (.cells #[vi] 70)).alloc (.cells #[vb] 22)))
  rw [← hX] at hb
  have HC : Hid (Calls Try.prog 61 #[vi, .func (.func 63) #[] #[.pointer (some ⟨w.heap.size + 1, 0, none⟩), .pointer (some ⟨w.heap.size, 0, none⟩)]] X fun e w' => e = .returned (.bool (l.any (Pr.lostB back l))) ∧ Below X.heap.size X w') :=
    imAny_any X vi l (Ri.below hb.2.2.1) _ _ (Pr.lostB back l) (enters_of Try.func63 (by kernel_rfl) rfl)
      (fun W m u hW hm hu => all1_any W (w.heap.size + 1) w.heap.size vb back ((R0.below hb.2.2.1).below hW) hl hE (K.at_box (i := 0) (K.blk_below hb.2.1 hW) rfl) vi l ((Ri.below hb.2.2.1).below hW) hls (K.at_box (i := 0) (K.blk_below hb.1 hW) rfl) u m hu (hls m hm))
  have HB : Hid (Below w.heap.size w X) := hb.2.2.1
  unfold Pr.allB
  generalize l.any (Pr.lostB back l) = z at *
  obtain ⟨aa, ca, rfl⟩ := R0.len
  obtain ⟨io, ic, rfl⟩ := Ri.len
  clear R0 Ri hE hb
  go_enter Try.func37, Try.ntmps37
  go_wp2_with fail
  rw [← hX]
  refine HC.out.mono ?_
  rintro e w1 ⟨rfl, b1⟩
  have HB1 : Hid (Below w.heap.size w w1) := HB.out.trans (b1.mono HB.out.size)
  clear b1 HC hX
  cases z with
  | false => go_wp2; go_ret; exact ⟨rfl, HB1.out⟩
  | true => go_wp2; go_ret; exact ⟨rfl, HB1.out⟩

end Go.Proofs.Ytkkocnkfdepoiaa

/-
  Whether rules always go on, and how far they look: analyse.Sure, analyse.Reach.
-/
namespace Go.Proofs.Ytkkocnkfdepoiaa
open Go.RowKit Go.Shelf
set_option maxRecDepth 20000
set_option linter.unusedSimpArgs false
set_option linter.unusedVariables false

set_option maxHeartbeats 1000000 in
theorem sure1_any (w : World) (v : Value) (r : K.Rule) (R : K.RuIs w v r) :
    Calls Try.prog 73 #[v] w fun e w' => e = .returned (.bool (!K.goesB r)) ∧ Below w.heap.size w w' := by
  obtain ⟨bo, bc, so, sc, ao, ac, tgo, tc, rfl, _, _, _, _, h5, hI⟩ := R
  have hI1 : -9223372036854775808 ≤ r.cursor := hI.1
  have hI2 : r.cursor ≤ 9223372036854775807 := hI.2
  unfold K.goesB
  obtain ⟨st, fi, be, sou, af, ta, cu⟩ := r
  simp only at h5 hI1 hI2 ⊢
  clear hI
  by_cases hc : cu = ta.length
  · go_enter Try.func73, Try.ntmps73
    go_wp2
    go_ret
    exact ⟨by simp [hc], (Below.refl _ w).alloc (Nat.le_refl _) _⟩
  · go_enter Try.func73, Try.ntmps73
    go_wp2
    go_ret
    exact ⟨by simp [hc], (Below.refl _ w).alloc (Nat.le_refl _) _⟩

set_option maxHeartbeats 1000000 in
theorem ySure_any (w : World) (v : Value) (l : List K.Rule) (R0 : V.Rus w v l) :
    Calls Try.prog 52 #[v] w fun e w' => e = .returned (.bool (K.sureB l)) ∧ Below w.heap.size w w' := by
  have h := ruAny_any w v l R0 73 #[] (fun r => !K.goesB r) (enters_of Try.func73 (by kernel_rfl) rfl) (fun W r u hW _ hu => by simpa using sure1_any W u r hu)
  have e : K.sureB l = !(l.any fun r => !K.goesB r) := by unfold K.sureB; rw [List.not_any_eq_all_not]; simp
  rw [e]
  generalize (l.any fun r => !K.goesB r) = z at *
  obtain ⟨aa, ca, rfl⟩ := R0.len
  clear R0 e
  go_enter Try.func52, Try.ntmps52
  go_wp2_with fail
  refine h.mono ?_
  rintro e w1 ⟨rfl, b1⟩
  have HB1 : Hid (Below w.heap.size w w1) := b1
  clear b1 h
  cases z with
  | false => go_wp2; go_ret; exact ⟨rfl, HB1.out⟩
  | true => go_wp2; go_ret; exact ⟨rfl, HB1.out⟩

end Go.Proofs.Ytkkocnkfdepoiaa
