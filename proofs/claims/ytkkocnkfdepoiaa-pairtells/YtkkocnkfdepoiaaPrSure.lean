/-
  Whether rules look at nothing around, and whether none can match more than one rune: pair.plain, pair.oneByOne.
-/
import Derived.Test.YtkkocnkfdepoiaaQWrong
import Derived.Test.YtkkocnkfdepoiaaYSure
import Derived.Test.YtkkocnkfdepoiaaSSubP
import Derived.Test.YtkkocnkfdepoiaaPrNum
namespace Go.Proofs.Ytkkocnkfdepoiaa
open Go.RowKit Go.Shelf
set_option maxRecDepth 20000
set_option linter.unusedSimpArgs false
set_option linter.unusedVariables false

set_option maxHeartbeats 1000000 in
theorem plain1_any (w : World) (v : Value) (r : K.Rule) (R : K.RuIs w v r) :
    Calls Try.prog 51 #[v] w fun e w' => e = .returned (.bool (Pr.aroundB r)) ∧ Below w.heap.size w w' := by
  obtain ⟨bo, bc, so, sc, ao, ac, tgo, tc, rfl, h1, h2, h3, h4, h5, h6⟩ := R
  have HA : Hid (∀ o, Below w.heap.size w (w.alloc o)) := fun o => (Below.refl _ w).alloc (Nat.le_refl _) o
  have f1 := h1.few
  have f3 := h3.few
  unfold Pr.aroundB
  obtain ⟨st, fi, be, sou, af, ta, cu⟩ := r
  simp only at f1 f3 ⊢
  clear h1 h2 h3 h4 h5 h6
  cases st with
  | true =>
    go_enter Try.func51, Try.ntmps51
    go_wp2
    go_ret
    exact ⟨by simp, HA.out _⟩
  | false =>
    cases fi with
    | true =>
      go_enter Try.func51, Try.ntmps51
      go_wp2
      go_ret
      exact ⟨by simp, HA.out _⟩
    | false =>
      by_cases q1 : 0 < be.length
      · go_enter Try.func51, Try.ntmps51
        go_wp2
        go_ret
        exact ⟨by simp [q1], HA.out _⟩
      · by_cases q2 : 0 < af.length
        · go_enter Try.func51, Try.ntmps51
          go_wp2
          go_ret
          exact ⟨by simp [q2], HA.out _⟩
        · go_enter Try.func51, Try.ntmps51
          go_wp2
          go_ret
          exact ⟨by simp [q1, q2], HA.out _⟩

set_option maxHeartbeats 1000000 in
theorem plain_any (w : World) (v : Value) (l : List K.Rule) (R0 : V.Rus w v l) :
    Calls Try.prog 33 #[v] w fun e w' => e = .returned (.bool (Pr.plainB l)) ∧ Below w.heap.size w w' := by
  have HS : Hid (Calls Try.prog 52 #[v] w fun e w' => e = .returned (.bool (K.sureB l)) ∧ Below w.heap.size w w') := ySure_any w v l R0
  have HC : Hid (∀ X, Below w.heap.size w X → Calls Try.prog 53 #[v, .func (.func 51) #[] #[]] X fun e w' => e = .returned (.bool (l.any Pr.aroundB)) ∧ Below X.heap.size X w') := fun X hX =>
    ruAny_any X v l (R0.below hX) 51 #[] Pr.aroundB (enters_of Try.func51 (by kernel_rfl) rfl) (fun W r u _ _ hu => by simpa using plain1_any W u r hu)
  unfold Pr.plainB
  generalize K.sureB l = y at *
  generalize l.any Pr.aroundB = z at *
  obtain ⟨aa, ca, rfl⟩ := R0.len
  clear R0
  go_enter Try.func33, Try.ntmps33
  go_wp2_with fail
  refine HS.out.mono ?_
  rintro e w1 ⟨rfl, b1⟩
  have HB1 : Hid (Below w.heap.size w w1) := b1
  clear b1 HS
  cases y with
  | false => go_wp2; go_ret; exact ⟨rfl, HB1.out⟩
  | true =>
    go_wp2_with fail
    refine (HC.out _ HB1.out).mono ?_
    rintro e w2 ⟨rfl, b2⟩
    have HB2 : Hid (Below w.heap.size w w2) := HB1.out.trans (b2.mono HB1.out.size)
    clear b2 HC
    cases z with
    | false => go_wp2; go_ret; exact ⟨rfl, HB2.out⟩
    | true => go_wp2; go_ret; exact ⟨rfl, HB2.out⟩

set_option maxHeartbeats 1000000 in
theorem one11_any (w : World) (bs : Nat) (v : Value) (s : List S.Sp) (R : S.Rd w v s) (N : S.Nf 0 s) (hl : s.length ≤ 200) (hc : w.cell? ⟨bs, 0, none⟩ = some v) (r : Int) :
    Calls Try.prog 56 (#[.int .i32 r] ++ #[.pointer (some ⟨bs, 0, none⟩)]) w fun e w' => e = .returned (.bool (S.memb s r)) ∧ Below w.heap.size w w' := by
  have h := has_any w v s r R N hl
  obtain ⟨aa, ca, rfl⟩ := R.len
  generalize S.memb s r = z at h
  clear R N
  show Calls Try.prog 56 #[.int .i32 r, .pointer (some ⟨bs, 0, none⟩)] w _
  go_enter Try.func56, Try.ntmps56
  go_wp2_with fail
  refine h.mono ?_
  rintro e w1 ⟨rfl, b1⟩
  have HB1 : Hid (Below w.heap.size w w1) := b1
  clear b1 h
  go_wp2
  go_ret
  exact ⟨rfl, HB1.out⟩

set_option maxHeartbeats 1000000 in
theorem one1_any (w : World) (bd : Nat) (vd : Value) (dom : List Int) (Rd : L.Rd w vd .i32 dom) (hd : dom.length ≤ 8000) (hc : w.cell? ⟨bd, 0, none⟩ = some vd) (v : Value) (s : List S.Sp) (R : K.SetIs w v s) (N : S.Nf 0 s) (hl : s.length ≤ 200) :
    Calls Try.prog 54 (#[v] ++ #[.pointer (some ⟨bd, 0, none⟩)]) w fun e w' => e = .returned (.bool (Pr.neverB dom s)) ∧ Below w.heap.size w w' := by
  have hmf : ∀ (fn : Fn) (first cap : Array Value) (w : World), (Instr.makeFunc fn first cap).run Try.prog w = .ok (.func fn first cap) w := fun _ _ _ _ => rfl
  obtain ⟨⟨so, sc, rfl⟩, R, _⟩ := R
  have HA : Hid (∀ o, Below w.heap.size w (w.alloc o)) := fun o => (Below.refl _ w).alloc (Nat.le_refl _) o
  have hb := K.one_box (w := w) (Below.refl _ (w.alloc (.cells #[.slice so s.length sc] 23)))
  have HC : Hid (Calls Try.prog 55 #[vd, .func (.func 56) #[] #[.pointer (some ⟨w.heap.size, 0, none⟩)]] (w.alloc (.cells #[.slice so s.length sc] 23)) fun e w' => e = .returned (.bool (dom.any fun r => S.memb s r)) ∧ Below (w.alloc (.cells #[.slice so s.length sc] 23)).heap.size (w.alloc (.cells #[.slice so s.length sc] 23)) w') :=
    rnAny_any _ vd dom (Rd.below (HA.out _) (Nat.le_refl _)) (by omega) 56 _ (fun r => S.memb s r) (enters_of Try.func56 (by kernel_rfl) rfl)
      (fun W x hW _ => one11_any W w.heap.size _ s ((R.below (HA.out _) (Nat.le_refl _)).below hW (Nat.le_refl _)) N hl (K.at_box (i := 0) (K.blk_below hb.1 hW) rfl) x)
  have hca : ∀ o, (w.alloc o).cell? ⟨bd, 0, none⟩ = some vd := fun o => K.alloc_cell hc o
  unfold Pr.neverB
  generalize (dom.any fun r => S.memb s r) = z at *
  obtain ⟨xo, xc, rfl, _⟩ := Rd
  clear R N hb hc
  show Calls Try.prog 54 #[_, .pointer (some ⟨bd, 0, none⟩)] w _
  go_enter Try.func54, Try.ntmps54
  go_wp2_with fail
  refine HC.out.mono ?_
  rintro e w1 ⟨rfl, b1⟩
  have HB1 : Hid (Below w.heap.size w w1) := (K.one_box b1).2.1
  clear b1 HC hca
  cases z with
  | false => go_wp2; go_ret; exact ⟨rfl, HB1.out⟩
  | true => go_wp2; go_ret; exact ⟨rfl, HB1.out⟩

set_option maxHeartbeats 1000000 in
theorem one2_any (w : World) (bf bd : Nat) (vd : Value) (dom : List Int) (Rd : L.Rd w vd .i32 dom) (hd : dom.length ≤ 8000) (hc : w.cell? ⟨bd, 0, none⟩ = some vd) (hf : w.cell? ⟨bf, 0, none⟩ = some (.func (.func 54) #[] #[.pointer (some ⟨bd, 0, none⟩)])) (v : Value) (r : K.Rule) (R : K.RuIs w v r) (hE : K.ruleE r = 0) :
    Calls Try.prog 57 (#[v] ++ #[.pointer (some ⟨bf, 0, none⟩)]) w fun e w' => e = .returned (.bool (Pr.broadB dom r)) ∧ Below w.heap.size w w' := by
  obtain ⟨bo, bc, so, sc, ao, ac, tgo, tc, rfl, h1, h2, h3, h4, h5, h6⟩ := R
  have HA : Hid (∀ o, Below w.heap.size w (w.alloc o)) := fun o => (Below.refl _ w).alloc (Nat.le_refl _) o
  have hG := (K.ruleE_zero hE).2.1
  have HC : Hid (∀ o, Calls Try.prog 58 #[.slice so r.source.length sc, .func (.func 54) #[] #[.pointer (some ⟨bd, 0, none⟩)]] (w.alloc o) fun e w' => e = .returned (.bool (r.source.any (Pr.neverB dom))) ∧ Below (w.alloc o).heap.size (w.alloc o) w') := fun o =>
    ssAny_any (w.alloc o) _ r.source (h2.below (HA.out o)) 54 _ (Pr.neverB dom) (enters_of Try.func54 (by kernel_rfl) rfl)
      (fun W s u hW hs hu => one1_any W bd vd dom ((Rd.below (HA.out o) (Nat.le_refl _)).below hW (Nat.le_refl _)) hd (by rw [hW.cell (p := ⟨bd, 0, none⟩) (L.block_lt (K.alloc_cell hc o)), K.alloc_cell hc o]) u s hu (hG.2 s hs).1 (hG.2 s hs).2)
  have hfa : ∀ o, (w.alloc o).cell? ⟨bf, 0, none⟩ = some (.func (.func 54) #[] #[.pointer (some ⟨bd, 0, none⟩)]) := fun o => K.alloc_cell hf o
  have f2 := hG.1
  unfold Pr.broadB
  generalize r.source.any (Pr.neverB dom) = z at *
  obtain ⟨st, fi, be, sou, af, ta, cu⟩ := r
  simp only at HC f2 ⊢
  clear h1 h2 h3 h4 h5 h6 hG hE Rd hc
  show Calls Try.prog 57 #[_, .pointer (some ⟨bf, 0, none⟩)] w _
  by_cases q1 : 1 < sou.length
  · go_enter Try.func57, Try.ntmps57
    go_wp2_with fail
    refine (HC.out _).mono ?_
    rintro e w1 ⟨rfl, b1⟩
    have HB1 : Hid (Below w.heap.size w w1) := (K.one_box b1).2.1
    clear b1 HC hfa hf
    cases z with
    | false => go_wp2; go_ret; exact ⟨by simp [q1], HB1.out⟩
    | true => go_wp2; go_ret; exact ⟨by simp [q1], HB1.out⟩
  · go_enter Try.func57, Try.ntmps57
    go_wp2
    go_ret
    exact ⟨by simp [q1], HA.out _⟩

set_option maxHeartbeats 1000000 in
theorem oneByOne_any (w : World) (v : Value) (l : List K.Rule) (R0 : V.Rus w v l) (hE : ∀ r ∈ l, K.ruleE r = 0) (vd : Value) (dom : List Int) (Rd : L.Rd w vd .i32 dom) (hd : dom.length ≤ 8000) :
    Calls Try.prog 34 #[v, vd] w fun e w' => e = .returned (.bool (Pr.oneByOneB l dom)) ∧ Below w.heap.size w w' := by
  have hmf : ∀ (fn : Fn) (first cap : Array Value) (w : World), (Instr.makeFunc fn first cap).run Try.prog w = .ok (.func fn first cap) w := fun _ _ _ _ => rfl
  obtain ⟨X, hX⟩ : ∃ X, X = (w.alloc (.cells #[vd] 28)).alloc (.cells #[.func (.func 54) #[] #[.pointer (some ⟨w.heap.size, 0, none⟩)]] 88) := ⟨_, rfl⟩
  have hb := K.two_boxes (w := w) (Below.refl _ ((w.alloc (.cells #[vd] 28)).alloc (.cells #[.func (.func 54) #[] #[.pointer (some ⟨w.heap.size, 0, none⟩)]] 88)))
  rw [← hX] at hb
  have HC : Hid (Calls Try.prog 53 #[v, .func (.func 57) #[] #[.pointer (some ⟨w.heap.size + 1, 0, none⟩)]] X fun e w' => e = .returned (.bool (l.any (Pr.broadB dom))) ∧ Below X.heap.size X w') :=
    ruAny_any X v l (R0.below hb.2.2.1) 57 _ (Pr.broadB dom) (enters_of Try.func57 (by kernel_rfl) rfl)
      (fun W r u hW hr hu => one2_any W (w.heap.size + 1) w.heap.size vd dom ((Rd.below hb.2.2.1 (Nat.le_refl _)).below hW (Nat.le_refl _)) hd (K.at_box (i := 0) (K.blk_below hb.1 hW) rfl) (K.at_box (i := 0) (K.blk_below hb.2.1 hW) rfl) u r hu (hE r hr))
  have HB : Hid (Below w.heap.size w X) := hb.2.2.1
  unfold Pr.oneByOneB
  generalize l.any (Pr.broadB dom) = z at *
  obtain ⟨aa, ca, rfl⟩ := R0.len
  obtain ⟨xo, xc, rfl, _⟩ := Rd
  clear R0 hb hE
  go_enter Try.func34, Try.ntmps34
  go_wp2_with fail
  rw [← hX]
  refine HC.out.mono ?_
  rintro e w1 ⟨rfl, b1⟩
  have HB1 : Hid (Below w.heap.size w w1) := HB.out.trans (b1.mono HB.out.size)
  clear b1 HC hX
  cases z with
  | false => go_wp2; go_ret; exact ⟨rfl, HB1.out⟩
  | true => go_wp2; go_ret; exact ⟨rfl, HB1.out⟩

end Go.Proofs.Ytkkocnkfdepoiaa

/-
  Whether it is sure that rules undo others: pair.undoes, pair.Sure.
-/
namespace Go.Proofs.Ytkkocnkfdepoiaa
open Go.RowKit Go.Shelf
set_option maxRecDepth 20000
set_option linter.unusedSimpArgs false
set_option linter.unusedVariables false

namespace Pr
theorem made_len {l : List K.Rule} (hE : ∀ r ∈ l, K.ruleE r = 0) (u : Int) : (made l u).length ≤ 20 := by
  unfold made
  rcases firstI_is (P := hitB u) (l := l) with hk | ⟨j, r, hj, _, hk⟩
  · rw [hk, if_pos (by decide)]; simp
  · rw [hk, if_neg (by omega), Int.toNat_natCast, hj]
    exact (K.ruleE_zero (hE r (List.mem_of_getElem? hj))).2.2.2.2.1
theorem images_len {l : List K.Rule} (hE : ∀ r ∈ l, K.ruleE r = 0) (dom : List Int) : ∀ m ∈ images l dom, m.2.length ≤ 1000 := fun m hm => by
  unfold images at hm
  obtain ⟨u, _, rfl⟩ := List.mem_map.1 hm
  have := made_len hE u
  show (made l u).length ≤ 1000
  omega
end Pr

set_option maxHeartbeats 2000000 in
theorem undoes_any (w : World) (va vb : Value) (forth back : List K.Rule) (Ra : V.Rus w va forth) (Rb : V.Rus w vb back) (hla : forth.length ≤ 200) (hlb : back.length ≤ 200) (hEa : ∀ r ∈ forth, K.ruleE r = 0) (hEb : ∀ r ∈ back, K.ruleE r = 0) (vd : Value) (dom : List Int) (Rd : L.Rd w vd .i32 dom) (hd : dom.length ≤ 40) :
    Calls Try.prog 14 #[va, vb, vd] w fun e w' => e = .returned (.bool (Pr.undoesB forth back dom)) ∧ Below w.heap.size w w' := by
  have HP1 : Hid (Calls Try.prog 33 #[va] w fun e w' => e = .returned (.bool (Pr.plainB forth)) ∧ Below w.heap.size w w') := plain_any w va forth Ra
  have HP2 : Hid (∀ X, Below w.heap.size w X → Calls Try.prog 33 #[vb] X fun e w' => e = .returned (.bool (Pr.plainB back)) ∧ Below X.heap.size X w') := fun X hX => plain_any X vb back (Rb.below hX)
  have HO : Hid (∀ X, Below w.heap.size w X → Calls Try.prog 34 #[va, vd] X fun e w' => e = .returned (.bool (Pr.oneByOneB forth dom)) ∧ Below X.heap.size X w') := fun X hX => oneByOne_any X va forth (Ra.below hX) hEa vd dom (Rd.below hX (Nat.le_refl _)) (by omega)
  have HI : Hid (∀ X, Below w.heap.size w X → Calls Try.prog 35 #[va, vd] X fun e w' => ∃ v', e = .returned v' ∧ Pr.Ims w' v' (Pr.images forth dom) ∧ Below X.heap.size X w') := fun X hX => images_any X va forth (Ra.below hX) hla hEa vd dom (Rd.below hX (Nat.le_refl _)) hd
  have HL : Hid (∀ X vi, Below w.heap.size w X → Pr.Ims X vi (Pr.images forth dom) → Calls Try.prog 36 #[vi, vb] X fun e w' => e = .returned (.bool (Pr.longB (Pr.images forth dom) back)) ∧ Below X.heap.size X w') := fun X vi hX hi => long_any X vi _ hi (Pr.images_len hEa dom) vb back (Rb.below hX) hEb
  have HA : Hid (∀ X vi, Below w.heap.size w X → Pr.Ims X vi (Pr.images forth dom) → Calls Try.prog 37 #[vi, vb] X fun e w' => e = .returned (.bool (Pr.allB (Pr.images forth dom) back)) ∧ Below X.heap.size X w') := fun X vi hX hi => allBack_any X vi _ hi (Pr.images_len hEa dom) vb back (Rb.below hX) hlb hEb
  unfold Pr.undoesB
  generalize Pr.plainB forth = z1 at *
  generalize Pr.plainB back = z2 at *
  generalize Pr.oneByOneB forth dom = z3 at *
  generalize Pr.images forth dom = im at *
  generalize Pr.longB im back = z4 at *
  generalize Pr.allB im back = z5 at *
  obtain ⟨aa, ca, rfl⟩ := Ra.len
  obtain ⟨ba, cb, rfl⟩ := Rb.len
  obtain ⟨xo, xc, rfl, _⟩ := Rd
  clear Ra Rb hEa hEb
  go_enter Try.func14, Try.ntmps14
  go_wp2_with fail
  refine HP1.out.mono ?_
  rintro e w1 ⟨rfl, b1⟩
  have HB1 : Hid (Below w.heap.size w w1) := b1
  clear b1 HP1
  cases z1 with
  | false => go_wp2; go_ret; exact ⟨by simp, HB1.out⟩
  | true =>
    go_wp2_with fail
    refine (HP2.out _ HB1.out).mono ?_
    rintro e w2 ⟨rfl, b2⟩
    have HB2 : Hid (Below w.heap.size w w2) := HB1.out.trans (b2.mono HB1.out.size)
    clear b2 HP2
    cases z2 with
    | false => go_wp2; go_ret; exact ⟨by simp, HB2.out⟩
    | true =>
      go_wp2_with fail
      refine (HO.out _ HB2.out).mono ?_
      rintro e w3 ⟨rfl, b3⟩
      have HB3 : Hid (Below w.heap.size w w3) := HB2.out.trans (b3.mono HB2.out.size)
      clear b3 HO
      cases z3 with
      | false => go_wp2; go_ret; exact ⟨by simp, HB3.out⟩
      | true =>
        go_wp2_with fail
        refine (HI.out _ HB3.out).mono ?_
        rintro e w4 ⟨vi, rfl, hi, b4⟩
        obtain ⟨io, ic, rfl⟩ := hi.len
        have HB4 : Hid (Below w.heap.size w w4) := HB3.out.trans (b4.mono HB3.out.size)
        have HIm : Hid (Pr.Ims w4 (.slice io im.length ic) im) := hi
        have HL4 := HL.out w4 _ HB4.out hi
        clear b4 HI hi HL
        go_wp2_with fail
        refine HL4.mono ?_
        rintro e w5 ⟨rfl, b5⟩
        have HB5 : Hid (Below w.heap.size w w5) := HB4.out.trans (b5.mono HB4.out.size)
        have HA5 := HA.out w5 _ HB5.out (HIm.out.below b5)
        clear b5 HL4 HA HIm
        cases z4 with
        | false => go_wp2; go_ret; exact ⟨by simp, HB5.out⟩
        | true =>
          go_wp2_with fail
          refine HA5.mono ?_
          rintro e w6 ⟨rfl, b6⟩
          have HB6 : Hid (Below w.heap.size w w6) := HB5.out.trans (b6.mono HB5.out.size)
          clear b6 HA5
          cases z5 with
          | false => go_wp2; go_ret; exact ⟨by simp, HB6.out⟩
          | true => go_wp2; go_ret; exact ⟨by simp, HB6.out⟩

set_option maxHeartbeats 2000000 in
theorem pSure_any (w : World) (va vb : Value) (forth back : List K.Rule) (Ra : V.Rus w va forth) (Rb : V.Rus w vb back) (vs : Value) (s : List S.Sp) (Rs : S.Rd w vs s) (Fs : S.Fit s) :
    Calls Try.prog 6 #[va, vb, vs] w fun e w' => e = .returned (.tuple #[.bool (Pr.sureF forth back s).1, .int .i64 (Pr.sureF forth back s).2]) ∧ Below w.heap.size w w' := by
  have HW1 : Hid (Calls Try.prog 12 #[va] w fun e w' => e = .returned (.agg #[.int .i64 (K.rulesF forth).1, .int .i64 (K.rulesF forth).2]) ∧ Below w.heap.size w w') := qWrong_any w va forth Ra
  have HW2 : Hid (∀ X, Below w.heap.size w X → Calls Try.prog 12 #[vb] X fun e w' => e = .returned (.agg #[.int .i64 (K.rulesF back).1, .int .i64 (K.rulesF back).2]) ∧ Below X.heap.size X w') := fun X hX => qWrong_any X vb back (Rb.below hX)
  have HC : Hid (∀ X, Below w.heap.size w X → Calls Try.prog 13 #[vs] X fun e w' => e = .returned (.tuple #[.int .i64 (cntF s), .int .i64 (S.wrongE s)]) ∧ Below X.heap.size X w') := fun X hX => count_any X vs s (Rs.below hX (Nat.le_refl _)) Fs
  have HN : Hid (S.wrongE s = 0 → S.total s ≤ 40 → (Pr.numbers s).length ≤ 40 ∧ ∀ X, Below w.heap.size w X → Calls Try.prog 15 #[vs] X fun e w' => ∃ v', e = .returned v' ∧ L.Rd w' v' .i32 (Pr.numbers s) ∧ Below X.heap.size X w') := fun hz ht => by
    obtain ⟨hl, N⟩ := S.wrongE_zero.1 hz
    refine ⟨?_, fun X hX => numbers_any X vs s (Rs.below hX (Nat.le_refl _)) N hl ht⟩
    have := Pr.numbers_len (s := s) fun x hx => (N.mem hx).2.1
    omega
  have HU : Hid ((K.rulesF forth).1 = 0 → (K.rulesF back).1 = 0 → (Pr.numbers s).length ≤ 40 → ∀ X vd, Below w.heap.size w X → L.Rd X vd .i32 (Pr.numbers s) → Calls Try.prog 14 #[va, vb, vd] X fun e w' => e = .returned (.bool (Pr.undoesB forth back (Pr.numbers s))) ∧ Below X.heap.size X w') := fun h1 h2 hd X vd hX hr =>
    undoes_any X va vb forth back (Ra.below hX) (Rb.below hX) (K.rulesF_zero h1).1 (K.rulesF_zero h2).1 (K.rulesF_zero h1).2.1 (K.rulesF_zero h2).2.1 vd _ hr hd
  obtain ⟨⟨o1, o2⟩, HO⟩ : ∃ o, Hid (Pr.sureF forth back s = o) := ⟨_, rfl⟩
  rw [HO.out]
  unfold Pr.sureF at HO
  have htot : S.wrongE s = 0 → cntF s = S.total s := fun h => by unfold cntF; rw [if_pos h]
  have hle : S.wrongE s = 0 → S.total s ≤ 1114112 := fun h => total_le (S.wrongE_zero.1 h).2 (by omega)
  obtain ⟨aa, ca, rfl⟩ := Ra.len
  obtain ⟨ba, cb, rfl⟩ := Rb.len
  obtain ⟨xo, xc, rfl⟩ := Rs.len
  clear Ra Rb Rs Fs
  generalize K.rulesF forth = f1 at *
  obtain ⟨f1, g1⟩ := f1
  generalize K.rulesF back = f2 at *
  obtain ⟨f2, g2⟩ := f2
  generalize S.wrongE s = we at *
  generalize cntF s = ct at *
  generalize Pr.undoesB forth back (Pr.numbers s) = z at *
  simp only at *
  go_enter Try.func6, Try.ntmps6
  go_wp2_with fail
  refine HW1.out.mono ?_
  rintro e w1 ⟨rfl, b1⟩
  have HA1 : Hid (∀ o, Below w.heap.size w (w1.alloc o)) := fun o => b1.alloc b1.size o
  clear b1 HW1
  by_cases h1 : f1 = 0
  · subst h1
    have HO1 := HO.out
    rw [if_neg (by simp)] at HO1
    have HW2' := HW2.out _ (HA1.out (.cells #[.int .i64 0, .int .i64 g1] 34))
    clear HO
    go_wp2_with fail
    refine HW2'.mono ?_
    rintro e w2 ⟨rfl, b2⟩
    have hB2 : Below w.heap.size w w2 := (HA1.out _).trans (b2.mono (HA1.out _).size)
    have HA2 : Hid (∀ o, Below w.heap.size w (w2.alloc o)) := fun o => hB2.alloc hB2.size o
    clear b2 HW2' HW2 hB2 HA1
    by_cases h2 : f2 = 0
    · subst h2
      rw [if_neg (by simp)] at HO1
      have HC' := HC.out _ (HA2.out (.cells #[.int .i64 0, .int .i64 g2] 34))
      have HO2 : Hid _ := HO1
      clear HO1
      go_wp2_with fail
      refine HC'.mono ?_
      rintro e w3 ⟨rfl, b3⟩
      have HB3 : Hid (Below w.heap.size w w3) := (HA2.out _).trans (b3.mono (HA2.out _).size)
      clear b3 HC' HC HA2
      by_cases h3 : we = 0
      · subst h3
        have ht := htot rfl
        subst ht
        have hle' := hle rfl
        have HO3 := HO2.out
        rw [if_neg (by simp)] at HO3
        by_cases h4 : 40 < S.total s
        · rw [if_pos h4] at HO3
          cases HO3
          clear HO2 HN HU htot hle
          generalize S.total s = tt at *
          go_wp2
          go_ret2
          exact ⟨rfl, HB3.out⟩
        · rw [if_neg h4] at HO3
          cases HO3
          obtain ⟨hnl, hnum⟩ := HN.out rfl (by omega)
          have HNu := hnum w3 HB3.out
          clear HO2 HN htot hle hnum
          generalize S.total s = tt at *
          go_wp2_with fail
          refine HNu.mono ?_
          rintro e w4 ⟨vd, rfl, rd, b4⟩
          have HB4 : Hid (Below w.heap.size w w4) := HB3.out.trans (b4.mono HB3.out.size)
          have HU4 := HU.out trivial trivial hnl w4 vd HB4.out rd
          obtain ⟨dn, hdn⟩ : ∃ n, n = (Pr.numbers s).length := ⟨_, rfl⟩
          obtain ⟨da, dc, rfl⟩ : ∃ da dc, vd = .slice da dn dc := by obtain ⟨a, c, h, _⟩ := rd; exact ⟨a, c, by rw [hdn]; exact h⟩
          clear b4 HNu rd HU hnl hdn
          go_wp2_with fail
          refine HU4.mono ?_
          rintro e w5 ⟨rfl, b5⟩
          have HB5 : Hid (Below w.heap.size w w5) := HB4.out.trans (b5.mono HB4.out.size)
          clear b5 HU4
          go_wp2
          go_ret2
          exact ⟨rfl, HB5.out⟩
      · have HO3 := HO2.out
        rw [if_pos h3] at HO3
        cases HO3
        clear HO2 HN HU htot hle
        go_wp2
        go_ret2
        exact ⟨rfl, HB3.out⟩
    · rw [if_pos h2] at HO1
      cases HO1
      clear HC HN HU htot hle
      go_wp2
      go_quiet (fail)
      go_wp2
      go_ret2
      exact ⟨rfl, below_drewN (HA2.out _) _⟩
  · have HO1 := HO.out
    rw [if_pos h1] at HO1
    cases HO1
    clear HO HC HN HU htot hle HW2
    go_wp2
    go_quiet (fail)
    go_wp2
    go_ret2
    exact ⟨rfl, below_drewN (HA1.out _) _⟩

end Go.Proofs.Ytkkocnkfdepoiaa
