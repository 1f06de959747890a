/-
  Whether rules look at nothing around, and whether none can match more than one rune: pair.plain, pair.oneByOne.
-/
import Derived.Test.YtkkocnkfdepoiaaPrLib
import Derived.Test.YtkkocnkfdepoiaaYSure
import Derived.Test.YtkkocnkfdepoiaaSSubP
import Derived.Test.YtkkocnkfdepoiaaQBox
namespace Go.Proofs.Ytkkocnkfdepoiaa
open Go.RowKit Go.Shelf
set_option maxRecDepth 20000
set_option linter.unusedSimpArgs false
set_option linter.unusedVariables false

set_option maxHeartbeats 1000000 in
theorem plain1_any (w : World) (v : Value) (r : K.Rule) (R : K.RuIs w v r) :
    Calls Try.prog 51 #[v] w fun e w' => e = .returned (.bool (Pr.aroundB r)) ∧ Below w.heap.size w w' := by
  obtain ⟨bo, bc, so, sc, ao, ac, tgo, tc, rfl, h1, h2, h3, h4, h5, h6⟩ := R
  have HA : Hid (∀ o, Below w.heap.size w (w.alloc o)) := fun o => (Below.refl _ w).alloc (Nat.le_refl _) o
  have f1 := h1.few
  have f3 := h3.few
  unfold Pr.aroundB
  obtain ⟨st, fi, be, sou, af, ta, cu⟩ := r
  simp only at f1 f3 ⊢
  clear h1 h2 h3 h4 h5 h6
  cases st with
  | true =>
    go_enter Try.func51, Try.ntmps51
    go_wp2
    go_ret
    exact ⟨by simp, HA.out _⟩
  | false =>
    cases fi with
    | true =>
      go_enter Try.func51, Try.ntmps51
      go_wp2
      go_ret
      exact ⟨by simp, HA.out _⟩
    | false =>
      by_cases q1 : 0 < be.length
      · go_enter Try.func51, Try.ntmps51
        go_wp2
        go_ret
        exact ⟨by simp [q1], HA.out _⟩
      · by_cases q2 : 0 < af.length
        · go_enter Try.func51, Try.ntmps51
          go_wp2
          go_ret
          exact ⟨by simp [q2], HA.out _⟩
        · go_enter Try.func51, Try.ntmps51
          go_wp2
          go_ret
          exact ⟨by simp [q1, q2], HA.out _⟩

set_option maxHeartbeats 1000000 in
theorem plain_any (w : World) (v : Value) (l : List K.Rule) (R0 : V.Rus w v l) :
    Calls Try.prog 33 #[v] w fun e w' => e = .returned (.bool (Pr.plainB l)) ∧ Below w.heap.size w w' := by
  have HS : Hid (Calls Try.prog 52 #[v] w fun e w' => e = .returned (.bool (K.sureB l)) ∧ Below w.heap.size w w') := ySure_any w v l R0
  have HC : Hid (∀ X, Below w.heap.size w X → Calls Try.prog 53 #[v, .func (.func 51) #[] #[]] X fun e w' => e = .returned (.bool (l.any Pr.aroundB)) ∧ Below X.heap.size X w') := fun X hX =>
    ruAny_any X v l (R0.below hX) 51 #[] Pr.aroundB (enters_of Try.func51 (by kernel_rfl) rfl) (fun W r u _ _ hu => by simpa using plain1_any W u r hu)
  unfold Pr.plainB
  generalize K.sureB l = y at *
  generalize l.any Pr.aroundB = z at *
  obtain ⟨aa, ca, rfl⟩ := R0.len
  clear R0
  go_enter Try.func33, Try.ntmps33
  go_wp2_with fail
  refine HS.out.mono ?_
  rintro e w1 ⟨rfl, b1⟩
  have HB1 : Hid (Below w.heap.size w w1) := b1
  clear b1 HS
  cases y with
  | false => go_wp2; go_ret; exact ⟨rfl, HB1.out⟩
  | true =>
    go_wp2_with fail
    refine (HC.out _ HB1.out).mono ?_
    rintro e w2 ⟨rfl, b2⟩
    have HB2 : Hid (Below w.heap.size w w2) := HB1.out.trans (b2.mono HB1.out.size)
    clear b2 HC
    cases z with
    | false => go_wp2; go_ret; exact ⟨rfl, HB2.out⟩
    | true => go_wp2; go_ret; exact ⟨rfl, HB2.out⟩

set_option maxHeartbeats 1000000 in
theorem one11_any (w : World) (bs : Nat) (v : Value) (s : List S.Sp) (R : S.Rd w v s) (N : S.Nf 0 s) (hl : s.length ≤ 200) (hc : w.cell? ⟨bs, 0, none⟩ = some v) (r : Int) :
    Calls Try.prog 56 (#[.int .i32 r] ++ #[.pointer (some ⟨bs, 0, none⟩)]) w fun e w' => e = .returned (.bool (S.memb s r)) ∧ Below w.heap.size w w' := by
  have h := has_any w v s r R N hl
  obtain ⟨aa, ca, rfl⟩ := R.len
  generalize S.memb s r = z at h
  clear R N
  show Calls Try.prog 56 #[.int .i32 r, .pointer (some ⟨bs, 0, none⟩)] w _
  go_enter Try.func56, Try.ntmps56
  go_wp2_with fail
  refine h.mono ?_
  rintro e w1 ⟨rfl, b1⟩
  have HB1 : Hid (Below w.heap.size w w1) := b1
  clear b1 h
  go_wp2
  go_ret
  exact ⟨rfl, HB1.out⟩

set_option maxHeartbeats 1000000 in
theorem one1_any (w : World) (bd : Nat) (vd : Value) (dom : List Int) (Rd : L.Rd w vd .i32 dom) (hd : dom.length ≤ 8000) (hc : w.cell? ⟨bd, 0, none⟩ = some vd) (v : Value) (s : List S.Sp) (R : K.SetIs w v s) (N : S.Nf 0 s) (hl : s.length ≤ 200) :
    Calls Try.prog 54 (#[v] ++ #[.pointer (some ⟨bd, 0, none⟩)]) w fun e w' => e = .returned (.bool (Pr.neverB dom s)) ∧ Below w.heap.size w w' := by
  have hmf : ∀ (fn : Fn) (first cap : Array Value) (w : World), (Instr.makeFunc fn first cap).run Try.prog w = .ok (.func fn first cap) w := fun _ _ _ _ => rfl
  obtain ⟨⟨so, sc, rfl⟩, R, _⟩ := R
  have HA : Hid (∀ o, Below w.heap.size w (w.alloc o)) := fun o => (Below.refl _ w).alloc (Nat.le_refl _) o
  have hb := K.one_box (w := w) (Below.refl _ (w.alloc (.cells #[.slice so s.length sc] 23)))
  have HC : Hid (Calls Try.prog 55 #[vd, .func (.func 56) #[] #[.pointer (some ⟨w.heap.size, 0, none⟩)]] (w.alloc (.cells #[.slice so s.length sc] 23)) fun e w' => e = .returned (.bool (dom.any fun r => S.memb s r)) ∧ Below (w.alloc (.cells #[.slice so s.length sc] 23)).heap.size (w.alloc (.cells #[.slice so s.length sc] 23)) w') :=
    rnAny_any _ vd dom (Rd.below (HA.out _) (Nat.le_refl _)) (by omega) 56 _ (fun r => S.memb s r) (enters_of Try.func56 (by kernel_rfl) rfl)
      (fun W x hW _ => one11_any W w.heap.size _ s ((R.below (HA.out _) (Nat.le_refl _)).below hW (Nat.le_refl _)) N hl (K.at_box (i := 0) (K.blk_below hb.1 hW) rfl) x)
  have hca : ∀ o, (w.alloc o).cell? ⟨bd, 0, none⟩ = some vd := fun o => K.alloc_cell hc o
  unfold Pr.neverB
  generalize (dom.any fun r => S.memb s r) = z at *
  obtain ⟨xo, xc, rfl, _⟩ := Rd
  clear R N hb hc
  show Calls Try.prog 54 #[_, .pointer (some ⟨bd, 0, none⟩)] w _
  go_enter Try.func54, Try.ntmps54
  go_wp2_with fail
  refine HC.out.mono ?_
  rintro e w1 ⟨rfl, b1⟩
  have HB1 : Hid (Below w.heap.size w w1) := (K.one_box b1).2.1
  clear b1 HC hca
  cases z with
  | false => go_wp2; go_ret; exact ⟨rfl, HB1.out⟩
  | true => go_wp2; go_ret; exact ⟨rfl, HB1.out⟩

set_option maxHeartbeats 1000000 in
theorem one2_any (w : World) (bf bd : Nat) (vd : Value) (dom : List Int) (Rd : L.Rd w vd .i32 dom) (hd : dom.length ≤ 8000) (hc : w.cell? ⟨bd, 0, none⟩ = some vd) (hf : w.cell? ⟨bf, 0, none⟩ = some (.func (.func 54) #[] #[.pointer (some ⟨bd, 0, none⟩)])) (v : Value) (r : K.Rule) (R : K.RuIs w v r) (hE : K.ruleE r = 0) :
    Calls Try.prog 57 (#[v] ++ #[.pointer (some ⟨bf, 0, none⟩)]) w fun e w' => e = .returned (.bool (Pr.broadB dom r)) ∧ Below w.heap.size w w' := by
  obtain ⟨bo, bc, so, sc, ao, ac, tgo, tc, rfl, h1, h2, h3, h4, h5, h6⟩ := R
  have HA : Hid (∀ o, Below w.heap.size w (w.alloc o)) := fun o => (Below.refl _ w).alloc (Nat.le_refl _) o
  have hG := (K.ruleE_zero hE).2.1
  have HC : Hid (∀ o, Calls Try.prog 58 #[.slice so r.source.length sc, .func (.func 54) #[] #[.pointer (some ⟨bd, 0, none⟩)]] (w.alloc o) fun e w' => e = .returned (.bool (r.source.any (Pr.neverB dom))) ∧ Below (w.alloc o).heap.size (w.alloc o) w') := fun o =>
    ssAny_any (w.alloc o) _ r.source (h2.below (HA.out o)) 54 _ (Pr.neverB dom) (enters_of Try.func54 (by kernel_rfl) rfl)
      (fun W s u hW hs hu => one1_any W bd vd dom ((Rd.below (HA.out o) (Nat.le_refl _)).below hW (Nat.le_refl _)) hd (by rw [hW.cell (p := ⟨bd, 0, none⟩) (L.block_lt (K.alloc_cell hc o)), K.alloc_cell hc o]) u s hu (hG.2 s hs).1 (hG.2 s hs).2)
  have hfa : ∀ o, (w.alloc o).cell? ⟨bf, 0, none⟩ = some (.func (.func 54) #[] #[.pointer (some ⟨bd, 0, none⟩)]) := fun o => K.alloc_cell hf o
  have f2 := hG.1
  unfold Pr.broadB
  generalize r.source.any (Pr.neverB dom) = z at *
  obtain ⟨st, fi, be, sou, af, ta, cu⟩ := r
  simp only at HC f2 ⊢
  clear h1 h2 h3 h4 h5 h6 hG hE Rd hc
  show Calls Try.prog 57 #[_, .pointer (some ⟨bf, 0, none⟩)] w _
  by_cases q1 : 1 < sou.length
  · go_enter Try.func57, Try.ntmps57
    go_wp2_with fail
    refine (HC.out _).mono ?_
    rintro e w1 ⟨rfl, b1⟩
    have HB1 : Hid (Below w.heap.size w w1) := (K.one_box b1).2.1
    clear b1 HC hfa hf
    cases z with
    | false => go_wp2; go_ret; exact ⟨by simp [q1], HB1.out⟩
    | true => go_wp2; go_ret; exact ⟨by simp [q1], HB1.out⟩
  · go_enter Try.func57, Try.ntmps57
    go_wp2
    go_ret
    exact ⟨by simp [q1], HA.out _⟩

set_option maxHeartbeats 1000000 in
theorem oneByOne_any (w : World) (v : Value) (l : List K.Rule) (R0 : V.Rus w v l) (hE : ∀ r ∈ l, K.ruleE r = 0) (vd : Value) (dom : List Int) (Rd : L.Rd w vd .i32 dom) (hd : dom.length ≤ 8000) :
    Calls Try.prog 34 #[v, vd] w fun e w' => e = .returned (.bool (Pr.oneByOneB l dom)) ∧ Below w.heap.size w w' := by
  have hmf : ∀ (fn : Fn) (first cap : Array Value) (w : World), (Instr.makeFunc fn first cap).run Try.prog w = .ok (.func fn first cap) w := fun _ _ _ _ => rfl
  obtain ⟨X, hX⟩ : ∃ X, X = (w.alloc (.cells #[vd] 28)).alloc (.cells #[.func (.func 54) #[] #[.pointer (some ⟨w.heap.size, 0, none⟩)]] 88) := ⟨_, rfl⟩
  have hb := K.two_boxes (w := w) (Below.refl _ ((w.alloc (.cells #[vd] 28)).alloc (.cells #[.func (.func 54) #[] #[.pointer (some ⟨w.heap.size, 0, none⟩)]] 88)))
  rw [← hX] at hb
  have HC : Hid (Calls Try.prog 53 #[v, .func (.func 57) #[] #[.pointer (some ⟨w.heap.size + 1, 0, none⟩)]] X fun e w' => e = .returned (.bool (l.any (Pr.broadB dom))) ∧ Below X.heap.size X w') :=
    ruAny_any X v l (R0.below hb.2.2.1) 57 _ (Pr.broadB dom) (enters_of Try.func57 (by kernel_rfl) rfl)
      (fun W r u hW hr hu => one2_any W (w.heap.size + 1) w.heap.size vd dom ((Rd.below hb.2.2.1 (Nat.le_refl _)).below hW (Nat.le_refl _)) hd (K.at_box (i := 0) (K.blk_below hb.1 hW) rfl) (K.at_box (i := 0) (K.blk_below hb.2.1 hW) rfl) u r hu (hE r hr))
  have HB : Hid (Below w.heap.size w X) := hb.2.2.1
  unfold Pr.oneByOneB
  generalize l.any (Pr.broadB dom) = z at *
  obtain ⟨aa, ca, rfl⟩ := R0.len
  obtain ⟨xo, xc, rfl, _⟩ := Rd
  clear R0 hb hE
  go_enter Try.func34, Try.ntmps34
  go_wp2_with fail
  rw [← hX]
  refine HC.out.mono ?_
  rintro e w1 ⟨rfl, b1⟩
  have HB1 : Hid (Below w.heap.size w w1) := HB.out.trans (b1.mono HB.out.size)
  clear b1 HC hX
  cases z with
  | false => go_wp2; go_ret; exact ⟨rfl, HB1.out⟩
  | true => go_wp2; go_ret; exact ⟨rfl, HB1.out⟩

end Go.Proofs.Ytkkocnkfdepoiaa

/-
  One rune more: append(out, z).
-/
namespace Go.Proofs.Ytkkocnkfdepoiaa
open Go.RowKit
set_option maxRecDepth 20000
set_option linter.unusedSimpArgs false
set_option linter.unusedVariables false

/-- append(out, z) -/
theorem Cn.app1 {w : World} {B : Nat} {vo : Value} {o : List Int} (own : w.ownsRow B 21 1 vo o.length (K.ints o)) (hB : B ≤ w.heap.size) (hl : o.length ≤ 50000000) (z : Int) :
    ∃ ao' vc' w', (∀ ty, (Builtin.append_ #[28, 28] ty #[vo, .slice (some ⟨w.heap.size, 0, none⟩) 1 1]).run Try.prog (w.alloc (.cells #[.int .i32 z] 21)) = .ok (.slice ao' (o.length + 1) vc') w') ∧ w'.ownsRow B 21 1 (.slice ao' (o.length + 1) vc') (o ++ [z]).length (K.ints (o ++ [z])) ∧ (∀ b, b < w.heap.size → vo.ownBlock ≠ some b → w'.heap[b]? = w.heap[b]?) ∧ w.heap.size ≤ w'.heap.size ∧ Below B w w' := by
  have hal : Below w.heap.size w (w.alloc (.cells #[.int .i32 z] 21)) := (Below.refl _ w).alloc (Nat.le_refl _) _
  have hnew := heap_alloc_new w (.cells #[.int .i32 z] 21)
  have hrx : L.Rd (w.alloc (.cells #[.int .i32 z] 21)) (.slice (some ⟨w.heap.size, 0, none⟩) 1 1) .i32 [z] := ⟨_, _, rfl, fun e => by (cases e), fun _ => ⟨_, 0, rfl, fun j y hj => by
    match j, hj with
    | 0, hj => cases hj; exact K.at_box hnew rfl
    | n + 1, hj => simp at hj⟩⟩
  obtain ⟨v', w', run, own', gr, _⟩ := K.app_rd _ B vo o (own.alloc _) _ [z] hrx (by simp; omega) (by simp; omega)
  have hlen : (o ++ [z]).length = o.length + 1 := by simp
  obtain ⟨ao', vc', rfl⟩ : ∃ ao cap, v' = .slice ao (o.length + 1) cap := by
    rw [← hlen]
    rcases own'.2 with ⟨hv, h0⟩ | ⟨g, cap, cur, hv, _⟩
    · exact ⟨none, 0, by rw [hv, h0]⟩
    · exact ⟨_, cap, hv⟩
  refine ⟨ao', vc', w', run, own', fun b hb hne => ?_, ?_, (hal.mono hB).grown gr (by simp; omega) fun k hk => (own.lt k hk).1⟩
  · rw [gr.block b (by simp; omega) (fun e => hne e.symm)]
    exact hal.block b hb
  · have := gr.size
    simp at this
    omega

end Go.Proofs.Ytkkocnkfdepoiaa
