/-
  What scriptref1.Same answers of two slices of runes: whether they read as the same list.
-/
import Derived.Test.YtackaadejnbfmaaRows
import Derived.Test.YtackaadejnbfmaaSMath
import Derived.Deep.QuietTactic
import Derived.BigQuiet
import Derived.Test.YtackaadejnbfmaaMRef
import Derived.Test.YtackaadejnbfmaaQNe
import Derived.Test.YtackaadejnbfmaaSEdgesP
import Derived.Test.YtackaadejnbfmaaJRef
import Derived.Test.YtackaadejnbfmaaYFrame
namespace Go.Proofs.Ytackaadejnbfmaa
open Go.RowKit

theorem take_eq_snoc {a b : List Int} {k : Nat} {x y : Int} (h : a.take k = b.take k) (hx : a[k]? = some x) (hy : b[k]? = some y) (e : x = y) : a.take (k + 1) = b.take (k + 1) := by
  rw [List.take_add_one, List.take_add_one, h, hx, hy, e]

set_option maxHeartbeats 400000 in
theorem same_any (w : World) (va vb : Value) (za zb : List Int) (ha : L.Rd w va .i32 za) (hb : L.Rd w vb .i32 zb) (hla : za.length ≤ 4611686018427387903) (hlb : zb.length ≤ 4611686018427387903) :
    Calls Try.prog 9 #[va, vb] w fun e w' => e = .returned (.bool (decide (za = zb))) ∧ Below w.heap.size w w' := by
  obtain ⟨ao, ca, rfl, _, ha⟩ := ha
  obtain ⟨bo, cb, rfl, _, hb⟩ := hb
  by_cases hl : za.length = zb.length
  · go_enter Try.func9, Try.ntmps9
    go_wp2
    go_loopw [13] (fun i wr => ∃ k n : Nat, k ≤ za.length ∧ i = .int .i64 k ∧ za.take k = zb.take k ∧ wr = w.drewN n) (fun i _ => za.length - (intOf i).toNat)
    case atStart => exact ⟨0, 0, Nat.zero_le _, rfl, by simp, rfl⟩
    case round =>
      obtain ⟨k, n, hk, rfl, ht, rfl⟩ := hrel
      by_cases hlt : k < za.length
      · obtain ⟨b1, o1, rfl, hc1⟩ := ha (by intro h; subst h; simp at hlt)
        obtain ⟨b2, o2, rfl, hc2⟩ := hb (by intro h; subst h; simp at hl; rw [hl] at hlt; simp at hlt)
        obtain ⟨x, hx⟩ : ∃ x, za[k]? = some x := ⟨za[k], by simp [hlt]⟩
        obtain ⟨y, hy⟩ : ∃ y, zb[k]? = some y := ⟨zb[k]'(by omega), by simp [show k < zb.length by omega]⟩
        have c1 := hc1 k x hx
        have c2 := hc2 k y hy
        clear hc1 hc2 ha hb
        have HX : Hid (za[k]? = some x ∧ zb[k]? = some y ∧ za.take k = zb.take k) := ⟨hx, hy, ht⟩
        clear hx hy ht
        by_cases hxy : x = y
        · go_wp2
          go_quiet (fail)
          go_wp2
          go_roundw
          case rel => exact ⟨k + 1, _, by omega, by go_num, take_eq_snoc HX.out.2.2 HX.out.1 HX.out.2.1 hxy, rfl⟩
          case measure => simp [intOf]; omega
        · go_wp2
          go_quiet (fail)
          go_wp2
          go_ret
          refine ⟨L.ret_bool ?_, below_drewN (below_drewN (Below.refl _ _) _) _⟩
          have : za ≠ zb := by
            intro e
            rw [e] at HX
            have h1 := HX.out.1
            rw [HX.out.2.1] at h1
            exact hxy (Option.some.inj h1).symm
          simp [this]
      · go_wp2
        go_ret
        refine ⟨L.ret_bool ?_, below_drewN (Below.refl _ _) _⟩
        rw [List.take_of_length_le (by omega), List.take_of_length_le (by omega)] at ht
        simp [ht]
  · go_enter Try.func9, Try.ntmps9
    go_wp2
    go_ret
    refine ⟨L.ret_bool ?_, Below.refl _ _⟩
    have : za ≠ zb := by intro e; exact hl (by rw [e])
    simp [this]

end Go.Proofs.Ytackaadejnbfmaa

/-
  scriptlaw11.VmRuns: it returns true.
-/
namespace Go.Proofs.Ytackaadejnbfmaa
open Go.RowKit Go.Shelf
set_option maxRecDepth 20000
set_option linter.unusedSimpArgs false
set_option linter.unusedVariables false

theorem Gm.Ply.bad {l : List K.Rule} {t x : List Int} {s p f1 f2 : Int} (h : Gm.Ply l t x s p f1 f2) (hc : ¬ (K.checkF l t).1 = 0) : x = [] ∧ s = 0 ∧ p = 0 ∧ f1 = (K.checkF l t).1 ∧ f2 = (K.checkF l t).2 := by
  obtain ⟨o, hchk, hor⟩ := h
  unfold K.checkF at hc ⊢
  rcases hchk with ⟨h1, rfl⟩ | ⟨h1, h2, rfl⟩ | ⟨h1, h2, _⟩
  · rw [if_neg h1]
    rcases hor with ⟨_, g1, g2, g3, g4, g5⟩ | ⟨g, _⟩
    · exact ⟨g1, g2, g3, g4, g5⟩
    · exact absurd g h1
  · rw [if_pos h1]
    rcases hor with ⟨_, g1, g2, g3, g4, g5⟩ | ⟨g, _⟩
    · exact ⟨g1, g2, g3, g4, g5⟩
    · exact absurd g h2
  · rw [if_pos h1] at hc
    exact absurd h2 hc

theorem Gm.Ply.good {l : List K.Rule} {t x : List Int} {s p f1 f2 : Int} {o : List J.Hd × Int × Int} (h : Gm.Ply l t x s p f1 f2) (hc : (K.checkF l t).1 = 0) (ho : J.Comp l o) : (o.2.1 ≠ 0 ∧ x = [] ∧ s = 0 ∧ p = 0 ∧ f1 = o.2.1 ∧ f2 = o.2.2) ∨ (o.2.1 = 0 ∧ K.runF l t = ((x, s, p), f1, f2)) := by
  obtain ⟨o', hchk, hor⟩ := h
  obtain ⟨h1, h2, _⟩ := K.checkF_zero hc
  rcases hchk with ⟨g, _⟩ | ⟨_, g, _⟩ | ⟨_, _, g⟩
  · exact absurd h1 g
  · exact absurd h2 g
  · have := J.comp_unique ho g
    subst this
    rcases hor with h | ⟨h3, h4, h5⟩
    · exact .inl h
    · refine .inr ⟨h3, ?_⟩
      unfold K.runF
      rw [if_pos hc, h4, h5]

theorem K.five2 {w W : World} {B a b : Nat} (hb : Below B w W) (ha : B ≤ a) (hbb : B ≤ b) (v0 v1 v2 v3 v4 : Value) :
    Below B w (((((W.setCell ⟨b, 0, none⟩ v3).setCell ⟨b, 1, none⟩ v4).setCell ⟨a, 0, none⟩ v0).setCell ⟨a, 1, none⟩ v1).setCell ⟨a, 2, none⟩ v2) :=
  ((((hb.setCell (p := ⟨b, 0, none⟩) hbb _).setCell (p := ⟨b, 1, none⟩) hbb _).setCell (p := ⟨a, 0, none⟩) ha _).setCell (p := ⟨a, 1, none⟩) ha _).setCell (p := ⟨a, 2, none⟩) ha _

set_option maxHeartbeats 8000000 in
theorem vmRuns_any (w : World) (vl : Value) (l : List K.Rule) (R0 : V.Rus w vl l) (vt : Value) (t : List Int) (Rt : L.Rd w vt .i32 t) (ht : t.length ≤ 140737488355328) :
    Calls Try.prog 3 #[vl, vt] w fun e w' => e = .returned (.bool true) ∧ Below w.heap.size w w' := by
  have HP := xvmPlay_any w vl l R0 vt t Rt ht
  have HC : Hid (∀ X, Below w.heap.size w X → Calls Try.prog 7 #[vl, vt] X fun e w' => e = .returned (.agg #[.int .i64 (K.checkF l t).1, .int .i64 (K.checkF l t).2]) ∧ Below X.heap.size X w') := fun X hX => rCheck_any X _ l (R0.below hX) vt t (Rt.below hX (Nat.le_refl _)) ht
  have HB : Hid (∀ X, Below w.heap.size w X → Calls Try.prog 6 #[vl, vt] X fun e w' => ∃ v', e = .returned (.tuple #[.agg #[v', .int .i64 (K.runF l t).1.2.1, .int .i64 (K.runF l t).1.2.2], .agg #[.int .i64 (K.runF l t).2.1, .int .i64 (K.runF l t).2.2]]) ∧ L.Rd w' v' .i32 (K.runF l t).1.1 ∧ Below X.heap.size X w') := fun X hX => rRun8_any X _ l (R0.below hX) vt t (Rt.below hX (Nat.le_refl _)) ht
  have HM : Hid (∀ X, Below w.heap.size w X → Calls Try.prog 8 #[vl] X fun e w' => ∃ (v' : Value) (o : List J.Hd × Int × Int), J.Comp l o ∧ e = .returned (.tuple #[v', .agg #[.int .i64 o.2.1, .int .i64 o.2.2]]) ∧ J.Own X.heap.size w' v' o.1 ∧ Below X.heap.size X w') := fun X hX => rCompile_any X vl l (R0.below hX)
  have HLen : Hid ((K.runF l t).1.1.length ≤ 4000) := K.runF_len
  obtain ⟨ao, cap, rfl⟩ := R0.len
  obtain ⟨xo, xc, rfl, _⟩ := Rt
  have HGood : Hid (∀ x s p f1 f2 o, Gm.Ply l t x s p f1 f2 → (K.checkF l t).1 = 0 → J.Comp l o → (o.2.1 ≠ 0 ∧ x = [] ∧ s = 0 ∧ p = 0 ∧ f1 = o.2.1 ∧ f2 = o.2.2) ∨ (o.2.1 = 0 ∧ K.runF l t = ((x, s, p), f1, f2))) := fun x s p f1 f2 o h hc ho => h.good hc ho
  have HBad : Hid (∀ x s p f1 f2, Gm.Ply l t x s p f1 f2 → ¬ (K.checkF l t).1 = 0 → x = [] ∧ s = 0 ∧ p = 0 ∧ f1 = (K.checkF l t).1 ∧ f2 = (K.checkF l t).2) := fun x s p f1 f2 h hc => h.bad hc
  obtain ⟨⟨⟨rt, rs, rp⟩, re, ra⟩, hrun⟩ : ∃ o, K.runF l t = o := ⟨_, rfl⟩
  rw [hrun] at HB HLen HGood
  obtain ⟨⟨c1, c2⟩, hch⟩ : ∃ o, K.checkF l t = o := ⟨_, rfl⟩
  rw [hch] at HC HGood HBad
  simp only at HC HB HLen HGood HBad
  clear hrun hch R0
  go_enter Try.func3, Try.ntmps3
  go_wp2_with fail
  refine HP.mono ?_
  rintro e w1 ⟨v1, x, s, p, f1, f2, rfl, d1, hply, hx4, b1⟩
  obtain ⟨va, vc, rfl⟩ : ∃ va vc, v1 = .slice va x.length vc := by obtain ⟨a, c, h, _⟩ := d1; exact ⟨a, c, h⟩
  clear HP
  have HPy : Hid (Gm.Ply l t x s p f1 f2) := hply
  obtain ⟨X1, hX1⟩ : ∃ X1, X1 = (w1.alloc (.cells #[.slice va x.length vc, .int .i64 s, .int .i64 p] 25)).alloc (.cells #[.int .i64 f1, .int .i64 f2] 28) := ⟨_, rfl⟩
  have hb1 : Below w1.heap.size w1 X1 := by rw [hX1]; exact ((Below.refl _ w1).alloc (Nat.le_refl _) _).alloc (by simp) _
  have hs1 : X1.heap.size = w1.heap.size + 2 := by rw [hX1]; simp
  have h5 : X1.heap[w1.heap.size]? = some (.cells #[.slice va x.length vc, .int .i64 s, .int .i64 p] 25) := by
    rw [hX1]
    show (((w1.heap.push _).push _))[w1.heap.size]? = _
    rw [Array.getElem?_push, if_neg (by simp), Array.getElem?_push, if_pos rfl]
  have h6 : X1.heap[w1.heap.size + 1]? = some (.cells #[.int .i64 f1, .int .i64 f2] 28) := by
    rw [hX1]
    show (((w1.heap.push _).push _))[w1.heap.size + 1]? = _
    rw [Array.getElem?_push, if_pos (by simp)]
  have HWs : Hid (w.heap.size ≤ w1.heap.size) := b1.size
  have HX1 : Hid (X1.heap[w1.heap.size]? = some (.cells #[.slice va x.length vc, .int .i64 s, .int .i64 p] 25) ∧ X1.heap[w1.heap.size + 1]? = some (.cells #[.int .i64 f1, .int .i64 f2] 28) ∧ X1.heap.size = w1.heap.size + 2 ∧ Below w.heap.size w X1 ∧ L.Rd X1 (.slice va x.length vc) .i32 x) := ⟨h5, h6, hs1, b1.trans (hb1.mono b1.size), d1.below hb1 (Nat.le_refl _)⟩
  have hRun := HB.out X1 HX1.out.2.2.2.1
  clear b1 hb1 d1 hs1 h5 h6 hply HB
  go_wp2_with fail
  rw [← hX1]
  refine hRun.mono ?_
  rintro e w2 ⟨v2, rfl, d2, b2⟩
  obtain ⟨va2, vc2, rfl⟩ : ∃ va vc, v2 = .slice va rt.length vc := by obtain ⟨a, c, h, _⟩ := d2; exact ⟨a, c, h⟩
  clear hRun hX1
  have e5 := K.blk_below HX1.out.1 b2
  have e6 := K.blk_below HX1.out.2.1 b2
  have eb := HX1.out.2.2.2.1.trans (b2.mono HX1.out.2.2.2.1.size)
  have er := HX1.out.2.2.2.2.below b2 (Nat.le_refl _)
  have hs2 : w1.heap.size + 2 ≤ w2.heap.size := by have := b2.size; have := HX1.out.2.2.1; omega
  obtain ⟨X2, hX2⟩ : ∃ X2, X2 = (w2.alloc (.cells #[.slice va2 rt.length vc2, .int .i64 rs, .int .i64 rp] 25)).alloc (.cells #[.int .i64 re, .int .i64 ra] 28) := ⟨_, rfl⟩
  have hb2 : Below w2.heap.size w2 X2 := by rw [hX2]; exact ((Below.refl _ w2).alloc (Nat.le_refl _) _).alloc (by simp) _
  have hz2 : X2.heap.size = w2.heap.size + 2 := by rw [hX2]; simp
  have h7 : X2.heap[w2.heap.size]? = some (.cells #[.slice va2 rt.length vc2, .int .i64 rs, .int .i64 rp] 25) := by
    rw [hX2]
    show (((w2.heap.push _).push _))[w2.heap.size]? = _
    rw [Array.getElem?_push, if_neg (by simp), Array.getElem?_push, if_pos rfl]
  have h8 : X2.heap[w2.heap.size + 1]? = some (.cells #[.int .i64 re, .int .i64 ra] 28) := by
    rw [hX2]
    show (((w2.heap.push _).push _))[w2.heap.size + 1]? = _
    rw [Array.getElem?_push, if_pos (by simp)]
  have HX2 : Hid ((X2.heap[w1.heap.size]? = some (.cells #[.slice va x.length vc, .int .i64 s, .int .i64 p] 25) ∧ X2.heap[w1.heap.size + 1]? = some (.cells #[.int .i64 f1, .int .i64 f2] 28) ∧ X2.heap[w2.heap.size]? = some (.cells #[.slice va2 rt.length vc2, .int .i64 rs, .int .i64 rp] 25) ∧ X2.heap[w2.heap.size + 1]? = some (.cells #[.int .i64 re, .int .i64 ra] 28)) ∧ X2.heap.size = w2.heap.size + 2 ∧ Below w.heap.size w X2 ∧ L.Rd X2 (.slice va x.length vc) .i32 x ∧ L.Rd X2 (.slice va2 rt.length vc2) .i32 rt) := ⟨⟨K.blk_below e5 hb2, K.blk_below e6 hb2, h7, h8⟩, hz2, eb.trans (hb2.mono eb.size), er.below hb2 (Nat.le_refl _), d2.below hb2 (Nat.le_refl _)⟩
  have hChk := HC.out X2 HX2.out.2.2.1
  clear b2 hb2 d2 hz2 h7 h8 e5 e6 eb er HX1 HC
  go_wp2_with fail
  rw [← hX2]
  refine hChk.mono ?_
  rintro e w3 ⟨rfl, b3⟩
  clear hChk hX2
  have hs3 : w2.heap.size + 2 ≤ w3.heap.size := by have := b3.size; have := HX2.out.2.1; omega
  obtain ⟨⟨e5, e6, e7, e8⟩, _, eb, ex, er⟩ := HX2.out
  replace e5 := K.blk_below e5 b3
  replace e6 := K.blk_below e6 b3
  replace e7 := K.blk_below e7 b3
  replace e8 := K.blk_below e8 b3
  replace ex := ex.below b3 (Nat.le_refl _)
  replace er := er.below b3 (Nat.le_refl _)
  replace eb := eb.trans (b3.mono eb.size)
  have HX3 : Hid ((w3.heap[w1.heap.size]? = some (.cells #[.slice va x.length vc, .int .i64 s, .int .i64 p] 25) ∧ w3.heap[w1.heap.size + 1]? = some (.cells #[.int .i64 f1, .int .i64 f2] 28) ∧ w3.heap[w2.heap.size]? = some (.cells #[.slice va2 rt.length vc2, .int .i64 rs, .int .i64 rp] 25) ∧ w3.heap[w2.heap.size + 1]? = some (.cells #[.int .i64 re, .int .i64 ra] 28)) ∧ Below w.heap.size w w3 ∧ L.Rd w3 (.slice va x.length vc) .i32 x ∧ L.Rd w3 (.slice va2 rt.length vc2) .i32 rt) := ⟨⟨e5, e6, e7, e8⟩, eb, ex, er⟩
  clear b3 HX2 e5 e6 e7 e8 eb ex er
  by_cases hc : c1 = 0
  · subst hc
    have HB3 : Hid (∀ o, Below w.heap.size w (w3.alloc o)) := fun o => HX3.out.2.1.alloc HX3.out.2.1.size o
    have HMM := fun o => HM.out (w3.alloc o) (HB3.out o)
    have HMo : Hid (∀ o, Calls Try.prog 8 #[.slice ao l.length cap] (w3.alloc o) fun e w' => ∃ (v' : Value) (o' : List J.Hd × Int × Int), J.Comp l o' ∧ e = .returned (.tuple #[v', .agg #[.int .i64 o'.2.1, .int .i64 o'.2.2]]) ∧ J.Own (w3.alloc o).heap.size w' v' o'.1 ∧ Below (w3.alloc o).heap.size (w3.alloc o) w') := HMM
    clear HMM HM
    go_wp2_with fail
    refine (HMo.out _).mono ?_
    rintro e w4 ⟨v4, ⟨hs, o1, o2⟩, hcomp, rfl, _, b4⟩
    obtain ⟨h9, B4, s4⟩ := K.one_box b4
    have hor := HGood.out x s p f1 f2 (hs, o1, o2) HPy.out (by trivial) hcomp
    obtain ⟨⟨e5, e6, e7, e8⟩, eb, ex, er⟩ := HX3.out
    replace e5 := K.blk_below e5 B4
    replace e6 := K.blk_below e6 B4
    replace e7 := K.blk_below e7 B4
    replace e8 := K.blk_below e8 B4
    replace ex := ex.below B4 (Nat.le_refl _)
    replace er := er.below B4 (Nat.le_refl _)
    replace eb := eb.trans (B4.mono eb.size)
    have k50 := K.at_box (i := 0) e5 rfl
    have k51 := K.at_box (i := 1) e5 rfl
    have k52 := K.at_box (i := 2) e5 rfl
    have k60 := K.at_box (i := 0) e6 rfl
    have k61 := K.at_box (i := 1) e6 rfl
    have k70 := K.at_box (i := 0) e7 rfl
    have k71 := K.at_box (i := 1) e7 rfl
    have k72 := K.at_box (i := 2) e7 rfl
    have k80 := K.at_box (i := 0) e8 rfl
    have k81 := K.at_box (i := 1) e8 rfl
    have k90 := K.at_box (i := 0) h9 rfl
    have k91 := K.at_box (i := 1) h9 rfl
    have g7 : ∀ i, w4.frozen? ⟨w2.heap.size, i, none⟩ = false := fun i => frozen_of_row w4 _ i _ _ e7
    have g8 : ∀ i, w4.frozen? ⟨w2.heap.size + 1, i, none⟩ = false := fun i => frozen_of_row w4 _ i _ _ e8
    have g9 : ∀ i, w4.frozen? ⟨w3.heap.size, i, none⟩ = false := fun i => frozen_of_row w4 _ i _ _ h9
    have n1 : w1.heap.size ≠ w2.heap.size := by omega
    have n2 : w1.heap.size ≠ w2.heap.size + 1 := by omega
    have n3 : w1.heap.size + 1 ≠ w2.heap.size := by omega
    have m1 : w1.heap.size ≠ w3.heap.size := by omega
    have m2 : w1.heap.size + 1 ≠ w3.heap.size := by omega
    have m3 : w2.heap.size ≠ w3.heap.size := by omega
    have m4 : w2.heap.size + 1 ≠ w3.heap.size := by omega
    have m5 : w3.heap.size ≠ w2.heap.size := by omega
    have m6 : w3.heap.size ≠ w2.heap.size + 1 := by omega
    have hw2 : w.heap.size ≤ w2.heap.size := by
      have h2 := HWs.out
      omega
    have HB4 : Hid (∀ x y, Below w.heap.size w ((w4.setCell ⟨w3.heap.size, 0, none⟩ x).setCell ⟨w3.heap.size, 1, none⟩ y)) := fun x y => (eb.setCell (p := ⟨w3.heap.size, 0, none⟩) (by simp; omega) _).setCell (p := ⟨w3.heap.size, 1, none⟩) (by simp; omega) _
    rcases hor with ⟨ho, rfl, rfl, rfl, rfl, rfl⟩ | ⟨ho, hru⟩
    · have HSm : Hid (∀ X, Below w.heap.size w X → Calls Try.prog 9 #[.slice va ([] : List Int).length vc, .slice none 0 0] X fun e w' => e = .returned (.bool true) ∧ Below w.heap.size w w') := fun X hX => by
        refine (same_any X (.slice va ([] : List Int).length vc) (.slice none 0 0) [] [] (K.rd_block ex fun h => absurd rfl h) ⟨none, 0, rfl, fun _ => rfl, fun h => absurd rfl h⟩ (by simp) (by simp)).mono ?_
        rintro e w' ⟨h1, h2⟩
        exact ⟨by simpa using h1, hX.trans (h2.mono hX.size)⟩
      have ho' : ¬ f1 = 0 := ho
      clear e5 e6 e7 e8 eb ex er HX3 h9 B4 b4 HMo HB3 ho hcomp HPy HGood HBad
      go_wp2_with fail
      refine (HSm.out _ (K.five2 (HB4.out _ _) hw2 (by omega) _ _ _ _ _)).mono ?_
      rintro e w9 ⟨rfl, b9⟩
      have HB9 : Hid (Below w.heap.size w w9) := b9
      clear b9 HSm
      go_wp2
      go_ret
      exact ⟨rfl, HB9.out⟩
    · simp only [Prod.mk.injEq] at hru
      obtain ⟨⟨rfl, rfl, rfl⟩, rfl, rfl⟩ := hru
      have ho' : o1 = 0 := ho
      subst ho'
      have HSm : Hid (∀ y z, Calls Try.prog 9 #[.slice va rt.length vc, .slice va2 rt.length vc2] ((w4.setCell ⟨w3.heap.size, 0, none⟩ y).setCell ⟨w3.heap.size, 1, none⟩ z) fun e w' => e = .returned (.bool true) ∧ Below w.heap.size w w') := fun y z => by
        have hkeep : ∀ v, L.Rd w4 v .i32 rt → L.Rd ((w4.setCell ⟨w3.heap.size, 0, none⟩ y).setCell ⟨w3.heap.size, 1, none⟩ z) v .i32 rt := fun v hv => K.rd_block hv fun hz q hq => by
          have hne := K.rd_ne hv h9 hz q hq
          rw [heap_setCell_other _ ⟨w3.heap.size, 1, none⟩ q _ (by simpa using hne), heap_setCell_other _ ⟨w3.heap.size, 0, none⟩ q _ (by simpa using hne)]
        have hX := HB4.out y z
        refine (same_any _ (.slice va rt.length vc) (.slice va2 rt.length vc2) rt rt (hkeep _ ex) (hkeep _ er) (by have := HLen.out; omega) (by have := HLen.out; omega)).mono ?_
        rintro e w' ⟨h1, h2⟩
        exact ⟨by simpa using h1, hX.trans (h2.mono hX.size)⟩
      clear e5 e6 e7 e8 eb ex er HX3 h9 B4 b4 HMo HB3 ho hcomp HPy HGood HBad
      go_wp2_with fail
      refine (HSm.out _ _).mono ?_
      rintro e w9 ⟨rfl, b9⟩
      have HB9 : Hid (Below w.heap.size w w9) := b9
      clear b9 HSm
      go_wp2
      go_ret
      exact ⟨rfl, HB9.out⟩
  · obtain ⟨rfl, rfl, rfl, rfl, rfl⟩ := HBad.out x s p f1 f2 HPy.out hc
    have HSm : Hid (∀ X, Below w.heap.size w X → Calls Try.prog 9 #[.slice va ([] : List Int).length vc, .slice none 0 0] X fun e w' => e = .returned (.bool true) ∧ Below w.heap.size w w') := fun X hX => by
      refine (same_any X (.slice va ([] : List Int).length vc) (.slice none 0 0) [] [] (K.rd_block HX3.out.2.2.1 fun h => absurd rfl h) ⟨none, 0, rfl, fun _ => rfl, fun h => absurd rfl h⟩ (by simp) (by simp)).mono ?_
      rintro e w' ⟨h1, h2⟩
      exact ⟨by simpa using h1, hX.trans (h2.mono hX.size)⟩
    have hs3' := hs3
    obtain ⟨⟨e5, e6, e7, e8⟩, eb, ex, er⟩ := HX3.out
    have k50 : ∀ o, (w3.alloc o).cell? ⟨w1.heap.size, 0, none⟩ = some (.slice va ([] : List Int).length vc) := fun o => K.alloc_cell (K.at_box e5 rfl) o
    have k51 : ∀ o, (w3.alloc o).cell? ⟨w1.heap.size, 1, none⟩ = some (.int .i64 0) := fun o => K.alloc_cell (K.at_box e5 rfl) o
    have k52 : ∀ o, (w3.alloc o).cell? ⟨w1.heap.size, 2, none⟩ = some (.int .i64 0) := fun o => K.alloc_cell (K.at_box e5 rfl) o
    have k60 : ∀ o, (w3.alloc o).cell? ⟨w1.heap.size + 1, 0, none⟩ = some (.int .i64 f1) := fun o => K.alloc_cell (K.at_box e6 rfl) o
    have k61 : ∀ o, (w3.alloc o).cell? ⟨w1.heap.size + 1, 1, none⟩ = some (.int .i64 f2) := fun o => K.alloc_cell (K.at_box e6 rfl) o
    have k70 : ∀ o, (w3.alloc o).cell? ⟨w2.heap.size, 0, none⟩ = some (.slice va2 rt.length vc2) := fun o => K.alloc_cell (K.at_box e7 rfl) o
    have k71 : ∀ o, (w3.alloc o).cell? ⟨w2.heap.size, 1, none⟩ = some (.int .i64 rs) := fun o => K.alloc_cell (K.at_box e7 rfl) o
    have k72 : ∀ o, (w3.alloc o).cell? ⟨w2.heap.size, 2, none⟩ = some (.int .i64 rp) := fun o => K.alloc_cell (K.at_box e7 rfl) o
    have k80 : ∀ o, (w3.alloc o).cell? ⟨w2.heap.size + 1, 0, none⟩ = some (.int .i64 re) := fun o => K.alloc_cell (K.at_box e8 rfl) o
    have k81 : ∀ o, (w3.alloc o).cell? ⟨w2.heap.size + 1, 1, none⟩ = some (.int .i64 ra) := fun o => K.alloc_cell (K.at_box e8 rfl) o
    have g7 : ∀ o i, (w3.alloc o).frozen? ⟨w2.heap.size, i, none⟩ = false := fun o i => K.alloc_free e7 o i
    have g8 : ∀ o i, (w3.alloc o).frozen? ⟨w2.heap.size + 1, i, none⟩ = false := fun o i => K.alloc_free e8 o i
    have n1 : w1.heap.size ≠ w2.heap.size := by omega
    have n2 : w1.heap.size ≠ w2.heap.size + 1 := by omega
    have n3 : w1.heap.size + 1 ≠ w2.heap.size := by omega
    have HB3 : Hid (∀ o, Below w.heap.size w (w3.alloc o)) := fun o => eb.alloc eb.size o
    have hw2 : w.heap.size ≤ w2.heap.size := by
      have h1 := HX3.out.2.1.size
      have h2 := HWs.out
      omega
    clear e5 e6 e7 e8 eb ex er HX3
    go_wp2_with fail
    refine (HSm.out _ (K.five2 (HB3.out _) hw2 (by omega) _ _ _ _ _)).mono ?_
    rintro e w9 ⟨rfl, b9⟩
    have HB9 : Hid (Below w.heap.size w w9) := b9
    clear b9 HSm
    go_wp2
    go_ret
    exact ⟨rfl, HB9.out⟩

end Go.Proofs.Ytackaadejnbfmaa

/-
  Whatever comes in: scriptlaw11.VmRuns returns true, and each argument reads behind the call as it read before.
-/
namespace Go.Proofs.Ytackaadejnbfmaa
open Go.ChangeShapes Go.WideShapes Go.ChangeAt Go.RowKit
set_option linter.unusedVariables false
set_option linter.unusedSimpArgs false

set_option maxRecDepth 100000 in
theorem vmRunsArgs {H : Type} {enc : TypeId × Value → H} {W : World} {base : Nat} {args : Array Value} {ds : List (DataW H)} {p : List MemPlace}
    (hval : ∀ (j : Nat) t v, Try.f3.params[j]? = some t → args[j]? = some v → Value.okWide Try.prog W .any base t v)
    (hA : DataW.TrodAll enc Try.prog W 0 (fun _ => true) true Try.f3.params.toList args.toList ds p)
    (hsz : (DataW.weightsEach Try.prog Try.f3.params.toList ds).all (· ≤ reachBytes) = true) :
    Calls Try.prog 3 args W fun e W' => e = .returned (.bool true) ∧ Below W.heap.size W W' := by
  rw [Try.params3] at hA hval hsz
  obtain ⟨v0, vs0, d0, ds0, p0, q0, hargs, rfl, rfl, h0, r0⟩ := trodAll_cons hA
  obtain ⟨v1, vs1, d1, ds1, p1, q1, rfl, rfl, rfl, h1, r1⟩ := trodAll_cons r0
  obtain ⟨rfl, rfl, rfl⟩ := trodAll_nil r1
  obtain rfl : args = #[v0, v1] := by cases args; simp_all
  have hw : ∀ n ∈ DataW.weightsEach Try.prog [22, 23] [d0, d1], n ≤ reachBytes := fun n hn => by
    have := List.all_eq_true.1 hsz n hn
    simpa using this
  have C0 := rules_cap (hval 0 22 v0 rfl rfl) h0
  obtain ⟨l0, R0⟩ := rules_rd (hval 0 22 v0 rfl rfl) h0 fun n hn => hw n (DataW.weights_mem_each (j := 0) rfl rfl n hn)
  obtain ⟨ao1, len1, cap1, rfl⟩ := okWide_slice Try.underlying23 (hval 1 23 v1 rfl rfl)
  obtain ⟨fuel1, hf1⟩ := h1
  obtain ⟨sp1, c1, z1, hcs1, R1, L1, C1⟩ := runes_cells hf1 fun n hn => hw n (DataW.weights_mem_each (j := 1) rfl rfl n hn)
  simp [Value.cells] at hcs1
  obtain ⟨rfl, rfl, rfl⟩ := hcs1
  clear hw hsz
  exact vmRuns_any W _ l0 R0 _ z1 R1 L1

set_option maxRecDepth 100000 in
theorem vmRunsLifted (os : Os) (started : os.Started) (H : Type) (enc : TypeId × Value → H) :
    ReturnsInHanded {} Try.checked os 3 .any (Rows.vmRunsSpec.pre6 enc Try.prog Try.f3 Rows.vmRunsRow.domain false) (Rows.vmRunsSpec.post enc Try.prog Try.f3 false true false false) := by
  refine returnsInHanded_of_change_sized (C := Try.checked) Try.own started (by kernel_rfl) Try.func3
    (ChangeSpec.witness6 (enc := enc) (C := Try.checked) (s := Rows.vmRunsSpec) false ⟨#[], #[.slice none 0 0, .slice none 0 0], []⟩ 8 (by kernel_rfl) (by kernel_rfl) (by kernel_rfl) (by kernel_rfl)) ?_
  intro W base args ds gs before hval hW _ hsz0 _
  have hW' := hW
  obtain ⟨p, q, hA0, hV, rfl, hfz, hnd⟩ := hW
  have hA : DataW.TrodAll enc Try.prog W 0 (fun _ => true) true Try.f3.params.toList args.toList ds p := hA0
  obtain ⟨rfl, rfl⟩ := trodVars_none hV
  have hsz : (DataW.weightsEach Try.prog Try.f3.params.toList ds).all (· ≤ reachBytes) = true := by
    have h := hsz0
    rw [List.append_nil] at h
    have e : Rows.vmRunsSpec.plain.varTypes Try.prog = [] := by kernel_rfl
    have h2 : (DataW.weightsEach Try.prog (Try.f3.params.toList ++ Rows.vmRunsSpec.plain.varTypes Try.prog) ds).all (· ≤ reachBytes) = true := h
    rw [e, List.append_nil] at h2
    exact h2
  refine (vmRunsArgs hval hA hsz).mono fun e W' ⟨he, bel⟩ => ?_
  subst he
  have hA' := trodAll_below Try.laidOut bel _ _ _ _ (by kernel_rfl) hA
  obtain ⟨x0, x1, rfl⟩ : ∃ x0 x1, ds = [x0, x1] := by
    rw [Try.params3] at hA
    obtain ⟨v0, vs0, d0, ds0, p0, q0, hargs, rfl, rfl, h0, r0⟩ := trodAll_cons hA
    obtain ⟨v1, vs1, d1, ds1, p1, q1, rfl, rfl, rfl, h1, r1⟩ := trodAll_cons r0
    obtain ⟨rfl, rfl, rfl⟩ := trodAll_nil r1
    exact ⟨_, _, rfl⟩
  exact ⟨_, rfl, _, _, _, [], p, [], hW', trodAll_mk1 (shut_bool Try.underlying4 _), hA', rfl, bel.frame _, fun h => by cases h⟩

theorem vmRuns_holds : Rows.VmRunsSaid :=
  OpenClaim.holds_of_wide 3 Try.f3 rfl rfl rfl rfl rfl rfl rfl ⟨rfl, rfl, rfl, rfl, rfl⟩ rfl rfl rfl rfl rfl (by kernel_rfl) Try.func3 (by kernel_rfl)
    (of_decide_eq_true (by kernel_rfl)) (by unfold Func.isWrapper; first | (rw [if_pos (by decide +kernel)]; kernel_rfl) | (rw [if_neg (by decide +kernel)]; exact ⟨rfl, rfl⟩))
    (fun os started H enc _ => vmRunsLifted os started H enc)

#print axioms vmRuns_holds
end Go.Proofs.Ytackaadejnbfmaa
