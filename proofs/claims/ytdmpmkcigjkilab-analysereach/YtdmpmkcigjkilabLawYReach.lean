/-
  scriptlaw9.AnalyseReach: it returns true.
-/
import Derived.Test.YtdmpmkcigjkilabYAlive
import Derived.Test.YtdmpmkcigjkilabYMath2
import Derived.Test.YtdmpmkcigjkilabQWhich
import Derived.Test.YtdmpmkcigjkilabMCut
namespace Go.Proofs.Ytdmpmkcigjkilab
open Go.RowKit Go.Shelf
set_option maxRecDepth 20000
set_option linter.unusedSimpArgs false
set_option linter.unusedVariables false

theorem K.slice_win (xo : Option Addr) (N xc a b : Nat) (x y : Int) (hx : x = a) (hy : y = b) (hab : a ≤ b) (hb : b ≤ xc) (w' : World) : (Instr.slice 23 (.slice xo N xc) (some (.int .i64 x)) (some (.int .i64 y)) none).run Try.prog w' = .ok (.slice (if xc = a then xo else Option.map (fun p => p.add a) xo) (b - a) (xc - a)) w' := by
  subst hx hy
  have a1 : (a : Int) ≤ b := by omega
  have a2 : (b : Int) ≤ xc := by omega
  have a0 : (0 : Int) ≤ a := by omega
  have a3 : (0 : Int) ≤ b := by omega
  go_simp

theorem K.rd_win {w : World} {xo : Option Addr} {xc : Nat} {t : List Int} (h : L.Rd w (.slice xo t.length xc) .i32 t) {a b : Nat} (hab : a ≤ b) (hb : b ≤ t.length) (hxc : t.length ≤ xc) : L.Rd w (.slice (if xc = a then xo else Option.map (fun p => p.add a) xo) (b - a) (xc - a)) .i32 ((t.take b).drop a) := by
  have h1 := K.rd_take h hb
  have e : (t.take b).length = b := by rw [List.length_take]; omega
  have h2 := K.rd_drop (t := t.take b) (xo := xo) (xc := xc) (w := w) (by rw [e]; exact h1) (d := a) (by omega) (by omega)
  rw [e] at h2
  exact h2

/-- all that Which says of a window -/
theorem K.whichF_window {l : List K.Rule} {t : List Int} {k a b : Nat} (h0 : (K.checkF l t).1 = 0) (hk : k ≤ t.length) (ha : a = k - K.behind l - 1) (hb : b = min t.length (k + K.ahead l + 1)) (kk : Int) (hkk : kk = (k : Int) - a) : K.whichF l ((t.take b).drop a) kk = (K.which l t k, 0, 0) := by
  obtain ⟨c1, c2, _⟩ := K.checkF_zero h0
  have hlen : ((t.take b).drop a).length = b - a := by rw [List.length_drop, List.length_take]; omega
  unfold K.whichF
  rw [K.checkF_ok c1 (K.textE_part c2 a b), if_pos rfl, if_neg (by rw [hlen]; omega), hkk, K.which_window hk ha hb]

set_option maxHeartbeats 4000000 in
theorem analyseReach_any (w : World) (vl : Value) (l : List K.Rule) (R0 : V.Rus w vl l) (xo : Option Addr) (xc : Nat) (t : List Int) (Rt : L.Rd w (.slice xo t.length xc) .i32 t) (ht : t.length ≤ 140737488355328) (hxc : t.length ≤ xc) (k : Int) (hk : K.I64 k) :
    Calls Try.prog 5 #[vl, .slice xo t.length xc, .int .i64 k] w fun e w' => e = .returned (.bool true) ∧ Below w.heap.size w w' := by
  have HQ : Hid (∀ X, Below w.heap.size w X → Calls Try.prog 12 #[vl, .slice xo t.length xc, .int .i64 k] X fun e w' => e = .returned (.tuple #[.int .i64 (K.whichF l t k).1, .agg #[.int .i64 (K.whichF l t k).2.1, .int .i64 (K.whichF l t k).2.2]]) ∧ Below X.heap.size X w') := fun X hX => qWhich_any X _ l (R0.below hX) _ t (Rt.below hX (Nat.le_refl _)) ht k hk
  have HR : Hid (∀ X, Below w.heap.size w X → Calls Try.prog 14 #[vl] X fun e w' => e = .returned (.tuple #[.int .i64 (K.behind l), .int .i64 (K.ahead l)]) ∧ Below X.heap.size X w') := fun X hX => yReach_any X _ l (R0.below hX)
  have hI1 : -9223372036854775808 ≤ k := hk.1
  have hI2 : k ≤ 9223372036854775807 := hk.2
  have HRus : Hid (V.Rus w vl l) := R0
  have HRt : Hid (L.Rd w (.slice xo t.length xc) .i32 t) := Rt
  obtain ⟨ao, cap, rfl⟩ := R0.len
  obtain ⟨⟨q0, q1, q2⟩, hwh⟩ : ∃ o, K.whichF l t k = o := ⟨_, rfl⟩
  rw [hwh] at HQ
  have HWH : Hid (K.whichF l t k = (q0, q1, q2)) := hwh
  simp only at HQ
  clear hwh R0 hk Rt
  go_enter Try.func5, Try.ntmps5
  go_wp2_with fail
  refine (yAlive_any w).mono ?_
  rintro e w1 ⟨rfl, b1⟩
  have HB1 : Hid (Below w.heap.size w w1) := b1
  clear b1
  go_wp2_with fail
  refine (HQ.out _ HB1.out).mono ?_
  rintro e w2 ⟨rfl, b2⟩
  have HB2 : Hid (Below w.heap.size w w2) := HB1.out.trans (b2.mono HB1.out.size)
  have HBa : Hid (∀ o, Below w.heap.size w (w2.alloc o)) := fun o => HB2.out.alloc HB2.out.size o
  clear b2 HQ HB1
  by_cases hq : q1 = 0
  · have h := HWH.out
    unfold K.whichF at h
    by_cases hc : (K.checkF l t).1 = 0
    · rw [if_pos hc] at h
      by_cases hkr : k < 0 ∨ (t.length : Int) < k
      · rw [if_pos hkr] at h
        cases h
        exact absurd hq (by decide)
      · rw [if_neg hkr] at h
        simp only [Prod.mk.injEq] at h
        obtain ⟨h1, h2, h3⟩ := h
        subst h1 h3 hq
        clear h2
        obtain ⟨k', rfl⟩ : ∃ k' : Nat, k = k' := ⟨k.toNat, by omega⟩
        have hkl : k' ≤ t.length := by omega
        have hE := (K.rulesF_zero (K.checkF_zero hc).1).2.1
        have hB20 := K.behind_le hE
        have hA40 := K.ahead_le hE
        have h4 := K.textE_zero (K.checkF_zero hc).2.1
        obtain ⟨a, ha⟩ : ∃ a, a = k' - K.behind l - 1 := ⟨_, rfl⟩
        obtain ⟨b, hb⟩ : ∃ b, b = min t.length (k' + K.ahead l + 1) := ⟨_, rfl⟩
        have hab : a ≤ b := by omega
        have hbl : b ≤ t.length := by omega
        obtain ⟨ad, had⟩ : ∃ ad, ad = (if xc = a then xo else Option.map (fun p => p.add a) xo) := ⟨_, rfl⟩
        have HW2 : Hid (∀ X, Below w.heap.size w X → ∀ kk : Int, kk = (k' : Int) - a → Calls Try.prog 12 #[.slice ao l.length cap, .slice ad (b - a) (xc - a), .int .i64 kk] X fun e w' => e = .returned (.tuple #[.int .i64 (K.which l t k'), .agg #[.int .i64 0, .int .i64 0]]) ∧ Below X.heap.size X w') := fun X hX kk hkk => by
          have h := qWhich_any X _ l (HRus.out.below hX) _ ((t.take b).drop a) (by have := K.rd_win (HRt.out.below hX (Nat.le_refl _)) hab hbl hxc; rw [← had] at this; exact this) (by rw [List.length_drop, List.length_take]; omega) kk ⟨by omega, by omega⟩
          rw [K.whichF_window hc hkl ha hb kk hkk] at h
          exact h
        have HSl : Hid (∀ (x y : Int) w', x = a → y = b → (Instr.slice 23 (.slice xo t.length xc) (some (.int .i64 x)) (some (.int .i64 y)) none).run Try.prog w' = .ok (.slice ad (b - a) (xc - a)) w') := fun x y w' hx hy => by rw [had]; exact K.slice_win xo _ xc a b x y hx hy hab (by omega) w'
        have HRe := HR.out
        generalize K.behind l = B at *
        generalize K.ahead l = A at *
        generalize K.which l t k' = wi at *
        clear had HWH HR hE hkr hI1 hI2 hc
        obtain ⟨X, hX⟩ : ∃ X, X = w2.alloc (.cells #[.int .i64 0, .int .i64 0] 28) := ⟨_, rfl⟩
        have hXB : Below w.heap.size w X := by rw [hX]; exact HBa.out _
        have HX : Hid (Below w.heap.size w X ∧ X.heap[w2.heap.size]? = some (.cells #[.int .i64 0, .int .i64 0] 28)) := ⟨hXB, by rw [hX]; exact heap_alloc_new w2 _⟩
        have HRe2 := HRe X hXB
        clear HRe hXB
        go_wp2_with fail
        rw [← hX]
        refine HRe2.mono ?_
        rintro e w3 ⟨rfl, b3⟩
        have h3 := K.blk_below HX.out.2 b3
        have HB3 : Hid (Below w.heap.size w w3 ∧ w3.heap[w2.heap.size]? = some (.cells #[.int .i64 0, .int .i64 0] 28)) := ⟨HX.out.1.trans (b3.mono HX.out.1.size), h3⟩
        have HF2 : Hid (w.heap.size ≤ w2.heap.size) := HB2.out.size
        clear b3 h3 hX HX HRe2 HBa HB2
        by_cases c1 : (k' : Int) - B - 1 < 0
        · by_cases c2 : (t.length : Int) < (k' : Int) + A + 1
          · have hsl := fun w' => HSl.out (0) ((t.length : Int)) w' (by omega) (by omega)
            have HAa : Hid (a = k' - B - 1) := ha
            clear HSl ha hb
            go_wp2_with fail
            refine (HW2.out _ HB3.out.1 _ (by have := HAa.out; omega)).mono ?_
            rintro e w4 ⟨rfl, b4⟩
            have h4 := K.blk_below HB3.out.2 b4
            obtain ⟨x0, x1, f0, f1⟩ := K.box2 h4
            have HB4 : Hid (Below w.heap.size w w4) := HB3.out.1.trans (b4.mono HB3.out.1.size)
            clear b4 h4 hsl HW2
            go_wp2
            go_ret
            exact ⟨rfl, (HB4.out.setCell (p := ⟨w2.heap.size, 0, none⟩) HF2.out _).setCell (p := ⟨w2.heap.size, 1, none⟩) HF2.out _⟩
          · have hsl := fun w' => HSl.out (0) ((k' : Int) + A + 1) w' (by omega) (by omega)
            have HAa : Hid (a = k' - B - 1) := ha
            clear HSl ha hb
            go_wp2_with fail
            refine (HW2.out _ HB3.out.1 _ (by have := HAa.out; omega)).mono ?_
            rintro e w4 ⟨rfl, b4⟩
            have h4 := K.blk_below HB3.out.2 b4
            obtain ⟨x0, x1, f0, f1⟩ := K.box2 h4
            have HB4 : Hid (Below w.heap.size w w4) := HB3.out.1.trans (b4.mono HB3.out.1.size)
            clear b4 h4 hsl HW2
            go_wp2
            go_ret
            exact ⟨rfl, (HB4.out.setCell (p := ⟨w2.heap.size, 0, none⟩) HF2.out _).setCell (p := ⟨w2.heap.size, 1, none⟩) HF2.out _⟩
        · by_cases c2 : (t.length : Int) < (k' : Int) + A + 1
          · have hsl := fun w' => HSl.out ((k' : Int) - B - 1) ((t.length : Int)) w' (by omega) (by omega)
            have HAa : Hid (a = k' - B - 1) := ha
            clear HSl ha hb
            go_wp2_with fail
            refine (HW2.out _ HB3.out.1 _ (by have := HAa.out; omega)).mono ?_
            rintro e w4 ⟨rfl, b4⟩
            have h4 := K.blk_below HB3.out.2 b4
            obtain ⟨x0, x1, f0, f1⟩ := K.box2 h4
            have HB4 : Hid (Below w.heap.size w w4) := HB3.out.1.trans (b4.mono HB3.out.1.size)
            clear b4 h4 hsl HW2
            go_wp2
            go_ret
            exact ⟨rfl, (HB4.out.setCell (p := ⟨w2.heap.size, 0, none⟩) HF2.out _).setCell (p := ⟨w2.heap.size, 1, none⟩) HF2.out _⟩
          · have hsl := fun w' => HSl.out ((k' : Int) - B - 1) ((k' : Int) + A + 1) w' (by omega) (by omega)
            have HAa : Hid (a = k' - B - 1) := ha
            clear HSl ha hb
            go_wp2_with fail
            refine (HW2.out _ HB3.out.1 _ (by have := HAa.out; omega)).mono ?_
            rintro e w4 ⟨rfl, b4⟩
            have h4 := K.blk_below HB3.out.2 b4
            obtain ⟨x0, x1, f0, f1⟩ := K.box2 h4
            have HB4 : Hid (Below w.heap.size w w4) := HB3.out.1.trans (b4.mono HB3.out.1.size)
            clear b4 h4 hsl HW2
            go_wp2
            go_ret
            exact ⟨rfl, (HB4.out.setCell (p := ⟨w2.heap.size, 0, none⟩) HF2.out _).setCell (p := ⟨w2.heap.size, 1, none⟩) HF2.out _⟩
    · rw [if_neg hc] at h
      have h2 := congrArg (fun x => x.2.1) h
      exact absurd (h2.trans hq) hc
  · go_wp2
    go_ret
    exact ⟨rfl, HBa.out _⟩

end Go.Proofs.Ytdmpmkcigjkilab
