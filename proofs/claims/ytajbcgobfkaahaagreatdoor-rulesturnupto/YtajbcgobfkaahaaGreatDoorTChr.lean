/-
  Characters, and spans.
-/
import Derived.Test.YtajbcgobfkaahaaGreatDoorTNum
import Derived.Test.YtajbcgobfkaahaaGreatDoorTQuote
import Derived.Laws.ResultCell
namespace Go.Proofs.YtajbcgobfkaahaaGreatDoor
open Go.RowKit

set_option maxHeartbeats 4000000 in
theorem esc_any (w : World) (cb tb cap p : Nat) (ao : Option Addr) (l : List Int) (C : T.Cur w cb tb cap ao l p) :
    Calls Tryz.prog 148 #[.pointer (some ⟨cb, 0, none⟩)] w (T.Ends w cb tb cap ao l (T.esc l p) T.isRune) := by
  have hlen := C.len
  have HC : Hid (T.Cur w cb tb cap ao l p) := C
  clear C
  obtain ⟨o, HO⟩ : ∃ o, Hid (T.esc l p = o) := ⟨_, rfl⟩
  rw [HO.out]
  go_enter Tryz.func148, Tryz.ntmps148
  go_wp2_with fail
  refine (is_any _ cb tb cap p ao l 117 HC.out).mono ?_
  rintro e w1 ⟨rfl, b1⟩
  have HC1 : Hid (T.Cur w1 cb tb cap ao l p) := HC.out.below b1
  have HG1 : Hid (w.grownBy w1 (some cb)) := S.grown_below b1
  clear b1
  by_cases h1 : T.see l p = 117
  · go_wp2_with fail
    refine (num_any _ cb tb cap p ao l HC1.out h1).mono ?_
    intro e w2 h
    have ho : T.num l p = o := by rw [← HO.out]; unfold T.esc; rw [if_pos h1]
    rw [ho] at h
    cases o with
    | ok a q =>
      obtain ⟨v, rfl, rfl, C2, g2⟩ := h
      go_wp2
      go_ret
      exact ⟨_, rfl, rfl, C2, S.grown_trans HG1.out g2⟩
    | bad er q =>
      obtain ⟨rfl, g2⟩ := h
      unfold T.thrown
      go_wp2
      exact ⟨rfl, rfl, S.grown_trans HG1.out g2⟩
  · go_wp2_with fail
    refine (skip_any _ cb tb cap p ao l 110 (by decide) HC1.out).mono ?_
    rintro e w2 ⟨rfl, C2, g2⟩
    have HG2 : Hid (w.grownBy w2 (some cb)) := S.grown_trans HG1.out g2
    clear g2
    by_cases h2 : T.see l p = 110
    · rw [if_pos h2] at C2
      go_wp2
      go_ret
      rw [← HO.out]; unfold T.esc; rw [if_neg h1, if_pos h2]
      exact ⟨_, rfl, rfl, C2, HG2.out⟩
    · rw [if_neg h2] at C2
      have HC2 : Hid (T.Cur w2 cb tb cap ao l p) := C2
      clear C2
      go_wp2_with fail
      refine (skip_any _ cb tb cap p ao l 116 (by decide) HC2.out).mono ?_
      rintro e w3 ⟨rfl, C3, g3⟩
      have HG3 : Hid (w.grownBy w3 (some cb)) := S.grown_trans HG2.out g3
      clear g3
      by_cases h3 : T.see l p = 116
      · rw [if_pos h3] at C3
        go_wp2
        go_ret
        rw [← HO.out]; unfold T.esc; rw [if_neg h1, if_neg h2, if_pos h3]
        exact ⟨_, rfl, rfl, C3, HG3.out⟩
      · rw [if_neg h3] at C3
        have HC3 : Hid (T.Cur w3 cb tb cap ao l p) := C3
        clear C3
        go_wp2_with fail
        refine (done_any _ cb tb cap p ao l HC3.out).mono ?_
        rintro e w4 ⟨rfl, b4⟩
        have C4 := HC3.out.below b4
        have c4 := C4.cell1
        have HC4 : Hid (T.Cur w4 cb tb cap ao l p) := C4
        have HG4 : Hid (w.grownBy w4 (some cb)) := S.grown_trans HG3.out (S.grown_below b4)
        clear b4 C4
        by_cases h4 : T.see l p = -1
        · go_wp2_with (go_at_call 23; refine (fail_any _ 2 p).mono ?_; unfold T.thrown; rintro e w5 ⟨rfl, rfl⟩)
          refine ⟨rfl, ?_⟩
          rw [← HO.out]; unfold T.esc; rw [if_neg h1, if_neg h2, if_neg h3, if_pos (.inl h4)]
          exact ⟨rfl, HG4.out⟩
        · go_wp2_with fail
          refine (ahead_any _ cb tb cap p 0 ao l HC4.out (by omega)).mono ?_
          rintro e w5 ⟨rfl, b5⟩
          rw [Nat.add_zero]
          have C5 := HC4.out.below b5
          have c5 := C5.cell1
          have HC5 : Hid (T.Cur w5 cb tb cap ao l p) := C5
          have HG5 : Hid (w.grownBy w5 (some cb)) := S.grown_trans HG4.out (S.grown_below b5)
          clear b5 C5 c4
          go_wp2_with fail
          refine (alnum_any _ _).mono ?_
          rintro e w6 ⟨rfl, rfl⟩
          by_cases h5 : T.alnum (T.see l p) = true
          · go_wp2_with (go_at_call 23; refine (fail_any _ 2 p).mono ?_; unfold T.thrown; rintro e w7 ⟨rfl, rfl⟩)
            refine ⟨rfl, ?_⟩
            rw [← HO.out]; unfold T.esc; rw [if_neg h1, if_neg h2, if_neg h3, if_pos (.inr h5)]
            exact ⟨rfl, HG5.out⟩
          · go_wp2_with fail
            refine (take_any _ cb tb cap p ao l HC5.out (HC5.out.inside h4)).mono ?_
            rintro e w7 ⟨rfl, C7, g7⟩
            go_wp2
            go_ret
            rw [← HO.out]; unfold T.esc; rw [if_neg h1, if_neg h2, if_neg h3, if_neg (by simp [h4, h5])]
            exact ⟨_, rfl, rfl, C7, S.grown_trans HG5.out g7⟩

set_option maxHeartbeats 4000000 in
theorem chr_any (w : World) (cb tb cap p : Nat) (ao : Option Addr) (l : List Int) (C : T.Cur w cb tb cap ao l p) :
    Calls Tryz.prog 137 #[.pointer (some ⟨cb, 0, none⟩)] w (T.Ends w cb tb cap ao l (T.chr l p) T.isRune) := by
  have hlen := C.len
  have HC : Hid (T.Cur w cb tb cap ao l p) := C
  clear C
  obtain ⟨o, HO⟩ : ∃ o, Hid (T.chr l p = o) := ⟨_, rfl⟩
  rw [HO.out]
  go_enter Tryz.func137, Tryz.ntmps137
  go_wp2_with fail
  refine (skip_any _ cb tb cap p ao l 92 (by decide) HC.out).mono ?_
  rintro e w1 ⟨rfl, C1, g1⟩
  have HG1 : Hid (w.grownBy w1 (some cb)) := g1
  clear g1
  by_cases h1 : T.see l p = 92
  · rw [if_pos h1] at C1
    go_wp2_with fail
    refine (esc_any _ cb tb cap (p + 1) ao l C1).mono ?_
    intro e w2 h
    have ho : T.esc l (p + 1) = o := by rw [← HO.out]; unfold T.chr; rw [if_pos h1]
    rw [ho] at h
    cases o with
    | ok a q =>
      obtain ⟨v, rfl, rfl, C2, g2⟩ := h
      go_wp2
      go_ret
      exact ⟨_, rfl, rfl, C2, S.grown_trans HG1.out g2⟩
    | bad er q =>
      obtain ⟨rfl, g2⟩ := h
      unfold T.thrown
      go_wp2
      exact ⟨rfl, rfl, S.grown_trans HG1.out g2⟩
  · rw [if_neg h1] at C1
    go_wp2_with fail
    refine (ordy_any _ cb tb cap p ao l C1).mono ?_
    rintro e w2 ⟨rfl, b2⟩
    have C2 := C1.below b2
    have c2 := C2.cell1
    have HC2 : Hid (T.Cur w2 cb tb cap ao l p) := C2
    have HG2 : Hid (w.grownBy w2 (some cb)) := S.grown_trans HG1.out (S.grown_below b2)
    clear C1 C2 b2
    by_cases h2 : T.ordy (T.see l p) = true
    · go_wp2_with fail
      refine (take_any _ cb tb cap p ao l HC2.out (HC2.out.inside (by intro h; rw [h] at h2; revert h2; decide))).mono ?_
      rintro e w3 ⟨rfl, C3, g3⟩
      go_wp2
      go_ret
      rw [← HO.out]; unfold T.chr; rw [if_neg h1, if_pos h2]
      exact ⟨_, rfl, rfl, C3, S.grown_trans HG2.out g3⟩
    · go_wp2_with (go_at_call 23; refine (fail_any _ 2 p).mono ?_; unfold T.thrown; rintro e w3 ⟨rfl, rfl⟩)
      refine ⟨rfl, ?_⟩
      rw [← HO.out]; unfold T.chr; rw [if_neg h1, if_neg h2]
      exact ⟨rfl, HG2.out⟩

theorem ret_one {fn : Func} {p : Tmp} (h : fn.results = #[.cell p 97]) (tmps : Array Value) (w : World) (g : Nat) (y1 y2 : Int) (hg : w.heap[g]? = some (.cells #[.int .i32 y1, .int .i32 y2] 97))
    (hp : tmps.getD p undef = .pointer (some ⟨g, 0, none⟩)) : (results fn tmps).run Tryz.prog w = .ok (.agg #[.int .i32 y1, .int .i32 y2]) w := by
  have hl := run_loadVar_row (P := Tryz.prog) w g 97 97 #[.int .i32 y1, .int .i32 y2] (0, 0) _ hg Tryz.underlying97 rfl (by kernel_rfl)
  have e : (results fn tmps).run Tryz.prog w = ((asAddr (tmps.getD p undef)).run Tryz.prog w).andThen fun a w₁ => (loadVar 97 a).run Tryz.prog w₁ := by
    simp only [results, h]
    simp [Sem.run_bind, Result.andThen]
  rw [e, hp]
  simp [asAddr, Result.andThen, hl]

theorem one_any (r : Int) (w : World) :
    Calls Tryz.prog 138 #[.int .i32 r] w fun e w' => e = .returned (.agg #[.int .i32 r, .int .i32 r]) ∧ Below w.heap.size w w' := by
  go_enter Tryz.func138, Tryz.ntmps138
  go_wp2
  refine bodyPost_ret (ret_one rfl _ _ w.heap.size r r (heap_alloc_new w _) rfl) rfl ?_
  exact ⟨rfl, (Below.refl _ w).alloc (Nat.le_refl _) _⟩

theorem two_set (w : World) (g : Nat) (a b y1 y2 : Value) (t : TypeId) (hg : w.heap[g]? = some (.cells #[a, b] t)) : ((w.setCell ⟨g, 0, none⟩ y1).setCell ⟨g, 1, none⟩ y2).heap[g]? = some (.cells #[y1, y2] t) := by
  have h1 := heap_setCell_same w g 0 #[a, b] t y1 hg
  have h2 := heap_setCell_same _ g 1 _ t y2 h1
  exact h2
theorem box_cells {w : World} {g : Nat} {a b : Value} {t : TypeId} (hg : w.heap[g]? = some (.cells #[a, b] t)) : w.cell? ⟨g, 0, none⟩ = some a ∧ w.cell? ⟨g, 1, none⟩ = some b ∧ w.frozen? ⟨g, 0, none⟩ = false ∧ w.frozen? ⟨g, 1, none⟩ = false := by
  refine ⟨?_, ?_, ?_, ?_⟩
  · rw [World.cell?]; simp [hg]
  · rw [World.cell?]; simp [hg]
  · rw [World.frozen?]; simp [hg]
  · rw [World.frozen?]; simp [hg]
/-- two stores into a box that is no part of what is looked at -/
theorem fr_two {w w1 : World} {g cb : Nat} (y1 y2 : Value) (h : w.grownBy w1 (some cb)) (hg : w.heap.size ≤ g) : w.grownBy ((w1.setCell ⟨g, 0, none⟩ y1).setCell ⟨g, 1, none⟩ y2) (some cb) := by
  refine ⟨h.os, h.tape, h.output, by simpa using h.size, fun k hk hne => ?_⟩
  rw [heap_setCell_other _ ⟨g, 1, none⟩ k _ (fun e => by simp at e; omega), heap_setCell_other _ ⟨g, 0, none⟩ k _ (fun e => by simp at e; omega)]
  exact h.block k hk hne
theorem T.Cur.two {w : World} {cb tb cap p : Nat} {ao : Option Addr} {l : List Int} (C : T.Cur w cb tb cap ao l p) {g : Nat} (y1 y2 : Value) (hne : g ≠ cb) (ht : l ≠ [] → g ≠ tb) : T.Cur ((w.setCell ⟨g, 0, none⟩ y1).setCell ⟨g, 1, none⟩ y2) cb tb cap ao l p := by
  refine ⟨?_, C.txt, fun j z hj => ?_, C.ne, C.le, C.len, C.cp, C.rt⟩
  · obtain ⟨t, hb⟩ := C.blk; exact ⟨t, by rw [heap_setCell_other _ ⟨g, 1, none⟩ cb _ (Ne.symm hne), heap_setCell_other _ ⟨g, 0, none⟩ cb _ (Ne.symm hne)]; exact hb⟩
  · have hn : g ≠ tb := ht (by intro h; subst h; simp at hj)
    rw [World.cell?_setCell_other _ _ _ _ (fun e => hn (congrArg Addr.block e)), World.cell?_setCell_other _ _ _ _ (fun e => hn (congrArg Addr.block e))]; exact C.rd j z hj
theorem T.Cur.txt_lt {w : World} {cb tb cap p : Nat} {ao : Option Addr} {l : List Int} (C : T.Cur w cb tb cap ao l p) (h : l ≠ []) : tb < w.heap.size := by
  cases l with
  | nil => exact absurd rfl h
  | cons z l => exact L.block_lt (C.rd 0 z rfl)

def T.isSpan (x : S.Sp) (v : Value) (_ : World) : Prop := v = .agg #[.int .i32 x.1, .int .i32 x.2]

set_option maxHeartbeats 4000000 in
theorem span_any (w : World) (cb tb cap p : Nat) (ao : Option Addr) (l : List Int) (C : T.Cur w cb tb cap ao l p) :
    Calls Tryz.prog 122 #[.pointer (some ⟨cb, 0, none⟩)] w (T.Ends w cb tb cap ao l (T.span l p) T.isSpan) := by
  have hlen := C.len
  have HC : Hid (T.Cur w cb tb cap ao l p) := C
  clear C
  obtain ⟨o, HO⟩ : ∃ o, Hid (T.span l p = o) := ⟨_, rfl⟩
  rw [HO.out]
  go_enter Tryz.func122, Tryz.ntmps122
  go_wp2_with fail
  have bW := (Below.refl _ w).alloc (Nat.le_refl _) (.cells #[.int .i32 0, .int .i32 0] 97)
  have hxW : (w.alloc (.cells #[.int .i32 0, .int .i32 0] 97)).heap[w.heap.size]? = some (.cells #[.int .i32 0, .int .i32 0] 97) := heap_alloc_new w _
  have CW := HC.out.below bW
  have GW : w.grownBy _ (some cb) := S.grown_below bW
  have HNe : Hid (w.heap.size ≠ cb) := by have := HC.out.lt; show _ ≠ _; omega
  have HNt : Hid (l ≠ [] → w.heap.size ≠ tb) := fun h => by have := HC.out.txt_lt h; omega
  refine (chr_any _ cb tb cap p ao l CW).mono ?_
  generalize w.alloc (.cells #[.int .i32 0, .int .i32 0] 97) = W0 at bW hxW CW GW
  clear bW CW
  intro e w1 h
  cases hc : T.chr l p with
  | bad er q =>
    rw [hc] at h
    obtain ⟨rfl, g1⟩ := h
    unfold T.thrown
    go_wp2
    refine ⟨rfl, ?_⟩
    rw [← HO.out]; unfold T.span; rw [hc]
    exact ⟨rfl, S.grown_trans GW g1⟩
  | ok lo q =>
    rw [hc] at h
    obtain ⟨v, rfl, rfl, C1, g1⟩ := h
    have HX1 : Hid (w1.heap[w.heap.size]? = some (.cells #[.int .i32 0, .int .i32 0] 97)) := by
      show _ = _
      rw [g1.block _ (Array.getElem?_eq_some_iff.1 hxW).1 (by simpa using HNe.out)]; exact hxW
    have HG1 : Hid (w.grownBy w1 (some cb)) := S.grown_trans GW g1
    have HHc : Hid _ := hc
    clear hc g1 GW hxW
    go_wp2_with fail
    refine (is_any _ cb tb cap q ao l 45 C1).mono ?_
    rintro e w2 ⟨rfl, b2⟩
    have C2 := C1.below b2
    have HX2 : Hid (w2.heap[w.heap.size]? = some (.cells #[.int .i32 0, .int .i32 0] 97)) := by
      show _ = _
      rw [b2.block _ (Array.getElem?_eq_some_iff.1 HX1.out).1]; exact HX1.out
    have HG2 : Hid (w.grownBy w2 (some cb)) := S.grown_trans HG1.out (S.grown_below b2)
    clear C1 b2 HX1 HG1
    have HC2 : Hid (T.Cur w2 cb tb cap ao l q) := C2
    clear C2
    by_cases h1 : T.see l q = 45
    · go_wp2_with fail
      refine (ahead_any _ cb tb cap q 1 ao l HC2.out (by omega)).mono ?_
      rintro e w3 ⟨rfl, b3⟩
      have C3 := HC2.out.below b3
      have HX3 : Hid (w3.heap[w.heap.size]? = some (.cells #[.int .i32 0, .int .i32 0] 97)) := by
        show _ = _
        rw [b3.block _ (Array.getElem?_eq_some_iff.1 HX2.out).1]; exact HX2.out
      have HG3 : Hid (w.grownBy w3 (some cb)) := S.grown_trans HG2.out (S.grown_below b3)
      clear b3 HX2 HG2
      have HC3 : Hid (T.Cur w3 cb tb cap ao l q) := C3
      clear C3
      by_cases h2 : T.see l (q + 1) = 91
      · go_wp2_with fail
        refine (one_any lo _).mono ?_
        rintro e w4 ⟨rfl, b4⟩
        have C4 := HC3.out.below b4
        have HX4 : w4.heap[w.heap.size]? = some (.cells #[.int .i32 0, .int .i32 0] 97) := by rw [b4.block _ (Array.getElem?_eq_some_iff.1 HX3.out).1]; exact HX3.out
        obtain ⟨x0, x1, y0, y1⟩ := box_cells HX4
        have HG4 : Hid (w.grownBy w4 (some cb)) := S.grown_trans HG3.out (S.grown_below b4)
        have HX4' : Hid _ := HX4
        have HC4 : Hid (T.Cur w4 cb tb cap ao l q) := C4
        clear b4 C4 HX4
        go_wp2
        refine bodyPost_ret (ret_one rfl _ _ w.heap.size lo lo (two_set w4 w.heap.size _ _ _ _ 97 HX4'.out) rfl) rfl ?_
        rw [← HO.out]; unfold T.span; rw [HHc.out]; simp only; rw [if_pos (.inr h2)]
        exact ⟨_, rfl, rfl, HC4.out.two _ _ HNe.out HNt.out, fr_two _ _ HG4.out (Nat.le_refl _)⟩
      · go_wp2_with fail
        refine (need_yes _ cb tb cap q ao l 45 (by decide) HC3.out h1).mono ?_
        rintro e w4 ⟨rfl, C4, g4⟩
        have HX4 : Hid (w4.heap[w.heap.size]? = some (.cells #[.int .i32 0, .int .i32 0] 97)) := by
          show _ = _
          rw [g4.block _ (Array.getElem?_eq_some_iff.1 HX3.out).1 (by simpa using HNe.out)]; exact HX3.out
        have HG4 : Hid (w.grownBy w4 (some cb)) := S.grown_trans HG3.out g4
        have c4 := C4.cell1
        have HC4 : Hid (T.Cur w4 cb tb cap ao l (q + 1)) := C4
        clear g4 C4 HX3 HG3 HC3
        have hq4 := HC4.out.le
        go_wp2_with fail
        refine (chr_any _ cb tb cap (q + 1) ao l HC4.out).mono ?_
        intro e w5 h
        cases hc : T.chr l (q + 1) with
        | bad er r =>
          rw [hc] at h
          obtain ⟨rfl, g5⟩ := h
          unfold T.thrown
          go_wp2
          refine ⟨rfl, ?_⟩
          rw [← HO.out]; unfold T.span; rw [HHc.out]; simp only; rw [if_neg (by simp [h1, h2]), hc]
          exact ⟨rfl, S.grown_trans HG4.out g5⟩
        | ok hi r =>
          rw [hc] at h
          obtain ⟨v, rfl, rfl, C5, g5⟩ := h
          have HX5 : w5.heap[w.heap.size]? = some (.cells #[.int .i32 0, .int .i32 0] 97) := by
            rw [g5.block _ (Array.getElem?_eq_some_iff.1 HX4.out).1 (by simpa using HNe.out)]; exact HX4.out
          obtain ⟨x0, x1, y0, y1⟩ := box_cells HX5
          have HG5 : Hid (w.grownBy w5 (some cb)) := S.grown_trans HG4.out g5
          have HX5' : Hid _ := HX5
          have HC5 : Hid (T.Cur w5 cb tb cap ao l r) := C5
          have HHd : Hid _ := hc
          clear g5 C5 HX5 hc
          by_cases hlt : hi < lo
          · go_wp2_with (go_at_call 23; refine (fail_any _ 3 (q + 1)).mono ?_; unfold T.thrown; rintro e w6 ⟨rfl, rfl⟩)
            refine ⟨rfl, ?_⟩
            rw [← HO.out]; unfold T.span; rw [HHc.out]; simp only; rw [if_neg (by simp [h1, h2]), HHd.out]; simp only; rw [if_pos hlt]
            exact ⟨rfl, HG5.out⟩
          · go_wp2
            refine bodyPost_ret (ret_one rfl _ _ w.heap.size lo hi (two_set w5 w.heap.size _ _ _ _ 97 HX5'.out) rfl) rfl ?_
            rw [← HO.out]; unfold T.span; rw [HHc.out]; simp only; rw [if_neg (by simp [h1, h2]), HHd.out]; simp only; rw [if_neg (by omega)]
            exact ⟨_, rfl, rfl, HC5.out.two _ _ HNe.out HNt.out, fr_two _ _ HG5.out (Nat.le_refl _)⟩
    · go_wp2_with fail
      refine (one_any lo _).mono ?_
      rintro e w4 ⟨rfl, b4⟩
      have C4 := HC2.out.below b4
      have HX4 : w4.heap[w.heap.size]? = some (.cells #[.int .i32 0, .int .i32 0] 97) := by rw [b4.block _ (Array.getElem?_eq_some_iff.1 HX2.out).1]; exact HX2.out
      obtain ⟨x0, x1, y0, y1⟩ := box_cells HX4
      have HG4 : Hid (w.grownBy w4 (some cb)) := S.grown_trans HG2.out (S.grown_below b4)
      have HX4' : Hid _ := HX4
      have HC4 : Hid (T.Cur w4 cb tb cap ao l q) := C4
      clear b4 C4 HX4
      go_wp2
      refine bodyPost_ret (ret_one rfl _ _ w.heap.size lo lo (two_set w4 w.heap.size _ _ _ _ 97 HX4'.out) rfl) rfl ?_
      rw [← HO.out]; unfold T.span; rw [HHc.out]; simp only; rw [if_pos (.inl h1)]
      exact ⟨_, rfl, rfl, HC4.out.two _ _ HNe.out HNt.out, fr_two _ _ HG4.out (Nat.le_refl _)⟩

end Go.Proofs.YtajbcgobfkaahaaGreatDoor
