/-
  Names that are not known: what the functions of resolve.order ask of items.
-/
import Derived.Test.YtchkcjaahjhbcaaVLook
namespace Go.Proofs.Ytchkcjaahjhbcaa
open Go.RowKit Go.Lib
set_option maxRecDepth 20000
set_option linter.unusedSimpArgs false
set_option linter.unusedVariables false

/-- an item is a name that is not known -/
def V.unk (f : ByteArray → Option Value) (x : R.Item) : Bool := decide (x.kind = 3) && !(f x.name).isSome
/-- a box that holds a map -/
def V.MapBox (w : World) (bm : Nat) (f : ByteArray → Option Value) : Prop := ∃ B n, w.cell? ⟨bm, 0, none⟩ = some (.map (some B)) ∧ V.MapIs w B n f
theorem V.MapBox.below {w w' : World} {bm : Nat} {f : ByteArray → Option Value} (h : V.MapBox w bm f) (hb : Below w.heap.size w w') : V.MapBox w' bm f := by
  obtain ⟨B, n, h1, h2⟩ := h
  refine ⟨B, n, ?_, h2.below hb h2.lt⟩
  rw [hb.cell (p := ⟨bm, 0, none⟩) (L.block_lt h1)]; exact h1

set_option maxHeartbeats 2000000 in
theorem unk_any (w : World) (x : R.Item) (so : Option Addr) (sc bm : Nat) (f : ByteArray → Option Value) (HV : V.MapBox w bm f) (hn : x.name.size ≤ 140737488355328) :
    Calls Try.prog 74 #[.agg #[.int .i64 x.kind, .int .i32 x.rune, .slice so x.set.length sc, .string x.name], .pointer (some ⟨bm, 0, none⟩)] w fun e w' => e = .returned (.bool (V.unk f x)) ∧ Below w.heap.size w w' := by
  obtain ⟨B, n, hm, hM⟩ := HV
  obtain ⟨xk, xr, xs, xn⟩ := x
  simp only at hn ⊢
  have bA : Below w.heap.size w (w.alloc (.cells #[.int .i64 xk, .int .i32 xr, .slice so xs.length sc, .string xn] 56)) := (Below.refl _ w).alloc (Nat.le_refl _) _
  have hlook := (hM.below bA hM.lt).look_ok xn hn
  have hbm : bm < w.heap.size := L.block_lt hm
  have HbA : Hid _ := bA
  clear hM bA
  have hV : V.unk f ⟨xk, xr, xs, xn⟩ = (decide (xk = 3) && !(f xn).isSome) := rfl
  rw [hV]
  clear hV
  generalize (f xn).getD (.slice none 0 0) = gv at hlook
  generalize (f xn).isSome = gb at hlook
  by_cases h3 : xk = 3
  · subst h3
    go_enter Try.func74, Try.ntmps74
    go_wp2
    go_ret
    exact ⟨by simp, HbA.out⟩
  · go_enter Try.func74, Try.ntmps74
    go_wp2
    go_ret
    exact ⟨by simp [h3], HbA.out⟩

set_option maxHeartbeats 2000000 in
theorem unkAt_any (w : World) (v : Value) (l : List R.Item) (bm : Nat) (f : ByteArray → Option Value) (HV : V.MapBox w bm f) (RR : R.Its w v l) (hl : l.length ≤ 140737488355328) :
    Calls Try.prog 120 #[v, .func (.func 74) #[] #[.pointer (some ⟨bm, 0, none⟩)]] w fun e w' => ∃ i : Int, e = .returned (.int .i64 i) ∧ decide (0 ≤ i) = l.any (V.unk f) ∧ Below w.heap.size w w' := by
  have HR : Hid (R.Its w v l) := RR
  have HVs : Hid (V.MapBox w bm f) := HV
  obtain ⟨ao, ca, rfl⟩ := RR.len
  clear RR HV
  go_enter Try.func120, Try.ntmps120
  go_wp2
  go_loopw [8] (fun i wr => ∃ k : Nat, k ≤ l.length ∧ i = .int .i64 k ∧ Hid ((l.take k).any (V.unk f) = false ∧ Below w.heap.size w wr)) (fun i _ => l.length - (intOf i).toNat)
  case atStart => exact ⟨0, Nat.zero_le _, rfl, by simp, Below.refl _ w⟩
  case round =>
    obtain ⟨k, hk, rfl, HB⟩ := hrel
    by_cases hlt : k < l.length
    · obtain ⟨x, hx⟩ : ∃ x, l[k]? = some x := ⟨l[k], by simp [hlt]⟩
      obtain ⟨ao', ca', e', hcs⟩ := HR.out.below HB.out.2
      cases e'
      obtain ⟨b, off, rfl, hcell⟩ := hcs (by intro h; subst h; simp at hlt)
      obtain ⟨c0, c1, c3, ⟨so, sc, c2, r2⟩, hf, hnm⟩ := hcell k x hx
      have HL : Hid (Calls Try.prog 74 #[.agg #[.int .i64 x.kind, .int .i32 x.rune, .slice so x.set.length sc, .string x.name], .pointer (some ⟨bm, 0, none⟩)] wr fun e w' => e = .returned (.bool (V.unk f x)) ∧ Below wr.heap.size wr w') := unk_any wr x so sc bm f (HVs.out.below HB.out.2) hnm
      clear hcell hcs r2 hf hnm
      have HT : Hid ((l.take (k + 1)).any (V.unk f) = V.unk f x ∧ (V.unk f x = true → l.any (V.unk f) = true)) := by
        refine ⟨?_, fun h => List.any_eq_true.2 ⟨x, List.mem_of_getElem? hx, h⟩⟩
        rw [List.take_add_one, hx, List.any_append, HB.out.1]; simp
      clear hx
      generalize V.unk f x = ub at HL HT
      obtain ⟨xk, xr, xs, xn⟩ := x
      simp only at c0 c1 c2 c3 HL
      go_wp2_with fail
      refine HL.out.mono ?_
      rintro e w5 ⟨rfl, b5⟩
      have HB5 : Hid (Below w.heap.size w w5) := HB.out.2.trans (b5.mono HB.out.2.size)
      clear b5 c0 c1 c2 c3
      cases ub
      · have HT2 : Hid ((l.take (k + 1)).any (V.unk f) = false) := HT.out.1
        clear HT
        go_wp2
        go_roundw
        case rel => exact ⟨k + 1, by omega, by go_num, HT2.out, HB5.out⟩
        case measure => simp [intOf]; omega
      · have HT2 : Hid (l.any (V.unk f) = true) := HT.out.2 rfl
        clear HT
        go_wp2
        go_ret
        exact ⟨k, rfl, by rw [HT2.out]; simp, HB5.out⟩
    · have hkl : k = l.length := by omega
      subst hkl
      go_wp2
      go_ret
      exact ⟨-1, rfl, by have := HB.out.1; rw [List.take_length] at this; rw [this]; rfl, HB.out.2⟩

set_option maxHeartbeats 1000000 in
theorem unkIn_any (w : World) (v : Value) (l : List R.Item) (bm : Nat) (f : ByteArray → Option Value) (HV : V.MapBox w bm f) (RR : R.Its w v l) (hl : l.length ≤ 140737488355328) :
    Calls Try.prog 105 #[v, .func (.func 74) #[] #[.pointer (some ⟨bm, 0, none⟩)]] w fun e w' => e = .returned (.bool (l.any (V.unk f))) ∧ Below w.heap.size w w' := by
  have h := unkAt_any w v l bm f HV RR hl
  obtain ⟨aa, ca, rfl⟩ := RR.len
  clear RR HV
  go_enter Try.func105, Try.ntmps105
  go_wp2_with fail
  refine h.mono ?_
  rintro e w1 ⟨i, rfl, hi, hb⟩
  have HI : Hid _ := hi
  clear hi
  go_wp2
  go_ret
  exact ⟨L.ret_bool HI.out, hb⟩

/-- a side has a name that is not known -/
def V.unkS (f : ByteArray → Option Value) (s : R.Side) : Bool := s.before.any (V.unk f) || s.source.any (V.unk f) || s.after.any (V.unk f)

set_option maxHeartbeats 4000000 in
theorem hasItem_any (w : World) (v : Value) (s : R.Side) (bm : Nat) (f : ByteArray → Option Value) (HV : V.MapBox w bm f) (RR : R.SdIs w v s) (hl : s.before.length ≤ 140737488355328 ∧ s.source.length ≤ 140737488355328 ∧ s.after.length ≤ 140737488355328) :
    Calls Try.prog 76 #[v, .func (.func 74) #[] #[.pointer (some ⟨bm, 0, none⟩)]] w fun e w' => e = .returned (.bool (V.unkS f s)) ∧ Below w.heap.size w w' := by
  obtain ⟨bo, bc, so, sc, ao, ac, rfl, i1, i2, i3, _⟩ := RR
  have H1 : Hid (∀ W, Below w.heap.size w W → Calls Try.prog 105 #[.slice bo s.before.length bc, .func (.func 74) #[] #[.pointer (some ⟨bm, 0, none⟩)]] W fun e w' => e = .returned (.bool (s.before.any (V.unk f))) ∧ Below W.heap.size W w') := fun W hW => unkIn_any W _ s.before bm f (HV.below hW) (i1.below hW) hl.1
  have H2 : Hid (∀ W, Below w.heap.size w W → Calls Try.prog 105 #[.slice so s.source.length sc, .func (.func 74) #[] #[.pointer (some ⟨bm, 0, none⟩)]] W fun e w' => e = .returned (.bool (s.source.any (V.unk f))) ∧ Below W.heap.size W w') := fun W hW => unkIn_any W _ s.source bm f (HV.below hW) (i2.below hW) hl.2.1
  have H3 : Hid (∀ W, Below w.heap.size w W → Calls Try.prog 105 #[.slice ao s.after.length ac, .func (.func 74) #[] #[.pointer (some ⟨bm, 0, none⟩)]] W fun e w' => e = .returned (.bool (s.after.any (V.unk f))) ∧ Below W.heap.size W w') := fun W hW => unkIn_any W _ s.after bm f (HV.below hW) (i3.below hW) hl.2.2
  have hV : V.unkS f s = (s.before.any (V.unk f) || s.source.any (V.unk f) || s.after.any (V.unk f)) := rfl
  rw [hV]
  clear hV i1 i2 i3 hl HV
  generalize s.before.any (V.unk f) = u1 at *
  generalize s.source.any (V.unk f) = u2 at *
  generalize s.after.any (V.unk f) = u3 at *
  obtain ⟨st, fi, be, sr, af, cu⟩ := s
  simp only at H1 H2 H3
  have hX := K.one_box (Below.refl _ (w.alloc (.cells #[.bool st, .bool fi, .slice bo be.length bc, .slice so sr.length sc, .slice ao af.length ac, .int .i64 cu] 51)))
  have HX : Hid _ := hX
  clear hX
  go_enter Try.func76, Try.ntmps76
  go_wp2_with fail
  refine (H1.out _ HX.out.2.1).mono ?_
  rintro e w1 ⟨rfl, b1⟩
  have B1 := HX.out.2.1.trans (b1.mono HX.out.2.1.size)
  have y1 := K.blk_below HX.out.1 b1
  have p3 := K.at_box (i := 3) y1 rfl
  have HY : Hid _ := And.intro y1 B1
  clear y1 B1 b1
  cases u1
  · go_wp2_with fail
    refine (H2.out _ HY.out.2).mono ?_
    rintro e w2 ⟨rfl, b2⟩
    have B2 := HY.out.2.trans (b2.mono HY.out.2.size)
    have y1 := K.blk_below HY.out.1 b2
    have p4 := K.at_box (i := 4) y1 rfl
    have HZ : Hid (Below w.heap.size w w2) := B2
    clear y1 B2 b2 p3
    cases u2
    · go_wp2_with fail
      refine (H3.out _ HZ.out).mono ?_
      rintro e w3 ⟨rfl, b3⟩
      have HB3 : Hid (Below w.heap.size w w3) := HZ.out.trans (b3.mono HZ.out.size)
      clear b3
      go_wp2
      go_ret
      exact ⟨by simp, HB3.out⟩
    · go_wp2
      go_ret
      exact ⟨by simp, HZ.out⟩
  · have HB1 : Hid (Below w.heap.size w w1) := HY.out.2
    go_wp2
    go_ret
    exact ⟨by simp, HB1.out⟩

end Go.Proofs.Ytchkcjaahjhbcaa
