/-
  Lists of parts that are the same: what the document's Same answers of them.
-/
import Derived.Test.YtajbcgobfkaahaaGreatDoorRLib
import Derived.Test.YtajbcgobfkaahaaGreatDoorRWrong3
import Derived.Test.YtajbcgobfkaahaaGreatDoorTBits
import Derived.Deep.RegionHeld3
import Derived.BigRegion
namespace Go.Proofs.YtajbcgobfkaahaaGreatDoor
open Go.RowKit
set_option maxRecDepth 20000
set_option linter.unusedSimpArgs false
set_option linter.unusedVariables false

set_option maxHeartbeats 8000000 in
theorem sameItems_eq (w : World) (va vb : Value) (l : List R.Item) (R1 : R.Its w va l) (R2 : R.Its w vb l) (hl : l.length ≤ 1000) (hs : ∀ x ∈ l, x.set.length ≤ 1000) :
    Calls Tryz.prog 41 #[va, vb] w fun e w' => e = .returned (.bool true) ∧ Below w.heap.size w w' := by
  have HR1 : Hid (R.Its w va l) := R1
  have HR2 : Hid (R.Its w vb l) := R2
  have HS : Hid (∀ x ∈ l, x.set.length ≤ 1000) := hs
  obtain ⟨ao, ca, rfl⟩ := R1.len
  obtain ⟨bo, cb, rfl⟩ := R2.len
  clear R1 R2 hs
  go_enter Tryz.func41, Tryz.ntmps41
  go_wp2
  go_loopw [13] (fun i wr => ∃ k : Nat, k ≤ l.length ∧ i = .int .i64 k ∧ Hid (Below w.heap.size w wr)) (fun i _ => l.length - (intOf i).toNat)
  case atStart => exact ⟨0, Nat.zero_le _, rfl, Below.refl _ w⟩
  case round =>
    obtain ⟨k, hk, rfl, HB⟩ := hrel
    by_cases hlt : k < l.length
    · obtain ⟨x, hx⟩ : ∃ x, l[k]? = some x := ⟨l[k], by simp [hlt]⟩
      obtain ⟨ao', ca', e', hcs⟩ := HR1.out.below HB.out
      cases e'
      obtain ⟨b, off, rfl, hcell⟩ := hcs (by intro h; subst h; simp at hlt)
      obtain ⟨c0, c1, c3, ⟨so, sc, c2, r2⟩, hf, _⟩ := hcell k x hx
      obtain ⟨bo', cb', e2, hds⟩ := HR2.out.below HB.out
      cases e2
      obtain ⟨d, of2, rfl, hdell⟩ := hds (by intro h; subst h; simp at hlt)
      obtain ⟨d0, d1, d3, ⟨so2, sc2, d2, r2'⟩, _, _⟩ := hdell k x hx
      have hsl := HS.out x (List.mem_of_getElem? hx)
      have HSm : Hid (∀ W, Below wr.heap.size wr W → Calls Tryz.prog 25 #[.slice so x.set.length sc, .slice so2 x.set.length sc2] W fun e w' => e = .returned (.bool true) ∧ Below W.heap.size W w') := fun W hW => by
        refine (same_any W _ _ x.set x.set (r2.below hW (Nat.le_refl _)) (r2'.below hW (Nat.le_refl _)) (by omega) (by omega)).mono ?_
        rintro e w' ⟨h1, h2⟩
        exact ⟨by rw [h1]; simp, h2⟩
      clear hx hcell hcs r2 hf hdell hds r2'
      obtain ⟨xk, xr, xs, xn⟩ := x
      simp only at c0 c1 c2 c3 d0 d1 d2 d3 HSm hsl
      have bD : Below wr.heap.size wr wr.drew := (Below.refl _ wr).drew
      have kp0 : wr.drew.cell? ⟨b, off + k * 4, none⟩ = some (.int .i64 xk) ∧ wr.drew.cell? ⟨b, off + k * 4 + 1, none⟩ = some (.int .i32 xr) ∧ wr.drew.cell? ⟨b, off + k * 4 + 3, none⟩ = some (.string xn) ∧ wr.drew.cell? ⟨b, off + k * 4 + 2, none⟩ = some (.slice so xs.length sc) ∧ wr.drew.cell? ⟨d, of2 + k * 4, none⟩ = some (.int .i64 xk) ∧ wr.drew.cell? ⟨d, of2 + k * 4 + 1, none⟩ = some (.int .i32 xr) ∧ wr.drew.cell? ⟨d, of2 + k * 4 + 3, none⟩ = some (.string xn) ∧ wr.drew.cell? ⟨d, of2 + k * 4 + 2, none⟩ = some (.slice so2 xs.length sc2) := ⟨c0, c1, c3, c2, d0, d1, d3, d2⟩
      have hks : k ≤ 1000 := by omega
      go_wp2
      go_region_held3 (fun w' => w'.cell? ⟨b, off + k * 4, none⟩ = some (.int .i64 xk) ∧ w'.cell? ⟨b, off + k * 4 + 1, none⟩ = some (.int .i32 xr) ∧ w'.cell? ⟨b, off + k * 4 + 3, none⟩ = some (.string xn) ∧ w'.cell? ⟨b, off + k * 4 + 2, none⟩ = some (.slice so xs.length sc) ∧ w'.cell? ⟨d, of2 + k * 4, none⟩ = some (.int .i64 xk) ∧ w'.cell? ⟨d, of2 + k * 4 + 1, none⟩ = some (.int .i32 xr) ∧ w'.cell? ⟨d, of2 + k * 4 + 3, none⟩ = some (.string xn) ∧ w'.cell? ⟨d, of2 + k * 4 + 2, none⟩ = some (.slice so2 xs.length sc2))
        (first | exact kp1 | exact kp0 | go_keep)
        (first
          | (go_at_call 25; refine (HSm.out _ bD).mono ?_; rintro e w5 ⟨rfl, b5⟩; have kk := R.Keeps.of_below b5 (Nat.le_refl _); have kp1 : w5.cell? ⟨b, off + k * 4, none⟩ = some (.int .i64 xk) ∧ w5.cell? ⟨b, off + k * 4 + 1, none⟩ = some (.int .i32 xr) ∧ w5.cell? ⟨b, off + k * 4 + 3, none⟩ = some (.string xn) ∧ w5.cell? ⟨b, off + k * 4 + 2, none⟩ = some (.slice so xs.length sc) ∧ w5.cell? ⟨d, of2 + k * 4, none⟩ = some (.int .i64 xk) ∧ w5.cell? ⟨d, of2 + k * 4 + 1, none⟩ = some (.int .i32 xr) ∧ w5.cell? ⟨d, of2 + k * 4 + 3, none⟩ = some (.string xn) ∧ w5.cell? ⟨d, of2 + k * 4 + 2, none⟩ = some (.slice so2 xs.length sc2) := ⟨kk _ _ _ c0, kk _ _ _ c1, kk _ _ _ c3, kk _ _ _ c2, kk _ _ _ d0, kk _ _ _ d1, kk _ _ _ d3, kk _ _ _ d2⟩; have HB5 : Hid (Below wr.drew.heap.size wr.drew w5) := b5; clear b5 kk)
          | fail)
      all_goals clear kp0 kp1
      all_goals have HB6 : Hid (Below w.heap.size w w5) := (HB.out.trans (bD.mono HB.out.size)).trans (HB5.out.mono (HB.out.trans (bD.mono HB.out.size)).size)
      all_goals go_wp2
      all_goals go_roundw
      all_goals first
        | exact ⟨k + 1, by omega, by go_num, HB6⟩
        | (simp [intOf]; omega)
    · go_wp2
      go_ret
      exact ⟨rfl, HB.out⟩

set_option maxHeartbeats 8000000 in
theorem sameSide_eq (w : World) (va vb : Value) (s : R.Side) (R1 : R.SdIs w va s) (R2 : R.SdIs w vb s) (h20 : s.before.length ≤ 1000 ∧ s.source.length ≤ 1000 ∧ s.after.length ≤ 1000) (hs : ∀ x ∈ s.before ++ s.source ++ s.after, x.set.length ≤ 1000) :
    Calls Tryz.prog 26 #[va, vb] w fun e w' => e = .returned (.bool true) ∧ Below w.heap.size w w' := by
  obtain ⟨bo, bc, so, sc, ao, ac, rfl, i1, i2, i3, _⟩ := R1
  obtain ⟨bo', bc', so', sc', ao', ac', rfl, j1, j2, j3, _⟩ := R2
  have H1 : Hid (∀ W, Below w.heap.size w W → Calls Tryz.prog 41 #[.slice bo s.before.length bc, .slice bo' s.before.length bc'] W fun e w' => e = .returned (.bool true) ∧ Below W.heap.size W w') := fun W hW => sameItems_eq W _ _ s.before (i1.below hW) (j1.below hW) h20.1 (fun x hx => hs x (by simp [hx]))
  have H2 : Hid (∀ W, Below w.heap.size w W → Calls Tryz.prog 41 #[.slice so s.source.length sc, .slice so' s.source.length sc'] W fun e w' => e = .returned (.bool true) ∧ Below W.heap.size W w') := fun W hW => sameItems_eq W _ _ s.source (i2.below hW) (j2.below hW) h20.2.1 (fun x hx => hs x (by simp [hx]))
  have H3 : Hid (∀ W, Below w.heap.size w W → Calls Tryz.prog 41 #[.slice ao s.after.length ac, .slice ao' s.after.length ac'] W fun e w' => e = .returned (.bool true) ∧ Below W.heap.size W w') := fun W hW => sameItems_eq W _ _ s.after (i3.below hW) (j3.below hW) h20.2.2 (fun x hx => hs x (by simp [hx]))
  obtain ⟨st, fi, be, sr, af, cu⟩ := s
  simp only at H1 H2 H3
  clear i1 i2 i3 j1 j2 j3 h20 hs
  have B0 : Below w.heap.size w ((w.alloc (.cells #[.bool st, .bool fi, .slice bo be.length bc, .slice so sr.length sc, .slice ao af.length ac, .int .i64 cu] 47)).alloc (.cells #[.bool st, .bool fi, .slice bo' be.length bc', .slice so' sr.length sc', .slice ao' af.length ac', .int .i64 cu] 47)) := ((Below.refl _ w).alloc (Nat.le_refl _) _).alloc (by simp) _
  have x1 := heap_alloc_new w (.cells #[.bool st, .bool fi, .slice bo be.length bc, .slice so sr.length sc, .slice ao af.length ac, .int .i64 cu] 47)
  have x2 := heap_alloc_new (w.alloc (.cells #[.bool st, .bool fi, .slice bo be.length bc, .slice so sr.length sc, .slice ao af.length ac, .int .i64 cu] 47)) (.cells #[.bool st, .bool fi, .slice bo' be.length bc', .slice so' sr.length sc', .slice ao' af.length ac', .int .i64 cu] 47)
  have x1' := R.box_below x1 ((Below.refl _ _).alloc (Nat.le_refl _) (.cells #[.bool st, .bool fi, .slice bo' be.length bc', .slice so' sr.length sc', .slice ao' af.length ac', .int .i64 cu] 47))
  have hsz : (w.alloc (.cells #[.bool st, .bool fi, .slice bo be.length bc, .slice so sr.length sc, .slice ao af.length ac, .int .i64 cu] 47)).heap.size = w.heap.size + 1 := by simp
  rw [hsz] at x2
  have HX : Hid _ := And.intro x1' (And.intro x2 B0)
  clear x1 x2 x1' hsz B0
  go_enter Tryz.func26, Tryz.ntmps26
  go_wp2_with fail
  refine (H1.out _ HX.out.2.2).mono ?_
  rintro e w1 ⟨rfl, b1⟩
  have B1 := HX.out.2.2.trans (b1.mono HX.out.2.2.size)
  have y1 := R.box_below HX.out.1 b1
  have y2 := R.box_below HX.out.2.1 b1
  have p3 := R.at_box (i := 3) y1 rfl
  have q3 := R.at_box (i := 3) y2 rfl
  have HY : Hid _ := And.intro y1 (And.intro y2 B1)
  clear y1 y2 B1 b1
  go_wp2_with fail
  refine (H2.out _ HY.out.2.2).mono ?_
  rintro e w2 ⟨rfl, b2⟩
  have B2 := HY.out.2.2.trans (b2.mono HY.out.2.2.size)
  have y1 := R.box_below HY.out.1 b2
  have y2 := R.box_below HY.out.2.1 b2
  have p4 := R.at_box (i := 4) y1 rfl
  have q4 := R.at_box (i := 4) y2 rfl
  have HZ : Hid (Below w.heap.size w w2) := B2
  clear y1 y2 B2 b2 p3 q3
  go_wp2_with fail
  refine (H3.out _ HZ.out).mono ?_
  rintro e w3 ⟨rfl, b3⟩
  have HB3 : Hid (Below w.heap.size w w3) := HZ.out.trans (b3.mono HZ.out.size)
  clear b3
  go_wp2
  go_ret
  exact ⟨rfl, HB3.out⟩

end Go.Proofs.YtajbcgobfkaahaaGreatDoor
