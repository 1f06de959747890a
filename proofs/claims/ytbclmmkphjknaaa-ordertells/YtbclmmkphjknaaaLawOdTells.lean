/-
  scriptlaw19.OrderTells: it returns true.
-/
import Derived.Test.YtbclmmkphjknaaaNmRefTog
import Derived.Test.YtbclmmkphjknaaaOdSame
namespace Go.Proofs.Ytbclmmkphjknaaa
open Go.RowKit Go.Lib
set_option maxRecDepth 20000
set_option linter.unusedSimpArgs false
set_option linter.unusedVariables false

theorem Od.same (X : World) (va vb : Value) (z : List Int) (ha : L.Rd X va .i64 z) (hb : L.Rd X vb .i64 z) (hz : z.length ≤ 1000000) :
    Calls Try.prog 18 #[va, vb] X fun e w' => e = .returned (.bool true) ∧ Below X.heap.size X w' := by
  refine (odSame_any X va vb z z ha hb (by omega) (by omega)).mono ?_
  rintro e w' ⟨h1, h2⟩
  exact ⟨by simpa using h1, h2⟩

set_option maxHeartbeats 16000000 in
theorem orderTells_any (w : World) (va vb vl : Value) (a b : List Int) (l : List (List Int)) (Ra : L.Rd w va .i32 a) (Rb : L.Rd w vb .i32 b) (Rl : Ws.Rd w vl l) (ha : a.length ≤ 140737488355328) (hb : b.length ≤ 140737488355328) (hl : ∀ c ∈ l, c.length ≤ 140737488355328) (hn : l.length ≤ 140737488355328) :
    Calls Try.prog 4 #[va, vb, vl] w fun e w' => e = .returned (.bool true) ∧ Below w.heap.size w w' := by
  have HK : Hid (∀ X, Below w.heap.size w X → Calls Try.prog 16 #[va] X fun e w' => ∃ x y z, e = .returned (.tuple #[x, y, z, .int .i64 (Od.keyF a).2]) ∧ Od.Tri w' X.heap.size x y z (Od.keyF a).1 ∧ Below X.heap.size X w') := fun X hX => odKey_any X va a (Ra.below hX (Nat.le_refl _)) ha
  have HR : Hid (∀ X, Below w.heap.size w X → Calls Try.prog 17 #[va] X fun e w' => ∃ x y z, e = .returned (.tuple #[.agg #[x, y, z], .int .i64 (Od.keyF a).2]) ∧ Od.Tri w' X.heap.size x y z (Od.keyF a).1 ∧ Below X.heap.size X w') := fun X hX => odRefRows_any X va a (Ra.below hX (Nat.le_refl _)) ha
  have HC : Hid (∀ X, Below w.heap.size w X → Calls Try.prog 19 #[va, vb] X fun e w' => e = .returned (.tuple #[.int .i64 (Od.cmpF a b).1, .int .i64 (Od.cmpF a b).2]) ∧ Below X.heap.size X w') := fun X hX => odCompare_any X va vb a b (Ra.below hX (Nat.le_refl _)) (Rb.below hX (Nat.le_refl _)) ha hb
  have HD : Hid (∀ X, Below w.heap.size w X → Calls Try.prog 20 #[va, vb] X fun e w' => e = .returned (.tuple #[.int .i64 (Od.cmpF a b).1, .int .i64 (Od.cmpF a b).2]) ∧ Below X.heap.size X w') := fun X hX => odRefCmp_any X va vb a b (Ra.below hX (Nat.le_refl _)) (Rb.below hX (Nat.le_refl _)) ha hb
  have HS : Hid (∀ X, Below w.heap.size w X → Calls Try.prog 21 #[vl] X fun e w' => ∃ v', e = .returned (.tuple #[v', .agg #[.int .i64 (Od.wrongS l).1, .int .i64 (Od.wrongS l).2]]) ∧ L.Rd w' v' .i64 (Od.outS l) ∧ Below X.heap.size X w') := fun X hX => odSort2_any X vl l (Rl.below hX) hl hn
  have HT : Hid (∀ X, Below w.heap.size w X → Calls Try.prog 22 #[vl] X fun e w' => ∃ v', e = .returned (.tuple #[v', .agg #[.int .i64 (Od.wrongS l).1, .int .i64 (Od.wrongS l).2]]) ∧ L.Rd w' v' .i64 (Od.outS l) ∧ Below X.heap.size X w') := fun X hX => odRefSort_any X vl l (Rl.below hX) hl hn
  have ln := Od.key_len a (Nm.apart_len a)
  have hou : (Od.outS l).length ≤ 100 := Od.outS_len l (by
    by_cases h : l.length ≤ 100
    · exact .inl h
    · refine .inr ?_
      unfold Od.wrongS
      rw [if_pos (by omega)]
      simp)
  obtain ⟨⟨⟨k1, k2, k3⟩, ke⟩, hk⟩ : ∃ p, p = Od.keyF a := ⟨_, rfl⟩
  rw [← hk] at HK HR ln
  simp only at HK HR ln
  obtain ⟨⟨c1, c2⟩, hc⟩ : ∃ p, p = Od.cmpF a b := ⟨_, rfl⟩
  rw [← hc] at HC HD
  simp only at HC HD
  obtain ⟨⟨f1, f2⟩, hf⟩ : ∃ p, p = Od.wrongS l := ⟨_, rfl⟩
  rw [← hf] at HS HT
  simp only at HS HT
  generalize Od.outS l = os at HS HT hou
  have HLn : Hid (k1.length ≤ 1000000 ∧ k2.length ≤ 1000000 ∧ k3.length ≤ 1000000 ∧ os.length ≤ 1000000) := ⟨by omega, by omega, by omega, by omega⟩
  obtain ⟨ao, ac, rfl, _, _⟩ := Ra
  obtain ⟨bo, bc, rfl, _, _⟩ := Rb
  obtain ⟨lo, lc, rfl, _, _⟩ := Rl
  clear hk hc hf ln hou ha hb hl hn
  have h1 := HK.out w (Below.refl _ _)
  clear HK
  go_enter Try.func4, Try.ntmps4
  go_wp2_with fail
  refine h1.mono ?_
  clear h1
  rintro e w1 ⟨x1, y1, z1, rfl, t1, b1⟩
  obtain ⟨px, nx, dx, hv⟩ := t1.o1.sl
  subst hv
  obtain ⟨py, ny, dy, hv⟩ := t1.o2.sl
  subst hv
  obtain ⟨pz, nz, dz, hv⟩ := t1.o3.sl
  subst hv
  have HB1 : Hid (Below w.heap.size w w1) := b1
  have HT1 : Hid (Od.Tri w1 w.heap.size (.slice px nx dx) (.slice py ny dy) (.slice pz nz dz) (k1, k2, k3)) := t1
  have h2 := HR.out w1 b1
  clear b1 t1 HR
  go_wp2_with fail
  refine h2.mono ?_
  clear h2
  rintro e w2 ⟨x2, y2, z2, rfl, t2, b2⟩
  obtain ⟨qx, mx, ex, hv⟩ := t2.o1.sl
  subst hv
  obtain ⟨qy, my, ey, hv⟩ := t2.o2.sl
  subst hv
  obtain ⟨qz, mz, ez, hv⟩ := t2.o3.sl
  subst hv
  obtain ⟨X, hX⟩ : ∃ X, X = w2.alloc (.cells #[.slice qx mx ex, .slice qy my ey, .slice qz mz ez] 37) := ⟨_, rfl⟩
  have bX : Below w2.heap.size w2 X := by rw [hX]; exact (Below.refl _ w2).alloc (Nat.le_refl _) _
  have hxX : Od.Bx X w2.heap.size (.slice qx mx ex) (.slice qy my ey) (.slice qz mz ez) := by rw [hX]; exact heap_alloc_new w2 _
  have HXe : Hid (X = w2.alloc (.cells #[.slice qx mx ex, .slice qy my ey, .slice qz mz ez] 37)) := hX
  have HBX : Hid (Below w.heap.size w X) := (HB1.out.trans (b2.mono HB1.out.size)).trans (bX.mono (Nat.le_trans HB1.out.size b2.size))
  have HTX : Hid (Od.Tri X w.heap.size (.slice px nx dx) (.slice py ny dy) (.slice pz nz dz) (k1, k2, k3) ∧ Od.Tri X w1.heap.size (.slice qx mx ex) (.slice qy my ey) (.slice qz mz ez) (k1, k2, k3) ∧ Od.Bx X w2.heap.size (.slice qx mx ex) (.slice qy my ey) (.slice qz mz ez)) := ⟨(HT1.out.below b2).below bX, t2.below bX, hxX⟩
  have s1 := Od.same X _ _ k1 HTX.out.1.o1.rd HTX.out.2.1.o1.rd HLn.out.1
  obtain ⟨xx0, _, _⟩ := hxX.at
  have xa : ∀ o, o = Obj.cells #[.slice qx mx ex, .slice qy my ey, .slice qz mz ez] 37 → True := fun _ _ => trivial
  clear t2 b2 bX hxX hX HT1 HB1 xa
  go_wp2_with fail
  rw [← HXe.out]
  refine s1.mono ?_
  clear s1 xx0
  rintro e w3 ⟨rfl, b3⟩
  have hx3 := HTX.out.2.2.below b3
  obtain ⟨_, xx1, _⟩ := hx3.at
  have HB3 : Hid (Below w.heap.size w w3) := HBX.out.trans (b3.mono HBX.out.size)
  have HT3 : Hid (Od.Tri w3 w.heap.size (.slice px nx dx) (.slice py ny dy) (.slice pz nz dz) (k1, k2, k3) ∧ Od.Tri w3 w1.heap.size (.slice qx mx ex) (.slice qy my ey) (.slice qz mz ez) (k1, k2, k3) ∧ Od.Bx w3 w2.heap.size (.slice qx mx ex) (.slice qy my ey) (.slice qz mz ez)) := ⟨HTX.out.1.below b3, HTX.out.2.1.below b3, hx3⟩
  have s2 := Od.same w3 _ _ k2 HT3.out.1.o2.rd HT3.out.2.1.o2.rd HLn.out.2.1
  clear b3 HTX hx3 HXe HBX
  go_wp2_with fail
  refine s2.mono ?_
  clear s2 xx1
  rintro e w4 ⟨rfl, b4⟩
  have hx4 := HT3.out.2.2.below b4
  obtain ⟨_, _, xx2⟩ := hx4.at
  have HB4 : Hid (Below w.heap.size w w4) := HB3.out.trans (b4.mono HB3.out.size)
  have s3 := Od.same w4 _ _ k3 (HT3.out.1.below b4).o3.rd (HT3.out.2.1.below b4).o3.rd HLn.out.2.2.1
  clear b4 HT3 hx4 HB3
  go_wp2_with fail
  refine s3.mono ?_
  clear s3 xx2
  rintro e w5 ⟨rfl, b5⟩
  have HB5 : Hid (Below w.heap.size w w5) := HB4.out.trans (b5.mono HB4.out.size)
  have h5 := HC.out w5 HB5.out
  clear b5 HB4 HC
  go_wp2_with fail
  refine h5.mono ?_
  clear h5
  rintro e w6 ⟨rfl, b6⟩
  have HB6 : Hid (Below w.heap.size w w6) := HB5.out.trans (b6.mono HB5.out.size)
  have h6 := HD.out w6 HB6.out
  clear b6 HB5 HD
  go_wp2_with fail
  refine h6.mono ?_
  clear h6
  rintro e w7 ⟨rfl, b7⟩
  have HB7 : Hid (Below w.heap.size w w7) := HB6.out.trans (b7.mono HB6.out.size)
  have h7 := HS.out w7 HB7.out
  clear b7 HB6 HS
  go_wp2_with fail
  refine h7.mono ?_
  clear h7
  rintro e w8 ⟨v8, rfl, r8, b8⟩
  obtain ⟨p8, d8, hv, _⟩ := id r8
  subst hv
  obtain ⟨Y, hY⟩ : ∃ Y, Y = w8.alloc (.cells #[.int .i64 f1, .int .i64 f2] 44) := ⟨_, rfl⟩
  have bY : Below w8.heap.size w8 Y := by rw [hY]; exact (Below.refl _ w8).alloc (Nat.le_refl _) _
  have hyY : Y.heap[w8.heap.size]? = some (.cells #[.int .i64 f1, .int .i64 f2] 44) := by rw [hY]; exact heap_alloc_new w8 _
  have HYe : Hid (Y = w8.alloc (.cells #[.int .i64 f1, .int .i64 f2] 44)) := hY
  have HBY : Hid (Below w.heap.size w Y) := (HB7.out.trans (b8.mono HB7.out.size)).trans (bY.mono (Nat.le_trans HB7.out.size b8.size))
  have HRY : Hid (L.Rd Y (.slice p8 os.length d8) .i64 os ∧ Y.heap[w8.heap.size]? = some (.cells #[.int .i64 f1, .int .i64 f2] 44)) := ⟨r8.below bY (Nat.le_refl _), hyY⟩
  have h8 := HT.out Y HBY.out
  clear b8 bY hyY hY HB7 HT r8
  go_wp2_with fail
  rw [← HYe.out]
  refine h8.mono ?_
  clear h8 HYe
  rintro e w9 ⟨v9, rfl, r9, b9⟩
  obtain ⟨p9, d9, hv, _⟩ := id r9
  subst hv
  obtain ⟨Z, hZ⟩ : ∃ Z, Z = w9.alloc (.cells #[.int .i64 f1, .int .i64 f2] 44) := ⟨_, rfl⟩
  have bZ : Below w9.heap.size w9 Z := by rw [hZ]; exact (Below.refl _ w9).alloc (Nat.le_refl _) _
  have HZe : Hid (Z = w9.alloc (.cells #[.int .i64 f1, .int .i64 f2] 44)) := hZ
  have HBZ : Hid (Below w.heap.size w Z) := (HBY.out.trans (b9.mono HBY.out.size)).trans (bZ.mono (Nat.le_trans HBY.out.size b9.size))
  have hy9 := K.blk_below HRY.out.2 b9
  obtain ⟨y0, y1, _, _⟩ := K.box2 hy9
  have k0 : ∀ o, (w9.alloc o).cell? ⟨w8.heap.size, 0, none⟩ = some (.int .i64 f1) := fun o => K.alloc_cell y0 o
  have k1' : ∀ o, (w9.alloc o).cell? ⟨w8.heap.size, 1, none⟩ = some (.int .i64 f2) := fun o => K.alloc_cell y1 o
  have s4 := Od.same Z _ _ os ((HRY.out.1.below b9 (Nat.le_refl _)).below bZ (Nat.le_refl _)) (r9.below bZ (Nat.le_refl _)) HLn.out.2.2.2
  have hl9 : w8.heap.size < w9.heap.size := lt_of_block hy9
  clear b9 bZ hZ HBY HRY r9 hy9
  go_wp2_with fail
  rw [← HZe.out]
  refine s4.mono ?_
  clear s4 HZe k0 k1' y0 y1
  rintro e w10 ⟨rfl, b10⟩
  have HE : Hid (Below w.heap.size w w10) := HBZ.out.trans (b10.mono HBZ.out.size)
  clear b10
  go_wp2
  go_ret
  exact ⟨by simp, HE.out⟩

end Go.Proofs.Ytbclmmkphjknaaa
