/-
  What is wrong with parts and files: the document's answers.
-/
import Derived.Test.YtafkfnkcabahnaaDoorRRefWrong
import Derived.Test.YtafkfnkcabahnaaDoorRWrong3
namespace Go.Proofs.YtafkfnkcabahnaaDoor
open Go.RowKit
set_option maxRecDepth 20000
set_option linter.unusedSimpArgs false
set_option linter.unusedVariables false

/-- what the calls of a part answer in any later world -/
structure R.RefCalls (w : World) (p : R.Part) (sv lv rv : Value) (zs zl zr : Int) (nm pa gl gr al ar : Bool) : Prop where
  wr : ∀ w1, Below w.heap.size w w1 → Calls Tryd.prog 21 #[sv] w1 fun e w' => e = .returned (.int .i64 zs) ∧ Below w1.heap.size w1 w'
  nam : ∀ w1, Calls Tryd.prog 28 #[.string p.name] w1 fun e w' => e = .returned (.bool nm) ∧ Below w1.heap.size w1 w'
  pas : ∀ w1, Calls Tryd.prog 29 #[.string p.name] w1 fun e w' => e = .returned (.bool pa) ∧ w' = w1
  sl : ∀ w1, Below w.heap.size w w1 → Calls Tryd.prog 30 #[lv, .bool (decide (p.dir ≠ 2))] w1 fun e w' => e = .returned (.int .i64 zl) ∧ Below w1.heap.size w1 w'
  sr : ∀ w1, Below w.heap.size w w1 → Calls Tryd.prog 30 #[rv, .bool (decide (p.dir ≠ 1))] w1 fun e w' => e = .returned (.int .i64 zr) ∧ Below w1.heap.size w1 w'
  gl : zl = 0 → ∀ w1, Below w.heap.size w w1 → Calls Tryd.prog 31 #[lv] w1 fun e w' => e = .returned (.bool gl) ∧ Below w1.heap.size w1 w'
  gr : zr = 0 → ∀ w1, Below w.heap.size w w1 → Calls Tryd.prog 31 #[rv] w1 fun e w' => e = .returned (.bool gr) ∧ Below w1.heap.size w1 w'
  al : ∀ w1, Below w.heap.size w w1 → Calls Tryd.prog 32 #[lv] w1 fun e w' => e = .returned (.bool al) ∧ Below w1.heap.size w1 w'
  ar : ∀ w1, Below w.heap.size w w1 → Calls Tryd.prog 32 #[rv] w1 fun e w' => e = .returned (.bool ar) ∧ Below w1.heap.size w1 w'

set_option maxHeartbeats 8000000 in
theorem refrule1 (w : World) (pn : ByteArray) (ps : List S.Sp) (lst lfi rst rfi : Bool) (lbe lsr laf rbe rsr raf : List R.Item) (lcu rcu : Int) (so lbo lso lao rbo rso rao : Option Addr) (sc lbc lsc lac rbc rsc rac : Nat) (zs zl zr : Int) (nm pa gl gr al ar : Bool)
    (K : R.RefCalls w ⟨2, pn, ps, 1, ⟨lst, lfi, lbe, lsr, laf, lcu⟩, ⟨rst, rfi, rbe, rsr, raf, rcu⟩⟩ (.slice so ps.length sc) (.agg #[.bool lst, .bool lfi, .slice lbo lbe.length lbc, .slice lso lsr.length lsc, .slice lao laf.length lac, .int .i64 lcu]) (.agg #[.bool rst, .bool rfi, .slice rbo rbe.length rbc, .slice rso rsr.length rsc, .slice rao raf.length rac, .int .i64 rcu]) zs zl zr nm pa gl gr al ar) :
    Calls Tryd.prog 16 #[.agg #[.int .i64 2, .string pn, .slice so ps.length sc, .int .i64 1, .bool lst, .bool lfi, .slice lbo lbe.length lbc, .slice lso lsr.length lsc, .slice lao laf.length lac, .int .i64 lcu, .bool rst, .bool rfi, .slice rbo rbe.length rbc, .slice rso rsr.length rsc, .slice rao raf.length rac, .int .i64 rcu]] w fun e w' =>
      e = .returned (.int .i64 (if zl ≠ 0 then zl else if zr ≠ 0 then zr else if (gr && !ar && decide (lcu < 0)) = true then 0 else 8)) ∧ Below w.heap.size w w' := by
  have HA : Hid (∀ o, Below w.heap.size w (w.alloc o)) := fun o => (Below.refl _ w).alloc (Nat.le_refl _) o
  have HKc : Hid (R.RefCalls w _ _ _ _ zs zl zr nm pa gl gr al ar) := K
  obtain ⟨o, HO⟩ : ∃ o, Hid ((if zl ≠ 0 then zl else if zr ≠ 0 then zr else if (gr && !ar && decide (lcu < 0)) = true then 0 else 8) = o) := ⟨_, rfl⟩
  rw [HO.out]
  clear K
  go_enter Tryd.func16, Tryd.ntmps16
  go_wp2_with fail
  refine (HKc.out.sl _ (HA.out _)).mono ?_
  rintro e w1 ⟨rfl, b1⟩
  obtain ⟨hb1, B1, hl1⟩ := R.box_kept b1
  have HB1 : Hid (Below w.heap.size w w1) := B1
  have HK1 : Hid _ := hb1
  clear b1 B1
  have q1_10 : w1.cell? ⟨w.heap.size, 10, none⟩ = some (.bool rst) := R.at_box hb1 rfl
  have q1_11 : w1.cell? ⟨w.heap.size, 11, none⟩ = some (.bool rfi) := R.at_box hb1 rfl
  have q1_12 : w1.cell? ⟨w.heap.size, 12, none⟩ = some (.slice rbo rbe.length rbc) := R.at_box hb1 rfl
  have q1_13 : w1.cell? ⟨w.heap.size, 13, none⟩ = some (.slice rso rsr.length rsc) := R.at_box hb1 rfl
  have q1_14 : w1.cell? ⟨w.heap.size, 14, none⟩ = some (.slice rao raf.length rac) := R.at_box hb1 rfl
  have q1_15 : w1.cell? ⟨w.heap.size, 15, none⟩ = some (.int .i64 rcu) := R.at_box hb1 rfl
  have q1_3 := R.at_box (i := 3) hb1 rfl
  clear hb1
  by_cases hz1 : zl = 0
  · subst hz1
    go_wp2_with fail
    refine (HKc.out.sr _ HB1.out).mono ?_
    rintro e w2 ⟨rfl, b2⟩
    have hb2 := R.box_below HK1.out b2
    have HB2 : Hid (Below w.heap.size w w2) := HB1.out.trans (b2.mono HB1.out.size)
    have HK2 : Hid _ := hb2
    clear b2
    clear q1_10 q1_11 q1_12 q1_13 q1_14 q1_15 q1_3
    have q2_3 := R.at_box (i := 3) hb2 rfl
    have q2_4 : w2.cell? ⟨w.heap.size, 4, none⟩ = some (.bool lst) := R.at_box hb2 rfl
    have q2_5 : w2.cell? ⟨w.heap.size, 5, none⟩ = some (.bool lfi) := R.at_box hb2 rfl
    have q2_6 : w2.cell? ⟨w.heap.size, 6, none⟩ = some (.slice lbo lbe.length lbc) := R.at_box hb2 rfl
    have q2_7 : w2.cell? ⟨w.heap.size, 7, none⟩ = some (.slice lso lsr.length lsc) := R.at_box hb2 rfl
    have q2_8 : w2.cell? ⟨w.heap.size, 8, none⟩ = some (.slice lao laf.length lac) := R.at_box hb2 rfl
    have q2_9 : w2.cell? ⟨w.heap.size, 9, none⟩ = some (.int .i64 lcu) := R.at_box hb2 rfl
    have q2_10 : w2.cell? ⟨w.heap.size, 10, none⟩ = some (.bool rst) := R.at_box hb2 rfl
    have q2_11 : w2.cell? ⟨w.heap.size, 11, none⟩ = some (.bool rfi) := R.at_box hb2 rfl
    have q2_12 : w2.cell? ⟨w.heap.size, 12, none⟩ = some (.slice rbo rbe.length rbc) := R.at_box hb2 rfl
    have q2_13 : w2.cell? ⟨w.heap.size, 13, none⟩ = some (.slice rso rsr.length rsc) := R.at_box hb2 rfl
    have q2_14 : w2.cell? ⟨w.heap.size, 14, none⟩ = some (.slice rao raf.length rac) := R.at_box hb2 rfl
    have q2_15 : w2.cell? ⟨w.heap.size, 15, none⟩ = some (.int .i64 rcu) := R.at_box hb2 rfl
    clear hb2
    by_cases hz2 : zr = 0
    · subst hz2
      go_wp2_with fail
      refine (HKc.out.gr (by trivial) _ HB2.out).mono ?_
      rintro e w3 ⟨rfl, b3⟩
      have hb3 := R.box_below HK2.out b3
      have HB3 : Hid (Below w.heap.size w w3) := HB2.out.trans (b3.mono HB2.out.size)
      have HK3 : Hid _ := hb3
      clear b3
      clear q2_3 q2_4 q2_5 q2_6 q2_7 q2_8 q2_9 q2_10 q2_11 q2_12 q2_13 q2_14 q2_15
      have q3_3 := R.at_box (i := 3) hb3 rfl
      have q3_4 : w3.cell? ⟨w.heap.size, 4, none⟩ = some (.bool lst) := R.at_box hb3 rfl
      have q3_5 : w3.cell? ⟨w.heap.size, 5, none⟩ = some (.bool lfi) := R.at_box hb3 rfl
      have q3_6 : w3.cell? ⟨w.heap.size, 6, none⟩ = some (.slice lbo lbe.length lbc) := R.at_box hb3 rfl
      have q3_7 : w3.cell? ⟨w.heap.size, 7, none⟩ = some (.slice lso lsr.length lsc) := R.at_box hb3 rfl
      have q3_8 : w3.cell? ⟨w.heap.size, 8, none⟩ = some (.slice lao laf.length lac) := R.at_box hb3 rfl
      have q3_9 : w3.cell? ⟨w.heap.size, 9, none⟩ = some (.int .i64 lcu) := R.at_box hb3 rfl
      have q3_10 : w3.cell? ⟨w.heap.size, 10, none⟩ = some (.bool rst) := R.at_box hb3 rfl
      have q3_11 : w3.cell? ⟨w.heap.size, 11, none⟩ = some (.bool rfi) := R.at_box hb3 rfl
      have q3_12 : w3.cell? ⟨w.heap.size, 12, none⟩ = some (.slice rbo rbe.length rbc) := R.at_box hb3 rfl
      have q3_13 : w3.cell? ⟨w.heap.size, 13, none⟩ = some (.slice rso rsr.length rsc) := R.at_box hb3 rfl
      have q3_14 : w3.cell? ⟨w.heap.size, 14, none⟩ = some (.slice rao raf.length rac) := R.at_box hb3 rfl
      have q3_15 : w3.cell? ⟨w.heap.size, 15, none⟩ = some (.int .i64 rcu) := R.at_box hb3 rfl
      clear hb3
      cases gr with
      | false =>
        go_wp2
        go_ret
        exact ⟨by rw [← HO.out]; simp, HB3.out⟩
      | true =>
        go_wp2_with fail
        refine (HKc.out.ar _ HB3.out).mono ?_
        rintro e w4 ⟨rfl, b4⟩
        have hb4 := R.box_below HK3.out b4
        have HB4 : Hid (Below w.heap.size w w4) := HB3.out.trans (b4.mono HB3.out.size)
        have HK4 : Hid _ := hb4
        clear b4
        clear q3_3 q3_4 q3_5 q3_6 q3_7 q3_8 q3_9 q3_10 q3_11 q3_12 q3_13 q3_14 q3_15
        have q4_3 := R.at_box (i := 3) hb4 rfl
        have q4_9 : w4.cell? ⟨w.heap.size, 9, none⟩ = some (.int .i64 lcu) := R.at_box hb4 rfl
        have q4_15 : w4.cell? ⟨w.heap.size, 15, none⟩ = some (.int .i64 rcu) := R.at_box hb4 rfl
        clear hb4
        cases ar with
        | true =>
          go_wp2
          go_ret
          exact ⟨by rw [← HO.out]; simp, HB4.out⟩
        | false =>
          by_cases hcu : lcu < 0
          · have hcd : decide (lcu < 0) = true := by simp; omega
            go_wp2
            all_goals go_ret
            all_goals exact ⟨by (rw [← HO.out]; simp [hcd]; try omega), HB4.out⟩
          · have hcd : decide (lcu < 0) = false := by simp; omega
            go_wp2
            all_goals go_ret
            all_goals exact ⟨by (rw [← HO.out]; simp [hcd]; try omega), HB4.out⟩
    · go_wp2
      go_ret
      exact ⟨by rw [← HO.out]; simp [hz2], HB2.out⟩
  · go_wp2
    go_ret
    exact ⟨by rw [← HO.out]; simp [hz1], HB1.out⟩

set_option maxHeartbeats 8000000 in
theorem refrule2 (w : World) (pn : ByteArray) (ps : List S.Sp) (lst lfi rst rfi : Bool) (lbe lsr laf rbe rsr raf : List R.Item) (lcu rcu : Int) (so lbo lso lao rbo rso rao : Option Addr) (sc lbc lsc lac rbc rsc rac : Nat) (zs zl zr : Int) (nm pa gl gr al ar : Bool)
    (K : R.RefCalls w ⟨2, pn, ps, 2, ⟨lst, lfi, lbe, lsr, laf, lcu⟩, ⟨rst, rfi, rbe, rsr, raf, rcu⟩⟩ (.slice so ps.length sc) (.agg #[.bool lst, .bool lfi, .slice lbo lbe.length lbc, .slice lso lsr.length lsc, .slice lao laf.length lac, .int .i64 lcu]) (.agg #[.bool rst, .bool rfi, .slice rbo rbe.length rbc, .slice rso rsr.length rsc, .slice rao raf.length rac, .int .i64 rcu]) zs zl zr nm pa gl gr al ar) :
    Calls Tryd.prog 16 #[.agg #[.int .i64 2, .string pn, .slice so ps.length sc, .int .i64 2, .bool lst, .bool lfi, .slice lbo lbe.length lbc, .slice lso lsr.length lsc, .slice lao laf.length lac, .int .i64 lcu, .bool rst, .bool rfi, .slice rbo rbe.length rbc, .slice rso rsr.length rsc, .slice rao raf.length rac, .int .i64 rcu]] w fun e w' =>
      e = .returned (.int .i64 (if zl ≠ 0 then zl else if zr ≠ 0 then zr else if (gl && !al && decide (rcu < 0)) = true then 0 else 8)) ∧ Below w.heap.size w w' := by
  have HA : Hid (∀ o, Below w.heap.size w (w.alloc o)) := fun o => (Below.refl _ w).alloc (Nat.le_refl _) o
  have HKc : Hid (R.RefCalls w _ _ _ _ zs zl zr nm pa gl gr al ar) := K
  obtain ⟨o, HO⟩ : ∃ o, Hid ((if zl ≠ 0 then zl else if zr ≠ 0 then zr else if (gl && !al && decide (rcu < 0)) = true then 0 else 8) = o) := ⟨_, rfl⟩
  rw [HO.out]
  clear K
  go_enter Tryd.func16, Tryd.ntmps16
  go_wp2_with fail
  refine (HKc.out.sl _ (HA.out _)).mono ?_
  rintro e w1 ⟨rfl, b1⟩
  obtain ⟨hb1, B1, hl1⟩ := R.box_kept b1
  have HB1 : Hid (Below w.heap.size w w1) := B1
  have HK1 : Hid _ := hb1
  clear b1 B1
  have q1_10 : w1.cell? ⟨w.heap.size, 10, none⟩ = some (.bool rst) := R.at_box hb1 rfl
  have q1_11 : w1.cell? ⟨w.heap.size, 11, none⟩ = some (.bool rfi) := R.at_box hb1 rfl
  have q1_12 : w1.cell? ⟨w.heap.size, 12, none⟩ = some (.slice rbo rbe.length rbc) := R.at_box hb1 rfl
  have q1_13 : w1.cell? ⟨w.heap.size, 13, none⟩ = some (.slice rso rsr.length rsc) := R.at_box hb1 rfl
  have q1_14 : w1.cell? ⟨w.heap.size, 14, none⟩ = some (.slice rao raf.length rac) := R.at_box hb1 rfl
  have q1_15 : w1.cell? ⟨w.heap.size, 15, none⟩ = some (.int .i64 rcu) := R.at_box hb1 rfl
  have q1_3 := R.at_box (i := 3) hb1 rfl
  clear hb1
  by_cases hz1 : zl = 0
  · subst hz1
    go_wp2_with fail
    refine (HKc.out.sr _ HB1.out).mono ?_
    rintro e w2 ⟨rfl, b2⟩
    have hb2 := R.box_below HK1.out b2
    have HB2 : Hid (Below w.heap.size w w2) := HB1.out.trans (b2.mono HB1.out.size)
    have HK2 : Hid _ := hb2
    clear b2
    clear q1_10 q1_11 q1_12 q1_13 q1_14 q1_15 q1_3
    have q2_3 := R.at_box (i := 3) hb2 rfl
    have q2_4 : w2.cell? ⟨w.heap.size, 4, none⟩ = some (.bool lst) := R.at_box hb2 rfl
    have q2_5 : w2.cell? ⟨w.heap.size, 5, none⟩ = some (.bool lfi) := R.at_box hb2 rfl
    have q2_6 : w2.cell? ⟨w.heap.size, 6, none⟩ = some (.slice lbo lbe.length lbc) := R.at_box hb2 rfl
    have q2_7 : w2.cell? ⟨w.heap.size, 7, none⟩ = some (.slice lso lsr.length lsc) := R.at_box hb2 rfl
    have q2_8 : w2.cell? ⟨w.heap.size, 8, none⟩ = some (.slice lao laf.length lac) := R.at_box hb2 rfl
    have q2_9 : w2.cell? ⟨w.heap.size, 9, none⟩ = some (.int .i64 lcu) := R.at_box hb2 rfl
    have q2_10 : w2.cell? ⟨w.heap.size, 10, none⟩ = some (.bool rst) := R.at_box hb2 rfl
    have q2_11 : w2.cell? ⟨w.heap.size, 11, none⟩ = some (.bool rfi) := R.at_box hb2 rfl
    have q2_12 : w2.cell? ⟨w.heap.size, 12, none⟩ = some (.slice rbo rbe.length rbc) := R.at_box hb2 rfl
    have q2_13 : w2.cell? ⟨w.heap.size, 13, none⟩ = some (.slice rso rsr.length rsc) := R.at_box hb2 rfl
    have q2_14 : w2.cell? ⟨w.heap.size, 14, none⟩ = some (.slice rao raf.length rac) := R.at_box hb2 rfl
    have q2_15 : w2.cell? ⟨w.heap.size, 15, none⟩ = some (.int .i64 rcu) := R.at_box hb2 rfl
    clear hb2
    by_cases hz2 : zr = 0
    · subst hz2
      go_wp2_with fail
      refine (HKc.out.gl (by trivial) _ HB2.out).mono ?_
      rintro e w3 ⟨rfl, b3⟩
      have hb3 := R.box_below HK2.out b3
      have HB3 : Hid (Below w.heap.size w w3) := HB2.out.trans (b3.mono HB2.out.size)
      have HK3 : Hid _ := hb3
      clear b3
      clear q2_3 q2_4 q2_5 q2_6 q2_7 q2_8 q2_9 q2_10 q2_11 q2_12 q2_13 q2_14 q2_15
      have q3_3 := R.at_box (i := 3) hb3 rfl
      have q3_4 : w3.cell? ⟨w.heap.size, 4, none⟩ = some (.bool lst) := R.at_box hb3 rfl
      have q3_5 : w3.cell? ⟨w.heap.size, 5, none⟩ = some (.bool lfi) := R.at_box hb3 rfl
      have q3_6 : w3.cell? ⟨w.heap.size, 6, none⟩ = some (.slice lbo lbe.length lbc) := R.at_box hb3 rfl
      have q3_7 : w3.cell? ⟨w.heap.size, 7, none⟩ = some (.slice lso lsr.length lsc) := R.at_box hb3 rfl
      have q3_8 : w3.cell? ⟨w.heap.size, 8, none⟩ = some (.slice lao laf.length lac) := R.at_box hb3 rfl
      have q3_9 : w3.cell? ⟨w.heap.size, 9, none⟩ = some (.int .i64 lcu) := R.at_box hb3 rfl
      have q3_10 : w3.cell? ⟨w.heap.size, 10, none⟩ = some (.bool rst) := R.at_box hb3 rfl
      have q3_11 : w3.cell? ⟨w.heap.size, 11, none⟩ = some (.bool rfi) := R.at_box hb3 rfl
      have q3_12 : w3.cell? ⟨w.heap.size, 12, none⟩ = some (.slice rbo rbe.length rbc) := R.at_box hb3 rfl
      have q3_13 : w3.cell? ⟨w.heap.size, 13, none⟩ = some (.slice rso rsr.length rsc) := R.at_box hb3 rfl
      have q3_14 : w3.cell? ⟨w.heap.size, 14, none⟩ = some (.slice rao raf.length rac) := R.at_box hb3 rfl
      have q3_15 : w3.cell? ⟨w.heap.size, 15, none⟩ = some (.int .i64 rcu) := R.at_box hb3 rfl
      clear hb3
      cases gl with
      | false =>
        go_wp2
        go_ret
        exact ⟨by rw [← HO.out]; simp, HB3.out⟩
      | true =>
        go_wp2_with fail
        refine (HKc.out.al _ HB3.out).mono ?_
        rintro e w4 ⟨rfl, b4⟩
        have hb4 := R.box_below HK3.out b4
        have HB4 : Hid (Below w.heap.size w w4) := HB3.out.trans (b4.mono HB3.out.size)
        have HK4 : Hid _ := hb4
        clear b4
        clear q3_3 q3_4 q3_5 q3_6 q3_7 q3_8 q3_9 q3_10 q3_11 q3_12 q3_13 q3_14 q3_15
        have q4_3 := R.at_box (i := 3) hb4 rfl
        have q4_9 : w4.cell? ⟨w.heap.size, 9, none⟩ = some (.int .i64 lcu) := R.at_box hb4 rfl
        have q4_15 : w4.cell? ⟨w.heap.size, 15, none⟩ = some (.int .i64 rcu) := R.at_box hb4 rfl
        clear hb4
        cases al with
        | true =>
          go_wp2
          go_ret
          exact ⟨by rw [← HO.out]; simp, HB4.out⟩
        | false =>
          by_cases hcu : rcu < 0
          · have hcd : decide (rcu < 0) = true := by simp; omega
            go_wp2
            all_goals go_ret
            all_goals exact ⟨by (rw [← HO.out]; simp [hcd]; try omega), HB4.out⟩
          · have hcd : decide (rcu < 0) = false := by simp; omega
            go_wp2
            all_goals go_ret
            all_goals exact ⟨by (rw [← HO.out]; simp [hcd]; try omega), HB4.out⟩
    · go_wp2
      go_ret
      exact ⟨by rw [← HO.out]; simp [hz2], HB2.out⟩
  · go_wp2
    go_ret
    exact ⟨by rw [← HO.out]; simp [hz1], HB1.out⟩

set_option maxHeartbeats 8000000 in
theorem refrule3 (w : World) (pn : ByteArray) (ps : List S.Sp) (lst lfi rst rfi : Bool) (lbe lsr laf rbe rsr raf : List R.Item) (lcu rcu : Int) (so lbo lso lao rbo rso rao : Option Addr) (sc lbc lsc lac rbc rsc rac : Nat) (zs zl zr : Int) (nm pa gl gr al ar : Bool)
    (K : R.RefCalls w ⟨2, pn, ps, 3, ⟨lst, lfi, lbe, lsr, laf, lcu⟩, ⟨rst, rfi, rbe, rsr, raf, rcu⟩⟩ (.slice so ps.length sc) (.agg #[.bool lst, .bool lfi, .slice lbo lbe.length lbc, .slice lso lsr.length lsc, .slice lao laf.length lac, .int .i64 lcu]) (.agg #[.bool rst, .bool rfi, .slice rbo rbe.length rbc, .slice rso rsr.length rsc, .slice rao raf.length rac, .int .i64 rcu]) zs zl zr nm pa gl gr al ar) :
    Calls Tryd.prog 16 #[.agg #[.int .i64 2, .string pn, .slice so ps.length sc, .int .i64 3, .bool lst, .bool lfi, .slice lbo lbe.length lbc, .slice lso lsr.length lsc, .slice lao laf.length lac, .int .i64 lcu, .bool rst, .bool rfi, .slice rbo rbe.length rbc, .slice rso rsr.length rsc, .slice rao raf.length rac, .int .i64 rcu]] w fun e w' =>
      e = .returned (.int .i64 (if zl ≠ 0 then zl else if zr ≠ 0 then zr else if (gl && gr) = true then 0 else 8)) ∧ Below w.heap.size w w' := by
  have HA : Hid (∀ o, Below w.heap.size w (w.alloc o)) := fun o => (Below.refl _ w).alloc (Nat.le_refl _) o
  have HKc : Hid (R.RefCalls w _ _ _ _ zs zl zr nm pa gl gr al ar) := K
  obtain ⟨o, HO⟩ : ∃ o, Hid ((if zl ≠ 0 then zl else if zr ≠ 0 then zr else if (gl && gr) = true then 0 else 8) = o) := ⟨_, rfl⟩
  rw [HO.out]
  clear K
  go_enter Tryd.func16, Tryd.ntmps16
  go_wp2_with fail
  refine (HKc.out.sl _ (HA.out _)).mono ?_
  rintro e w1 ⟨rfl, b1⟩
  obtain ⟨hb1, B1, hl1⟩ := R.box_kept b1
  have HB1 : Hid (Below w.heap.size w w1) := B1
  have HK1 : Hid _ := hb1
  clear b1 B1
  have q1_10 : w1.cell? ⟨w.heap.size, 10, none⟩ = some (.bool rst) := R.at_box hb1 rfl
  have q1_11 : w1.cell? ⟨w.heap.size, 11, none⟩ = some (.bool rfi) := R.at_box hb1 rfl
  have q1_12 : w1.cell? ⟨w.heap.size, 12, none⟩ = some (.slice rbo rbe.length rbc) := R.at_box hb1 rfl
  have q1_13 : w1.cell? ⟨w.heap.size, 13, none⟩ = some (.slice rso rsr.length rsc) := R.at_box hb1 rfl
  have q1_14 : w1.cell? ⟨w.heap.size, 14, none⟩ = some (.slice rao raf.length rac) := R.at_box hb1 rfl
  have q1_15 : w1.cell? ⟨w.heap.size, 15, none⟩ = some (.int .i64 rcu) := R.at_box hb1 rfl
  have q1_3 := R.at_box (i := 3) hb1 rfl
  clear hb1
  by_cases hz1 : zl = 0
  · subst hz1
    go_wp2_with fail
    refine (HKc.out.sr _ HB1.out).mono ?_
    rintro e w2 ⟨rfl, b2⟩
    have hb2 := R.box_below HK1.out b2
    have HB2 : Hid (Below w.heap.size w w2) := HB1.out.trans (b2.mono HB1.out.size)
    have HK2 : Hid _ := hb2
    clear b2
    clear q1_10 q1_11 q1_12 q1_13 q1_14 q1_15 q1_3
    have q2_3 := R.at_box (i := 3) hb2 rfl
    have q2_4 : w2.cell? ⟨w.heap.size, 4, none⟩ = some (.bool lst) := R.at_box hb2 rfl
    have q2_5 : w2.cell? ⟨w.heap.size, 5, none⟩ = some (.bool lfi) := R.at_box hb2 rfl
    have q2_6 : w2.cell? ⟨w.heap.size, 6, none⟩ = some (.slice lbo lbe.length lbc) := R.at_box hb2 rfl
    have q2_7 : w2.cell? ⟨w.heap.size, 7, none⟩ = some (.slice lso lsr.length lsc) := R.at_box hb2 rfl
    have q2_8 : w2.cell? ⟨w.heap.size, 8, none⟩ = some (.slice lao laf.length lac) := R.at_box hb2 rfl
    have q2_9 : w2.cell? ⟨w.heap.size, 9, none⟩ = some (.int .i64 lcu) := R.at_box hb2 rfl
    have q2_10 : w2.cell? ⟨w.heap.size, 10, none⟩ = some (.bool rst) := R.at_box hb2 rfl
    have q2_11 : w2.cell? ⟨w.heap.size, 11, none⟩ = some (.bool rfi) := R.at_box hb2 rfl
    have q2_12 : w2.cell? ⟨w.heap.size, 12, none⟩ = some (.slice rbo rbe.length rbc) := R.at_box hb2 rfl
    have q2_13 : w2.cell? ⟨w.heap.size, 13, none⟩ = some (.slice rso rsr.length rsc) := R.at_box hb2 rfl
    have q2_14 : w2.cell? ⟨w.heap.size, 14, none⟩ = some (.slice rao raf.length rac) := R.at_box hb2 rfl
    have q2_15 : w2.cell? ⟨w.heap.size, 15, none⟩ = some (.int .i64 rcu) := R.at_box hb2 rfl
    clear hb2
    by_cases hz2 : zr = 0
    · subst hz2
      go_wp2_with fail
      refine (HKc.out.gr (by trivial) _ HB2.out).mono ?_
      rintro e w3 ⟨rfl, b3⟩
      have hb3 := R.box_below HK2.out b3
      have HB3 : Hid (Below w.heap.size w w3) := HB2.out.trans (b3.mono HB2.out.size)
      have HK3 : Hid _ := hb3
      clear b3
      clear q2_3 q2_4 q2_5 q2_6 q2_7 q2_8 q2_9 q2_10 q2_11 q2_12 q2_13 q2_14 q2_15
      have q3_3 := R.at_box (i := 3) hb3 rfl
      have q3_4 : w3.cell? ⟨w.heap.size, 4, none⟩ = some (.bool lst) := R.at_box hb3 rfl
      have q3_5 : w3.cell? ⟨w.heap.size, 5, none⟩ = some (.bool lfi) := R.at_box hb3 rfl
      have q3_6 : w3.cell? ⟨w.heap.size, 6, none⟩ = some (.slice lbo lbe.length lbc) := R.at_box hb3 rfl
      have q3_7 : w3.cell? ⟨w.heap.size, 7, none⟩ = some (.slice lso lsr.length lsc) := R.at_box hb3 rfl
      have q3_8 : w3.cell? ⟨w.heap.size, 8, none⟩ = some (.slice lao laf.length lac) := R.at_box hb3 rfl
      have q3_9 : w3.cell? ⟨w.heap.size, 9, none⟩ = some (.int .i64 lcu) := R.at_box hb3 rfl
      have q3_10 : w3.cell? ⟨w.heap.size, 10, none⟩ = some (.bool rst) := R.at_box hb3 rfl
      have q3_11 : w3.cell? ⟨w.heap.size, 11, none⟩ = some (.bool rfi) := R.at_box hb3 rfl
      have q3_12 : w3.cell? ⟨w.heap.size, 12, none⟩ = some (.slice rbo rbe.length rbc) := R.at_box hb3 rfl
      have q3_13 : w3.cell? ⟨w.heap.size, 13, none⟩ = some (.slice rso rsr.length rsc) := R.at_box hb3 rfl
      have q3_14 : w3.cell? ⟨w.heap.size, 14, none⟩ = some (.slice rao raf.length rac) := R.at_box hb3 rfl
      have q3_15 : w3.cell? ⟨w.heap.size, 15, none⟩ = some (.int .i64 rcu) := R.at_box hb3 rfl
      clear hb3
      cases gr with
      | false =>
        go_wp2
        go_ret
        exact ⟨by rw [← HO.out]; simp, HB3.out⟩
      | true =>
        go_wp2_with fail
        refine (HKc.out.gl (by trivial) _ HB3.out).mono ?_
        rintro e w4 ⟨rfl, b4⟩
        have hb4 := R.box_below HK3.out b4
        have HB4 : Hid (Below w.heap.size w w4) := HB3.out.trans (b4.mono HB3.out.size)
        have HK4 : Hid _ := hb4
        clear b4
        clear q3_3 q3_4 q3_5 q3_6 q3_7 q3_8 q3_9 q3_10 q3_11 q3_12 q3_13 q3_14 q3_15
        have q4_3 := R.at_box (i := 3) hb4 rfl
        clear hb4
        cases gl with
        | false =>
          go_wp2
          go_ret
          exact ⟨by rw [← HO.out]; simp, HB4.out⟩
        | true =>
          go_wp2
          go_ret
          exact ⟨by rw [← HO.out]; simp, HB4.out⟩
    · go_wp2
      go_ret
      exact ⟨by rw [← HO.out]; simp [hz2], HB2.out⟩
  · go_wp2
    go_ret
    exact ⟨by rw [← HO.out]; simp [hz1], HB1.out⟩

theorem R.RefCalls.of {w : World} {p : R.Part} {so lbo lso lao rbo rso rao : Option Addr} {sc lbc lsc lac rbc rsc rac : Nat} (hS : S.Rd w (.slice so p.set.length sc) p.set) (hf : S.Fit p.set)
    (hL : R.SdIs w (.agg #[.bool p.left.start, .bool p.left.fin, .slice lbo p.left.before.length lbc, .slice lso p.left.source.length lsc, .slice lao p.left.after.length lac, .int .i64 p.left.cursor]) p.left) (hR : R.SdIs w (.agg #[.bool p.right.start, .bool p.right.fin, .slice rbo p.right.before.length rbc, .slice rso p.right.source.length rsc, .slice rao p.right.after.length rac, .int .i64 p.right.cursor]) p.right) (hn : p.name.size ≤ 140737488355328) :
    R.RefCalls w p (.slice so p.set.length sc) (.agg #[.bool p.left.start, .bool p.left.fin, .slice lbo p.left.before.length lbc, .slice lso p.left.source.length lsc, .slice lao p.left.after.length lac, .int .i64 p.left.cursor]) (.agg #[.bool p.right.start, .bool p.right.fin, .slice rbo p.right.before.length rbc, .slice rso p.right.source.length rsc, .slice rao p.right.after.length rac, .int .i64 p.right.cursor]) (S.wrongE p.set) (R.sideE p.left (decide (p.dir ≠ 2))) (R.sideE p.right (decide (p.dir ≠ 1))) (R.named p.name) (R.passes p.name) (R.gives p.left) (R.gives p.right) (R.around p.left) (R.around p.right) :=
  ⟨fun w1 hb => refwrong_any w1 _ p.set (hS.below hb (Nat.le_refl _)) hf, fun w1 => rnamed_any _ _ hn, fun w1 => rpass_any _ _, fun w1 hb => rsides_later hL w1 _ hb, fun w1 hb => rsides_later hR w1 _ hb,
    fun h w1 hb => rplain_later hL (src_le h) w1 hb, fun h w1 hb => rplain_later hR (src_le h) w1 hb, raround_later hL, raround_later hR⟩

set_option maxHeartbeats 8000000 in
theorem rPart_any (w : World) (v : Value) (p : R.Part) (R0 : R.PtIs w v p) :
    Calls Tryd.prog 16 #[v] w fun e w' => e = .returned (.int .i64 (R.partE p)) ∧ Below w.heap.size w w' := by
  obtain ⟨so, sc, lbo, lbc, lso, lsc, lao, lac, rbo, rbc, rso, rsc, rao, rac, rfl, hS, hf, hL, hR, hn, _⟩ := R0.open
  have HKc : Hid (R.RefCalls w p (.slice so p.set.length sc) (.agg #[.bool p.left.start, .bool p.left.fin, .slice lbo p.left.before.length lbc, .slice lso p.left.source.length lsc, .slice lao p.left.after.length lac, .int .i64 p.left.cursor]) (.agg #[.bool p.right.start, .bool p.right.fin, .slice rbo p.right.before.length rbc, .slice rso p.right.source.length rsc, .slice rao p.right.after.length rac, .int .i64 p.right.cursor]) (S.wrongE p.set) (R.sideE p.left (decide (p.dir ≠ 2))) (R.sideE p.right (decide (p.dir ≠ 1))) (R.named p.name) (R.passes p.name) (R.gives p.left) (R.gives p.right) (R.around p.left) (R.around p.right)) := R.RefCalls.of hS hf hL hR hn
  clear R0 hS hf hL hR hn
  have HA : Hid (∀ o, Below w.heap.size w (w.alloc o)) := fun o => (Below.refl _ w).alloc (Nat.le_refl _) o
  obtain ⟨o, HO⟩ : ∃ o, Hid (R.partE p = o) := ⟨_, rfl⟩
  rw [HO.out]
  obtain ⟨pk, pn, ps, pd, ⟨lst, lfi, lbe, lsr, laf, lcu⟩, ⟨rst, rfi, rbe, rsr, raf, rcu⟩⟩ := p
  simp only at HKc ⊢
  by_cases h2 : pk = 2
  · subst h2
    by_cases hd : pd = 1 ∨ pd = 2 ∨ pd = 3
    · rcases hd with rfl | rfl | rfl
      · refine (refrule1 w _ _ _ _ _ _ _ _ _ _ _ _ _ _ _ _ _ _ _ _ _ _ _ _ _ _ _ _ _ _ _ _ _ _ _ _ _ HKc.out).mono ?_
        rintro e w' ⟨rfl, hb⟩
        refine ⟨?_, hb⟩
        rw [← HO.out]
        simp only [R.partE, R.ruleE, R.fits]
        rfl
      · refine (refrule2 w _ _ _ _ _ _ _ _ _ _ _ _ _ _ _ _ _ _ _ _ _ _ _ _ _ _ _ _ _ _ _ _ _ _ _ _ _ HKc.out).mono ?_
        rintro e w' ⟨rfl, hb⟩
        refine ⟨?_, hb⟩
        rw [← HO.out]
        simp only [R.partE, R.ruleE, R.fits]
        rfl
      · refine (refrule3 w _ _ _ _ _ _ _ _ _ _ _ _ _ _ _ _ _ _ _ _ _ _ _ _ _ _ _ _ _ _ _ _ _ _ _ _ _ HKc.out).mono ?_
        rintro e w' ⟨rfl, hb⟩
        refine ⟨?_, hb⟩
        rw [← HO.out]
        simp only [R.partE, R.ruleE, R.fits]
        rfl
    · have HE : Hid ((1 : Int) = o) := by
        show _ = _
        rw [← HO.out]
        simp only [R.partE, R.ruleE]
        simp
        omega
      by_cases hlo : pd < 1
      · go_enter Tryd.func16, Tryd.ntmps16
        go_wp2
        go_ret
        exact ⟨by rw [← HE.out]; rfl, HA.out _⟩
      · have hhi : 3 < pd := by omega
        go_enter Tryd.func16, Tryd.ntmps16
        go_wp2
        go_ret
        exact ⟨by rw [← HE.out]; rfl, HA.out _⟩
  · by_cases h1 : pk = 1
    · subst h1
      cases hn : R.named pn with
      | true =>
        have HN : Hid (R.named pn = true) := hn
        rw [hn] at HKc
        clear hn
        go_enter Tryd.func16, Tryd.ntmps16
        go_wp2_with fail
        refine (HKc.out.nam _).mono ?_
        rintro e w1 ⟨rfl, b1⟩
        obtain ⟨hb1, B1, hl1⟩ := R.box_kept b1
        have q0 := R.at_box (i := 0) hb1 rfl
        have q1 := R.at_box (i := 1) hb1 rfl
        have q2 := R.at_box (i := 2) hb1 rfl
        have HB1 : Hid (Below w.heap.size w w1) := B1
        clear b1 B1 hb1
        go_wp2_with fail
        refine (HKc.out.wr _ HB1.out).mono ?_
        rintro e w2 ⟨rfl, b2⟩
        have HB2 : Hid (Below w.heap.size w w2) := HB1.out.trans (b2.mono HB1.out.size)
        clear b2
        go_wp2
        go_ret
        exact ⟨by rw [← HO.out]; simp [R.partE, HN.out], HB2.out⟩
      | false =>
        have HN : Hid (R.named pn = false) := hn
        rw [hn] at HKc
        clear hn
        go_enter Tryd.func16, Tryd.ntmps16
        go_wp2_with fail
        refine (HKc.out.nam _).mono ?_
        rintro e w1 ⟨rfl, b1⟩
        obtain ⟨hb1, B1, hl1⟩ := R.box_kept b1
        have q0 := R.at_box (i := 0) hb1 rfl
        have q1 := R.at_box (i := 1) hb1 rfl
        have HB1 : Hid (Below w.heap.size w w1) := B1
        clear b1 B1 hb1
        go_wp2
        go_ret
        exact ⟨by rw [← HO.out]; simp [R.partE, HN.out], HB1.out⟩
    · by_cases h3 : pk = 3
      · subst h3
        go_enter Tryd.func16, Tryd.ntmps16
        go_wp2_with fail
        refine (HKc.out.wr _ (HA.out _)).mono ?_
        rintro e w2 ⟨rfl, b2⟩
        obtain ⟨_, B2, _⟩ := R.box_kept b2
        have HB2 : Hid (Below w.heap.size w w2) := B2
        clear b2 B2
        go_wp2
        go_ret
        exact ⟨by rw [← HO.out]; simp [R.partE], HB2.out⟩
      · by_cases h4 : pk = 4
        · subst h4
          cases hn : R.passes pn with
          | true =>
            have HN : Hid (R.passes pn = true) := hn
            rw [hn] at HKc
            clear hn
            go_enter Tryd.func16, Tryd.ntmps16
            go_wp2_with (go_at_call 29; refine (HKc.out.pas _).mono ?_; rintro e w1 ⟨rfl, rfl⟩)
            go_ret
            exact ⟨by rw [← HO.out]; simp [R.partE, HN.out], HA.out _⟩
          | false =>
            have HN : Hid (R.passes pn = false) := hn
            rw [hn] at HKc
            clear hn
            go_enter Tryd.func16, Tryd.ntmps16
            go_wp2_with (go_at_call 29; refine (HKc.out.pas _).mono ?_; rintro e w1 ⟨rfl, rfl⟩)
            go_ret
            exact ⟨by rw [← HO.out]; simp [R.partE, HN.out], HA.out _⟩
        · by_cases hlo : pk < 1
          · go_enter Tryd.func16, Tryd.ntmps16
            go_wp2
            go_ret
            exact ⟨by rw [← HO.out]; simp [R.partE, h1, h2, h3, h4], HA.out _⟩
          · have hhi : 4 < pk := by omega
            go_enter Tryd.func16, Tryd.ntmps16
            go_wp2
            go_ret
            exact ⟨by rw [← HO.out]; simp [R.partE, h1, h2, h3, h4], HA.out _⟩

set_option maxHeartbeats 4000000 in
theorem rWrong_any (w : World) (v : Value) (l : List R.Part) (R0 : R.Pts w v l) :
    Calls Tryd.prog 7 #[v] w fun e w' => e = .returned (.agg #[.int .i64 (R.wrong l).1, .int .i64 (R.wrong l).2]) ∧ Below w.heap.size w w' := by
  have HR : Hid (R.Pts w v l) := R0
  obtain ⟨ao, cap, rfl⟩ := R0.len
  clear R0
  have HA : Hid (∀ o, Below w.heap.size w (w.alloc o)) := fun o => (Below.refl _ w).alloc (Nat.le_refl _) o
  unfold R.wrong
  by_cases hbig : 200 < l.length
  · rw [if_pos hbig]
    go_enter Tryd.func7, Tryd.ntmps7
    go_wp2
    refine bodyPost_ret (v := .agg #[.int .i64 5, .int .i64 0]) (by simp [results, Tryd.results7, go_sem]) rfl ?_
    exact ⟨rfl, HA.out _⟩
  · rw [if_neg hbig]
    obtain ⟨⟨o1, o2⟩, HO⟩ : ∃ o, Hid (R.firstW 0 l = o) := ⟨_, rfl⟩
    rw [HO.out]
    go_enter Tryd.func7, Tryd.ntmps7
    go_wp2
    go_loopw [11] (fun i wr => ∃ k : Nat, k ≤ l.length ∧ i = .int .i64 k ∧ Hid (R.firstW k (l.drop k) = (o1, o2)) ∧ Hid (Below w.heap.size w wr) ∧ Hid (wr.heap[w.heap.size]? = some (.cells #[.int .i64 0, .int .i64 0] 25))) (fun i _ => l.length - (intOf i).toNat)
    case atStart => exact ⟨0, Nat.zero_le _, rfl, HO, HA.out _, heap_alloc_new w _⟩
    case round =>
      obtain ⟨k, hk, rfl, HE, HB, HX⟩ := hrel
      have hX := HX.out
      by_cases hlt : k < l.length
      · obtain ⟨p, hp⟩ : ∃ x, l[k]? = some x := ⟨l[k], by simp [hlt]⟩
        obtain ⟨ao', cap', e', hcs⟩ := HR.out.below HB.out
        cases e'
        obtain ⟨b, off, rfl, hcell⟩ := hcs (by intro h; subst h; simp at hlt)
        obtain ⟨so, sc, lbo, lbc, lso, lsc, lao, lac, rbo, rbc, rso, rsc, rao, rac, c0, c1, c2, c3, c4, c5, c6, c7, c8, c9, c10, c11, c12, c13, c14, c15, hP⟩ := hcell k p hp
        have HE2 : Hid (R.firstW k (l.drop k) = if R.partE p = 0 then R.firstW (k + 1) (l.drop (k + 1)) else (R.partE p, k)) := R.firstW_drop hp
        have hsz := HB.out.size
        have HW : Hid (Calls Tryd.prog 16 #[.agg #[.int .i64 p.kind, .string p.name, .slice so p.set.length sc, .int .i64 p.dir, .bool p.left.start, .bool p.left.fin, .slice lbo p.left.before.length lbc, .slice lso p.left.source.length lsc, .slice lao p.left.after.length lac, .int .i64 p.left.cursor, .bool p.right.start, .bool p.right.fin, .slice rbo p.right.before.length rbc, .slice rso p.right.source.length rsc, .slice rao p.right.after.length rac, .int .i64 p.right.cursor]] wr fun e w' => e = .returned (.int .i64 (R.partE p)) ∧ Below wr.heap.size wr w') := rPart_any _ _ p hP
        obtain ⟨z, HZ⟩ : ∃ z, Hid (R.partE p = z) := ⟨_, rfl⟩
        rw [HZ.out] at HW HE2
        clear hp hcell hcs hP hX
        obtain ⟨pk, pn, ps, pd, ⟨lst, lfi, lbe, lsr, laf, lcu⟩, ⟨rst, rfi, rbe, rsr, raf, rcu⟩⟩ := p
        simp only at c0 c1 c2 c3 c4 c5 c6 c7 c8 c9 c10 c11 c12 c13 c14 c15 HW
        go_wp2_with fail
        refine HW.out.mono ?_
        rintro e w1 ⟨rfl, b1⟩
        have B1 := b1
        have hX1 : w1.heap[w.heap.size]? = some (.cells #[.int .i64 0, .int .i64 0] 25) := by
          rw [B1.block _ (Array.getElem?_eq_some_iff.1 HX.out).1]; exact HX.out
        have HB1 : Hid (Below w.heap.size w w1) := HB.out.trans (B1.mono hsz)
        have HX1 : Hid _ := hX1
        obtain ⟨x0, x1, f0, f1⟩ := R.box2 hX1
        clear b1 B1 hX1
        by_cases hz : z = 0
        · subst hz
          go_wp2
          go_roundw
          case rel => exact ⟨k + 1, by omega, by go_num, by show _ = _; rw [← HE.out, HE2.out]; simp, HB1, HX1⟩
          case measure => simp [intOf]; omega
        · go_wp2
          refine bodyPost_ret (v := .agg #[.int .i64 z, .int .i64 k]) (by simp [results, Tryd.results7, go_sem, *]) rfl ?_
          have h := HE2.out
          rw [HE.out, if_neg hz] at h
          cases h
          exact ⟨rfl, (HB1.out.setCell (p := ⟨w.heap.size, 0, none⟩) (Nat.le_refl _) _).setCell (p := ⟨w.heap.size, 1, none⟩) (Nat.le_refl _) _⟩
      · obtain ⟨x0, x1, f0, f1⟩ := R.box2 hX
        have h := HE.out
        rw [List.drop_eq_nil_of_le (by omega)] at h
        cases h
        go_wp2
        refine bodyPost_ret (v := .agg #[.int .i64 0, .int .i64 0]) (by simp [results, Tryd.results7, go_sem, *]) rfl ?_
        exact ⟨rfl, (HB.out.setCell (p := ⟨w.heap.size, 0, none⟩) (Nat.le_refl _) _).setCell (p := ⟨w.heap.size, 1, none⟩) (Nat.le_refl _) _⟩

end Go.Proofs.YtafkfnkcabahnaaDoor
