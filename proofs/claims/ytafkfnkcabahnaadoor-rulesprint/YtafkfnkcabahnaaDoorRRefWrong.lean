/-
  What is wrong with items and sides: the document's answers.
-/
import Derived.Test.YtafkfnkcabahnaaDoorRRefName
import Derived.Test.YtafkfnkcabahnaaDoorRWrong2
import Derived.Test.YtafkfnkcabahnaaDoorSRefWrong
import Derived.Test.YtafkfnkcabahnaaDoorTRefQuote
namespace Go.Proofs.YtafkfnkcabahnaaDoor
open Go.RowKit
set_option maxRecDepth 20000
set_option linter.unusedSimpArgs false
set_option linter.unusedVariables false

set_option maxHeartbeats 2000000 in
theorem rItem_any (w : World) (x : R.Item) (so : Option Addr) (sc : Nat) (R0 : S.Rd w (.slice so x.set.length sc) x.set) (hf : S.Fit x.set) (hn : x.name.size ≤ 140737488355328) :
    Calls Tryd.prog 52 #[.agg #[.int .i64 x.kind, .int .i32 x.rune, .slice so x.set.length sc, .string x.name]] w fun e w' => e = .returned (.int .i64 (R.itemE x)) ∧ Below w.heap.size w w' := by
  obtain ⟨k, r, s, n⟩ := x
  simp only at R0 hf hn ⊢
  have HA : Hid (∀ o, Below w.heap.size w (w.alloc o)) := fun o => (Below.refl _ w).alloc (Nat.le_refl _) o
  have HW : Hid (∀ o, Calls Tryd.prog 21 #[.slice so s.length sc] (w.alloc o) fun e w' => e = .returned (.int .i64 (S.wrongE s)) ∧ Below w.heap.size w w') := fun o => by
    refine (refwrong_any _ _ s (R.rd_keeps R0 (R.Keeps.alloc w o)) hf).mono ?_
    rintro e w' ⟨h1, h2⟩
    exact ⟨h1, (HA.out o).trans (h2.mono (by simp))⟩
  have HN : Hid (∀ o, Calls Tryd.prog 28 #[.string n] (w.alloc o) fun e w' => e = .returned (.bool (R.named n)) ∧ Below w.heap.size w w') := fun o => by
    refine (rnamed_any n _ hn).mono ?_
    rintro e w' ⟨h1, h2⟩
    exact ⟨h1, (HA.out o).trans (h2.mono (by simp))⟩
  obtain ⟨o, HO⟩ : ∃ o, Hid (R.itemE ⟨k, r, s, n⟩ = o) := ⟨_, rfl⟩
  rw [HO.out]
  clear R0 hf
  by_cases h1 : k = 1
  · subst h1
    cases hr : M.right r with
    | true =>
      have HR : Hid (M.right r = true) := hr
      clear hr
      go_enter Tryd.func52, Tryd.ntmps52
      go_wp2_with (go_at_call 37; refine (refright_any _ _).mono ?_; rintro e w1 ⟨rfl, rfl⟩; rw [HR.out])
      go_ret
      exact ⟨by rw [← HO.out]; simp [R.itemE, HR.out], HA.out _⟩
    | false =>
      have HR : Hid (M.right r = false) := hr
      clear hr
      go_enter Tryd.func52, Tryd.ntmps52
      go_wp2_with (go_at_call 37; refine (refright_any _ _).mono ?_; rintro e w1 ⟨rfl, rfl⟩; rw [HR.out])
      go_ret
      exact ⟨by rw [← HO.out]; simp [R.itemE, HR.out], HA.out _⟩
  · by_cases h2 : k = 2
    · subst h2
      go_enter Tryd.func52, Tryd.ntmps52
      go_wp2_with (go_at_call 21; refine (HW.out _).mono ?_; rintro e w1 ⟨rfl, b1⟩)
      go_ret
      exact ⟨by rw [← HO.out]; simp [R.itemE], b1⟩
    · by_cases h3 : k = 3
      · subst h3
        cases hr : R.named n with
        | true =>
          have HR : Hid (R.named n = true) := hr
          clear hr
          go_enter Tryd.func52, Tryd.ntmps52
          go_wp2_with fail
          refine (rnamed_any n _ hn).mono ?_
          rintro e w1 ⟨rfl, b1⟩
          obtain ⟨hb1, B1, hl1⟩ := R.box_kept b1
          have q0 := R.at_box (i := 0) hb1 rfl
          have HB1 : Hid (Below w.heap.size w w1) := B1
          rw [HR.out]
          clear b1 hb1 B1
          go_wp2
          go_ret
          exact ⟨by rw [← HO.out]; simp [R.itemE, HR.out], HB1.out⟩
        | false =>
          have HR : Hid (R.named n = false) := hr
          clear hr
          go_enter Tryd.func52, Tryd.ntmps52
          go_wp2_with (go_at_call 28; refine (HN.out _).mono ?_; rintro e w1 ⟨rfl, b1⟩; rw [HR.out])
          go_ret
          exact ⟨by rw [← HO.out]; simp [R.itemE, HR.out], b1⟩
      · by_cases hk : k < 1
        · go_enter Tryd.func52, Tryd.ntmps52
          go_wp2
          go_ret
          exact ⟨by rw [← HO.out]; simp [R.itemE, h1, h2, h3], HA.out _⟩
        · have hk3 : 3 < k := by omega
          go_enter Tryd.func52, Tryd.ntmps52
          go_wp2
          go_ret
          exact ⟨by rw [← HO.out]; simp [R.itemE, h1, h2, h3], HA.out _⟩

set_option maxHeartbeats 2000000 in
theorem rItems_any (w : World) (v : Value) (l : List R.Item) (R0 : R.Its w v l) :
    Calls Tryd.prog 46 #[v] w fun e w' => e = .returned (.int .i64 (R.itemsE l)) ∧ Below w.heap.size w w' := by
  have HR : Hid (R.Its w v l) := R0
  obtain ⟨ao, cap, rfl, _⟩ := R0
  unfold R.itemsE
  by_cases hbig : 20 < l.length
  · rw [if_pos hbig]
    go_enter Tryd.func46, Tryd.ntmps46
    go_wp2
    go_ret
    exact ⟨rfl, Below.refl _ w⟩
  · rw [if_neg hbig]
    obtain ⟨o, HO⟩ : ∃ o, Hid (R.firstE (l.map R.itemE) = o) := ⟨_, rfl⟩
    rw [HO.out]
    go_enter Tryd.func46, Tryd.ntmps46
    go_wp2
    go_loopw [11] (fun i wr => ∃ k : Nat, k ≤ l.length ∧ i = .int .i64 k ∧ Hid (R.firstE ((l.drop k).map R.itemE) = o) ∧ Hid (Below w.heap.size w wr)) (fun i _ => l.length - (intOf i).toNat)
    case atStart => exact ⟨0, Nat.zero_le _, rfl, HO, Below.refl _ w⟩
    case round =>
      obtain ⟨k, hk, rfl, HE, HB⟩ := hrel
      by_cases hlt : k < l.length
      · obtain ⟨x, hx⟩ : ∃ x, l[k]? = some x := ⟨l[k], by simp [hlt]⟩
        obtain ⟨ao', cap', e', hcs⟩ := HR.out.below HB.out
        cases e'
        obtain ⟨b, off, rfl, hcell⟩ := hcs (by intro h; subst h; simp at hlt)
        obtain ⟨c0, c1, c3, ⟨so, sc, c2, r2⟩, hf, hnm⟩ := hcell k x hx
        have HE2 : Hid _ := R.itemsE_drop hx
        have hsz := HB.out.size
        have HW : Hid (∀ o, Calls Tryd.prog 52 #[.agg #[.int .i64 x.kind, .int .i32 x.rune, .slice so x.set.length sc, .string x.name]] (wr.alloc o) fun e w' => e = .returned (.int .i64 (R.itemE x)) ∧ Below w.heap.size w w') := fun o => by
          refine (rItem_any _ x so sc (R.rd_keeps r2 (R.Keeps.alloc wr o)) hf hnm).mono ?_
          rintro e w' ⟨h1, h2⟩
          exact ⟨h1, (HB.out.alloc hsz o).trans (h2.mono (by simp; omega))⟩
        obtain ⟨z, HZ⟩ : ∃ z, Hid (R.itemE x = z) := ⟨_, rfl⟩
        rw [HZ.out] at HW HE2
        clear hx hcell hcs r2 hf
        obtain ⟨xk, xr, xs, xn⟩ := x
        simp only at c0 c1 c2 c3 HW
        go_wp2_with fail
        refine (HW.out _).mono ?_
        rintro e w1 ⟨rfl, b1⟩
        by_cases hz : z = 0
        · subst hz
          go_wp2
          go_roundw
          case rel => exact ⟨k + 1, by omega, by go_num, by show _ = _; rw [← HE.out, HE2.out]; simp, b1⟩
          case measure => simp [intOf]; omega
        · go_wp2
          go_ret
          exact ⟨by rw [← HE.out, HE2.out]; simp [hz], b1⟩
      · have hke : k = l.length := by omega
        go_wp2
        go_ret
        refine ⟨?_, HB.out⟩
        rw [← HE.out, List.drop_eq_nil_of_le (by omega)]; rfl

set_option maxHeartbeats 2000000 in
theorem rAround_any (w : World) (v : Value) (s : R.Side) (R0 : R.SdIs w v s) :
    Calls Tryd.prog 32 #[v] w fun e w' => e = .returned (.bool (R.around s)) ∧ Below w.heap.size w w' := by
  obtain ⟨bo, bc, so, sc, ao, ac, rfl, _⟩ := R0
  obtain ⟨st, fi, be, sr, af, cu⟩ := s
  unfold R.around
  simp only
  have HA : Hid (∀ o, Below w.heap.size w (w.alloc o)) := fun o => (Below.refl _ w).alloc (Nat.le_refl _) o
  cases st with
  | true =>
    go_enter Tryd.func32, Tryd.ntmps32
    go_wp2
    go_ret
    exact ⟨by simp, HA.out _⟩
  | false =>
    cases fi with
    | true =>
      go_enter Tryd.func32, Tryd.ntmps32
      go_wp2
      go_ret
      exact ⟨by simp, HA.out _⟩
    | false =>
      by_cases h : 0 < be.length
      · go_enter Tryd.func32, Tryd.ntmps32
        go_wp2
        go_ret
        exact ⟨by simp [h], HA.out _⟩
      · go_enter Tryd.func32, Tryd.ntmps32
        go_wp2
        go_ret
        exact ⟨L.ret_bool (by simp [h]), HA.out _⟩

set_option maxHeartbeats 2000000 in
theorem rPlain_any (w : World) (v : Value) (s : R.Side) (R0 : R.SdIs w v s) (hl : s.source.length ≤ 20) :
    Calls Tryd.prog 31 #[v] w fun e w' => e = .returned (.bool (R.gives s)) ∧ Below w.heap.size w w' := by
  obtain ⟨bo, bc, so, sc, ao, ac, rfl, _, hI, _⟩ := R0
  obtain ⟨st, fi, be, l, af, cu⟩ := s
  simp only at hI hl ⊢
  have HI : Hid (R.Its w (.slice so l.length sc) l) := hI
  clear hI
  have HA : Hid (∀ o, Below w.heap.size w (w.alloc o)) := fun o => (Below.refl _ w).alloc (Nat.le_refl _) o
  obtain ⟨o, HO⟩ : ∃ o, Hid (l.all (fun x => decide (x.kind = 1)) = o) := ⟨_, rfl⟩
  have hgo : R.gives ⟨st, fi, be, l, af, cu⟩ = o := HO.out
  rw [hgo]
  clear hgo
  go_enter Tryd.func31, Tryd.ntmps31
  go_wp2
  go_loopw [8] (fun i wr => ∃ k : Nat, k ≤ l.length ∧ i = .int .i64 k ∧ Hid ((l.drop k).all (fun x => decide (x.kind = 1)) = o) ∧ Hid (Below w.heap.size w wr)) (fun i _ => l.length - (intOf i).toNat)
  case atStart => exact ⟨0, Nat.zero_le _, rfl, HO, HA.out _⟩
  case round =>
    obtain ⟨k, hk, rfl, HE, HB⟩ := hrel
    by_cases hlt : k < l.length
    · obtain ⟨x, hx⟩ : ∃ x, l[k]? = some x := ⟨l[k], by simp [hlt]⟩
      obtain ⟨ao', cap', e', hcs⟩ := HI.out.below HB.out
      cases e'
      obtain ⟨b, off, rfl, hcell⟩ := hcs (by intro h; subst h; simp at hlt)
      obtain ⟨c0, c1, c3, ⟨so, sc, c2, r2⟩, hf, _⟩ := hcell k x hx
      have HE2 : Hid ((l.drop k).all (fun x => decide (x.kind = 1)) = (decide (x.kind = 1) && (l.drop (k + 1)).all (fun x => decide (x.kind = 1)))) := by
        show _ = _
        rw [List.drop_eq_getElem_cons hlt]
        have : l[k] = x := by rw [List.getElem?_eq_getElem hlt] at hx; exact Option.some.inj hx
        rw [this]; rfl
      have hsz := HB.out.size
      have HB2 : Hid (∀ o, Below w.heap.size w (wr.alloc o)) := fun o => HB.out.alloc hsz o
      clear hx hcell hcs r2 hf
      obtain ⟨xk, xr, xs, xn⟩ := x
      simp only at c0 c1 c2 c3
      by_cases hz : xk = 1
      · subst hz
        go_wp2
        go_roundw
        case rel => exact ⟨k + 1, by omega, by go_num, by show _ = _; rw [← HE.out, HE2.out]; simp, HB2.out _⟩
        case measure => simp [intOf]; omega
      · go_wp2
        go_ret
        exact ⟨L.ret_bool (by rw [← HE.out, HE2.out]; simp [hz]), HB2.out _⟩
    · go_wp2
      go_ret
      refine ⟨L.ret_bool ?_, HB.out⟩
      rw [← HE.out, List.drop_eq_nil_of_le (by omega)]; rfl

/-- what items answer in any later world -/
theorem ritems_later {w : World} {v : Value} {l : List R.Item} (R0 : R.Its w v l) : ∀ w1, Below w.heap.size w w1 → Calls Tryd.prog 46 #[v] w1 fun e w' => e = .returned (.int .i64 (R.itemsE l)) ∧ Below w1.heap.size w1 w' := fun w1 hb => rItems_any w1 v l (R0.below hb)

set_option maxHeartbeats 4000000 in
theorem rSide_any (w : World) (v : Value) (s : R.Side) (m : Bool) (R0 : R.SdIs w v s) :
    Calls Tryd.prog 30 #[v, .bool m] w fun e w' => e = .returned (.int .i64 (R.sideE s m)) ∧ Below w.heap.size w w' := by
  obtain ⟨bo, bc, so, sc, ao, ac, rfl, hB, hS, hA, hcu⟩ := R0
  have HIb : Hid (∀ w1, Below w.heap.size w w1 → Calls Tryd.prog 46 #[.slice bo s.before.length bc] w1 fun e w' => e = .returned (.int .i64 (R.itemsE s.before)) ∧ Below w1.heap.size w1 w') := ritems_later hB
  have HIs : Hid (∀ w1, Below w.heap.size w w1 → Calls Tryd.prog 46 #[.slice so s.source.length sc] w1 fun e w' => e = .returned (.int .i64 (R.itemsE s.source)) ∧ Below w1.heap.size w1 w') := ritems_later hS
  have HIa : Hid (∀ w1, Below w.heap.size w w1 → Calls Tryd.prog 46 #[.slice ao s.after.length ac] w1 fun e w' => e = .returned (.int .i64 (R.itemsE s.after)) ∧ Below w1.heap.size w1 w') := ritems_later hA
  have HA : Hid (∀ o, Below w.heap.size w (w.alloc o)) := fun o => (Below.refl _ w).alloc (Nat.le_refl _) o
  clear hB hS hA
  obtain ⟨st, fi, be, sr, af, cu⟩ := s
  simp only at hcu HIb HIs HIa ⊢
  obtain ⟨o, HO⟩ : ∃ o, Hid (R.sideE ⟨st, fi, be, sr, af, cu⟩ m = o) := ⟨_, rfl⟩
  obtain ⟨zb, HZb⟩ : ∃ z, Hid (R.itemsE be = z) := ⟨_, rfl⟩
  obtain ⟨zs, HZs⟩ : ∃ z, Hid (R.itemsE sr = z) := ⟨_, rfl⟩
  obtain ⟨za, HZa⟩ : ∃ z, Hid (R.itemsE af = z) := ⟨_, rfl⟩
  have HE : Hid ((if zb ≠ 0 then zb else if zs ≠ 0 then zs else if za ≠ 0 then za else if cu < -1 ∨ (sr.length : Int) < cu then 3 else if m = true ∧ sr.length = 0 then 6 else 0) = o) := by
    show _ = _
    rw [← HO.out, ← HZb.out, ← HZs.out, ← HZa.out]; rfl
  rw [HO.out]
  rw [HZb.out] at HIb
  rw [HZs.out] at HIs
  rw [HZa.out] at HIa
  unfold R.I64 at hcu
  go_enter Tryd.func30, Tryd.ntmps30
  go_wp2_with fail
  refine (HIb.out _ (HA.out _)).mono ?_
  rintro e w1 ⟨rfl, b1⟩
  obtain ⟨hb1, B1, hl1⟩ := R.box_kept b1
  have HK1 : Hid _ := hb1
  have HB1 : Hid (Below w.heap.size w w1) := B1
  have q3 : w1.cell? ⟨w.heap.size, 3, none⟩ = some (.slice so sr.length sc) := by rw [Lib.cell_of_heap hb1]; rfl
  clear b1 hb1 B1
  by_cases hz1 : zb = 0
  · subst hz1
    go_wp2_with fail
    refine (HIs.out _ HB1.out).mono ?_
    rintro e w2 ⟨rfl, b2⟩
    have hb2 := R.box_below HK1.out b2
    have HK2 : Hid _ := hb2
    have HB2 : Hid (Below w.heap.size w w2) := HB1.out.trans (b2.mono HB1.out.size)
    have q4 : w2.cell? ⟨w.heap.size, 4, none⟩ = some (.slice ao af.length ac) := by rw [Lib.cell_of_heap hb2]; rfl
    clear b2 hb2 HK1 q3
    by_cases hz2 : zs = 0
    · subst hz2
      go_wp2_with fail
      refine (HIa.out _ HB2.out).mono ?_
      rintro e w3 ⟨rfl, b3⟩
      have hb3 := R.box_below HK2.out b3
      have HB3 : Hid (Below w.heap.size w w3) := HB2.out.trans (b3.mono HB2.out.size)
      have q5 : w3.cell? ⟨w.heap.size, 5, none⟩ = some (.int .i64 cu) := by rw [Lib.cell_of_heap hb3]; rfl
      have q3 : w3.cell? ⟨w.heap.size, 3, none⟩ = some (.slice so sr.length sc) := by rw [Lib.cell_of_heap hb3]; rfl
      clear b3 hb3 HK2 q4
      by_cases hz3 : za = 0
      · subst hz3
        have hs20 : sr.length ≤ 20 := (R.itemsE_zero.1 HZs.out).1
        have hcl := hcu.1
        have hcr := hcu.2
        by_cases hmx : cu = 9223372036854775807
        · have hwr : IntKind.i64.wrap (cu + 1) = -9223372036854775808 := by rw [hmx]; decide
          have HMX : Hid (cu = 9223372036854775807) := hmx
          have hc2 : (sr.length : Int) < cu := by omega
          have HCL : Hid (∀ P : Prop, (-1 ≤ cu → P) → P) := fun P h => h (by omega)
          clear hmx hcr hcu
          go_wp2
          go_ret
          exact ⟨by (rw [← HE.out, if_neg (by simp), if_neg (by simp), if_neg (by simp), if_pos (by omega)]; all_goals rfl), HB3.out⟩
        by_cases hc1 : cu < -1
        · have hc1' : cu + 1 < 0 := by omega
          go_wp2
          go_ret
          exact ⟨by (rw [← HE.out, if_neg (by simp), if_neg (by simp), if_neg (by simp), if_pos (by omega)]; all_goals rfl), HB3.out⟩
        · have hc1' : ¬ cu + 1 < 0 := by omega
          by_cases hc2 : (sr.length : Int) < cu
          · go_wp2
            go_ret
            exact ⟨by (rw [← HE.out, if_neg (by simp), if_neg (by simp), if_neg (by simp), if_pos (by omega)]; all_goals rfl), HB3.out⟩
          · cases m with
            | false =>
              go_wp2
              go_ret
              exact ⟨by (rw [← HE.out, if_neg (by simp), if_neg (by simp), if_neg (by simp), if_neg (by omega), if_neg (by simp)]; all_goals rfl), HB3.out⟩
            | true =>
              by_cases hn : sr.length = 0
              · have hn' : ((sr.length : Nat) : Int) = 0 := by omega
                go_wp2
                go_ret
                refine ⟨?_, HB3.out⟩
                rw [← HE.out, if_neg (by simp), if_neg (by simp), if_neg (by simp), if_neg (by omega), if_pos ⟨by trivial, hn⟩]
                all_goals rfl
              · have hn' : ¬ ((sr.length : Nat) : Int) = 0 := by omega
                go_wp2
                go_ret
                refine ⟨?_, HB3.out⟩
                rw [← HE.out, if_neg (by simp), if_neg (by simp), if_neg (by simp), if_neg (by omega), if_neg (by omega)]
                all_goals rfl
      · go_wp2
        go_ret
        exact ⟨by rw [← HE.out]; simp [hz3], HB3.out⟩
    · go_wp2
      go_ret
      exact ⟨by rw [← HE.out]; simp [hz2], HB2.out⟩
  · go_wp2
    go_ret
    exact ⟨by rw [← HE.out]; simp [hz1], HB1.out⟩

theorem rsides_later {w : World} {v : Value} {s : R.Side} (R0 : R.SdIs w v s) : ∀ w1 m, Below w.heap.size w w1 → Calls Tryd.prog 30 #[v, .bool m] w1 fun e w' => e = .returned (.int .i64 (R.sideE s m)) ∧ Below w1.heap.size w1 w' := fun w1 m hb => rSide_any w1 v s m (R0.below hb)
theorem rplain_later {w : World} {v : Value} {s : R.Side} (R0 : R.SdIs w v s) (hl : s.source.length ≤ 20) : ∀ w1, Below w.heap.size w w1 → Calls Tryd.prog 31 #[v] w1 fun e w' => e = .returned (.bool (R.gives s)) ∧ Below w1.heap.size w1 w' := fun w1 hb => rPlain_any w1 v s (R0.below hb) hl
theorem raround_later {w : World} {v : Value} {s : R.Side} (R0 : R.SdIs w v s) : ∀ w1, Below w.heap.size w w1 → Calls Tryd.prog 32 #[v] w1 fun e w' => e = .returned (.bool (R.around s)) ∧ Below w1.heap.size w1 w' := fun w1 hb => rAround_any w1 v s (R0.below hb)


end Go.Proofs.YtafkfnkcabahnaaDoor
