/-
  What is wrong with items, sides, rules and parts: package rulesyn's answers.
-/
import Derived.Test.YtchkcjaahjhbcabGreatDoorSWrong
import Derived.Test.YtchkcjaahjhbcabGreatDoorTChr
namespace Go.Proofs.YtchkcjaahjhbcabGreatDoor
open Go.RowKit
set_option maxRecDepth 20000
set_option linter.unusedSimpArgs false
set_option linter.unusedVariables false

/-- a box that stays, and what stood ahead of it -/
theorem R.box_kept {w w1 : World} {c : Array Value} {t : TypeId} (h : Below (w.alloc (.cells c t)).heap.size (w.alloc (.cells c t)) w1) :
    w1.heap[w.heap.size]? = some (.cells c t) ∧ Below w.heap.size w w1 ∧ w.heap.size < w1.heap.size := by
  have hs := h.size
  have e : (w.alloc (.cells c t)).heap.size = w.heap.size + 1 := by simp
  refine ⟨?_, ((Below.refl _ w).alloc (Nat.le_refl _) _).trans (h.mono (by omega)), by omega⟩
  rw [h.block _ (by omega)]
  exact heap_alloc_new w _
theorem R.box_below {w w1 : World} {b : Nat} {o : Obj} (h : w.heap[b]? = some o) (hb : Below w.heap.size w w1) : w1.heap[b]? = some o := by
  rw [hb.block b (Array.getElem?_eq_some_iff.1 h).1]; exact h

theorem R.at_box {w : World} {b i : Nat} {c : Array Value} {t : TypeId} {v : Value} (h : w.heap[b]? = some (.cells c t)) (hv : c[i]? = some v) : w.cell? ⟨b, i, none⟩ = some v := by
  rw [Lib.cell_of_heap h]; exact hv
theorem R.box2 {w : World} {g : Nat} {a b : Value} {t : TypeId} (hg : w.heap[g]? = some (.cells #[a, b] t)) : w.cell? ⟨g, 0, none⟩ = some a ∧ w.cell? ⟨g, 1, none⟩ = some b ∧ w.frozen? ⟨g, 0, none⟩ = false ∧ w.frozen? ⟨g, 1, none⟩ = false := by
  refine ⟨?_, ?_, ?_, ?_⟩
  · rw [World.cell?]; simp [hg]
  · rw [World.cell?]; simp [hg]
  · rw [World.frozen?]; simp [hg]
  · rw [World.frozen?]; simp [hg]

set_option maxHeartbeats 2000000 in
theorem wrongItem_any (w : World) (x : R.Item) (so : Option Addr) (sc : Nat) (R0 : S.Rd w (.slice so x.set.length sc) x.set) (hf : S.Fit x.set) :
    Calls Tryz.prog 95 #[.agg #[.int .i64 x.kind, .int .i32 x.rune, .slice so x.set.length sc, .string x.name]] w fun e w' => e = .returned (.int .i64 (R.itemE x)) ∧ Below w.heap.size w w' := by
  obtain ⟨k, r, s, n⟩ := x
  simp only at R0 hf ⊢
  have HA : Hid (∀ o, Below w.heap.size w (w.alloc o)) := fun o => (Below.refl _ w).alloc (Nat.le_refl _) o
  have HW : Hid (∀ o, Calls Tryz.prog 49 #[.slice so s.length sc] (w.alloc o) fun e w' => e = .returned (.int .i64 (S.wrongE s)) ∧ Below w.heap.size w w') := fun o => by
    refine (wrong_any _ _ s (R.rd_keeps R0 (R.Keeps.alloc w o)) hf).mono ?_
    rintro e w' ⟨h1, h2⟩
    exact ⟨h1, (HA.out o).trans (h2.mono (by simp))⟩
  have HN : Hid (∀ o, Calls Tryz.prog 48 #[.string n] (w.alloc o) fun e w' => e = .returned (.bool (R.named n)) ∧ Below w.heap.size w w') := fun o => by
    refine (named_any n _).mono ?_
    rintro e w' ⟨h1, h2⟩
    exact ⟨h1, (HA.out o).trans (h2.mono (by simp))⟩
  obtain ⟨o, HO⟩ : ∃ o, Hid (R.itemE ⟨k, r, s, n⟩ = o) := ⟨_, rfl⟩
  rw [HO.out]
  clear R0 hf
  by_cases h1 : k = 1
  · subst h1
    cases hr : M.right r with
    | true =>
      have HR : Hid (M.right r = true) := hr
      clear hr
      go_enter Tryz.func95, Tryz.ntmps95
      go_wp2_with (go_at_call 85; refine (right_any _ _).mono ?_; rintro e w1 ⟨rfl, rfl⟩; rw [HR.out])
      go_ret
      exact ⟨by rw [← HO.out]; simp [R.itemE, HR.out], HA.out _⟩
    | false =>
      have HR : Hid (M.right r = false) := hr
      clear hr
      go_enter Tryz.func95, Tryz.ntmps95
      go_wp2_with (go_at_call 85; refine (right_any _ _).mono ?_; rintro e w1 ⟨rfl, rfl⟩; rw [HR.out])
      go_ret
      exact ⟨by rw [← HO.out]; simp [R.itemE, HR.out], HA.out _⟩
  · by_cases h2 : k = 2
    · subst h2
      go_enter Tryz.func95, Tryz.ntmps95
      go_wp2_with (go_at_call 49; refine (HW.out _).mono ?_; rintro e w1 ⟨rfl, b1⟩)
      go_ret
      exact ⟨by rw [← HO.out]; simp [R.itemE], b1⟩
    · by_cases h3 : k = 3
      · subst h3
        cases hr : R.named n with
        | true =>
          have HR : Hid (R.named n = true) := hr
          clear hr
          go_enter Tryz.func95, Tryz.ntmps95
          go_wp2_with (go_at_call 48; refine (HN.out _).mono ?_; rintro e w1 ⟨rfl, b1⟩; rw [HR.out])
          go_ret
          exact ⟨by rw [← HO.out]; simp [R.itemE, HR.out], b1⟩
        | false =>
          have HR : Hid (R.named n = false) := hr
          clear hr
          go_enter Tryz.func95, Tryz.ntmps95
          go_wp2_with (go_at_call 48; refine (HN.out _).mono ?_; rintro e w1 ⟨rfl, b1⟩; rw [HR.out])
          go_ret
          exact ⟨by rw [← HO.out]; simp [R.itemE, HR.out], b1⟩
      · go_enter Tryz.func95, Tryz.ntmps95
        go_wp2
        go_ret
        exact ⟨by rw [← HO.out]; simp [R.itemE, h1, h2, h3], HA.out _⟩

set_option maxHeartbeats 2000000 in
theorem wrongItems_any (w : World) (v : Value) (l : List R.Item) (R0 : R.Its w v l) :
    Calls Tryz.prog 81 #[v] w fun e w' => e = .returned (.int .i64 (R.itemsE l)) ∧ Below w.heap.size w w' := by
  have HR : Hid (R.Its w v l) := R0
  obtain ⟨ao, cap, rfl, _⟩ := R0
  unfold R.itemsE
  by_cases hbig : 20 < l.length
  · rw [if_pos hbig]
    go_enter Tryz.func81, Tryz.ntmps81
    go_wp2
    go_ret
    exact ⟨rfl, Below.refl _ w⟩
  · rw [if_neg hbig]
    obtain ⟨o, HO⟩ : ∃ o, Hid (R.firstE (l.map R.itemE) = o) := ⟨_, rfl⟩
    rw [HO.out]
    go_enter Tryz.func81, Tryz.ntmps81
    go_wp2
    go_loopw [11] (fun i wr => ∃ k : Nat, k ≤ l.length ∧ i = .int .i64 k ∧ Hid (R.firstE ((l.drop k).map R.itemE) = o) ∧ Hid (Below w.heap.size w wr)) (fun i _ => l.length - (intOf i).toNat)
    case atStart => exact ⟨0, Nat.zero_le _, rfl, HO, Below.refl _ w⟩
    case round =>
      obtain ⟨k, hk, rfl, HE, HB⟩ := hrel
      by_cases hlt : k < l.length
      · obtain ⟨x, hx⟩ : ∃ x, l[k]? = some x := ⟨l[k], by simp [hlt]⟩
        obtain ⟨ao', cap', e', hcs⟩ := HR.out.below HB.out
        cases e'
        obtain ⟨b, off, rfl, hcell⟩ := hcs (by intro h; subst h; simp at hlt)
        obtain ⟨c0, c1, c3, ⟨so, sc, c2, r2⟩, hf, _⟩ := hcell k x hx
        have HE2 : Hid _ := R.itemsE_drop hx
        have hsz := HB.out.size
        have HW : Hid (∀ o, Calls Tryz.prog 95 #[.agg #[.int .i64 x.kind, .int .i32 x.rune, .slice so x.set.length sc, .string x.name]] (wr.alloc o) fun e w' => e = .returned (.int .i64 (R.itemE x)) ∧ Below w.heap.size w w') := fun o => by
          refine (wrongItem_any _ x so sc (R.rd_keeps r2 (R.Keeps.alloc wr o)) hf).mono ?_
          rintro e w' ⟨h1, h2⟩
          exact ⟨h1, (HB.out.alloc hsz o).trans (h2.mono (by simp; omega))⟩
        obtain ⟨z, HZ⟩ : ∃ z, Hid (R.itemE x = z) := ⟨_, rfl⟩
        rw [HZ.out] at HW HE2
        clear hx hcell hcs r2 hf
        obtain ⟨xk, xr, xs, xn⟩ := x
        simp only at c0 c1 c2 c3 HW
        go_wp2_with fail
        refine (HW.out _).mono ?_
        rintro e w1 ⟨rfl, b1⟩
        by_cases hz : z = 0
        · subst hz
          go_wp2
          go_roundw
          case rel => exact ⟨k + 1, by omega, by go_num, by show _ = _; rw [← HE.out, HE2.out]; simp, b1⟩
          case measure => simp [intOf]; omega
        · go_wp2
          go_ret
          exact ⟨by rw [← HE.out, HE2.out]; simp [hz], b1⟩
      · have hke : k = l.length := by omega
        go_wp2
        go_ret
        refine ⟨?_, HB.out⟩
        rw [← HE.out, List.drop_eq_nil_of_le (by omega)]; rfl

set_option maxHeartbeats 2000000 in
theorem surrounded_any (w : World) (v : Value) (s : R.Side) (R0 : R.SdIs w v s) :
    Calls Tryz.prog 83 #[v] w fun e w' => e = .returned (.bool (R.around s)) ∧ Below w.heap.size w w' := by
  obtain ⟨bo, bc, so, sc, ao, ac, rfl, _⟩ := R0
  obtain ⟨st, fi, be, sr, af, cu⟩ := s
  unfold R.around
  simp only
  have HA : Hid (∀ o, Below w.heap.size w (w.alloc o)) := fun o => (Below.refl _ w).alloc (Nat.le_refl _) o
  cases st with
  | true =>
    go_enter Tryz.func83, Tryz.ntmps83
    go_wp2
    go_ret
    exact ⟨by simp, HA.out _⟩
  | false =>
    cases fi with
    | true =>
      go_enter Tryz.func83, Tryz.ntmps83
      go_wp2
      go_ret
      exact ⟨by simp, HA.out _⟩
    | false =>
      by_cases h : 0 < be.length
      · go_enter Tryz.func83, Tryz.ntmps83
        go_wp2
        go_ret
        exact ⟨by simp [h], HA.out _⟩
      · go_enter Tryz.func83, Tryz.ntmps83
        go_wp2
        go_ret
        exact ⟨L.ret_bool (by simp [h]), HA.out _⟩

set_option maxHeartbeats 2000000 in
theorem gives_any (w : World) (v : Value) (s : R.Side) (R0 : R.SdIs w v s) (hl : s.source.length ≤ 20) :
    Calls Tryz.prog 82 #[v] w fun e w' => e = .returned (.bool (R.gives s)) ∧ Below w.heap.size w w' := by
  obtain ⟨bo, bc, so, sc, ao, ac, rfl, _, hI, _⟩ := R0
  obtain ⟨st, fi, be, l, af, cu⟩ := s
  simp only at hI hl ⊢
  have HI : Hid (R.Its w (.slice so l.length sc) l) := hI
  clear hI
  have HA : Hid (∀ o, Below w.heap.size w (w.alloc o)) := fun o => (Below.refl _ w).alloc (Nat.le_refl _) o
  obtain ⟨o, HO⟩ : ∃ o, Hid (l.all (fun x => decide (x.kind = 1)) = o) := ⟨_, rfl⟩
  have hgo : R.gives ⟨st, fi, be, l, af, cu⟩ = o := HO.out
  rw [hgo]
  clear hgo
  go_enter Tryz.func82, Tryz.ntmps82
  go_wp2
  go_loopw [8] (fun i wr => ∃ k : Nat, k ≤ l.length ∧ i = .int .i64 k ∧ Hid ((l.drop k).all (fun x => decide (x.kind = 1)) = o) ∧ Hid (Below w.heap.size w wr)) (fun i _ => l.length - (intOf i).toNat)
  case atStart => exact ⟨0, Nat.zero_le _, rfl, HO, HA.out _⟩
  case round =>
    obtain ⟨k, hk, rfl, HE, HB⟩ := hrel
    by_cases hlt : k < l.length
    · obtain ⟨x, hx⟩ : ∃ x, l[k]? = some x := ⟨l[k], by simp [hlt]⟩
      obtain ⟨ao', cap', e', hcs⟩ := HI.out.below HB.out
      cases e'
      obtain ⟨b, off, rfl, hcell⟩ := hcs (by intro h; subst h; simp at hlt)
      obtain ⟨c0, c1, c3, ⟨so, sc, c2, r2⟩, hf, _⟩ := hcell k x hx
      have HE2 : Hid ((l.drop k).all (fun x => decide (x.kind = 1)) = (decide (x.kind = 1) && (l.drop (k + 1)).all (fun x => decide (x.kind = 1)))) := by
        show _ = _
        rw [List.drop_eq_getElem_cons hlt]
        have : l[k] = x := by rw [List.getElem?_eq_getElem hlt] at hx; exact Option.some.inj hx
        rw [this]; rfl
      have hsz := HB.out.size
      have HB2 : Hid (∀ o, Below w.heap.size w (wr.alloc o)) := fun o => HB.out.alloc hsz o
      clear hx hcell hcs r2 hf
      obtain ⟨xk, xr, xs, xn⟩ := x
      simp only at c0 c1 c2 c3
      by_cases hz : xk = 1
      · subst hz
        go_wp2
        go_roundw
        case rel => exact ⟨k + 1, by omega, by go_num, by show _ = _; rw [← HE.out, HE2.out]; simp, HB2.out _⟩
        case measure => simp [intOf]; omega
      · go_wp2
        go_ret
        exact ⟨L.ret_bool (by rw [← HE.out, HE2.out]; simp [hz]), HB2.out _⟩
    · go_wp2
      go_ret
      refine ⟨L.ret_bool ?_, HB.out⟩
      rw [← HE.out, List.drop_eq_nil_of_le (by omega)]; rfl

end Go.Proofs.YtchkcjaahjhbcabGreatDoor

/-
  What is wrong with sides, rules and parts: package rulesyn's answers.
-/
namespace Go.Proofs.YtchkcjaahjhbcabGreatDoor
open Go.RowKit
set_option maxRecDepth 20000
set_option linter.unusedSimpArgs false
set_option linter.unusedVariables false

/-- what items answer in any later world -/
theorem items_later {w : World} {v : Value} {l : List R.Item} (R0 : R.Its w v l) : ∀ w1, Below w.heap.size w w1 → Calls Tryz.prog 81 #[v] w1 fun e w' => e = .returned (.int .i64 (R.itemsE l)) ∧ Below w1.heap.size w1 w' := fun w1 hb => wrongItems_any w1 v l (R0.below hb)

set_option maxHeartbeats 4000000 in
theorem wrongSide_any (w : World) (v : Value) (s : R.Side) (m : Bool) (R0 : R.SdIs w v s) :
    Calls Tryz.prog 71 #[v, .bool m] w fun e w' => e = .returned (.int .i64 (R.sideE s m)) ∧ Below w.heap.size w w' := by
  obtain ⟨bo, bc, so, sc, ao, ac, rfl, hB, hS, hA, hcu⟩ := R0
  have HIb : Hid (∀ w1, Below w.heap.size w w1 → Calls Tryz.prog 81 #[.slice bo s.before.length bc] w1 fun e w' => e = .returned (.int .i64 (R.itemsE s.before)) ∧ Below w1.heap.size w1 w') := items_later hB
  have HIs : Hid (∀ w1, Below w.heap.size w w1 → Calls Tryz.prog 81 #[.slice so s.source.length sc] w1 fun e w' => e = .returned (.int .i64 (R.itemsE s.source)) ∧ Below w1.heap.size w1 w') := items_later hS
  have HIa : Hid (∀ w1, Below w.heap.size w w1 → Calls Tryz.prog 81 #[.slice ao s.after.length ac] w1 fun e w' => e = .returned (.int .i64 (R.itemsE s.after)) ∧ Below w1.heap.size w1 w') := items_later hA
  have HA : Hid (∀ o, Below w.heap.size w (w.alloc o)) := fun o => (Below.refl _ w).alloc (Nat.le_refl _) o
  clear hB hS hA
  obtain ⟨st, fi, be, sr, af, cu⟩ := s
  simp only at hcu HIb HIs HIa ⊢
  obtain ⟨o, HO⟩ : ∃ o, Hid (R.sideE ⟨st, fi, be, sr, af, cu⟩ m = o) := ⟨_, rfl⟩
  obtain ⟨zb, HZb⟩ : ∃ z, Hid (R.itemsE be = z) := ⟨_, rfl⟩
  obtain ⟨zs, HZs⟩ : ∃ z, Hid (R.itemsE sr = z) := ⟨_, rfl⟩
  obtain ⟨za, HZa⟩ : ∃ z, Hid (R.itemsE af = z) := ⟨_, rfl⟩
  have HE : Hid ((if zb ≠ 0 then zb else if zs ≠ 0 then zs else if za ≠ 0 then za else if cu < -1 ∨ (sr.length : Int) < cu then 3 else if m = true ∧ sr.length = 0 then 6 else 0) = o) := by
    show _ = _
    rw [← HO.out, ← HZb.out, ← HZs.out, ← HZa.out]; rfl
  rw [HO.out]
  rw [HZb.out] at HIb
  rw [HZs.out] at HIs
  rw [HZa.out] at HIa
  unfold R.I64 at hcu
  go_enter Tryz.func71, Tryz.ntmps71
  go_wp2_with fail
  refine (HIb.out _ (HA.out _)).mono ?_
  rintro e w1 ⟨rfl, b1⟩
  obtain ⟨hb1, B1, hl1⟩ := R.box_kept b1
  have HK1 : Hid _ := hb1
  have HB1 : Hid (Below w.heap.size w w1) := B1
  have q3 : w1.cell? ⟨w.heap.size, 3, none⟩ = some (.slice so sr.length sc) := by rw [Lib.cell_of_heap hb1]; rfl
  clear b1 hb1 B1
  by_cases hz1 : zb = 0
  · subst hz1
    go_wp2_with fail
    refine (HIs.out _ HB1.out).mono ?_
    rintro e w2 ⟨rfl, b2⟩
    have hb2 := R.box_below HK1.out b2
    have HK2 : Hid _ := hb2
    have HB2 : Hid (Below w.heap.size w w2) := HB1.out.trans (b2.mono HB1.out.size)
    have q4 : w2.cell? ⟨w.heap.size, 4, none⟩ = some (.slice ao af.length ac) := by rw [Lib.cell_of_heap hb2]; rfl
    clear b2 hb2 HK1 q3
    by_cases hz2 : zs = 0
    · subst hz2
      go_wp2_with fail
      refine (HIa.out _ HB2.out).mono ?_
      rintro e w3 ⟨rfl, b3⟩
      have hb3 := R.box_below HK2.out b3
      have HB3 : Hid (Below w.heap.size w w3) := HB2.out.trans (b3.mono HB2.out.size)
      have q5 : w3.cell? ⟨w.heap.size, 5, none⟩ = some (.int .i64 cu) := by rw [Lib.cell_of_heap hb3]; rfl
      have q3 : w3.cell? ⟨w.heap.size, 3, none⟩ = some (.slice so sr.length sc) := by rw [Lib.cell_of_heap hb3]; rfl
      clear b3 hb3 HK2 q4
      by_cases hz3 : za = 0
      · subst hz3
        by_cases hc1 : cu < -1
        · go_wp2
          go_ret
          exact ⟨by rw [← HE.out]; simp [hc1], HB3.out⟩
        · by_cases hc2 : (sr.length : Int) < cu
          · go_wp2
            go_ret
            exact ⟨by rw [← HE.out]; simp [hc2], HB3.out⟩
          · cases m with
            | false =>
              go_wp2
              go_ret
              exact ⟨by (rw [← HE.out, if_neg (by simp), if_neg (by simp), if_neg (by simp), if_neg (by omega), if_neg (by simp)]; all_goals rfl), HB3.out⟩
            | true =>
              by_cases hn : sr.length = 0
              · have hn' : ((sr.length : Nat) : Int) = 0 := by omega
                go_wp2
                go_ret
                refine ⟨?_, HB3.out⟩
                rw [← HE.out, if_neg (by simp), if_neg (by simp), if_neg (by simp), if_neg (by omega), if_pos ⟨by trivial, hn⟩]
                all_goals rfl
              · have hn' : ¬ ((sr.length : Nat) : Int) = 0 := by omega
                go_wp2
                go_ret
                refine ⟨?_, HB3.out⟩
                rw [← HE.out, if_neg (by simp), if_neg (by simp), if_neg (by simp), if_neg (by omega), if_neg (by omega)]
                all_goals rfl
      · go_wp2
        go_ret
        exact ⟨by rw [← HE.out]; simp [hz3], HB3.out⟩
    · go_wp2
      go_ret
      exact ⟨by rw [← HE.out]; simp [hz2], HB2.out⟩
  · go_wp2
    go_ret
    exact ⟨by rw [← HE.out]; simp [hz1], HB1.out⟩

theorem sides_later {w : World} {v : Value} {s : R.Side} (R0 : R.SdIs w v s) : ∀ w1 m, Below w.heap.size w w1 → Calls Tryz.prog 71 #[v, .bool m] w1 fun e w' => e = .returned (.int .i64 (R.sideE s m)) ∧ Below w1.heap.size w1 w' := fun w1 m hb => wrongSide_any w1 v s m (R0.below hb)
theorem gives_later {w : World} {v : Value} {s : R.Side} (R0 : R.SdIs w v s) (hl : s.source.length ≤ 20) : ∀ w1, Below w.heap.size w w1 → Calls Tryz.prog 82 #[v] w1 fun e w' => e = .returned (.bool (R.gives s)) ∧ Below w1.heap.size w1 w' := fun w1 hb => gives_any w1 v s (R0.below hb) hl
theorem around_later {w : World} {v : Value} {s : R.Side} (R0 : R.SdIs w v s) : ∀ w1, Below w.heap.size w w1 → Calls Tryz.prog 83 #[v] w1 fun e w' => e = .returned (.bool (R.around s)) ∧ Below w1.heap.size w1 w' := fun w1 hb => surrounded_any w1 v s (R0.below hb)


set_option maxHeartbeats 4000000 in
theorem fits_any (w : World) (v : Value) (p : R.Part) (R0 : R.PtIs w v p) (hl : p.left.source.length ≤ 20) (hr : p.right.source.length ≤ 20) (hd : p.dir = 1 ∨ p.dir = 2 ∨ p.dir = 3) :
    Calls Tryz.prog 72 #[v] w fun e w' => e = .returned (.bool (R.fits p)) ∧ Below w.heap.size w w' := by
  obtain ⟨so, sc, lbo, lbc, lso, lsc, lao, lac, rbo, rbc, rso, rsc, rao, rac, rfl, _, _, hL, hR, _, _⟩ := R0.open
  clear R0
  have HA : Hid (∀ o, Below w.heap.size w (w.alloc o)) := fun o => (Below.refl _ w).alloc (Nat.le_refl _) o
  have HgL : Hid (∀ w1, Below w.heap.size w w1 → Calls Tryz.prog 82 #[.agg #[.bool p.left.start, .bool p.left.fin, .slice lbo p.left.before.length lbc, .slice lso p.left.source.length lsc, .slice lao p.left.after.length lac, .int .i64 p.left.cursor]] w1 fun e w' => e = .returned (.bool (R.gives p.left)) ∧ Below w1.heap.size w1 w') := gives_later hL hl
  have HgR : Hid (∀ w1, Below w.heap.size w w1 → Calls Tryz.prog 82 #[.agg #[.bool p.right.start, .bool p.right.fin, .slice rbo p.right.before.length rbc, .slice rso p.right.source.length rsc, .slice rao p.right.after.length rac, .int .i64 p.right.cursor]] w1 fun e w' => e = .returned (.bool (R.gives p.right)) ∧ Below w1.heap.size w1 w') := gives_later hR hr
  have HaL : Hid (∀ w1, Below w.heap.size w w1 → Calls Tryz.prog 83 #[.agg #[.bool p.left.start, .bool p.left.fin, .slice lbo p.left.before.length lbc, .slice lso p.left.source.length lsc, .slice lao p.left.after.length lac, .int .i64 p.left.cursor]] w1 fun e w' => e = .returned (.bool (R.around p.left)) ∧ Below w1.heap.size w1 w') := around_later hL
  have HaR : Hid (∀ w1, Below w.heap.size w w1 → Calls Tryz.prog 83 #[.agg #[.bool p.right.start, .bool p.right.fin, .slice rbo p.right.before.length rbc, .slice rso p.right.source.length rsc, .slice rao p.right.after.length rac, .int .i64 p.right.cursor]] w1 fun e w' => e = .returned (.bool (R.around p.right)) ∧ Below w1.heap.size w1 w') := around_later hR
  clear hL hR
  obtain ⟨pk, pn, ps, pd, pl, pr⟩ := p
  simp only at HgL HgR HaL HaR hd ⊢
  clear hl hr
  obtain ⟨o, HO⟩ : ∃ o, Hid (R.fits ⟨pk, pn, ps, pd, pl, pr⟩ = o) := ⟨_, rfl⟩
  rw [HO.out]
  obtain ⟨gl, HGL⟩ : ∃ z, Hid (R.gives pl = z) := ⟨_, rfl⟩
  obtain ⟨gr, HGR⟩ : ∃ z, Hid (R.gives pr = z) := ⟨_, rfl⟩
  obtain ⟨al, HAL⟩ : ∃ z, Hid (R.around pl = z) := ⟨_, rfl⟩
  obtain ⟨ar, HAR⟩ : ∃ z, Hid (R.around pr = z) := ⟨_, rfl⟩
  have HF : Hid ((if pd = 1 then gr && !ar && decide (pl.cursor < 0) else if pd = 2 then gl && !al && decide (pr.cursor < 0) else gl && gr) = o) := by
    show _ = _
    rw [← HO.out, ← HGL.out, ← HGR.out, ← HAL.out, ← HAR.out]; rfl
  rw [HGL.out] at HgL
  rw [HGR.out] at HgR
  rw [HAL.out] at HaL
  rw [HAR.out] at HaR
  clear HO HGL HGR HAL HAR
  obtain ⟨lst, lfi, lbe, lsr, laf, lcu⟩ := pl
  obtain ⟨rst, rfi, rbe, rsr, raf, rcu⟩ := pr
  simp only at HgL HgR HaL HaR HF ⊢
  rcases hd with rfl | rfl | rfl
  · go_enter Tryz.func72, Tryz.ntmps72
    go_wp2_with fail
    refine (HgR.out _ (HA.out _)).mono ?_
    rintro e w1 ⟨rfl, b1⟩
    obtain ⟨hb1, B1, hl1⟩ := R.box_kept b1
    have q10 : w1.cell? ⟨w.heap.size, 10, none⟩ = some (.bool rst) := by rw [Lib.cell_of_heap hb1]; rfl
    have q11 : w1.cell? ⟨w.heap.size, 11, none⟩ = some (.bool rfi) := by rw [Lib.cell_of_heap hb1]; rfl
    have q12 : w1.cell? ⟨w.heap.size, 12, none⟩ = some (.slice rbo rbe.length rbc) := by rw [Lib.cell_of_heap hb1]; rfl
    have q13 : w1.cell? ⟨w.heap.size, 13, none⟩ = some (.slice rso rsr.length rsc) := by rw [Lib.cell_of_heap hb1]; rfl
    have q14 : w1.cell? ⟨w.heap.size, 14, none⟩ = some (.slice rao raf.length rac) := by rw [Lib.cell_of_heap hb1]; rfl
    have q15 : w1.cell? ⟨w.heap.size, 15, none⟩ = some (.int .i64 rcu) := by rw [Lib.cell_of_heap hb1]; rfl
    have q9 : w1.cell? ⟨w.heap.size, 9, none⟩ = some (.int .i64 lcu) := by rw [Lib.cell_of_heap hb1]; rfl
    have HK1 : Hid _ := hb1
    have HB1 : Hid (Below w.heap.size w w1) := B1
    clear b1 hb1 B1
    cases gr with
    | false =>
      go_wp2
      go_ret
      exact ⟨L.ret_bool (by rw [← HF.out]; simp), HB1.out⟩
    | true =>
      go_wp2_with fail
      refine (HaR.out _ HB1.out).mono ?_
      rintro e w2 ⟨rfl, b2⟩
      have hb2 := R.box_below HK1.out b2
      have q9' : w2.cell? ⟨w.heap.size, 9, none⟩ = some (.int .i64 lcu) := by rw [Lib.cell_of_heap hb2]; rfl
      have HB2 : Hid (Below w.heap.size w w2) := HB1.out.trans (b2.mono HB1.out.size)
      clear b2 hb2
      cases ar with
      | true =>
        go_wp2
        go_ret
        exact ⟨L.ret_bool (by rw [← HF.out]; simp), HB2.out⟩
      | false =>
        go_wp2
        go_ret
        exact ⟨L.ret_bool (by rw [← HF.out]; simp), HB2.out⟩
  · go_enter Tryz.func72, Tryz.ntmps72
    go_wp2_with fail
    refine (HgL.out _ (HA.out _)).mono ?_
    rintro e w1 ⟨rfl, b1⟩
    obtain ⟨hb1, B1, hl1⟩ := R.box_kept b1
    have q4 : w1.cell? ⟨w.heap.size, 4, none⟩ = some (.bool lst) := by rw [Lib.cell_of_heap hb1]; rfl
    have q5 : w1.cell? ⟨w.heap.size, 5, none⟩ = some (.bool lfi) := by rw [Lib.cell_of_heap hb1]; rfl
    have q6 : w1.cell? ⟨w.heap.size, 6, none⟩ = some (.slice lbo lbe.length lbc) := by rw [Lib.cell_of_heap hb1]; rfl
    have q7 : w1.cell? ⟨w.heap.size, 7, none⟩ = some (.slice lso lsr.length lsc) := by rw [Lib.cell_of_heap hb1]; rfl
    have q8 : w1.cell? ⟨w.heap.size, 8, none⟩ = some (.slice lao laf.length lac) := by rw [Lib.cell_of_heap hb1]; rfl
    have q9 : w1.cell? ⟨w.heap.size, 9, none⟩ = some (.int .i64 lcu) := by rw [Lib.cell_of_heap hb1]; rfl
    have q15 : w1.cell? ⟨w.heap.size, 15, none⟩ = some (.int .i64 rcu) := by rw [Lib.cell_of_heap hb1]; rfl
    have HK1 : Hid _ := hb1
    have HB1 : Hid (Below w.heap.size w w1) := B1
    clear b1 hb1 B1
    cases gl with
    | false =>
      go_wp2
      go_ret
      exact ⟨L.ret_bool (by rw [← HF.out]; simp), HB1.out⟩
    | true =>
      go_wp2_with fail
      refine (HaL.out _ HB1.out).mono ?_
      rintro e w2 ⟨rfl, b2⟩
      have hb2 := R.box_below HK1.out b2
      have q15' : w2.cell? ⟨w.heap.size, 15, none⟩ = some (.int .i64 rcu) := by rw [Lib.cell_of_heap hb2]; rfl
      have HB2 : Hid (Below w.heap.size w w2) := HB1.out.trans (b2.mono HB1.out.size)
      clear b2 hb2
      cases al with
      | true =>
        go_wp2
        go_ret
        exact ⟨L.ret_bool (by rw [← HF.out]; simp), HB2.out⟩
      | false =>
        go_wp2
        go_ret
        exact ⟨L.ret_bool (by rw [← HF.out]; simp), HB2.out⟩
  · go_enter Tryz.func72, Tryz.ntmps72
    go_wp2_with fail
    refine (HgL.out _ (HA.out _)).mono ?_
    rintro e w1 ⟨rfl, b1⟩
    obtain ⟨hb1, B1, hl1⟩ := R.box_kept b1
    have q10 : w1.cell? ⟨w.heap.size, 10, none⟩ = some (.bool rst) := by rw [Lib.cell_of_heap hb1]; rfl
    have q11 : w1.cell? ⟨w.heap.size, 11, none⟩ = some (.bool rfi) := by rw [Lib.cell_of_heap hb1]; rfl
    have q12 : w1.cell? ⟨w.heap.size, 12, none⟩ = some (.slice rbo rbe.length rbc) := by rw [Lib.cell_of_heap hb1]; rfl
    have q13 : w1.cell? ⟨w.heap.size, 13, none⟩ = some (.slice rso rsr.length rsc) := by rw [Lib.cell_of_heap hb1]; rfl
    have q14 : w1.cell? ⟨w.heap.size, 14, none⟩ = some (.slice rao raf.length rac) := by rw [Lib.cell_of_heap hb1]; rfl
    have q15 : w1.cell? ⟨w.heap.size, 15, none⟩ = some (.int .i64 rcu) := by rw [Lib.cell_of_heap hb1]; rfl
    have HB1 : Hid (Below w.heap.size w w1) := B1
    clear b1 hb1 B1
    cases gl with
    | false =>
      go_wp2
      go_ret
      exact ⟨L.ret_bool (by rw [← HF.out]; simp), HB1.out⟩
    | true =>
      go_wp2_with fail
      refine (HgR.out _ HB1.out).mono ?_
      rintro e w2 ⟨rfl, b2⟩
      have HB2 : Hid (Below w.heap.size w w2) := HB1.out.trans (b2.mono HB1.out.size)
      clear b2
      go_wp2
      go_ret
      exact ⟨L.ret_bool (by rw [← HF.out]; simp), HB2.out⟩

end Go.Proofs.YtchkcjaahjhbcabGreatDoor
