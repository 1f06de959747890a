/-
  What is wrong with items, sides, rules and parts: package rulesyn's answers.
-/
import Derived.Test.YtchkcjaahjhbcaaRName
import Derived.Test.YtchkcjaahjhbcaaSWrong
import Derived.Test.YtchkcjaahjhbcaaTRight
namespace Go.Proofs.Ytchkcjaahjhbcaa
open Go.RowKit
set_option maxRecDepth 20000
set_option linter.unusedSimpArgs false
set_option linter.unusedVariables false

/-- a box that stays, and what stood ahead of it -/
theorem R.box_kept {w w1 : World} {c : Array Value} {t : TypeId} (h : Below (w.alloc (.cells c t)).heap.size (w.alloc (.cells c t)) w1) :
    w1.heap[w.heap.size]? = some (.cells c t) ∧ Below w.heap.size w w1 ∧ w.heap.size < w1.heap.size := by
  have hs := h.size
  have e : (w.alloc (.cells c t)).heap.size = w.heap.size + 1 := by simp
  refine ⟨?_, ((Below.refl _ w).alloc (Nat.le_refl _) _).trans (h.mono (by omega)), by omega⟩
  rw [h.block _ (by omega)]
  exact heap_alloc_new w _
theorem R.box_below {w w1 : World} {b : Nat} {o : Obj} (h : w.heap[b]? = some o) (hb : Below w.heap.size w w1) : w1.heap[b]? = some o := by
  rw [hb.block b (Array.getElem?_eq_some_iff.1 h).1]; exact h

theorem R.at_box {w : World} {b i : Nat} {c : Array Value} {t : TypeId} {v : Value} (h : w.heap[b]? = some (.cells c t)) (hv : c[i]? = some v) : w.cell? ⟨b, i, none⟩ = some v := by
  rw [Lib.cell_of_heap h]; exact hv
theorem R.box2 {w : World} {g : Nat} {a b : Value} {t : TypeId} (hg : w.heap[g]? = some (.cells #[a, b] t)) : w.cell? ⟨g, 0, none⟩ = some a ∧ w.cell? ⟨g, 1, none⟩ = some b ∧ w.frozen? ⟨g, 0, none⟩ = false ∧ w.frozen? ⟨g, 1, none⟩ = false := by
  refine ⟨?_, ?_, ?_, ?_⟩
  · rw [World.cell?]; simp [hg]
  · rw [World.cell?]; simp [hg]
  · rw [World.frozen?]; simp [hg]
  · rw [World.frozen?]; simp [hg]

set_option maxHeartbeats 2000000 in
theorem wrongItem_any (w : World) (x : R.Item) (so : Option Addr) (sc : Nat) (R0 : S.Rd w (.slice so x.set.length sc) x.set) (hf : S.Fit x.set) :
    Calls Try.prog 126 #[.agg #[.int .i64 x.kind, .int .i32 x.rune, .slice so x.set.length sc, .string x.name]] w fun e w' => e = .returned (.int .i64 (R.itemE x)) ∧ Below w.heap.size w w' := by
  obtain ⟨k, r, s, n⟩ := x
  simp only at R0 hf ⊢
  have HA : Hid (∀ o, Below w.heap.size w (w.alloc o)) := fun o => (Below.refl _ w).alloc (Nat.le_refl _) o
  have HW : Hid (∀ o, Calls Try.prog 86 #[.slice so s.length sc] (w.alloc o) fun e w' => e = .returned (.int .i64 (S.wrongE s)) ∧ Below w.heap.size w w') := fun o => by
    refine (wrong_any _ _ s (R.rd_keeps R0 (R.Keeps.alloc w o)) hf).mono ?_
    rintro e w' ⟨h1, h2⟩
    exact ⟨h1, (HA.out o).trans (h2.mono (by simp))⟩
  have HN : Hid (∀ o, Calls Try.prog 102 #[.string n] (w.alloc o) fun e w' => e = .returned (.bool (R.named n)) ∧ Below w.heap.size w w') := fun o => by
    refine (named_any n _).mono ?_
    rintro e w' ⟨h1, h2⟩
    exact ⟨h1, (HA.out o).trans (h2.mono (by simp))⟩
  obtain ⟨o, HO⟩ : ∃ o, Hid (R.itemE ⟨k, r, s, n⟩ = o) := ⟨_, rfl⟩
  rw [HO.out]
  clear R0 hf
  by_cases h1 : k = 1
  · subst h1
    cases hr : M.right r with
    | true =>
      have HR : Hid (M.right r = true) := hr
      clear hr
      go_enter Try.func126, Try.ntmps126
      go_wp2_with (go_at_call 89; refine (right_any _ _).mono ?_; rintro e w1 ⟨rfl, rfl⟩; rw [HR.out])
      go_ret
      exact ⟨by rw [← HO.out]; simp [R.itemE, HR.out], HA.out _⟩
    | false =>
      have HR : Hid (M.right r = false) := hr
      clear hr
      go_enter Try.func126, Try.ntmps126
      go_wp2_with (go_at_call 89; refine (right_any _ _).mono ?_; rintro e w1 ⟨rfl, rfl⟩; rw [HR.out])
      go_ret
      exact ⟨by rw [← HO.out]; simp [R.itemE, HR.out], HA.out _⟩
  · by_cases h2 : k = 2
    · subst h2
      go_enter Try.func126, Try.ntmps126
      go_wp2_with (go_at_call 86; refine (HW.out _).mono ?_; rintro e w1 ⟨rfl, b1⟩)
      go_ret
      exact ⟨by rw [← HO.out]; simp [R.itemE], b1⟩
    · by_cases h3 : k = 3
      · subst h3
        cases hr : R.named n with
        | true =>
          have HR : Hid (R.named n = true) := hr
          clear hr
          go_enter Try.func126, Try.ntmps126
          go_wp2_with (go_at_call 102; refine (HN.out _).mono ?_; rintro e w1 ⟨rfl, b1⟩; rw [HR.out])
          go_ret
          exact ⟨by rw [← HO.out]; simp [R.itemE, HR.out], b1⟩
        | false =>
          have HR : Hid (R.named n = false) := hr
          clear hr
          go_enter Try.func126, Try.ntmps126
          go_wp2_with (go_at_call 102; refine (HN.out _).mono ?_; rintro e w1 ⟨rfl, b1⟩; rw [HR.out])
          go_ret
          exact ⟨by rw [← HO.out]; simp [R.itemE, HR.out], b1⟩
      · go_enter Try.func126, Try.ntmps126
        go_wp2
        go_ret
        exact ⟨by rw [← HO.out]; simp [R.itemE, h1, h2, h3], HA.out _⟩

set_option maxHeartbeats 2000000 in
theorem wrongItems_any (w : World) (v : Value) (l : List R.Item) (R0 : R.Its w v l) :
    Calls Try.prog 123 #[v] w fun e w' => e = .returned (.int .i64 (R.itemsE l)) ∧ Below w.heap.size w w' := by
  have HR : Hid (R.Its w v l) := R0
  obtain ⟨ao, cap, rfl, _⟩ := R0
  unfold R.itemsE
  by_cases hbig : 20 < l.length
  · rw [if_pos hbig]
    go_enter Try.func123, Try.ntmps123
    go_wp2
    go_ret
    exact ⟨rfl, Below.refl _ w⟩
  · rw [if_neg hbig]
    obtain ⟨o, HO⟩ : ∃ o, Hid (R.firstE (l.map R.itemE) = o) := ⟨_, rfl⟩
    rw [HO.out]
    go_enter Try.func123, Try.ntmps123
    go_wp2
    go_loopw [11] (fun i wr => ∃ k : Nat, k ≤ l.length ∧ i = .int .i64 k ∧ Hid (R.firstE ((l.drop k).map R.itemE) = o) ∧ Hid (Below w.heap.size w wr)) (fun i _ => l.length - (intOf i).toNat)
    case atStart => exact ⟨0, Nat.zero_le _, rfl, HO, Below.refl _ w⟩
    case round =>
      obtain ⟨k, hk, rfl, HE, HB⟩ := hrel
      by_cases hlt : k < l.length
      · obtain ⟨x, hx⟩ : ∃ x, l[k]? = some x := ⟨l[k], by simp [hlt]⟩
        obtain ⟨ao', cap', e', hcs⟩ := HR.out.below HB.out
        cases e'
        obtain ⟨b, off, rfl, hcell⟩ := hcs (by intro h; subst h; simp at hlt)
        obtain ⟨c0, c1, c3, ⟨so, sc, c2, r2⟩, hf, _⟩ := hcell k x hx
        have HE2 : Hid _ := R.itemsE_drop hx
        have hsz := HB.out.size
        have HW : Hid (∀ o, Calls Try.prog 126 #[.agg #[.int .i64 x.kind, .int .i32 x.rune, .slice so x.set.length sc, .string x.name]] (wr.alloc o) fun e w' => e = .returned (.int .i64 (R.itemE x)) ∧ Below w.heap.size w w') := fun o => by
          refine (wrongItem_any _ x so sc (R.rd_keeps r2 (R.Keeps.alloc wr o)) hf).mono ?_
          rintro e w' ⟨h1, h2⟩
          exact ⟨h1, (HB.out.alloc hsz o).trans (h2.mono (by simp; omega))⟩
        obtain ⟨z, HZ⟩ : ∃ z, Hid (R.itemE x = z) := ⟨_, rfl⟩
        rw [HZ.out] at HW HE2
        clear hx hcell hcs r2 hf
        obtain ⟨xk, xr, xs, xn⟩ := x
        simp only at c0 c1 c2 c3 HW
        go_wp2_with fail
        refine (HW.out _).mono ?_
        rintro e w1 ⟨rfl, b1⟩
        by_cases hz : z = 0
        · subst hz
          go_wp2
          go_roundw
          case rel => exact ⟨k + 1, by omega, by go_num, by show _ = _; rw [← HE.out, HE2.out]; simp, b1⟩
          case measure => simp [intOf]; omega
        · go_wp2
          go_ret
          exact ⟨by rw [← HE.out, HE2.out]; simp [hz], b1⟩
      · have hke : k = l.length := by omega
        go_wp2
        go_ret
        refine ⟨?_, HB.out⟩
        rw [← HE.out, List.drop_eq_nil_of_le (by omega)]; rfl

set_option maxHeartbeats 2000000 in
theorem surrounded_any (w : World) (v : Value) (s : R.Side) (R0 : R.SdIs w v s) :
    Calls Try.prog 125 #[v] w fun e w' => e = .returned (.bool (R.around s)) ∧ Below w.heap.size w w' := by
  obtain ⟨bo, bc, so, sc, ao, ac, rfl, _⟩ := R0
  obtain ⟨st, fi, be, sr, af, cu⟩ := s
  unfold R.around
  simp only
  have HA : Hid (∀ o, Below w.heap.size w (w.alloc o)) := fun o => (Below.refl _ w).alloc (Nat.le_refl _) o
  cases st with
  | true =>
    go_enter Try.func125, Try.ntmps125
    go_wp2
    go_ret
    exact ⟨by simp, HA.out _⟩
  | false =>
    cases fi with
    | true =>
      go_enter Try.func125, Try.ntmps125
      go_wp2
      go_ret
      exact ⟨by simp, HA.out _⟩
    | false =>
      by_cases h : 0 < be.length
      · go_enter Try.func125, Try.ntmps125
        go_wp2
        go_ret
        exact ⟨by simp [h], HA.out _⟩
      · go_enter Try.func125, Try.ntmps125
        go_wp2
        go_ret
        exact ⟨L.ret_bool (by simp [h]), HA.out _⟩

set_option maxHeartbeats 2000000 in
theorem gives_any (w : World) (v : Value) (s : R.Side) (R0 : R.SdIs w v s) (hl : s.source.length ≤ 20) :
    Calls Try.prog 124 #[v] w fun e w' => e = .returned (.bool (R.gives s)) ∧ Below w.heap.size w w' := by
  obtain ⟨bo, bc, so, sc, ao, ac, rfl, _, hI, _⟩ := R0
  obtain ⟨st, fi, be, l, af, cu⟩ := s
  simp only at hI hl ⊢
  have HI : Hid (R.Its w (.slice so l.length sc) l) := hI
  clear hI
  have HA : Hid (∀ o, Below w.heap.size w (w.alloc o)) := fun o => (Below.refl _ w).alloc (Nat.le_refl _) o
  obtain ⟨o, HO⟩ : ∃ o, Hid (l.all (fun x => decide (x.kind = 1)) = o) := ⟨_, rfl⟩
  have hgo : R.gives ⟨st, fi, be, l, af, cu⟩ = o := HO.out
  rw [hgo]
  clear hgo
  go_enter Try.func124, Try.ntmps124
  go_wp2
  go_loopw [8] (fun i wr => ∃ k : Nat, k ≤ l.length ∧ i = .int .i64 k ∧ Hid ((l.drop k).all (fun x => decide (x.kind = 1)) = o) ∧ Hid (Below w.heap.size w wr)) (fun i _ => l.length - (intOf i).toNat)
  case atStart => exact ⟨0, Nat.zero_le _, rfl, HO, HA.out _⟩
  case round =>
    obtain ⟨k, hk, rfl, HE, HB⟩ := hrel
    by_cases hlt : k < l.length
    · obtain ⟨x, hx⟩ : ∃ x, l[k]? = some x := ⟨l[k], by simp [hlt]⟩
      obtain ⟨ao', cap', e', hcs⟩ := HI.out.below HB.out
      cases e'
      obtain ⟨b, off, rfl, hcell⟩ := hcs (by intro h; subst h; simp at hlt)
      obtain ⟨c0, c1, c3, ⟨so, sc, c2, r2⟩, hf, _⟩ := hcell k x hx
      have HE2 : Hid ((l.drop k).all (fun x => decide (x.kind = 1)) = (decide (x.kind = 1) && (l.drop (k + 1)).all (fun x => decide (x.kind = 1)))) := by
        show _ = _
        rw [List.drop_eq_getElem_cons hlt]
        have : l[k] = x := by rw [List.getElem?_eq_getElem hlt] at hx; exact Option.some.inj hx
        rw [this]; rfl
      have hsz := HB.out.size
      have HB2 : Hid (∀ o, Below w.heap.size w (wr.alloc o)) := fun o => HB.out.alloc hsz o
      clear hx hcell hcs r2 hf
      obtain ⟨xk, xr, xs, xn⟩ := x
      simp only at c0 c1 c2 c3
      by_cases hz : xk = 1
      · subst hz
        go_wp2
        go_roundw
        case rel => exact ⟨k + 1, by omega, by go_num, by show _ = _; rw [← HE.out, HE2.out]; simp, HB2.out _⟩
        case measure => simp [intOf]; omega
      · go_wp2
        go_ret
        exact ⟨L.ret_bool (by rw [← HE.out, HE2.out]; simp [hz]), HB2.out _⟩
    · go_wp2
      go_ret
      refine ⟨L.ret_bool ?_, HB.out⟩
      rw [← HE.out, List.drop_eq_nil_of_le (by omega)]; rfl

end Go.Proofs.Ytchkcjaahjhbcaa

/-
  What is wrong with sides, rules and parts: package rulesyn's answers.
-/
namespace Go.Proofs.Ytchkcjaahjhbcaa
open Go.RowKit
set_option maxRecDepth 20000
set_option linter.unusedSimpArgs false
set_option linter.unusedVariables false

/-- what items answer in any later world -/
theorem items_later {w : World} {v : Value} {l : List R.Item} (R0 : R.Its w v l) : ∀ w1, Below w.heap.size w w1 → Calls Try.prog 123 #[v] w1 fun e w' => e = .returned (.int .i64 (R.itemsE l)) ∧ Below w1.heap.size w1 w' := fun w1 hb => wrongItems_any w1 v l (R0.below hb)

set_option maxHeartbeats 4000000 in
theorem wrongSide_any (w : World) (v : Value) (s : R.Side) (m : Bool) (R0 : R.SdIs w v s) :
    Calls Try.prog 118 #[v, .bool m] w fun e w' => e = .returned (.int .i64 (R.sideE s m)) ∧ Below w.heap.size w w' := by
  obtain ⟨bo, bc, so, sc, ao, ac, rfl, hB, hS, hA, hcu⟩ := R0
  have HIb : Hid (∀ w1, Below w.heap.size w w1 → Calls Try.prog 123 #[.slice bo s.before.length bc] w1 fun e w' => e = .returned (.int .i64 (R.itemsE s.before)) ∧ Below w1.heap.size w1 w') := items_later hB
  have HIs : Hid (∀ w1, Below w.heap.size w w1 → Calls Try.prog 123 #[.slice so s.source.length sc] w1 fun e w' => e = .returned (.int .i64 (R.itemsE s.source)) ∧ Below w1.heap.size w1 w') := items_later hS
  have HIa : Hid (∀ w1, Below w.heap.size w w1 → Calls Try.prog 123 #[.slice ao s.after.length ac] w1 fun e w' => e = .returned (.int .i64 (R.itemsE s.after)) ∧ Below w1.heap.size w1 w') := items_later hA
  have HA : Hid (∀ o, Below w.heap.size w (w.alloc o)) := fun o => (Below.refl _ w).alloc (Nat.le_refl _) o
  clear hB hS hA
  obtain ⟨st, fi, be, sr, af, cu⟩ := s
  simp only at hcu HIb HIs HIa ⊢
  obtain ⟨o, HO⟩ : ∃ o, Hid (R.sideE ⟨st, fi, be, sr, af, cu⟩ m = o) := ⟨_, rfl⟩
  obtain ⟨zb, HZb⟩ : ∃ z, Hid (R.itemsE be = z) := ⟨_, rfl⟩
  obtain ⟨zs, HZs⟩ : ∃ z, Hid (R.itemsE sr = z) := ⟨_, rfl⟩
  obtain ⟨za, HZa⟩ : ∃ z, Hid (R.itemsE af = z) := ⟨_, rfl⟩
  have HE : Hid ((if zb ≠ 0 then zb else if zs ≠ 0 then zs else if za ≠ 0 then za else if cu < -1 ∨ (sr.length : Int) < cu then 3 else if m = true ∧ sr.length = 0 then 6 else 0) = o) := by
    show _ = _
    rw [← HO.out, ← HZb.out, ← HZs.out, ← HZa.out]; rfl
  rw [HO.out]
  rw [HZb.out] at HIb
  rw [HZs.out] at HIs
  rw [HZa.out] at HIa
  unfold R.I64 at hcu
  go_enter Try.func118, Try.ntmps118
  go_wp2_with fail
  refine (HIb.out _ (HA.out _)).mono ?_
  rintro e w1 ⟨rfl, b1⟩
  obtain ⟨hb1, B1, hl1⟩ := R.box_kept b1
  have HK1 : Hid _ := hb1
  have HB1 : Hid (Below w.heap.size w w1) := B1
  have q3 : w1.cell? ⟨w.heap.size, 3, none⟩ = some (.slice so sr.length sc) := by rw [Lib.cell_of_heap hb1]; rfl
  clear b1 hb1 B1
  by_cases hz1 : zb = 0
  · subst hz1
    go_wp2_with fail
    refine (HIs.out _ HB1.out).mono ?_
    rintro e w2 ⟨rfl, b2⟩
    have hb2 := R.box_below HK1.out b2
    have HK2 : Hid _ := hb2
    have HB2 : Hid (Below w.heap.size w w2) := HB1.out.trans (b2.mono HB1.out.size)
    have q4 : w2.cell? ⟨w.heap.size, 4, none⟩ = some (.slice ao af.length ac) := by rw [Lib.cell_of_heap hb2]; rfl
    clear b2 hb2 HK1 q3
    by_cases hz2 : zs = 0
    · subst hz2
      go_wp2_with fail
      refine (HIa.out _ HB2.out).mono ?_
      rintro e w3 ⟨rfl, b3⟩
      have hb3 := R.box_below HK2.out b3
      have HB3 : Hid (Below w.heap.size w w3) := HB2.out.trans (b3.mono HB2.out.size)
      have q5 : w3.cell? ⟨w.heap.size, 5, none⟩ = some (.int .i64 cu) := by rw [Lib.cell_of_heap hb3]; rfl
      have q3 : w3.cell? ⟨w.heap.size, 3, none⟩ = some (.slice so sr.length sc) := by rw [Lib.cell_of_heap hb3]; rfl
      clear b3 hb3 HK2 q4
      by_cases hz3 : za = 0
      · subst hz3
        by_cases hc1 : cu < -1
        · go_wp2
          go_ret
          exact ⟨by rw [← HE.out]; simp [hc1], HB3.out⟩
        · by_cases hc2 : (sr.length : Int) < cu
          · go_wp2
            go_ret
            exact ⟨by rw [← HE.out]; simp [hc2], HB3.out⟩
          · cases m with
            | false =>
              go_wp2
              go_ret
              exact ⟨by (rw [← HE.out, if_neg (by simp), if_neg (by simp), if_neg (by simp), if_neg (by omega), if_neg (by simp)]; all_goals rfl), HB3.out⟩
            | true =>
              by_cases hn : sr.length = 0
              · have hn' : ((sr.length : Nat) : Int) = 0 := by omega
                go_wp2
                go_ret
                refine ⟨?_, HB3.out⟩
                rw [← HE.out, if_neg (by simp), if_neg (by simp), if_neg (by simp), if_neg (by omega), if_pos ⟨by trivial, hn⟩]
                all_goals rfl
              · have hn' : ¬ ((sr.length : Nat) : Int) = 0 := by omega
                go_wp2
                go_ret
                refine ⟨?_, HB3.out⟩
                rw [← HE.out, if_neg (by simp), if_neg (by simp), if_neg (by simp), if_neg (by omega), if_neg (by omega)]
                all_goals rfl
      · go_wp2
        go_ret
        exact ⟨by rw [← HE.out]; simp [hz3], HB3.out⟩
    · go_wp2
      go_ret
      exact ⟨by rw [← HE.out]; simp [hz2], HB2.out⟩
  · go_wp2
    go_ret
    exact ⟨by rw [← HE.out]; simp [hz1], HB1.out⟩

theorem sides_later {w : World} {v : Value} {s : R.Side} (R0 : R.SdIs w v s) : ∀ w1 m, Below w.heap.size w w1 → Calls Try.prog 118 #[v, .bool m] w1 fun e w' => e = .returned (.int .i64 (R.sideE s m)) ∧ Below w1.heap.size w1 w' := fun w1 m hb => wrongSide_any w1 v s m (R0.below hb)
theorem gives_later {w : World} {v : Value} {s : R.Side} (R0 : R.SdIs w v s) (hl : s.source.length ≤ 20) : ∀ w1, Below w.heap.size w w1 → Calls Try.prog 124 #[v] w1 fun e w' => e = .returned (.bool (R.gives s)) ∧ Below w1.heap.size w1 w' := fun w1 hb => gives_any w1 v s (R0.below hb) hl
theorem around_later {w : World} {v : Value} {s : R.Side} (R0 : R.SdIs w v s) : ∀ w1, Below w.heap.size w w1 → Calls Try.prog 125 #[v] w1 fun e w' => e = .returned (.bool (R.around s)) ∧ Below w1.heap.size w1 w' := fun w1 hb => surrounded_any w1 v s (R0.below hb)


set_option maxHeartbeats 4000000 in
theorem fits_any (w : World) (v : Value) (p : R.Part) (R0 : R.PtIs w v p) (hl : p.left.source.length ≤ 20) (hr : p.right.source.length ≤ 20) (hd : p.dir = 1 ∨ p.dir = 2 ∨ p.dir = 3) :
    Calls Try.prog 119 #[v] w fun e w' => e = .returned (.bool (R.fits p)) ∧ Below w.heap.size w w' := by
  obtain ⟨so, sc, lbo, lbc, lso, lsc, lao, lac, rbo, rbc, rso, rsc, rao, rac, rfl, _, _, hL, hR, _, _⟩ := R0.open
  clear R0
  have HA : Hid (∀ o, Below w.heap.size w (w.alloc o)) := fun o => (Below.refl _ w).alloc (Nat.le_refl _) o
  have HgL : Hid (∀ w1, Below w.heap.size w w1 → Calls Try.prog 124 #[.agg #[.bool p.left.start, .bool p.left.fin, .slice lbo p.left.before.length lbc, .slice lso p.left.source.length lsc, .slice lao p.left.after.length lac, .int .i64 p.left.cursor]] w1 fun e w' => e = .returned (.bool (R.gives p.left)) ∧ Below w1.heap.size w1 w') := gives_later hL hl
  have HgR : Hid (∀ w1, Below w.heap.size w w1 → Calls Try.prog 124 #[.agg #[.bool p.right.start, .bool p.right.fin, .slice rbo p.right.before.length rbc, .slice rso p.right.source.length rsc, .slice rao p.right.after.length rac, .int .i64 p.right.cursor]] w1 fun e w' => e = .returned (.bool (R.gives p.right)) ∧ Below w1.heap.size w1 w') := gives_later hR hr
  have HaL : Hid (∀ w1, Below w.heap.size w w1 → Calls Try.prog 125 #[.agg #[.bool p.left.start, .bool p.left.fin, .slice lbo p.left.before.length lbc, .slice lso p.left.source.length lsc, .slice lao p.left.after.length lac, .int .i64 p.left.cursor]] w1 fun e w' => e = .returned (.bool (R.around p.left)) ∧ Below w1.heap.size w1 w') := around_later hL
  have HaR : Hid (∀ w1, Below w.heap.size w w1 → Calls Try.prog 125 #[.agg #[.bool p.right.start, .bool p.right.fin, .slice rbo p.right.before.length rbc, .slice rso p.right.source.length rsc, .slice rao p.right.after.length rac, .int .i64 p.right.cursor]] w1 fun e w' => e = .returned (.bool (R.around p.right)) ∧ Below w1.heap.size w1 w') := around_later hR
  clear hL hR
  obtain ⟨pk, pn, ps, pd, pl, pr⟩ := p
  simp only at HgL HgR HaL HaR hd ⊢
  clear hl hr
  obtain ⟨o, HO⟩ : ∃ o, Hid (R.fits ⟨pk, pn, ps, pd, pl, pr⟩ = o) := ⟨_, rfl⟩
  rw [HO.out]
  obtain ⟨gl, HGL⟩ : ∃ z, Hid (R.gives pl = z) := ⟨_, rfl⟩
  obtain ⟨gr, HGR⟩ : ∃ z, Hid (R.gives pr = z) := ⟨_, rfl⟩
  obtain ⟨al, HAL⟩ : ∃ z, Hid (R.around pl = z) := ⟨_, rfl⟩
  obtain ⟨ar, HAR⟩ : ∃ z, Hid (R.around pr = z) := ⟨_, rfl⟩
  have HF : Hid ((if pd = 1 then gr && !ar && decide (pl.cursor < 0) else if pd = 2 then gl && !al && decide (pr.cursor < 0) else gl && gr) = o) := by
    show _ = _
    rw [← HO.out, ← HGL.out, ← HGR.out, ← HAL.out, ← HAR.out]; rfl
  rw [HGL.out] at HgL
  rw [HGR.out] at HgR
  rw [HAL.out] at HaL
  rw [HAR.out] at HaR
  clear HO HGL HGR HAL HAR
  obtain ⟨lst, lfi, lbe, lsr, laf, lcu⟩ := pl
  obtain ⟨rst, rfi, rbe, rsr, raf, rcu⟩ := pr
  simp only at HgL HgR HaL HaR HF ⊢
  rcases hd with rfl | rfl | rfl
  · go_enter Try.func119, Try.ntmps119
    go_wp2_with fail
    refine (HgR.out _ (HA.out _)).mono ?_
    rintro e w1 ⟨rfl, b1⟩
    obtain ⟨hb1, B1, hl1⟩ := R.box_kept b1
    have q10 : w1.cell? ⟨w.heap.size, 10, none⟩ = some (.bool rst) := by rw [Lib.cell_of_heap hb1]; rfl
    have q11 : w1.cell? ⟨w.heap.size, 11, none⟩ = some (.bool rfi) := by rw [Lib.cell_of_heap hb1]; rfl
    have q12 : w1.cell? ⟨w.heap.size, 12, none⟩ = some (.slice rbo rbe.length rbc) := by rw [Lib.cell_of_heap hb1]; rfl
    have q13 : w1.cell? ⟨w.heap.size, 13, none⟩ = some (.slice rso rsr.length rsc) := by rw [Lib.cell_of_heap hb1]; rfl
    have q14 : w1.cell? ⟨w.heap.size, 14, none⟩ = some (.slice rao raf.length rac) := by rw [Lib.cell_of_heap hb1]; rfl
    have q15 : w1.cell? ⟨w.heap.size, 15, none⟩ = some (.int .i64 rcu) := by rw [Lib.cell_of_heap hb1]; rfl
    have q9 : w1.cell? ⟨w.heap.size, 9, none⟩ = some (.int .i64 lcu) := by rw [Lib.cell_of_heap hb1]; rfl
    have HK1 : Hid _ := hb1
    have HB1 : Hid (Below w.heap.size w w1) := B1
    clear b1 hb1 B1
    cases gr with
    | false =>
      go_wp2
      go_ret
      exact ⟨L.ret_bool (by rw [← HF.out]; simp), HB1.out⟩
    | true =>
      go_wp2_with fail
      refine (HaR.out _ HB1.out).mono ?_
      rintro e w2 ⟨rfl, b2⟩
      have hb2 := R.box_below HK1.out b2
      have q9' : w2.cell? ⟨w.heap.size, 9, none⟩ = some (.int .i64 lcu) := by rw [Lib.cell_of_heap hb2]; rfl
      have HB2 : Hid (Below w.heap.size w w2) := HB1.out.trans (b2.mono HB1.out.size)
      clear b2 hb2
      cases ar with
      | true =>
        go_wp2
        go_ret
        exact ⟨L.ret_bool (by rw [← HF.out]; simp), HB2.out⟩
      | false =>
        go_wp2
        go_ret
        exact ⟨L.ret_bool (by rw [← HF.out]; simp), HB2.out⟩
  · go_enter Try.func119, Try.ntmps119
    go_wp2_with fail
    refine (HgL.out _ (HA.out _)).mono ?_
    rintro e w1 ⟨rfl, b1⟩
    obtain ⟨hb1, B1, hl1⟩ := R.box_kept b1
    have q4 : w1.cell? ⟨w.heap.size, 4, none⟩ = some (.bool lst) := by rw [Lib.cell_of_heap hb1]; rfl
    have q5 : w1.cell? ⟨w.heap.size, 5, none⟩ = some (.bool lfi) := by rw [Lib.cell_of_heap hb1]; rfl
    have q6 : w1.cell? ⟨w.heap.size, 6, none⟩ = some (.slice lbo lbe.length lbc) := by rw [Lib.cell_of_heap hb1]; rfl
    have q7 : w1.cell? ⟨w.heap.size, 7, none⟩ = some (.slice lso lsr.length lsc) := by rw [Lib.cell_of_heap hb1]; rfl
    have q8 : w1.cell? ⟨w.heap.size, 8, none⟩ = some (.slice lao laf.length lac) := by rw [Lib.cell_of_heap hb1]; rfl
    have q9 : w1.cell? ⟨w.heap.size, 9, none⟩ = some (.int .i64 lcu) := by rw [Lib.cell_of_heap hb1]; rfl
    have q15 : w1.cell? ⟨w.heap.size, 15, none⟩ = some (.int .i64 rcu) := by rw [Lib.cell_of_heap hb1]; rfl
    have HK1 : Hid _ := hb1
    have HB1 : Hid (Below w.heap.size w w1) := B1
    clear b1 hb1 B1
    cases gl with
    | false =>
      go_wp2
      go_ret
      exact ⟨L.ret_bool (by rw [← HF.out]; simp), HB1.out⟩
    | true =>
      go_wp2_with fail
      refine (HaL.out _ HB1.out).mono ?_
      rintro e w2 ⟨rfl, b2⟩
      have hb2 := R.box_below HK1.out b2
      have q15' : w2.cell? ⟨w.heap.size, 15, none⟩ = some (.int .i64 rcu) := by rw [Lib.cell_of_heap hb2]; rfl
      have HB2 : Hid (Below w.heap.size w w2) := HB1.out.trans (b2.mono HB1.out.size)
      clear b2 hb2
      cases al with
      | true =>
        go_wp2
        go_ret
        exact ⟨L.ret_bool (by rw [← HF.out]; simp), HB2.out⟩
      | false =>
        go_wp2
        go_ret
        exact ⟨L.ret_bool (by rw [← HF.out]; simp), HB2.out⟩
  · go_enter Try.func119, Try.ntmps119
    go_wp2_with fail
    refine (HgL.out _ (HA.out _)).mono ?_
    rintro e w1 ⟨rfl, b1⟩
    obtain ⟨hb1, B1, hl1⟩ := R.box_kept b1
    have q10 : w1.cell? ⟨w.heap.size, 10, none⟩ = some (.bool rst) := by rw [Lib.cell_of_heap hb1]; rfl
    have q11 : w1.cell? ⟨w.heap.size, 11, none⟩ = some (.bool rfi) := by rw [Lib.cell_of_heap hb1]; rfl
    have q12 : w1.cell? ⟨w.heap.size, 12, none⟩ = some (.slice rbo rbe.length rbc) := by rw [Lib.cell_of_heap hb1]; rfl
    have q13 : w1.cell? ⟨w.heap.size, 13, none⟩ = some (.slice rso rsr.length rsc) := by rw [Lib.cell_of_heap hb1]; rfl
    have q14 : w1.cell? ⟨w.heap.size, 14, none⟩ = some (.slice rao raf.length rac) := by rw [Lib.cell_of_heap hb1]; rfl
    have q15 : w1.cell? ⟨w.heap.size, 15, none⟩ = some (.int .i64 rcu) := by rw [Lib.cell_of_heap hb1]; rfl
    have HB1 : Hid (Below w.heap.size w w1) := B1
    clear b1 hb1 B1
    cases gl with
    | false =>
      go_wp2
      go_ret
      exact ⟨L.ret_bool (by rw [← HF.out]; simp), HB1.out⟩
    | true =>
      go_wp2_with fail
      refine (HgR.out _ HB1.out).mono ?_
      rintro e w2 ⟨rfl, b2⟩
      have HB2 : Hid (Below w.heap.size w w2) := HB1.out.trans (b2.mono HB1.out.size)
      clear b2
      go_wp2
      go_ret
      exact ⟨L.ret_bool (by rw [← HF.out]; simp), HB2.out⟩

end Go.Proofs.Ytchkcjaahjhbcaa

/-
  What is wrong with rules, parts and files: package rulesyn's answers.
-/
namespace Go.Proofs.Ytchkcjaahjhbcaa
open Go.RowKit
set_option maxRecDepth 20000
set_option linter.unusedSimpArgs false
set_option linter.unusedVariables false

theorem src_le {s : R.Side} {m : Bool} (h : R.sideE s m = 0) : s.source.length ≤ 20 := (R.itemsE_zero.1 (R.sideE_zero h).2.1).1

set_option maxHeartbeats 4000000 in
theorem wrongRule_any (w : World) (v : Value) (p : R.Part) (R0 : R.PtIs w v p) :
    Calls Try.prog 104 #[v] w fun e w' => e = .returned (.int .i64 (R.ruleE p)) ∧ Below w.heap.size w w' := by
  have HP : Hid (∀ w1, Below w.heap.size w w1 → p.left.source.length ≤ 20 → p.right.source.length ≤ 20 → (p.dir = 1 ∨ p.dir = 2 ∨ p.dir = 3) → Calls Try.prog 119 #[v] w1 fun e w' => e = .returned (.bool (R.fits p)) ∧ Below w1.heap.size w1 w') := fun w1 hb h1 h2 h3 => fits_any w1 v p (R0.below hb) h1 h2 h3
  obtain ⟨so, sc, lbo, lbc, lso, lsc, lao, lac, rbo, rbc, rso, rsc, rao, rac, rfl, _, _, hL, hR, _, _⟩ := R0.open
  clear R0
  have HA : Hid (∀ o, Below w.heap.size w (w.alloc o)) := fun o => (Below.refl _ w).alloc (Nat.le_refl _) o
  have HL : Hid (∀ w1 m, Below w.heap.size w w1 → Calls Try.prog 118 #[.agg #[.bool p.left.start, .bool p.left.fin, .slice lbo p.left.before.length lbc, .slice lso p.left.source.length lsc, .slice lao p.left.after.length lac, .int .i64 p.left.cursor], .bool m] w1 fun e w' => e = .returned (.int .i64 (R.sideE p.left m)) ∧ Below w1.heap.size w1 w') := sides_later hL
  have HR : Hid (∀ w1 m, Below w.heap.size w w1 → Calls Try.prog 118 #[.agg #[.bool p.right.start, .bool p.right.fin, .slice rbo p.right.before.length rbc, .slice rso p.right.source.length rsc, .slice rao p.right.after.length rac, .int .i64 p.right.cursor], .bool m] w1 fun e w' => e = .returned (.int .i64 (R.sideE p.right m)) ∧ Below w1.heap.size w1 w') := sides_later hR
  clear hL hR
  obtain ⟨o, HO⟩ : ∃ o, Hid (R.ruleE p = o) := ⟨_, rfl⟩
  rw [HO.out]
  by_cases hd : p.dir = 1 ∨ p.dir = 2 ∨ p.dir = 3
  · obtain ⟨zl, HZl⟩ : ∃ z, Hid (R.sideE p.left (decide (p.dir ≠ 2)) = z) := ⟨_, rfl⟩
    obtain ⟨zr, HZr⟩ : ∃ z, Hid (R.sideE p.right (decide (p.dir ≠ 1)) = z) := ⟨_, rfl⟩
    obtain ⟨ft, HF⟩ : ∃ z, Hid (R.fits p = z) := ⟨_, rfl⟩
    have HE : Hid ((if zl ≠ 0 then zl else if zr ≠ 0 then zr else if ft = true then 0 else 8) = o) := by
      show _ = _
      rw [← HO.out, ← HZl.out, ← HZr.out, ← HF.out]
      unfold R.ruleE
      exact (if_neg (by omega)).symm
    have HLd : Hid (∀ w1, Below w.heap.size w w1 → Calls Try.prog 118 #[.agg #[.bool p.left.start, .bool p.left.fin, .slice lbo p.left.before.length lbc, .slice lso p.left.source.length lsc, .slice lao p.left.after.length lac, .int .i64 p.left.cursor], .bool (decide (p.dir ≠ 2))] w1 fun e w' => e = .returned (.int .i64 zl) ∧ Below w1.heap.size w1 w') := fun w1 hb => by
      have := HL.out w1 (decide (p.dir ≠ 2)) hb
      rw [HZl.out] at this
      exact this
    have HRd : Hid (∀ w1, Below w.heap.size w w1 → Calls Try.prog 118 #[.agg #[.bool p.right.start, .bool p.right.fin, .slice rbo p.right.before.length rbc, .slice rso p.right.source.length rsc, .slice rao p.right.after.length rac, .int .i64 p.right.cursor], .bool (decide (p.dir ≠ 1))] w1 fun e w' => e = .returned (.int .i64 zr) ∧ Below w1.heap.size w1 w') := fun w1 hb => by
      have := HR.out w1 (decide (p.dir ≠ 1)) hb
      rw [HZr.out] at this
      exact this
    have HFd : Hid (zl = 0 → zr = 0 → ∀ w1, Below w.heap.size w w1 → Calls Try.prog 119 #[.agg #[.int .i64 p.kind, .string p.name, .slice so p.set.length sc, .int .i64 p.dir, .bool p.left.start, .bool p.left.fin, .slice lbo p.left.before.length lbc, .slice lso p.left.source.length lsc, .slice lao p.left.after.length lac, .int .i64 p.left.cursor, .bool p.right.start, .bool p.right.fin, .slice rbo p.right.before.length rbc, .slice rso p.right.source.length rsc, .slice rao p.right.after.length rac, .int .i64 p.right.cursor]] w1 fun e w' => e = .returned (.bool ft) ∧ Below w1.heap.size w1 w') := fun h1 h2 w1 hb => by
      rw [← HF.out]
      exact HP.out w1 hb (src_le (by rw [← h1]; exact HZl.out)) (src_le (by rw [← h2]; exact HZr.out)) hd
    clear HP HL HR HO HZl HZr HF
    obtain ⟨pk, pn, ps, pd, ⟨lst, lfi, lbe, lsr, laf, lcu⟩, ⟨rst, rfi, rbe, rsr, raf, rcu⟩⟩ := p
    simp only at hd HLd HRd HFd ⊢
    have hdd : (pd == 1) = decide (pd = 1) ∧ (pd == 2) = decide (pd = 2) := ⟨rfl, rfl⟩
    rcases hd with rfl | rfl | rfl
    all_goals
      go_enter Try.func104, Try.ntmps104
      go_wp2_with fail
      refine (HLd.out _ (HA.out _)).mono ?_
      rintro e w1 ⟨rfl, b1⟩
      obtain ⟨hb1, B1, hl1⟩ := R.box_kept b1
      have q3 := R.at_box (i := 3) hb1 rfl
      have q10 : w1.cell? ⟨w.heap.size, 10, none⟩ = some (.bool rst) := by rw [Lib.cell_of_heap hb1]; rfl
      have q11 : w1.cell? ⟨w.heap.size, 11, none⟩ = some (.bool rfi) := by rw [Lib.cell_of_heap hb1]; rfl
      have q12 : w1.cell? ⟨w.heap.size, 12, none⟩ = some (.slice rbo rbe.length rbc) := by rw [Lib.cell_of_heap hb1]; rfl
      have q13 : w1.cell? ⟨w.heap.size, 13, none⟩ = some (.slice rso rsr.length rsc) := by rw [Lib.cell_of_heap hb1]; rfl
      have q14 : w1.cell? ⟨w.heap.size, 14, none⟩ = some (.slice rao raf.length rac) := by rw [Lib.cell_of_heap hb1]; rfl
      have q15 : w1.cell? ⟨w.heap.size, 15, none⟩ = some (.int .i64 rcu) := by rw [Lib.cell_of_heap hb1]; rfl
      have HK1 : Hid _ := hb1
      have HB1 : Hid (Below w.heap.size w w1) := B1
      clear b1 hb1 B1
      by_cases hz1 : zl = 0
      · subst hz1
        go_wp2_with fail
        refine (HRd.out _ HB1.out).mono ?_
        rintro e w2 ⟨rfl, b2⟩
        have hb2 := R.box_below HK1.out b2
        have HB2 : Hid (Below w.heap.size w w2) := HB1.out.trans (b2.mono HB1.out.size)
        clear q3 q10 q11 q12 q13 q14 q15 HK1 b2
        have p0 := R.at_box (i := 0) hb2 rfl
        have p1 := R.at_box (i := 1) hb2 rfl
        have p2 := R.at_box (i := 2) hb2 rfl
        have p3 := R.at_box (i := 3) hb2 rfl
        have p4 := R.at_box (i := 4) hb2 rfl
        have p5 := R.at_box (i := 5) hb2 rfl
        have p6 := R.at_box (i := 6) hb2 rfl
        have p7 := R.at_box (i := 7) hb2 rfl
        have p8 := R.at_box (i := 8) hb2 rfl
        have p9 := R.at_box (i := 9) hb2 rfl
        have p10 := R.at_box (i := 10) hb2 rfl
        have p11 := R.at_box (i := 11) hb2 rfl
        have p12 := R.at_box (i := 12) hb2 rfl
        have p13 := R.at_box (i := 13) hb2 rfl
        have p14 := R.at_box (i := 14) hb2 rfl
        have p15 := R.at_box (i := 15) hb2 rfl
        clear hb2
        by_cases hz2 : zr = 0
        · subst hz2
          go_wp2_with fail
          refine (HFd.out (by trivial) (by trivial) _ HB2.out).mono ?_
          rintro e w3 ⟨rfl, b3⟩
          have HB3 : Hid (Below w.heap.size w w3) := HB2.out.trans (b3.mono HB2.out.size)
          clear b3
          cases ft with
          | true =>
            go_wp2
            go_ret
            exact ⟨by rw [← HE.out]; rfl, HB3.out⟩
          | false =>
            go_wp2
            go_ret
            exact ⟨by rw [← HE.out]; rfl, HB3.out⟩
        · go_wp2
          go_ret
          exact ⟨by rw [← HE.out]; simp [hz2], HB2.out⟩
      · go_wp2
        go_ret
        exact ⟨by rw [← HE.out]; simp [hz1], HB1.out⟩
  · have HE : Hid ((1 : Int) = o) := by
      show _ = _
      rw [← HO.out]
      unfold R.ruleE
      rw [if_pos (by omega)]
    clear HP HL HR HO
    obtain ⟨pk, pn, ps, pd, ⟨lst, lfi, lbe, lsr, laf, lcu⟩, ⟨rst, rfi, rbe, rsr, raf, rcu⟩⟩ := p
    simp only at hd ⊢
    have h1 : (pd != 1) = true := by simp; omega
    have h2 : (pd != 2) = true := by simp; omega
    have h3 : (pd != 3) = true := by simp; omega
    go_enter Try.func104, Try.ntmps104
    go_wp2
    go_ret
    exact ⟨by rw [← HE.out]; rfl, HA.out _⟩

set_option maxHeartbeats 4000000 in
theorem wrongPart_any (w : World) (v : Value) (p : R.Part) (R0 : R.PtIs w v p) :
    Calls Try.prog 73 #[v] w fun e w' => e = .returned (.int .i64 (R.partE p)) ∧ Below w.heap.size w w' := by
  have HP : Hid (∀ w1, Below w.heap.size w w1 → Calls Try.prog 104 #[v] w1 fun e w' => e = .returned (.int .i64 (R.ruleE p)) ∧ Below w1.heap.size w1 w') := fun w1 hb => wrongRule_any w1 v p (R0.below hb)
  obtain ⟨so, sc, lbo, lbc, lso, lsc, lao, lac, rbo, rbc, rso, rsc, rao, rac, rfl, hS, hf, _, _, _, _⟩ := R0.open
  clear R0
  have HA : Hid (∀ o, Below w.heap.size w (w.alloc o)) := fun o => (Below.refl _ w).alloc (Nat.le_refl _) o
  have HW : Hid (∀ w1, Below w.heap.size w w1 → Calls Try.prog 86 #[.slice so p.set.length sc] w1 fun e w' => e = .returned (.int .i64 (S.wrongE p.set)) ∧ Below w1.heap.size w1 w') := fun w1 hb => wrong_any w1 _ p.set (hS.below hb (Nat.le_refl _)) hf
  clear hS hf
  obtain ⟨o, HO⟩ : ∃ o, Hid (R.partE p = o) := ⟨_, rfl⟩
  rw [HO.out]
  obtain ⟨pk, pn, ps, pd, ⟨lst, lfi, lbe, lsr, laf, lcu⟩, ⟨rst, rfi, rbe, rsr, raf, rcu⟩⟩ := p
  simp only at HP HW ⊢
  have hsz : ∀ (o : Obj), (w.alloc o).heap.size = w.heap.size + 1 := fun o => by simp
  have HSz : Hid (∀ (o : Obj), (w.alloc o).heap.size = w.heap.size + 1) := hsz
  clear hsz
  by_cases h1 : pk = 1
  · subst h1
    cases hn : R.named pn with
    | true =>
      have HN : Hid (R.named pn = true) := hn
      clear hn
      go_enter Try.func73, Try.ntmps73
      go_wp2_with fail
      refine (named_any pn _).mono ?_
      rintro e w1 ⟨rfl, b1⟩
      obtain ⟨hb1, B1, hl1⟩ := R.box_kept b1
      have q2 : w1.cell? ⟨w.heap.size, 2, none⟩ = some (.slice so ps.length sc) := by rw [Lib.cell_of_heap hb1]; rfl
      have HB1 : Hid (Below w.heap.size w w1) := B1
      clear b1 hb1 B1
      rw [HN.out]
      go_wp2_with fail
      refine (HW.out _ HB1.out).mono ?_
      rintro e w2 ⟨rfl, b2⟩
      have HB2 : Hid (Below w.heap.size w w2) := HB1.out.trans (b2.mono HB1.out.size)
      clear b2
      go_wp2
      go_ret
      exact ⟨by rw [← HO.out]; simp [R.partE, HN.out], HB2.out⟩
    | false =>
      have HN : Hid (R.named pn = false) := hn
      clear hn
      go_enter Try.func73, Try.ntmps73
      go_wp2_with fail
      refine (named_any pn _).mono ?_
      rintro e w1 ⟨rfl, b1⟩
      obtain ⟨hb1, B1, hl1⟩ := R.box_kept b1
      have HB1 : Hid (Below w.heap.size w w1) := B1
      clear b1 hb1 B1
      rw [HN.out]
      go_wp2
      go_ret
      exact ⟨by rw [← HO.out]; simp [R.partE, HN.out], HB1.out⟩
  · by_cases h3 : pk = 3
    · subst h3
      go_enter Try.func73, Try.ntmps73
      go_wp2_with fail
      refine (HW.out _ (HA.out _)).mono ?_
      rintro e w2 ⟨rfl, b2⟩
      have HB2 : Hid (Below w.heap.size w w2) := (HA.out _).trans (b2.mono (by rw [HSz.out]; omega))
      clear b2
      go_wp2
      go_ret
      exact ⟨by rw [← HO.out]; simp [R.partE], HB2.out⟩
    · by_cases h4 : pk = 4
      · subst h4
        cases hn : R.passes pn with
        | true =>
          have HN : Hid (R.passes pn = true) := hn
          clear hn
          go_enter Try.func73, Try.ntmps73
          go_wp2_with (go_at_call 103; refine (passes_any pn _).mono ?_; rintro e w1 ⟨rfl, rfl⟩; rw [HN.out])
          go_ret
          exact ⟨by rw [← HO.out]; simp [R.partE, HN.out], HA.out _⟩
        | false =>
          have HN : Hid (R.passes pn = false) := hn
          clear hn
          go_enter Try.func73, Try.ntmps73
          go_wp2_with (go_at_call 103; refine (passes_any pn _).mono ?_; rintro e w1 ⟨rfl, rfl⟩; rw [HN.out])
          go_ret
          exact ⟨by rw [← HO.out]; simp [R.partE, HN.out], HA.out _⟩
      · by_cases h2 : pk = 2
        · subst h2
          go_enter Try.func73, Try.ntmps73
          go_wp2_with fail
          refine (HP.out _ (HA.out _)).mono ?_
          rintro e w2 ⟨rfl, b2⟩
          have HB2 : Hid (Below w.heap.size w w2) := (HA.out _).trans (b2.mono (by rw [HSz.out]; omega))
          clear b2
          go_wp2
          go_ret
          exact ⟨by rw [← HO.out]; simp [R.partE], HB2.out⟩
        · go_enter Try.func73, Try.ntmps73
          go_wp2
          go_ret
          exact ⟨by rw [← HO.out]; simp [R.partE, h1, h2, h3, h4], HA.out _⟩

set_option maxHeartbeats 4000000 in
theorem Wrong_any (w : World) (v : Value) (l : List R.Part) (R0 : R.Pts w v l) :
    Calls Try.prog 52 #[v] w fun e w' => e = .returned (.agg #[.int .i64 (R.wrong l).1, .int .i64 (R.wrong l).2]) ∧ Below w.heap.size w w' := by
  have HR : Hid (R.Pts w v l) := R0
  obtain ⟨ao, cap, rfl⟩ := R0.len
  clear R0
  have HA : Hid (∀ o, Below w.heap.size w (w.alloc o)) := fun o => (Below.refl _ w).alloc (Nat.le_refl _) o
  unfold R.wrong
  by_cases hbig : 200 < l.length
  · rw [if_pos hbig]
    go_enter Try.func52, Try.ntmps52
    go_wp2
    refine bodyPost_ret (v := .agg #[.int .i64 5, .int .i64 0]) (by simp [results, Try.results52, go_sem]) rfl ?_
    exact ⟨rfl, HA.out _⟩
  · rw [if_neg hbig]
    obtain ⟨⟨o1, o2⟩, HO⟩ : ∃ o, Hid (R.firstW 0 l = o) := ⟨_, rfl⟩
    rw [HO.out]
    go_enter Try.func52, Try.ntmps52
    go_wp2
    go_loopw [12] (fun i wr => ∃ k : Nat, k ≤ l.length ∧ i = .int .i64 k ∧ Hid (R.firstW k (l.drop k) = (o1, o2)) ∧ Hid (Below w.heap.size w wr) ∧ Hid (wr.heap[w.heap.size]? = some (.cells #[.int .i64 0, .int .i64 0] 26))) (fun i _ => l.length - (intOf i).toNat)
    case atStart => exact ⟨0, Nat.zero_le _, rfl, HO, HA.out _, heap_alloc_new w _⟩
    case round =>
      obtain ⟨k, hk, rfl, HE, HB, HX⟩ := hrel
      have hX := HX.out
      by_cases hlt : k < l.length
      · obtain ⟨p, hp⟩ : ∃ x, l[k]? = some x := ⟨l[k], by simp [hlt]⟩
        obtain ⟨ao', cap', e', hcs⟩ := HR.out.below HB.out
        cases e'
        obtain ⟨b, off, rfl, hcell⟩ := hcs (by intro h; subst h; simp at hlt)
        obtain ⟨so, sc, lbo, lbc, lso, lsc, lao, lac, rbo, rbc, rso, rsc, rao, rac, c0, c1, c2, c3, c4, c5, c6, c7, c8, c9, c10, c11, c12, c13, c14, c15, hP⟩ := hcell k p hp
        have HE2 : Hid (R.firstW k (l.drop k) = if R.partE p = 0 then R.firstW (k + 1) (l.drop (k + 1)) else (R.partE p, k)) := R.firstW_drop hp
        have hsz := HB.out.size
        have HW : Hid (∀ o, Calls Try.prog 73 #[.agg #[.int .i64 p.kind, .string p.name, .slice so p.set.length sc, .int .i64 p.dir, .bool p.left.start, .bool p.left.fin, .slice lbo p.left.before.length lbc, .slice lso p.left.source.length lsc, .slice lao p.left.after.length lac, .int .i64 p.left.cursor, .bool p.right.start, .bool p.right.fin, .slice rbo p.right.before.length rbc, .slice rso p.right.source.length rsc, .slice rao p.right.after.length rac, .int .i64 p.right.cursor]] (wr.alloc o) fun e w' => e = .returned (.int .i64 (R.partE p)) ∧ Below (wr.alloc o).heap.size (wr.alloc o) w') := fun o => wrongPart_any _ _ p (hP.keeps (R.Keeps.alloc wr o))
        obtain ⟨z, HZ⟩ : ∃ z, Hid (R.partE p = z) := ⟨_, rfl⟩
        rw [HZ.out] at HW HE2
        clear hp hcell hcs hP hX
        obtain ⟨pk, pn, ps, pd, ⟨lst, lfi, lbe, lsr, laf, lcu⟩, ⟨rst, rfi, rbe, rsr, raf, rcu⟩⟩ := p
        simp only at c0 c1 c2 c3 c4 c5 c6 c7 c8 c9 c10 c11 c12 c13 c14 c15 HW
        go_wp2_with fail
        refine (HW.out _).mono ?_
        rintro e w1 ⟨rfl, b1⟩
        obtain ⟨_, B1, hl1⟩ := R.box_kept b1
        have hX1 : w1.heap[w.heap.size]? = some (.cells #[.int .i64 0, .int .i64 0] 26) := by
          rw [B1.block _ (Array.getElem?_eq_some_iff.1 HX.out).1]; exact HX.out
        have HB1 : Hid (Below w.heap.size w w1) := HB.out.trans (B1.mono hsz)
        have HX1 : Hid _ := hX1
        obtain ⟨x0, x1, f0, f1⟩ := R.box2 hX1
        clear b1 B1 hX1
        by_cases hz : z = 0
        · subst hz
          go_wp2
          go_roundw
          case rel => exact ⟨k + 1, by omega, by go_num, by show _ = _; rw [← HE.out, HE2.out]; simp, HB1, HX1⟩
          case measure => simp [intOf]; omega
        · go_wp2
          refine bodyPost_ret (v := .agg #[.int .i64 z, .int .i64 k]) (by simp [results, Try.results52, go_sem, *]) rfl ?_
          have h := HE2.out
          rw [HE.out, if_neg hz] at h
          cases h
          exact ⟨rfl, (HB1.out.setCell (p := ⟨w.heap.size, 0, none⟩) (Nat.le_refl _) _).setCell (p := ⟨w.heap.size, 1, none⟩) (Nat.le_refl _) _⟩
      · obtain ⟨x0, x1, f0, f1⟩ := R.box2 hX
        have h := HE.out
        rw [List.drop_eq_nil_of_le (by omega)] at h
        cases h
        go_wp2
        refine bodyPost_ret (v := .agg #[.int .i64 0, .int .i64 0]) (by simp [results, Try.results52, go_sem, *]) rfl ?_
        exact ⟨rfl, (HB.out.setCell (p := ⟨w.heap.size, 0, none⟩) (Nat.le_refl _) _).setCell (p := ⟨w.heap.size, 1, none⟩) (Nat.le_refl _) _⟩

end Go.Proofs.Ytchkcjaahjhbcaa
