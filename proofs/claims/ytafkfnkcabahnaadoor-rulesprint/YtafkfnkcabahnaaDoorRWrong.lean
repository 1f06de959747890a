/-
  What is wrong with items, sides, rules and parts: package rulesyn's answers.
-/
import Derived.Test.YtafkfnkcabahnaaDoorRName
import Derived.Test.YtafkfnkcabahnaaDoorSWrong
import Derived.Test.YtafkfnkcabahnaaDoorTQuote
namespace Go.Proofs.YtafkfnkcabahnaaDoor
open Go.RowKit
set_option maxRecDepth 20000
set_option linter.unusedSimpArgs false
set_option linter.unusedVariables false

/-- a box that stays, and what stood ahead of it -/
theorem R.box_kept {w w1 : World} {c : Array Value} {t : TypeId} (h : Below (w.alloc (.cells c t)).heap.size (w.alloc (.cells c t)) w1) :
    w1.heap[w.heap.size]? = some (.cells c t) ∧ Below w.heap.size w w1 ∧ w.heap.size < w1.heap.size := by
  have hs := h.size
  have e : (w.alloc (.cells c t)).heap.size = w.heap.size + 1 := by simp
  refine ⟨?_, ((Below.refl _ w).alloc (Nat.le_refl _) _).trans (h.mono (by omega)), by omega⟩
  rw [h.block _ (by omega)]
  exact heap_alloc_new w _
theorem R.box_below {w w1 : World} {b : Nat} {o : Obj} (h : w.heap[b]? = some o) (hb : Below w.heap.size w w1) : w1.heap[b]? = some o := by
  rw [hb.block b (Array.getElem?_eq_some_iff.1 h).1]; exact h

theorem R.at_box {w : World} {b i : Nat} {c : Array Value} {t : TypeId} {v : Value} (h : w.heap[b]? = some (.cells c t)) (hv : c[i]? = some v) : w.cell? ⟨b, i, none⟩ = some v := by
  rw [Lib.cell_of_heap h]; exact hv
theorem R.box2 {w : World} {g : Nat} {a b : Value} {t : TypeId} (hg : w.heap[g]? = some (.cells #[a, b] t)) : w.cell? ⟨g, 0, none⟩ = some a ∧ w.cell? ⟨g, 1, none⟩ = some b ∧ w.frozen? ⟨g, 0, none⟩ = false ∧ w.frozen? ⟨g, 1, none⟩ = false := by
  refine ⟨?_, ?_, ?_, ?_⟩
  · rw [World.cell?]; simp [hg]
  · rw [World.cell?]; simp [hg]
  · rw [World.frozen?]; simp [hg]
  · rw [World.frozen?]; simp [hg]

set_option maxHeartbeats 2000000 in
theorem wrongItem_any (w : World) (x : R.Item) (so : Option Addr) (sc : Nat) (R0 : S.Rd w (.slice so x.set.length sc) x.set) (hf : S.Fit x.set) :
    Calls Tryd.prog 56 #[.agg #[.int .i64 x.kind, .int .i32 x.rune, .slice so x.set.length sc, .string x.name]] w fun e w' => e = .returned (.int .i64 (R.itemE x)) ∧ Below w.heap.size w w' := by
  obtain ⟨k, r, s, n⟩ := x
  simp only at R0 hf ⊢
  have HA : Hid (∀ o, Below w.heap.size w (w.alloc o)) := fun o => (Below.refl _ w).alloc (Nat.le_refl _) o
  have HW : Hid (∀ o, Calls Tryd.prog 25 #[.slice so s.length sc] (w.alloc o) fun e w' => e = .returned (.int .i64 (S.wrongE s)) ∧ Below w.heap.size w w') := fun o => by
    refine (wrong_any _ _ s (R.rd_keeps R0 (R.Keeps.alloc w o)) hf).mono ?_
    rintro e w' ⟨h1, h2⟩
    exact ⟨h1, (HA.out o).trans (h2.mono (by simp))⟩
  have HN : Hid (∀ o, Calls Tryd.prog 24 #[.string n] (w.alloc o) fun e w' => e = .returned (.bool (R.named n)) ∧ Below w.heap.size w w') := fun o => by
    refine (named_any n _).mono ?_
    rintro e w' ⟨h1, h2⟩
    exact ⟨h1, (HA.out o).trans (h2.mono (by simp))⟩
  obtain ⟨o, HO⟩ : ∃ o, Hid (R.itemE ⟨k, r, s, n⟩ = o) := ⟨_, rfl⟩
  rw [HO.out]
  clear R0 hf
  by_cases h1 : k = 1
  · subst h1
    cases hr : M.right r with
    | true =>
      have HR : Hid (M.right r = true) := hr
      clear hr
      go_enter Tryd.func56, Tryd.ntmps56
      go_wp2_with (go_at_call 54; refine (right_any _ _).mono ?_; rintro e w1 ⟨rfl, rfl⟩; rw [HR.out])
      go_ret
      exact ⟨by rw [← HO.out]; simp [R.itemE, HR.out], HA.out _⟩
    | false =>
      have HR : Hid (M.right r = false) := hr
      clear hr
      go_enter Tryd.func56, Tryd.ntmps56
      go_wp2_with (go_at_call 54; refine (right_any _ _).mono ?_; rintro e w1 ⟨rfl, rfl⟩; rw [HR.out])
      go_ret
      exact ⟨by rw [← HO.out]; simp [R.itemE, HR.out], HA.out _⟩
  · by_cases h2 : k = 2
    · subst h2
      go_enter Tryd.func56, Tryd.ntmps56
      go_wp2_with (go_at_call 25; refine (HW.out _).mono ?_; rintro e w1 ⟨rfl, b1⟩)
      go_ret
      exact ⟨by rw [← HO.out]; simp [R.itemE], b1⟩
    · by_cases h3 : k = 3
      · subst h3
        cases hr : R.named n with
        | true =>
          have HR : Hid (R.named n = true) := hr
          clear hr
          go_enter Tryd.func56, Tryd.ntmps56
          go_wp2_with (go_at_call 24; refine (HN.out _).mono ?_; rintro e w1 ⟨rfl, b1⟩; rw [HR.out])
          go_ret
          exact ⟨by rw [← HO.out]; simp [R.itemE, HR.out], b1⟩
        | false =>
          have HR : Hid (R.named n = false) := hr
          clear hr
          go_enter Tryd.func56, Tryd.ntmps56
          go_wp2_with (go_at_call 24; refine (HN.out _).mono ?_; rintro e w1 ⟨rfl, b1⟩; rw [HR.out])
          go_ret
          exact ⟨by rw [← HO.out]; simp [R.itemE, HR.out], b1⟩
      · go_enter Tryd.func56, Tryd.ntmps56
        go_wp2
        go_ret
        exact ⟨by rw [← HO.out]; simp [R.itemE, h1, h2, h3], HA.out _⟩

set_option maxHeartbeats 2000000 in
theorem wrongItems_any (w : World) (v : Value) (l : List R.Item) (R0 : R.Its w v l) :
    Calls Tryd.prog 49 #[v] w fun e w' => e = .returned (.int .i64 (R.itemsE l)) ∧ Below w.heap.size w w' := by
  have HR : Hid (R.Its w v l) := R0
  obtain ⟨ao, cap, rfl, _⟩ := R0
  unfold R.itemsE
  by_cases hbig : 20 < l.length
  · rw [if_pos hbig]
    go_enter Tryd.func49, Tryd.ntmps49
    go_wp2
    go_ret
    exact ⟨rfl, Below.refl _ w⟩
  · rw [if_neg hbig]
    obtain ⟨o, HO⟩ : ∃ o, Hid (R.firstE (l.map R.itemE) = o) := ⟨_, rfl⟩
    rw [HO.out]
    go_enter Tryd.func49, Tryd.ntmps49
    go_wp2
    go_loopw [11] (fun i wr => ∃ k : Nat, k ≤ l.length ∧ i = .int .i64 k ∧ Hid (R.firstE ((l.drop k).map R.itemE) = o) ∧ Hid (Below w.heap.size w wr)) (fun i _ => l.length - (intOf i).toNat)
    case atStart => exact ⟨0, Nat.zero_le _, rfl, HO, Below.refl _ w⟩
    case round =>
      obtain ⟨k, hk, rfl, HE, HB⟩ := hrel
      by_cases hlt : k < l.length
      · obtain ⟨x, hx⟩ : ∃ x, l[k]? = some x := ⟨l[k], by simp [hlt]⟩
        obtain ⟨ao', cap', e', hcs⟩ := HR.out.below HB.out
        cases e'
        obtain ⟨b, off, rfl, hcell⟩ := hcs (by intro h; subst h; simp at hlt)
        obtain ⟨c0, c1, c3, ⟨so, sc, c2, r2⟩, hf, _⟩ := hcell k x hx
        have HE2 : Hid _ := R.itemsE_drop hx
        have hsz := HB.out.size
        have HW : Hid (∀ o, Calls Tryd.prog 56 #[.agg #[.int .i64 x.kind, .int .i32 x.rune, .slice so x.set.length sc, .string x.name]] (wr.alloc o) fun e w' => e = .returned (.int .i64 (R.itemE x)) ∧ Below w.heap.size w w') := fun o => by
          refine (wrongItem_any _ x so sc (R.rd_keeps r2 (R.Keeps.alloc wr o)) hf).mono ?_
          rintro e w' ⟨h1, h2⟩
          exact ⟨h1, (HB.out.alloc hsz o).trans (h2.mono (by simp; omega))⟩
        obtain ⟨z, HZ⟩ : ∃ z, Hid (R.itemE x = z) := ⟨_, rfl⟩
        rw [HZ.out] at HW HE2
        clear hx hcell hcs r2 hf
        obtain ⟨xk, xr, xs, xn⟩ := x
        simp only at c0 c1 c2 c3 HW
        go_wp2_with fail
        refine (HW.out _).mono ?_
        rintro e w1 ⟨rfl, b1⟩
        by_cases hz : z = 0
        · subst hz
          go_wp2
          go_roundw
          case rel => exact ⟨k + 1, by omega, by go_num, by show _ = _; rw [← HE.out, HE2.out]; simp, b1⟩
          case measure => simp [intOf]; omega
        · go_wp2
          go_ret
          exact ⟨by rw [← HE.out, HE2.out]; simp [hz], b1⟩
      · have hke : k = l.length := by omega
        go_wp2
        go_ret
        refine ⟨?_, HB.out⟩
        rw [← HE.out, List.drop_eq_nil_of_le (by omega)]; rfl

set_option maxHeartbeats 2000000 in
theorem surrounded_any (w : World) (v : Value) (s : R.Side) (R0 : R.SdIs w v s) :
    Calls Tryd.prog 51 #[v] w fun e w' => e = .returned (.bool (R.around s)) ∧ Below w.heap.size w w' := by
  obtain ⟨bo, bc, so, sc, ao, ac, rfl, _⟩ := R0
  obtain ⟨st, fi, be, sr, af, cu⟩ := s
  unfold R.around
  simp only
  have HA : Hid (∀ o, Below w.heap.size w (w.alloc o)) := fun o => (Below.refl _ w).alloc (Nat.le_refl _) o
  cases st with
  | true =>
    go_enter Tryd.func51, Tryd.ntmps51
    go_wp2
    go_ret
    exact ⟨by simp, HA.out _⟩
  | false =>
    cases fi with
    | true =>
      go_enter Tryd.func51, Tryd.ntmps51
      go_wp2
      go_ret
      exact ⟨by simp, HA.out _⟩
    | false =>
      by_cases h : 0 < be.length
      · go_enter Tryd.func51, Tryd.ntmps51
        go_wp2
        go_ret
        exact ⟨by simp [h], HA.out _⟩
      · go_enter Tryd.func51, Tryd.ntmps51
        go_wp2
        go_ret
        exact ⟨L.ret_bool (by simp [h]), HA.out _⟩

set_option maxHeartbeats 2000000 in
theorem gives_any (w : World) (v : Value) (s : R.Side) (R0 : R.SdIs w v s) (hl : s.source.length ≤ 20) :
    Calls Tryd.prog 50 #[v] w fun e w' => e = .returned (.bool (R.gives s)) ∧ Below w.heap.size w w' := by
  obtain ⟨bo, bc, so, sc, ao, ac, rfl, _, hI, _⟩ := R0
  obtain ⟨st, fi, be, l, af, cu⟩ := s
  simp only at hI hl ⊢
  have HI : Hid (R.Its w (.slice so l.length sc) l) := hI
  clear hI
  have HA : Hid (∀ o, Below w.heap.size w (w.alloc o)) := fun o => (Below.refl _ w).alloc (Nat.le_refl _) o
  obtain ⟨o, HO⟩ : ∃ o, Hid (l.all (fun x => decide (x.kind = 1)) = o) := ⟨_, rfl⟩
  have hgo : R.gives ⟨st, fi, be, l, af, cu⟩ = o := HO.out
  rw [hgo]
  clear hgo
  go_enter Tryd.func50, Tryd.ntmps50
  go_wp2
  go_loopw [8] (fun i wr => ∃ k : Nat, k ≤ l.length ∧ i = .int .i64 k ∧ Hid ((l.drop k).all (fun x => decide (x.kind = 1)) = o) ∧ Hid (Below w.heap.size w wr)) (fun i _ => l.length - (intOf i).toNat)
  case atStart => exact ⟨0, Nat.zero_le _, rfl, HO, HA.out _⟩
  case round =>
    obtain ⟨k, hk, rfl, HE, HB⟩ := hrel
    by_cases hlt : k < l.length
    · obtain ⟨x, hx⟩ : ∃ x, l[k]? = some x := ⟨l[k], by simp [hlt]⟩
      obtain ⟨ao', cap', e', hcs⟩ := HI.out.below HB.out
      cases e'
      obtain ⟨b, off, rfl, hcell⟩ := hcs (by intro h; subst h; simp at hlt)
      obtain ⟨c0, c1, c3, ⟨so, sc, c2, r2⟩, hf, _⟩ := hcell k x hx
      have HE2 : Hid ((l.drop k).all (fun x => decide (x.kind = 1)) = (decide (x.kind = 1) && (l.drop (k + 1)).all (fun x => decide (x.kind = 1)))) := by
        show _ = _
        rw [List.drop_eq_getElem_cons hlt]
        have : l[k] = x := by rw [List.getElem?_eq_getElem hlt] at hx; exact Option.some.inj hx
        rw [this]; rfl
      have hsz := HB.out.size
      have HB2 : Hid (∀ o, Below w.heap.size w (wr.alloc o)) := fun o => HB.out.alloc hsz o
      clear hx hcell hcs r2 hf
      obtain ⟨xk, xr, xs, xn⟩ := x
      simp only at c0 c1 c2 c3
      by_cases hz : xk = 1
      · subst hz
        go_wp2
        go_roundw
        case rel => exact ⟨k + 1, by omega, by go_num, by show _ = _; rw [← HE.out, HE2.out]; simp, HB2.out _⟩
        case measure => simp [intOf]; omega
      · go_wp2
        go_ret
        exact ⟨L.ret_bool (by rw [← HE.out, HE2.out]; simp [hz]), HB2.out _⟩
    · go_wp2
      go_ret
      refine ⟨L.ret_bool ?_, HB.out⟩
      rw [← HE.out, List.drop_eq_nil_of_le (by omega)]; rfl

end Go.Proofs.YtafkfnkcabahnaaDoor
