/-
  Boxes, behind an alloc.
-/
import Derived.Test.YtlmmjefplbcapaaGreatKI32
import Derived.Test.YtlmmjefplbcapaaGreatSWrong
import Derived.RegionTactic
import Derived.Laws.ResultCell
import Derived.Shelf.SlSorted.Search
import Derived.Shelf.SlGeneric
import Derived.Shelf.Lay
import Derived.Ground.SlsoProg
namespace Go.Proofs.YtlmmjefplbcapaaGreat
open Go.RowKit

theorem K.alloc_free {w : World} {g : Nat} {c : Array Value} {t : TypeId} (h : w.heap[g]? = some (.cells c t)) (o : Obj) (i : Nat) : (w.alloc o).frozen? ⟨g, i, none⟩ = false := by
  have e : (w.alloc o).heap[g]? = w.heap[g]? := Below.heap_alloc w o g (Array.getElem?_eq_some_iff.1 h).1
  rw [World.frozen?, show (w.alloc o).heap[(⟨g, i, none⟩ : Addr).block]? = w.heap[g]? from e, h]
  simp

theorem K.alloc_cell {w : World} {a : Addr} {v : Value} (h : w.cell? a = some v) (o : Obj) : (w.alloc o).cell? a = some v := by
  have e : (w.alloc o).heap[a.block]? = w.heap[a.block]? := Below.heap_alloc w o a.block (World.block_lt_of_cell? w a h)
  rw [World.cell?_of_block e]; exact h


end Go.Proofs.YtlmmjefplbcapaaGreat

/-
  What sets.Has answers of right sets: by the span that sort.Search finds.
-/
namespace Go.Proofs
open Go.Shelf Go.RowKit Go.Lib Go.Sort
shelf_lay SlLaysO.n16 Slso 16 at Tryz as Tryz.search
end Go.Proofs
namespace Go.Proofs.YtlmmjefplbcapaaGreat
open Go.RowKit Go.Lib Go.Sort

theorem countP_range_mono (n : Nat) (p : Nat → Bool) (hm : ∀ a b, a ≤ b → b < n → p a = true → p b = true) : ∃ c, c ≤ n ∧ (List.range n).countP (fun i => !p i) = c ∧ (∀ i, i < c → p i = false) ∧ (∀ i, c ≤ i → i < n → p i = true) := by
  induction n with
  | zero => exact ⟨0, Nat.le_refl _, by simp, fun i h => by omega, fun i h1 h2 => by omega⟩
  | succ n ih =>
    obtain ⟨c, h1, h2, h3, h4⟩ := ih fun a b hab hb h => hm a b hab (by omega) h
    rw [List.range_succ, List.countP_append, h2]
    cases hp : p n with
    | true => exact ⟨c, by omega, by simp [hp], h3, fun i ha hb => by
        by_cases e : i = n
        · subst e; exact hp
        · exact h4 i ha (by omega)⟩
    | false =>
      have hc : c = n := by
        by_cases e : c = n
        · exact e
        · have := hm c n h1 (by omega) (h4 c (Nat.le_refl _) (by omega))
          rw [hp] at this; cases this
      subst hc
      exact ⟨c + 1, Nat.le_refl _, by simp [hp], fun i hi => by
        by_cases e : i = c
        · subst e; exact hp
        · exact h3 i (by omega), fun i ha hb => by omega⟩

set_option maxHeartbeats 1000000 in
theorem around1_any (ba bx : Nat) (v : Value) (l : List S.Sp) (r : Int) (i : Nat) (x : S.Sp) (W : World) (hx : l[i]? = some x) (R : S.Rd W v l) (hl : l.length ≤ 200)
    (ha : W.cell? ⟨ba, 0, none⟩ = some v) (hr : W.cell? ⟨bx, 0, none⟩ = some (.int .i32 r)) :
    Calls Tryz.prog 85 (#[.int .i64 i] ++ #[.pointer (some ⟨ba, 0, none⟩), .pointer (some ⟨bx, 0, none⟩)]) W fun e w' => e = .returned (.bool (decide (r ≤ x.2))) ∧ ∃ q os, w' = grow (W.drewN q) os := by
  obtain ⟨ao, cap, rfl, hn, hc⟩ := R
  have hlt := (List.getElem?_eq_some_iff.1 hx).1
  obtain ⟨b, off, rfl, hcell⟩ := hc (by intro h; subst h; simp at hx)
  have c2 := (hcell i x hx).2
  have hiz : (i : Int) < (l.length : Int) := by omega
  obtain ⟨x1, x2⟩ := x
  simp only at c2 ⊢
  clear hcell hc hx
  go_enter Tryz.func85, Tryz.ntmps85
  go_wp2
  go_quiet (fail)
  go_wp2
  go_ret
  exact ⟨rfl, _, #[], by rw [grow_empty]⟩

theorem memb_at {l : List S.Sp} {r : Int} {c : Nat} (N : S.Nf 0 l) (h1 : ∀ i x, i < c → l[i]? = some x → x.2 < r) :
    (l.length ≤ c → S.memb l r = false) ∧ (∀ x, l[c]? = some x → r < x.1 → S.memb l r = false) ∧ (∀ x, l[c]? = some x → x.1 ≤ r → r ≤ x.2 → S.memb l r = true) :=
  ⟨fun h => S.end_out h h1 (Int.le_refl _), fun _ hx h => S.gap_out N h1 hx (Int.le_refl _) h, fun x hx h2 h3 => S.memb_iff.2 ⟨x, List.mem_of_getElem? hx, h2, h3⟩⟩

/-- a span and a bool are handed back: the span out of its box -/
theorem ret_span {fn : Func} {p u : Tmp} (h : fn.results = #[.cell p 86, .tmp u]) (tmps : Array Value) (w : World) (g : Nat) (y1 y2 : Int) (bv : Value) (hg : w.heap[g]? = some (.cells #[.int .i32 y1, .int .i32 y2] 86))
    (hp : tmps.getD p undef = .pointer (some ⟨g, 0, none⟩)) (hu : tmps.getD u undef = bv) : (results fn tmps).run Tryz.prog w = .ok (.tuple #[.agg #[.int .i32 y1, .int .i32 y2], bv]) w := by
  have hl := run_loadVar_row (P := Tryz.prog) w g 86 86 #[.int .i32 y1, .int .i32 y2] (0, 0) _ hg Tryz.underlying86 rfl (by kernel_rfl)
  rw [results_cell_tmp h, hp, hu]
  simp [asAddr, Result.andThen, hl]

theorem two_set (w : World) (g : Nat) (a b y1 y2 : Value) (t : TypeId) (hg : w.heap[g]? = some (.cells #[a, b] t)) : ((w.setCell ⟨g, 0, none⟩ y1).setCell ⟨g, 1, none⟩ y2).heap[g]? = some (.cells #[y1, y2] t) := by
  have h1 := heap_setCell_same w g 0 #[a, b] t y1 hg
  have h2 := heap_setCell_same _ g 1 _ t y2 h1
  exact h2

set_option maxHeartbeats 1000000 in
theorem around_any (w : World) (v : Value) (l : List S.Sp) (r : Int) (R : S.Rd w v l) (N : S.Nf 0 l) (hl : l.length ≤ 200) :
    Calls Tryz.prog 80 #[v, .int .i32 r] w fun e w' => ∃ y : S.Sp, e = .returned (.tuple #[.agg #[.int .i32 y.1, .int .i32 y.2], .bool (S.memb l r)]) ∧ (S.memb l r = true → y ∈ l ∧ y.1 ≤ r ∧ r ≤ y.2) ∧ Below w.heap.size w w' := by
  obtain ⟨aa, ca, rfl⟩ := R.len
  obtain ⟨W0, hW0⟩ : ∃ W0, W0 = ((w.alloc (.cells #[.slice aa l.length ca] 70)).alloc (.cells #[.int .i32 r] 21)).alloc (.cells #[.int .i32 0, .int .i32 0] 86) := ⟨_, rfl⟩
  have hsize : W0.heap.size = w.heap.size + 3 := by rw [hW0]; simp
  have hbw : Below w.heap.size w W0 := by
    rw [hW0]; exact (((Below.refl _ w).alloc (Nat.le_refl _) _).alloc (by simp) _).alloc (by simp; omega) _
  have x1 : S.Bx W0 w.heap.size 70 (.slice aa l.length ca) := by
    rw [hW0]
    exact ((S.Bx.new w _ _).below (B := w.heap.size + 1) ((Below.refl _ _).alloc (by simp) _) (by omega)).below (B := w.heap.size + 1) ((Below.refl _ _).alloc (by simp) _) (by omega)
  have x2 : S.Bx W0 (w.heap.size + 1) 21 (.int .i32 r) := by
    rw [hW0]
    have h := S.Bx.new (w.alloc (.cells #[.slice aa l.length ca] 70)) 21 (.int .i32 r)
    rw [World.size_alloc] at h
    exact h.below (B := w.heap.size + 2) ((Below.refl _ _).alloc (by simp) _) (by omega)
  have x3 : W0.heap[w.heap.size + 2]? = some (.cells #[.int .i32 0, .int .i32 0] 86) := by
    rw [hW0]
    have h : ((w.alloc (.cells #[.slice aa l.length ca] 70)).alloc (.cells #[.int .i32 r] 21)).heap.size = w.heap.size + 2 := by simp
    rw [← h]
    exact Array.getElem?_push_size
  have R0 : S.Rd W0 (.slice aa l.length ca) l := R.below hbw (Nat.le_refl _)
  have hpm : ∀ a b, a ≤ b → b < l.length → decide (r ≤ (l[a]?.getD (0, 0)).2) = true → decide (r ≤ (l[b]?.getD (0, 0)).2) = true := by
    intro a b hab hb h
    by_cases e : a = b
    · subst e; exact h
    · obtain ⟨x, hx⟩ : ∃ x, l[a]? = some x := ⟨l[a]'(by omega), by simp [show a < l.length by omega]⟩
      obtain ⟨y, hy⟩ : ∃ y, l[b]? = some y := ⟨l[b], by simp [hb]⟩
      have h1 := N.rise (show a < b by omega) hx hy
      have h2 := N.mem (List.mem_of_getElem? hy)
      rw [hx] at h
      rw [hy]
      simp at h ⊢
      omega
  have eg : ∀ args w, (callFunc 85 args).run Tryz.prog w = .ok (.enter 85 args) w := enters_of Tryz.func85 (by kernel_rfl) rfl
  have hS := Any.sort_Search Tryz.search 85 #[.pointer (some ⟨w.heap.size, 0, none⟩), .pointer (some ⟨w.heap.size + 1, 0, none⟩)] l.length (fun i => decide (r ≤ (l[i]?.getD (0, 0)).2)) W0 eg (by omega)
    (fun m os i hi => by
      obtain ⟨x, hx⟩ : ∃ x, l[i]? = some x := ⟨l[i], by simp [hi]⟩
      have hb := below_grown_sl W0.heap.size W0 m os (Nat.le_refl _)
      have h := around1_any w.heap.size (w.heap.size + 1) (.slice aa l.length ca) l r i x (grow (W0.drewN m) os) hx (R0.below hb (Nat.le_refl _)) hl (x1.below hb (by omega)).cell (x2.below hb (by omega)).cell
      rw [hx]
      exact h) hpm
  obtain ⟨c, hcl, hce, hc1, hc2⟩ := countP_range_mono l.length (fun i => decide (r ≤ (l[i]?.getD (0, 0)).2)) hpm
  rw [hce] at hS
  change Calls Tryz.prog 72 _ _ _ at hS
  have hM := memb_at (r := r) (c := c) N (fun i x hi hx => by
    have := hc1 i hi
    rw [hx] at this
    simp at this
    exact this)
  have hM4 : ∀ x, l[c]? = some x → r ≤ x.2 := fun x hx => by
    have := hc2 c (Nat.le_refl _) (List.getElem?_eq_some_iff.1 hx).1
    rw [hx] at this
    simpa using this
  have HM : Hid _ := hM
  have HM4 : Hid (∀ x, l[c]? = some x → r ≤ x.2) := hM4
  have HR0 : Hid (S.Rd W0 (.slice aa l.length ca) l) := R0
  have HX : Hid (S.Bx W0 w.heap.size 70 (.slice aa l.length ca) ∧ S.Bx W0 (w.heap.size + 1) 21 (.int .i32 r) ∧ W0.heap[w.heap.size + 2]? = some (.cells #[.int .i32 0, .int .i32 0] 86) ∧ Below w.heap.size w W0 ∧ W0.heap.size = w.heap.size + 3) := ⟨x1, x2, x3, hbw, hsize⟩
  clear hM hM4 R0 x1 x2 x3 hbw hsize hpm hce hc1 hc2 R
  generalize hmm : S.memb l r = mm at *
  clear hmm
  go_enter Tryz.func80, Tryz.ntmps80
  go_wp2_with fail
  rw [← hW0]
  refine hS.mono ?_
  clear hS hW0
  rintro e W1 ⟨rfl, q, os, hW1⟩
  have hb1 := below_grown_sl W0.heap.size W0 q os (Nat.le_refl _)
  rw [← hW1] at hb1
  clear hW1
  obtain ⟨x1, x2, x3, hbw, hsize⟩ := HX.out
  have e1 := (x1.below hb1 (by omega)).cell
  have e2 := (x2.below hb1 (by omega)).cell
  have e3 : W1.heap[w.heap.size + 2]? = some (.cells #[.int .i32 0, .int .i32 0] 86) := by rw [hb1.block _ (by omega)]; exact x3
  have hW1s := hb1.size
  have R1 : S.Rd W1 (.slice aa l.length ca) l := HR0.out.below hb1 (Nat.le_refl _)
  have BW : Hid (Below w.heap.size w W1) := hbw.trans (hb1.mono (by omega))
  have f1 : W1.cell? ⟨w.heap.size + 2, 0, none⟩ = some (.int .i32 0) := by simp [World.cell?, e3]
  have f2 : W1.cell? ⟨w.heap.size + 2, 1, none⟩ = some (.int .i32 0) := by simp [World.cell?, e3]
  have f3 : W1.frozen? ⟨w.heap.size + 2, 0, none⟩ = false := by simp [World.frozen?, e3]
  have f4 : W1.frozen? ⟨w.heap.size + 2, 1, none⟩ = false := by simp [World.frozen?, e3]
  have E3 : Hid (W1.heap[w.heap.size + 1 + 1]? = some (.cells #[.int .i32 0, .int .i32 0] 86)) := e3
  clear x1 x2 x3 hb1 HX HR0 hbw hsize e3
  by_cases hcl2 : c = l.length
  · have h1 := HM.out.1 (by omega)
    subst h1
    subst hcl2
    clear R1
    go_wp2
    go_quiet (fail)
    go_wp2
    (try simp only [Exit.inBlock, Exit.then])
    refine bodyPost_ret (ret_span rfl _ _ (w.heap.size + 1 + 1) 0 0 (.bool false) (two_set (W1.drewN nq) (w.heap.size + 1 + 1) _ _ _ _ 86 E3.out) rfl rfl) rfl ?_
    exact ⟨(0, 0), rfl, fun h => (by cases h), ((below_drewN BW.out _).setCell (by show w.heap.size ≤ w.heap.size + 1 + 1; omega) _).setCell (by show w.heap.size ≤ w.heap.size + 1 + 1; omega) _⟩
  · have hlt : c < l.length := by omega
    obtain ⟨ao', cap', he, _, hc⟩ := R1
    simp only [Value.slice.injEq] at he
    obtain ⟨rfl, _, rfl⟩ := he
    obtain ⟨b, off, rfl, hcell⟩ := hc (by intro h; subst h; simp at hlt)
    obtain ⟨x, hx⟩ : ∃ x, l[c]? = some x := ⟨l[c], by simp [hlt]⟩
    have c1 := (hcell c x hx).1
    have c2 := (hcell c x hx).2
    have hci : ((c : Int) == (l.length : Int)) = false := by simp; omega
    have HX : Hid (l[c]? = some x) := hx
    have hx2 := HM4.out x hx
    obtain ⟨y1, y2⟩ := x
    simp only at c1 c2 hx2
    have h1 := HM.out.2.1 _ hx
    have h2 := HM.out.2.2 _ hx
    simp only at h1 h2
    clear hcell hc hx HM HM4 hcl2
    by_cases hlow : r < y1
    · have := h1 hlow
      subst this
      clear h1 h2
      go_wp2
      go_quiet (fail)
      go_wp2
      (try simp only [Exit.inBlock, Exit.then])
      refine bodyPost_ret (ret_span rfl _ _ (w.heap.size + 1 + 1) 0 0 (.bool false) (two_set (W1.drewN nq) (w.heap.size + 1 + 1) _ _ _ _ 86 E3.out) rfl rfl) rfl ?_
      exact ⟨(0, 0), rfl, fun h => (by cases h), ((below_drewN BW.out _).setCell (by show w.heap.size ≤ w.heap.size + 1 + 1; omega) _).setCell (by show w.heap.size ≤ w.heap.size + 1 + 1; omega) _⟩
    · have := h2 (by omega) hx2
      subst this
      clear h1 h2
      go_wp2
      go_quiet (fail)
      go_wp2
      (try simp only [Exit.inBlock, Exit.then])
      refine bodyPost_ret (ret_span rfl _ _ (w.heap.size + 1 + 1) y1 y2 (.bool true) (two_set (W1.drewN nq) (w.heap.size + 1 + 1) _ _ _ _ 86 E3.out) rfl rfl) rfl ?_
      exact ⟨y1, y2, rfl, ⟨List.mem_of_getElem? HX.out, by omega, by omega⟩, ((below_drewN BW.out _).setCell (by show w.heap.size ≤ w.heap.size + 1 + 1; omega) _).setCell (by show w.heap.size ≤ w.heap.size + 1 + 1; omega) _⟩

set_option maxHeartbeats 400000 in
theorem has_any (w : World) (v : Value) (l : List S.Sp) (r : Int) (R : S.Rd w v l) (N : S.Nf 0 l) (hl : l.length ≤ 200) :
    Calls Tryz.prog 69 #[v, .int .i32 r] w fun e w' => e = .returned (.bool (S.memb l r)) ∧ Below w.heap.size w w' := by
  have h := around_any w v l r R N hl
  obtain ⟨aa, ca, rfl⟩ := R.len
  clear R N
  generalize S.memb l r = mm at *
  go_enter Tryz.func69, Tryz.ntmps69
  go_wp2_with fail
  refine h.mono ?_
  clear h
  rintro e w1 ⟨⟨y1, y2⟩, rfl, _, hb⟩
  simp only
  go_wp2
  go_ret
  exact ⟨rfl, hb.alloc hb.size _⟩

end Go.Proofs.YtlmmjefplbcapaaGreat
