/-
  What sets.join makes of a set that the caller owns, and a span that begins nowhere ahead of its last one.
-/
import Derived.Test.YtdmpmkcigjkilaaSWrong
import Derived.RegionTactic
import Derived.Laws.OwnMore
import Derived.Lib.MinMax
namespace Go.Proofs.Ytdmpmkcigjkilaa
open Go.RowKit
set_option maxRecDepth 20000

theorem two_new (w : World) (a b : Value) (t : TypeId) (bl : Nat) (hb : bl = w.heap.size) (j : Nat) (u : Value) (h : [a, b][j]? = some u) : (w.alloc (.cells #[a, b] t)).cell? ((⟨bl, 0, none⟩ : Addr).add j) = some u := by
  subst hb
  rw [L.addr_add]
  match j, h with
  | 0, h => simp at h; subst h; rw [World.cell?_alloc_at _ _ _ _ (by simp)]; rfl
  | 1, h => simp at h; subst h; rw [World.cell?_alloc_at _ _ _ _ (by simp)]; rfl
  | j + 2, h => simp at h

theorem cellsOf_set (m : List S.Sp) (p : S.Sp) (q : Int) : (S.cellsOf (m ++ [p])).set (m.length * 2 + 1) (.int .i32 q) = S.cellsOf (m ++ [(p.1, q)]) := by
  rw [S.cellsOf_append, S.cellsOf_append, List.set_append_right _ _ (by rw [S.cellsOf_length]; omega), S.cellsOf_length]
  rw [show m.length * 2 + 1 - m.length * 2 = 1 by omega]
  rfl

set_option maxHeartbeats 1000000 in
theorem join_any (w : World) (B : Nat) (v : Value) (s : List S.Sp) (x : S.Sp) (own : w.ownsRow B 99 2 v s.length (S.cellsOf s)) (hB : B ≤ w.heap.size) (hs : ∀ p ∈ s, p.2 ≤ 1114111 ∧ 0 ≤ p.2) (hl : s.length ≤ 17592186044160)
    (hx : -2147483648 ≤ x.1 ∧ x.1 ≤ 2147483647 ∧ -2147483648 ≤ x.2 ∧ x.2 ≤ 2147483647) :
    Calls Try.prog 88 #[v, .agg #[.int .i32 x.1, .int .i32 x.2]] w fun e w' => ∃ v', e = .returned v' ∧ w'.ownsRow B 99 2 v' (S.joinF s x).length (S.cellsOf (S.joinF s x)) ∧ w.grownBy w' v.ownBlock := by
  obtain ⟨x1, x2⟩ := x
  simp only at hx ⊢
  obtain ⟨i0, hi, hz0, hz1, hz2⟩ := info_parts Try.infoSp
  have hv : ∃ ao cap, v = .slice ao s.length cap := by
    rcases own.2 with ⟨h, h0⟩ | ⟨g, cap, cur, h, _⟩
    · exact ⟨none, 0, by rw [h0, h]⟩
    · exact ⟨_, cap, h⟩
  obtain ⟨ao, cap, rfl⟩ := hv
  have OW : Hid (w.ownsRow B 99 2 (.slice ao s.length cap) s.length (S.cellsOf s)) := own
  have CL : Hid (∀ g, ao = some g → g = ⟨g.block, 0, none⟩ ∧ ∀ j u, (S.cellsOf s)[j]? = some u → w.cell? ⟨g.block, j, none⟩ = some u) := by
    intro g hg
    subst hg
    rcases own.2 with ⟨h, h0⟩ | ⟨g', cap', cur, h, _⟩
    · cases h
    · cases h
      refine ⟨rfl, fun j u hj => ?_⟩
      have := own.cells (g := g') rfl j u hj
      rw [L.addr_add] at this
      simpa using this
  clear own
  rcases S.snoc_cases s with rfl | ⟨m, p, rfl⟩
  · rw [S.joinF_nil]
    go_enter Try.func88, Try.ntmps88
    go_wp2
    go_quiet (fail)
    go_wp2_with (at_builtin; go_must (refine wpList_append_own _ rfl _ _ 23 rfl B 99 i0 (.agg #[.int .i32 0, .int .i32 0]) 2 8 Try.underlying23 hi hz0 hz1 hz2 rfl (by decide) _ _ _ rfl ((S.owns_drewN (OW.out.alloc _) _).alloc _) ⟨w.heap.size + 1, 0, none⟩ 1 1 [.int .i32 x1, .int .i32 x2] rfl rfl (fun j u hj => two_new _ _ _ _ _ (by simp) j u hj) (fun x hx => by simp at hx; rcases hx with rfl | rfl <;> rfl) (by unfold maxLen; simp) (by simp) (by simp; omega) ?_; intro v' w3 hown' hgrow3 hnil3))
    go_ret
    refine ⟨v', rfl, by simpa [S.cellsOf_append, S.cellsOf_cons, S.cellsOf_nil] using hown', ?_⟩
    exact S.grown_trans (S.grown_below (below_drewN ((Below.refl _ w).alloc (Nat.le_refl _) _) _)) (S.grown_trans (S.grown_below ((Below.refl _ _).alloc (Nat.le_refl _) _)) hgrow3)
  · rw [S.joinF_snoc]
    obtain ⟨p1, p2⟩ := p
    have hp := hs (p1, p2) (by simp)
    simp only at hp ⊢
    cases ao with
    | none =>
      have := OW.out.1
      rcases OW.out.2 with ⟨_, h0⟩ | ⟨g, cap, cur, h, _⟩
      · simp at h0
      · cases h
    | some g =>
      obtain ⟨hg, hcl⟩ := CL.out g rfl
      obtain ⟨gb, go, gv⟩ := g
      simp only at hg hcl
      cases hg
      have hgl : m[m.length]? = none := by simp
      have e1 : (m ++ [(p1, p2)])[m.length]? = some (p1, p2) := by simp
      have c2 := hcl _ _ (S.cellsOf_get e1).2
      simp only at c2
      have hgb := L.block_lt c2
      have hne : gb ≠ w.heap.size := by omega
      have hlen : (m ++ [(p1, p2)]).length = m.length + 1 := by simp
      generalize hN : (m ++ [(p1, p2)]).length = N at *
      subst hlen
      have hx2 : (m.length : Int) < (m.length : Int) + 1 := by omega
      clear CL hcl e1 hgl
      have HN : Hid _ := hN
      clear hN
      have OWa : Hid (∀ o, (w.alloc o).ownsRow B 99 2 (.slice (some ⟨gb, 0, none⟩) (m.length + 1) cap) (m.length + 1) (S.cellsOf (m ++ [(p1, p2)]))) := fun o => OW.out.alloc o
      have hg0 : decide ((m.length : Int) < 0) = false := by simp
      by_cases hc : p2 + 1 < x1
      · rw [if_pos hc]
        go_enter Try.func88, Try.ntmps88
        go_wp2
        have HQ := S.boxed (wr := w) (t := 99) (a := .int .i32 x1) (b := .int .i32 x2) (Below.refl _ _)
        have OW1 := OWa.out (.cells #[.int .i32 x1, .int .i32 x2] 99)
        generalize w.alloc (.cells #[.int .i32 x1, .int .i32 x2] 99) = w1 at HQ OW1 ⊢
        obtain ⟨⟨d1, d2⟩, hold, hs1, hbl⟩ := HQ
        replace c2 := hold _ _ _ c2
        have HBL : Hid (Below w.heap.size w w1) := hbl
        have hfz : w1.frozen? ⟨gb, m.length * 2 + 1, none⟩ = false := World.ownsRow.frozenAt OW1 _
        replace OW1 : Hid (w1.ownsRow B 99 2 (.slice (some ⟨gb, 0, none⟩) (m.length + 1) cap) (m.length + 1) (S.cellsOf (m ++ [(p1, p2)]))) := OW1
        clear hold hbl
        go_quiet (fail)
        go_wp2_with (at_builtin; go_must (refine wpList_append_own _ rfl _ _ 23 rfl B 99 i0 (.agg #[.int .i32 0, .int .i32 0]) 2 8 Try.underlying23 hi hz0 hz1 hz2 rfl (by decide) _ _ _ rfl ((S.owns_drewN OW1.out _).alloc _) ⟨w1.heap.size, 0, none⟩ 1 1 [.int .i32 x1, .int .i32 x2] rfl rfl (fun j u hj => two_new _ _ _ _ _ (by simp) j u hj) (fun x hx => by simp at hx; rcases hx with rfl | rfl <;> rfl) (by unfold maxLen; omega) (by omega) (by simp; omega) ?_; intro v' w3 hown' hgrow3 hnil3))
        go_ret
        refine ⟨v', rfl, by simpa [S.cellsOf_append, S.cellsOf_cons, S.cellsOf_nil] using hown', ?_⟩
        exact S.grown_trans (S.grown_below (below_drewN HBL.out _)) (S.grown_trans (S.grown_below ((Below.refl _ _).alloc (Nat.le_refl _) _)) hgrow3)
      · rw [if_neg hc]
        go_enter Try.func88, Try.ntmps88
        go_wp2
        have HQ := S.boxed (wr := w) (t := 99) (a := .int .i32 x1) (b := .int .i32 x2) (Below.refl _ _)
        have OW1 := OWa.out (.cells #[.int .i32 x1, .int .i32 x2] 99)
        generalize w.alloc (.cells #[.int .i32 x1, .int .i32 x2] 99) = w1 at HQ OW1 ⊢
        obtain ⟨⟨d1, d2⟩, hold, hs1, hbl⟩ := HQ
        replace c2 := hold _ _ _ c2
        have HBL : Hid (Below w.heap.size w w1) := hbl
        have hfz : w1.frozen? ⟨gb, m.length * 2 + 1, none⟩ = false := World.ownsRow.frozenAt OW1 _
        replace OW1 : Hid (w1.ownsRow B 99 2 (.slice (some ⟨gb, 0, none⟩) (m.length + 1) cap) (m.length + 1) (S.cellsOf (m ++ [(p1, p2)]))) := OW1
        clear hold hbl
        go_quiet (fail)
        go_wp2
        go_region
        have hst := World.ownsRow.stored (S.owns_drewN OW1.out (nq + 1)) (m.length * 2 + 1) (.int .i32 (max p2 x2))
        rw [cellsOf_set] at hst
        have HST : Hid _ := hst
        clear hst
        go_wp2
        go_ret
        refine ⟨_, rfl, by simpa using HST.out.1, ?_⟩
        exact S.grown_trans (S.grown_below (below_drewN HBL.out _)) HST.out.2

end Go.Proofs.Ytdmpmkcigjkilaa
