/-
  What the closure within the document's Edges does: one number is put into a rising list.
-/
import Derived.Test.YtdmpmkcigjkilaaSWrong
import Derived.RegionTactic
import Derived.Laws.OwnMore
import Derived.Deep.RegionHeld3
import Derived.Deep.DrawnRows
import Derived.Deep.AppendLies
import Derived.Deep.RegionLaw
namespace Go.Proofs.Ytdmpmkcigjkilaa.S
/-- how many are less -/
def lowF : List Int → Int → Nat
  | [], _ => 0
  | x :: zs, r => if x < r then lowF zs r + 1 else 0
def insF (zs : List Int) (r : Int) : List Int := if 1114111 < r ∨ zs[lowF zs r]? = some r then zs else zs.take (lowF zs r) ++ [r] ++ zs.drop (lowF zs r)

theorem lowF_spec (zs : List Int) (r : Int) : lowF zs r ≤ zs.length ∧ (∀ i z, i < lowF zs r → zs[i]? = some z → z < r) ∧ (∀ z, zs[lowF zs r]? = some z → r ≤ z) := by
  induction zs with
  | nil => exact ⟨by simp [lowF], fun i z h => by simp [lowF] at h, fun z h => by simp at h⟩
  | cons x zs ih =>
    by_cases hx : x < r
    · simp only [lowF, hx, if_true]
      refine ⟨by simp; exact ih.1, fun i z hi hz => ?_, fun z hz => ih.2.2 z (by simpa using hz)⟩
      cases i with
      | zero => simp at hz; omega
      | succ i => exact ih.2.1 i z (by omega) (by simpa using hz)
    · simp only [lowF, hx, if_false]
      exact ⟨by omega, fun i z h => by omega, fun z hz => by simp at hz; omega⟩
theorem lowF_le (zs : List Int) (r : Int) : lowF zs r ≤ zs.length := (lowF_spec zs r).1
theorem lowF_eq {zs : List Int} {r : Int} {k : Nat} (h1 : ∀ i z, i < k → zs[i]? = some z → z < r) (hk : k ≤ zs.length) (h2 : ∀ z, zs[k]? = some z → ¬ z < r) : lowF zs r = k := by
  obtain ⟨a, b, c⟩ := lowF_spec zs r
  rcases Nat.lt_trichotomy (lowF zs r) k with h | h | h
  · obtain ⟨z, hz⟩ : ∃ z, zs[lowF zs r]? = some z := ⟨zs[lowF zs r]'(by omega), by simp [show lowF zs r < zs.length by omega]⟩
    have := h1 _ z h hz
    have := c z hz
    omega
  · exact h
  · obtain ⟨z, hz⟩ : ∃ z, zs[k]? = some z := ⟨zs[k]'(by omega), by simp [show k < zs.length by omega]⟩
    exact absurd (b k z h hz) (h2 z hz)

theorem insF_spec {zs : List Int} {r : Int} (hs : zs.Pairwise (· < ·)) : (insF zs r).Pairwise (· < ·) ∧ (∀ q, q ∈ insF zs r ↔ q ∈ zs ∨ (q = r ∧ r ≤ 1114111)) ∧ (insF zs r).length ≤ zs.length + 1 := by
  have hlow : ∀ z ∈ zs.take (lowF zs r), z < r := by
    intro z hz
    obtain ⟨i, hi⟩ := List.getElem?_of_mem hz
    rw [List.getElem?_take] at hi
    split at hi
    · exact (lowF_spec zs r).2.1 i z (by assumption) hi
    · cases hi
  have hhigh : ∀ z, zs[lowF zs r]? = some z → r ≤ z := (lowF_spec zs r).2.2
  have hdrop : ∀ z ∈ zs.drop (lowF zs r), r ≤ z ∧ (z = r → zs[lowF zs r]? = some r) := by
    intro z hz
    obtain ⟨i, hi⟩ := List.getElem?_of_mem hz
    rw [List.getElem?_drop] at hi
    obtain ⟨y, hy⟩ : ∃ y, zs[lowF zs r]? = some y := by
      have := (List.getElem?_eq_some_iff.1 hi).1
      exact ⟨zs[lowF zs r]'(by omega), by simp [show lowF zs r < zs.length by omega]⟩
    have hy2 := hhigh y hy
    by_cases e : i = 0
    · subst e
      rw [Nat.add_zero, hy] at hi
      cases hi
      exact ⟨hy2, fun h => by rw [hy, h]⟩
    · have h1 := (List.getElem?_eq_some_iff.1 hi).1
      have h2 := (List.getElem?_eq_some_iff.1 hy).1
      have := (List.pairwise_iff_getElem.1 hs) (lowF zs r) (lowF zs r + i) h2 h1 (by omega)
      rw [List.getElem?_eq_getElem h1] at hi
      rw [List.getElem?_eq_getElem h2] at hy
      cases hi; cases hy
      exact ⟨by omega, fun h => by omega⟩
  unfold insF
  by_cases hc : 1114111 < r ∨ zs[lowF zs r]? = some r
  · rw [if_pos hc]
    refine ⟨hs, fun q => ⟨Or.inl, fun h => ?_⟩, by omega⟩
    rcases h with h | ⟨rfl, h⟩
    · exact h
    · rcases hc with hc | hc
      · omega
      · exact List.mem_of_getElem? hc
  · rw [if_neg hc]
    have hne : ∀ z ∈ zs.drop (lowF zs r), r < z := fun z hz => by
      have h1 := hdrop z hz
      rcases Int.lt_trichotomy r z with h | h | h
      · exact h
      · exact absurd (.inr (h1.2 h.symm)) hc
      · omega
    refine ⟨?_, fun q => ?_, by simp [List.length_take, List.length_drop]; have := lowF_le zs r; omega⟩
    · rw [List.append_assoc, List.pairwise_append]
      refine ⟨hs.sublist (List.take_sublist _ _), ?_, ?_⟩
      · rw [List.singleton_append, List.pairwise_cons]
        exact ⟨hne, hs.sublist (List.drop_sublist _ _)⟩
      · intro x hx y hy
        have := hlow x hx
        rw [List.singleton_append, List.mem_cons] at hy
        rcases hy with rfl | hy
        · exact this
        · have := hne y hy; omega
    · rw [List.mem_append, List.mem_append, List.mem_singleton]
      have e : q ∈ zs ↔ q ∈ zs.take (lowF zs r) ∨ q ∈ zs.drop (lowF zs r) := by
        conv => lhs; rw [← List.take_append_drop (lowF zs r) zs]
        exact List.mem_append
      rw [e]
      have : r ≤ 1114111 := by omega
      constructor
      · rintro ((h | h) | h)
        · exact .inl (.inl h)
        · exact .inr ⟨h, this⟩
        · exact .inl (.inr h)
      · rintro ((h | h) | h)
        · exact .inl (.inl h)
        · exact .inr h
        · exact .inl (.inr h.1)
end Go.Proofs.Ytdmpmkcigjkilaa.S

/-
  append at a step of a region that draws its order.
-/
namespace Go.Proofs.Ytdmpmkcigjkilaa
open Go.RowKit

/-- append at a step of a region that draws its order -/
theorem step_append_o {P : Program} {w : World} {ops : Array Oper} {o : Oper} {a : Act} {K : Act → World → Prop} {Q : Exit → Act → World → Prop} {E : Prop} (hgd : o.guard = none) (s x : Operand) (t : TypeId)
    (ho : o.op = .call { callee := .builtin .append, args := #[s, x], argTypes := #[t, t] })
    (base : Nat) (e : TypeId) (i : TypeInfo) (z : Value) (size bytes : Nat) (ht : P.underlying t = some (.slice e)) (hi : P.info? e = some i) (hz : i.zero = some z)
    (hsize : i.size = size) (hby : i.bytes = bytes) (hzs : z.cells.size = size) (hsz : 0 < size)
    (v : Value) (n : Nat) (xs : List Value) (hs : a.eval s = v) (hown : w.ownsRow base e size v n xs)
    (ad : Addr) (m c : Nat) (news : List Value) (hx : a.eval x = .slice (some ad) m c) (hl : news.length = m * size) (hnews : ∀ j u, news[j]? = some u → w.cell? (ad.add j) = some u) (h1 : ∀ u ∈ news, u.oneCell' = true)
    (h63 : n + m ≤ maxLen) (hbytes : (n + m) * bytes ≤ 140737488355328) (hbase : base ≤ w.heap.size)
    (h : ∀ v' w', w'.ownsRow base e size v' (n + m) (xs ++ news) → w.grownBy w' v.ownBlock → K (a.put o.dst v') w') :
    if Region.wanted o (yielded ops a.tmps) = true then Oper.wp P o a w K Q else E := by
  have hw : Region.wanted o (yielded ops a.tmps) = true := by simp [Region.wanted, hgd]
  rw [if_pos hw]
  exact wp_append_own w s x t ho base e i z size bytes ht hi hz hsize hby hzs hsz v n xs hs hown ad m c news hx hl hnews h1 h63 hbytes hbase fun v' w' h2 h3 _ => h v' w' h2 h3
theorem owns_heap {w w' : World} {base : Nat} {e : TypeId} {size : Nat} {v : Value} {n : Nat} {xs : List Value} (h : w.ownsRow base e size v n xs) (hh : w'.heap = w.heap) : w'.ownsRow base e size v n xs := by
  obtain ⟨h1, h2⟩ := h
  refine ⟨h1, ?_⟩
  rcases h2 with h2 | ⟨g, cap, cur, hv, hg, hx, r⟩
  · exact .inl h2
  · exact .inr ⟨g, cap, cur, hv, hg, by rw [hh]; exact hx, r⟩

end Go.Proofs.Ytdmpmkcigjkilaa

/-
  What the closure within the document's Edges does: laws for its one great statement.
-/
namespace Go.Proofs.Ytdmpmkcigjkilaa
open Go.RowKit

attribute [local go_sem ↓] Go.wp_at_zero Go.wp_at_succ

theorem grown_setb (W : World) (b : Nat) (v : Value) : W.grownBy (W.setCell ⟨b, 0, none⟩ v) (some b) := ⟨rfl, rfl, rfl, by simp, fun k _ hk => heap_setCell_other W ⟨b, 0, none⟩ k v (fun e => hk (by simp [e]))⟩

theorem frz_alloc {w : World} {b : Nat} (h : w.frozen? ⟨b, 0, none⟩ = false) (hlt : b < w.heap.size) (o : Obj) : (w.alloc o).frozen? ⟨b, 0, none⟩ = false := by
  rw [World.frozen?_of_block (a := ⟨b, 0, none⟩) (Below.heap_alloc w o b hlt)]; exact h
theorem cel_alloc {w : World} {b : Nat} {v : Value} (h : w.cell? ⟨b, 0, none⟩ = some v) (o : Obj) : (w.alloc o).cell? ⟨b, 0, none⟩ = some v := by
  rw [World.cell?_of_block (a := ⟨b, 0, none⟩) (Below.heap_alloc w o b (L.block_lt h))]; exact h

theorem take_cells {W X : World} {g : Nat} {zs : List Int} (HC : ∀ j z, zs[j]? = some z → W.cell? ⟨g, j, none⟩ = some (.int .i32 z)) (hb : Below W.heap.size W X) (k : Nat) (j : Nat) (u : Value) (hj : ((zs.take k).map (Value.int .i32))[j]? = some u) : X.cell? ((⟨g, 0, none⟩ : Addr).add j) = some u := by
  rw [List.getElem?_map, List.getElem?_take] at hj
  split at hj
  · cases hz : zs[j]? with
    | none => rw [hz] at hj; simp at hj
    | some z =>
      rw [hz] at hj
      simp at hj
      subst hj
      have h1 := HC j z hz
      rw [L.addr_add, Nat.zero_add, hb.cell (p := ⟨g, j, none⟩) (L.block_lt h1)]
      exact h1
  · simp at hj
theorem drop_cells {W X : World} {g : Nat} {zs : List Int} (HC : ∀ j z, zs[j]? = some z → W.cell? ⟨g, j, none⟩ = some (.int .i32 z)) (hb : Below W.heap.size W X) (k : Nat) (j : Nat) (u : Value) (hj : ((zs.drop k).map (Value.int .i32))[j]? = some u) : X.cell? ((⟨g, k, none⟩ : Addr).add j) = some u := by
  rw [List.getElem?_map, List.getElem?_drop] at hj
  cases hz : zs[k + j]? with
  | none => rw [hz] at hj; simp at hj
  | some z =>
    rw [hz] at hj
    simp at hj
    subst hj
    have h1 := HC (k + j) z hz
    rw [L.addr_add, hb.cell (p := ⟨g, k + j, none⟩) (L.block_lt h1)]
    exact h1
theorem cell_one_new0 (w : World) (v : Value) (t : TypeId) : (w.alloc (.cells #[v] t)).cell? ⟨w.heap.size, 0, none⟩ = some v := by
  rw [World.cell?_alloc_at _ _ _ _ (by simp)]; rfl
theorem one_cell {X : World} {b : Nat} {z : Int} (h : X.cell? ⟨b, 0, none⟩ = some (.int .i32 z)) (j : Nat) (u : Value) (hj : [Value.int .i32 z][j]? = some u) : X.cell? ((⟨b, 0, none⟩ : Addr).add j) = some u := by
  match j, hj with
  | 0, hj => simp at hj; subst hj; rw [L.addr_add]; exact h
  | j + 1, hj => simp at hj

/-- append at a step of a region that draws its order, beside a box that stays -/
theorem step_append_k {P : Program} {w W0 : World} {b : Nat} {vb : Value} {ops : Array Oper} {o : Oper} {a : Act} {K : Act → World → Prop} {Q : Exit → Act → World → Prop} {E : Prop} (hgd : o.guard = none) (s x : Operand) (t : TypeId)
    (ho : o.op = .call { callee := .builtin .append, args := #[s, x], argTypes := #[t, t] })
    (e : TypeId) (i : TypeInfo) (z : Value) (size bytes : Nat) (ht : P.underlying t = some (.slice e)) (hi : P.info? e = some i) (hz : i.zero = some z)
    (hsize : i.size = size) (hby : i.bytes = bytes) (hzs : z.cells.size = size) (hsz : 0 < size)
    (v : Value) (n : Nat) (xs : List Value) (hs : a.eval s = v) (hown : w.ownsRow W0.heap.size e size v n xs)
    (ad : Addr) (m c : Nat) (news : List Value) (hx : a.eval x = .slice (some ad) m c) (hl : news.length = m * size) (hnews : ∀ j u, news[j]? = some u → w.cell? (ad.add j) = some u) (h1 : ∀ u ∈ news, u.oneCell' = true)
    (h63 : n + m ≤ maxLen) (hbytes : (n + m) * bytes ≤ 140737488355328)
    (hst : (w.cell? ⟨b, 0, none⟩ = some vb ∧ w.frozen? ⟨b, 0, none⟩ = false) ∧ Below W0.heap.size W0 w) (hb : b < W0.heap.size)
    (h : ∀ v' w', w'.ownsRow W0.heap.size e size v' (n + m) (xs ++ news) → w.grownBy w' v.ownBlock → (w'.cell? ⟨b, 0, none⟩ = some vb ∧ w'.frozen? ⟨b, 0, none⟩ = false) → Below W0.heap.size W0 w' → K (a.put o.dst v') w') :
    if Region.wanted o (yielded ops a.tmps) = true then Oper.wp P o a w K Q else E := by
  have hbs := hst.2.size
  refine step_append_o hgd s x t ho W0.heap.size e i z size bytes ht hi hz hsize hby hzs hsz v n xs hs hown ad m c news hx hl hnews h1 h63 hbytes hbs fun v' w' h2 h3 => h v' w' h2 h3 ?_ (Below.grown hst.2 h3 hbs fun k hk => (hown.lt k hk).1)
  have hne : some b ≠ v.ownBlock := fun e => by have := (hown.lt b e.symm).1; omega
  have hlt : b < w.heap.size := by omega
  exact ⟨by rw [World.cell?_of_block (a := ⟨b, 0, none⟩) (h3.block b hlt hne)]; exact hst.1.1, by rw [World.frozen?_of_block (a := ⟨b, 0, none⟩) (h3.block b hlt hne)]; exact hst.1.2⟩

/-- append at a step of a region that draws its order, beside a box that stays, the new slice written out -/
theorem step_append_s {P : Program} {w W0 : World} {b : Nat} {vb : Value} {ops : Array Oper} {o : Oper} {a : Act} {K : Act → World → Prop} {Q : Exit → Act → World → Prop} {E : Prop} (hgd : o.guard = none) (s x : Operand) (t : TypeId)
    (ho : o.op = .call { callee := .builtin .append, args := #[s, x], argTypes := #[t, t] })
    (e : TypeId) (i : TypeInfo) (z : Value) (size bytes : Nat) (ht : P.underlying t = some (.slice e)) (hi : P.info? e = some i) (hz : i.zero = some z)
    (hsize : i.size = size) (hby : i.bytes = bytes) (hzs : z.cells.size = size) (hsz : 0 < size)
    (v : Value) (n : Nat) (xs : List Value) (hs : a.eval s = v) (hown : w.ownsRow W0.heap.size e size v n xs)
    (ad : Addr) (m c : Nat) (news : List Value) (hx : a.eval x = .slice (some ad) m c) (hl : news.length = m * size) (hnews : ∀ j u, news[j]? = some u → w.cell? (ad.add j) = some u) (h1 : ∀ u ∈ news, u.oneCell' = true)
    (h63 : n + m ≤ maxLen) (hbytes : (n + m) * bytes ≤ 140737488355328)
    (hst : (w.cell? ⟨b, 0, none⟩ = some vb ∧ w.frozen? ⟨b, 0, none⟩ = false) ∧ Below W0.heap.size W0 w) (hb : b < W0.heap.size)
    (N : Nat) (ys : List Value) (hN : n + m = N) (hys : xs ++ news = ys) (hpos : 0 < N)
    (h : ∀ g' cap' w', w'.ownsRow W0.heap.size e size (.slice (some ⟨g', 0, none⟩) N cap') N ys → (w'.cell? ⟨b, 0, none⟩ = some vb ∧ w'.frozen? ⟨b, 0, none⟩ = false) → Below W0.heap.size W0 w' → K (a.put o.dst (.slice (some ⟨g', 0, none⟩) N cap')) w') :
    if Region.wanted o (yielded ops a.tmps) = true then Oper.wp P o a w K Q else E := by
  subst hN hys
  exact step_append_k hgd s x t ho e i z size bytes ht hi hz hsize hby hzs hsz v n xs hs hown ad m c news hx hl hnews h1 h63 hbytes hst hb fun v' w' h2 _ h4 h5 => by
    rcases h2.2 with ⟨_, h0⟩ | ⟨g', cap', cur, rfl, _⟩
    · omega
    · exact h g' cap' w' h2 h4 h5

/-- the list behind the store -/
theorem put_ins {zs : List Int} {r : Int} {k : Nat} (hk : k ≤ zs.length) (hlow : S.lowF zs r = k) (hc : ¬ (1114111 < r ∨ zs[k]? = some r)) :
    0 + k + 1 + (zs.length - k) = (S.insF zs r).length ∧ [] ++ (zs.take k).map (Value.int .i32) ++ [.int .i32 r] ++ (zs.drop k).map (Value.int .i32) = (S.insF zs r).map (Value.int .i32) ∧ 0 < (S.insF zs r).length := by
  have e : S.insF zs r = zs.take k ++ [r] ++ zs.drop k := by unfold S.insF; rw [hlow, if_neg hc]
  have hl : 0 + k + 1 + (zs.length - k) = (S.insF zs r).length := by rw [e]; simp [List.length_take, List.length_drop]; omega
  exact ⟨hl, by rw [e]; simp, by omega⟩

/-- what the box holds behind the store -/
theorem put_fin {wr w3 : World} {B bo g3 cap3 : Nat} {zs : List Int} {v0 : Value} (X : S.Bx wr bo 62 v0) (hbo : bo < wr.heap.size) (hB : B ≤ wr.heap.size)
    (own : w3.ownsRow wr.heap.size 21 1 (.slice (some ⟨g3, 0, none⟩) zs.length cap3) zs.length (zs.map (Value.int .i32))) (bl : Below wr.heap.size wr w3) :
    ∃ g' cap', S.Bx (w3.setCell ⟨bo, 0, none⟩ (.slice (some ⟨g3, 0, none⟩) zs.length cap3)) bo 62 (.slice (some ⟨g', 0, none⟩) zs.length cap') ∧ (w3.setCell ⟨bo, 0, none⟩ (.slice (some ⟨g3, 0, none⟩) zs.length cap3)).ownsRow B 21 1 (.slice (some ⟨g', 0, none⟩) zs.length cap') zs.length (zs.map (Value.int .i32)) ∧ wr.grownBy (w3.setCell ⟨bo, 0, none⟩ (.slice (some ⟨g3, 0, none⟩) zs.length cap3)) (some bo) :=
  ⟨g3, cap3, (X.below bl (by omega)).set _, L.owns_base (ownsRow_setCell_below own (a := ⟨bo, 0, none⟩) (by show bo < _; omega) _) hB, S.grown_trans (S.grown_below bl) (grown_setb _ _ _)⟩

end Go.Proofs.Ytdmpmkcigjkilaa
