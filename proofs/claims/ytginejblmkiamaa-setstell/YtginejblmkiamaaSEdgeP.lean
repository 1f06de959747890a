/-
  What the closure within the document's Edges does: laws for its one great statement.
-/
import Derived.Test.YtginejblmkiamaaLawForm
namespace Go.Proofs.Ytginejblmkiamaa
open Go.RowKit

attribute [local go_sem ↓] Go.wp_at_zero Go.wp_at_succ

theorem grown_setb (W : World) (b : Nat) (v : Value) : W.grownBy (W.setCell ⟨b, 0, none⟩ v) (some b) := ⟨rfl, rfl, rfl, by simp, fun k _ hk => heap_setCell_other W ⟨b, 0, none⟩ k v (fun e => hk (by simp [e]))⟩

theorem frz_alloc {w : World} {b : Nat} (h : w.frozen? ⟨b, 0, none⟩ = false) (hlt : b < w.heap.size) (o : Obj) : (w.alloc o).frozen? ⟨b, 0, none⟩ = false := by
  rw [World.frozen?_of_block (a := ⟨b, 0, none⟩) (Below.heap_alloc w o b hlt)]; exact h
theorem cel_alloc {w : World} {b : Nat} {v : Value} (h : w.cell? ⟨b, 0, none⟩ = some v) (o : Obj) : (w.alloc o).cell? ⟨b, 0, none⟩ = some v := by
  rw [World.cell?_of_block (a := ⟨b, 0, none⟩) (Below.heap_alloc w o b (L.block_lt h))]; exact h

theorem take_cells {W X : World} {g : Nat} {zs : List Int} (HC : ∀ j z, zs[j]? = some z → W.cell? ⟨g, j, none⟩ = some (.int .i32 z)) (hb : Below W.heap.size W X) (k : Nat) (j : Nat) (u : Value) (hj : ((zs.take k).map (Value.int .i32))[j]? = some u) : X.cell? ((⟨g, 0, none⟩ : Addr).add j) = some u := by
  rw [List.getElem?_map, List.getElem?_take] at hj
  split at hj
  · cases hz : zs[j]? with
    | none => rw [hz] at hj; simp at hj
    | some z =>
      rw [hz] at hj
      simp at hj
      subst hj
      have h1 := HC j z hz
      rw [L.addr_add, Nat.zero_add, hb.cell (p := ⟨g, j, none⟩) (L.block_lt h1)]
      exact h1
  · simp at hj
theorem drop_cells {W X : World} {g : Nat} {zs : List Int} (HC : ∀ j z, zs[j]? = some z → W.cell? ⟨g, j, none⟩ = some (.int .i32 z)) (hb : Below W.heap.size W X) (k : Nat) (j : Nat) (u : Value) (hj : ((zs.drop k).map (Value.int .i32))[j]? = some u) : X.cell? ((⟨g, k, none⟩ : Addr).add j) = some u := by
  rw [List.getElem?_map, List.getElem?_drop] at hj
  cases hz : zs[k + j]? with
  | none => rw [hz] at hj; simp at hj
  | some z =>
    rw [hz] at hj
    simp at hj
    subst hj
    have h1 := HC (k + j) z hz
    rw [L.addr_add, hb.cell (p := ⟨g, k + j, none⟩) (L.block_lt h1)]
    exact h1
theorem cell_one_new0 (w : World) (v : Value) (t : TypeId) : (w.alloc (.cells #[v] t)).cell? ⟨w.heap.size, 0, none⟩ = some v := by
  rw [World.cell?_alloc_at _ _ _ _ (by simp)]; rfl
theorem one_cell {X : World} {b : Nat} {z : Int} (h : X.cell? ⟨b, 0, none⟩ = some (.int .i32 z)) (j : Nat) (u : Value) (hj : [Value.int .i32 z][j]? = some u) : X.cell? ((⟨b, 0, none⟩ : Addr).add j) = some u := by
  match j, hj with
  | 0, hj => simp at hj; subst hj; rw [L.addr_add]; exact h
  | j + 1, hj => simp at hj

/-- append at a step of a region that draws its order, beside a box that stays -/
theorem step_append_k {P : Program} {w W0 : World} {b : Nat} {vb : Value} {ops : Array Oper} {o : Oper} {a : Act} {K : Act → World → Prop} {Q : Exit → Act → World → Prop} {E : Prop} (hgd : o.guard = none) (s x : Operand) (t : TypeId)
    (ho : o.op = .call { callee := .builtin .append, args := #[s, x], argTypes := #[t, t] })
    (e : TypeId) (i : TypeInfo) (z : Value) (size bytes : Nat) (ht : P.underlying t = some (.slice e)) (hi : P.info? e = some i) (hz : i.zero = some z)
    (hsize : i.size = size) (hby : i.bytes = bytes) (hzs : z.cells.size = size) (hsz : 0 < size)
    (v : Value) (n : Nat) (xs : List Value) (hs : a.eval s = v) (hown : w.ownsRow W0.heap.size e size v n xs)
    (ad : Addr) (m c : Nat) (news : List Value) (hx : a.eval x = .slice (some ad) m c) (hl : news.length = m * size) (hnews : ∀ j u, news[j]? = some u → w.cell? (ad.add j) = some u) (h1 : ∀ u ∈ news, u.oneCell' = true)
    (h63 : n + m ≤ maxLen) (hbytes : (n + m) * bytes ≤ 140737488355328)
    (hst : (w.cell? ⟨b, 0, none⟩ = some vb ∧ w.frozen? ⟨b, 0, none⟩ = false) ∧ Below W0.heap.size W0 w) (hb : b < W0.heap.size)
    (h : ∀ v' w', w'.ownsRow W0.heap.size e size v' (n + m) (xs ++ news) → w.grownBy w' v.ownBlock → (w'.cell? ⟨b, 0, none⟩ = some vb ∧ w'.frozen? ⟨b, 0, none⟩ = false) → Below W0.heap.size W0 w' → K (a.put o.dst v') w') :
    if Region.wanted o (yielded ops a.tmps) = true then Oper.wp P o a w K Q else E := by
  have hbs := hst.2.size
  refine step_append_o hgd s x t ho W0.heap.size e i z size bytes ht hi hz hsize hby hzs hsz v n xs hs hown ad m c news hx hl hnews h1 h63 hbytes hbs fun v' w' h2 h3 => h v' w' h2 h3 ?_ (Below.grown hst.2 h3 hbs fun k hk => (hown.lt k hk).1)
  have hne : some b ≠ v.ownBlock := fun e => by have := (hown.lt b e.symm).1; omega
  have hlt : b < w.heap.size := by omega
  exact ⟨by rw [World.cell?_of_block (a := ⟨b, 0, none⟩) (h3.block b hlt hne)]; exact hst.1.1, by rw [World.frozen?_of_block (a := ⟨b, 0, none⟩) (h3.block b hlt hne)]; exact hst.1.2⟩

/-- append at a step of a region that draws its order, beside a box that stays, the new slice written out -/
theorem step_append_s {P : Program} {w W0 : World} {b : Nat} {vb : Value} {ops : Array Oper} {o : Oper} {a : Act} {K : Act → World → Prop} {Q : Exit → Act → World → Prop} {E : Prop} (hgd : o.guard = none) (s x : Operand) (t : TypeId)
    (ho : o.op = .call { callee := .builtin .append, args := #[s, x], argTypes := #[t, t] })
    (e : TypeId) (i : TypeInfo) (z : Value) (size bytes : Nat) (ht : P.underlying t = some (.slice e)) (hi : P.info? e = some i) (hz : i.zero = some z)
    (hsize : i.size = size) (hby : i.bytes = bytes) (hzs : z.cells.size = size) (hsz : 0 < size)
    (v : Value) (n : Nat) (xs : List Value) (hs : a.eval s = v) (hown : w.ownsRow W0.heap.size e size v n xs)
    (ad : Addr) (m c : Nat) (news : List Value) (hx : a.eval x = .slice (some ad) m c) (hl : news.length = m * size) (hnews : ∀ j u, news[j]? = some u → w.cell? (ad.add j) = some u) (h1 : ∀ u ∈ news, u.oneCell' = true)
    (h63 : n + m ≤ maxLen) (hbytes : (n + m) * bytes ≤ 140737488355328)
    (hst : (w.cell? ⟨b, 0, none⟩ = some vb ∧ w.frozen? ⟨b, 0, none⟩ = false) ∧ Below W0.heap.size W0 w) (hb : b < W0.heap.size)
    (N : Nat) (ys : List Value) (hN : n + m = N) (hys : xs ++ news = ys) (hpos : 0 < N)
    (h : ∀ g' cap' w', w'.ownsRow W0.heap.size e size (.slice (some ⟨g', 0, none⟩) N cap') N ys → (w'.cell? ⟨b, 0, none⟩ = some vb ∧ w'.frozen? ⟨b, 0, none⟩ = false) → Below W0.heap.size W0 w' → K (a.put o.dst (.slice (some ⟨g', 0, none⟩) N cap')) w') :
    if Region.wanted o (yielded ops a.tmps) = true then Oper.wp P o a w K Q else E := by
  subst hN hys
  exact step_append_k hgd s x t ho e i z size bytes ht hi hz hsize hby hzs hsz v n xs hs hown ad m c news hx hl hnews h1 h63 hbytes hst hb fun v' w' h2 _ h4 h5 => by
    rcases h2.2 with ⟨_, h0⟩ | ⟨g', cap', cur, rfl, _⟩
    · omega
    · exact h g' cap' w' h2 h4 h5

/-- the list behind the store -/
theorem put_ins {zs : List Int} {r : Int} {k : Nat} (hk : k ≤ zs.length) (hlow : S.lowF zs r = k) (hc : ¬ (1114111 < r ∨ zs[k]? = some r)) :
    0 + k + 1 + (zs.length - k) = (S.insF zs r).length ∧ [] ++ (zs.take k).map (Value.int .i32) ++ [.int .i32 r] ++ (zs.drop k).map (Value.int .i32) = (S.insF zs r).map (Value.int .i32) ∧ 0 < (S.insF zs r).length := by
  have e : S.insF zs r = zs.take k ++ [r] ++ zs.drop k := by unfold S.insF; rw [hlow, if_neg hc]
  have hl : 0 + k + 1 + (zs.length - k) = (S.insF zs r).length := by rw [e]; simp [List.length_take, List.length_drop]; omega
  exact ⟨hl, by rw [e]; simp, by omega⟩

/-- what the box holds behind the store -/
theorem put_fin {wr w3 : World} {B bo g3 cap3 : Nat} {zs : List Int} {v0 : Value} (X : S.Bx wr bo 52 v0) (hbo : bo < wr.heap.size) (hB : B ≤ wr.heap.size)
    (own : w3.ownsRow wr.heap.size 21 1 (.slice (some ⟨g3, 0, none⟩) zs.length cap3) zs.length (zs.map (Value.int .i32))) (bl : Below wr.heap.size wr w3) :
    ∃ g' cap', S.Bx (w3.setCell ⟨bo, 0, none⟩ (.slice (some ⟨g3, 0, none⟩) zs.length cap3)) bo 52 (.slice (some ⟨g', 0, none⟩) zs.length cap') ∧ (w3.setCell ⟨bo, 0, none⟩ (.slice (some ⟨g3, 0, none⟩) zs.length cap3)).ownsRow B 21 1 (.slice (some ⟨g', 0, none⟩) zs.length cap') zs.length (zs.map (Value.int .i32)) ∧ wr.grownBy (w3.setCell ⟨bo, 0, none⟩ (.slice (some ⟨g3, 0, none⟩) zs.length cap3)) (some bo) :=
  ⟨g3, cap3, (X.below bl (by omega)).set _, L.owns_base (ownsRow_setCell_below own (a := ⟨bo, 0, none⟩) (by show bo < _; omega) _) hB, S.grown_trans (S.grown_below bl) (grown_setb _ _ _)⟩

end Go.Proofs.Ytginejblmkiamaa
