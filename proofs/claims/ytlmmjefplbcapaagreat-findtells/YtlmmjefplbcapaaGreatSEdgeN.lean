/-
  What the closure within the document's Edges does: laws for its one great statement.
-/
import Derived.Test.YtlmmjefplbcapaaGreatSStepO
namespace Go.Proofs.YtlmmjefplbcapaaGreat
open Go.RowKit

attribute [local go_sem ↓] Go.wp_at_zero Go.wp_at_succ

theorem grown_setb (W : World) (b : Nat) (v : Value) : W.grownBy (W.setCell ⟨b, 0, none⟩ v) (some b) := ⟨rfl, rfl, rfl, by simp, fun k _ hk => heap_setCell_other W ⟨b, 0, none⟩ k v (fun e => hk (by simp [e]))⟩

theorem frz_alloc {w : World} {b : Nat} (h : w.frozen? ⟨b, 0, none⟩ = false) (hlt : b < w.heap.size) (o : Obj) : (w.alloc o).frozen? ⟨b, 0, none⟩ = false := by
  rw [World.frozen?_of_block (a := ⟨b, 0, none⟩) (Below.heap_alloc w o b hlt)]; exact h
theorem cel_alloc {w : World} {b : Nat} {v : Value} (h : w.cell? ⟨b, 0, none⟩ = some v) (o : Obj) : (w.alloc o).cell? ⟨b, 0, none⟩ = some v := by
  rw [World.cell?_of_block (a := ⟨b, 0, none⟩) (Below.heap_alloc w o b (L.block_lt h))]; exact h

theorem take_cells {W X : World} {g : Nat} {zs : List Int} (HC : ∀ j z, zs[j]? = some z → W.cell? ⟨g, j, none⟩ = some (.int .i32 z)) (hb : Below W.heap.size W X) (k : Nat) (j : Nat) (u : Value) (hj : ((zs.take k).map (Value.int .i32))[j]? = some u) : X.cell? ((⟨g, 0, none⟩ : Addr).add j) = some u := by
  rw [List.getElem?_map, List.getElem?_take] at hj
  split at hj
  · cases hz : zs[j]? with
    | none => rw [hz] at hj; simp at hj
    | some z =>
      rw [hz] at hj
      simp at hj
      subst hj
      have h1 := HC j z hz
      rw [L.addr_add, Nat.zero_add, hb.cell (p := ⟨g, j, none⟩) (L.block_lt h1)]
      exact h1
  · simp at hj
theorem drop_cells {W X : World} {g : Nat} {zs : List Int} (HC : ∀ j z, zs[j]? = some z → W.cell? ⟨g, j, none⟩ = some (.int .i32 z)) (hb : Below W.heap.size W X) (k : Nat) (j : Nat) (u : Value) (hj : ((zs.drop k).map (Value.int .i32))[j]? = some u) : X.cell? ((⟨g, k, none⟩ : Addr).add j) = some u := by
  rw [List.getElem?_map, List.getElem?_drop] at hj
  cases hz : zs[k + j]? with
  | none => rw [hz] at hj; simp at hj
  | some z =>
    rw [hz] at hj
    simp at hj
    subst hj
    have h1 := HC (k + j) z hz
    rw [L.addr_add, hb.cell (p := ⟨g, k + j, none⟩) (L.block_lt h1)]
    exact h1
theorem cell_one_new0 (w : World) (v : Value) (t : TypeId) : (w.alloc (.cells #[v] t)).cell? ⟨w.heap.size, 0, none⟩ = some v := by
  rw [World.cell?_alloc_at _ _ _ _ (by simp)]; rfl
theorem one_cell {X : World} {b : Nat} {z : Int} (h : X.cell? ⟨b, 0, none⟩ = some (.int .i32 z)) (j : Nat) (u : Value) (hj : [Value.int .i32 z][j]? = some u) : X.cell? ((⟨b, 0, none⟩ : Addr).add j) = some u := by
  match j, hj with
  | 0, hj => simp at hj; subst hj; rw [L.addr_add]; exact h
  | j + 1, hj => simp at hj

/-- append at a step of a region that draws its order, beside a box that stays -/
theorem step_append_k {P : Program} {w W0 : World} {b : Nat} {vb : Value} {ops : Array Oper} {o : Oper} {a : Act} {K : Act → World → Prop} {Q : Exit → Act → World → Prop} {E : Prop} (hgd : o.guard = none) (s x : Operand) (t : TypeId)
    (ho : o.op = .call { callee := .builtin .append, args := #[s, x], argTypes := #[t, t] })
    (e : TypeId) (i : TypeInfo) (z : Value) (size bytes : Nat) (ht : P.underlying t = some (.slice e)) (hi : P.info? e = some i) (hz : i.zero = some z)
    (hsize : i.size = size) (hby : i.bytes = bytes) (hzs : z.cells.size = size) (hsz : 0 < size)
    (v : Value) (n : Nat) (xs : List Value) (hs : a.eval s = v) (hown : w.ownsRow W0.heap.size e size v n xs)
    (ad : Addr) (m c : Nat) (news : List Value) (hx : a.eval x = .slice (some ad) m c) (hl : news.length = m * size) (hnews : ∀ j u, news[j]? = some u → w.cell? (ad.add j) = some u) (h1 : ∀ u ∈ news, u.oneCell' = true)
    (h63 : n + m ≤ maxLen) (hbytes : (n + m) * bytes ≤ 140737488355328)
    (hst : (w.cell? ⟨b, 0, none⟩ = some vb ∧ w.frozen? ⟨b, 0, none⟩ = false) ∧ Below W0.heap.size W0 w) (hb : b < W0.heap.size)
    (h : ∀ v' w', w'.ownsRow W0.heap.size e size v' (n + m) (xs ++ news) → w.grownBy w' v.ownBlock → (w'.cell? ⟨b, 0, none⟩ = some vb ∧ w'.frozen? ⟨b, 0, none⟩ = false) → Below W0.heap.size W0 w' → K (a.put o.dst v') w') :
    if Region.wanted o (yielded ops a.tmps) = true then Oper.wp P o a w K Q else E := by
  have hbs := hst.2.size
  refine step_append_o hgd s x t ho W0.heap.size e i z size bytes ht hi hz hsize hby hzs hsz v n xs hs hown ad m c news hx hl hnews h1 h63 hbytes hbs fun v' w' h2 h3 => h v' w' h2 h3 ?_ (Below.grown hst.2 h3 hbs fun k hk => (hown.lt k hk).1)
  have hne : some b ≠ v.ownBlock := fun e => by have := (hown.lt b e.symm).1; omega
  have hlt : b < w.heap.size := by omega
  exact ⟨by rw [World.cell?_of_block (a := ⟨b, 0, none⟩) (h3.block b hlt hne)]; exact hst.1.1, by rw [World.frozen?_of_block (a := ⟨b, 0, none⟩) (h3.block b hlt hne)]; exact hst.1.2⟩

/-- append at a step of a region that draws its order, beside a box that stays, the new slice written out -/
theorem step_append_s {P : Program} {w W0 : World} {b : Nat} {vb : Value} {ops : Array Oper} {o : Oper} {a : Act} {K : Act → World → Prop} {Q : Exit → Act → World → Prop} {E : Prop} (hgd : o.guard = none) (s x : Operand) (t : TypeId)
    (ho : o.op = .call { callee := .builtin .append, args := #[s, x], argTypes := #[t, t] })
    (e : TypeId) (i : TypeInfo) (z : Value) (size bytes : Nat) (ht : P.underlying t = some (.slice e)) (hi : P.info? e = some i) (hz : i.zero = some z)
    (hsize : i.size = size) (hby : i.bytes = bytes) (hzs : z.cells.size = size) (hsz : 0 < size)
    (v : Value) (n : Nat) (xs : List Value) (hs : a.eval s = v) (hown : w.ownsRow W0.heap.size e size v n xs)
    (ad : Addr) (m c : Nat) (news : List Value) (hx : a.eval x = .slice (some ad) m c) (hl : news.length = m * size) (hnews : ∀ j u, news[j]? = some u → w.cell? (ad.add j) = some u) (h1 : ∀ u ∈ news, u.oneCell' = true)
    (h63 : n + m ≤ maxLen) (hbytes : (n + m) * bytes ≤ 140737488355328)
    (hst : (w.cell? ⟨b, 0, none⟩ = some vb ∧ w.frozen? ⟨b, 0, none⟩ = false) ∧ Below W0.heap.size W0 w) (hb : b < W0.heap.size)
    (N : Nat) (ys : List Value) (hN : n + m = N) (hys : xs ++ news = ys) (hpos : 0 < N)
    (h : ∀ g' cap' w', w'.ownsRow W0.heap.size e size (.slice (some ⟨g', 0, none⟩) N cap') N ys → (w'.cell? ⟨b, 0, none⟩ = some vb ∧ w'.frozen? ⟨b, 0, none⟩ = false) → Below W0.heap.size W0 w' → K (a.put o.dst (.slice (some ⟨g', 0, none⟩) N cap')) w') :
    if Region.wanted o (yielded ops a.tmps) = true then Oper.wp P o a w K Q else E := by
  subst hN hys
  exact step_append_k hgd s x t ho e i z size bytes ht hi hz hsize hby hzs hsz v n xs hs hown ad m c news hx hl hnews h1 h63 hbytes hst hb fun v' w' h2 _ h4 h5 => by
    rcases h2.2 with ⟨_, h0⟩ | ⟨g', cap', cur, rfl, _⟩
    · omega
    · exact h g' cap' w' h2 h4 h5

/-- the list behind the store -/
theorem put_ins {zs : List Int} {r : Int} {k : Nat} (hk : k ≤ zs.length) (hlow : S.lowF zs r = k) (hc : ¬ (1114111 < r ∨ zs[k]? = some r)) :
    0 + k + 1 + (zs.length - k) = (S.insF zs r).length ∧ [] ++ (zs.take k).map (Value.int .i32) ++ [.int .i32 r] ++ (zs.drop k).map (Value.int .i32) = (S.insF zs r).map (Value.int .i32) ∧ 0 < (S.insF zs r).length := by
  have e : S.insF zs r = zs.take k ++ [r] ++ zs.drop k := by unfold S.insF; rw [hlow, if_neg hc]
  have hl : 0 + k + 1 + (zs.length - k) = (S.insF zs r).length := by rw [e]; simp [List.length_take, List.length_drop]; omega
  exact ⟨hl, by rw [e]; simp, by omega⟩

/-- what the box holds behind the store -/
theorem put_fin {wr w3 : World} {B bo g3 cap3 : Nat} {zs : List Int} {v0 : Value} (X : S.Bx wr bo 23 v0) (hbo : bo < wr.heap.size) (hB : B ≤ wr.heap.size)
    (own : w3.ownsRow wr.heap.size 21 1 (.slice (some ⟨g3, 0, none⟩) zs.length cap3) zs.length (zs.map (Value.int .i32))) (bl : Below wr.heap.size wr w3) :
    ∃ g' cap', S.Bx (w3.setCell ⟨bo, 0, none⟩ (.slice (some ⟨g3, 0, none⟩) zs.length cap3)) bo 23 (.slice (some ⟨g', 0, none⟩) zs.length cap') ∧ (w3.setCell ⟨bo, 0, none⟩ (.slice (some ⟨g3, 0, none⟩) zs.length cap3)).ownsRow B 21 1 (.slice (some ⟨g', 0, none⟩) zs.length cap') zs.length (zs.map (Value.int .i32)) ∧ wr.grownBy (w3.setCell ⟨bo, 0, none⟩ (.slice (some ⟨g3, 0, none⟩) zs.length cap3)) (some bo) :=
  ⟨g3, cap3, (X.below bl (by omega)).set _, L.owns_base (ownsRow_setCell_below own (a := ⟨bo, 0, none⟩) (by show bo < _; omega) _) hB, S.grown_trans (S.grown_below bl) (grown_setb _ _ _)⟩

end Go.Proofs.YtlmmjefplbcapaaGreat

/-
  The closure within the document's Edges, walked (no).
-/
namespace Go.Proofs.YtlmmjefplbcapaaGreat
open Go.RowKit

attribute [local go_sem ↓] Go.wp_at_zero Go.wp_at_succ

set_option maxHeartbeats 40000000 in
theorem put_no (W : World) (B bo g cap : Nat) (zs : List Int) (r : Int) (X : S.Bx W bo 23 (.slice (some ⟨g, 0, none⟩) zs.length cap)) (own : W.ownsRow B 21 1 (.slice (some ⟨g, 0, none⟩) zs.length cap) zs.length (zs.map (Value.int .i32))) (hbo : bo < W.heap.size) (hB : B ≤ W.heap.size)
    (hl : zs.length ≤ 1099511627776) (hyp : 1114111 < r ∨ zs[S.lowF zs r]? = some r) :
    Calls Tryz.prog 44 #[.int .i32 r, .pointer (some ⟨bo, 0, none⟩)] W fun e w' => e = .returned (.tuple #[]) ∧ ∃ g' cap', S.Bx w' bo 23 (.slice (some ⟨g', 0, none⟩) (S.insF zs r).length cap') ∧ w'.ownsRow B 21 1 (.slice (some ⟨g', 0, none⟩) (S.insF zs r).length cap') (S.insF zs r).length ((S.insF zs r).map (Value.int .i32)) ∧ W.grownBy w' (some bo) := by
  obtain ⟨i0, hi, hz0, hz1, hz2⟩ := info_parts Tryz.infoI32
  have cb := X.cell
  have fb := X.free
  have HX : Hid _ := X
  have HO : Hid (W.ownsRow B 21 1 (.slice (some ⟨g, 0, none⟩) zs.length cap) zs.length (zs.map (Value.int .i32))) := own
  have hcap : zs.length ≤ cap := by
    rcases own.2 with ⟨h, _⟩ | ⟨g', cap', cur, h, _, _, h1, _⟩
    · cases h
    · cases h; exact h1
  have HC : Hid (∀ j z, zs[j]? = some z → W.cell? ⟨g, j, none⟩ = some (.int .i32 z)) := fun j z hj => by
    have := own.cells (g := g) rfl j (.int .i32 z) (by simp [hj])
    rw [L.addr_add] at this
    simpa using this
  have hg : B ≤ g ∧ g < W.heap.size := own.lt g rfl
  have HY : Hid _ := hyp
  clear X own hyp
  go_enter Tryz.func44, Tryz.ntmps44
  go_wp2
  go_loopw [3] (fun kv wr => ∃ k : Nat, k ≤ zs.length ∧ kv = .int .i64 k ∧ wr = W ∧ Hid (∀ i z, i < k → zs[i]? = some z → z < r)) (fun kv _ => zs.length - (intOf kv).toNat)
  case atStart => exact ⟨0, Nat.zero_le _, rfl, rfl, fun i z h => absurd h (Nat.not_lt_zero _)⟩
  case round =>
    obtain ⟨k, hk, rfl, rfl, HP⟩ := hrel
    by_cases hlt : k < zs.length
    · obtain ⟨z, hz⟩ : ∃ z, zs[k]? = some z := ⟨zs[k], by simp [hlt]⟩
      have cz := HC.out k z hz
      have HZ : Hid (zs[k]? = some z) := hz
      clear hz
      by_cases hzr : z < r
      · go_wp2
        go_roundw
        case rel =>
          refine ⟨k + 1, by omega, by go_num, trivial, fun i y hi hy => ?_⟩
          by_cases e : i = k
          · subst e; rw [HZ.out] at hy; cases hy; exact hzr
          · exact HP.out i y (by omega) hy
        case measure => simp [intOf]; omega
      · have hlow : S.lowF zs r = k := S.lowF_eq HP.out hk fun y hy => by rw [HZ.out] at hy; cases hy; exact hzr
        have HLow : Hid _ := hlow
        clear hlow
        by_cases hr : 1114111 < r
        · go_wp2
          (try simp only [Exit.inBlock, Exit.then])
          refine bodyPost_ret (results_none rfl _ _ _) rfl ?_
          have e : S.insF zs r = zs := by unfold S.insF; rw [if_pos (.inl hr)]
          rw [e]
          exact ⟨rfl, g, cap, HX.out, HO.out, S.grown_refl _ _⟩
        · have he : z = r := by
            rcases HY.out with h | h
            · exact absurd h hr
            · rw [HLow.out, HZ.out] at h; exact Option.some.inj h
          subst he
          go_wp2
          (try simp only [Exit.inBlock, Exit.then])
          refine bodyPost_ret (results_none rfl _ _ _) rfl ?_
          have e : S.insF zs z = zs := by unfold S.insF; rw [if_pos (.inr (by rw [HLow.out]; exact HZ.out))]
          rw [e]
          exact ⟨rfl, g, cap, HX.out, HO.out, S.grown_refl _ _⟩
    · have hke : k = zs.length := by omega
      have hlow : S.lowF zs r = k := S.lowF_eq HP.out hk fun y hy => by rw [hke] at hy; simp at hy
      have HLow : Hid _ := hlow
      have HCo : Hid (zs[k]? = none) := by show _ = _; rw [hke]; simp
      clear hlow
      have hr : 1114111 < r := by
        rcases HY.out with h | h
        · exact h
        · rw [HLow.out, HCo.out] at h; cases h
      go_wp2
      (try simp only [Exit.inBlock, Exit.then])
      refine bodyPost_ret (results_none rfl _ _ _) rfl ?_
      have e : S.insF zs r = zs := by unfold S.insF; rw [if_pos (.inl hr)]
      rw [e]
      exact ⟨rfl, g, cap, HX.out, HO.out, S.grown_refl _ _⟩

end Go.Proofs.YtlmmjefplbcapaaGreat
