/-
  append of runes to a slice of the call's own, or to one that is full.
-/
import Derived.Test.YtcphiemfjdbhfaaGLib
import Derived.ArgAppend
import Derived.Deep.Upon
import Derived.Deep.RegionLaw
namespace Go.Proofs.Ytcphiemfjdbhfaa.G
open Go.RowKit

/-- a slice that may be appended to: it reads as zs, and it is full, or its block is the call's own, and not below B -/
structure App (w : World) (B : Nat) (v : Value) (zs : List Int) : Prop where
  rd : L.Rd w v .i32 zs
  cap : ∀ ao n c, v = .slice ao n c → n ≤ c
  own : (∃ ao, v = .slice ao zs.length zs.length) ∨ (zs ≠ [] ∧ w.ownsRow B 21 1 v zs.length (zs.map (Value.int .i32)))
  blk : zs ≠ [] → ∃ k, v.ownBlock = some k ∧ B ≤ k ∧ k < w.heap.size

theorem App.base {w : World} {B B' : Nat} {v : Value} {zs : List Int} (h : App w B v zs) (hb : B' ≤ B) : App w B' v zs :=
  ⟨h.rd, h.cap, h.own.imp id fun ⟨h1, h2⟩ => ⟨h1, L.owns_base h2 hb⟩, fun hz => by obtain ⟨k, h1, h2, h3⟩ := h.blk hz; exact ⟨k, h1, by omega, h3⟩⟩
theorem App.below {w w' : World} {B B' : Nat} {v : Value} {zs : List Int} (h : App w B v zs) (hb : Below B' w w') (hB : w.heap.size ≤ B') : App w' B v zs :=
  ⟨h.rd.below hb hB, h.cap, h.own.imp id fun ⟨h1, h2⟩ => ⟨h1, L.owns_below h2 hb hB⟩, fun hz => by obtain ⟨k, h1, h2, h3⟩ := h.blk hz; exact ⟨k, h1, h2, by have := hb.size; omega⟩⟩
theorem App.empty (w : World) (B : Nat) (ao : Option Addr) : App w B (.slice ao 0 0) [] :=
  ⟨⟨ao, 0, rfl, fun _ => rfl, fun h => absurd rfl h⟩, fun _ _ _ h => by cases h; exact Nat.le_refl _, .inl ⟨ao, rfl⟩, fun h => absurd rfl h⟩

theorem rd_grown {w w' : World} {v : Value} {zs : List Int} {r : Option Nat} (h : L.Rd w v .i32 zs) (hg : w.grownBy w' r) (hne : zs ≠ [] → ∀ k, r = some k → v.ownBlock ≠ some k) : L.Rd w' v .i32 zs := by
  obtain ⟨ao, cap, rfl, hn, hc⟩ := h
  refine ⟨ao, cap, rfl, hn, fun hz => ?_⟩
  obtain ⟨b, off, rfl, hcell⟩ := hc hz
  refine ⟨b, off, rfl, fun j z hj => ?_⟩
  have h1 := hcell j z hj
  rw [World.cell?_of_block (a := ⟨b, off + j, none⟩) (hg.block b (L.block_lt h1) (fun e => hne hz b e.symm rfl))]
  exact h1

/-- append, as a run -/
theorem app_run (w : World) (B : Nat) (v vx : Value) (zs1 zs2 : List Int) (hd : App w B v zs1) (hx : L.Rd w vx .i32 zs2) (hl : zs1.length + zs2.length ≤ 1000000) (hB : B ≤ w.heap.size) :
    ∃ v' w', (∀ ty, (Builtin.append_ #[22, 22] ty #[v, vx]).run Try.prog w = .ok v' w') ∧ App w' B v' (zs1 ++ zs2) ∧ ∃ r, w.grownBy w' r ∧ ∀ k, r = some k → zs1 ≠ [] ∧ v.ownBlock = some k ∧ B ≤ k := by
  obtain ⟨i0, hi, hz0, hz1, hz2⟩ := info_parts Try.infoI32
  by_cases h0 : zs2 = []
  · subst h0
    refine ⟨v, w, fun ty => ?_, by rw [List.append_nil]; exact hd, none, ⟨rfl, rfl, rfl, Nat.le_refl _, fun _ _ _ => rfl⟩, fun k h => by cases h⟩
    obtain ⟨ao, cap, rfl, hn, hc⟩ := hd.rd
    have hle := hd.cap _ _ _ rfl
    obtain ⟨ax, cx, rfl, hnx, _⟩ := hx
    refine Go.run_append_nothing w _ _ _ 21 i0 Try.underlying22 hi ao _ cap hle _ ?_
    cases ax with
    | none => exact Go.Src.ofNil w Try.underlying22 cx
    | some ad => exact Go.Src.ofSlice w Try.underlying22 ad 0 cx [] (by simp) (fun j u h => by simp at h) (fun u h => by simp at h)
  · obtain ⟨ax, cx, rfl, _, hcx⟩ := hx
    obtain ⟨bx, offx, rfl, hcellx⟩ := hcx h0
    have hnews : ∀ j u, (zs2.map (Value.int .i32))[j]? = some u → w.cell? ((⟨bx, offx, none⟩ : Addr).add j) = some u := fun j u hj => by
      rw [List.getElem?_map] at hj
      cases hz : zs2[j]? with
      | none => rw [hz] at hj; simp at hj
      | some z => rw [hz] at hj; simp at hj; subst hj; rw [L.addr_add]; exact hcellx j z hz
    have h1c : ∀ u ∈ zs2.map (Value.int .i32), u.oneCell' = true := fun u hu => by obtain ⟨z, _, rfl⟩ := List.mem_map.1 hu; rfl
    have fin : ∀ v' w', w'.ownsRow B 21 1 v' (zs1.length + zs2.length) (zs1.map (Value.int .i32) ++ zs2.map (Value.int .i32)) → App w' B v' (zs1 ++ zs2) := fun v' w' ho => by
      rw [← List.map_append, ← List.length_append] at ho
      have hne : zs1 ++ zs2 ≠ [] := by simp [h0]
      refine ⟨L.Rd.of_owns ho, fun ao n c hv => ?_, .inr ⟨hne, ho⟩, fun _ => ?_⟩
      · rcases ho.2 with ⟨h, _⟩ | ⟨g, cap, cur, h, _, _, hle, _⟩
        · rw [h] at hv; cases hv; exact Nat.le_refl _
        · rw [h] at hv; cases hv; exact hle
      · rcases ho.2 with ⟨_, h⟩ | ⟨g, cap, cur, h, hg, hh, _⟩
        · exact absurd (List.eq_nil_of_length_eq_zero h) hne
        · exact ⟨g, by rw [h]; rfl, hg, lt_of_block hh⟩
    rcases hd.own with ⟨ao, hv⟩ | ⟨hne, ho⟩
    · subst hv
      cases ao with
      | none =>
        have hz : zs1 = [] := by
          obtain ⟨ao', cap, hv, _, hc⟩ := hd.rd
          cases hv
          by_cases hz : zs1 = []
          · exact hz
          · obtain ⟨b, off, h, _⟩ := hc hz; cases h
        subst hz
        obtain ⟨v', w', hrun, r1, r2, _⟩ := run_append_own (P := Try.prog) w B 22 0 21 i0 (.int .i32 0) 1 4 Try.underlying22 hi hz0 hz1 hz2 rfl (by decide) (.slice none 0 0) 0 [] (World.ownsRow_nil w _ _ _) ⟨bx, offx, none⟩ zs2.length cx (zs2.map (Value.int .i32)) (by simp) hnews h1c (by unfold maxLen; simp at hl; omega) (by simp at hl; omega) hB
        have hty : ∀ ty, (Builtin.append_ #[22, 22] ty #[.slice none 0 0, .slice (some ⟨bx, offx, none⟩) zs2.length cx]).run Try.prog w = .ok v' w' := fun ty => hrun
        exact ⟨v', w', hty, fin v' w' (by simpa using r1), none, r2, fun k h => by cases h⟩
      | some b =>
        obtain ⟨v', w', hrun, r1, r2⟩ := run_append_arg_grows (P := Try.prog) w 22 0 21 i0 (.int .i32 0) 1 4 Try.underlying22 hi hz0 hz1 hz2 rfl (by decide) b zs1.length zs1.length (zs1.map (Value.int .i32)) (by simp) (fun j u hj => by
            obtain ⟨ao', cap, hv, _, hc⟩ := hd.rd
            cases hv
            rw [List.getElem?_map] at hj
            cases hz : zs1[j]? with
            | none => rw [hz] at hj; simp at hj
            | some z =>
              rw [hz] at hj; simp at hj; subst hj
              obtain ⟨b', off, h, hcell⟩ := hc (by intro h; subst h; simp at hz)
              cases h
              rw [L.addr_add]; exact hcell j z hz) ⟨bx, offx, none⟩ zs2.length cx (zs2.map (Value.int .i32)) (by simp) hnews (by have := List.length_pos_iff.2 h0; omega) (by unfold maxLen; omega) (by omega)
        have hty : ∀ ty, (Builtin.append_ #[22, 22] ty #[.slice (some b) zs1.length zs1.length, .slice (some ⟨bx, offx, none⟩) zs2.length cx]).run Try.prog w = .ok v' w' := fun ty => hrun
        exact ⟨v', w', hty, fin v' w' (L.owns_base r1 hB), none, r2, fun k h => by cases h⟩
    · obtain ⟨v', w', hrun, r1, r2, _⟩ := run_append_own (P := Try.prog) w B 22 0 21 i0 (.int .i32 0) 1 4 Try.underlying22 hi hz0 hz1 hz2 rfl (by decide) v zs1.length _ ho ⟨bx, offx, none⟩ zs2.length cx (zs2.map (Value.int .i32)) (by simp) hnews h1c (by unfold maxLen; omega) (by omega) hB
      have hty : ∀ ty, (Builtin.append_ #[22, 22] ty #[v, .slice (some ⟨bx, offx, none⟩) zs2.length cx]).run Try.prog w = .ok v' w' := fun ty => hrun
      exact ⟨v', w', hty, fin v' w' r1, v.ownBlock, r2, fun k h => ⟨hne, h, (ho.lt k h).1⟩⟩

/-- what a new slice is: made in world X -/
def New (X W : World) (v : Value) (zs : List Int) : Prop := App W X.heap.size v zs ∧ Below X.heap.size X W

/-- append to an empty slice, at a step of a region that draws its order -/
theorem step_append_new {ops : Array Oper} {o : Oper} {a : Act} {w : World} {K : Act → World → Prop} {Q : Exit → Act → World → Prop} {E : Prop} (hgd : o.guard = none) (s x : Operand)
    (ho : o.op = .call { callee := .builtin .append, args := #[s, x], argTypes := #[22, 22] })
    (ao : Option Addr) (hs : a.eval s = .slice ao 0 0) (vx : Value) (hx : a.eval x = vx) (zs : List Int) (hr : L.Rd w vx .i32 zs) (hl : zs.length ≤ 1000000)
    (h : ∀ v' w', New w w' v' zs → K (a.put o.dst v') w') :
    if Region.wanted o (yielded ops a.tmps) = true then Oper.wp Try.prog o a w K Q else E := by
  have hw : Region.wanted o (yielded ops a.tmps) = true := by simp [Region.wanted, hgd]
  rw [if_pos hw]
  obtain ⟨v', w', hrun, ha, r, hg, hk⟩ := app_run w w.heap.size (.slice ao 0 0) vx [] zs (App.empty _ _ _) hr (by simpa using hl) (Nat.le_refl _)
  unfold Oper.wp
  simp [execOp, ho, resolve, invoke, builtin, hs, hx, hrun, Result.andThen]
  exact h v' w' ⟨by simpa using ha, (Below.refl _ w).grown hg (Nat.le_refl _) fun k e => absurd rfl (hk k e).1⟩

/-- two new slices lie apart -/
def Apart (v1 v2 : Value) (z1 z2 : List Int) : Prop := z1 ≠ [] → z2 ≠ [] → ∀ k, v1.ownBlock = some k → v2.ownBlock ≠ some k
/-- both have been made, above B -/
def Two (B : Nat) (w W : World) (v1 v2 : Value) (z1 z2 : List Int) : Prop := App W B v1 z1 ∧ App W B v2 z2 ∧ Apart v1 v2 z1 z2 ∧ Below B w W
theorem two_a {w X1 W1 X2 W2 : World} {v1 v2 : Value} {z1 z2 : List Int} {B : Nat} (hB : Below B w X1) (hs : B ≤ w.heap.size) (n1 : New X1 W1 v1 z1) (hX : Below W1.heap.size W1 X2) (n2 : New X2 W2 v2 z2) : Two B w W2 v1 v2 z1 z2 := by
  have s1 := hB.size
  have s2 := n1.2.size
  have s3 := hX.size
  refine ⟨((n1.1.below hX (Nat.le_refl _)).below n2.2 (Nat.le_refl _)).base (by omega), n2.1.base (by omega), fun h1 h2 k hk e => ?_, ((hB.trans (n1.2.mono (by omega))).trans (hX.mono (by omega))).trans (n2.2.mono (by omega))⟩
  obtain ⟨k1, e1, _, l1⟩ := n1.1.blk h1
  obtain ⟨k2, e2, l2, _⟩ := n2.1.blk h2
  rw [e1] at hk; rw [e2] at e; cases hk; cases e; omega
theorem two_b {w X1 W1 X2 W2 : World} {v1 v2 : Value} {z1 z2 : List Int} {B : Nat} (hB : Below B w X2) (hs : B ≤ w.heap.size) (n2 : New X2 W2 v2 z2) (hX : Below W2.heap.size W2 X1) (n1 : New X1 W1 v1 z1) : Two B w W1 v1 v2 z1 z2 := by
  obtain ⟨a, b, c, d⟩ := two_a hB hs n2 hX n1
  exact ⟨b, a, fun h1 h2 k hk e => c h2 h1 k e hk, d⟩

end Go.Proofs.Ytcphiemfjdbhfaa.G
