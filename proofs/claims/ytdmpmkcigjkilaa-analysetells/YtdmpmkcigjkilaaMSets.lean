/-
  Lists of sets that are appended to.
-/
import Derived.Test.YtdmpmkcigjkilaaMLib
import Derived.BigRegion
import Derived.RegionTactic
import Derived.Deep.RegionHeld3
namespace Go.Proofs.Ytdmpmkcigjkilaa
open Go.RowKit
set_option maxRecDepth 20000
set_option linter.unusedSimpArgs false
set_option linter.unusedVariables false

theorem Try.infoSet : (Try.prog.info? 23).map (fun i => (i.zero, i.size, i.bytes)) = some (some (.slice none 0 0), 1, 24) := by kernel_rfl

/-- a slice of sets, with the values of its cells -/
def K.SsV (w : World) (v : Value) (l : List (List S.Sp)) (vs : List Value) : Prop :=
  ∃ ao cap, v = .slice ao l.length cap ∧ (ao = none → cap = 0) ∧ K.Sets w vs l ∧ (l ≠ [] → ∃ b off, ao = some ⟨b, off, none⟩ ∧ ∀ (j : Nat) u, vs[j]? = some u → w.cell? ⟨b, off + j, none⟩ = some u)
theorem K.Ss.vals {w : World} {v : Value} {l : List (List S.Sp)} (h : K.Ss w v l) : ∃ vs, K.SsV w v l vs := by
  obtain ⟨ao, cap, vs, h1, h2, _, h3, h4⟩ := h
  exact ⟨vs, ao, cap, h1, h2, h3, h4⟩
theorem K.SsV.below {w w' : World} {v : Value} {l : List (List S.Sp)} {vs : List Value} (h : K.SsV w v l vs) (hb : Below w.heap.size w w') : K.SsV w' v l vs := by
  obtain ⟨ao, cap, rfl, hn, hs, hc⟩ := h
  refine ⟨ao, cap, rfl, hn, hs.below hb, fun hz => ?_⟩
  obtain ⟨b, off, rfl, hc2⟩ := hc hz
  refine ⟨b, off, rfl, fun j u hj => ?_⟩
  have h1 := hc2 j u hj
  have := L.block_lt h1
  rw [hb.cell (p := ⟨b, off + j, none⟩) this]; exact h1

theorem K.app_sets (w : World) (B : Nat) (v : Value) (us : List Value) (own : w.ownsRow B 23 1 v us.length us) (vx : Value) (l : List (List S.Sp)) (vs : List Value) (hx : K.SsV w vx l vs) (hl : us.length + l.length ≤ 1000) (hB : B ≤ w.heap.size) :
    ∃ v' w', (∀ ty, (Builtin.append_ #[61, 61] ty #[v, vx]).run Try.prog w = .ok v' w') ∧ w'.ownsRow B 23 1 v' (us ++ vs).length (us ++ vs) ∧ w.grownBy w' v.ownBlock := by
  obtain ⟨i0, hi, hz0, hz1, hz2⟩ := info_parts Try.infoSet
  obtain ⟨ao, cap, rfl, hn, hs, hc⟩ := hx
  cases ao with
  | none =>
    have h0 : l = [] := by
      cases l with
      | nil => rfl
      | cons z zs => obtain ⟨b, off, h, _⟩ := hc (by simp); simp at h
    subst h0
    have h1 : vs = [] := List.eq_nil_of_length_eq_zero (by rw [hs.1]; rfl)
    subst h1
    have := hn rfl
    subst this
    refine ⟨v, w, fun ty => run_append_owned_none (P := Try.prog) w B _ ty _ i0 1 Try.underlying61 hi v _ us own, by simpa using own, ⟨rfl, rfl, rfl, Nat.le_refl _, fun _ _ _ => rfl⟩⟩
  | some ad =>
    have hnews : ∀ j u, vs[j]? = some u → w.cell? (ad.add j) = some u := fun j u hj => by
      have hlt : 0 < l.length := by rw [← hs.1]; have := (List.getElem?_eq_some_iff.1 hj).1; omega
      obtain ⟨b, off, h, hcell⟩ := hc (by intro h; subst h; simp at hlt)
      cases h
      rw [L.addr_add]; exact hcell j u hj
    obtain ⟨v', w', hrun, r1, r2, _⟩ := run_append_own (P := Try.prog) w B 61 0 23 i0 (.slice none 0 0) 1 24 Try.underlying61 hi hz0 hz1 hz2 rfl (by decide) v us.length us own ad l.length cap vs (by rw [hs.1]; simp) hnews (fun u hu => hs.one hu) (by unfold maxLen; omega) (by omega) hB
    refine ⟨v', w', fun ty => hrun, ?_, r2⟩
    rw [List.length_append, hs.1]; exact r1

/-- append, by its run, at a step of a region that draws its order -/
theorem K.step_run {t : TypeId} {ops : Array Oper} {o : Oper} {a : Act} {w : World} {K : Act → World → Prop} {Q : Exit → Act → World → Prop} {E : Prop} (hgd : o.guard = none) (s x : Operand)
    (ho : o.op = .call { callee := .builtin .append, args := #[s, x], argTypes := #[t, t] }) (v vx v' : Value) (w' : World) (hs : a.eval s = v) (hx : a.eval x = vx)
    (hrun : ∀ ty, (Builtin.append_ #[t, t] ty #[v, vx]).run Try.prog w = .ok v' w') (h : K (a.put o.dst v') w') :
    if Region.wanted o (yielded ops a.tmps) = true then Oper.wp Try.prog o a w K Q else E := by
  have hw : Region.wanted o (yielded ops a.tmps) = true := by simp [Region.wanted, hgd]
  rw [if_pos hw]
  unfold Oper.wp
  simp [execOp, ho, resolve, invoke, builtin, hs, hx, hrun, Result.andThen]
  exact h


end Go.Proofs.Ytdmpmkcigjkilaa
