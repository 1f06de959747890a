/-
  Steps of a region that draws, by hand: an operation that is taken first, with its place told; a store where nothing else may come.
-/
import Derived.Test.YtchkcjaahjhbcaaLib
import Derived.Deep.RegionHeld3
import Derived.Deep.MidRow
namespace Go.Proofs.Ytchkcjaahjhbcaa
open Go.RowKit Go.Lib
namespace V
/-- an operation that is taken first, its place told -/
theorem take {P : Program} {ops : Array Oper} {Q : Exit → Act → World → Prop} {md : Region.Mode} {S : World → Prop} (i d : Nat) (v : Value) (L' : List Bool) {oi : Oper} {fuel : Nat} {listed : Array Bool} {a : Act} {w : World} (hi : ops[i]? = some oi) (hd : oi.dst = some d)
    (hl : listed.setIfInBounds i true = L'.toArray) (hs : Region.noSelect ops = true) (hf : Region.free md ops listed i = true) (hr : (Region.ready md ops listed).contains i = true)
    (hQ : ∀ c a w, Q (.panic c) (a.put (some d) v) w → Q (.panic c) a w) (hy : YieldsIf P ops S oi v a) (hS : S w)
    (h : wpAnyH P md ops Q S fuel L'.toArray (a.put (some d) v) w) : wpAnyH P md ops Q S (fuel + 1) listed a w :=
  wpAnyH_take hi hs hf hr (by rw [hd]; exact hQ) hy hS (by rw [hd, hl]; exact h)
/-- a struct that is stored, where nothing else may come -/
theorem stored {P : Program} {ops : Array Oper} {Q : Exit → Act → World → Prop} {md : Region.Mode} {S : World → Prop} (i : Nat) (L' : List Bool) (ty : TypeId) (x y : Operand) {oi : Oper} {fuel : Nat} {listed : Array Bool} {a : Act} {w : World} (hi : ops[i]? = some oi) (ho : oi.op = .store ty x y) (hgd : oi.guard = none) (hd : oi.dst = none)
    (hl : listed.setIfInBounds i true = L'.toArray) (hr : Region.ready md ops listed = [i]) (b o : Nat) (cells : List Value) (hx : a.eval x = .pointer (some ⟨b, o, none⟩)) (hy : a.eval y = .agg cells.toArray) (ht : w.there b o cells.length) (hinf : (P.info? ty).map (·.size) = some cells.length) (h1 : cells.all (·.oneCell') = true)
    (hS : S (w.setCells b o cells)) (h : wpAnyH P md ops Q S fuel L'.toArray a (w.setCells b o cells)) : wpAnyH P md ops Q S (fuel + 1) listed a w :=
  wpAnyH_ready hr (by simp) (AllReadyH.cons hi (fun KK hK => by
    have hw : Region.wanted oi (yielded ops a.tmps) = true := by simp [Region.wanted, hgd]
    rw [if_pos hw]
    refine wp_store_mid ty x y ho b o cells.toArray hx hy (by simpa using ht) (by simpa using hinf) (by simpa using h1) ?_
    rw [hd]
    exact hK.out _ _ (by simpa using hS) (fun _ => by rw [hl, show a.put none undef = a from rfl]; simpa using h)) AllReadyH.nil)
theorem run_storeVar_cell {P : Program} (w : World) (b o : Nat) (ty : TypeId) (u v : Value) (hc : w.cell? ⟨b, o, none⟩ = some u) (hf : w.frozen? ⟨b, o, none⟩ = false) (hi : (P.info? ty).map (·.size) = some 1) (h1 : v.oneCell' = true) :
    (storeVar ty ⟨b, o, none⟩ v).run P w = .ok () (w.setCell ⟨b, o, none⟩ v) := by
  have hcs : v.cells = #[v] := by cases v <;> first | rfl | cases h1
  cases hq : P.info? ty with
  | none => simp [hq] at hi
  | some i =>
    have hs : i.size = 1 := by simpa [hq] using hi
    have hz : (⟨b, o, none⟩ : Addr).add 0 = ⟨b, o, none⟩ := Addr.add_mid b o 0
    simp [storeVar, sizeOf, typeInfo, hq, hcs, hs, storeCells, run_store P w _ v _ h1, hz, hc, hf]
theorem stored1 {P : Program} {ops : Array Oper} {Q : Exit → Act → World → Prop} {md : Region.Mode} {S : World → Prop} (i : Nat) (L' : List Bool) (ty : TypeId) (x y : Operand) {oi : Oper} {fuel : Nat} {listed : Array Bool} {a : Act} {w : World} (hi : ops[i]? = some oi) (ho : oi.op = .store ty x y) (hgd : oi.guard = none) (hd : oi.dst = none)
    (hl : listed.setIfInBounds i true = L'.toArray) (hr : Region.ready md ops listed = [i]) (b o : Nat) (u v : Value) (hx : a.eval x = .pointer (some ⟨b, o, none⟩)) (hy : a.eval y = v) (hc : w.cell? ⟨b, o, none⟩ = some u) (hf : w.frozen? ⟨b, o, none⟩ = false) (hinf : (P.info? ty).map (·.size) = some 1) (h1 : v.oneCell' = true)
    (hS : S (w.setCell ⟨b, o, none⟩ v)) (h : wpAnyH P md ops Q S fuel L'.toArray a (w.setCell ⟨b, o, none⟩ v)) : wpAnyH P md ops Q S (fuel + 1) listed a w :=
  wpAnyH_ready hr (by simp) (AllReadyH.cons hi (fun KK hK => by
    have hw : Region.wanted oi (yielded ops a.tmps) = true := by simp [Region.wanted, hgd]
    rw [if_pos hw]
    unfold Oper.wp execOp
    simp only [ho, hx, hy, Instr.storeAt, Instr.sureAddr, Sem.run_bind, Sem.run_pure, Result.andThen_ok, run_storeVar_cell w b o ty u v hc hf hinf h1]
    show KK (a.put oi.dst undef) _
    rw [hd]
    exact hK.out _ _ hS (fun _ => by rw [hl, show a.put none undef = a from rfl]; exact h)) AllReadyH.nil)
end V
end Go.Proofs.Ytchkcjaahjhbcaa
