/-
  Two texts, one behind the other, in a row of one's own.
-/
import Derived.Test.YtkkocnkfdepoiaaQApp
import Derived.Test.YtkkocnkfdepoiaaFrame
import Derived.Deep.RegionHeld3
import Derived.Deep.MidRow
namespace Go.Proofs.Ytkkocnkfdepoiaa
open Go.RowKit
set_option maxRecDepth 20000
set_option linter.unusedSimpArgs false
set_option linter.unusedVariables false

/-- append(append([]rune{}, a...), b...) -/
theorem Pr.both2 {w w3 : World} (hB : Below w.heap.size w w3) {t u : List Int} {xo yo : Option Addr} {xc yc : Nat} (Rt : L.Rd w3 (.slice xo t.length xc) .i32 t) (Ru : L.Rd w3 (.slice yo u.length yc) .i32 u) (ht : t.length ≤ 2000000) (hu : u.length ≤ 2000000) :
    ∃ a1 c1 w4 a2 c2 w5, (∀ ty, (Builtin.append_ #[28, 28] ty #[.slice (some ⟨w3.heap.size, 0, none⟩) 0 0, .slice xo t.length xc]).run Try.prog (w3.alloc (.cells #[] 21)) = .ok (.slice a1 t.length c1) w4) ∧
      (∀ ty, (Builtin.append_ #[28, 28] ty #[.slice a1 t.length c1, .slice yo u.length yc]).run Try.prog w4 = .ok (.slice a2 (t ++ u).length c2) w5) ∧ L.Rd w5 (.slice a2 (t ++ u).length c2) .i32 (t ++ u) ∧ Below w.heap.size w w5 ∧ Below w.heap.size w w4 := by
  have hal : Below w3.heap.size w3 (w3.alloc (.cells #[] 21)) := (Below.refl _ w3).alloc (Nat.le_refl _) _
  have own0 : (w3.alloc (.cells #[] 21)).ownsRow w3.heap.size 21 1 (.slice (some ⟨w3.heap.size, 0, none⟩) ([] : List Int).length 0) ([] : List Int).length (K.ints []) := World.ownsRow_made w3 #[] 0 (Nat.le_refl _) (Nat.zero_le _) (by simp)
  obtain ⟨v1, w4, run1, own1, gr1, _⟩ := K.app_rd _ w3.heap.size _ [] own0 _ t (Rt.below hal (Nat.le_refl _)) (by simp; omega) (by simp)
  rw [List.nil_append] at own1
  obtain ⟨a1, c1, rfl⟩ : ∃ a c, v1 = .slice a t.length c := by
    rcases own1.2 with ⟨hv, h0⟩ | ⟨g, cap, cur, hv, _⟩
    · exact ⟨none, 0, by rw [hv, h0]⟩
    · exact ⟨_, cap, hv⟩
  have hB4 : Below w3.heap.size w3 w4 := hal.grown gr1 (by simp) (fun k hk => (own0.lt k hk).1)
  obtain ⟨v2, w5, run2, own2, gr2, _⟩ := K.app_rd w4 w3.heap.size _ t own1 _ u (Ru.below hB4 (Nat.le_refl _)) (by omega) hB4.size
  obtain ⟨a2, c2, rfl⟩ : ∃ a c, v2 = .slice a (t ++ u).length c := by
    rcases own2.2 with ⟨hv, h0⟩ | ⟨g, cap, cur, hv, _⟩
    · exact ⟨none, 0, by rw [hv, h0]⟩
    · exact ⟨_, cap, hv⟩
  have hB5 : Below w3.heap.size w3 w5 := hB4.grown gr2 hB4.size (fun k hk => (own1.lt k hk).1)
  exact ⟨a1, c1, w4, a2, c2, w5, run1, run2, L.Rd.of_owns own2, hB.trans (hB5.mono hB.size), hB.trans (hB4.mono hB.size)⟩

end Go.Proofs.Ytkkocnkfdepoiaa

/-
  Steps of a region that draws, by hand: an operation that is taken first, with its place told; a store where nothing else may come.
-/
namespace Go.Proofs.Ytkkocnkfdepoiaa
open Go.RowKit Go.Lib
namespace V
/-- an operation that is taken first, its place told -/
theorem take {P : Program} {ops : Array Oper} {Q : Exit → Act → World → Prop} {md : Region.Mode} {S : World → Prop} (i d : Nat) (v : Value) (L' : List Bool) {oi : Oper} {fuel : Nat} {listed : Array Bool} {a : Act} {w : World} (hi : ops[i]? = some oi) (hd : oi.dst = some d)
    (hl : listed.setIfInBounds i true = L'.toArray) (hs : Region.noSelect ops = true) (hf : Region.free md ops listed i = true) (hr : (Region.ready md ops listed).contains i = true)
    (hQ : ∀ c a w, Q (.panic c) (a.put (some d) v) w → Q (.panic c) a w) (hy : YieldsIf P ops S oi v a) (hS : S w)
    (h : wpAnyH P md ops Q S fuel L'.toArray (a.put (some d) v) w) : wpAnyH P md ops Q S (fuel + 1) listed a w :=
  wpAnyH_take hi hs hf hr (by rw [hd]; exact hQ) hy hS (by rw [hd, hl]; exact h)
/-- a struct that is stored, where nothing else may come -/
theorem stored {P : Program} {ops : Array Oper} {Q : Exit → Act → World → Prop} {md : Region.Mode} {S : World → Prop} (i : Nat) (L' : List Bool) (ty : TypeId) (x y : Operand) {oi : Oper} {fuel : Nat} {listed : Array Bool} {a : Act} {w : World} (hi : ops[i]? = some oi) (ho : oi.op = .store ty x y) (hgd : oi.guard = none) (hd : oi.dst = none)
    (hl : listed.setIfInBounds i true = L'.toArray) (hr : Region.ready md ops listed = [i]) (b o : Nat) (cells : List Value) (hx : a.eval x = .pointer (some ⟨b, o, none⟩)) (hy : a.eval y = .agg cells.toArray) (ht : w.there b o cells.length) (hinf : (P.info? ty).map (·.size) = some cells.length) (h1 : cells.all (·.oneCell') = true)
    (hS : S (w.setCells b o cells)) (h : wpAnyH P md ops Q S fuel L'.toArray a (w.setCells b o cells)) : wpAnyH P md ops Q S (fuel + 1) listed a w :=
  wpAnyH_ready hr (by simp) (AllReadyH.cons hi (fun KK hK => by
    have hw : Region.wanted oi (yielded ops a.tmps) = true := by simp [Region.wanted, hgd]
    rw [if_pos hw]
    refine wp_store_mid ty x y ho b o cells.toArray hx hy (by simpa using ht) (by simpa using hinf) (by simpa using h1) ?_
    rw [hd]
    exact hK.out _ _ (by simpa using hS) (fun _ => by rw [hl, show a.put none undef = a from rfl]; simpa using h)) AllReadyH.nil)
theorem run_storeVar_cell {P : Program} (w : World) (b o : Nat) (ty : TypeId) (u v : Value) (hc : w.cell? ⟨b, o, none⟩ = some u) (hf : w.frozen? ⟨b, o, none⟩ = false) (hi : (P.info? ty).map (·.size) = some 1) (h1 : v.oneCell' = true) :
    (storeVar ty ⟨b, o, none⟩ v).run P w = .ok () (w.setCell ⟨b, o, none⟩ v) := by
  have hcs : v.cells = #[v] := by cases v <;> first | rfl | cases h1
  cases hq : P.info? ty with
  | none => simp [hq] at hi
  | some i =>
    have hs : i.size = 1 := by simpa [hq] using hi
    have hz : (⟨b, o, none⟩ : Addr).add 0 = ⟨b, o, none⟩ := Addr.add_mid b o 0
    simp [storeVar, sizeOf, typeInfo, hq, hcs, hs, storeCells, run_store P w _ v _ h1, hz, hc, hf]
theorem stored1 {P : Program} {ops : Array Oper} {Q : Exit → Act → World → Prop} {md : Region.Mode} {S : World → Prop} (i : Nat) (L' : List Bool) (ty : TypeId) (x y : Operand) {oi : Oper} {fuel : Nat} {listed : Array Bool} {a : Act} {w : World} (hi : ops[i]? = some oi) (ho : oi.op = .store ty x y) (hgd : oi.guard = none) (hd : oi.dst = none)
    (hl : listed.setIfInBounds i true = L'.toArray) (hr : Region.ready md ops listed = [i]) (b o : Nat) (u v : Value) (hx : a.eval x = .pointer (some ⟨b, o, none⟩)) (hy : a.eval y = v) (hc : w.cell? ⟨b, o, none⟩ = some u) (hf : w.frozen? ⟨b, o, none⟩ = false) (hinf : (P.info? ty).map (·.size) = some 1) (h1 : v.oneCell' = true)
    (hS : S (w.setCell ⟨b, o, none⟩ v)) (h : wpAnyH P md ops Q S fuel L'.toArray a (w.setCell ⟨b, o, none⟩ v)) : wpAnyH P md ops Q S (fuel + 1) listed a w :=
  wpAnyH_ready hr (by simp) (AllReadyH.cons hi (fun KK hK => by
    have hw : Region.wanted oi (yielded ops a.tmps) = true := by simp [Region.wanted, hgd]
    rw [if_pos hw]
    unfold Oper.wp execOp
    simp only [ho, hx, hy, Instr.storeAt, Instr.sureAddr, Sem.run_bind, Sem.run_pure, Result.andThen_ok, run_storeVar_cell w b o ty u v hc hf hinf h1]
    show KK (a.put oi.dst undef) _
    rw [hd]
    exact hK.out _ _ hS (fun _ => by rw [hl, show a.put none undef = a from rfl]; exact h)) AllReadyH.nil)
end V
end Go.Proofs.Ytkkocnkfdepoiaa
