/-
  What comes in, as a rule and a text; how long they are at most.
-/
import Derived.Test.YtnalcmlhfmgfdaaSFrame
import Derived.Test.YtnalcmlhfmgfdaaMLib
import Derived.Deep.Slices
import Derived.SizedLaws
namespace Go.Proofs.Ytnalcmlhfmgfdaa
open Go.ChangeShapes Go.WideShapes Go.ChangeAt Go.RowKit

theorem Try.bytesI32 : Try.prog.bytesOf 21 = 4 := by kernel_rfl
theorem Try.bytesSet : Try.prog.bytesOf 63 = 24 := by kernel_rfl
namespace K
theorem wf_i64 {n : Int} (h : (Lit.int .i64 n).wf = true) : I64 n := by
  simp only [Lit.wf, Bool.and_eq_true, decide_eq_true_eq] at h
  have e1 : IntKind.i64.min = -9223372036854775808 := by decide
  have e2 : IntKind.i64.max = 9223372036854775807 := by decide
  rw [e1, e2] at h
  exact h
theorem weights_all {H : Type} {P : Program} {e : TypeId} {d : DataW H} : ∀ {l : List (DataW H)}, d ∈ l → ∀ n ∈ d.weights P e, n ∈ DataW.weightsAll P e l
  | x :: r, h, n, hn => by
    simp only [DataW.weightsAll, List.mem_append]
    rcases List.mem_cons.1 h with rfl | h
    · exact .inl hn
    · exact .inr (weights_all h n hn)
end K

/-- cells that read as a slice of runes -/
theorem runes_cells {H : Type} {enc : TypeId × Value → H} {W : World} {fuel : Nat} {cs : List Value} {x : DataW H × List MemPlace} (h : DataW.trod enc Try.prog W 0 (fun _ => true) true fuel 23 cs = some x) (hw : ∀ n ∈ x.1.weights Try.prog 23, n ≤ reachBytes) :
    ∃ sp c zs, cs = [.slice sp (List.length zs) c] ∧ L.Rd W (.slice sp zs.length c) .i32 zs ∧ zs.length ≤ 140737488355328 ∧ zs.length ≤ c := by
  rcases open_ints Try.underlying23 Try.underlying21 (by kernel_rfl) h with ⟨hcs, hx⟩ | ⟨a, len, cap, zs, hcs, _, hl, hm, hz, hx, hcell, hwz⟩
  · exact ⟨none, 0, [], hcs, ⟨none, 0, rfl, fun _ => rfl, fun h => absurd rfl h⟩, by simp, by simp⟩
  · subst hx
    simp only [if_true] at hz
    have hlt : (zs.take len).length = len := by rw [List.length_take]; omega
    have h1 := hw ((zs.take len).length * 4 + (zs.drop len).length * 4) (by
      simp only [DataW.weights, Try.underlying23, Try.bytesI32, lits, List.length_map]
      rw [← Nat.add_mul]
      exact List.mem_cons_self)
    refine ⟨some a, cap, zs.take len, by rw [hcs, hlt], ⟨_, cap, rfl, (fun h => by cases h), fun hne => ?_⟩, by unfold reachBytes at h1; omega, by omega⟩
    have h0 : 0 < zs.length := by
      cases zs with
      | nil => simp at hne
      | cons => simp
    obtain ⟨b, off, rfl, _⟩ := ints_at hcell h0
    refine ⟨b, off, rfl, fun j z hj => ?_⟩
    have hj2 : j < zs.length := by
      have := (List.getElem?_eq_some_iff.1 hj).1
      rw [hlt] at this
      omega
    have h3 := hcell j hj2
    rw [L.addr_add] at h3
    rw [h3]
    have h4 : zs[j]? = some z := by
      rw [List.getElem?_take] at hj
      split at hj
      · exact hj
      · simp at hj
    simp [List.getD, h4]

set_option maxRecDepth 100000 in
/-- cells that read as a set -/
theorem set_cells {H : Type} {enc : TypeId × Value → H} {W : World} {fuel : Nat} {cs : List Value} {x : DataW H × List MemPlace} (h : DataW.trod enc Try.prog W 0 (fun _ => true) true fuel 63 cs = some x) :
    ∃ u s, cs = [u] ∧ K.SetIs W u s := by
  rcases Go.Deep.open_slice Try.underlying63 h with ⟨hcs, hx⟩ | ⟨a, len, cap, m, n, D, Pl, hcs, _, hl, hm, hmm, hx, hcell⟩
  · exact ⟨_, [], hcs, ⟨none, 0, rfl⟩, S.Rd.nil W, fun x hx => by cases hx⟩
  · have hv : Value.okWide Try.prog W .any 0 63 (.slice (some a) len cap) ∨ True := .inr trivial
    subst hcs
    obtain ⟨f0, f1, hu, o0, o1, t0, t1⟩ : ∃ f0 f1 : Field, Try.prog.underlying 70 = some (.struct #[f0, f1]) ∧ f0.offset = 0 ∧ f1.offset = 1 ∧ f0.type = 21 ∧ f1.type = 21 := ⟨_, _, Try.underlying70, rfl, rfl, rfl, rfl⟩
    rcases Go.Deep.open_slice_pairs Try.underlying63 hu (by kernel_rfl) o0 o1 (by rw [t0]; kernel_rfl) (by rw [t1]; kernel_rfl) h with ⟨hcs, hx⟩ | ⟨a', len', cap', m', n', V0, V1, D0, D1, P0, P1, hcs, _, hl', hm', hmm', hx', hcell'⟩
    · cases hcs
    · cases hcs
      simp only [if_true] at hmm'
      subst hmm'
      have each : ∀ i, i < len → ∃ x1 x2 : Int, V0 i = .int .i32 x1 ∧ V1 i = .int .i32 x2 ∧ -2147483648 ≤ x1 ∧ x1 ≤ 2147483647 ∧ -2147483648 ≤ x2 ∧ x2 ≤ 2147483647 := fun i hi => by
        obtain ⟨_, _, h3, h4⟩ := hcell' i (by omega)
        rw [t0] at h3
        rw [t1] at h4
        obtain ⟨x1, e1, _, w1⟩ := DataW.trod_int Try.underlying21 h3
        obtain ⟨x2, e2, _, w2⟩ := DataW.trod_int Try.underlying21 h4
        have := wf_i32 w1
        have := wf_i32 w2
        exact ⟨x1, x2, by simpa using e1, by simpa using e2, by omega, by omega, by omega, by omega⟩
      let g : Nat → S.Sp := fun i => (intOf (V0 i), intOf (V1 i))
      have hg : ∀ i, i < len → V0 i = .int .i32 (g i).1 ∧ V1 i = .int .i32 (g i).2 ∧ -2147483648 ≤ (g i).1 ∧ (g i).1 ≤ 2147483647 ∧ -2147483648 ≤ (g i).2 ∧ (g i).2 ≤ 2147483647 := fun i hi => by
        obtain ⟨x1, x2, e1, e2, h⟩ := each i hi
        simp only [g, e1, e2, intOf]
        exact ⟨trivial, trivial, h⟩
      have hlen : ((List.range len).map g).length = len := by simp
      refine ⟨_, (List.range len).map g, rfl, ⟨some a, m', by rw [hlen]⟩, ⟨_, m', by rw [hlen], fun h => by simp at h, fun hne => ?_⟩, fun x hx => ?_⟩
      · have h0 : 0 < len := by
          cases len with
          | zero => simp at hne
          | succ => omega
        obtain ⟨b, off, spot⟩ := a
        have c0 := (hcell' 0 (by omega)).1
        have hsp : spot = none := by simpa [Addr.add] using World.cell?_spot c0
        subst hsp
        refine ⟨b, off, rfl, fun j x hj => ?_⟩
        have hj2 : j < len := by
          have := (List.getElem?_eq_some_iff.1 hj).1
          rw [hlen] at this
          exact this
        have hxj : g j = x := by
          rw [List.getElem?_map, List.getElem?_range hj2] at hj
          simpa using hj
        obtain ⟨h3, h4, _⟩ := hcell' j (by omega)
        rw [L.addr_add] at h3 h4
        rw [← Nat.add_assoc] at h4
        rw [h3, h4, (hg j hj2).1, (hg j hj2).2.1, hxj]
        exact ⟨rfl, rfl⟩
      · obtain ⟨i, hi, rfl⟩ := List.mem_map.1 hx
        exact (hg i (by simpa using hi)).2.2

set_option maxRecDepth 100000 in
/-- cells that read as a list of sets -/
theorem sets_cells {H : Type} {enc : TypeId × Value → H} {W : World} {fuel : Nat} {cs : List Value} {x : DataW H × List MemPlace} (h : DataW.trod enc Try.prog W 0 (fun _ => true) true fuel 58 cs = some x) (hw : ∀ n ∈ x.1.weights Try.prog 58, n ≤ reachBytes) :
    ∃ ao c l, cs = [.slice ao (List.length l) c] ∧ K.Ss W (.slice ao l.length c) l := by
  have ce : Try.prog.cellsOf 63 = 1 := by kernel_rfl
  rcases Go.Deep.open_slice Try.underlying58 h with ⟨hcs, hx⟩ | ⟨a, len, cap, m, n, D, Pl, hcs, _, hl, hm, hmm, hx, hcell⟩
  · exact ⟨none, 0, [], hcs, none, 0, [], rfl, fun _ => rfl, by simp, ⟨rfl, fun j u s h => by cases h⟩, fun h => absurd rfl h⟩
  · subst hx
    simp only [if_true] at hmm
    subst hmm
    have hlen : len ≤ 140737488355328 := by
      have h1 := hw ((((List.range len).map D).length + ((List.range (m - len)).map fun j => D (len + j)).length) * 24) (by
        simp only [DataW.weights, Try.underlying58, Try.bytesSet]
        exact List.mem_cons_self)
      simp only [List.length_map, List.length_range, reachBytes] at h1
      omega
    have each : ∀ i, i < len → ∃ q : Value × List S.Sp, W.cell? (a.add i) = some q.1 ∧ K.SetIs W q.1 q.2 := fun i hi => by
      obtain ⟨cs', h1, h2⟩ := hcell i (by omega)
      rw [ce] at h1
      obtain ⟨_, hlen', hcl⟩ := World.cells?_some h1
      obtain ⟨u, s, rfl, hs⟩ := set_cells h2
      have e0 := hcl 0 (by omega)
      rw [Go.Deep.add_add] at e0
      exact ⟨(u, s), by simpa using e0, hs⟩
    have hne : Inhabited (Value × List S.Sp) := ⟨(.nilFunc, [])⟩
    obtain ⟨q, hq⟩ := Go.Deep.choose_lt each
    refine ⟨some a, m, (List.range len).map fun i => (q i).2, by rw [hcs]; simp, some a, m, (List.range len).map fun i => (q i).1, by simp, (fun h => by cases h), by simpa using hlen, ⟨by simp, fun j u s hu hs => ?_⟩, fun hne => ?_⟩
    · have hj : j < len := by
        have := (List.getElem?_eq_some_iff.1 hu).1
        simpa using this
      rw [List.getElem?_map, List.getElem?_range hj] at hu hs
      cases hu
      cases hs
      exact (hq j hj).2
    · have h0 : 0 < len := by
        cases len with
        | zero => simp at hne
        | succ => omega
      obtain ⟨b, off, spot⟩ := a
      have hsp : spot = none := by
        have := (hq 0 h0).1
        simpa [Addr.add] using World.cell?_spot this
      subst hsp
      refine ⟨b, off, rfl, fun j u hu => ?_⟩
      have hj : j < len := by
        have := (List.getElem?_eq_some_iff.1 hu).1
        simpa using this
      rw [List.getElem?_map, List.getElem?_range hj] at hu
      cases hu
      have := (hq j hj).1
      rw [L.addr_add] at this
      exact this

set_option maxRecDepth 100000 in
/-- cells that read as a rule -/
theorem rule_cells {H : Type} {enc : TypeId × Value → H} {W : World} {fuel : Nat} {v0 v1 v2 v3 v4 v5 v6 : Value} {x : DataW H × List MemPlace} (h : DataW.trod enc Try.prog W 0 (fun _ => true) true fuel 60 [v0, v1, v2, v3, v4, v5, v6] = some x) (hw : ∀ n ∈ x.1.weights Try.prog 60, n ≤ reachBytes) :
    ∃ r, K.RuIs W (.agg #[v0, v1, v2, v3, v4, v5, v6]) r := by
  obtain ⟨f0, f1, f2, f3, f4, f5, f6, hu, o0, o1, o2, o3, o4, o5, o6, t0, t1, t2, t3, t4, t5, t6⟩ : ∃ f0 f1 f2 f3 f4 f5 f6 : Field, Try.prog.underlying 60 = some (.struct #[f0, f1, f2, f3, f4, f5, f6]) ∧ f0.offset = 0 ∧ f1.offset = 1 ∧ f2.offset = 2 ∧ f3.offset = 3 ∧ f4.offset = 4 ∧ f5.offset = 5 ∧ f6.offset = 6 ∧ f0.type = 4 ∧ f1.type = 4 ∧ f2.type = 58 ∧ f3.type = 58 ∧ f4.type = 58 ∧ f5.type = 23 ∧ f6.type = 3 := ⟨_, _, _, _, _, _, _, Try.underlying60, rfl, rfl, rfl, rfl, rfl, rfl, rfl, rfl, rfl, rfl, rfl, rfl, rfl, rfl⟩
  have ci : Try.prog.cellsOf 3 = 1 := by kernel_rfl
  have ci2 : Try.prog.cellsOf 4 = 1 := by kernel_rfl
  have ci3 : Try.prog.cellsOf 58 = 1 := by kernel_rfl
  have ci4 : Try.prog.cellsOf 23 = 1 := by kernel_rfl
  obtain ⟨xs, k, hk, hxy, _, hxl, hfl⟩ := DataW.trod_struct hu h
  match xs, hxl with
  | [y0, y1, y2, y3, y4, y5, y6], _ =>
    have g0 := hfl 0 f0 rfl
    have g1 := hfl 1 f1 rfl
    have g2 := hfl 2 f2 rfl
    have g3 := hfl 3 f3 rfl
    have g4 := hfl 4 f4 rfl
    have g5 := hfl 5 f5 rfl
    have g6 := hfl 6 f6 rfl
    simp [o0, o1, o2, o3, o4, o5, o6, t0, t1, t2, t3, t4, t5, t6, ci, ci2, ci3, ci4] at g0 g1 g2 g3 g4 g5 g6
    have hD : x.1 = .agg [y0.1, y1.1, y2.1, y3.1, y4.1, y5.1, y6.1] := by
      have := congrArg Prod.fst hxy
      simpa using this
    have hwe : ∀ (j : Nat) (t : TypeId) (d : DataW H), ([4, 4, 58, 58, 58, 23, 3] : List TypeId)[j]? = some t → ([y0.1, y1.1, y2.1, y3.1, y4.1, y5.1, y6.1] : List (DataW H))[j]? = some d → ∀ n ∈ d.weights Try.prog t, n ≤ reachBytes := fun j t d h1 h2 n hn => hw n (by
      rw [hD]
      simp only [DataW.weights, hu]
      refine DataW.weights_mem_each (j := j) (t := t) (d := d) ?_ h2 n hn
      simpa [t0, t1, t2, t3, t4, t5, t6] using h1)
    obtain ⟨b0, c0, _⟩ := DataW.trod_bool Try.underlying4 g0
    obtain ⟨b1, c1, _⟩ := DataW.trod_bool Try.underlying4 g1
    obtain ⟨a2, n2, l2, c2, r2⟩ := sets_cells g2 (hwe 2 _ _ rfl rfl)
    obtain ⟨a3, n3, l3, c3, r3⟩ := sets_cells g3 (hwe 3 _ _ rfl rfl)
    obtain ⟨a4, n4, l4, c4, r4⟩ := sets_cells g4 (hwe 4 _ _ rfl rfl)
    obtain ⟨a5, n5, l5, c5, r5, q5, _⟩ := runes_cells g5 (hwe 5 _ _ rfl rfl)
    obtain ⟨x6, c6, _, w6⟩ := DataW.trod_int Try.underlying3 g6
    simp only [List.cons.injEq, and_true] at c0 c1 c2 c3 c4 c5 c6
    subst c0 c1 c2 c3 c4 c5 c6
    exact ⟨⟨b0, b1, l2, l3, l4, l5, x6⟩, a2, n2, a3, n3, a4, n4, a5, n5, rfl, r2, r3, r4, r5, q5, K.wf_i64 w6⟩

end Go.Proofs.Ytnalcmlhfmgfdaa
