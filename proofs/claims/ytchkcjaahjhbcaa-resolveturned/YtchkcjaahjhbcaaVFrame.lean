/-
  What comes in, as lists: a slice of parts.
-/
import Derived.Test.YtchkcjaahjhbcaaSFrame
import Derived.Test.YtchkcjaahjhbcaaRLib
import Derived.Deep.Slices
import Derived.SizedLaws
import Derived.Test.YtchkcjaahjhbcaaFrame
namespace Go.Proofs.Ytchkcjaahjhbcaa
open Go.ChangeShapes Go.WideShapes Go.ChangeAt Go.RowKit
set_option linter.unusedSimpArgs false
set_option linter.unusedVariables false

theorem wf_i64 {n : Int} (h : (Lit.int .i64 n).wf = true) : R.I64 n := by
  simp only [Lit.wf, Bool.and_eq_true, decide_eq_true_eq] at h
  have e1 : IntKind.i64.min = -9223372036854775808 := by decide
  have e2 : IntKind.i64.max = 9223372036854775807 := by decide
  rw [e1, e2] at h
  exact h
theorem R.weights_all {H : Type} {P : Program} {e : TypeId} {d : DataW H} : ∀ {l : List (DataW H)}, d ∈ l → ∀ n ∈ d.weights P e, n ∈ DataW.weightsAll P e l
  | x :: r, h, n, hn => by
    simp only [DataW.weightsAll, List.mem_append]
    rcases List.mem_cons.1 h with rfl | h
    · exact .inl hn
    · exact .inr (R.weights_all h n hn)

set_option maxRecDepth 100000 in
theorem spans_cells {H : Type} {enc : TypeId × Value → H} {W : World} {fuel : Nat} {cs : List Value} {x : DataW H × List MemPlace} (h : DataW.trod enc Try.prog W 0 (fun _ => true) true fuel 40 cs = some x) :
    ∃ sp c l, cs = [.slice sp (List.length l) c] ∧ S.Rd W (.slice sp l.length c) l ∧ S.Fit l := by
  obtain ⟨f0, f1, hu, o0, o1, t0, t1⟩ : ∃ f0 f1 : Field, Try.prog.underlying 71 = some (.struct #[f0, f1]) ∧ f0.offset = 0 ∧ f1.offset = 1 ∧ f0.type = 21 ∧ f1.type = 21 := ⟨_, _, Try.underlying71, rfl, rfl, rfl, rfl⟩
  rcases Go.Deep.open_slice_pairs Try.underlying40 hu (by kernel_rfl) o0 o1 (by rw [t0]; kernel_rfl) (by rw [t1]; kernel_rfl) h with ⟨hcs, hx⟩ | ⟨a, len, cap, m, n, V0, V1, D0, D1, P0, P1, hcs, _, hl, hm, hmm, hx, hcell⟩
  · exact ⟨none, 0, [], hcs, S.Rd.nil W, fun x hx => by simp at hx⟩
  · have each : ∀ i, i < len → ∃ x1 x2 : Int, V0 i = .int .i32 x1 ∧ V1 i = .int .i32 x2 ∧ -2147483648 ≤ x1 ∧ x1 ≤ 2147483647 ∧ -2147483648 ≤ x2 ∧ x2 ≤ 2147483647 := fun i hi => by
      obtain ⟨_, _, h3, h4⟩ := hcell i (by simp only [if_true] at hmm; omega)
      rw [t0] at h3
      rw [t1] at h4
      obtain ⟨x1, e1, _, w1⟩ := DataW.trod_int Try.underlying21 h3
      obtain ⟨x2, e2, _, w2⟩ := DataW.trod_int Try.underlying21 h4
      have := wf_i32 w1
      have := wf_i32 w2
      exact ⟨x1, x2, by simpa using e1, by simpa using e2, by omega, by omega, by omega, by omega⟩
    let g : Nat → S.Sp := fun i => (intOf (V0 i), intOf (V1 i))
    have hg : ∀ i, i < len → V0 i = .int .i32 (g i).1 ∧ V1 i = .int .i32 (g i).2 ∧ -2147483648 ≤ (g i).1 ∧ (g i).1 ≤ 2147483647 ∧ -2147483648 ≤ (g i).2 ∧ (g i).2 ≤ 2147483647 := fun i hi => by
      obtain ⟨x1, x2, e1, e2, h⟩ := each i hi
      simp only [g, e1, e2, intOf]
      exact ⟨trivial, trivial, h⟩
    have hlen : ((List.range len).map g).length = len := by simp
    refine ⟨some a, cap, (List.range len).map g, by rw [hcs, hlen], ⟨_, cap, by rw [hlen], fun h => by simp at h, fun hne => ?_⟩, fun x hx => ?_⟩
    · have h0 : 0 < len := by
        cases len with
        | zero => simp at hne
        | succ => omega
      obtain ⟨b, off, spot⟩ := a
      have c0 := (hcell 0 (by simp only [if_true] at hmm; omega)).1
      have hsp : spot = none := by simpa [Addr.add] using World.cell?_spot c0
      subst hsp
      refine ⟨b, off, rfl, fun j x hj => ?_⟩
      have hj2 : j < len := by
        have := (List.getElem?_eq_some_iff.1 hj).1
        rw [hlen] at this
        exact this
      have hxj : g j = x := by
        rw [List.getElem?_map, List.getElem?_range hj2] at hj
        simpa using hj
      obtain ⟨h3, h4, _⟩ := hcell j (by simp only [if_true] at hmm; omega)
      rw [L.addr_add] at h3 h4
      rw [← Nat.add_assoc] at h4
      rw [h3, h4, (hg j hj2).1, (hg j hj2).2.1, hxj]
      exact ⟨rfl, rfl⟩
    · obtain ⟨i, hi, rfl⟩ := List.mem_map.1 hx
      exact (hg i (by simpa using hi)).2.2

set_option maxRecDepth 100000 in
theorem items_cells {H : Type} {enc : TypeId × Value → H} {W : World} {fuel : Nat} {cs : List Value} {x : DataW H × List MemPlace} (h : DataW.trod enc Try.prog W 0 (fun _ => true) true fuel 49 cs = some x) (hw : ∀ n ∈ x.1.weights Try.prog 49, n ≤ reachBytes) :
    ∃ sp c l, cs = [.slice sp (List.length l) c] ∧ R.Its W (.slice sp l.length c) l := by
  obtain ⟨f0, f1, f2, f3, hu, o0, o1, o2, o3, t0, t1, t2, t3⟩ : ∃ f0 f1 f2 f3 : Field, Try.prog.underlying 56 = some (.struct #[f0, f1, f2, f3]) ∧ f0.offset = 0 ∧ f1.offset = 1 ∧ f2.offset = 2 ∧ f3.offset = 3 ∧ f0.type = 3 ∧ f1.type = 21 ∧ f2.type = 40 ∧ f3.type = 9 := ⟨_, _, _, _, Try.underlying56, rfl, rfl, rfl, rfl, rfl, rfl, rfl, rfl⟩
  have ce : Try.prog.cellsOf 56 = 4 := by kernel_rfl
  have ci : Try.prog.cellsOf 3 = 1 := by kernel_rfl
  have ci2 : Try.prog.cellsOf 21 = 1 := by kernel_rfl
  have ci3 : Try.prog.cellsOf 40 = 1 := by kernel_rfl
  have ci4 : Try.prog.cellsOf 9 = 1 := by kernel_rfl
  rcases Go.Deep.open_slice Try.underlying49 h with ⟨hcs, hx⟩ | ⟨a, len, cap, m, n, D, Pl, hcs, _, hl, hm, hmm, hx, hcell⟩
  · exact ⟨none, 0, [], hcs, R.Its.nil W⟩
  · subst hx
    simp only [if_true] at hmm
    have each : ∀ i, i < len → ∃ q : R.Item × Option Addr × Nat, W.cell? (a.add (i * 4)) = some (.int .i64 q.1.kind) ∧ W.cell? (a.add (i * 4 + 1)) = some (.int .i32 q.1.rune) ∧ W.cell? (a.add (i * 4 + 2)) = some (.slice q.2.1 q.1.set.length q.2.2) ∧ W.cell? (a.add (i * 4 + 3)) = some (.string q.1.name) ∧
        S.Rd W (.slice q.2.1 q.1.set.length q.2.2) q.1.set ∧ S.Fit q.1.set ∧ q.1.name.size ≤ 140737488355328 := fun i hi => by
      obtain ⟨cs', h1, h2⟩ := hcell i (by omega)
      rw [ce] at h1
      obtain ⟨_, hlen', hcl⟩ := World.cells?_some h1
      obtain ⟨xs, k, hk, hxy, _, hxl, hfl⟩ := DataW.trod_struct hu h2
      match xs, hxl, cs', hlen' with
      | [y0, y1, y2, y3], _, [v0, v1, v2, v3], _ =>
        have g0 := hfl 0 f0 rfl
        have g1 := hfl 1 f1 rfl
        have g2 := hfl 2 f2 rfl
        have g3 := hfl 3 f3 rfl
        simp [o0, o1, o2, o3, t0, t1, t2, t3, ci, ci2, ci3, ci4] at g0 g1 g2 g3
        have e0 := hcl 0 (by omega)
        have e1 := hcl 1 (by omega)
        have e2 := hcl 2 (by omega)
        have e3 := hcl 3 (by omega)
        rw [Go.Deep.add_add] at e0 e1 e2 e3
        obtain ⟨x0, c0, _, w0⟩ := DataW.trod_int Try.underlying3 g0
        obtain ⟨x1, c1, _, w1⟩ := DataW.trod_int Try.underlying21 g1
        obtain ⟨sp, c, zs, c2, r2, l2⟩ := spans_cells g2
        obtain ⟨nm, c3, hy3, _⟩ := DataW.trod_string Try.underlying9 g3
        have hD : D i = .agg [y0.1, y1.1, y2.1, y3.1] := by
          have := congrArg Prod.fst hxy
          simpa using this
        have hn := hw nm.size (by
          simp only [DataW.weights, Try.underlying49]
          refine List.mem_cons_of_mem _ (List.mem_append_left _ ?_)
          refine R.weights_all (d := D i) (List.mem_map.2 ⟨i, by simpa using hi, rfl⟩) _ ?_
          rw [hD]
          simp only [DataW.weights, hu]
          refine DataW.weights_mem_each (j := 3) (t := 9) (d := y3.1) (by simp [t3]) rfl _ ?_
          rw [hy3]
          simp [DataW.weights])
        simp only [List.cons.injEq, and_true] at c0 c1 c2 c3
        subst c0 c1 c2 c3
        exact ⟨(⟨x0, x1, zs, nm⟩, sp, c), by simpa using e0, by simpa using e1, by simpa using e2, by simpa using e3, r2, l2, by unfold reachBytes at hn; simp only; omega⟩
    have hne : Inhabited (R.Item × Option Addr × Nat) := ⟨(⟨0, 0, [], ⟨#[]⟩⟩, none, 0)⟩
    obtain ⟨q, hq⟩ := Go.Deep.choose_lt each
    refine ⟨some a, cap, (List.range len).map fun i => (q i).1, by simp [hcs], some a, cap, by simp, fun hne => ?_⟩
    have h0 : 0 < len := by
      cases len with
      | zero => simp at hne
      | succ => omega
    obtain ⟨b, off, spot⟩ := a
    have c0 := (hq 0 h0).1
    have hsp : spot = none := by simpa [Addr.add] using World.cell?_spot c0
    subst hsp
    refine ⟨b, off, rfl, fun j e hj => ?_⟩
    have hj2 : j < len := by
      have := (List.getElem?_eq_some_iff.1 hj).1
      simpa using this
    have hej : (q j).1 = e := by
      rw [List.getElem?_map, List.getElem?_range hj2] at hj
      simpa using hj
    obtain ⟨q0, q1, q2, q3, r, ft, nm⟩ := hq j hj2
    rw [L.addr_add] at q0 q1 q2 q3
    rw [← Nat.add_assoc] at q1 q2 q3
    rw [hej] at q0 q1 q2 q3 r ft nm
    exact ⟨q0, q1, q3, ⟨_, _, q2, r⟩, ft, nm⟩

set_option maxRecDepth 100000 in
theorem side_cells {H : Type} {enc : TypeId × Value → H} {W : World} {fuel : Nat} {v0 v1 v2 v3 v4 v5 : Value} {x : DataW H × List MemPlace} (h : DataW.trod enc Try.prog W 0 (fun _ => true) true fuel 51 [v0, v1, v2, v3, v4, v5] = some x) (hw : ∀ n ∈ x.1.weights Try.prog 51, n ≤ reachBytes) :
    ∃ s, R.SdIs W (.agg #[v0, v1, v2, v3, v4, v5]) s := by
  obtain ⟨f0, f1, f2, f3, f4, f5, hu, o0, o1, o2, o3, o4, o5, t0, t1, t2, t3, t4, t5⟩ : ∃ f0 f1 f2 f3 f4 f5 : Field, Try.prog.underlying 51 = some (.struct #[f0, f1, f2, f3, f4, f5]) ∧ f0.offset = 0 ∧ f1.offset = 1 ∧ f2.offset = 2 ∧ f3.offset = 3 ∧ f4.offset = 4 ∧ f5.offset = 5 ∧ f0.type = 4 ∧ f1.type = 4 ∧ f2.type = 49 ∧ f3.type = 49 ∧ f4.type = 49 ∧ f5.type = 3 := ⟨_, _, _, _, _, _, Try.underlying51, rfl, rfl, rfl, rfl, rfl, rfl, rfl, rfl, rfl, rfl, rfl, rfl⟩
  have ci : Try.prog.cellsOf 3 = 1 := by kernel_rfl
  have ci2 : Try.prog.cellsOf 4 = 1 := by kernel_rfl
  have ci3 : Try.prog.cellsOf 49 = 1 := by kernel_rfl
  obtain ⟨xs, k, hk, hxy, _, hxl, hfl⟩ := DataW.trod_struct hu h
  match xs, hxl with
  | [y0, y1, y2, y3, y4, y5], _ =>
    have g0 := hfl 0 f0 rfl
    have g1 := hfl 1 f1 rfl
    have g2 := hfl 2 f2 rfl
    have g3 := hfl 3 f3 rfl
    have g4 := hfl 4 f4 rfl
    have g5 := hfl 5 f5 rfl
    simp [o0, o1, o2, o3, o4, o5, t0, t1, t2, t3, t4, t5, ci, ci2, ci3] at g0 g1 g2 g3 g4 g5
    have hD : x.1 = .agg [y0.1, y1.1, y2.1, y3.1, y4.1, y5.1] := by
      have := congrArg Prod.fst hxy
      simpa using this
    have hwe : ∀ (j : Nat) (t : TypeId) (d : DataW H), ([4, 4, 49, 49, 49, 3] : List TypeId)[j]? = some t → ([y0.1, y1.1, y2.1, y3.1, y4.1, y5.1] : List (DataW H))[j]? = some d → ∀ n ∈ d.weights Try.prog t, n ≤ reachBytes := fun j t d h1 h2 n hn => hw n (by
      rw [hD]
      simp only [DataW.weights, hu]
      refine DataW.weights_mem_each (j := j) (t := t) (d := d) ?_ h2 n hn
      simpa [t0, t1, t2, t3, t4, t5] using h1)
    obtain ⟨b0, c0, _⟩ := DataW.trod_bool Try.underlying4 g0
    obtain ⟨b1, c1, _⟩ := DataW.trod_bool Try.underlying4 g1
    obtain ⟨a2, n2, l2, c2, r2⟩ := items_cells g2 (hwe 2 _ _ rfl rfl)
    obtain ⟨a3, n3, l3, c3, r3⟩ := items_cells g3 (hwe 3 _ _ rfl rfl)
    obtain ⟨a4, n4, l4, c4, r4⟩ := items_cells g4 (hwe 4 _ _ rfl rfl)
    obtain ⟨x5, c5, _, w5⟩ := DataW.trod_int Try.underlying3 g5
    simp only [List.cons.injEq, and_true] at c0 c1 c2 c3 c4 c5
    subst c0 c1 c2 c3 c4 c5
    exact ⟨⟨b0, b1, l2, l3, l4, x5⟩, a2, n2, a3, n3, a4, n4, rfl, r2, r3, r4, wf_i64 w5⟩

set_option maxRecDepth 100000 in
theorem part_cells {H : Type} {enc : TypeId × Value → H} {W : World} {fuel : Nat} {v0 v1 v2 v3 v4 v5 v6 v7 v8 v9 v10 v11 v12 v13 v14 v15 : Value} {x : DataW H × List MemPlace} (h : DataW.trod enc Try.prog W 0 (fun _ => true) true fuel 53 [v0, v1, v2, v3, v4, v5, v6, v7, v8, v9, v10, v11, v12, v13, v14, v15] = some x) (hw : ∀ n ∈ x.1.weights Try.prog 53, n ≤ reachBytes) :
    ∃ p, R.PtIs W (.agg #[v0, v1, v2, v3, v4, v5, v6, v7, v8, v9, v10, v11, v12, v13, v14, v15]) p := by
  obtain ⟨f0, f1, f2, f3, f4, f5, hu, o0, o1, o2, o3, o4, o5, t0, t1, t2, t3, t4, t5⟩ : ∃ f0 f1 f2 f3 f4 f5 : Field, Try.prog.underlying 53 = some (.struct #[f0, f1, f2, f3, f4, f5]) ∧ f0.offset = 0 ∧ f1.offset = 1 ∧ f2.offset = 2 ∧ f3.offset = 3 ∧ f4.offset = 4 ∧ f5.offset = 10 ∧ f0.type = 3 ∧ f1.type = 9 ∧ f2.type = 40 ∧ f3.type = 3 ∧ f4.type = 51 ∧ f5.type = 51 := ⟨_, _, _, _, _, _, Try.underlying53, rfl, rfl, rfl, rfl, rfl, rfl, rfl, rfl, rfl, rfl, rfl, rfl⟩
  have ci : Try.prog.cellsOf 3 = 1 := by kernel_rfl
  have ci2 : Try.prog.cellsOf 9 = 1 := by kernel_rfl
  have ci3 : Try.prog.cellsOf 40 = 1 := by kernel_rfl
  have ci4 : Try.prog.cellsOf 51 = 6 := by kernel_rfl
  obtain ⟨xs, k, hk, hxy, _, hxl, hfl⟩ := DataW.trod_struct hu h
  match xs, hxl with
  | [y0, y1, y2, y3, y4, y5], _ =>
    have g0 := hfl 0 f0 rfl
    have g1 := hfl 1 f1 rfl
    have g2 := hfl 2 f2 rfl
    have g3 := hfl 3 f3 rfl
    have g4 := hfl 4 f4 rfl
    have g5 := hfl 5 f5 rfl
    simp [o0, o1, o2, o3, o4, o5, t0, t1, t2, t3, t4, t5, ci, ci2, ci3, ci4] at g0 g1 g2 g3 g4 g5
    have hD : x.1 = .agg [y0.1, y1.1, y2.1, y3.1, y4.1, y5.1] := by
      have := congrArg Prod.fst hxy
      simpa using this
    have hwe : ∀ (j : Nat) (t : TypeId) (d : DataW H), ([3, 9, 40, 3, 51, 51] : List TypeId)[j]? = some t → ([y0.1, y1.1, y2.1, y3.1, y4.1, y5.1] : List (DataW H))[j]? = some d → ∀ n ∈ d.weights Try.prog t, n ≤ reachBytes := fun j t d h1 h2 n hn => hw n (by
      rw [hD]
      simp only [DataW.weights, hu]
      refine DataW.weights_mem_each (j := j) (t := t) (d := d) ?_ h2 n hn
      simpa [t0, t1, t2, t3, t4, t5] using h1)
    obtain ⟨x0, c0, _, w0⟩ := DataW.trod_int Try.underlying3 g0
    obtain ⟨nm, c1, hy1, _⟩ := DataW.trod_string Try.underlying9 g1
    have hn := hwe 1 _ _ rfl rfl nm.size (by rw [hy1]; simp [DataW.weights])
    obtain ⟨a2, n2, l2, c2, r2, ft2⟩ := spans_cells g2
    obtain ⟨x3, c3, _, w3⟩ := DataW.trod_int Try.underlying3 g3
    obtain ⟨s4, r4⟩ := side_cells g4 (hwe 4 _ _ rfl rfl)
    obtain ⟨s5, r5⟩ := side_cells g5 (hwe 5 _ _ rfl rfl)
    simp only [List.cons.injEq, and_true] at c0 c1 c2 c3
    subst c0 c1 c2 c3
    exact ⟨⟨x0, nm, l2, x3, s4, s5⟩, a2, n2, _, _, _, _, _, _, _, _, _, _, _, _, rfl, r2, ft2, r4, r5, by unfold reachBytes at hn; simp only; omega, wf_i64 w3⟩

set_option maxRecDepth 100000 in
theorem parts_rd {H : Type} {enc : TypeId × Value → H} {W : World} {base : Nat} {v : Value} {d : DataW H} {p : List MemPlace}
    (hv : Value.okWide Try.prog W .any base 39 v) (h : DataW.Trod enc Try.prog W 0 (fun _ => true) true 39 v d p) (hw : ∀ n ∈ d.weights Try.prog 39, n ≤ reachBytes) :
    ∃ l : List R.Part, R.Pts W v l := by
  obtain ⟨a0, len0, cap0, rfl⟩ := okWide_slice Try.underlying39 hv
  obtain ⟨fuel, hf⟩ := h
  have ce : Try.prog.cellsOf 53 = 16 := by kernel_rfl
  rcases Go.Deep.open_slice Try.underlying39 hf with ⟨hcs, hx⟩ | ⟨a, len, cap, m, n, D, Pl, hcs, _, hl, hm, hmm, hx, hcell⟩
  · simp [Value.cells] at hcs
    obtain ⟨rfl, rfl, rfl⟩ := hcs
    exact ⟨[], none, 0, rfl, fun h => absurd rfl h⟩
  · simp [Value.cells] at hcs
    obtain ⟨rfl, rfl, rfl⟩ := hcs
    simp only [Prod.mk.injEq] at hx
    obtain ⟨rfl, rfl⟩ := hx
    simp only [if_true] at hmm
    subst hmm
    have each : ∀ i, i < len0 → ∃ q : R.Part × Array Value, R.PtIs W (.agg q.2) q.1 ∧ q.2.size = 16 ∧ ∀ j u, q.2[j]? = some u → W.cell? (a.add (i * 16 + j)) = some u := fun i hi => by
      obtain ⟨cs', h1, h2⟩ := hcell i (by omega)
      rw [ce] at h1
      obtain ⟨_, hlen', hcl⟩ := World.cells?_some h1
      match cs', hlen' with
      | [v0, v1, v2, v3, v4, v5, v6, v7, v8, v9, v10, v11, v12, v13, v14, v15], _ =>
        obtain ⟨p, hp⟩ := part_cells h2 fun n hn => hw n (by
          simp only [DataW.weights, Try.underlying39]
          refine List.mem_cons_of_mem _ (List.mem_append_left _ ?_)
          exact R.weights_all (d := D i) (List.mem_map.2 ⟨i, by simpa using hi, rfl⟩) _ hn)
        refine ⟨(p, #[v0, v1, v2, v3, v4, v5, v6, v7, v8, v9, v10, v11, v12, v13, v14, v15]), hp, rfl, fun j u hj => ?_⟩
        have hj16 : j < 16 := (Array.getElem?_eq_some_iff.1 hj).1
        have e := hcl j hj16
        rw [Go.Deep.add_add] at e
        rw [e]
        have : ([v0, v1, v2, v3, v4, v5, v6, v7, v8, v9, v10, v11, v12, v13, v14, v15] : List Value)[j]? = some u := by simpa using hj
        simpa using this
    have hne : Inhabited (R.Part × Array Value) := ⟨(⟨0, ⟨#[]⟩, [], 0, ⟨false, false, [], [], [], 0⟩, ⟨false, false, [], [], [], 0⟩⟩, #[])⟩
    obtain ⟨q, hq⟩ := Go.Deep.choose_lt each
    refine ⟨(List.range len0).map fun i => (q i).1, some a, m, by simp, fun hne => ?_⟩
    have h0 : 0 < len0 := by
      cases len0 with
      | zero => simp at hne
      | succ => omega
    obtain ⟨b, off, spot⟩ := a
    have hsp : spot = none := by
      obtain ⟨_, h16, hc⟩ := hq 0 h0
      have := hc 0 ((q 0).2[0]'(by omega)) (by simp)
      simpa [Addr.add] using World.cell?_spot this
    subst hsp
    refine ⟨b, off, rfl, fun j e hj => ?_⟩
    have hj2 : j < len0 := by
      have := (List.getElem?_eq_some_iff.1 hj).1
      simpa using this
    have hej : (q j).1 = e := by
      rw [List.getElem?_map, List.getElem?_range hj2] at hj
      simpa using hj
    obtain ⟨hP, _, hc⟩ := hq j hj2
    rw [hej] at hP
    obtain ⟨so, sc, lbo, lbc, lso, lsc, lao, lac, rbo, rbc, rso, rsc, rao, rac, he, _⟩ := hP.open
    have he2 := Value.agg.inj he
    rw [he2] at hP hc
    have cc : ∀ (i : Nat) (u : Value), (#[.int .i64 e.kind, .string e.name, .slice so e.set.length sc, .int .i64 e.dir, .bool e.left.start, .bool e.left.fin, .slice lbo e.left.before.length lbc, .slice lso e.left.source.length lsc, .slice lao e.left.after.length lac, .int .i64 e.left.cursor, .bool e.right.start, .bool e.right.fin, .slice rbo e.right.before.length rbc, .slice rso e.right.source.length rsc, .slice rao e.right.after.length rac, .int .i64 e.right.cursor] : Array Value)[i]? = some u → W.cell? ⟨b, off + j * 16 + i, none⟩ = some u := fun i u hi => by
      have := hc i u hi
      rw [L.addr_add, ← Nat.add_assoc] at this
      exact this
    exact ⟨so, sc, lbo, lbc, lso, lsc, lao, lac, rbo, rbc, rso, rsc, rao, rac, cc 0 _ rfl, cc 1 _ rfl, cc 2 _ rfl, cc 3 _ rfl, cc 4 _ rfl, cc 5 _ rfl, cc 6 _ rfl, cc 7 _ rfl, cc 8 _ rfl, cc 9 _ rfl, cc 10 _ rfl, cc 11 _ rfl, cc 12 _ rfl, cc 13 _ rfl, cc 14 _ rfl, cc 15 _ rfl, hP⟩

end Go.Proofs.Ytchkcjaahjhbcaa

/-
  A list of parts that is handed in: how many there are at most.
-/
namespace Go.Proofs.Ytchkcjaahjhbcaa
open Go.ChangeShapes Go.WideShapes Go.ChangeAt Go.RowKit
set_option linter.unusedVariables false
set_option linter.unusedSimpArgs false

theorem Try.bytesPart : Try.prog.bytesOf 53 = 232 := by kernel_rfl

set_option maxRecDepth 100000 in
theorem parts_few {H : Type} {enc : TypeId × Value → H} {W : World} {base : Nat} {v : Value} {d : DataW H} {p : List MemPlace}
    (hv : Value.okWide Try.prog W .any base 39 v) (h : DataW.Trod enc Try.prog W 0 (fun _ => true) true 39 v d p) (hw : ∀ n ∈ d.weights Try.prog 39, n ≤ reachBytes) : ∀ ao n c, v = .slice ao n c → n * 232 ≤ 140737488355328 := by
  obtain ⟨a0, len0, cap0, rfl⟩ := okWide_slice Try.underlying39 hv
  obtain ⟨fuel, hf⟩ := h
  intro ao n c he
  cases he
  rcases Go.Deep.open_slice Try.underlying39 hf with ⟨hcs, hx⟩ | ⟨a, len, cap, m, k, D, Pl, hcs, _, hl, hm, hmm, hx, hcell⟩
  · simp [Value.cells] at hcs
    obtain ⟨rfl, rfl, rfl⟩ := hcs
    simp
  · simp [Value.cells] at hcs
    obtain ⟨rfl, rfl, rfl⟩ := hcs
    simp only [Prod.mk.injEq] at hx
    obtain ⟨rfl, rfl⟩ := hx
    simp only [if_true] at hmm
    subst hmm
    have h1 := hw ((((List.range len0).map D).length + ((List.range (m - len0)).map fun j => D (len0 + j)).length) * 232) (by
      simp only [DataW.weights, Try.underlying39, Try.bytesPart]
      exact List.mem_cons_self)
    simp only [List.length_map, List.length_range, reachBytes] at h1
    omega

end Go.Proofs.Ytchkcjaahjhbcaa
