/-
  What comes in, as lists: a slice of runes, and a slice of edits; how long they are at most.
-/
import Derived.Test.YtcphiemfjdbhfaaFrame
import Derived.Test.YtcphiemfjdbhfaaGNew
import Derived.Deep.Slices
import Derived.SizedLaws
namespace Go.Proofs.Ytcphiemfjdbhfaa
open Go.ChangeShapes Go.WideShapes Go.ChangeAt Go.RowKit

theorem Try.bytesI32 : Try.prog.bytesOf 21 = 4 := by kernel_rfl
theorem Try.bytesEd : Try.prog.bytesOf 35 = 40 := by kernel_rfl

/-- cells that read as a slice of runes -/
theorem cells_rd {H : Type} {enc : TypeId × Value → H} {W : World} {fuel : Nat} {cs : List Value} {x : DataW H × List MemPlace} (h : DataW.trod enc Try.prog W 0 (fun _ => true) true fuel 22 cs = some x) (hw : ∀ n ∈ x.1.weights Try.prog 22, n ≤ reachBytes) :
    ∃ sp c zs, cs = [.slice sp (List.length zs) c] ∧ L.Rd W (.slice sp zs.length c) .i32 zs ∧ zs.length ≤ 140737488355328 := by
  rcases open_ints Try.underlying22 Try.underlying21 (by kernel_rfl) h with ⟨hcs, hx⟩ | ⟨a, len, cap, zs, hcs, _, hl, hm, hz, hx, hcell, hwz⟩
  · exact ⟨none, 0, [], hcs, ⟨none, 0, rfl, fun _ => rfl, fun h => absurd rfl h⟩, by simp⟩
  · subst hx
    simp only [if_true] at hz
    have hlt : (zs.take len).length = len := by rw [List.length_take]; omega
    have h1 := hw ((zs.take len).length * 4 + (zs.drop len).length * 4) (by
      simp only [DataW.weights, Try.underlying22, Try.bytesI32, lits, List.length_map]
      rw [← Nat.add_mul]
      exact List.mem_cons_self)
    refine ⟨some a, cap, zs.take len, by rw [hcs, hlt], ⟨_, cap, rfl, (fun h => by cases h), fun hne => ?_⟩, by unfold reachBytes at h1; omega⟩
    have h0 : 0 < zs.length := by
      cases zs with
      | nil => simp at hne
      | cons => simp
    obtain ⟨b, off, rfl, _⟩ := ints_at hcell h0
    refine ⟨b, off, rfl, fun j z hj => ?_⟩
    have hj2 : j < zs.length := by
      have := (List.getElem?_eq_some_iff.1 hj).1
      rw [hlt] at this
      omega
    have h3 := hcell j hj2
    rw [L.addr_add] at h3
    rw [h3]
    have h4 : zs[j]? = some z := by
      rw [List.getElem?_take] at hj
      split at hj
      · exact hj
      · simp at hj
    simp [List.getD, h4]

theorem i64_bd' {n : Int} (h : (Lit.int .i64 n).wf = true) : I64 n := by
  simp only [Lit.wf, Bool.and_eq_true, decide_eq_true_eq] at h
  have e1 : IntKind.i64.min = -9223372036854775808 := by decide
  have e2 : IntKind.i64.max = 9223372036854775807 := by decide
  rw [e1, e2] at h
  exact h
theorem weights_all {H : Type} {P : Program} {e : TypeId} {d : DataW H} : ∀ {l : List (DataW H)}, d ∈ l → ∀ n ∈ d.weights P e, n ∈ DataW.weightsAll P e l
  | x :: r, h, n, hn => by
    simp only [DataW.weightsAll, List.mem_append]
    rcases List.mem_cons.1 h with rfl | h
    · exact .inl hn
    · exact .inr (weights_all h n hn)

set_option maxRecDepth 100000 in
theorem edits_rd {H : Type} {enc : TypeId × Value → H} {W : World} {base : Nat} {v : Value} {d : DataW H} {p : List MemPlace}
    (hv : Value.okWide Try.prog W .any base 23 v) (h : DataW.Trod enc Try.prog W 0 (fun _ => true) true 23 v d p) (hw : ∀ n ∈ d.weights Try.prog 23, n ≤ reachBytes) :
    ∃ l : List G.Ed, G.RdE W v l := by
  obtain ⟨a0, len0, cap0, rfl⟩ := okWide_slice Try.underlying23 hv
  obtain ⟨fuel, hf⟩ := h
  obtain ⟨f0, f1, f2, hu, o0, o1, o2, t0, t1, t2⟩ : ∃ f0 f1 f2 : Field, Try.prog.underlying 35 = some (.struct #[f0, f1, f2]) ∧ f0.offset = 0 ∧ f1.offset = 1 ∧ f2.offset = 2 ∧ f0.type = 3 ∧ f1.type = 3 ∧ f2.type = 22 := ⟨_, _, _, Try.underlying35, rfl, rfl, rfl, rfl, rfl, rfl⟩
  have ce : Try.prog.cellsOf 35 = 3 := by kernel_rfl
  have ci : Try.prog.cellsOf 3 = 1 := by kernel_rfl
  have cs2 : Try.prog.cellsOf 22 = 1 := by kernel_rfl
  rcases Go.Deep.open_slice Try.underlying23 hf with ⟨hcs, hx⟩ | ⟨a, len, cap, m, n, D, Pl, hcs, _, hl, hm, hmm, hx, hcell⟩
  · simp [Value.cells] at hcs
    obtain ⟨rfl, rfl, rfl⟩ := hcs
    exact ⟨[], none, 0, rfl, by simp, fun h => absurd rfl h⟩
  · simp [Value.cells] at hcs
    obtain ⟨rfl, rfl, rfl⟩ := hcs
    simp only [Prod.mk.injEq] at hx
    obtain ⟨rfl, rfl⟩ := hx
    simp only [if_true] at hmm
    subst hmm
    have hlen : len0 ≤ 140737488355328 := by
      have h1 := hw ((((List.range len0).map D).length + ((List.range (m - len0)).map fun j => D (len0 + j)).length) * 40) (by
        simp only [DataW.weights, Try.underlying23, Try.bytesEd]
        exact List.mem_cons_self)
      simp only [List.length_map, List.length_range, reachBytes] at h1
      omega
    have each : ∀ i, i < len0 → ∃ q : G.Ed × Option Addr × Nat, W.cell? (a.add (i * 3)) = some (.int .i64 q.1.kind) ∧ W.cell? (a.add (i * 3 + 1)) = some (.int .i64 q.1.n) ∧ W.cell? (a.add (i * 3 + 2)) = some (.slice q.2.1 q.1.runes.length q.2.2) ∧
        L.Rd W (.slice q.2.1 q.1.runes.length q.2.2) .i32 q.1.runes ∧ q.1.runes.length ≤ 140737488355328 ∧ I64 q.1.kind ∧ I64 q.1.n := fun i hi => by
      obtain ⟨cs', h1, h2⟩ := hcell i (by omega)
      rw [ce] at h1
      obtain ⟨_, hlen', hcl⟩ := World.cells?_some h1
      obtain ⟨xs, k, hk, hxy, _, hxl, hfl⟩ := DataW.trod_struct hu h2
      match xs, hxl, cs', hlen' with
      | [y0, y1, y2], _, [v0, v1, v2], _ =>
        have g0 := hfl 0 f0 rfl
        have g1 := hfl 1 f1 rfl
        have g2 := hfl 2 f2 rfl
        simp [o0, o1, o2, t0, t1, t2, ci, cs2] at g0 g1 g2
        have e0 := hcl 0 (by omega)
        have e1 := hcl 1 (by omega)
        have e2 := hcl 2 (by omega)
        rw [Go.Deep.add_add] at e0 e1 e2
        obtain ⟨x0, c0, _, w0⟩ := DataW.trod_int Try.underlying3 g0
        obtain ⟨x1, c1, _, w1⟩ := DataW.trod_int Try.underlying3 g1
        have hD : D i = .agg [y0.1, y1.1, y2.1] := by
          have := congrArg Prod.fst hxy
          simpa using this
        obtain ⟨sp, c, zs, c2, r2, l2⟩ := cells_rd g2 fun n hn => hw n (by
          simp only [DataW.weights, Try.underlying23]
          refine List.mem_cons_of_mem _ (List.mem_append_left _ ?_)
          refine weights_all (d := D i) (List.mem_map.2 ⟨i, by simpa using hi, rfl⟩) n ?_
          rw [hD]
          simp only [DataW.weights, hu]
          exact DataW.weights_mem_each (j := 2) (t := 22) (d := y2.1) (by simp [t2]) rfl n hn)
        simp only [List.cons.injEq, and_true] at c0 c1 c2
        subst c0 c1 c2
        have := i64_bd' w0
        have := i64_bd' w1
        exact ⟨(⟨x0, x1, zs⟩, sp, c), by simpa using e0, by simpa using e1, by simpa using e2, r2, l2, by assumption, by assumption⟩
    have hne : Inhabited (G.Ed × Option Addr × Nat) := ⟨(⟨0, 0, []⟩, none, 0)⟩
    obtain ⟨q, hq⟩ := Go.Deep.choose_lt each
    refine ⟨(List.range len0).map fun i => (q i).1, some a, m, by simp, by simpa using hlen, fun hne => ?_⟩
    have h0 : 0 < len0 := by
      cases len0 with
      | zero => simp at hne
      | succ => omega
    obtain ⟨b, off, spot⟩ := a
    have c0 := (hq 0 h0).1
    have hsp : spot = none := by simpa [Addr.add] using World.cell?_spot c0
    subst hsp
    refine ⟨b, off, rfl, fun j e hj => ?_⟩
    have hj2 : j < len0 := by
      have := (List.getElem?_eq_some_iff.1 hj).1
      simpa using this
    have hej : (q j).1 = e := by
      rw [List.getElem?_map, List.getElem?_range hj2] at hj
      simpa using hj
    obtain ⟨q0, q1, q2, rest⟩ := hq j hj2
    rw [L.addr_add] at q0 q1 q2
    rw [← Nat.add_assoc] at q1 q2
    rw [hej] at q0 q1 q2 rest
    exact ⟨q0, q1, (q j).2.1, (q j).2.2, q2, rest⟩

end Go.Proofs.Ytcphiemfjdbhfaa
