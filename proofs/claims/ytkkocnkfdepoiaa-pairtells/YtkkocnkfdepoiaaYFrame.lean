/-
  Rules that are handed in: what reads as a list of them.
-/
import Derived.Test.YtkkocnkfdepoiaaSAlg
import Derived.Test.YtkkocnkfdepoiaaVLib
namespace Go.Proofs.Ytkkocnkfdepoiaa
open Go.ChangeShapes Go.WideShapes Go.ChangeAt Go.RowKit
set_option linter.unusedVariables false
set_option linter.unusedSimpArgs false

theorem Try.bytesRule : Try.prog.bytesOf 48 = 112 := by kernel_rfl
set_option maxRecDepth 100000 in
theorem rules_rd {H : Type} {enc : TypeId × Value → H} {W : World} {base : Nat} {v : Value} {d : DataW H} {p : List MemPlace}
    (hv : Value.okWide Try.prog W .any base 22 v) (h : DataW.Trod enc Try.prog W 0 (fun _ => true) true 22 v d p) (hw : ∀ n ∈ d.weights Try.prog 22, n ≤ reachBytes) :
    ∃ l : List K.Rule, V.Rus W v l := by
  obtain ⟨a0, len0, cap0, rfl⟩ := okWide_slice Try.underlying22 hv
  obtain ⟨fuel, hf⟩ := h
  have ce : Try.prog.cellsOf 48 = 7 := by kernel_rfl
  rcases Go.Deep.open_slice Try.underlying22 hf with ⟨hcs, hx⟩ | ⟨a, len, cap, m, n, D, Pl, hcs, _, hl, hm, hmm, hx, hcell⟩
  · simp [Value.cells] at hcs
    obtain ⟨rfl, rfl, rfl⟩ := hcs
    exact ⟨[], V.Rus.nil W⟩
  · simp [Value.cells] at hcs
    obtain ⟨rfl, rfl, rfl⟩ := hcs
    simp only [Prod.mk.injEq] at hx
    obtain ⟨rfl, rfl⟩ := hx
    simp only [if_true] at hmm
    subst hmm
    have hlen : len0 ≤ 140737488355328 := by
      have h1 := hw ((((List.range len0).map D).length + ((List.range (m - len0)).map fun j => D (len0 + j)).length) * 112) (by
        simp only [DataW.weights, Try.underlying22, Try.bytesRule]
        exact List.mem_cons_self)
      simp only [List.length_map, List.length_range, reachBytes] at h1
      omega
    have each : ∀ i, i < len0 → ∃ q : K.Rule × Array Value, K.RuIs W (.agg q.2) q.1 ∧ q.2.size = 7 ∧ ∀ j u, q.2[j]? = some u → W.cell? (a.add (i * 7 + j)) = some u := fun i hi => by
      obtain ⟨cs', h1, h2⟩ := hcell i (by omega)
      rw [ce] at h1
      obtain ⟨_, hlen', hcl⟩ := World.cells?_some h1
      match cs', hlen' with
      | [v0, v1, v2, v3, v4, v5, v6], _ =>
        obtain ⟨p, hp⟩ := rule_cells h2 fun n hn => hw n (by
          simp only [DataW.weights, Try.underlying22]
          refine List.mem_cons_of_mem _ (List.mem_append_left _ ?_)
          exact K.weights_all (d := D i) (List.mem_map.2 ⟨i, by simpa using hi, rfl⟩) _ hn)
        refine ⟨(p, #[v0, v1, v2, v3, v4, v5, v6]), hp, rfl, fun j u hj => ?_⟩
        have hj7 : j < 7 := (Array.getElem?_eq_some_iff.1 hj).1
        have e := hcl j hj7
        rw [Go.Deep.add_add] at e
        rw [e]
        have : ([v0, v1, v2, v3, v4, v5, v6] : List Value)[j]? = some u := by simpa using hj
        simpa using this
    have hne : Inhabited (K.Rule × Array Value) := ⟨(⟨false, false, [], [], [], [], 0⟩, #[])⟩
    obtain ⟨q, hq⟩ := Go.Deep.choose_lt each
    refine ⟨(List.range len0).map fun i => (q i).1, some a, m, by simp, by simpa using hlen, fun hne => ?_⟩
    have h0 : 0 < len0 := by
      cases len0 with
      | zero => simp at hne
      | succ => omega
    obtain ⟨b, off, spot⟩ := a
    have hsp : spot = none := by
      obtain ⟨_, h7, hc⟩ := hq 0 h0
      have := hc 0 ((q 0).2[0]'(by omega)) (by simp)
      simpa [Addr.add] using World.cell?_spot this
    subst hsp
    refine ⟨b, off, rfl, fun j e hj => ?_⟩
    have hj2 : j < len0 := by
      have := (List.getElem?_eq_some_iff.1 hj).1
      simpa using this
    have hej : (q j).1 = e := by
      rw [List.getElem?_map, List.getElem?_range hj2] at hj
      simpa using hj
    obtain ⟨hP, _, hc⟩ := hq j hj2
    rw [hej] at hP
    have hP0 := hP
    obtain ⟨bo, bc, so, sc, ao, ac, tgo, tc, he, _⟩ := hP
    have he2 := Value.agg.inj he
    rw [he2] at hP0 hc
    have cc : ∀ (i : Nat) (u : Value), (#[.bool e.start, .bool e.fin, .slice bo e.before.length bc, .slice so e.source.length sc, .slice ao e.after.length ac, .slice tgo e.target.length tc, .int .i64 e.cursor] : Array Value)[i]? = some u → W.cell? ⟨b, off + j * 7 + i, none⟩ = some u := fun i u hi => by
      have := hc i u hi
      rw [L.addr_add, ← Nat.add_assoc] at this
      exact this
    exact ⟨bo, bc, so, sc, ao, ac, tgo, tc, cc 0 _ rfl, cc 1 _ rfl, cc 2 _ rfl, cc 3 _ rfl, cc 4 _ rfl, cc 5 _ rfl, cc 6 _ rfl, hP0⟩

end Go.Proofs.Ytkkocnkfdepoiaa

/-
  Rules that are handed in: their room.
-/
namespace Go.Proofs.Ytkkocnkfdepoiaa
open Go.ChangeShapes Go.WideShapes Go.ChangeAt Go.RowKit
set_option linter.unusedVariables false
set_option linter.unusedSimpArgs false

set_option maxRecDepth 100000 in
theorem rules_cap {H : Type} {enc : TypeId × Value → H} {W : World} {base : Nat} {v : Value} {d : DataW H} {p : List MemPlace}
    (hv : Value.okWide Try.prog W .any base 22 v) (h : DataW.Trod enc Try.prog W 0 (fun _ => true) true 22 v d p) : ∀ ao n c, v = .slice ao n c → n ≤ c := by
  obtain ⟨a0, len0, cap0, rfl⟩ := okWide_slice Try.underlying22 hv
  obtain ⟨fuel, hf⟩ := h
  intro ao n c he
  cases he
  rcases Go.Deep.open_slice Try.underlying22 hf with ⟨hcs, hx⟩ | ⟨a, len, cap, m, k, D, Pl, hcs, _, hl, _⟩
  · simp [Value.cells] at hcs
    obtain ⟨rfl, rfl, rfl⟩ := hcs
    exact Nat.le_refl _
  · simp [Value.cells] at hcs
    obtain ⟨rfl, rfl, rfl⟩ := hcs
    exact hl

end Go.Proofs.Ytkkocnkfdepoiaa
