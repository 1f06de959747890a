/-
  Rows of texts in memory.
-/
import Derived.Test.YtackaadejnbfmaaQClone
import Derived.Test.YtackaadejnbfmaaQRepl
import Derived.Test.YtackaadejnbfmaaYFrame
namespace Go.Proofs.Ytackaadejnbfmaa
open Go.RowKit
theorem Try.infoTxt : (Try.prog.info? 23).map (fun i => (i.zero, i.size, i.bytes)) = some (some (.slice none 0 0), 1, 24) := by kernel_rfl
namespace Ws
/-- a row of texts of the call's own -/
def Own (F : Nat) (w : World) (v : Value) (ts : List (List Int)) : Prop :=
  ∃ ps : List (List Int × Value), ps.map (·.1) = ts ∧ w.ownsRow F 23 1 v ts.length (ps.map (·.2)) ∧ ∀ p ∈ ps, w.ownsRow F 21 1 p.2 p.1.length (K.ints p.1)
theorem Own.nil (F : Nat) (w : World) : Own F w (.slice none 0 0) [] := ⟨[], rfl, World.ownsRow_nil _ _ _ _, fun p hp => by cases hp⟩
theorem Own.len {F : Nat} {w : World} {v : Value} {ts : List (List Int)} (h : Own F w v ts) : ∃ ao cap, v = .slice ao ts.length cap := by
  obtain ⟨ps, _, h2, _⟩ := h
  rcases h2.2 with ⟨hv, h0⟩ | ⟨g, cap, cur, hv, _⟩
  · exact ⟨none, 0, by rw [hv, h0]⟩
  · exact ⟨_, cap, hv⟩
theorem kept1 {F : Nat} {e : TypeId} {k : Nat} {w w' : World} {v : Value} {n : Nat} {xs : List Value} (h : w.ownsRow F e k v n xs) (hb : ∀ g, v.ownBlock = some g → w'.heap[g]? = w.heap[g]?) : w'.ownsRow F e k v n xs := by
  obtain ⟨h1, h2⟩ := h
  refine ⟨h1, ?_⟩
  rcases h2 with h2 | ⟨g, cap, cur, hv, hg, hx, r⟩
  · exact .inl h2
  · exact .inr ⟨g, cap, cur, hv, hg, by rw [hb g (by rw [hv]; rfl)]; exact hx, r⟩
theorem Own.kept {F : Nat} {w w' : World} {v : Value} {ts : List (List Int)} (h : Own F w v ts) (hb : ∀ g, F ≤ g → g < w.heap.size → w'.heap[g]? = w.heap[g]?) : Own F w' v ts := by
  obtain ⟨ps, h1, h2, h3⟩ := h
  exact ⟨ps, h1, kept1 h2 fun g hg => hb g (h2.lt g hg).1 (h2.lt g hg).2, fun p hp => kept1 (h3 p hp) fun g hg => hb g ((h3 p hp).lt g hg).1 ((h3 p hp).lt g hg).2⟩
theorem one_cell {F : Nat} {e : TypeId} {k : Nat} {w : World} {v : Value} {n : Nat} {xs : List Value} (h : w.ownsRow F e k v n xs) : v.oneCell' = true := by
  obtain ⟨_, ⟨rfl, _⟩ | ⟨g, cap, cur, rfl, _⟩⟩ := h <;> rfl
theorem one_new (W : World) (r : Value) : ∀ j u, ([r] : List Value)[j]? = some u → (W.alloc (.cells #[r] 23)).cell? ((⟨W.heap.size, 0, none⟩ : Addr).add j) = some u := by
  intro j u hj
  have e : (W.alloc (.cells #[r] 23)).heap[W.heap.size]? = some (.cells #[r] 23) := heap_alloc_new W _
  rw [L.addr_add, Nat.zero_add]
  match j, hj with
  | 0, hj => exact K.at_box e (by simpa using hj)
  | n + 1, hj => simp at hj
theorem box_ne {F : Nat} {e : TypeId} {k : Nat} {w : World} {v : Value} {n : Nat} {xs : List Value} {b : Nat} {c : Array Value} {ty : TypeId} (h : w.ownsRow F e k v n xs) (hb : w.heap[b]? = some (.cells c ty)) (hne : ty ≠ e) : ∀ g, v.ownBlock = some g → g ≠ b := by
  intro g hg eq
  subst eq
  rcases h.2 with ⟨hv, _⟩ | ⟨g', cap, cur, hv, _, hx, _⟩
  · rw [hv] at hg; cases hg
  · rw [hv] at hg
    have e2 : g' = g := by simpa [Value.ownBlock] using hg
    rw [e2] at hx
    have := hx.symm.trans hb
    simp at this
    exact hne this.2.symm
theorem own_ne2 {F F' : Nat} {e e' : TypeId} {k k' : Nat} {w : World} {v v' : Value} {n n' : Nat} {xs xs' : List Value} (h : w.ownsRow F e k v n xs) (h' : w.ownsRow F' e' k' v' n' xs') (hne : e' ≠ e) : ∀ g, v.ownBlock = some g → v'.ownBlock ≠ some g := by
  intro g hg hg'
  rcases h'.2 with ⟨hv, _⟩ | ⟨g', cap, cur, hv, _, hx, _⟩
  · rw [hv] at hg'; cases hg'
  · rw [hv] at hg'
    have e2 : g' = g := by simpa [Value.ownBlock] using hg'
    rw [e2] at hx
    exact box_ne h hx hne g hg rfl
/-- one text more; the row's own block alone is changed -/
theorem push_ps {F : Nat} {w : World} {v : Value} {ps : List (List Int × Value)} (h2 : w.ownsRow F 23 1 v ps.length (ps.map (·.2))) (hF : F ≤ w.heap.size) (hl : ps.length ≤ 2000000) (t : List Int) (r : Value) (hr : w.ownsRow F 21 1 r t.length (K.ints t)) :
    ∃ v' w', (∀ ty, (Builtin.append_ #[37, 37] ty #[v, .slice (some ⟨w.heap.size, 0, none⟩) 1 1]).run Try.prog (w.alloc (.cells #[r] 23)) = .ok v' w') ∧ w'.ownsRow F 23 1 v' (ps ++ [(t, r)]).length ((ps ++ [(t, r)]).map (·.2)) ∧ (w.alloc (.cells #[r] 23)).grownBy w' v.ownBlock ∧ ∀ (v2 : Value) (n2 : Nat) (xs : List Value), w.ownsRow F 21 1 v2 n2 xs → w'.ownsRow F 21 1 v2 n2 xs := by
  obtain ⟨i0, hi, hz0, hz1, hz2⟩ := info_parts Try.infoTxt
  obtain ⟨v', w', hrun, own, gr, _⟩ := run_append_own (P := Try.prog) (w.alloc (.cells #[r] 23)) F 37 0 23 i0 _ 1 24 Try.underlying37 hi hz0 hz1 hz2 rfl (by decide) v ps.length (ps.map (·.2)) (h2.alloc _) ⟨w.heap.size, 0, none⟩ 1 1 [r] rfl (one_new w r)
    (fun u hu => by simp at hu; subst hu; exact one_cell hr) (by unfold maxLen; omega) (by omega) (by simp; omega)
  refine ⟨v', w', fun ty => hrun, ?_, gr, fun v2 n2 xs h => L.push_other h2 h (by decide) gr⟩
  rw [List.map_append, List.length_append]
  exact own
/-- texts that are read -/
def Rd (w : World) (v : Value) (ts : List (List Int)) : Prop :=
  ∃ ao cap, v = .slice ao ts.length cap ∧ (ao = none → cap = 0) ∧ (ts ≠ [] → ∃ b off, ao = some ⟨b, off, none⟩ ∧ ∀ j t, ts[j]? = some t → ∃ u, w.cell? ⟨b, off + j, none⟩ = some u ∧ L.Rd w u .i32 t)
theorem Rd.below {w w' : World} {v : Value} {ts : List (List Int)} (h : Rd w v ts) (hb : Below w.heap.size w w') : Rd w' v ts := by
  obtain ⟨ao, cap, hv, hn, hc⟩ := h
  refine ⟨ao, cap, hv, hn, fun hne => ?_⟩
  obtain ⟨b, off, e, hcell⟩ := hc hne
  refine ⟨b, off, e, fun j t hj => ?_⟩
  obtain ⟨u, h1, h2⟩ := hcell j t hj
  exact ⟨u, by rw [hb.cell (p := ⟨b, off + j, none⟩) (L.block_lt h1)]; exact h1, h2.below hb (Nat.le_refl _)⟩
theorem Own.rd {F : Nat} {w : World} {v : Value} {ts : List (List Int)} (h : Own F w v ts) : Rd w v ts := by
  obtain ⟨ps, h1, h2, h3⟩ := h
  rcases h2.2 with ⟨hv, h0⟩ | ⟨g, cap, cur, hv, hg, hx, hle, hmax, hsz, htk⟩
  · have : ts = [] := List.eq_nil_of_length_eq_zero h0
    subst this
    exact ⟨none, 0, hv, fun _ => rfl, fun h => absurd rfl h⟩
  · refine ⟨_, cap, hv, fun e => by (cases e), fun _ => ⟨g, 0, rfl, fun j t hj => ?_⟩⟩
    rw [← h1, List.getElem?_map] at hj
    cases hp : ps[j]? with
    | none => rw [hp] at hj; simp at hj
    | some p =>
      rw [hp] at hj
      simp at hj
      subst hj
      have hlt := (List.getElem?_eq_some_iff.1 hp).1
      have hjl : j < ts.length := by rw [← h1]; simpa using hlt
      refine ⟨p.2, ?_, L.Rd.of_owns (h3 p (List.mem_of_getElem? hp))⟩
      have e : cur.toList[j]? = some p.2 := by
        have : (cur.toList.take (ts.length * 1))[j]? = some p.2 := by rw [htk, List.getElem?_map, hp]; rfl
        rw [List.getElem?_take] at this
        split at this
        · exact this
        · cases this
      exact K.at_box hx (by simpa using e)
end Ws
end Go.Proofs.Ytackaadejnbfmaa

/-
  Texts that are handed in: what reads as a list of them.
-/
namespace Go.Proofs.Ytackaadejnbfmaa
open Go.ChangeShapes Go.WideShapes Go.ChangeAt Go.RowKit
set_option linter.unusedVariables false
set_option linter.unusedSimpArgs false

theorem Try.bytesTxt : Try.prog.bytesOf 23 = 24 := by kernel_rfl
set_option maxRecDepth 100000 in
theorem texts_rd {H : Type} {enc : TypeId × Value → H} {W : World} {base : Nat} {v : Value} {d : DataW H} {p : List MemPlace}
    (hv : Value.okWide Try.prog W .any base 37 v) (h : DataW.Trod enc Try.prog W 0 (fun _ => true) true 37 v d p) (hw : ∀ n ∈ d.weights Try.prog 37, n ≤ reachBytes) :
    ∃ l : List (List Int), Ws.Rd W v l ∧ (∀ c ∈ l, c.length ≤ 140737488355328) ∧ l.length ≤ 140737488355328 := by
  obtain ⟨a0, len0, cap0, rfl⟩ := okWide_slice Try.underlying37 hv
  obtain ⟨fuel, hf⟩ := h
  have ce : Try.prog.cellsOf 23 = 1 := by kernel_rfl
  rcases Go.Deep.open_slice Try.underlying37 hf with ⟨hcs, hx⟩ | ⟨a, len, cap, m, n, D, Pl, hcs, _, hl, hm, hmm, hx, hcell⟩
  · simp [Value.cells] at hcs
    obtain ⟨rfl, rfl, rfl⟩ := hcs
    exact ⟨[], ⟨none, 0, rfl, fun _ => rfl, fun h => absurd rfl h⟩, fun c hc => by (cases hc), by simp⟩
  · simp [Value.cells] at hcs
    obtain ⟨rfl, rfl, rfl⟩ := hcs
    simp only [Prod.mk.injEq] at hx
    obtain ⟨rfl, rfl⟩ := hx
    simp only [if_true] at hmm
    subst hmm
    have hlen : len0 ≤ 140737488355328 := by
      have h1 := hw ((((List.range len0).map D).length + ((List.range (m - len0)).map fun j => D (len0 + j)).length) * 24) (by
        simp only [DataW.weights, Try.underlying37, Try.bytesTxt]
        exact List.mem_cons_self)
      simp only [List.length_map, List.length_range, reachBytes] at h1
      omega
    have each : ∀ i, i < len0 → ∃ q : List Int × Value, W.cell? (a.add i) = some q.2 ∧ L.Rd W q.2 .i32 q.1 ∧ q.1.length ≤ 140737488355328 := fun i hi => by
      obtain ⟨cs', h1, h2⟩ := hcell i (by omega)
      rw [ce] at h1
      obtain ⟨_, hlen', hcl⟩ := World.cells?_some h1
      obtain ⟨sp, c, zs, rfl, hrd, hz, _⟩ := runes_cells h2 fun n hn => hw n (by
        simp only [DataW.weights, Try.underlying37]
        refine List.mem_cons_of_mem _ (List.mem_append_left _ ?_)
        exact K.weights_all (d := D i) (List.mem_map.2 ⟨i, by simpa using hi, rfl⟩) _ hn)
      have e0 := hcl 0 (by omega)
      rw [Go.Deep.add_add] at e0
      exact ⟨(zs, _), by simpa using e0, hrd, hz⟩
    have hne : Inhabited (List Int × Value) := ⟨([], .nilFunc)⟩
    obtain ⟨q, hq⟩ := Go.Deep.choose_lt each
    refine ⟨(List.range len0).map fun i => (q i).1, ⟨some a, m, by simp, (fun h => by cases h), fun hne => ?_⟩, fun c hc => ?_, by simpa using hlen⟩
    · have h0 : 0 < len0 := by
        cases len0 with
        | zero => simp at hne
        | succ => omega
      obtain ⟨b, off, spot⟩ := a
      have hsp : spot = none := by
        have := (hq 0 h0).1
        simpa [Addr.add] using World.cell?_spot this
      subst hsp
      refine ⟨b, off, rfl, fun j t hj => ?_⟩
      have hj2 : j < len0 := by
        have := (List.getElem?_eq_some_iff.1 hj).1
        simpa using this
      rw [List.getElem?_map, List.getElem?_range hj2] at hj
      cases hj
      have := (hq j hj2).1
      rw [L.addr_add] at this
      exact ⟨_, this, (hq j hj2).2.1⟩
    · obtain ⟨i, hi, rfl⟩ := List.mem_map.1 hc
      exact (hq i (by simpa using hi)).2.2

end Go.Proofs.Ytackaadejnbfmaa
