/-
  Rules without one of them: two appends onto a new row.
-/
import Derived.Test.YtdmpmkcigjkilabYMasked
import Derived.Test.YtdmpmkcigjkilabRStay
namespace Go.Proofs.Ytdmpmkcigjkilab
open Go.RowKit Go.Shelf
set_option maxRecDepth 20000
set_option linter.unusedSimpArgs false
set_option linter.unusedVariables false

theorem K.slice_rules_from (xo : Option Addr) (N xc D : Nat) (h : D ≤ N) (hc : N ≤ xc) (w' : World) : (Instr.slice 22 (.slice xo N xc) (some (.int .i64 (D : Int))) none none).run Try.prog w' = .ok (.slice (if xc = D then xo else Option.map (fun x => x.add (D * 7)) xo) (N - D) (xc - D)) w' := by
  have a1 : (D : Int) ≤ N := by omega
  have a2 : (N : Int) ≤ xc := by omega
  have a0 : (0 : Int) ≤ D := by omega
  have ce : Try.prog.cellsOf 53 = 7 := by kernel_rfl
  go_simp

namespace K
theorem elemRu : R.Elem 22 53 7 := ⟨Try.underlying22, ⟨.agg #[.bool false, .bool false, .slice none 0 0, .slice none 0 0, .slice none 0 0, .slice none 0 0, .int .i64 0], 112, by kernel_rfl, by decide, rfl⟩, by decide⟩
/-- the value in a cell -/
def valAt (w : World) (b off i : Nat) : Value := (w.cell? ⟨b, off + i, none⟩).getD undef
theorem Rus.cell {w : World} {b off n cap : Nat} {l : List Rule} (h : V.Rus w (.slice (some ⟨b, off, none⟩) n cap) l) {i : Nat} (hi : i < l.length * 7) : w.cell? ⟨b, off + i, none⟩ = some (valAt w b off i) ∧ (valAt w b off i).oneCell' = true := by
  obtain ⟨p, hp⟩ : ∃ p, l[i / 7]? = some p := ⟨l[i / 7]'(by omega), by simp [show i / 7 < l.length by omega]⟩
  obtain ⟨b', off', bo, bc, so, sc, ao, ac, to, tc, he, c0, c1, c2, c3, c4, c5, c6, _⟩ := Rus.rule h hp
  cases he
  have key : ∀ t u, i % 7 = t → w.cell? ⟨b, off + i / 7 * 7 + t, none⟩ = some u → u.oneCell' = true → w.cell? ⟨b, off + i, none⟩ = some (valAt w b off i) ∧ (valAt w b off i).oneCell' = true := fun t u ht hu h1 => by
    rw [show off + i / 7 * 7 + t = off + i by omega] at hu
    unfold valAt
    rw [hu]
    exact ⟨rfl, h1⟩
  have h7 : i % 7 < 7 := Nat.mod_lt _ (by omega)
  rcases (show i % 7 = 0 ∨ i % 7 = 1 ∨ i % 7 = 2 ∨ i % 7 = 3 ∨ i % 7 = 4 ∨ i % 7 = 5 ∨ i % 7 = 6 by omega) with h0 | h0 | h0 | h0 | h0 | h0 | h0
  · exact key 0 _ h0 c0 rfl
  · exact key 1 _ h0 c1 rfl
  · exact key 2 _ h0 c2 rfl
  · exact key 3 _ h0 c3 rfl
  · exact key 4 _ h0 c4 rfl
  · exact key 5 _ h0 c5 rfl
  · exact key 6 _ h0 c6 rfl
/-- the values of n cells from one on -/
def valsAt (w : World) (b off n : Nat) : List Value := (List.range n).map (valAt w b off)
theorem valsAt_length (w : World) (b off n : Nat) : (valsAt w b off n).length = n := by simp [valsAt]
theorem valsAt_get {w : World} {b off n j : Nat} (h : j < n) : (valsAt w b off n)[j]? = some (valAt w b off j) := by
  unfold valsAt; rw [List.getElem?_map, List.getElem?_range h]; rfl
theorem valsAt_inv {w : World} {b off n j : Nat} {u : Value} (h : (valsAt w b off n)[j]? = some u) : j < n ∧ u = valAt w b off j := by
  have hlt : j < n := by have := (List.getElem?_eq_some_iff.1 h).1; rwa [valsAt_length] at this
  rw [valsAt_get hlt] at h
  exact ⟨hlt, (Option.some.inj h).symm⟩
theorem valAt_add (w : World) (b off d i : Nat) : valAt w b (off + d) i = valAt w b off (d + i) := by unfold valAt; rw [Nat.add_assoc]
/-- append of rules that lie in a row, as a run -/
theorem app_vals (W : World) (B : Nat) (v : Value) (n : Nat) (xs : List Value) (own : W.ownsRow B 53 7 v n xs) (hB : B ≤ W.heap.size) (a : Addr) (m c : Nat) (news : List Value) (hl : news.length = m * 7) (hnews : ∀ j u, news[j]? = some u → W.cell? (a.add j) = some u) (h1 : ∀ u ∈ news, u.oneCell' = true) (hs : n + m ≤ 1000) :
    ∃ v' w', (∀ ty, (Builtin.append_ #[22, 22] ty #[v, .slice (some a) m c]).run Try.prog W = .ok v' w') ∧ w'.ownsRow B 53 7 v' (n + m) (xs ++ news) ∧ W.grownBy w' v.ownBlock := by
  obtain ⟨v', w', hr, h2, h3, _⟩ := R.run_app elemRu W 0 B v n xs own a m c news hl hnews h1 (by omega) hB
  exact ⟨v', w', fun ty => hr, h2, h3⟩

/-- RULES WITHOUT ONE OF THEM -/
theorem app_without {w W0 : World} {b off n cap : Nat} {l : List Rule} (R : V.Rus w (.slice (some ⟨b, off, none⟩) n cap) l) (hW : Below w.heap.size w W0) (B : Nat) (hwB : w.heap.size ≤ B) (hB : B ≤ W0.heap.size) (v0 : Value) (own0 : W0.ownsRow B 53 7 v0 0 []) (k : Nat) (hk : k < l.length) (hl : l.length ≤ 200) (hcap : l.length ≤ cap)
    (ad : Option Addr) (had : ad = (if cap = k + 1 then some (⟨b, off, none⟩ : Addr) else Option.map (fun x => x.add ((k + 1) * 7)) (some (⟨b, off, none⟩ : Addr)))) :
    ∃ v1 w1 v2 w2, (∀ ty, (Builtin.append_ #[22, 22] ty #[v0, .slice (some ⟨b, off, none⟩) k cap]).run Try.prog W0 = .ok v1 w1) ∧ (∀ ty, (Builtin.append_ #[22, 22] ty #[v1, .slice ad (l.length - (k + 1)) (cap - (k + 1))]).run Try.prog w1 = .ok v2 w2) ∧
      V.Rus w2 v2 (without l k) ∧ Below B W0 w2 ∧ Below B W0 w1 := by
  have hb : b < w.heap.size := by
    obtain ⟨p, hp⟩ : ∃ p, l[k]? = some p := ⟨l[k], by simp [hk]⟩
    obtain ⟨b', off', _, _, _, _, _, _, _, _, he, c0, _⟩ := Rus.rule R hp
    cases he
    exact L.block_lt c0
  have hcell : ∀ i, i < l.length * 7 → w.cell? ⟨b, off + i, none⟩ = some (valAt w b off i) ∧ (valAt w b off i).oneCell' = true := fun i hi => Rus.cell R hi
  obtain ⟨v1, w1, run1, own1, gr1⟩ := app_vals W0 B v0 0 [] own0 hB ⟨b, off, none⟩ k cap (valsAt w b off (k * 7)) (valsAt_length ..) (fun j u hj => by
    obtain ⟨hj2, rfl⟩ := valsAt_inv hj
    rw [L.addr_add, hW.cell (p := ⟨b, off + j, none⟩) hb]
    exact (hcell j (by omega)).1) (fun u hu => by
    obtain ⟨j, hj⟩ := List.getElem?_of_mem hu
    obtain ⟨hj2, rfl⟩ := valsAt_inv hj
    exact (hcell j (by omega)).2) (by omega)
  have b1 : Below B W0 w1 := (Below.refl _ W0).grown gr1 hB fun q hq => (own0.lt q hq).1
  have hw1 : Below w.heap.size w w1 := hW.trans (b1.mono hwB)
  obtain ⟨a2, ha2, hnews2⟩ : ∃ a2, ad = some a2 ∧ ∀ j u, (valsAt w b (off + (k + 1) * 7) ((l.length - (k + 1)) * 7))[j]? = some u → w1.cell? (a2.add j) = some u := by
    by_cases hc : cap = k + 1
    · rw [if_pos hc] at had
      refine ⟨_, had, fun j u hj => ?_⟩
      have := (valsAt_inv hj).1
      omega
    · rw [if_neg hc, Option.map_some, L.addr_add] at had
      refine ⟨_, had, fun j u hj => ?_⟩
      obtain ⟨hj2, rfl⟩ := valsAt_inv hj
      rw [L.addr_add, hw1.cell (p := ⟨b, off + (k + 1) * 7 + j, none⟩) hb, valAt_add, Nat.add_assoc]
      exact (hcell _ (by omega)).1
  obtain ⟨v2, w2, run2, own2, gr2⟩ := app_vals w1 B v1 (0 + k) ([] ++ valsAt w b off (k * 7)) own1 (Nat.le_trans hB b1.size) a2 (l.length - (k + 1)) (cap - (k + 1)) (valsAt w b (off + (k + 1) * 7) ((l.length - (k + 1)) * 7)) (valsAt_length ..) hnews2 (fun u hu => by
    obtain ⟨j, hj⟩ := List.getElem?_of_mem hu
    obtain ⟨hj2, rfl⟩ := valsAt_inv hj
    rw [valAt_add]
    exact (hcell _ (by omega)).2) (by omega)
  rw [← ha2] at run2
  have b2 : Below B w1 w2 := (Below.refl _ w1).grown gr2 (Nat.le_trans hB b1.size) fun q hq => (own1.lt q hq).1
  refine ⟨v1, w1, v2, w2, run1, run2, ?_, b1.trans b2, b1⟩
  have hw2 : Below w.heap.size w w2 := hw1.trans (b2.mono hwB)
  have hlen : (without l k).length = 0 + k + (l.length - (k + 1)) := by unfold without; rw [List.length_append, List.length_take, List.length_drop]; omega
  have hc2 := fun g hg => World.ownsRow.cells own2 (g := g) hg
  obtain ⟨ao2, cap2, hv2⟩ : ∃ ao c, v2 = .slice ao (without l k).length c := by
    rcases own2.2 with ⟨h, h0⟩ | ⟨g, cp, cur, h, _⟩
    · exact ⟨none, 0, by rw [h, hlen, h0]⟩
    · exact ⟨_, cp, by rw [h, hlen]⟩
  refine ⟨ao2, cap2, hv2, by omega, fun hz => ?_⟩
  have hpos := List.length_pos_iff.2 hz
  obtain ⟨g, hg⟩ : ∃ g, ao2 = some ⟨g, 0, none⟩ := by
    rcases own2.2 with ⟨h, h0⟩ | ⟨g, cp, cur, h, _⟩
    · rw [← hlen] at h0; omega
    · rw [hv2] at h; exact ⟨g, by simp only [Value.slice.injEq] at h; exact h.1⟩
  subst hg
  refine ⟨g, 0, rfl, fun j r hj => ?_⟩
  have hjl : j < (without l k).length := (List.getElem?_eq_some_iff.1 hj).1
  -- where the rule stood
  obtain ⟨q, hq, hqv⟩ : ∃ q, l[q]? = some r ∧ ∀ t, t < 7 → ([] ++ valsAt w b off (k * 7) ++ valsAt w b (off + (k + 1) * 7) ((l.length - (k + 1)) * 7))[j * 7 + t]? = some (valAt w b off (q * 7 + t)) := by
    unfold without at hj
    by_cases hjk : j < k
    · rw [List.getElem?_append_left (by rw [List.length_take]; omega), List.getElem?_take_of_lt hjk] at hj
      refine ⟨j, hj, fun t ht => ?_⟩
      rw [List.nil_append, List.getElem?_append_left (by rw [valsAt_length]; omega), valsAt_get (by omega)]
    · rw [List.getElem?_append_right (by rw [List.length_take]; omega), List.length_take, Nat.min_eq_left (by omega), List.getElem?_drop] at hj
      refine ⟨k + 1 + (j - k), hj, fun t ht => ?_⟩
      rw [List.nil_append, List.getElem?_append_right (by rw [valsAt_length]; omega), valsAt_length, valsAt_get (by omega), valAt_add]
      congr 2
      omega
  obtain ⟨b', off', bo, bc, so, sc, ao, ac, to, tc, he, c0, c1, c2, c3, c4, c5, c6, hR⟩ := Rus.rule R hq
  cases he
  have get : ∀ t u, t < 7 → w.cell? ⟨b, off + q * 7 + t, none⟩ = some u → w2.cell? ⟨g, 0 + j * 7 + t, none⟩ = some u := fun t u ht hu => by
    have h1 := hqv t ht
    have h2 : valAt w b off (q * 7 + t) = u := by unfold valAt; rw [← Nat.add_assoc, hu]; rfl
    rw [h2] at h1
    have h3 := hc2 g (by rw [hv2]; rfl) _ _ h1
    rw [L.addr_add, ← Nat.add_assoc] at h3
    exact h3
  exact ⟨bo, bc, so, sc, ao, ac, to, tc, get 0 _ (by omega) c0, get 1 _ (by omega) c1, get 2 _ (by omega) c2, get 3 _ (by omega) c3, get 4 _ (by omega) c4, get 5 _ (by omega) c5, get 6 _ (by omega) c6, hR.below hw2⟩
end K

end Go.Proofs.Ytdmpmkcigjkilab
