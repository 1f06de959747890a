/-
  Passes that are being made: rows of one's own, and what rules mean.
-/
import Derived.Test.YtchkcjaahjhbcaaVPlain
import Derived.Test.YtchkcjaahjhbcaaRStay
namespace Go.Proofs.Ytchkcjaahjhbcaa.V
open Go.RowKit
set_option linter.unusedVariables false

theorem elemP : R.Elem 41 83 2 := ⟨Try.underlying41, ⟨.agg #[.string ⟨#[]⟩, .slice none 0 0], 40, by kernel_rfl, by decide, rfl⟩, by decide⟩
theorem elemR : R.Elem 22 65 7 := ⟨Try.underlying22, ⟨.agg #[.bool false, .bool false, .slice none 0 0, .slice none 0 0, .slice none 0 0, .slice none 0 0, .int .i64 0], 112, by kernel_rfl, by decide, rfl⟩, by decide⟩

/-- a meaning that hangs on no top block -/
def Leaf (tops : List Nat) (w : World) (Q : World → Prop) : Prop := ∀ W : World, w.heap.size ≤ W.heap.size → (∀ b, b < w.heap.size → b ∉ tops → W.heap[b]? = w.heap[b]?) → Q W
theorem Leaf.here {tops : List Nat} {w : World} {Q : World → Prop} (h : Leaf tops w Q) : Q w := h w (Nat.le_refl _) fun _ _ _ => rfl
theorem Leaf.step {tops tops' : List Nat} {w w' : World} {Q : World → Prop} (h : Leaf tops w Q) (hs : w.heap.size ≤ w'.heap.size) (hk : ∀ b, b < w.heap.size → b ∉ tops → w'.heap[b]? = w.heap[b]?) (ht : ∀ k ∈ tops', k ∈ tops ∨ w.heap.size ≤ k) : Leaf tops' w' Q :=
  fun W h1 h2 => h W (Nat.le_trans hs h1) fun b hb hn => (h2 b (by omega) fun hm => by rcases ht b hm with h | h; exact hn h; omega).trans (hk b hb hn)

/-- only tops may change, and tops come from tops or are new -/
def Moves (tops : List Nat) (w : World) (tops' : List Nat) (w' : World) : Prop := w.heap.size ≤ w'.heap.size ∧ (∀ b, b < w.heap.size → b ∉ tops → w'.heap[b]? = w.heap[b]?) ∧ (∀ k ∈ tops', k ∈ tops ∨ w.heap.size ≤ k) ∧ ∀ k ∈ tops, k ∈ tops'
theorem Moves.of_below {tops : List Nat} {w w' : World} (hb : Below w.heap.size w w') : Moves tops w tops w' := ⟨hb.size, fun b h _ => hb.block b h, fun k hk => .inl hk, fun k hk => hk⟩
theorem Moves.trans {t t1 t2 : List Nat} {w w1 w2 : World} (h : Moves t w t1 w1) (h' : Moves t1 w1 t2 w2) : Moves t w t2 w2 :=
  ⟨Nat.le_trans h.1 h'.1, fun b hb hn => (h'.2.1 b (Nat.lt_of_lt_of_le hb h.1) fun hm => (h.2.2.1 b hm).elim hn fun h1 => absurd hb (Nat.not_lt.2 h1)).trans (h.2.1 b hb hn), fun k hk => (h'.2.2.1 k hk).elim (h.2.2.1 k) fun h1 => .inr (Nat.le_trans h.1 h1), fun k hk => h'.2.2.2 k (h.2.2.2 k hk)⟩
theorem Leaf.moves {tops tops' : List Nat} {w w' : World} {Q : World → Prop} (h : Leaf tops w Q) (m : Moves tops w tops' w') : Leaf tops' w' Q := h.step m.1 m.2.1 m.2.2.1

/-- a row of rules of one's own -/
def RuRow (F : Nat) (tops : List Nat) (w : World) (rv : Value) (rs : List K.Rule) : Prop :=
  ∃ cs : List (List Value), w.ownsRow F 65 7 rv rs.length cs.flatten ∧ cs.length = rs.length ∧ (∀ c ∈ cs, c.length = 7 ∧ ∀ u ∈ c, u.oneCell' = true) ∧ ∀ (j : Nat) r c, rs[j]? = some r → cs[j]? = some c → Leaf tops w fun W => K.RuIs W (.agg c.toArray) r
theorem RuRow.nil (F : Nat) (tops : List Nat) (w : World) : RuRow F tops w (.slice none 0 0) [] := ⟨[], World.ownsRow_nil _ _ _ _, rfl, fun c hc => (by cases hc), fun j r c h => by cases h⟩
theorem own_kept {F : Nat} {e : TypeId} {k : Nat} {w w' : World} {v : Value} {n : Nat} {xs : List Value} (h : w.ownsRow F e k v n xs) (hb : ∀ g, v.ownBlock = some g → w'.heap[g]? = w.heap[g]?) : w'.ownsRow F e k v n xs := by
  refine ⟨h.1, ?_⟩
  rcases h.2 with h | ⟨g, cap, cur, hv, hB, hg, r⟩
  · exact .inl h
  · exact .inr ⟨g, cap, cur, hv, hB, by rw [hb g (by rw [hv]; rfl)]; exact hg, r⟩
theorem RuRow.step {F : Nat} {tops tops' : List Nat} {w w' : World} {rv : Value} {rs : List K.Rule} (h : RuRow F tops w rv rs) (hs : w.heap.size ≤ w'.heap.size) (hk : ∀ b, b < w.heap.size → b ∉ tops → w'.heap[b]? = w.heap[b]?) (ht : ∀ k ∈ tops', k ∈ tops ∨ w.heap.size ≤ k) (hr : ∀ g, rv.ownBlock = some g → w'.heap[g]? = w.heap[g]?) : RuRow F tops' w' rv rs := by
  obtain ⟨cs, own, hl, hc, hm⟩ := h
  exact ⟨cs, own_kept own hr, hl, hc, fun j r c h1 h2 => (hm j r c h1 h2).step hs hk ht⟩

def pcells : List Pass → List Value → List Value
  | p :: ps, rv :: rvs => .string p.name :: rv :: pcells ps rvs
  | _, _ => []
theorem pcells_append : ∀ {ps : List Pass} {rvs : List Value} (qs : List Pass) (svs : List Value), rvs.length = ps.length → pcells (ps ++ qs) (rvs ++ svs) = pcells ps rvs ++ pcells qs svs
  | [], [], qs, svs, _ => rfl
  | p :: ps, rv :: rvs, qs, svs, h => by
    show Value.string p.name :: rv :: pcells (ps ++ qs) (rvs ++ svs) = Value.string p.name :: rv :: (pcells ps rvs ++ pcells qs svs)
    rw [pcells_append qs svs (by simpa using h)]
  | [], _ :: _, _, _, h => by simp at h
  | _ :: _, [], _, _, h => by simp at h
theorem pcells_length : ∀ {ps : List Pass} {rvs : List Value}, rvs.length = ps.length → (pcells ps rvs).length = ps.length * 2
  | [], [], _ => rfl
  | p :: ps, rv :: rvs, h => by
    show (pcells ps rvs).length + 1 + 1 = (ps.length + 1) * 2
    rw [pcells_length (by simpa using h)]; omega
  | [], _ :: _, h => by simp at h
  | _ :: _, [], h => by simp at h

/-- passes that are being made -/
structure PS (F : Nat) (tops : List Nat) (w : World) (vp : Value) (ps : List Pass) (rvs : List Value) : Prop where
  len : rvs.length = ps.length
  own : w.ownsRow F 83 2 vp ps.length (pcells ps rvs)
  rows : ∀ (j : Nat) p rv, ps[j]? = some p → rvs[j]? = some rv → RuRow F tops w rv p.rules ∧ p.name.size ≤ 140737488355328
  top : ∀ k, (vp.ownBlock = some k ∨ ∃ rv ∈ rvs, rv.ownBlock = some k) → k ∈ tops
  apart : ∀ rv ∈ rvs, ∀ k, rv.ownBlock = some k → vp.ownBlock ≠ some k
  diff : ∀ (i j : Nat) ri rj k, rvs[i]? = some ri → rvs[j]? = some rj → i ≠ j → ri.ownBlock = some k → rj.ownBlock ≠ some k
  lt : ∀ k ∈ tops, k < w.heap.size

theorem PS.nil (F : Nat) (w : World) : PS F [] w (.slice none 0 0) [] [] :=
  ⟨rfl, World.ownsRow_nil _ _ _ _, fun j p rv h => (by cases h), fun k h => (by rcases h with h | ⟨rv, h, _⟩; cases h; cases h), fun rv h => (by cases h), fun i j ri rj k h => (by cases h), fun k h => by cases h⟩
theorem PS.start (F : Nat) (w : World) (tops : List Nat) (ht : ∀ k ∈ tops, k < w.heap.size) : PS F tops w (.slice none 0 0) [] [] :=
  ⟨rfl, World.ownsRow_nil _ _ _ _, fun j p rv h => (by cases h), fun k h => (by rcases h with h | ⟨rv, h, _⟩; cases h; cases h), fun rv h => (by cases h), fun i j ri rj k h => (by cases h), ht⟩
theorem PS.rvlt {F : Nat} {tops : List Nat} {w : World} {vp : Value} {ps : List Pass} {rvs : List Value} (h : PS F tops w vp ps rvs) {rv : Value} (hm : rv ∈ rvs) : ∀ k, rv.ownBlock = some k → F ≤ k ∧ k < w.heap.size := fun k hk => by
  obtain ⟨j, hj⟩ := List.getElem?_of_mem hm
  have hlt : j < ps.length := by rw [← h.len]; exact (List.getElem?_eq_some_iff.1 hj).1
  obtain ⟨⟨cs, own, _⟩, _⟩ := h.rows j ps[j] rv (by simp) hj
  exact own.lt k hk
theorem PS.below {F : Nat} {tops : List Nat} {w w' : World} {vp : Value} {ps : List Pass} {rvs : List Value} (h : PS F tops w vp ps rvs) (hb : Below w.heap.size w w') : PS F tops w' vp ps rvs :=
  ⟨h.len, own_kept h.own fun g hg => hb.block g (h.own.lt g hg).2, fun j p rv h1 h2 => ⟨(h.rows j p rv h1 h2).1.step hb.size (fun b hb' _ => hb.block b hb') (fun k hk => .inl hk) fun g hg => hb.block g (h.rvlt (List.mem_of_getElem? h2) g hg).2, (h.rows j p rv h1 h2).2⟩, h.top, h.apart, h.diff, fun k hk => Nat.lt_of_lt_of_le (h.lt k hk) hb.size⟩

/-- one pass more, without rules -/
theorem PS.more {F : Nat} {tops : List Nat} {w w' : World} {vp vp' : Value} {ps : List Pass} {rvs : List Value} (h : PS F tops w vp ps rvs) (nm : ByteArray) (hn : nm.size ≤ 140737488355328)
    (ho : w'.ownsRow F 83 2 vp' (ps.length + 1) (pcells ps rvs ++ [.string nm, .slice none 0 0])) (hg : w.grownBy w' vp.ownBlock) (hv : ∀ g, vp'.ownBlock = some g → vp.ownBlock = some g ∨ w.heap.size ≤ g) :
    ∃ tops', PS F tops' w' vp' (ps ++ [⟨nm, []⟩]) (rvs ++ [.slice none 0 0]) ∧ Moves tops w tops' w' := by
  have hk : ∀ b, b < w.heap.size → b ∉ tops → w'.heap[b]? = w.heap[b]? := fun b hb hn => hg.block b hb fun e => hn (h.top b (.inl e.symm))
  obtain ⟨nt, hnt, hnt2, hnt3⟩ : ∃ nt : List Nat, (∀ g, vp'.ownBlock = some g → g ∈ nt) ∧ (∀ k ∈ nt, vp.ownBlock = some k ∨ w.heap.size ≤ k) ∧ ∀ k ∈ nt, k < w'.heap.size := by
    cases hvo : vp'.ownBlock with
    | none => exact ⟨[], fun g h => (by cases h), fun k h => (by cases h), fun k h => by cases h⟩
    | some g => exact ⟨[g], fun g' h => (by cases h; simp), fun k hk => (by rw [List.mem_singleton.1 hk]; exact hv g hvo), fun k hk => by rw [List.mem_singleton.1 hk]; exact (ho.lt g hvo).2⟩
  have ht : ∀ k ∈ tops ++ nt, k ∈ tops ∨ w.heap.size ≤ k := fun k hk' => by
    rcases List.mem_append.1 hk' with h1 | h1
    · exact .inl h1
    · exact (hnt2 k h1).imp (fun h2 => h.top k (.inl h2)) id
  refine ⟨tops ++ nt, ⟨by simp [h.len], ?_, fun j p rv h1 h2 => ?_, fun k hk' => ?_, fun rv hm k hk' e => ?_, fun i j ri rj k h1 h2 hne h3 => ?_, fun k hk' => ?_⟩, ⟨hg.size, hk, ht, fun k hk' => List.mem_append_left _ hk'⟩⟩
  · rw [pcells_append _ _ h.len, List.length_append]; exact ho
  · by_cases hj : j < ps.length
    · rw [List.getElem?_append_left hj] at h1
      rw [List.getElem?_append_left (by rw [h.len]; exact hj)] at h2
      have hr := h.rows j p rv h1 h2
      exact ⟨hr.1.step hg.size hk ht fun g hg' => hg.block g (h.rvlt (List.mem_of_getElem? h2) g hg').2 fun e => h.apart rv (List.mem_of_getElem? h2) g hg' e.symm, hr.2⟩
    · rw [List.getElem?_append_right (by omega)] at h1
      rw [List.getElem?_append_right (by rw [h.len]; omega), h.len] at h2
      have hj0 : j - ps.length = 0 := by
        have := (List.getElem?_eq_some_iff.1 h1).1
        simp at this; omega
      rw [hj0] at h1 h2
      cases h1
      cases h2
      exact ⟨RuRow.nil _ _ _, hn⟩
  · rcases hk' with h1 | ⟨rv, hm, h1⟩
    · exact List.mem_append_right _ (hnt k h1)
    · rcases List.mem_append.1 hm with hm | hm
      · exact List.mem_append_left _ (h.top k (.inr ⟨rv, hm, h1⟩))
      · rw [List.mem_singleton.1 hm] at h1; cases h1
  · rcases List.mem_append.1 hm with hm | hm
    · rcases hv k e with h1 | h1
      · exact h.apart rv hm k hk' h1
      · have := (h.rvlt hm k hk').2; omega
    · rw [List.mem_singleton.1 hm] at hk'; cases hk'
  · have hl := h.len
    by_cases hi : i < rvs.length
    · rw [List.getElem?_append_left hi] at h1
      by_cases hj : j < rvs.length
      · rw [List.getElem?_append_left hj] at h2
        exact h.diff i j ri rj k h1 h2 hne h3
      · rw [List.getElem?_append_right (by omega)] at h2
        have hm := List.mem_of_getElem? h2
        rw [List.mem_singleton.1 hm]
        simp [Value.ownBlock]
    · rw [List.getElem?_append_right (by omega)] at h1
      have hm := List.mem_of_getElem? h1
      rw [List.mem_singleton.1 hm] at h3
      cases h3
  · rcases List.mem_append.1 hk' with h1 | h1
    · exact Nat.lt_of_lt_of_le (h.lt k h1) hg.size
    · exact hnt3 k h1

/-- one rule more, in the last pass -/
theorem PS.put {F : Nat} {tops : List Nat} {w : World} {init : List Pass} {p : Pass} {rvi : List Value} {rv : Value} {X cap : Nat} (h : PS F tops w (.slice (some ⟨X, 0, none⟩) (init.length + 1) cap) (init ++ [p]) (rvi ++ [rv])) (hli : rvi.length = init.length) (r : K.Rule) (c7 : List Value) (hc7 : c7.length = 7 ∧ ∀ u ∈ c7, u.oneCell' = true) (hm : Leaf tops w fun W => K.RuIs W (.agg c7.toArray) r) (sb : Nat) (hsb : ∀ (q : Nat) u, c7[q]? = some u → w.cell? ⟨sb, q, none⟩ = some u) (hF : F ≤ w.heap.size) (hr : p.rules.length ≤ 1000) :
    ∃ rv' W1, (∀ ty, (Builtin.append_ #[22, 22] ty #[rv, .slice (some ⟨sb, 0, none⟩) 1 1]).run Try.prog w = .ok rv' W1) ∧ (∃ g c, rv' = .slice (some ⟨g, 0, none⟩) (p.rules.length + 1) c) ∧ W1.cell? ⟨X, init.length * 2 + 1, none⟩ = some rv ∧ W1.frozen? ⟨X, init.length * 2 + 1, none⟩ = false ∧ w.grownBy W1 rv.ownBlock ∧
      ∃ tops', PS F tops' (W1.setCell ⟨X, init.length * 2 + 1, none⟩ rv') (.slice (some ⟨X, 0, none⟩) (init.length + 1) cap) (init ++ [⟨p.name, p.rules ++ [r]⟩]) (rvi ++ [rv']) ∧ Below F w (W1.setCell ⟨X, init.length * 2 + 1, none⟩ rv') ∧ Moves tops w tops' (W1.setCell ⟨X, init.length * 2 + 1, none⟩ rv') := by
  have hlast : (init ++ [p])[init.length]? = some p := by simp
  have hlastv : (rvi ++ [rv])[init.length]? = some rv := by rw [← hli]; simp
  have hmem : rv ∈ rvi ++ [rv] := by simp
  obtain ⟨⟨cs, own, hcl, hcs, hmean⟩, hnm⟩ := h.rows init.length p rv hlast hlastv
  obtain ⟨rv', W1, hrun, own1, gr1, hv1⟩ := R.run_app elemR w 0 F rv p.rules.length cs.flatten own ⟨sb, 0, none⟩ 1 1 c7 (by rw [hc7.1]) (fun q u hq => by rw [L.addr_add, Nat.zero_add]; exact hsb q u hq) hc7.2 (by omega) hF
  have hXtop : X ∈ tops := h.top X (.inl rfl)
  have hXr : rv.ownBlock ≠ some X := fun e => h.apart rv hmem X e rfl
  have hXlt : X < w.heap.size := (h.own.lt X rfl).2
  have hXF : F ≤ X := (h.own.lt X rfl).1
  have hX1 : W1.heap[X]? = w.heap[X]? := gr1.block X hXlt fun e => hXr e.symm
  obtain ⟨cur, hg, hnc, hmx, hsz, htk⟩ : ∃ cur, w.heap[X]? = some (.cells cur 83 (0, 0)) ∧ init.length + 1 ≤ cap ∧ cap ≤ maxLen ∧ cur.size = cap * 2 ∧ cur.toList.take ((init ++ [p]).length * 2) = pcells (init ++ [p]) (rvi ++ [rv]) := by
    rcases h.own.2 with ⟨e, _⟩ | ⟨g, cap', cur, e, _, hg, h1, h2, h3, h4⟩
    · cases e
    · obtain ⟨e1, _, e3⟩ := Value.slice.inj e
      cases e1
      subst e3
      exact ⟨cur, hg, by simpa using h1, h2, h3, h4⟩
  rw [pcells_append _ _ hli, List.length_append] at htk
  have hpl := pcells_length hli
  have hidx : cur[init.length * 2 + 1]? = some rv := by
    have e1 : (cur.toList.take ((init.length + [p].length) * 2))[init.length * 2 + 1]? = some rv := by
      rw [htk, List.getElem?_append_right (by omega), hpl, show init.length * 2 + 1 - init.length * 2 = 1 by omega]
      rfl
    rw [List.getElem?_take] at e1
    split at e1
    · simpa using e1
    · cases e1
  have hilt : init.length * 2 + 1 < cur.size := (Array.getElem?_eq_some_iff.1 hidx).1
  have hXc : W1.heap[X]? = some (.cells cur 83 (0, 0)) := hX1.trans hg
  have hset := heap_setCell_same W1 X (init.length * 2 + 1) _ _ rv' hXc
  have oth : ∀ k, k ≠ X → (W1.setCell ⟨X, init.length * 2 + 1, none⟩ rv').heap[k]? = W1.heap[k]? := fun k hk => heap_setCell_other W1 ⟨X, init.length * 2 + 1, none⟩ k _ hk
  have hsz2 : (W1.setCell ⟨X, init.length * 2 + 1, none⟩ rv').heap.size = W1.heap.size := by simp
  obtain ⟨g', c', hrv'⟩ : ∃ g c, rv' = .slice (some ⟨g, 0, none⟩) (p.rules.length + 1) c := by
    rcases own1.2 with ⟨_, h0⟩ | ⟨g, c, cur', e, _⟩
    · omega
    · exact ⟨g, c, e⟩
  have hrb : rv'.ownBlock = some g' := by rw [hrv']; rfl
  have hgX : g' ≠ X := fun e => by
    rcases hv1 g' hrb with h1 | h1
    · exact hXr (e ▸ h1)
    · omega
  have hk : ∀ b, b < w.heap.size → b ∉ tops → (W1.setCell ⟨X, init.length * 2 + 1, none⟩ rv').heap[b]? = w.heap[b]? := fun b hb hn => by
    rw [oth b fun e => hn (e ▸ hXtop)]
    exact gr1.block b hb fun e => hn (h.top b (.inr ⟨rv, hmem, e.symm⟩))
  have hs : w.heap.size ≤ (W1.setCell ⟨X, init.length * 2 + 1, none⟩ rv').heap.size := by rw [hsz2]; exact gr1.size
  have ht : ∀ k ∈ tops ++ [g'], k ∈ tops ∨ w.heap.size ≤ k := fun k hk' => by
    rcases List.mem_append.1 hk' with h1 | h1
    · exact .inl h1
    · rw [List.mem_singleton.1 h1]
      exact (hv1 g' hrb).imp (fun h2 => h.top g' (.inr ⟨rv, hmem, h2⟩)) id
  have hBw : Below F w (W1.setCell ⟨X, init.length * 2 + 1, none⟩ rv') := ((Below.refl F w).grown gr1 hF fun k hk' => (own.lt k hk').1).setCell (p := ⟨X, init.length * 2 + 1, none⟩) hXF _
  have hother : ∀ u ∈ rvi, ∀ k, u.ownBlock = some k → k ≠ X ∧ rv.ownBlock ≠ some k ∧ k < w.heap.size := fun u hu k hk' => by
    obtain ⟨q, hq⟩ := List.getElem?_of_mem hu
    have hql := (List.getElem?_eq_some_iff.1 hq).1
    have hq2 : (rvi ++ [rv])[q]? = some u := by rw [List.getElem?_append_left hql]; exact hq
    exact ⟨fun e => h.apart u (List.mem_append_left _ hu) k hk' (by rw [e]; rfl), h.diff q init.length u rv k hq2 hlastv (by omega) hk', (h.rvlt (List.mem_append_left _ hu) k hk').2⟩
  refine ⟨rv', W1, fun ty => hrun, ⟨g', c', hrv'⟩, by rw [World.cell?]; simp only [show W1.heap[X]? = _ from hXc]; simpa using hidx, frozen_of_row W1 X _ _ _ hXc, gr1, tops ++ [g'], ⟨by simp [hli], ?_, fun q p' u h1 h2 => ?_, fun k hk' => ?_, fun u hu k hk' e => ?_, fun q1 q2 u1 u2 k h1 h2 hne h3 e => ?_, fun k hk' => ?_⟩, hBw, hs, hk, ht, fun k hk' => List.mem_append_left _ hk'⟩
  · refine ⟨by rw [pcells_length (by simp [hli])], .inr ⟨X, cap, _, by simp, hXF, hset, by simpa using hnc, hmx, by simp [hsz], ?_⟩⟩
    rw [pcells_append _ _ hli, List.length_append, Array.toList_setIfInBounds, List.take_set]
    have e2 : ([(⟨p.name, p.rules ++ [r]⟩ : Pass)].length : Nat) = [p].length := rfl
    rw [e2, htk, List.set_append_right _ _ (by omega), hpl, show init.length * 2 + 1 - init.length * 2 = 1 by omega]
    rfl
  · by_cases hq : q < init.length
    · rw [List.getElem?_append_left hq] at h1
      rw [List.getElem?_append_left (by rw [hli]; exact hq)] at h2
      have hrw := h.rows q p' u (by rw [List.getElem?_append_left hq]; exact h1) (by rw [List.getElem?_append_left (by rw [hli]; exact hq)]; exact h2)
      refine ⟨hrw.1.step hs hk ht fun k hk' => ?_, hrw.2⟩
      obtain ⟨o1, o2, o3⟩ := hother u (List.mem_of_getElem? h2) k hk'
      rw [oth k o1]
      exact gr1.block k o3 fun e => o2 e.symm
    · rw [List.getElem?_append_right (by omega)] at h1
      rw [List.getElem?_append_right (by rw [hli]; omega), hli] at h2
      have hq0 : q - init.length = 0 := by
        have := (List.getElem?_eq_some_iff.1 h1).1
        simp at this; omega
      rw [hq0] at h1 h2
      cases h1
      cases h2
      refine ⟨⟨cs ++ [c7], ?_, by simp [hcl], fun c hc => ?_, fun i r' c h1 h2 => ?_⟩, hnm⟩
      · rw [List.flatten_append, List.length_append]
        have e3 : [c7].flatten = c7 := by simp
        rw [e3]
        exact own_kept own1 fun k hk' => by
          rw [hrb] at hk'
          cases hk'
          exact oth g' hgX
      · rcases List.mem_append.1 hc with hc | hc
        · exact hcs c hc
        · rw [List.mem_singleton.1 hc]; exact hc7
      · by_cases hi : i < p.rules.length
        · rw [List.getElem?_append_left hi] at h1
          rw [List.getElem?_append_left (by rw [hcl]; exact hi)] at h2
          exact (hmean i r' c h1 h2).step hs hk ht
        · rw [List.getElem?_append_right (by omega)] at h1
          rw [List.getElem?_append_right (by rw [hcl]; omega), hcl] at h2
          have hi0 : i - p.rules.length = 0 := by
            have := (List.getElem?_eq_some_iff.1 h1).1
            simp at this; omega
          rw [hi0] at h1 h2
          cases h1
          cases h2
          exact hm.step hs hk ht
  · rcases hk' with h1 | ⟨u, hu, h1⟩
    · exact List.mem_append_left _ (h.top k (.inl h1))
    · rcases List.mem_append.1 hu with hu | hu
      · exact List.mem_append_left _ (h.top k (.inr ⟨u, List.mem_append_left _ hu, h1⟩))
      · rw [List.mem_singleton.1 hu, hrb] at h1
        cases h1
        simp
  · have hkX : k = X := by simpa [Value.ownBlock] using e.symm
    rcases List.mem_append.1 hu with hu | hu
    · exact (hother u hu k hk').1 hkX
    · rw [List.mem_singleton.1 hu, hrb] at hk'
      cases hk'
      exact hgX hkX
  · have fresh : ∀ u ∈ rvi, u.ownBlock = some k → rv'.ownBlock = some k → False := fun u hu hk1 hk2 => by
      obtain ⟨o1, o2, o3⟩ := hother u hu k hk1
      rcases hv1 k hk2 with h1 | h1
      · exact o2 h1
      · omega
    by_cases hq1 : q1 < rvi.length
    · rw [List.getElem?_append_left hq1] at h1
      by_cases hq2 : q2 < rvi.length
      · rw [List.getElem?_append_left hq2] at h2
        exact h.diff q1 q2 u1 u2 k (by rw [List.getElem?_append_left hq1]; exact h1) (by rw [List.getElem?_append_left hq2]; exact h2) hne h3 e
      · rw [List.getElem?_append_right (by omega)] at h2
        have hm2 := List.mem_of_getElem? h2
        rw [List.mem_singleton.1 hm2] at e
        exact fresh u1 (List.mem_of_getElem? h1) h3 e
    · rw [List.getElem?_append_right (by omega)] at h1
      have hm1 := List.mem_of_getElem? h1
      rw [List.mem_singleton.1 hm1] at h3
      by_cases hq2 : q2 < rvi.length
      · rw [List.getElem?_append_left hq2] at h2
        exact fresh u2 (List.mem_of_getElem? h2) e h3
      · rw [List.getElem?_append_right (by omega)] at h2
        have l1 := (List.getElem?_eq_some_iff.1 h1).1
        have l2 := (List.getElem?_eq_some_iff.1 h2).1
        simp at l1 l2
        omega
  · rw [hsz2]
    rcases List.mem_append.1 hk' with h1 | h1
    · exact Nat.lt_of_lt_of_le (h.lt k h1) gr1.size
    · rw [List.mem_singleton.1 h1]; exact (own1.lt g' hrb).2

/-- the last pass's cells -/
theorem PS.cells {F : Nat} {tops : List Nat} {w : World} {init : List Pass} {p : Pass} {rvi : List Value} {rv : Value} {X cap : Nat} (h : PS F tops w (.slice (some ⟨X, 0, none⟩) (init.length + 1) cap) (init ++ [p]) (rvi ++ [rv])) (hli : rvi.length = init.length) : w.cell? ⟨X, init.length * 2, none⟩ = some (.string p.name) ∧ w.cell? ⟨X, init.length * 2 + 1, none⟩ = some rv := by
  have hc := World.ownsRow.cells h.own (g := X) rfl
  rw [pcells_append _ _ hli] at hc
  have hpl := pcells_length hli
  have c0 := hc (init.length * 2) (.string p.name) (by rw [List.getElem?_append_right (by omega), hpl, Nat.sub_self]; rfl)
  have c1 := hc (init.length * 2 + 1) rv (by rw [List.getElem?_append_right (by omega), hpl, show init.length * 2 + 1 - init.length * 2 = 1 by omega]; rfl)
  rw [L.addr_add, Nat.zero_add] at c0 c1
  exact ⟨c0, c1⟩
/-- where there are passes there is a block -/
theorem PS.slice {F : Nat} {tops : List Nat} {w : World} {vp : Value} {ps : List Pass} {rvs : List Value} (h : PS F tops w vp ps rvs) (h0 : 0 < ps.length) : ∃ X cap, vp = .slice (some ⟨X, 0, none⟩) ps.length cap := by
  rcases h.own.2 with ⟨_, h1⟩ | ⟨g, cap, cur, e, _⟩
  · omega
  · exact ⟨g, cap, e⟩
theorem PS.snoc {F : Nat} {tops : List Nat} {w : World} {vp : Value} {ps : List Pass} {rvs : List Value} (h : PS F tops w vp ps rvs) (h0 : 0 < ps.length) : ∃ init p rvi rv, ps = init ++ [p] ∧ rvs = rvi ++ [rv] ∧ rvi.length = init.length := by
  have hl := h.len
  have hp : ps ≠ [] := by intro e; rw [e] at h0; simp at h0
  have hr : rvs ≠ [] := by intro e; rw [e] at hl; simp at hl; omega
  refine ⟨ps.dropLast, ps.getLast hp, rvs.dropLast, rvs.getLast hr, (List.dropLast_concat_getLast hp).symm, (List.dropLast_concat_getLast hr).symm, by simp [hl]⟩

end Go.Proofs.Ytchkcjaahjhbcaa.V
