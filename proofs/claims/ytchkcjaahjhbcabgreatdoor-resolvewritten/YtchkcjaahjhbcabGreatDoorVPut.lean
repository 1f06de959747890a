/-
  Passes that are being made: rows of one's own, and what rules mean.
-/
import Derived.Test.YtchkcjaahjhbcabGreatDoorVPlain
import Derived.Test.YtchkcjaahjhbcabGreatDoorTBack
import Derived.Deep.RegionHeld3
import Derived.Deep.DeepCutAuto
import Derived.Laws.ResultCell
import Derived.BigRegion
import Derived.Deep.RegionLaw
import Derived.RegionTactic
import Derived.Lib.Walk
import Derived.Lib.AppendZeros
namespace Go.Proofs.YtchkcjaahjhbcabGreatDoor.V
open Go.RowKit
set_option linter.unusedVariables false

theorem elemP : R.Elem 32 50 2 := ⟨Tryz.underlying32, ⟨.agg #[.string ⟨#[]⟩, .slice none 0 0], 40, by kernel_rfl, by decide, rfl⟩, by decide⟩
theorem elemR : R.Elem 48 54 7 := ⟨Tryz.underlying48, ⟨.agg #[.bool false, .bool false, .slice none 0 0, .slice none 0 0, .slice none 0 0, .slice none 0 0, .int .i64 0], 112, by kernel_rfl, by decide, rfl⟩, by decide⟩

/-- a meaning that hangs on no top block -/
def Leaf (tops : List Nat) (w : World) (Q : World → Prop) : Prop := ∀ W : World, w.heap.size ≤ W.heap.size → (∀ b, b < w.heap.size → b ∉ tops → W.heap[b]? = w.heap[b]?) → Q W
theorem Leaf.here {tops : List Nat} {w : World} {Q : World → Prop} (h : Leaf tops w Q) : Q w := h w (Nat.le_refl _) fun _ _ _ => rfl
theorem Leaf.step {tops tops' : List Nat} {w w' : World} {Q : World → Prop} (h : Leaf tops w Q) (hs : w.heap.size ≤ w'.heap.size) (hk : ∀ b, b < w.heap.size → b ∉ tops → w'.heap[b]? = w.heap[b]?) (ht : ∀ k ∈ tops', k ∈ tops ∨ w.heap.size ≤ k) : Leaf tops' w' Q :=
  fun W h1 h2 => h W (Nat.le_trans hs h1) fun b hb hn => (h2 b (by omega) fun hm => by rcases ht b hm with h | h; exact hn h; omega).trans (hk b hb hn)

/-- only tops may change, and tops come from tops or are new -/
def Moves (tops : List Nat) (w : World) (tops' : List Nat) (w' : World) : Prop := w.heap.size ≤ w'.heap.size ∧ (∀ b, b < w.heap.size → b ∉ tops → w'.heap[b]? = w.heap[b]?) ∧ (∀ k ∈ tops', k ∈ tops ∨ w.heap.size ≤ k) ∧ ∀ k ∈ tops, k ∈ tops'
theorem Moves.of_below {tops : List Nat} {w w' : World} (hb : Below w.heap.size w w') : Moves tops w tops w' := ⟨hb.size, fun b h _ => hb.block b h, fun k hk => .inl hk, fun k hk => hk⟩
theorem Moves.trans {t t1 t2 : List Nat} {w w1 w2 : World} (h : Moves t w t1 w1) (h' : Moves t1 w1 t2 w2) : Moves t w t2 w2 :=
  ⟨Nat.le_trans h.1 h'.1, fun b hb hn => (h'.2.1 b (Nat.lt_of_lt_of_le hb h.1) fun hm => (h.2.2.1 b hm).elim hn fun h1 => absurd hb (Nat.not_lt.2 h1)).trans (h.2.1 b hb hn), fun k hk => (h'.2.2.1 k hk).elim (h.2.2.1 k) fun h1 => .inr (Nat.le_trans h.1 h1), fun k hk => h'.2.2.2 k (h.2.2.2 k hk)⟩
theorem Leaf.moves {tops tops' : List Nat} {w w' : World} {Q : World → Prop} (h : Leaf tops w Q) (m : Moves tops w tops' w') : Leaf tops' w' Q := h.step m.1 m.2.1 m.2.2.1

/-- a row of rules of one's own -/
def RuRow (F : Nat) (tops : List Nat) (w : World) (rv : Value) (rs : List K.Rule) : Prop :=
  ∃ cs : List (List Value), w.ownsRow F 54 7 rv rs.length cs.flatten ∧ cs.length = rs.length ∧ (∀ c ∈ cs, c.length = 7 ∧ ∀ u ∈ c, u.oneCell' = true) ∧ ∀ (j : Nat) r c, rs[j]? = some r → cs[j]? = some c → Leaf tops w fun W => K.RuIs W (.agg c.toArray) r
theorem RuRow.nil (F : Nat) (tops : List Nat) (w : World) : RuRow F tops w (.slice none 0 0) [] := ⟨[], World.ownsRow_nil _ _ _ _, rfl, fun c hc => (by cases hc), fun j r c h => by cases h⟩
theorem own_kept {F : Nat} {e : TypeId} {k : Nat} {w w' : World} {v : Value} {n : Nat} {xs : List Value} (h : w.ownsRow F e k v n xs) (hb : ∀ g, v.ownBlock = some g → w'.heap[g]? = w.heap[g]?) : w'.ownsRow F e k v n xs := by
  refine ⟨h.1, ?_⟩
  rcases h.2 with h | ⟨g, cap, cur, hv, hB, hg, r⟩
  · exact .inl h
  · exact .inr ⟨g, cap, cur, hv, hB, by rw [hb g (by rw [hv]; rfl)]; exact hg, r⟩
theorem RuRow.step {F : Nat} {tops tops' : List Nat} {w w' : World} {rv : Value} {rs : List K.Rule} (h : RuRow F tops w rv rs) (hs : w.heap.size ≤ w'.heap.size) (hk : ∀ b, b < w.heap.size → b ∉ tops → w'.heap[b]? = w.heap[b]?) (ht : ∀ k ∈ tops', k ∈ tops ∨ w.heap.size ≤ k) (hr : ∀ g, rv.ownBlock = some g → w'.heap[g]? = w.heap[g]?) : RuRow F tops' w' rv rs := by
  obtain ⟨cs, own, hl, hc, hm⟩ := h
  exact ⟨cs, own_kept own hr, hl, hc, fun j r c h1 h2 => (hm j r c h1 h2).step hs hk ht⟩

def pcells : List Pass → List Value → List Value
  | p :: ps, rv :: rvs => .string p.name :: rv :: pcells ps rvs
  | _, _ => []
theorem pcells_append : ∀ {ps : List Pass} {rvs : List Value} (qs : List Pass) (svs : List Value), rvs.length = ps.length → pcells (ps ++ qs) (rvs ++ svs) = pcells ps rvs ++ pcells qs svs
  | [], [], qs, svs, _ => rfl
  | p :: ps, rv :: rvs, qs, svs, h => by
    show Value.string p.name :: rv :: pcells (ps ++ qs) (rvs ++ svs) = Value.string p.name :: rv :: (pcells ps rvs ++ pcells qs svs)
    rw [pcells_append qs svs (by simpa using h)]
  | [], _ :: _, _, _, h => by simp at h
  | _ :: _, [], _, _, h => by simp at h
theorem pcells_length : ∀ {ps : List Pass} {rvs : List Value}, rvs.length = ps.length → (pcells ps rvs).length = ps.length * 2
  | [], [], _ => rfl
  | p :: ps, rv :: rvs, h => by
    show (pcells ps rvs).length + 1 + 1 = (ps.length + 1) * 2
    rw [pcells_length (by simpa using h)]; omega
  | [], _ :: _, h => by simp at h
  | _ :: _, [], h => by simp at h

/-- passes that are being made -/
structure PS (F : Nat) (tops : List Nat) (w : World) (vp : Value) (ps : List Pass) (rvs : List Value) : Prop where
  len : rvs.length = ps.length
  own : w.ownsRow F 50 2 vp ps.length (pcells ps rvs)
  rows : ∀ (j : Nat) p rv, ps[j]? = some p → rvs[j]? = some rv → RuRow F tops w rv p.rules ∧ p.name.size ≤ 140737488355328
  top : ∀ k, (vp.ownBlock = some k ∨ ∃ rv ∈ rvs, rv.ownBlock = some k) → k ∈ tops
  apart : ∀ rv ∈ rvs, ∀ k, rv.ownBlock = some k → vp.ownBlock ≠ some k
  diff : ∀ (i j : Nat) ri rj k, rvs[i]? = some ri → rvs[j]? = some rj → i ≠ j → ri.ownBlock = some k → rj.ownBlock ≠ some k
  lt : ∀ k ∈ tops, k < w.heap.size

theorem PS.nil (F : Nat) (w : World) : PS F [] w (.slice none 0 0) [] [] :=
  ⟨rfl, World.ownsRow_nil _ _ _ _, fun j p rv h => (by cases h), fun k h => (by rcases h with h | ⟨rv, h, _⟩; cases h; cases h), fun rv h => (by cases h), fun i j ri rj k h => (by cases h), fun k h => by cases h⟩
theorem PS.start (F : Nat) (w : World) (tops : List Nat) (ht : ∀ k ∈ tops, k < w.heap.size) : PS F tops w (.slice none 0 0) [] [] :=
  ⟨rfl, World.ownsRow_nil _ _ _ _, fun j p rv h => (by cases h), fun k h => (by rcases h with h | ⟨rv, h, _⟩; cases h; cases h), fun rv h => (by cases h), fun i j ri rj k h => (by cases h), ht⟩
theorem PS.rvlt {F : Nat} {tops : List Nat} {w : World} {vp : Value} {ps : List Pass} {rvs : List Value} (h : PS F tops w vp ps rvs) {rv : Value} (hm : rv ∈ rvs) : ∀ k, rv.ownBlock = some k → F ≤ k ∧ k < w.heap.size := fun k hk => by
  obtain ⟨j, hj⟩ := List.getElem?_of_mem hm
  have hlt : j < ps.length := by rw [← h.len]; exact (List.getElem?_eq_some_iff.1 hj).1
  obtain ⟨⟨cs, own, _⟩, _⟩ := h.rows j ps[j] rv (by simp) hj
  exact own.lt k hk
theorem PS.below {F : Nat} {tops : List Nat} {w w' : World} {vp : Value} {ps : List Pass} {rvs : List Value} (h : PS F tops w vp ps rvs) (hb : Below w.heap.size w w') : PS F tops w' vp ps rvs :=
  ⟨h.len, own_kept h.own fun g hg => hb.block g (h.own.lt g hg).2, fun j p rv h1 h2 => ⟨(h.rows j p rv h1 h2).1.step hb.size (fun b hb' _ => hb.block b hb') (fun k hk => .inl hk) fun g hg => hb.block g (h.rvlt (List.mem_of_getElem? h2) g hg).2, (h.rows j p rv h1 h2).2⟩, h.top, h.apart, h.diff, fun k hk => Nat.lt_of_lt_of_le (h.lt k hk) hb.size⟩

/-- one pass more, without rules -/
theorem PS.more {F : Nat} {tops : List Nat} {w w' : World} {vp vp' : Value} {ps : List Pass} {rvs : List Value} (h : PS F tops w vp ps rvs) (nm : ByteArray) (hn : nm.size ≤ 140737488355328)
    (ho : w'.ownsRow F 50 2 vp' (ps.length + 1) (pcells ps rvs ++ [.string nm, .slice none 0 0])) (hg : w.grownBy w' vp.ownBlock) (hv : ∀ g, vp'.ownBlock = some g → vp.ownBlock = some g ∨ w.heap.size ≤ g) :
    ∃ tops', PS F tops' w' vp' (ps ++ [⟨nm, []⟩]) (rvs ++ [.slice none 0 0]) ∧ Moves tops w tops' w' := by
  have hk : ∀ b, b < w.heap.size → b ∉ tops → w'.heap[b]? = w.heap[b]? := fun b hb hn => hg.block b hb fun e => hn (h.top b (.inl e.symm))
  obtain ⟨nt, hnt, hnt2, hnt3⟩ : ∃ nt : List Nat, (∀ g, vp'.ownBlock = some g → g ∈ nt) ∧ (∀ k ∈ nt, vp.ownBlock = some k ∨ w.heap.size ≤ k) ∧ ∀ k ∈ nt, k < w'.heap.size := by
    cases hvo : vp'.ownBlock with
    | none => exact ⟨[], fun g h => (by cases h), fun k h => (by cases h), fun k h => by cases h⟩
    | some g => exact ⟨[g], fun g' h => (by cases h; simp), fun k hk => (by rw [List.mem_singleton.1 hk]; exact hv g hvo), fun k hk => by rw [List.mem_singleton.1 hk]; exact (ho.lt g hvo).2⟩
  have ht : ∀ k ∈ tops ++ nt, k ∈ tops ∨ w.heap.size ≤ k := fun k hk' => by
    rcases List.mem_append.1 hk' with h1 | h1
    · exact .inl h1
    · exact (hnt2 k h1).imp (fun h2 => h.top k (.inl h2)) id
  refine ⟨tops ++ nt, ⟨by simp [h.len], ?_, fun j p rv h1 h2 => ?_, fun k hk' => ?_, fun rv hm k hk' e => ?_, fun i j ri rj k h1 h2 hne h3 => ?_, fun k hk' => ?_⟩, ⟨hg.size, hk, ht, fun k hk' => List.mem_append_left _ hk'⟩⟩
  · rw [pcells_append _ _ h.len, List.length_append]; exact ho
  · by_cases hj : j < ps.length
    · rw [List.getElem?_append_left hj] at h1
      rw [List.getElem?_append_left (by rw [h.len]; exact hj)] at h2
      have hr := h.rows j p rv h1 h2
      exact ⟨hr.1.step hg.size hk ht fun g hg' => hg.block g (h.rvlt (List.mem_of_getElem? h2) g hg').2 fun e => h.apart rv (List.mem_of_getElem? h2) g hg' e.symm, hr.2⟩
    · rw [List.getElem?_append_right (by omega)] at h1
      rw [List.getElem?_append_right (by rw [h.len]; omega), h.len] at h2
      have hj0 : j - ps.length = 0 := by
        have := (List.getElem?_eq_some_iff.1 h1).1
        simp at this; omega
      rw [hj0] at h1 h2
      cases h1
      cases h2
      exact ⟨RuRow.nil _ _ _, hn⟩
  · rcases hk' with h1 | ⟨rv, hm, h1⟩
    · exact List.mem_append_right _ (hnt k h1)
    · rcases List.mem_append.1 hm with hm | hm
      · exact List.mem_append_left _ (h.top k (.inr ⟨rv, hm, h1⟩))
      · rw [List.mem_singleton.1 hm] at h1; cases h1
  · rcases List.mem_append.1 hm with hm | hm
    · rcases hv k e with h1 | h1
      · exact h.apart rv hm k hk' h1
      · have := (h.rvlt hm k hk').2; omega
    · rw [List.mem_singleton.1 hm] at hk'; cases hk'
  · have hl := h.len
    by_cases hi : i < rvs.length
    · rw [List.getElem?_append_left hi] at h1
      by_cases hj : j < rvs.length
      · rw [List.getElem?_append_left hj] at h2
        exact h.diff i j ri rj k h1 h2 hne h3
      · rw [List.getElem?_append_right (by omega)] at h2
        have hm := List.mem_of_getElem? h2
        rw [List.mem_singleton.1 hm]
        simp [Value.ownBlock]
    · rw [List.getElem?_append_right (by omega)] at h1
      have hm := List.mem_of_getElem? h1
      rw [List.mem_singleton.1 hm] at h3
      cases h3
  · rcases List.mem_append.1 hk' with h1 | h1
    · exact Nat.lt_of_lt_of_le (h.lt k h1) hg.size
    · exact hnt3 k h1

/-- one rule more, in the last pass -/
theorem PS.put {F : Nat} {tops : List Nat} {w : World} {init : List Pass} {p : Pass} {rvi : List Value} {rv : Value} {X cap : Nat} (h : PS F tops w (.slice (some ⟨X, 0, none⟩) (init.length + 1) cap) (init ++ [p]) (rvi ++ [rv])) (hli : rvi.length = init.length) (r : K.Rule) (c7 : List Value) (hc7 : c7.length = 7 ∧ ∀ u ∈ c7, u.oneCell' = true) (hm : Leaf tops w fun W => K.RuIs W (.agg c7.toArray) r) (sb : Nat) (hsb : ∀ (q : Nat) u, c7[q]? = some u → w.cell? ⟨sb, q, none⟩ = some u) (hF : F ≤ w.heap.size) (hr : p.rules.length ≤ 1000) :
    ∃ rv' W1, (∀ ty, (Builtin.append_ #[48, 48] ty #[rv, .slice (some ⟨sb, 0, none⟩) 1 1]).run Tryz.prog w = .ok rv' W1) ∧ (∃ g c, rv' = .slice (some ⟨g, 0, none⟩) (p.rules.length + 1) c) ∧ W1.cell? ⟨X, init.length * 2 + 1, none⟩ = some rv ∧ W1.frozen? ⟨X, init.length * 2 + 1, none⟩ = false ∧ w.grownBy W1 rv.ownBlock ∧
      ∃ tops', PS F tops' (W1.setCell ⟨X, init.length * 2 + 1, none⟩ rv') (.slice (some ⟨X, 0, none⟩) (init.length + 1) cap) (init ++ [⟨p.name, p.rules ++ [r]⟩]) (rvi ++ [rv']) ∧ Below F w (W1.setCell ⟨X, init.length * 2 + 1, none⟩ rv') ∧ Moves tops w tops' (W1.setCell ⟨X, init.length * 2 + 1, none⟩ rv') := by
  have hlast : (init ++ [p])[init.length]? = some p := by simp
  have hlastv : (rvi ++ [rv])[init.length]? = some rv := by rw [← hli]; simp
  have hmem : rv ∈ rvi ++ [rv] := by simp
  obtain ⟨⟨cs, own, hcl, hcs, hmean⟩, hnm⟩ := h.rows init.length p rv hlast hlastv
  obtain ⟨rv', W1, hrun, own1, gr1, hv1⟩ := R.run_app elemR w 0 F rv p.rules.length cs.flatten own ⟨sb, 0, none⟩ 1 1 c7 (by rw [hc7.1]) (fun q u hq => by rw [L.addr_add, Nat.zero_add]; exact hsb q u hq) hc7.2 (by omega) hF
  have hXtop : X ∈ tops := h.top X (.inl rfl)
  have hXr : rv.ownBlock ≠ some X := fun e => h.apart rv hmem X e rfl
  have hXlt : X < w.heap.size := (h.own.lt X rfl).2
  have hXF : F ≤ X := (h.own.lt X rfl).1
  have hX1 : W1.heap[X]? = w.heap[X]? := gr1.block X hXlt fun e => hXr e.symm
  obtain ⟨cur, hg, hnc, hmx, hsz, htk⟩ : ∃ cur, w.heap[X]? = some (.cells cur 50 (0, 0)) ∧ init.length + 1 ≤ cap ∧ cap ≤ maxLen ∧ cur.size = cap * 2 ∧ cur.toList.take ((init ++ [p]).length * 2) = pcells (init ++ [p]) (rvi ++ [rv]) := by
    rcases h.own.2 with ⟨e, _⟩ | ⟨g, cap', cur, e, _, hg, h1, h2, h3, h4⟩
    · cases e
    · obtain ⟨e1, _, e3⟩ := Value.slice.inj e
      cases e1
      subst e3
      exact ⟨cur, hg, by simpa using h1, h2, h3, h4⟩
  rw [pcells_append _ _ hli, List.length_append] at htk
  have hpl := pcells_length hli
  have hidx : cur[init.length * 2 + 1]? = some rv := by
    have e1 : (cur.toList.take ((init.length + [p].length) * 2))[init.length * 2 + 1]? = some rv := by
      rw [htk, List.getElem?_append_right (by omega), hpl, show init.length * 2 + 1 - init.length * 2 = 1 by omega]
      rfl
    rw [List.getElem?_take] at e1
    split at e1
    · simpa using e1
    · cases e1
  have hilt : init.length * 2 + 1 < cur.size := (Array.getElem?_eq_some_iff.1 hidx).1
  have hXc : W1.heap[X]? = some (.cells cur 50 (0, 0)) := hX1.trans hg
  have hset := heap_setCell_same W1 X (init.length * 2 + 1) _ _ rv' hXc
  have oth : ∀ k, k ≠ X → (W1.setCell ⟨X, init.length * 2 + 1, none⟩ rv').heap[k]? = W1.heap[k]? := fun k hk => heap_setCell_other W1 ⟨X, init.length * 2 + 1, none⟩ k _ hk
  have hsz2 : (W1.setCell ⟨X, init.length * 2 + 1, none⟩ rv').heap.size = W1.heap.size := by simp
  obtain ⟨g', c', hrv'⟩ : ∃ g c, rv' = .slice (some ⟨g, 0, none⟩) (p.rules.length + 1) c := by
    rcases own1.2 with ⟨_, h0⟩ | ⟨g, c, cur', e, _⟩
    · omega
    · exact ⟨g, c, e⟩
  have hrb : rv'.ownBlock = some g' := by rw [hrv']; rfl
  have hgX : g' ≠ X := fun e => by
    rcases hv1 g' hrb with h1 | h1
    · exact hXr (e ▸ h1)
    · omega
  have hk : ∀ b, b < w.heap.size → b ∉ tops → (W1.setCell ⟨X, init.length * 2 + 1, none⟩ rv').heap[b]? = w.heap[b]? := fun b hb hn => by
    rw [oth b fun e => hn (e ▸ hXtop)]
    exact gr1.block b hb fun e => hn (h.top b (.inr ⟨rv, hmem, e.symm⟩))
  have hs : w.heap.size ≤ (W1.setCell ⟨X, init.length * 2 + 1, none⟩ rv').heap.size := by rw [hsz2]; exact gr1.size
  have ht : ∀ k ∈ tops ++ [g'], k ∈ tops ∨ w.heap.size ≤ k := fun k hk' => by
    rcases List.mem_append.1 hk' with h1 | h1
    · exact .inl h1
    · rw [List.mem_singleton.1 h1]
      exact (hv1 g' hrb).imp (fun h2 => h.top g' (.inr ⟨rv, hmem, h2⟩)) id
  have hBw : Below F w (W1.setCell ⟨X, init.length * 2 + 1, none⟩ rv') := ((Below.refl F w).grown gr1 hF fun k hk' => (own.lt k hk').1).setCell (p := ⟨X, init.length * 2 + 1, none⟩) hXF _
  have hother : ∀ u ∈ rvi, ∀ k, u.ownBlock = some k → k ≠ X ∧ rv.ownBlock ≠ some k ∧ k < w.heap.size := fun u hu k hk' => by
    obtain ⟨q, hq⟩ := List.getElem?_of_mem hu
    have hql := (List.getElem?_eq_some_iff.1 hq).1
    have hq2 : (rvi ++ [rv])[q]? = some u := by rw [List.getElem?_append_left hql]; exact hq
    exact ⟨fun e => h.apart u (List.mem_append_left _ hu) k hk' (by rw [e]; rfl), h.diff q init.length u rv k hq2 hlastv (by omega) hk', (h.rvlt (List.mem_append_left _ hu) k hk').2⟩
  refine ⟨rv', W1, fun ty => hrun, ⟨g', c', hrv'⟩, by rw [World.cell?]; simp only [show W1.heap[X]? = _ from hXc]; simpa using hidx, frozen_of_row W1 X _ _ _ hXc, gr1, tops ++ [g'], ⟨by simp [hli], ?_, fun q p' u h1 h2 => ?_, fun k hk' => ?_, fun u hu k hk' e => ?_, fun q1 q2 u1 u2 k h1 h2 hne h3 e => ?_, fun k hk' => ?_⟩, hBw, hs, hk, ht, fun k hk' => List.mem_append_left _ hk'⟩
  · refine ⟨by rw [pcells_length (by simp [hli])], .inr ⟨X, cap, _, by simp, hXF, hset, by simpa using hnc, hmx, by simp [hsz], ?_⟩⟩
    rw [pcells_append _ _ hli, List.length_append, Array.toList_setIfInBounds, List.take_set]
    have e2 : ([(⟨p.name, p.rules ++ [r]⟩ : Pass)].length : Nat) = [p].length := rfl
    rw [e2, htk, List.set_append_right _ _ (by omega), hpl, show init.length * 2 + 1 - init.length * 2 = 1 by omega]
    rfl
  · by_cases hq : q < init.length
    · rw [List.getElem?_append_left hq] at h1
      rw [List.getElem?_append_left (by rw [hli]; exact hq)] at h2
      have hrw := h.rows q p' u (by rw [List.getElem?_append_left hq]; exact h1) (by rw [List.getElem?_append_left (by rw [hli]; exact hq)]; exact h2)
      refine ⟨hrw.1.step hs hk ht fun k hk' => ?_, hrw.2⟩
      obtain ⟨o1, o2, o3⟩ := hother u (List.mem_of_getElem? h2) k hk'
      rw [oth k o1]
      exact gr1.block k o3 fun e => o2 e.symm
    · rw [List.getElem?_append_right (by omega)] at h1
      rw [List.getElem?_append_right (by rw [hli]; omega), hli] at h2
      have hq0 : q - init.length = 0 := by
        have := (List.getElem?_eq_some_iff.1 h1).1
        simp at this; omega
      rw [hq0] at h1 h2
      cases h1
      cases h2
      refine ⟨⟨cs ++ [c7], ?_, by simp [hcl], fun c hc => ?_, fun i r' c h1 h2 => ?_⟩, hnm⟩
      · rw [List.flatten_append, List.length_append]
        have e3 : [c7].flatten = c7 := by simp
        rw [e3]
        exact own_kept own1 fun k hk' => by
          rw [hrb] at hk'
          cases hk'
          exact oth g' hgX
      · rcases List.mem_append.1 hc with hc | hc
        · exact hcs c hc
        · rw [List.mem_singleton.1 hc]; exact hc7
      · by_cases hi : i < p.rules.length
        · rw [List.getElem?_append_left hi] at h1
          rw [List.getElem?_append_left (by rw [hcl]; exact hi)] at h2
          exact (hmean i r' c h1 h2).step hs hk ht
        · rw [List.getElem?_append_right (by omega)] at h1
          rw [List.getElem?_append_right (by rw [hcl]; omega), hcl] at h2
          have hi0 : i - p.rules.length = 0 := by
            have := (List.getElem?_eq_some_iff.1 h1).1
            simp at this; omega
          rw [hi0] at h1 h2
          cases h1
          cases h2
          exact hm.step hs hk ht
  · rcases hk' with h1 | ⟨u, hu, h1⟩
    · exact List.mem_append_left _ (h.top k (.inl h1))
    · rcases List.mem_append.1 hu with hu | hu
      · exact List.mem_append_left _ (h.top k (.inr ⟨u, List.mem_append_left _ hu, h1⟩))
      · rw [List.mem_singleton.1 hu, hrb] at h1
        cases h1
        simp
  · have hkX : k = X := by simpa [Value.ownBlock] using e.symm
    rcases List.mem_append.1 hu with hu | hu
    · exact (hother u hu k hk').1 hkX
    · rw [List.mem_singleton.1 hu, hrb] at hk'
      cases hk'
      exact hgX hkX
  · have fresh : ∀ u ∈ rvi, u.ownBlock = some k → rv'.ownBlock = some k → False := fun u hu hk1 hk2 => by
      obtain ⟨o1, o2, o3⟩ := hother u hu k hk1
      rcases hv1 k hk2 with h1 | h1
      · exact o2 h1
      · omega
    by_cases hq1 : q1 < rvi.length
    · rw [List.getElem?_append_left hq1] at h1
      by_cases hq2 : q2 < rvi.length
      · rw [List.getElem?_append_left hq2] at h2
        exact h.diff q1 q2 u1 u2 k (by rw [List.getElem?_append_left hq1]; exact h1) (by rw [List.getElem?_append_left hq2]; exact h2) hne h3 e
      · rw [List.getElem?_append_right (by omega)] at h2
        have hm2 := List.mem_of_getElem? h2
        rw [List.mem_singleton.1 hm2] at e
        exact fresh u1 (List.mem_of_getElem? h1) h3 e
    · rw [List.getElem?_append_right (by omega)] at h1
      have hm1 := List.mem_of_getElem? h1
      rw [List.mem_singleton.1 hm1] at h3
      by_cases hq2 : q2 < rvi.length
      · rw [List.getElem?_append_left hq2] at h2
        exact fresh u2 (List.mem_of_getElem? h2) e h3
      · rw [List.getElem?_append_right (by omega)] at h2
        have l1 := (List.getElem?_eq_some_iff.1 h1).1
        have l2 := (List.getElem?_eq_some_iff.1 h2).1
        simp at l1 l2
        omega
  · rw [hsz2]
    rcases List.mem_append.1 hk' with h1 | h1
    · exact Nat.lt_of_lt_of_le (h.lt k h1) gr1.size
    · rw [List.mem_singleton.1 h1]; exact (own1.lt g' hrb).2

/-- the last pass's cells -/
theorem PS.cells {F : Nat} {tops : List Nat} {w : World} {init : List Pass} {p : Pass} {rvi : List Value} {rv : Value} {X cap : Nat} (h : PS F tops w (.slice (some ⟨X, 0, none⟩) (init.length + 1) cap) (init ++ [p]) (rvi ++ [rv])) (hli : rvi.length = init.length) : w.cell? ⟨X, init.length * 2, none⟩ = some (.string p.name) ∧ w.cell? ⟨X, init.length * 2 + 1, none⟩ = some rv := by
  have hc := World.ownsRow.cells h.own (g := X) rfl
  rw [pcells_append _ _ hli] at hc
  have hpl := pcells_length hli
  have c0 := hc (init.length * 2) (.string p.name) (by rw [List.getElem?_append_right (by omega), hpl, Nat.sub_self]; rfl)
  have c1 := hc (init.length * 2 + 1) rv (by rw [List.getElem?_append_right (by omega), hpl, show init.length * 2 + 1 - init.length * 2 = 1 by omega]; rfl)
  rw [L.addr_add, Nat.zero_add] at c0 c1
  exact ⟨c0, c1⟩
/-- where there are passes there is a block -/
theorem PS.slice {F : Nat} {tops : List Nat} {w : World} {vp : Value} {ps : List Pass} {rvs : List Value} (h : PS F tops w vp ps rvs) (h0 : 0 < ps.length) : ∃ X cap, vp = .slice (some ⟨X, 0, none⟩) ps.length cap := by
  rcases h.own.2 with ⟨_, h1⟩ | ⟨g, cap, cur, e, _⟩
  · omega
  · exact ⟨g, cap, e⟩
theorem PS.snoc {F : Nat} {tops : List Nat} {w : World} {vp : Value} {ps : List Pass} {rvs : List Value} (h : PS F tops w vp ps rvs) (h0 : 0 < ps.length) : ∃ init p rvi rv, ps = init ++ [p] ∧ rvs = rvi ++ [rv] ∧ rvi.length = init.length := by
  have hl := h.len
  have hp : ps ≠ [] := by intro e; rw [e] at h0; simp at h0
  have hr : rvs ≠ [] := by intro e; rw [e] at hl; simp at hl; omega
  refine ⟨ps.dropLast, ps.getLast hp, rvs.dropLast, rvs.getLast hr, (List.dropLast_concat_getLast hp).symm, (List.dropLast_concat_getLast hr).symm, by simp [hl]⟩

end Go.Proofs.YtchkcjaahjhbcabGreatDoor.V

/-
  What each makes of a list of items: the row of their sets.
-/
namespace Go.Proofs.YtchkcjaahjhbcabGreatDoor
open Go.RowKit Go.Lib
set_option maxRecDepth 20000
set_option linter.unusedSimpArgs false
set_option linter.unusedVariables false

theorem V.list_add {α : Type} {t e : TypeId} {k F F2 : Nat} {El : α → List Value → World → Prop} {ops : Array Oper} {rest : List Oper} {o : Oper} {a : Act} {w : World} {Q : Exit → Act → World → Prop} (E : R.Elem t e k) (hgd : o.guard = none) (s x : Operand)
    (ho : o.op = .call { callee := .builtin .append, args := #[s, x], argTypes := #[t, t] }) (v v2 : Value) (xs ys : List α) (hs : a.eval s = v) (hx : a.eval x = v2) (h : R.Row e k El F w v xs) (h2 : R.Row e k El F2 w v2 ys) (hF : F ≤ F2) (hne : ∀ g, v.ownBlock = some g → g < F2)
    (hsz : xs.length + ys.length ≤ 100000000) (hb : F ≤ w.heap.size)
    (hk : ∀ v' w', R.Row e k El F w' v' (xs ++ ys) → w.grownBy w' v.ownBlock → (∀ g, v'.ownBlock = some g → v.ownBlock = some g ∨ w.heap.size ≤ g) → wpList Tryz.prog ops Q rest (a.put o.dst v') w') : wpList Tryz.prog ops Q (o :: rest) a w := by
  obtain ⟨v', w', hrun, h3, h4, h5⟩ := R.Row.add E o.type h h2 hF hne hsz hb
  refine wpList_plain hgd fun _ hK => ?_
  have h' := hK _ _ (hk v' w' h3 h4 h5)
  unfold Oper.wp
  simp [execOp, ho, resolve, invoke, builtin, hs, hx, hrun, Result.andThen]
  exact h'


theorem V.elemS : R.Elem 51 31 1 := ⟨Tryz.underlying51, ⟨.slice none 0 0, 24, by kernel_rfl, by decide, rfl⟩, by decide⟩
/-- a cell reads as a set -/
def V.SetEl (s : List S.Sp) (c : List Value) (w : World) : Prop := ∃ u so sc, c = [u] ∧ u = .slice so s.length sc ∧ S.Rd w u s
/-- a row of sets of one's own, from block F on -/
def V.SetRow (F : Nat) (w : World) (v : Value) (l : List (List S.Sp)) : Prop := R.Row 31 1 V.SetEl F w v l

/-- one set, in a new block -/
theorem V.one_set {w : World} {F : Nat} {u : Value} {s : List S.Sp} (h : w.ownsRow F 97 2 u s.length (S.cellsOf s)) (hF : F ≤ w.heap.size) : V.SetRow F (w.alloc (.cells #[u] 31)) (.slice (some ⟨w.heap.size, 0, none⟩) 1 1) [s] := by
  have hr : S.Rd w u s := S.Rd.of_owns h
  obtain ⟨so, sc, hu, _⟩ := hr
  have hr : S.Rd w u s := S.Rd.of_owns h
  have hs : R.Stays F none w (V.SetEl s [u]) := (R.rd_stays hr (fun g hg => (h.lt g hg).1)).imp fun w' k => ⟨u, so, sc, rfl, hu, k⟩
  exact R.Row.one [u] rfl (fun x hx => by simp at hx; subst hx; rw [hu]; rfl) hs hF

set_option maxHeartbeats 2000000 in
theorem eachs_any (w : World) (v : Value) (l : List R.Item) (bm : Nat) (g : ByteArray → List S.Sp) (HV : V.Vars w bm g) (RR : R.Its w v l) (hl : l.length ≤ 1000) (hs : ∀ x ∈ l, x.kind = 2 → x.set.length ≤ 17592186044160) :
    Calls Tryz.prog 65 #[v, .func (.func 64) #[] #[.pointer (some ⟨bm, 0, none⟩)]] w fun e w' => ∃ v', e = .returned v' ∧ V.SetRow w.heap.size w' v' (l.map (V.setOf g)) ∧ Below w.heap.size w w' := by
  have HR : Hid (R.Its w v l) := RR
  have HVs : Hid (V.Vars w bm g) := HV
  have HS : Hid (∀ x ∈ l, x.kind = 2 → x.set.length ≤ 17592186044160) := hs
  obtain ⟨ao, ca, rfl⟩ := RR.len
  clear RR HV hs
  go_enter Tryz.func65, Tryz.ntmps65
  go_wp2
  go_loopw [5, 10] (fun v i wr => ∃ k : Nat, k ≤ l.length ∧ i = .int .i64 k ∧ Hid (V.SetRow w.heap.size wr v ((l.take k).map (V.setOf g)) ∧ Below w.heap.size w wr)) (fun _ i _ => l.length - (RowKit.intOf i).toNat)
  case atStart => exact ⟨0, Nat.zero_le _, rfl, R.Row.nil _ _, Below.refl _ w⟩
  case round =>
    obtain ⟨k, hk, rfl, HB⟩ := hrel
    by_cases hlt : k < l.length
    · obtain ⟨x, hx⟩ : ∃ x, l[k]? = some x := ⟨l[k], by simp [hlt]⟩
      obtain ⟨ao', ca', e', hcs⟩ := HR.out.below HB.out.2
      cases e'
      obtain ⟨b, off, rfl, hcell⟩ := hcs (by intro h; subst h; simp at hlt)
      obtain ⟨c0, c1, c3, ⟨so, sc, c2, r2⟩, hf, hnm⟩ := hcell k x hx
      have hsl := HS.out x (List.mem_of_getElem? hx)
      have HL : Hid (∀ W, Below wr.heap.size wr W → Calls Tryz.prog 64 #[.agg #[.int .i64 x.kind, .int .i32 x.rune, .slice so x.set.length sc, .string x.name], .pointer (some ⟨bm, 0, none⟩)] W
          fun e w' => ∃ v', e = .returned v' ∧ w'.ownsRow W.heap.size 97 2 v' (V.setOf g x).length (S.cellsOf (V.setOf g x)) ∧ Below W.heap.size W w') := fun W hW => lookf_any W x so sc bm g ((HVs.out.below HB.out.2).below hW) (r2.below hW (Nat.le_refl _)) hsl hnm
      clear hcell hcs r2 hf hnm hsl
      have HX : Hid (l[k]? = some x) := hx
      clear hx
      generalize hst : V.setOf g x = st at HL
      have HXs : Hid ((l.take (k + 1)).map (V.setOf g) = (l.take k).map (V.setOf g) ++ [st]) := by
        show _ = _
        rw [List.take_add_one, HX.out]; simp [hst]
      clear hst HX
      obtain ⟨xk, xr, xs, xn⟩ := x
      simp only at c0 c1 c2 c3 HL
      have hb1 : b < wr.heap.size := L.block_lt c0
      have HbA : Hid (Below wr.heap.size wr (wr.alloc (.cells #[.int .i64 xk, .int .i32 xr, .slice so xs.length sc, .string xn] 42))) := (Below.refl _ wr).alloc (Nat.le_refl _) _
      go_wp2_with fail
      refine (HL.out _ HbA.out).mono ?_
      rintro e w5 ⟨v5, rfl, o5, b5⟩
      obtain ⟨s5, q5, rfl⟩ : ∃ s5 q5, v5 = .slice s5 st.length q5 := by
        obtain ⟨s5, q5, hu, _⟩ := S.Rd.of_owns o5
        exact ⟨s5, q5, hu⟩
      have hs5 : wr.heap.size + 1 ≤ w5.heap.size := by have := b5.size; simpa using this
      have bw5 : Below wr.heap.size wr w5 := HbA.out.trans (b5.mono HbA.out.size)
      have hsz5 : w.heap.size ≤ wr.heap.size := HB.out.2.size
      have HO : Hid (V.SetRow w.heap.size (w5.alloc (.cells #[.slice s5 st.length q5] 31)) u5 ((l.take k).map (V.setOf g)) ∧ V.SetRow (wr.heap.size + 1) (w5.alloc (.cells #[.slice s5 st.length q5] 31)) (.slice (some ⟨w5.heap.size, 0, none⟩) 1 1) [st] ∧ Below w.heap.size w (w5.alloc (.cells #[.slice s5 st.length q5] 31)) ∧ ∀ g, u5.ownBlock = some g → w.heap.size ≤ g ∧ g < wr.heap.size) :=
        ⟨(R.Row.below HB.out.1 bw5).below ((Below.refl _ w5).alloc (Nat.le_refl _) _), V.one_set (by simpa using o5) hs5, (HB.out.2.trans (bw5.mono HB.out.2.size)).alloc (by omega) _, fun g hg => HB.out.1.lt g hg⟩
      clear o5 b5 bw5 c0 c1 c2 c3 hb1
      have hlen : ((l.take k).map (V.setOf g)).length = k := by simp; omega
      have HLen : Hid (((l.take k).map (V.setOf g)).length = k) := hlen
      clear hlen
      go_wp2_with (at_builtin; go_must (refine V.list_add V.elemS rfl _ _ rfl _ _ ((l.take k).map (V.setOf g)) [st] rfl rfl HO.out.1 HO.out.2.1 (by omega) (fun g hg => by have := (HO.out.2.2.2 g hg).2; omega) (by have := HLen.out; rw [this]; simp; omega) (by simp; omega) ?_; intro v6 w6 R6 g6 n6; have HX6 : Hid (V.SetRow w.heap.size w6 v6 ((l.take k).map (V.setOf g) ++ [st]) ∧ Below w.heap.size w w6) := ⟨R6, Below.grown HO.out.2.2.1 g6 HO.out.2.2.1.size (fun j hj => (HO.out.2.2.2 j hj).1)⟩; clear R6 g6 n6))
      go_roundw
      case rel => exact ⟨k + 1, by omega, by go_num, by rw [HXs.out]; exact HX6.out.1, HX6.out.2⟩
      case measure => simp [RowKit.intOf]; omega
    · have hkl : k = l.length := by omega
      subst hkl
      go_wp2
      go_ret
      exact ⟨_, rfl, by simpa using HB.out.1, HB.out.2⟩

end Go.Proofs.YtchkcjaahjhbcabGreatDoor

/-
  What resolve.rule makes of two sides.
-/
namespace Go.Proofs.YtchkcjaahjhbcabGreatDoor
open Go.RowKit
set_option maxRecDepth 20000
set_option linter.unusedSimpArgs false
set_option linter.unusedVariables false

namespace V
/-- a meaning that hangs on the blocks from lo to hi alone -/
def Mn (lo hi : Nat) (W : World) (Q : World → Prop) : Prop := lo ≤ hi ∧ ∀ W', (∀ b, lo ≤ b → b < hi → W'.heap[b]? = W.heap[b]?) → Q W'
theorem Mn.below {lo hi : Nat} {W W' : World} {Q : World → Prop} (h : Mn lo hi W Q) (hb : Below W.heap.size W W') (hh : hi ≤ W.heap.size) : Mn lo hi W' Q :=
  ⟨h.1, fun W'' h2 => h.2 W'' fun b h3 h4 => (h2 b h3 h4).trans (hb.block b (by omega))⟩
theorem Mn.other {lo hi : Nat} {W W' : World} {Q : World → Prop} (h : Mn lo hi W Q) (hk : ∀ b, lo ≤ b → b < hi → W'.heap[b]? = W.heap[b]?) : Mn lo hi W' Q :=
  ⟨h.1, fun W'' h2 => h.2 W'' fun b h3 h4 => (h2 b h3 h4).trans (hk b h3 h4)⟩
theorem flat1 : ∀ {cs : List (List Value)}, (∀ c ∈ cs, c.length = 1) → ∀ j : Nat, cs.flatten[j]? = (cs[j]?).bind (·[0]?)
  | [], _, j => by simp
  | c :: cs, h, j => by
    have h1 := h c (List.mem_cons_self ..)
    match c, h1 with
    | [u], _ =>
      cases j with
      | zero => simp
      | succ j =>
        rw [List.flatten_cons, List.singleton_append, List.getElem?_cons_succ, List.getElem?_cons_succ]
        exact flat1 (fun c hc => h c (List.mem_cons_of_mem _ hc)) j
/-- a row of sets of one's own: what it means -/
theorem row_ss {F : Nat} {w : World} {v : Value} {l : List (List S.Sp)} (h : V.SetRow F w v l) (hf : ∀ s ∈ l, S.Fit s) (hl : l.length ≤ 1000) : ∃ ao cap, v = .slice ao l.length cap ∧ ∀ W', (∀ b, F ≤ b → b < w.heap.size → W'.heap[b]? = w.heap[b]?) → K.Ss W' v l := by
  obtain ⟨cs, own, hcl, hc, hst⟩ := h
  obtain ⟨ao, cap, hv, hn⟩ : ∃ ao cap, v = .slice ao l.length cap ∧ (ao = none → cap = 0) := by
    rcases own.2 with ⟨h, h1⟩ | ⟨g, cap, cur, h, _⟩
    · exact ⟨none, 0, by rw [h, h1], fun _ => rfl⟩
    · exact ⟨_, cap, h, fun e => by cases e⟩
  have hone : ∀ (j : Nat) s c, l[j]? = some s → cs[j]? = some c → ∃ u, c = [u] := fun j s c hs hj => by
    obtain ⟨u, so, sc, h1, _⟩ := (hst j s c hs hj).here
    exact ⟨u, h1⟩
  refine ⟨ao, cap, hv, fun W' hW => ?_⟩
  refine ⟨ao, cap, cs.flatten, hv, hn, by omega, ⟨?_, fun j u s hu hs => ?_⟩, fun hne => ?_⟩
  · have := own.1; omega
  · have hlt : j < cs.length := by rw [hcl]; exact (List.getElem?_eq_some_iff.1 hs).1
    obtain ⟨c, hcj⟩ : ∃ c, cs[j]? = some c := ⟨cs[j], by simp⟩
    obtain ⟨u', so, sc, h1, h2, h3⟩ := (hst j s c hs hcj) W' fun b h1 h2 _ => hW b h1 h2
    have hfl : cs.flatten[j]? = some u' := by
      have hk : ∀ c ∈ cs, c.length = 1 := fun c hc' => (hc c hc').1
      rw [flat1 hk j, hcj, h1]; rfl
    rw [hfl] at hu
    cases hu
    exact ⟨⟨so, sc, h2⟩, h3, hf s (List.mem_of_getElem? hs)⟩
  · rcases own.2 with ⟨_, h1⟩ | ⟨g, cap', cur, hv', hB, hg, _, _, hsz, htk⟩
    · exact absurd (List.eq_nil_of_length_eq_zero h1) hne
    · rw [hv] at hv'
      cases hv'
      refine ⟨g, 0, rfl, fun j u hj => ?_⟩
      have hgl : g < w.heap.size := (Array.getElem?_eq_some_iff.1 hg).1
      have e := hW g hB hgl
      rw [World.cell?_of_block (w := w) (a := ⟨g, 0 + j, none⟩) e]
      rw [← htk] at hj
      rw [World.cell?]
      simp only [show w.heap[g]? = _ from hg]
      rw [List.getElem?_take] at hj
      split at hj
      · simpa using hj
      · cases hj
end V

namespace V
/-- items that are right -/
def Right (l : List R.Item) : Prop := l.length ≤ 20 ∧ ∀ x ∈ l, R.itemE x = 0
theorem right_len {l : List R.Item} (h : Right l) : ∀ x ∈ l, x.kind = 2 → x.set.length ≤ 17592186044160 := fun x hx hk => by
  have := h.2 x hx
  unfold R.itemE at this
  rw [if_neg (by omega), if_pos hk] at this
  have := (S.wrongE_zero.1 this).1
  omega
theorem Mn.belowA {lo hi : Nat} {W Y : World} {o : Obj} {Q : World → Prop} (h : Mn lo hi W Q) (hb : Below (W.alloc o).heap.size (W.alloc o) Y) (hh : hi ≤ W.heap.size) : Mn lo hi Y Q := h.below ((Below.refl _ W).alloc (Nat.le_refl _) o |>.trans (hb.mono (by simp))) hh
/-- what there is is as it was, one block aside -/
def Ext (A B : World) (rb : Nat) : Prop := A.heap.size ≤ B.heap.size ∧ ∀ b, b < A.heap.size → b ≠ rb → B.heap[b]? = A.heap[b]?
theorem Ext.trans {A B C : World} {rb : Nat} (h : Ext A B rb) (h' : Ext B C rb) : Ext A C rb := ⟨Nat.le_trans h.1 h'.1, fun b hb hn => (h'.2 b (Nat.lt_of_lt_of_le hb h.1) hn).trans (h.2 b hb hn)⟩
theorem ext_z {X Y : World} {rb : Nat} (z : Below X.heap.size X Y) : Ext X Y rb := ⟨z.size, fun b hb _ => z.block b hb⟩
theorem ext_a {A : World} {o : Obj} {rb : Nat} : Ext A (A.alloc o) rb := ⟨by simp, fun b hb _ => Below.heap_alloc A o b hb⟩
theorem ext_g {A B : World} {rb : Nat} (h : A.grownBy B (some rb)) : Ext A B rb := ⟨h.size, fun b hb hn => h.block b hb fun e => hn (Option.some.inj e)⟩
/-- a rule that has been made: its box, and what its rows mean -/
def Made (w : World) (g : ByteArray → List S.Sp) (abe aso aaf bso : List R.Item) (wx : World) (rb : Nat) (st fi : Value) (p1 : Option Addr) (p2 : Nat) (s1 : Option Addr) (s2 : Nat) (a1 : Option Addr) (a2 : Nat) (t1 : Option Addr) (t2 : Nat) (bcu : Int) : Prop :=
  wx.heap[rb]? = some (.cells #[st, fi, .slice p1 abe.length p2, .slice s1 aso.length s2, .slice a1 aaf.length a2, .slice t1 bso.length t2, .int .i64 bcu] 54) ∧
  wx.heap[w.heap.size + 2]? = some (.cells #[.bool false, .bool false, .slice none 0 0, .slice none 0 0, .slice none 0 0, .slice none 0 0, .int .i64 0] 54) ∧ w.heap.size + 3 ≤ rb ∧ Below w.heap.size w wx ∧
  (∀ W', (∀ b, w.heap.size + 3 ≤ b → b ≠ rb → b < wx.heap.size → W'.heap[b]? = wx.heap[b]?) →
    K.Ss W' (.slice p1 abe.length p2) (abe.map (setOf g)) ∧ K.Ss W' (.slice s1 aso.length s2) (aso.map (setOf g)) ∧ K.Ss W' (.slice a1 aaf.length a2) (aaf.map (setOf g)) ∧ L.Rd W' (.slice t1 bso.length t2) .i32 (bso.map (·.rune)))
theorem made_mk {w : World} {g : ByteArray → List S.Sp} {abe aso aaf bso : List R.Item} {wx : World} {rb : Nat} {st fi : Value} {p1 : Option Addr} {p2 : Nat} {s1 : Option Addr} {s2 : Nat} {a1 : Option Addr} {a2 : Nat} {t1 : Option Addr} {t2 : Nat} {bcu : Int}
    (hF : wx.heap[rb]? = some (.cells #[st, fi, .slice p1 abe.length p2, .slice s1 aso.length s2, .slice a1 aaf.length a2, .slice t1 bso.length t2, .int .i64 bcu] 54))
    (h6 : wx.heap[w.heap.size + 2]? = some (.cells #[.bool false, .bool false, .slice none 0 0, .slice none 0 0, .slice none 0 0, .slice none 0 0, .int .i64 0] 54)) (hrb : w.heap.size + 3 ≤ rb) (hB : Below w.heap.size w wx)
    (m1 : ∀ W' : World, (∀ b, w.heap.size + 3 ≤ b → b ≠ rb → b < wx.heap.size → W'.heap[b]? = wx.heap[b]?) → K.Ss W' (.slice p1 abe.length p2) (abe.map (setOf g)))
    (m2 : ∀ W' : World, (∀ b, w.heap.size + 3 ≤ b → b ≠ rb → b < wx.heap.size → W'.heap[b]? = wx.heap[b]?) → K.Ss W' (.slice s1 aso.length s2) (aso.map (setOf g)))
    (m3 : ∀ W' : World, (∀ b, w.heap.size + 3 ≤ b → b ≠ rb → b < wx.heap.size → W'.heap[b]? = wx.heap[b]?) → K.Ss W' (.slice a1 aaf.length a2) (aaf.map (setOf g)))
    (m4 : ∀ W' : World, (∀ b, w.heap.size + 3 ≤ b → b ≠ rb → b < wx.heap.size → W'.heap[b]? = wx.heap[b]?) → L.Rd W' (.slice t1 bso.length t2) .i32 (bso.map (·.rune))) :
    Hid (Made w g abe aso aaf bso wx rb st fi p1 p2 s1 s2 a1 a2 t1 t2 bcu) := ⟨hF, h6, hrb, hB, fun W' hW => ⟨m1 W' hW, m2 W' hW, m3 W' hW, m4 W' hW⟩⟩
theorem goes {w X Y : World} (hX : Below w.heap.size w X) (z : Below X.heap.size X Y) : Below w.heap.size w Y := hX.trans (z.mono hX.size)
theorem rb_keep {X Y : World} {o : Obj} (z : Below (X.alloc o).heap.size (X.alloc o) Y) : Y.heap[X.heap.size]? = some o := (K.one_box z).1
theorem rb_keepD {X Y : World} {o : Obj} (z : Below ((X.alloc o).drew).heap.size ((X.alloc o).drew) Y) : Y.heap[X.heap.size]? = some o := (K.blk_below (w := (X.alloc o).drew) (heap_alloc_new X o) z)
theorem cells7 {w : World} {b : Nat} {v0 v1 v2 v3 v4 v5 v6 : Value} {t : TypeId} (h : w.heap[b]? = some (.cells #[v0, v1, v2, v3, v4, v5, v6] t)) :
    (w.cell? ⟨b, 0, none⟩ = some v0 ∧ w.cell? ⟨b, 1, none⟩ = some v1 ∧ w.cell? ⟨b, 2, none⟩ = some v2 ∧ w.cell? ⟨b, 3, none⟩ = some v3 ∧ w.cell? ⟨b, 4, none⟩ = some v4 ∧ w.cell? ⟨b, 5, none⟩ = some v5 ∧ w.cell? ⟨b, 6, none⟩ = some v6) ∧ ∀ i, w.frozen? ⟨b, i, none⟩ = false :=
  ⟨⟨K.at_box h rfl, K.at_box h rfl, K.at_box h rfl, K.at_box h rfl, K.at_box h rfl, K.at_box h rfl, K.at_box h rfl⟩, fun i => frozen_of_row w b i _ _ h⟩
/-- seven stores into a box -/
theorem set1_is {W : World} {b i : Nat} {c : Array Value} {t : TypeId} (h : W.heap[b]? = some (.cells c t)) (v : Value) :
    (W.setCell ⟨b, i, none⟩ v).heap[b]? = some (.cells (c.setIfInBounds i v) t) ∧ W.grownBy (W.setCell ⟨b, i, none⟩ v) (some b) :=
  ⟨heap_setCell_same W b i _ _ v h, rfl, rfl, rfl, by simp, fun k _ hk => heap_setCell_other W ⟨b, i, none⟩ k _ fun e => hk (by rw [e])⟩
theorem set7_is {W : World} {b : Nat} {u0 u1 u2 u3 u4 u5 u6 : Value} {t : TypeId} (h : W.heap[b]? = some (.cells #[u0, u1, u2, u3, u4, u5, u6] t)) (v0 v1 v2 v3 v4 v5 v6 : Value) :
    (((((((W.setCell ⟨b, 0, none⟩ v0).setCell ⟨b, 1, none⟩ v1).setCell ⟨b, 2, none⟩ v2).setCell ⟨b, 3, none⟩ v3).setCell ⟨b, 4, none⟩ v4).setCell ⟨b, 5, none⟩ v5).setCell ⟨b, 6, none⟩ v6).heap[b]? = some (.cells #[v0, v1, v2, v3, v4, v5, v6] t) ∧ W.grownBy (((((((W.setCell ⟨b, 0, none⟩ v0).setCell ⟨b, 1, none⟩ v1).setCell ⟨b, 2, none⟩ v2).setCell ⟨b, 3, none⟩ v3).setCell ⟨b, 4, none⟩ v4).setCell ⟨b, 5, none⟩ v5).setCell ⟨b, 6, none⟩ v6) (some b) := by
  obtain ⟨e0, g0⟩ := set1_is (i := 0) h v0
  generalize W.setCell ⟨b, 0, none⟩ v0 = X0 at *
  obtain ⟨e1, g1⟩ := set1_is (i := 1) e0 v1
  generalize X0.setCell ⟨b, 1, none⟩ v1 = X1 at *
  obtain ⟨e2, g2⟩ := set1_is (i := 2) e1 v2
  generalize X1.setCell ⟨b, 2, none⟩ v2 = X2 at *
  obtain ⟨e3, g3⟩ := set1_is (i := 3) e2 v3
  generalize X2.setCell ⟨b, 3, none⟩ v3 = X3 at *
  obtain ⟨e4, g4⟩ := set1_is (i := 4) e3 v4
  generalize X3.setCell ⟨b, 4, none⟩ v4 = X4 at *
  obtain ⟨e5, g5⟩ := set1_is (i := 5) e4 v5
  generalize X4.setCell ⟨b, 5, none⟩ v5 = X5 at *
  obtain ⟨e6, g6⟩ := set1_is (i := 6) e5 v6
  generalize X5.setCell ⟨b, 6, none⟩ v6 = X6 at *
  exact ⟨by rw [e6]; simp, S.grown_trans (S.grown_trans (S.grown_trans (S.grown_trans (S.grown_trans (S.grown_trans g0 g1) g2) g3) g4) g5) g6⟩
end V

end Go.Proofs.YtchkcjaahjhbcabGreatDoor

/-
  What resolve.put does with passes.
-/
namespace Go.Proofs.YtchkcjaahjhbcabGreatDoor
open Go.RowKit
set_option maxRecDepth 20000
set_option linter.unusedSimpArgs false
set_option linter.unusedVariables false

/-- append, by its run, at a step of a region that draws its order -/
theorem V.step_run {t : TypeId} {ops : Array Oper} {o : Oper} {a : Act} {w : World} {K : Act → World → Prop} {Q : Exit → Act → World → Prop} {E : Prop} (hgd : o.guard = none) (s x : Operand)
    (ho : o.op = .call { callee := .builtin .append, args := #[s, x], argTypes := #[t, t] }) (v vx v' : Value) (w' : World) (hs : a.eval s = v) (hx : a.eval x = vx)
    (hrun : ∀ ty, (Builtin.append_ #[t, t] ty #[v, vx]).run Tryz.prog w = .ok v' w') (h : K (a.put o.dst v') w') :
    if Region.wanted o (yielded ops a.tmps) = true then Oper.wp Tryz.prog o a w K Q else E := by
  have hw : Region.wanted o (yielded ops a.tmps) = true := by simp [Region.wanted, hgd]
  rw [if_pos hw]
  unfold Oper.wp
  simp [execOp, ho, resolve, invoke, builtin, hs, hx, hrun, Result.andThen]
  exact h

set_option maxHeartbeats 8000000 in
/-- the last pass is one of rules -/
theorem putp_open (F : Nat) (w : World) (tops : List Nat) (init : List V.Pass) (p : V.Pass) (rvi : List Value) (rv : Value) (X cap : Nat) (h : V.PS F tops w (.slice (some ⟨X, 0, none⟩) (init.length + 1) cap) (init ++ [p]) (rvi ++ [rv])) (hli : rvi.length = init.length) (hnm : p.name = ⟨#[]⟩) (r : K.Rule) (bo : Option Addr) (bc : Nat) (so : Option Addr) (sc : Nat) (ao : Option Addr) (ac : Nat) (ta : Option Addr) (tc : Nat) (hL : V.Leaf tops w fun W => K.RuIs W (.agg #[.bool r.start, .bool r.fin, .slice bo r.before.length bc, .slice so r.source.length sc, .slice ao r.after.length ac, .slice ta r.target.length tc, .int .i64 r.cursor]) r) (hF : F ≤ w.heap.size) (hrl : p.rules.length ≤ 1000) (hil : init.length ≤ 1000) :
    Calls Tryz.prog 40 #[.slice (some ⟨X, 0, none⟩) (init.length + 1) cap, .agg #[.bool r.start, .bool r.fin, .slice bo r.before.length bc, .slice so r.source.length sc, .slice ao r.after.length ac, .slice ta r.target.length tc, .int .i64 r.cursor]] w fun e w' => e = .returned (.slice (some ⟨X, 0, none⟩) (init.length + 1) cap) ∧ (∃ tops' rv', V.PS F tops' w' (.slice (some ⟨X, 0, none⟩) (init.length + 1) cap) (init ++ [⟨p.name, p.rules ++ [r]⟩]) (rvi ++ [rv']) ∧ V.Moves tops w tops' w') ∧ Below F w w' := by
  obtain ⟨wq, hwq⟩ : ∃ wq, wq = w.alloc (.cells #[.bool r.start, .bool r.fin, .slice bo r.before.length bc, .slice so r.source.length sc, .slice ao r.after.length ac, .slice ta r.target.length tc, .int .i64 r.cursor] 54) := ⟨_, rfl⟩
  have hb0 : Below w.heap.size w wq := by rw [hwq]; exact (Below.refl _ w).alloc (Nat.le_refl _) _
  have PQ := h.below hb0
  have LQ := hL.step (tops' := tops) hb0.size (fun b hb _ => hb0.block b hb) fun k hk => .inl hk
  have hbox : wq.heap[w.heap.size]? = some (.cells #[.bool r.start, .bool r.fin, .slice bo r.before.length bc, .slice so r.source.length sc, .slice ao r.after.length ac, .slice ta r.target.length tc, .int .i64 r.cursor] 54) := by rw [hwq]; exact heap_alloc_new w _
  have hFq : F ≤ wq.heap.size := Nat.le_trans hF hb0.size
  have hBq : Below F w wq := hb0.mono hF
  have hMq : V.Moves tops w tops wq := V.Moves.of_below hb0
  obtain ⟨nm0, _⟩ := h.cells hli
  rw [hnm] at nm0
  have dn : ∀ o, (w.alloc o).cell? ⟨X, init.length * 2, none⟩ = some (.string ⟨#[]⟩) := fun o => by
    have e : (w.alloc o).heap[X]? = w.heap[X]? := Below.heap_alloc w o X (L.block_lt nm0)
    rw [World.cell?_of_block (a := ⟨X, init.length * 2, none⟩) e]; exact nm0
  obtain ⟨d0, d1⟩ := PQ.cells hli
  have hal : Below wq.heap.size wq (wq.alloc (.cells #[.bool r.start, .bool r.fin, .slice bo r.before.length bc, .slice so r.source.length sc, .slice ao r.after.length ac, .slice ta r.target.length tc, .int .i64 r.cursor] 54)).drew := ((Below.refl _ wq).alloc (Nat.le_refl _) _).drew
  have PA := PQ.below hal
  have hnew : (wq.alloc (.cells #[.bool r.start, .bool r.fin, .slice bo r.before.length bc, .slice so r.source.length sc, .slice ao r.after.length ac, .slice ta r.target.length tc, .int .i64 r.cursor] 54)).drew.heap[wq.heap.size]? = some (.cells #[.bool r.start, .bool r.fin, .slice bo r.before.length bc, .slice so r.source.length sc, .slice ao r.after.length ac, .slice ta r.target.length tc, .int .i64 r.cursor] 54) := heap_alloc_new wq _
  obtain ⟨rv', W1, hrun, ⟨g', c', hrv'⟩, e1, f1, gr1, tops', PF, hBF, hMF⟩ := PA.put hli r [.bool r.start, .bool r.fin, .slice bo r.before.length bc, .slice so r.source.length sc, .slice ao r.after.length ac, .slice ta r.target.length tc, .int .i64 r.cursor] ⟨rfl, fun u hu => by simp at hu; rcases hu with rfl | rfl | rfl | rfl | rfl | rfl | rfl <;> rfl⟩ (LQ.step hal.size (fun b hb _ => hal.block b hb) fun k hk => .inl hk) wq.heap.size (fun q u hq => K.at_box hnew (by simpa using hq)) (Nat.le_trans hFq hal.size) hrl
  obtain ⟨⟨y0, y1, y2, y3, y4, y5, y6⟩, _⟩ := V.cells7 hbox
  have HF : Hid (V.PS F tops' (W1.setCell ⟨X, init.length * 2 + 1, none⟩ rv') (.slice (some ⟨X, 0, none⟩) (init.length + 1) cap) (init ++ [⟨p.name, p.rules ++ [r]⟩]) (rvi ++ [rv']) ∧ Below F w (W1.setCell ⟨X, init.length * 2 + 1, none⟩ rv') ∧ V.Moves tops w tops' (W1.setCell ⟨X, init.length * 2 + 1, none⟩ rv')) := ⟨PF, (hBq.trans (hal.mono hFq)).trans hBF, (hMq.trans (V.Moves.of_below hal)).trans hMF⟩
  subst hrv'
  have lbq := (Array.getElem?_eq_some_iff.1 hbox).1
  have lbX := L.block_lt d1
  have hj0 : (0 : Int) ≤ init.length := by omega
  have hj1 : (init.length : Int) < init.length + 1 := by omega
  have hjw : IntKind.i64.wrap ((init.length : Int) + 1 - 1) = init.length := by rw [IntKind.wrap_i64]; omega
  clear PQ PA hal hnew LQ PF hBF hMF hMq hbox d0 gr1
  clear h hL nm0 hb0
  go_enter Tryz.func40, Tryz.ntmps40
  go_wp2
  rw [← hwq]
  clear hwq
  have HR : Hid (∀ ty, (Builtin.append_ #[48, 48] ty #[rv, .slice (some ⟨wq.heap.size, 0, none⟩) 1 1]).run Tryz.prog (wq.alloc (.cells #[.bool r.start, .bool r.fin, .slice bo r.before.length bc, .slice so r.source.length sc, .slice ao r.after.length ac, .slice ta r.target.length tc, .int .i64 r.cursor] 54)).drew = .ok (.slice (some ⟨g', 0, none⟩) (p.rules.length + 1) c') W1) := hrun
  clear hrun
  go_region_law (refine V.step_run (by rfl) (.tmp 32) (.tmp 34) (by rfl) _ _ _ W1 (by rfl) (by rfl) HR.out ?_)
  all_goals
    go_wp2
    go_ret
    exact ⟨rfl, ⟨tops', _, HF.out.1, HF.out.2.2⟩, HF.out.2.1⟩

set_option maxHeartbeats 8000000 in
/-- a new pass: the last one has a name -/
theorem putp_named (F : Nat) (w : World) (tops : List Nat) (ps : List V.Pass) (rvs : List Value) (ini : List V.Pass) (pl : V.Pass) (rvl : List Value) (rl : Value) (Y cq : Nat) (hps : ps = ini ++ [pl]) (hrvs : rvs = rvl ++ [rl]) (hlr : rvl.length = ini.length) (hnm : ¬ pl.name.size = 0) (h : V.PS F tops w (.slice (some ⟨Y, 0, none⟩) (ini.length + 1) cq) ps rvs) (r : K.Rule) (bo : Option Addr) (bc : Nat) (so : Option Addr) (sc : Nat) (ao : Option Addr) (ac : Nat) (ta : Option Addr) (tc : Nat) (hL : V.Leaf tops w fun W => K.RuIs W (.agg #[.bool r.start, .bool r.fin, .slice bo r.before.length bc, .slice so r.source.length sc, .slice ao r.after.length ac, .slice ta r.target.length tc, .int .i64 r.cursor]) r) (hF : F ≤ w.heap.size) (hil : ps.length ≤ 1000) :
    Calls Tryz.prog 40 #[.slice (some ⟨Y, 0, none⟩) (ini.length + 1) cq, .agg #[.bool r.start, .bool r.fin, .slice bo r.before.length bc, .slice so r.source.length sc, .slice ao r.after.length ac, .slice ta r.target.length tc, .int .i64 r.cursor]] w fun e w' => (∃ vp' tops' rvs', e = .returned vp' ∧ V.PS F tops' w' vp' (ps ++ [⟨⟨#[]⟩, [r]⟩]) rvs' ∧ V.Moves tops w tops' w') ∧ Below F w w' := by
  have hY : w.cell? ⟨Y, ini.length * 2, none⟩ = some (.string pl.name) := by
    have h' := h
    rw [hps, hrvs] at h'
    exact (h'.cells hlr).1
  have dn : ∀ o, (w.alloc o).cell? ⟨Y, ini.length * 2, none⟩ = some (.string pl.name) := fun o => by
    have e : (w.alloc o).heap[Y]? = w.heap[Y]? := Below.heap_alloc w o Y (L.block_lt hY)
    rw [World.cell?_of_block (a := ⟨Y, ini.length * 2, none⟩) e]; exact hY
  have hem : pl.name.toList.isEmpty = false := by
    rw [ByteArray.toList_eq]
    cases e : pl.name.data.toList with
    | nil => exact absurd (show pl.name.data.size = 0 by rw [← Array.length_toList, e]; rfl) hnm
    | cons _ _ => rfl
  have hil2 : ini.length ≤ 1000 := by rw [hps] at hil; simp at hil; omega
  have hk0 : (0 : Int) ≤ ini.length := by omega
  have hk1 : (ini.length : Int) < ini.length + 1 := by omega
  have hkw : IntKind.i64.wrap ((ini.length : Int) + 1 - 1) = ini.length := by rw [IntKind.wrap_i64]; omega
  have hne0 : ¬ (ini.length : Int) + 1 = 0 := by omega
  obtain ⟨w1, hw1⟩ : ∃ w1, w1 = w.alloc (.cells #[.bool r.start, .bool r.fin, .slice bo r.before.length bc, .slice so r.source.length sc, .slice ao r.after.length ac, .slice ta r.target.length tc, .int .i64 r.cursor] 54) := ⟨_, rfl⟩
  have hb1 : Below w.heap.size w w1 := by rw [hw1]; exact (Below.refl _ w).alloc (Nat.le_refl _) _
  have hbox1 : w1.heap[w.heap.size]? = some (.cells #[.bool r.start, .bool r.fin, .slice bo r.before.length bc, .slice so r.source.length sc, .slice ao r.after.length ac, .slice ta r.target.length tc, .int .i64 r.cursor] 54) := by rw [hw1]; exact heap_alloc_new w _
  have hs1 : w1.heap.size = w.heap.size + 1 := by rw [hw1]; simp
  obtain ⟨w2, hw2⟩ : ∃ w2, w2 = (w.alloc (.cells #[.bool r.start, .bool r.fin, .slice bo r.before.length bc, .slice so r.source.length sc, .slice ao r.after.length ac, .slice ta r.target.length tc, .int .i64 r.cursor] 54)).alloc (.cells #[.string ⟨#[]⟩, .slice none 0 0] 50) := ⟨_, rfl⟩
  have hw2' : w2 = w1.alloc (.cells #[.string ⟨#[]⟩, .slice none 0 0] 50) := by rw [hw2, hw1]
  have hb2 : Below w1.heap.size w1 w2 := by rw [hw2']; exact (Below.refl _ w1).alloc (Nat.le_refl _) _
  have hnp : w2.heap[w1.heap.size]? = some (.cells #[.string ⟨#[]⟩, .slice none 0 0] 50) := by rw [hw2']; exact heap_alloc_new w1 _
  have P2 := (h.below hb1).below hb2
  have hF2 : F ≤ w2.heap.size := Nat.le_trans hF (Nat.le_trans hb1.size hb2.size)
  obtain ⟨vp', wq, hrunP, ownP, grP, hvP⟩ := R.run_app V.elemP w2 0 F (.slice (some ⟨Y, 0, none⟩) (ini.length + 1) cq) ps.length (V.pcells ps rvs) P2.own ⟨w1.heap.size, 0, none⟩ 1 1 [.string ⟨#[]⟩, .slice none 0 0] rfl (fun q u hq => by rw [L.addr_add, Nat.zero_add]; exact K.at_box hnp (by simpa using hq)) (fun u hu => by simp at hu; rcases hu with rfl | rfl <;> rfl) (by omega) hF2
  obtain ⟨tq, PQ, hmq⟩ := P2.more ⟨#[]⟩ (Nat.zero_le _) ownP grP hvP
  have hkq : ∀ b, b < w2.heap.size → b ∉ tops → wq.heap[b]? = w2.heap[b]? := fun b hb hn => grP.block b hb fun e => hn (P2.top b (.inl e.symm))
  have hw2s : w2.heap.size = w.heap.size + 2 := by rw [hw2']; simp; omega
  have LQ : V.Leaf tq wq fun W => K.RuIs W (.agg #[.bool r.start, .bool r.fin, .slice bo r.before.length bc, .slice so r.source.length sc, .slice ao r.after.length ac, .slice ta r.target.length tc, .int .i64 r.cursor]) r := by
    have l2 := hL.step (tops' := tops) (w' := w2) (Nat.le_trans hb1.size hb2.size) (fun b hb _ => (hb2.block b (by omega)).trans (hb1.block b hb)) fun k hk => .inl hk
    exact l2.moves hmq
  have hntop : w.heap.size ∉ tops := fun hm => by have := h.lt _ hm; omega
  have hbox : wq.heap[w.heap.size]? = some (.cells #[.bool r.start, .bool r.fin, .slice bo r.before.length bc, .slice so r.source.length sc, .slice ao r.after.length ac, .slice ta r.target.length tc, .int .i64 r.cursor] 54) := (hkq _ (by omega) hntop).trans ((hb2.block _ (by omega)).trans hbox1)
  have hFq : F ≤ wq.heap.size := Nat.le_trans hF2 grP.size
  have hMq : V.Moves tops w tq wq := ((V.Moves.of_below hb1).trans (V.Moves.of_below hb2)).trans hmq
  have hBq : Below F w wq := ((hb1.mono hF).trans (hb2.mono (by omega))).grown grP hF2 fun k hk => (P2.own.lt k hk).1
  obtain ⟨X, cap, hvp'⟩ := PQ.slice (by simp)
  rw [List.length_append] at hvp'
  have hvp2 : vp' = .slice (some ⟨X, 0, none⟩) (ps.length + 1) cap := hvp'
  subst hvp2
  have HRP : Hid (∀ ty, (Builtin.append_ #[32, 32] ty #[.slice (some ⟨Y, 0, none⟩) (ini.length + 1) cq, .slice (some ⟨w.heap.size + 1, 0, none⟩) 1 1]).run Tryz.prog ((w.alloc (.cells #[.bool r.start, .bool r.fin, .slice bo r.before.length bc, .slice so r.source.length sc, .slice ao r.after.length ac, .slice ta r.target.length tc, .int .i64 r.cursor] 54)).alloc (.cells #[.string ⟨#[]⟩, .slice none 0 0] 50)) = .ok (.slice (some ⟨X, 0, none⟩) (ps.length + 1) cap) wq) := by
    rw [← hs1, ← hw2]; exact fun ty => hrunP
  obtain ⟨init, hinit⟩ : ∃ init, init = ps := ⟨_, rfl⟩
  obtain ⟨rvi, hrvi⟩ : ∃ rvi, rvi = rvs := ⟨_, rfl⟩
  obtain ⟨rv, hrv⟩ : ∃ rv : Value, rv = .slice none 0 0 := ⟨_, rfl⟩
  obtain ⟨p, hp⟩ : ∃ p : V.Pass, p = ⟨⟨#[]⟩, []⟩ := ⟨_, rfl⟩
  have hrl : p.rules.length ≤ 1000 := by rw [hp]; simp
  have HFin : Hid (init ++ [⟨p.name, p.rules ++ [r]⟩] = ps ++ [⟨⟨#[]⟩, [r]⟩]) := by show _ = _; rw [hinit, hp]; rfl
  have hli : rvi.length = init.length := by rw [hrvi, hinit]; exact h.len
  have hil' : init.length ≤ 1000 := by rw [hinit]; exact hil
  rw [← hrv, ← hp, ← hinit, ← hrvi] at PQ
  rw [← hinit] at HRP
  obtain ⟨d0, d1⟩ := PQ.cells hli
  have hal : Below wq.heap.size wq (wq.alloc (.cells #[.bool r.start, .bool r.fin, .slice bo r.before.length bc, .slice so r.source.length sc, .slice ao r.after.length ac, .slice ta r.target.length tc, .int .i64 r.cursor] 54)).drew := ((Below.refl _ wq).alloc (Nat.le_refl _) _).drew
  have PA := PQ.below hal
  have hnew : (wq.alloc (.cells #[.bool r.start, .bool r.fin, .slice bo r.before.length bc, .slice so r.source.length sc, .slice ao r.after.length ac, .slice ta r.target.length tc, .int .i64 r.cursor] 54)).drew.heap[wq.heap.size]? = some (.cells #[.bool r.start, .bool r.fin, .slice bo r.before.length bc, .slice so r.source.length sc, .slice ao r.after.length ac, .slice ta r.target.length tc, .int .i64 r.cursor] 54) := heap_alloc_new wq _
  obtain ⟨rv', W1, hrun, ⟨g', c', hrv'⟩, e1, f1, gr1, tops', PF, hBF, hMF⟩ := PA.put hli r [.bool r.start, .bool r.fin, .slice bo r.before.length bc, .slice so r.source.length sc, .slice ao r.after.length ac, .slice ta r.target.length tc, .int .i64 r.cursor] ⟨rfl, fun u hu => by simp at hu; rcases hu with rfl | rfl | rfl | rfl | rfl | rfl | rfl <;> rfl⟩ (LQ.step hal.size (fun b hb _ => hal.block b hb) fun k hk => .inl hk) wq.heap.size (fun q u hq => K.at_box hnew (by simpa using hq)) (Nat.le_trans hFq hal.size) hrl
  obtain ⟨⟨y0, y1, y2, y3, y4, y5, y6⟩, _⟩ := V.cells7 hbox
  have HF : Hid (V.PS F tops' (W1.setCell ⟨X, init.length * 2 + 1, none⟩ rv') (.slice (some ⟨X, 0, none⟩) (init.length + 1) cap) (init ++ [⟨p.name, p.rules ++ [r]⟩]) (rvi ++ [rv']) ∧ Below F w (W1.setCell ⟨X, init.length * 2 + 1, none⟩ rv') ∧ V.Moves tops w tops' (W1.setCell ⟨X, init.length * 2 + 1, none⟩ rv')) := ⟨PF, (hBq.trans (hal.mono hFq)).trans hBF, (hMq.trans (V.Moves.of_below hal)).trans hMF⟩
  subst hrv'
  have lbq := (Array.getElem?_eq_some_iff.1 hbox).1
  have lbX := L.block_lt d1
  have hj0 : (0 : Int) ≤ init.length := by omega
  have hj1 : (init.length : Int) < init.length + 1 := by omega
  have hjw : IntKind.i64.wrap ((init.length : Int) + 1 - 1) = init.length := by rw [IntKind.wrap_i64]; omega
  clear PQ PA hal hnew LQ PF hBF hMF hMq hbox d0 gr1
  clear hY hps hrvs hnm h hL hb1 hbox1 hb2 hnp P2 ownP grP hvP hkq hntop hmq hvp' hrunP hw2' hw2 hw1
  rw [← hinit] at hil
  clear hp hrv hinit hrvi
  have HR : Hid (∀ ty, (Builtin.append_ #[48, 48] ty #[rv, .slice (some ⟨wq.heap.size, 0, none⟩) 1 1]).run Tryz.prog (wq.alloc (.cells #[.bool r.start, .bool r.fin, .slice bo r.before.length bc, .slice so r.source.length sc, .slice ao r.after.length ac, .slice ta r.target.length tc, .int .i64 r.cursor] 54)).drew = .ok (.slice (some ⟨g', 0, none⟩) (p.rules.length + 1) c') W1) := hrun
  clear hrun hs1 hw2s
  go_enter Tryz.func40, Tryz.ntmps40
  go_wp2_with (at_builtin; first | refine Lib.wpList_append_run _ rfl _ _ _ _ rfl _ _ rfl rfl _ _ (HRP.out _) ?_)
  go_region_law (refine V.step_run (by rfl) (.tmp 32) (.tmp 34) (by rfl) _ _ _ W1 (by rfl) (by rfl) HR.out ?_)
  all_goals
    go_wp2
    go_ret
    exact ⟨⟨_, tops', _, rfl, HFin.out ▸ HF.out.1, HF.out.2.2⟩, HF.out.2.1⟩

set_option maxHeartbeats 8000000 in
/-- a new pass: there is none -/
theorem putp_first (F : Nat) (w : World) (tops : List Nat) (ps : List V.Pass) (rvs : List Value) (h : V.PS F tops w (.slice none 0 0) ps rvs) (r : K.Rule) (bo : Option Addr) (bc : Nat) (so : Option Addr) (sc : Nat) (ao : Option Addr) (ac : Nat) (ta : Option Addr) (tc : Nat) (hL : V.Leaf tops w fun W => K.RuIs W (.agg #[.bool r.start, .bool r.fin, .slice bo r.before.length bc, .slice so r.source.length sc, .slice ao r.after.length ac, .slice ta r.target.length tc, .int .i64 r.cursor]) r) (hF : F ≤ w.heap.size) (hil : ps.length ≤ 1000) :
    Calls Tryz.prog 40 #[.slice none 0 0, .agg #[.bool r.start, .bool r.fin, .slice bo r.before.length bc, .slice so r.source.length sc, .slice ao r.after.length ac, .slice ta r.target.length tc, .int .i64 r.cursor]] w fun e w' => (∃ vp' tops' rvs', e = .returned vp' ∧ V.PS F tops' w' vp' (ps ++ [⟨⟨#[]⟩, [r]⟩]) rvs' ∧ V.Moves tops w tops' w') ∧ Below F w w' := by
  obtain ⟨w1, hw1⟩ : ∃ w1, w1 = w.alloc (.cells #[.bool r.start, .bool r.fin, .slice bo r.before.length bc, .slice so r.source.length sc, .slice ao r.after.length ac, .slice ta r.target.length tc, .int .i64 r.cursor] 54) := ⟨_, rfl⟩
  have hb1 : Below w.heap.size w w1 := by rw [hw1]; exact (Below.refl _ w).alloc (Nat.le_refl _) _
  have hbox1 : w1.heap[w.heap.size]? = some (.cells #[.bool r.start, .bool r.fin, .slice bo r.before.length bc, .slice so r.source.length sc, .slice ao r.after.length ac, .slice ta r.target.length tc, .int .i64 r.cursor] 54) := by rw [hw1]; exact heap_alloc_new w _
  have hs1 : w1.heap.size = w.heap.size + 1 := by rw [hw1]; simp
  obtain ⟨w2, hw2⟩ : ∃ w2, w2 = (w.alloc (.cells #[.bool r.start, .bool r.fin, .slice bo r.before.length bc, .slice so r.source.length sc, .slice ao r.after.length ac, .slice ta r.target.length tc, .int .i64 r.cursor] 54)).alloc (.cells #[.string ⟨#[]⟩, .slice none 0 0] 50) := ⟨_, rfl⟩
  have hw2' : w2 = w1.alloc (.cells #[.string ⟨#[]⟩, .slice none 0 0] 50) := by rw [hw2, hw1]
  have hb2 : Below w1.heap.size w1 w2 := by rw [hw2']; exact (Below.refl _ w1).alloc (Nat.le_refl _) _
  have hnp : w2.heap[w1.heap.size]? = some (.cells #[.string ⟨#[]⟩, .slice none 0 0] 50) := by rw [hw2']; exact heap_alloc_new w1 _
  have P2 := (h.below hb1).below hb2
  have hF2 : F ≤ w2.heap.size := Nat.le_trans hF (Nat.le_trans hb1.size hb2.size)
  obtain ⟨vp', wq, hrunP, ownP, grP, hvP⟩ := R.run_app V.elemP w2 0 F (.slice none 0 0) ps.length (V.pcells ps rvs) P2.own ⟨w1.heap.size, 0, none⟩ 1 1 [.string ⟨#[]⟩, .slice none 0 0] rfl (fun q u hq => by rw [L.addr_add, Nat.zero_add]; exact K.at_box hnp (by simpa using hq)) (fun u hu => by simp at hu; rcases hu with rfl | rfl <;> rfl) (by omega) hF2
  obtain ⟨tq, PQ, hmq⟩ := P2.more ⟨#[]⟩ (Nat.zero_le _) ownP grP hvP
  have hkq : ∀ b, b < w2.heap.size → b ∉ tops → wq.heap[b]? = w2.heap[b]? := fun b hb hn => grP.block b hb fun e => hn (P2.top b (.inl e.symm))
  have hw2s : w2.heap.size = w.heap.size + 2 := by rw [hw2']; simp; omega
  have LQ : V.Leaf tq wq fun W => K.RuIs W (.agg #[.bool r.start, .bool r.fin, .slice bo r.before.length bc, .slice so r.source.length sc, .slice ao r.after.length ac, .slice ta r.target.length tc, .int .i64 r.cursor]) r := by
    have l2 := hL.step (tops' := tops) (w' := w2) (Nat.le_trans hb1.size hb2.size) (fun b hb _ => (hb2.block b (by omega)).trans (hb1.block b hb)) fun k hk => .inl hk
    exact l2.moves hmq
  have hntop : w.heap.size ∉ tops := fun hm => by have := h.lt _ hm; omega
  have hbox : wq.heap[w.heap.size]? = some (.cells #[.bool r.start, .bool r.fin, .slice bo r.before.length bc, .slice so r.source.length sc, .slice ao r.after.length ac, .slice ta r.target.length tc, .int .i64 r.cursor] 54) := (hkq _ (by omega) hntop).trans ((hb2.block _ (by omega)).trans hbox1)
  have hFq : F ≤ wq.heap.size := Nat.le_trans hF2 grP.size
  have hMq : V.Moves tops w tq wq := ((V.Moves.of_below hb1).trans (V.Moves.of_below hb2)).trans hmq
  have hBq : Below F w wq := ((hb1.mono hF).trans (hb2.mono (by omega))).grown grP hF2 fun k hk => (P2.own.lt k hk).1
  obtain ⟨X, cap, hvp'⟩ := PQ.slice (by simp)
  rw [List.length_append] at hvp'
  have hvp2 : vp' = .slice (some ⟨X, 0, none⟩) (ps.length + 1) cap := hvp'
  subst hvp2
  have HRP : Hid (∀ ty, (Builtin.append_ #[32, 32] ty #[.slice none 0 0, .slice (some ⟨w.heap.size + 1, 0, none⟩) 1 1]).run Tryz.prog ((w.alloc (.cells #[.bool r.start, .bool r.fin, .slice bo r.before.length bc, .slice so r.source.length sc, .slice ao r.after.length ac, .slice ta r.target.length tc, .int .i64 r.cursor] 54)).alloc (.cells #[.string ⟨#[]⟩, .slice none 0 0] 50)) = .ok (.slice (some ⟨X, 0, none⟩) (ps.length + 1) cap) wq) := by
    rw [← hs1, ← hw2]; exact fun ty => hrunP
  obtain ⟨init, hinit⟩ : ∃ init, init = ps := ⟨_, rfl⟩
  obtain ⟨rvi, hrvi⟩ : ∃ rvi, rvi = rvs := ⟨_, rfl⟩
  obtain ⟨rv, hrv⟩ : ∃ rv : Value, rv = .slice none 0 0 := ⟨_, rfl⟩
  obtain ⟨p, hp⟩ : ∃ p : V.Pass, p = ⟨⟨#[]⟩, []⟩ := ⟨_, rfl⟩
  have hrl : p.rules.length ≤ 1000 := by rw [hp]; simp
  have HFin : Hid (init ++ [⟨p.name, p.rules ++ [r]⟩] = ps ++ [⟨⟨#[]⟩, [r]⟩]) := by show _ = _; rw [hinit, hp]; rfl
  have hli : rvi.length = init.length := by rw [hrvi, hinit]; exact h.len
  have hil' : init.length ≤ 1000 := by rw [hinit]; exact hil
  rw [← hrv, ← hp, ← hinit, ← hrvi] at PQ
  rw [← hinit] at HRP
  obtain ⟨d0, d1⟩ := PQ.cells hli
  have hal : Below wq.heap.size wq (wq.alloc (.cells #[.bool r.start, .bool r.fin, .slice bo r.before.length bc, .slice so r.source.length sc, .slice ao r.after.length ac, .slice ta r.target.length tc, .int .i64 r.cursor] 54)).drew := ((Below.refl _ wq).alloc (Nat.le_refl _) _).drew
  have PA := PQ.below hal
  have hnew : (wq.alloc (.cells #[.bool r.start, .bool r.fin, .slice bo r.before.length bc, .slice so r.source.length sc, .slice ao r.after.length ac, .slice ta r.target.length tc, .int .i64 r.cursor] 54)).drew.heap[wq.heap.size]? = some (.cells #[.bool r.start, .bool r.fin, .slice bo r.before.length bc, .slice so r.source.length sc, .slice ao r.after.length ac, .slice ta r.target.length tc, .int .i64 r.cursor] 54) := heap_alloc_new wq _
  obtain ⟨rv', W1, hrun, ⟨g', c', hrv'⟩, e1, f1, gr1, tops', PF, hBF, hMF⟩ := PA.put hli r [.bool r.start, .bool r.fin, .slice bo r.before.length bc, .slice so r.source.length sc, .slice ao r.after.length ac, .slice ta r.target.length tc, .int .i64 r.cursor] ⟨rfl, fun u hu => by simp at hu; rcases hu with rfl | rfl | rfl | rfl | rfl | rfl | rfl <;> rfl⟩ (LQ.step hal.size (fun b hb _ => hal.block b hb) fun k hk => .inl hk) wq.heap.size (fun q u hq => K.at_box hnew (by simpa using hq)) (Nat.le_trans hFq hal.size) hrl
  obtain ⟨⟨y0, y1, y2, y3, y4, y5, y6⟩, _⟩ := V.cells7 hbox
  have HF : Hid (V.PS F tops' (W1.setCell ⟨X, init.length * 2 + 1, none⟩ rv') (.slice (some ⟨X, 0, none⟩) (init.length + 1) cap) (init ++ [⟨p.name, p.rules ++ [r]⟩]) (rvi ++ [rv']) ∧ Below F w (W1.setCell ⟨X, init.length * 2 + 1, none⟩ rv') ∧ V.Moves tops w tops' (W1.setCell ⟨X, init.length * 2 + 1, none⟩ rv')) := ⟨PF, (hBq.trans (hal.mono hFq)).trans hBF, (hMq.trans (V.Moves.of_below hal)).trans hMF⟩
  subst hrv'
  have lbq := (Array.getElem?_eq_some_iff.1 hbox).1
  have lbX := L.block_lt d1
  have hj0 : (0 : Int) ≤ init.length := by omega
  have hj1 : (init.length : Int) < init.length + 1 := by omega
  have hjw : IntKind.i64.wrap ((init.length : Int) + 1 - 1) = init.length := by rw [IntKind.wrap_i64]; omega
  clear PQ PA hal hnew LQ PF hBF hMF hMq hbox d0 gr1
  clear h hL hb1 hbox1 hb2 hnp P2 ownP grP hvP hkq hntop hmq hvp' hrunP hw2' hw2 hw1
  rw [← hinit] at hil
  clear hp hrv hinit hrvi
  have HR : Hid (∀ ty, (Builtin.append_ #[48, 48] ty #[rv, .slice (some ⟨wq.heap.size, 0, none⟩) 1 1]).run Tryz.prog (wq.alloc (.cells #[.bool r.start, .bool r.fin, .slice bo r.before.length bc, .slice so r.source.length sc, .slice ao r.after.length ac, .slice ta r.target.length tc, .int .i64 r.cursor] 54)).drew = .ok (.slice (some ⟨g', 0, none⟩) (p.rules.length + 1) c') W1) := hrun
  clear hrun hs1 hw2s
  go_enter Tryz.func40, Tryz.ntmps40
  go_wp2_with (at_builtin; first | refine Lib.wpList_append_run _ rfl _ _ _ _ rfl _ _ rfl rfl _ _ (HRP.out _) ?_)
  go_region_law (refine V.step_run (by rfl) (.tmp 32) (.tmp 34) (by rfl) _ _ _ W1 (by rfl) (by rfl) HR.out ?_)
  all_goals
    go_wp2
    go_ret
    exact ⟨⟨_, tops', _, rfl, HFin.out ▸ HF.out.1, HF.out.2.2⟩, HF.out.2.1⟩

end Go.Proofs.YtchkcjaahjhbcabGreatDoor
