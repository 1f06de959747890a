/-
  Rows of texts in memory.
-/
import Derived.Test.YtkkocnkfdepoiaaQApp
import Derived.Test.YtkkocnkfdepoiaaYReachR
import Derived.Test.YtkkocnkfdepoiaaMSets
import Derived.Test.YtkkocnkfdepoiaaPrRef
namespace Go.Proofs.Ytkkocnkfdepoiaa
open Go.RowKit
theorem Try.infoTxt : (Try.prog.info? 28).map (fun i => (i.zero, i.size, i.bytes)) = some (some (.slice none 0 0), 1, 24) := by kernel_rfl
namespace Ws
/-- a row of texts of the call's own -/
def Own (F : Nat) (w : World) (v : Value) (ts : List (List Int)) : Prop :=
  ∃ ps : List (List Int × Value), ps.map (·.1) = ts ∧ w.ownsRow F 28 1 v ts.length (ps.map (·.2)) ∧ ∀ p ∈ ps, w.ownsRow F 21 1 p.2 p.1.length (K.ints p.1)
theorem Own.nil (F : Nat) (w : World) : Own F w (.slice none 0 0) [] := ⟨[], rfl, World.ownsRow_nil _ _ _ _, fun p hp => by cases hp⟩
theorem Own.len {F : Nat} {w : World} {v : Value} {ts : List (List Int)} (h : Own F w v ts) : ∃ ao cap, v = .slice ao ts.length cap := by
  obtain ⟨ps, _, h2, _⟩ := h
  rcases h2.2 with ⟨hv, h0⟩ | ⟨g, cap, cur, hv, _⟩
  · exact ⟨none, 0, by rw [hv, h0]⟩
  · exact ⟨_, cap, hv⟩
theorem kept1 {F : Nat} {e : TypeId} {k : Nat} {w w' : World} {v : Value} {n : Nat} {xs : List Value} (h : w.ownsRow F e k v n xs) (hb : ∀ g, v.ownBlock = some g → w'.heap[g]? = w.heap[g]?) : w'.ownsRow F e k v n xs := by
  obtain ⟨h1, h2⟩ := h
  refine ⟨h1, ?_⟩
  rcases h2 with h2 | ⟨g, cap, cur, hv, hg, hx, r⟩
  · exact .inl h2
  · exact .inr ⟨g, cap, cur, hv, hg, by rw [hb g (by rw [hv]; rfl)]; exact hx, r⟩
theorem Own.kept {F : Nat} {w w' : World} {v : Value} {ts : List (List Int)} (h : Own F w v ts) (hb : ∀ g, F ≤ g → g < w.heap.size → w'.heap[g]? = w.heap[g]?) : Own F w' v ts := by
  obtain ⟨ps, h1, h2, h3⟩ := h
  exact ⟨ps, h1, kept1 h2 fun g hg => hb g (h2.lt g hg).1 (h2.lt g hg).2, fun p hp => kept1 (h3 p hp) fun g hg => hb g ((h3 p hp).lt g hg).1 ((h3 p hp).lt g hg).2⟩
theorem one_cell {F : Nat} {e : TypeId} {k : Nat} {w : World} {v : Value} {n : Nat} {xs : List Value} (h : w.ownsRow F e k v n xs) : v.oneCell' = true := by
  obtain ⟨_, ⟨rfl, _⟩ | ⟨g, cap, cur, rfl, _⟩⟩ := h <;> rfl
theorem one_new (W : World) (r : Value) : ∀ j u, ([r] : List Value)[j]? = some u → (W.alloc (.cells #[r] 28)).cell? ((⟨W.heap.size, 0, none⟩ : Addr).add j) = some u := by
  intro j u hj
  have e : (W.alloc (.cells #[r] 28)).heap[W.heap.size]? = some (.cells #[r] 28) := heap_alloc_new W _
  rw [L.addr_add, Nat.zero_add]
  match j, hj with
  | 0, hj => exact K.at_box e (by simpa using hj)
  | n + 1, hj => simp at hj
theorem box_ne {F : Nat} {e : TypeId} {k : Nat} {w : World} {v : Value} {n : Nat} {xs : List Value} {b : Nat} {c : Array Value} {ty : TypeId} (h : w.ownsRow F e k v n xs) (hb : w.heap[b]? = some (.cells c ty)) (hne : ty ≠ e) : ∀ g, v.ownBlock = some g → g ≠ b := by
  intro g hg eq
  subst eq
  rcases h.2 with ⟨hv, _⟩ | ⟨g', cap, cur, hv, _, hx, _⟩
  · rw [hv] at hg; cases hg
  · rw [hv] at hg
    have e2 : g' = g := by simpa [Value.ownBlock] using hg
    rw [e2] at hx
    have := hx.symm.trans hb
    simp at this
    exact hne this.2.symm
theorem own_ne2 {F F' : Nat} {e e' : TypeId} {k k' : Nat} {w : World} {v v' : Value} {n n' : Nat} {xs xs' : List Value} (h : w.ownsRow F e k v n xs) (h' : w.ownsRow F' e' k' v' n' xs') (hne : e' ≠ e) : ∀ g, v.ownBlock = some g → v'.ownBlock ≠ some g := by
  intro g hg hg'
  rcases h'.2 with ⟨hv, _⟩ | ⟨g', cap, cur, hv, _, hx, _⟩
  · rw [hv] at hg'; cases hg'
  · rw [hv] at hg'
    have e2 : g' = g := by simpa [Value.ownBlock] using hg'
    rw [e2] at hx
    exact box_ne h hx hne g hg rfl
/-- one text more; the row's own block alone is changed -/
theorem push_ps {F : Nat} {w : World} {v : Value} {ps : List (List Int × Value)} (h2 : w.ownsRow F 28 1 v ps.length (ps.map (·.2))) (hF : F ≤ w.heap.size) (hl : ps.length ≤ 2000000) (t : List Int) (r : Value) (hr : w.ownsRow F 21 1 r t.length (K.ints t)) :
    ∃ v' w', (∀ ty, (Builtin.append_ #[50, 50] ty #[v, .slice (some ⟨w.heap.size, 0, none⟩) 1 1]).run Try.prog (w.alloc (.cells #[r] 28)) = .ok v' w') ∧ w'.ownsRow F 28 1 v' (ps ++ [(t, r)]).length ((ps ++ [(t, r)]).map (·.2)) ∧ (w.alloc (.cells #[r] 28)).grownBy w' v.ownBlock ∧ ∀ (v2 : Value) (n2 : Nat) (xs : List Value), w.ownsRow F 21 1 v2 n2 xs → w'.ownsRow F 21 1 v2 n2 xs := by
  obtain ⟨i0, hi, hz0, hz1, hz2⟩ := info_parts Try.infoTxt
  obtain ⟨v', w', hrun, own, gr, _⟩ := run_append_own (P := Try.prog) (w.alloc (.cells #[r] 28)) F 50 0 28 i0 _ 1 24 Try.underlying50 hi hz0 hz1 hz2 rfl (by decide) v ps.length (ps.map (·.2)) (h2.alloc _) ⟨w.heap.size, 0, none⟩ 1 1 [r] rfl (one_new w r)
    (fun u hu => by simp at hu; subst hu; exact one_cell hr) (by unfold maxLen; omega) (by omega) (by simp; omega)
  refine ⟨v', w', fun ty => hrun, ?_, gr, fun v2 n2 xs h => L.push_other h2 h (by decide) gr⟩
  rw [List.map_append, List.length_append]
  exact own
/-- texts that are read -/
def Rd (w : World) (v : Value) (ts : List (List Int)) : Prop :=
  ∃ ao cap, v = .slice ao ts.length cap ∧ (ao = none → cap = 0) ∧ (ts ≠ [] → ∃ b off, ao = some ⟨b, off, none⟩ ∧ ∀ j t, ts[j]? = some t → ∃ u, w.cell? ⟨b, off + j, none⟩ = some u ∧ L.Rd w u .i32 t)
theorem Rd.below {w w' : World} {v : Value} {ts : List (List Int)} (h : Rd w v ts) (hb : Below w.heap.size w w') : Rd w' v ts := by
  obtain ⟨ao, cap, hv, hn, hc⟩ := h
  refine ⟨ao, cap, hv, hn, fun hne => ?_⟩
  obtain ⟨b, off, e, hcell⟩ := hc hne
  refine ⟨b, off, e, fun j t hj => ?_⟩
  obtain ⟨u, h1, h2⟩ := hcell j t hj
  exact ⟨u, by rw [hb.cell (p := ⟨b, off + j, none⟩) (L.block_lt h1)]; exact h1, h2.below hb (Nat.le_refl _)⟩
theorem Own.rd {F : Nat} {w : World} {v : Value} {ts : List (List Int)} (h : Own F w v ts) : Rd w v ts := by
  obtain ⟨ps, h1, h2, h3⟩ := h
  rcases h2.2 with ⟨hv, h0⟩ | ⟨g, cap, cur, hv, hg, hx, hle, hmax, hsz, htk⟩
  · have : ts = [] := List.eq_nil_of_length_eq_zero h0
    subst this
    exact ⟨none, 0, hv, fun _ => rfl, fun h => absurd rfl h⟩
  · refine ⟨_, cap, hv, fun e => by (cases e), fun _ => ⟨g, 0, rfl, fun j t hj => ?_⟩⟩
    rw [← h1, List.getElem?_map] at hj
    cases hp : ps[j]? with
    | none => rw [hp] at hj; simp at hj
    | some p =>
      rw [hp] at hj
      simp at hj
      subst hj
      have hlt := (List.getElem?_eq_some_iff.1 hp).1
      have hjl : j < ts.length := by rw [← h1]; simpa using hlt
      refine ⟨p.2, ?_, L.Rd.of_owns (h3 p (List.mem_of_getElem? hp))⟩
      have e : cur.toList[j]? = some p.2 := by
        have : (cur.toList.take (ts.length * 1))[j]? = some p.2 := by rw [htk, List.getElem?_map, hp]; rfl
        rw [List.getElem?_take] at this
        split at this
        · exact this
        · cases this
      exact K.at_box hx (by simpa using e)
end Ws
end Go.Proofs.Ytkkocnkfdepoiaa

/-
  A row of texts, some of them the caller's: and what is asked of images, pair by pair.
-/
namespace Go.Proofs.Ytkkocnkfdepoiaa
open Go.RowKit Go.Shelf
set_option maxRecDepth 20000
set_option linter.unusedSimpArgs false
set_option linter.unusedVariables false

namespace Pr
def Tos (F : Nat) (w : World) (v : Value) (ts : List (List Int)) : Prop :=
  ∃ ps : List (List Int × Value), ps.map (·.1) = ts ∧ w.ownsRow F 28 1 v ts.length (ps.map (·.2)) ∧ ∀ p ∈ ps, L.Rd w p.2 .i32 p.1 ∧ Apart F w p.2 p.1
theorem Tos.nil (F : Nat) (w : World) : Tos F w (.slice none 0 0) [] := ⟨[], rfl, World.ownsRow_nil _ _ _ _, fun p hp => by cases hp⟩
theorem Tos.len {F : Nat} {w : World} {v : Value} {ts : List (List Int)} (h : Tos F w v ts) : ∃ ao cap, v = .slice ao ts.length cap := by
  obtain ⟨ps, _, h2, _⟩ := h
  rcases h2.2 with ⟨hv, h0⟩ | ⟨g, cap, cur, hv, _⟩
  · exact ⟨none, 0, by rw [hv, h0]⟩
  · exact ⟨_, cap, hv⟩
theorem Apart.below {F : Nat} {w w' : World} {v : Value} {t : List Int} (h : Apart F w v t) (hb : Below w.heap.size w w') : Apart F w' v t := fun hz g hg => by
  rcases h hz g hg with h1 | ⟨c, h1⟩
  · exact .inl h1
  · exact .inr ⟨c, K.blk_below h1 hb⟩
theorem Tos.below {F : Nat} {w w' : World} {v : Value} {ts : List (List Int)} (h : Tos F w v ts) (hb : Below w.heap.size w w') : Tos F w' v ts := by
  obtain ⟨ps, h1, h2, h3⟩ := h
  exact ⟨ps, h1, L.owns_below h2 hb (Nat.le_refl _), fun p hp => ⟨(h3 p hp).1.below hb (Nat.le_refl _), (h3 p hp).2.below hb⟩⟩
theorem rd_one {w : World} {v : Value} {t : List Int} (h : L.Rd w v .i32 t) : v.oneCell' = true := by
  obtain ⟨a, c, rfl, _⟩ := h; rfl
/-- one text more -/
theorem Tos.push {F : Nat} {w : World} {v : Value} {ts : List (List Int)} (h : Tos F w v ts) (hF : F ≤ w.heap.size) (hl : ts.length ≤ 2000000) (t : List Int) (r : Value) (hr : L.Rd w r .i32 t) (ha : Apart F w r t) :
    ∃ ao' c' w', (∀ ty, (Builtin.append_ #[50, 50] ty #[v, .slice (some ⟨w.heap.size, 0, none⟩) 1 1]).run Try.prog (w.alloc (.cells #[r] 28)) = .ok (.slice ao' (ts.length + 1) c') w') ∧ Tos F w' (.slice ao' (ts.length + 1) c') (ts ++ [t]) ∧ Below F w w' ∧ ∀ u z, L.Rd w u .i32 z → Apart F w u z → L.Rd w' u .i32 z ∧ Apart F w' u z := by
  obtain ⟨ps, h1, h2, h3⟩ := h
  have hlp : ps.length = ts.length := by rw [← h1]; simp
  obtain ⟨i0, hi, hz0, hz1, hz2⟩ := info_parts Try.infoTxt
  obtain ⟨v', w', hrun, own, gr, _⟩ := run_append_own (P := Try.prog) (w.alloc (.cells #[r] 28)) F 50 0 28 i0 _ 1 24 Try.underlying50 hi hz0 hz1 hz2 rfl (by decide) v ts.length (ps.map (·.2)) (h2.alloc _) ⟨w.heap.size, 0, none⟩ 1 1 [r] rfl (Ws.one_new w r)
    (fun u hu => by simp at hu; subst hu; exact rd_one hr) (by unfold maxLen; omega) (by omega) (by simp; omega)
  obtain ⟨ao', c', rfl⟩ : ∃ a c, v' = .slice a (ts.length + 1) c := by
    rcases own.2 with ⟨hv, h0⟩ | ⟨g, cap, cur, hv, _⟩
    · omega
    · exact ⟨_, cap, hv⟩
  have hal : Below w.heap.size w (w.alloc (.cells #[r] 28)) := (Below.refl _ w).alloc (Nat.le_refl _) _
  have keep : ∀ u z, L.Rd w u .i32 z → Apart F w u z → L.Rd w' u .i32 z ∧ Apart F w' u z := fun u z hu hz => by
    have hu1 := hu.below hal (Nat.le_refl _)
    have hz1 := hz.below hal
    have hbk : z ≠ [] → ∀ k, u.ownBlock = some k → w'.heap[k]? = (w.alloc (.cells #[r] 28)).heap[k]? := fun hne k hk => by
      have hkl : k < (w.alloc (.cells #[r] 28)).heap.size := by
        obtain ⟨a, c, rfl, _, hc⟩ := hu1
        obtain ⟨b, o, rfl, hc'⟩ := hc hne
        cases hk
        obtain ⟨x, xs, hx⟩ := List.exists_cons_of_ne_nil hne
        exact L.block_lt (hc' 0 x (by rw [hx]; rfl))
      refine gr.block k hkl fun e => ?_
      rcases hz1 hne k hk with h4 | ⟨c, h4⟩
      · have := (h2.lt k e.symm).1; omega
      · exact Ws.box_ne (h2.alloc _) h4 (by decide) k e.symm rfl
    refine ⟨K.rd_block hu1 hbk, fun hne k hk => ?_⟩
    rcases hz1 hne k hk with h4 | ⟨c, h4⟩
    · exact .inl h4
    · exact .inr ⟨c, by rw [hbk hne k hk]; exact h4⟩
  refine ⟨ao', c', w', fun ty => hrun, ⟨ps ++ [(t, r)], by simp [h1], ?_, fun p hp => ?_⟩, (hal.mono hF).grown gr (by simp; omega) (fun k hk => (h2.lt k hk).1), keep⟩
  · rw [List.map_append, List.length_append]
    exact own
  · rcases List.mem_append.1 hp with hp | hp
    · exact keep _ _ (h3 p hp).1 (h3 p hp).2
    · simp at hp; subst hp; exact keep _ _ hr ha
theorem Tos.rd {F : Nat} {w : World} {v : Value} {ts : List (List Int)} (h : Tos F w v ts) : Ws.Rd w v ts := by
  obtain ⟨ps, h1, h2, h3⟩ := h
  rcases h2.2 with ⟨hv, h0⟩ | ⟨g, cap, cur, hv, hg, hx, hle, hmax, hsz, htk⟩
  · have : ts = [] := List.eq_nil_of_length_eq_zero h0
    subst this
    exact ⟨none, 0, hv, fun _ => rfl, fun h => absurd rfl h⟩
  · refine ⟨_, cap, hv, fun e => by (cases e), fun _ => ⟨g, 0, rfl, fun j t hj => ?_⟩⟩
    rw [← h1, List.getElem?_map] at hj
    cases hp : ps[j]? with
    | none => rw [hp] at hj; simp at hj
    | some p =>
      rw [hp] at hj
      simp at hj
      subst hj
      have hlt := (List.getElem?_eq_some_iff.1 hp).1
      refine ⟨p.2, ?_, (h3 p (List.mem_of_getElem? hp)).1⟩
      have e : cur.toList[j]? = some p.2 := by
        have : (cur.toList.take (ts.length * 1))[j]? = some p.2 := by rw [htk, List.getElem?_map, hp]; rfl
        rw [List.getElem?_take] at this
        split at this
        · exact this
        · cases this
      exact K.at_box hx (by simpa using e)
theorem Apart.mono {F G : Nat} {w : World} {v : Value} {t : List Int} (h : Apart F w v t) (hf : F ≤ G) : Apart G w v t := fun hz g hg => by
  rcases h hz g hg with h1 | h1
  · exact .inl (by omega)
  · exact .inr h1
/-- a text of elder memory -/
theorem Apart.old {F : Nat} {w w' : World} {v : Value} {t : List Int} (h : L.Rd w v .i32 t) (hf : w.heap.size ≤ F) : Apart F w' v t := fun hz g hg => .inl (by
  obtain ⟨a, c, rfl, _, hc⟩ := h
  obtain ⟨b, o, rfl, hc'⟩ := hc hz
  cases hg
  obtain ⟨x, xs, hx⟩ := List.exists_cons_of_ne_nil hz
  have h1 : b < w.heap.size := L.block_lt (hc' 0 x (by rw [hx]; rfl))
  show b < F
  omega)
/-- one of them -/
theorem rd_at {w : World} {ao : Option Addr} {n c : Nat} {ts : List (List Int)} (h : Ws.Rd w (.slice ao n c) ts) {j : Nat} {t : List Int} (hj : ts[j]? = some t) : ∃ b off to tc, ao = some ⟨b, off, none⟩ ∧ w.cell? ⟨b, off + j, none⟩ = some (.slice to t.length tc) ∧ L.Rd w (.slice to t.length tc) .i32 t := by
  obtain ⟨ao', cap', e, _, hc⟩ := h
  cases e
  obtain ⟨b, off, rfl, hcell⟩ := hc (by intro h; rw [h] at hj; simp at hj)
  obtain ⟨u, h1, h2⟩ := hcell j t hj
  obtain ⟨a, cc, rfl⟩ : ∃ a c, u = .slice a t.length c := by obtain ⟨a, c, h, _⟩ := h2; exact ⟨a, c, h⟩
  exact ⟨b, off, a, cc, rfl, h1, h2⟩

/-! what is asked, as the document asks it -/
theorem which_one {forth : List K.Rule} (hP : plainB forth = true) (hE : ∀ r ∈ forth, K.ruleE r = 0) (u : Int) : K.which forth [u] 0 = firstI (hitB u) forth := by
  rw [which_first]
  refine firstN_congr (fun r hr => ?_) 0
  obtain ⟨_, q1, q2, q3, q4⟩ := plain_rule hP hr
  exact match_one q1 q2 q3 q4 (K.ruleE_zero (hE r hr)).2.2.2.1 u
theorem no_plain1 {forth back : List K.Rule} {dom : List Int} (h : plainB forth = false) : undoesB forth back dom = false := by unfold undoesB; rw [h]; simp
theorem no_plain2 {forth back : List K.Rule} {dom : List Int} (h : plainB back = false) : undoesB forth back dom = false := by unfold undoesB; rw [h]; simp
theorem no_broad {forth back : List K.Rule} {dom : List Int} {r : K.Rule} (hr : r ∈ forth) (h : broadB dom r = true) : undoesB forth back dom = false := by
  have : oneByOneB forth dom = false := by
    unfold oneByOneB
    rw [List.any_eq_true.2 ⟨r, hr, h⟩]; rfl
  unfold undoesB; rw [this]; simp
theorem no_empty {forth back : List K.Rule} {dom : List Int} {u : Int} (hu : u ∈ dom) (h : (made forth u).length = 0) : undoesB forth back dom = false := by
  cases hq : undoesB forth back dom with
  | false => rfl
  | true => have := (long_at (undoes_parts hq).2.2.2.1 hu).1; omega
theorem no_alone {forth back : List K.Rule} {dom : List Int} {u : Int} (hu : u ∈ dom) (h : comesB back (u, made forth u) [] = false) : undoesB forth back dom = false := by
  cases hq : undoesB forth back dom with
  | false => rfl
  | true => have := (all_at (undoes_parts hq).2.2.2.2 hu).1; rw [h] at this; cases this
theorem no_short {forth back : List K.Rule} {dom : List Int} {u v : Int} (hu : u ∈ dom) (hv : v ∈ dom) (h : (made forth u).length + (made forth v).length < K.ahead back) : undoesB forth back dom = false := by
  cases hq : undoesB forth back dom with
  | false => rfl
  | true =>
    have h1 := (long_at (undoes_parts hq).2.2.2.1 hu).2
    have h2 := (long_at (undoes_parts hq).2.2.2.1 hv).2
    omega
theorem no_pair {forth back : List K.Rule} {dom : List Int} {u v : Int} (hu : u ∈ dom) (hv : v ∈ dom) (h : comesB back (u, made forth u) (made forth v) = false) : undoesB forth back dom = false := by
  cases hq : undoesB forth back dom with
  | false => rfl
  | true => have := (all_at (undoes_parts hq).2.2.2.2 hu).2 v hv; rw [h] at this; cases this
theorem yes_all {forth back : List K.Rule} {dom : List Int} (h1 : plainB forth = true) (h2 : plainB back = true) (h3 : ∀ r ∈ forth, broadB dom r = false) (h4 : ∀ u ∈ dom, 0 < (made forth u).length)
    (h5 : ∀ u ∈ dom, comesB back (u, made forth u) [] = true ∧ ∀ v ∈ dom, K.ahead back ≤ (made forth u).length + (made forth v).length ∧ comesB back (u, made forth u) (made forth v) = true) : undoesB forth back dom = true := by
  have e3 : oneByOneB forth dom = true := by
    unfold oneByOneB
    rw [List.any_eq_false.2 fun r hr => by rw [h3 r hr]; decide]; rfl
  have e4 : longB (images forth dom) back = true := by
    unfold longB
    rw [List.any_eq_false.2 fun m hm => ?_]; rfl
    obtain ⟨u, hu, rfl⟩ := List.mem_map.1 hm
    have a := h4 u hu
    have b := ((h5 u hu).2 u hu).1
    unfold shortB
    simp only [Bool.or_eq_true, decide_eq_true_eq, not_or]
    omega
  have e5 : allB (images forth dom) back = true := by
    unfold allB
    rw [List.any_eq_false.2 fun m hm => ?_]; rfl
    obtain ⟨u, hu, rfl⟩ := List.mem_map.1 hm
    unfold lostB
    have a := (h5 u hu).1
    have b : ((images forth dom).any fun n => !(comesB back (u, made forth u) n.2)) = false := List.any_eq_false.2 fun n hn => by
      obtain ⟨v, hv, rfl⟩ := List.mem_map.1 hn
      rw [((h5 u hu).2 v hv).2]; decide
    rw [a, b]; decide
  unfold undoesB
  rw [h1, h2, e3, e4, e5]; rfl
end Pr

end Go.Proofs.Ytkkocnkfdepoiaa
