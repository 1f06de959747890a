/-
  Heads in memory, read.
-/
import Derived.Test.YtlmmjefplbcapaaGreatJMath
import Derived.Deep.QuietTactic
import Derived.BigQuiet
import Derived.Test.YtlmmjefplbcapaaGreatZLess
import Derived.Deep.RegionHeld3
import Derived.Deep.Cut
import Derived.Deep.DeepCutAuto
namespace Go.Proofs.YtlmmjefplbcapaaGreat
open Go.RowKit Go.Shelf
set_option maxRecDepth 20000
set_option linter.unusedSimpArgs false
set_option linter.unusedVariables false
namespace J
theorem cells_at {ps : List (Hd × Value)} {k : Nat} {p : Hd × Value} (h : ps[k]? = some p) : (cells ps)[k * 3]? = some (.int .i32 p.1.1) ∧ (cells ps)[k * 3 + 1]? = some (.int .i32 p.1.2.1) ∧ (cells ps)[k * 3 + 2]? = some p.2 := by
  induction ps generalizing k with
  | nil => simp at h
  | cons x ps ih =>
    have e : cells (x :: ps) = .int .i32 x.1.1 :: .int .i32 x.1.2.1 :: x.2 :: cells ps := rfl
    cases k with
    | zero => simp at h; subst h; simp [e]
    | succ k =>
      have := ih (k := k) (by simpa using h)
      rw [e, show (k + 1) * 3 = k * 3 + 3 by omega]
      exact this
theorem Own.len {F : Nat} {w : World} {v : Value} {hs : List Hd} (h : Own F w v hs) : ∃ ao cap, v = .slice ao hs.length cap := by
  obtain ⟨ps, _, ⟨_, ⟨rfl, h0⟩ | ⟨g, k, cur, rfl, _⟩⟩, _⟩ := h
  · exact ⟨none, 0, by rw [h0]⟩
  · exact ⟨_, _, rfl⟩
/-- what reads as heads -/
def Rd (w : World) (v : Value) (hs : List Hd) : Prop :=
  ∃ ao cap, v = .slice ao hs.length cap ∧ (hs ≠ [] → ∃ X off, ao = some ⟨X, off, none⟩ ∧ ∀ (k : Nat) p, hs[k]? = some p → w.cell? ⟨X, off + k * 3, none⟩ = some (.int .i32 p.1) ∧ w.cell? ⟨X, off + k * 3 + 1, none⟩ = some (.int .i32 p.2.1) ∧
    ∃ ro rc, w.cell? ⟨X, off + k * 3 + 2, none⟩ = some (.slice ro p.2.2.length rc) ∧ L.Rd w (.slice ro p.2.2.length rc) .i64 p.2.2)
theorem Own.rd {F : Nat} {w : World} {v : Value} {hs : List Hd} (h : Own F w v hs) : Rd w v hs := by
  obtain ⟨ps, h1, ⟨hl, hor⟩, h3⟩ := h
  rcases hor with ⟨rfl, h0⟩ | ⟨g, cap, cur, rfl, hb, hx, hn, hm, hs', ht⟩
  · refine ⟨none, 0, by rw [h0], fun hne => absurd (List.length_eq_zero_iff.1 h0) hne⟩
  · refine ⟨_, cap, rfl, fun _ => ⟨g, 0, rfl, fun k p hk => ?_⟩⟩
    rw [← h1, List.getElem?_map] at hk
    cases hp : ps[k]? with
    | none => rw [hp] at hk; simp at hk
    | some q =>
      rw [hp] at hk
      simp at hk
      subst hk
      obtain ⟨c0, c1, c2⟩ := cells_at hp
      have hkl : k < hs.length := by rw [← h1, List.length_map]; exact (List.getElem?_eq_some_iff.1 hp).1
      have cell : ∀ j u, (cells ps)[j]? = some u → w.cell? ⟨g, j, none⟩ = some u := fun j u hj => by
        have hj' := (List.getElem?_eq_some_iff.1 hj).1
        rw [hl] at hj'
        refine K.at_box hx ?_
        rw [← ht, List.getElem?_take_of_lt hj', Array.getElem?_toList] at hj
        exact hj
      have hr := L.Rd.of_owns (h3 q (List.mem_of_getElem? hp))
      obtain ⟨ro, rc, he, _⟩ := id hr
      rw [Nat.zero_add]
      exact ⟨cell _ _ c0, cell _ _ c1, ro, rc, by rw [← he]; exact cell _ _ c2, by rw [← he]; exact hr⟩
theorem Rd.below {w w' : World} {v : Value} {hs : List Hd} (h : Rd w v hs) (hb : Below w.heap.size w w') : Rd w' v hs := by
  obtain ⟨ao, cap, h1, h2⟩ := h
  have lift : ∀ b o x, w.cell? ⟨b, o, none⟩ = some x → w'.cell? ⟨b, o, none⟩ = some x := fun b o x h => by rw [(L.bcell hb).1 b o (L.block_lt h)]; exact h
  refine ⟨ao, cap, h1, fun hne => ?_⟩
  obtain ⟨X, off, h3, h4⟩ := h2 hne
  refine ⟨X, off, h3, fun k p hk => ?_⟩
  obtain ⟨c0, c1, ro, rc, c2, hr⟩ := h4 k p hk
  exact ⟨lift _ _ _ c0, lift _ _ _ c1, ro, rc, lift _ _ _ c2, hr.below hb (Nat.le_refl _)⟩
theorem Rd.at {w : World} {ao : Option Addr} {n cap : Nat} {hs : List Hd} (h : Rd w (.slice ao n cap) hs) {k : Nat} {p : Hd} (hk : hs[k]? = some p) :
    ∃ X off ro rc, ao = some ⟨X, off, none⟩ ∧ w.cell? ⟨X, off + k * 3, none⟩ = some (.int .i32 p.1) ∧ w.cell? ⟨X, off + k * 3 + 1, none⟩ = some (.int .i32 p.2.1) ∧ w.cell? ⟨X, off + k * 3 + 2, none⟩ = some (.slice ro p.2.2.length rc) ∧ L.Rd w (.slice ro p.2.2.length rc) .i64 p.2.2 := by
  obtain ⟨ao', cap', h1, h2⟩ := h
  cases h1
  obtain ⟨X, off, h3, h4⟩ := h2 (by intro h; subst h; simp at hk)
  obtain ⟨c0, c1, ro, rc, c2, hr⟩ := h4 k p hk
  exact ⟨X, off, ro, rc, h3, c0, c1, c2, hr⟩
theorem heads_at {f : Int → List Int} {c : List Int} {n k : Nat} (hk : k < n) : (heads f c n)[k]? = some (headAt f c k) := by simp [heads, hk]

theorem cuts_unique {l : List K.Rule} {c d : List Int} (h : Cuts l c) (h' : Cuts l d) : c = d := by
  have hp : c.Perm d := by
    rw [List.perm_ext_iff_of_nodup (h.1.imp fun hh => by omega) (h'.1.imp fun hh => by omega)]
    intro a
    rw [h.2, h'.2]
  exact hp.eq_of_pairwise (fun a b _ _ h1 h2 => by omega) h.1 h'.1
/-- the rule of the closed fact -/
def aRule : K.Rule := ⟨false, false, [], [[(97, 98)]], [], [], 0⟩
theorem aRule_comp {o : List Hd × Int × Int} (h : Comp [aRule] o) : o = ([(0, 96, []), (97, 98, [0]), (99, 1114111, [])], 0, 0) := by
  have h0 : K.rulesF [aRule] = (0, 0) := by decide +kernel
  rcases h with ⟨h1, _⟩ | ⟨_, c, hc, _, hor⟩
  · rw [h0] at h1; exact absurd rfl h1
  · have hd : Cuts [aRule] [0, 97, 99, 1114112] := ⟨by simp, fun y => by simp [edgesL, ends, K.headS, aRule]; omega⟩
    have := cuts_unique hc hd
    subst this
    rcases hor with ⟨h2, _⟩ | ⟨_, h2⟩
    · simp at h2
    · rw [h2]
      decide +kernel
end J

theorem J.Comp.heads {l : List K.Rule} {o : List J.Hd × Int × Int} (h : J.Comp l o) (h0 : o.2.1 = 0) : (∀ r ∈ l, K.ruleE r = 0) ∧ o.2.2 = 0 ∧ ∃ c, J.Cuts l c ∧ 2 ≤ c.length ∧ c.length - 1 ≤ 400 ∧ o.1 = J.heads (J.begins l) c (c.length - 1) := by
  rcases h with ⟨h1, rfl⟩ | ⟨h1, c, hc, h2, ⟨_, rfl⟩ | ⟨h3, rfl⟩⟩
  · exact absurd h0 h1
  · simp at h0
  · exact ⟨(K.rulesF_zero h1).2.1, rfl, c, hc, h2, h3, rfl⟩

theorem J.comp_unique {l : List K.Rule} {o o' : List J.Hd × Int × Int} (h : J.Comp l o) (h' : J.Comp l o') : o = o' := by
  rcases h with ⟨h1, rfl⟩ | ⟨h1, c, hc, _, hor⟩
  · rcases h' with ⟨_, rfl⟩ | ⟨h2, _⟩
    · rfl
    · exact absurd h2 h1
  · rcases h' with ⟨h2, _⟩ | ⟨_, d, hd, _, hor'⟩
    · exact absurd h1 h2
    · have := J.cuts_unique hc hd
      subst this
      rcases hor with ⟨h2, rfl⟩ | ⟨h2, rfl⟩ <;> rcases hor' with ⟨h3, rfl⟩ | ⟨h3, rfl⟩
      · rfl
      · omega
      · omega
      · rfl

end Go.Proofs.YtlmmjefplbcapaaGreat

/-
  compile.Find, of heads that Compile told.
-/
namespace Go.Proofs.YtlmmjefplbcapaaGreat
open Go.RowKit Go.Lib Go.Sort
set_option maxRecDepth 20000
set_option linter.unusedSimpArgs false
set_option linter.unusedVariables false

theorem jEmpty (w : World) : (w.alloc (.cells #[] 3)).ownsRow w.heap.size 3 1 (.slice (some ⟨w.heap.size, 0, none⟩) 0 0) 0 [] := by
  refine ⟨rfl, .inr ⟨w.heap.size, 0, #[], rfl, Nat.le_refl _, ?_, Nat.le_refl _, by unfold maxLen; omega, rfl, rfl⟩⟩
  show (w.heap.push _)[w.heap.size]? = _
  exact Array.getElem?_push_size

set_option maxHeartbeats 1000000 in
theorem jClone_any (w : World) (v : Value) (zs : List Int) (R : L.Rd w v .i64 zs) (hl : zs.length ≤ 1000000) :
    Calls Tryz.prog 74 #[v] w fun e w' => ∃ v', e = .returned v' ∧ L.Rd w' v' .i64 zs ∧ Below w.heap.size w w' := by
  have HR : Hid (L.Rd w v .i64 zs) := R
  obtain ⟨i0, hi, hz0, hz1, hz2⟩ := info_parts Tryz.infoIntJ
  obtain ⟨ao, cap, rfl, hn, hc⟩ := R
  have HN : Hid (ao = none → zs = []) := fun h => by
    cases zs with
    | nil => rfl
    | cons z zs => obtain ⟨b, off, h', _⟩ := hc (by simp); rw [h] at h'; cases h'
  have q40 : ∀ (w : World) (a : Option Addr) (n c n' c' : Nat), (binOp .eql 72 (.slice a n c) (.slice none n' c')).run Tryz.prog w = .ok (.bool a.isNone) w := fun w a n c n' c' => Lib.run_eql_slice_nil w _ _ a n c n' c' Tryz.underlying72
  have HA : Hid (Below w.heap.size w (w.alloc (.cells #[] 3))) := (Below.refl _ w).alloc (Nat.le_refl _) _
  clear hc
  cases ao with
  | none =>
    have := HN.out rfl
    subst this
    have := hn rfl
    subst this
    go_enter Tryz.func74, Tryz.ntmps74
    go_wp2
    go_ret
    exact ⟨_, rfl, ⟨none, 0, rfl, fun _ => rfl, fun h => absurd rfl h⟩, Below.refl _ _⟩
  | some ad =>
    go_enter Tryz.func74, Tryz.ntmps74
    go_wp2_with (at_builtin; go_must (refine L.wpList_append_rd rfl _ _ 72 rfl w.heap.size 3 i0 .i64 8 Tryz.underlying72 hi hz0 hz1 hz2 _ _ _ rfl (jEmpty w) _ zs rfl (HR.out.below HA.out (Nat.le_refl _)) (by unfold maxLen; omega) (by omega) (by simp) ?_; intro v' w4 own4 grown4))
    go_ret
    have e : ([] ++ zs.map (Value.int .i64)) = zs.map (Value.int .i64) := by simp
    rw [e, Nat.zero_add] at own4
    exact ⟨v', rfl, L.Rd.of_owns own4, Below.grown HA.out grown4 (by simp) (fun j hj => by cases hj; exact Nat.le_refl _)⟩

set_option maxHeartbeats 1000000 in
theorem jFind1_any (ba bx : Nat) (v : Value) (hs : List J.Hd) (r : Int) (i : Nat) (p : J.Hd) (W : World) (hp : hs[i]? = some p) (R : J.Rd W v hs) (hl : hs.length ≤ 1000)
    (ha : W.cell? ⟨ba, 0, none⟩ = some v) (hr : W.cell? ⟨bx, 0, none⟩ = some (.int .i32 r)) :
    Calls Tryz.prog 73 (#[.int .i64 i] ++ #[.pointer (some ⟨ba, 0, none⟩), .pointer (some ⟨bx, 0, none⟩)]) W fun e w' => e = .returned (.bool (decide (r ≤ p.2.1))) ∧ ∃ q os, w' = grow (W.drewN q) os := by
  obtain ⟨ao, cap, rfl, _⟩ := id R
  have hlt := (List.getElem?_eq_some_iff.1 hp).1
  obtain ⟨X, off, ro, rc, rfl, c0, c1, c2, _⟩ := R.at hp
  have hiz : (i : Int) < (hs.length : Int) := by omega
  obtain ⟨p0, p1, p2⟩ := p
  simp only at c1 ⊢
  clear c0 c2 hp R
  go_enter Tryz.func73, Tryz.ntmps73
  go_wp2
  go_quiet (fail)
  go_wp2
  go_ret
  exact ⟨rfl, _, #[], by rw [grow_empty]⟩

namespace J
/-- what Find tells -/
def found (l : List K.Rule) (r : Int) : List Int := if 0 ≤ r ∧ r ≤ 1114111 then begins l r else []
theorem found_at {l : List K.Rule} {c : List Int} (h : Cuts l c) (hE : ∀ r ∈ l, K.ruleE r = 0) {r : Int} {k : Nat} (hk : k + 1 < c.length) (h1 : c.getD k 0 ≤ r) (h2 : r ≤ c.getD (k + 1) 0 - 1) : found l r = begins l (c.getD k 0) := by
  have r1 := mem_range hE ((h.2 _).1 (h.get (k := k) (by omega)))
  have r2 := mem_range hE ((h.2 _).1 (h.get (k := k + 1) (by omega)))
  unfold found
  rw [if_pos (by omega)]
  exact h.same hk h1 (by omega)
theorem found_none {l : List K.Rule} {c : List Int} (h : Cuts l c) (hE : ∀ r ∈ l, K.ruleE r = 0) {r : Int} (hn : ∀ k, k + 1 < c.length → ¬ (c.getD k 0 ≤ r ∧ r ≤ c.getD (k + 1) 0 - 1)) : found l r = [] := by
  unfold found
  rw [if_neg]
  rintro ⟨h1, h2⟩
  obtain ⟨k, hk, a, b⟩ := h.at hE h1 h2
  exact hn k hk ⟨a, by omega⟩
end J

set_option maxHeartbeats 2000000 in
theorem jFind_any (w : World) (v : Value) (l : List K.Rule) (c : List Int) (hc : J.Cuts l c) (hE : ∀ r ∈ l, K.ruleE r = 0) (hll : l.length ≤ 200) (hn : c.length - 1 ≤ 400) (R : J.Rd w v (J.heads (J.begins l) c (c.length - 1))) (r : Int) :
    Calls Tryz.prog 60 #[v, .int .i32 r] w fun e w' => ∃ v', e = .returned v' ∧ L.Rd w' v' .i64 (J.found l r) ∧ Below w.heap.size w w' := by
  obtain ⟨F, hF⟩ : ∃ F, F = J.found l r := ⟨_, rfl⟩
  rw [← hF]
  obtain ⟨hs, hhs⟩ : ∃ hs, hs = J.heads (J.begins l) c (c.length - 1) := ⟨_, rfl⟩
  have hlen : hs.length = c.length - 1 := by rw [hhs, J.heads_len]
  have hat : ∀ k, k < c.length - 1 → hs[k]? = some (J.headAt (J.begins l) c k) := fun k hk => by rw [hhs]; exact J.heads_at hk
  rw [← hhs] at R
  obtain ⟨aa, ca, rfl, _⟩ := id R
  obtain ⟨W0, hW0⟩ : ∃ W0, W0 = (w.alloc (.cells #[.slice aa hs.length ca] 57)).alloc (.cells #[.int .i32 r] 21) := ⟨_, rfl⟩
  have hsize : W0.heap.size = w.heap.size + 2 := by rw [hW0]; simp
  have hbw : Below w.heap.size w W0 := by
    rw [hW0]; exact ((Below.refl _ w).alloc (Nat.le_refl _) _).alloc (by simp) _
  have x1 : S.Bx W0 w.heap.size 57 (.slice aa hs.length ca) := by
    rw [hW0]
    exact (S.Bx.new w _ _).below (B := w.heap.size + 1) ((Below.refl _ _).alloc (by simp) _) (by omega)
  have x2 : S.Bx W0 (w.heap.size + 1) 21 (.int .i32 r) := by
    rw [hW0]
    have h := S.Bx.new (w.alloc (.cells #[.slice aa hs.length ca] 57)) 21 (.int .i32 r)
    rw [World.size_alloc] at h
    exact h
  have R0 : J.Rd W0 (.slice aa hs.length ca) hs := R.below hbw
  have hpm : ∀ a b, a ≤ b → b < hs.length → decide (r ≤ c.getD (a + 1) 0 - 1) = true → decide (r ≤ c.getD (b + 1) 0 - 1) = true := by
    intro a b hab hb h
    have := hc.le (i := a + 1) (j := b + 1) (by omega) (by omega)
    simp only [decide_eq_true_eq] at h ⊢
    omega
  have eg : ∀ args w, (callFunc 73 args).run Tryz.prog w = .ok (.enter 73 args) w := enters_of Tryz.func73 (by kernel_rfl) rfl
  have hS := Any.sort_Search Tryz.search 73 #[.pointer (some ⟨w.heap.size, 0, none⟩), .pointer (some ⟨w.heap.size + 1, 0, none⟩)] hs.length (fun i => decide (r ≤ c.getD (i + 1) 0 - 1)) W0 eg (by omega)
    (fun m os i hi => by
      have hb := below_grown_sl W0.heap.size W0 m os (Nat.le_refl _)
      exact jFind1_any w.heap.size (w.heap.size + 1) (.slice aa hs.length ca) hs r i _ (grow (W0.drewN m) os) (hat i (by omega)) (R0.below hb) (by omega) (x1.below hb (by omega)).cell (x2.below hb (by omega)).cell) hpm
  obtain ⟨q, hql, hqe, hq1, hq2⟩ := countP_range_mono hs.length (fun i => decide (r ≤ c.getD (i + 1) 0 - 1)) hpm
  rw [hqe] at hS
  change Calls Tryz.prog 72 _ _ _ at hS
  have HNo : Hid ((q = hs.length ∨ r < c.getD q 0) → F = []) := fun hor => by
    rw [hF]
    refine J.found_none hc hE fun k hk hh => ?_
    by_cases hkq : k < q
    · have := hq1 k hkq
      simp only [decide_eq_false_iff_not] at this
      omega
    · rcases hor with h | h
      · omega
      · have := hc.le (i := q) (j := k) (by omega) (by omega)
        omega
  have HYes : Hid (q < hs.length → c.getD q 0 ≤ r → F = J.begins l (c.getD q 0)) := fun h1 h2 => by
    rw [hF]
    have := hq2 q (Nat.le_refl _) h1
    simp only [decide_eq_true_eq] at this
    exact J.found_at hc hE (by omega) h2 this
  have HX : Hid (S.Bx W0 w.heap.size 57 (.slice aa hs.length ca) ∧ S.Bx W0 (w.heap.size + 1) 21 (.int .i32 r) ∧ Below w.heap.size w W0 ∧ J.Rd W0 (.slice aa hs.length ca) hs) := ⟨x1, x2, hbw, R0⟩
  have HAt : Hid (∀ k, k < hs.length → hs[k]? = some (J.headAt (J.begins l) c k)) := fun k hk => hat k (by omega)
  have hbl : (J.begins l (c.getD q 0)).length ≤ 1000000 := by
    have := J.which_len (fun r => S.memb (K.headS r) (c.getD q 0)) l 0
    unfold J.begins
    omega
  have hsl : hs.length ≤ 400 := by omega
  clear R0 x1 x2 hpm hqe hq1 hq2 R hat hhs hlen hn hE hc hF
  go_enter Tryz.func60, Tryz.ntmps60
  go_wp2_with fail
  rw [← hW0]
  refine hS.mono ?_
  clear hS hW0
  rintro e W1 ⟨rfl, n1, os, hW1⟩
  have hb1 := below_grown_sl W0.heap.size W0 n1 os (Nat.le_refl _)
  rw [← hW1] at hb1
  clear hW1
  obtain ⟨x1, x2, hbw2, hR⟩ := HX.out
  have e1 := (x1.below hb1 (by omega)).cell
  have e2 := (x2.below hb1 (by omega)).cell
  have HR1 : Hid (J.Rd W1 (.slice aa hs.length ca) hs) := hR.below hb1
  have BW : Hid (Below w.heap.size w W1) := hbw2.trans (hb1.mono (by omega))
  clear x1 x2 hb1 HX hbw2 hR hbw
  by_cases hql2 : q = hs.length
  · have h1 := HNo.out (.inl hql2)
    subst h1
    have hqi : ((q : Int) == (hs.length : Int)) = true := by simp; omega
    go_wp2_with fail
    go_quiet (fail)
    go_wp2
    go_ret
    exact ⟨_, rfl, ⟨none, 0, rfl, fun _ => rfl, fun h => absurd rfl h⟩, below_drewN BW.out _⟩
  · have hlt : q < hs.length := by omega
    have hqi : ((q : Int) == (hs.length : Int)) = false := by simp; omega
    obtain ⟨X, off, ro, rc, rfl, c0, c1, c2, hr⟩ := HR1.out.at (HAt.out q hlt)
    simp only [J.headAt] at c0 c1 c2 hr
    have HRr : Hid (L.Rd W1 (.slice ro (J.begins l (c.getD q 0)).length rc) .i64 (J.begins l (c.getD q 0))) := hr
    clear hr HR1 HAt c1
    generalize c.getD q 0 = lo at HNo HYes c0 c2 hbl HRr
    by_cases hlow : r < lo
    · have h1 := HNo.out (.inr hlow)
      subst h1
      go_wp2_with fail
      go_quiet (fail)
      go_wp2
      go_ret
      exact ⟨_, rfl, ⟨none, 0, rfl, fun _ => rfl, fun h => absurd rfl h⟩, below_drewN BW.out _⟩
    · have HFE : Hid (F = J.begins l lo) := HYes.out hlt (by omega)
      clear HYes HNo
      have hlowf : decide (r < lo) = false := decide_eq_false hlow
      have HCl : Hid (∀ n, Calls Tryz.prog 74 #[.slice ro (J.begins l lo).length rc] (W1.drewN n) fun e w' => ∃ v', e = .returned v' ∧ L.Rd w' v' .i64 (J.begins l lo) ∧ Below W1.heap.size W1 w') := fun n => by
        have hd : Below W1.heap.size W1 (W1.drewN n) := below_drewN (Below.refl _ _) _
        refine (jClone_any (W1.drewN n) _ (J.begins l lo) (HRr.out.below hd (Nat.le_refl _)) hbl).mono ?_
        rintro e w' ⟨v', h1, h2, h3⟩
        exact ⟨v', h1, h2, hd.trans h3⟩
      go_wp2_with fail
      go_quiet (fail)
      go_wp2_with fail
      go_at_call 74
      refine (HCl.out _).mono ?_
      rintro e w3 ⟨v3, rfl, r3, b3⟩
      have HF : Hid (L.Rd w3 v3 .i64 (J.begins l lo) ∧ Below w.heap.size w w3) := ⟨r3, BW.out.trans (b3.mono BW.out.size)⟩
      clear r3 b3
      go_wp2
      go_ret
      exact ⟨v3, rfl, by rw [HFE.out]; exact HF.out.1, HF.out.2⟩

end Go.Proofs.YtlmmjefplbcapaaGreat

/-
  The first rule that matches at the machine's cursor: (*vm.machine).first.
-/
namespace Go.Proofs.YtlmmjefplbcapaaGreat
open Go.RowKit Go.Shelf
set_option maxRecDepth 20000
set_option linter.unusedSimpArgs false
set_option linter.unusedVariables false

/-- the machine: its box, its text with a gap, its rules and heads below -/
structure Gm.Mx (b : Nat) (ms : List Nat) (mb : Nat) (wb w : World) (g : Nat) (vr vh : Value) (l : List K.Rule) (c : List Int) (A Z : List Int) : Prop where
  base : wb.heap.size ≤ b
  bel : Below wb.heap.size wb w
  box : w.heap[mb]? = some (.cells #[.pointer (some ⟨g, 0, none⟩), vr, vh] 93)
  mem : mb ∈ ms
  old : ∀ j ∈ ms, j < w.heap.size
  tx : ∃ ao cur, Gm.Tx ⟨b, ms⟩ g ao cur A Z w
  rus : V.Rus wb vr l
  hd : ∀ W, Below b w W → J.Rd W vh (J.heads (J.begins l) c (c.length - 1))

/-- what is right with rules and heads -/
structure Gm.Ok (l : List K.Rule) (c : List Int) : Prop where
  few : l.length ≤ 200
  right : ∀ r ∈ l, K.ruleE r = 0
  cuts : J.Cuts l c
  heads : c.length - 1 ≤ 400

set_option maxHeartbeats 8000000 in
theorem xfirst_any (b : Nat) (ms : List Nat) (mb : Nat) (wb w : World) (g : Nat) (vr vh : Value) (l : List K.Rule) (c : List Int) (A Z : List Int) (M : Gm.Mx b ms mb wb w g vr vh l c A Z) (O : Gm.Ok l c) (hz : 0 < Z.length) (hright : ∀ x ∈ A ++ Z, 0 ≤ x ∧ x ≤ 1114111) :
    Calls Tryz.prog 51 #[.pointer (some ⟨mb, 0, none⟩)] w fun e w' => e = .returned (.int .i64 (K.which l (A ++ Z) A.length)) ∧ Below w.heap.size w w' := by
  obtain ⟨ao, cur, hT⟩ := M.tx
  have hmb : mb < w.heap.size := (Array.getElem?_eq_some_iff.1 M.box).1
  have hfew := hT.few
  have hbox := M.box
  obtain ⟨X, hX⟩ : ∃ X, X = (w.alloc (.cells #[.pointer (some ⟨mb, 0, none⟩)] 63)).alloc (.cells #[.int .i64 A.length] 3) := ⟨_, rfl⟩
  have hXw : Below w.heap.size w X := by rw [hX]; exact ((Below.refl _ w).alloc (Nat.le_refl _) _).alloc (by simp) _
  have hXs : X.heap.size = w.heap.size + 2 := by rw [hX]; simp
  have hX0 : X.heap[w.heap.size]? = some (.cells #[.pointer (some ⟨mb, 0, none⟩)] 63) := by
    rw [hX]
    show (((w.heap.push _).push _))[w.heap.size]? = _
    rw [Array.getElem?_push, if_neg (by simp), Array.getElem?_push, if_pos rfl]
  have hX1 : X.heap[w.heap.size + 1]? = some (.cells #[.int .i64 A.length] 3) := by
    rw [hX]
    show (((w.heap.push _).push _))[w.heap.size + 1]? = _
    rw [Array.getElem?_push, if_pos (by simp)]
  have hcur : Calls Tryz.prog 50 #[.pointer (some ⟨g, 0, none⟩)] (w.alloc (.cells #[.pointer (some ⟨mb, 0, none⟩)] 63)) fun e w' => e = .returned (.int .i64 A.length) ∧ w' = w.alloc (.cells #[.pointer (some ⟨mb, 0, none⟩)] 63) :=
    cursor_any _ g A.length _ _ ((hT.kept fun k hk => ((Below.refl w.heap.size w).alloc (Nat.le_refl _) (.cells #[.pointer (some ⟨mb, 0, none⟩)] 63)).block k hk).box)
  have HCur : Hid (Calls Tryz.prog 50 #[.pointer (some ⟨g, 0, none⟩)] (w.alloc (.cells #[.pointer (some ⟨mb, 0, none⟩)] 63)) fun e w' => e = .returned (.int .i64 A.length) ∧ w' = w.alloc (.cells #[.pointer (some ⟨mb, 0, none⟩)] 63)) := hcur
  have HKp : Hid (∀ W, Below X.heap.size X W → W.cell? ⟨w.heap.size, 0, none⟩ = some (.pointer (some ⟨mb, 0, none⟩)) ∧ W.cell? ⟨mb, 2, none⟩ = some vh ∧ W.cell? ⟨mb, 0, none⟩ = some (.pointer (some ⟨g, 0, none⟩)) ∧ W.cell? ⟨w.heap.size + 1, 0, none⟩ = some (.int .i64 A.length)) := fun W hW => by
    have b1 := K.blk_below (K.blk_below hbox hXw) hW
    exact ⟨K.at_box (i := 0) (K.blk_below hX0 hW) rfl, K.at_box (i := 2) b1 rfl, K.at_box (i := 0) b1 rfl, K.at_box (i := 0) (K.blk_below hX1 hW) rfl⟩
  obtain ⟨x, hx⟩ : ∃ x, x = (A ++ Z).getD A.length 0 := ⟨_, rfl⟩
  have hxr : 0 ≤ x ∧ x ≤ 1114111 := by
    refine hright x ?_
    rw [hx]
    simp [List.getD, List.getElem?_append, hz]
  have HAt : Hid (∀ W, Below X.heap.size X W → Calls Tryz.prog 61 #[.pointer (some ⟨g, 0, none⟩), .int .i64 A.length] W fun e w' => e = .returned (.int .i32 x) ∧ Below X.heap.size X w') := fun W hW => by
    have h1 := xat_any W ⟨b, ms⟩ g ao cur A Z ((hT.kept fun k hk => hXw.block k hk).kept fun k hk => hW.block k hk) A.length (by omega)
    rw [← hx] at h1
    refine h1.mono ?_
    rintro e w' ⟨h2, q, rfl⟩
    exact ⟨h2, below_drewN hW _⟩
  have hfo : J.found l x = J.begins l x := if_pos hxr
  have HFi : Hid (∀ W, Below X.heap.size X W → Calls Tryz.prog 60 #[vh, .int .i32 x] W fun e w' => ∃ fo fc, e = .returned (.slice fo (J.begins l x).length fc) ∧ L.Rd w' (.slice fo (J.begins l x).length fc) .i64 (J.begins l x) ∧ Below X.heap.size X w') := fun W hW => by
    have hbW : Below b w W := (hXw.trans (hW.mono (by omega))).mono hT.size
    refine (jFind_any W vh l c O.cuts O.right O.few O.heads (M.hd W hbW) x).mono ?_
    rintro e w' ⟨v', h1, h2, h3⟩
    rw [hfo] at h2
    obtain ⟨fo, fc, rfl, _⟩ := id h2
    exact ⟨fo, fc, h1, h2, hW.trans (h3.mono hW.size)⟩
  obtain ⟨hvo, hvc, rfl, _⟩ := M.hd w (Below.refl _ _)
  have HWh : Hid (∀ e, Gm.Idx (fun z => K.matchB ((l[z.toNat]?).getD K.noRule) (A ++ Z) A.length) (J.begins l x) e → (∃ (j i : Nat) (r : K.Rule), (J.begins l x)[j]? = some (i : Int) ∧ l[i]? = some r ∧ e = .returned (.int .i64 j) ∧ K.which l (A ++ Z) A.length = i) ∨ (e = .returned (.int .i64 (-1)) ∧ K.which l (A ++ Z) A.length = -1)) := fun e he => by
    rw [hx] at he ⊢
    exact Gm.idx_which O.right he
  have hbl : (J.begins l x).length ≤ 1000000 := by
    have := J.which_len (fun r => S.memb (K.headS r) x) l 0
    have := O.few
    unfold J.begins
    omega
  have HIx : Hid (∀ W fo fc, Below X.heap.size X W → L.Rd W (.slice fo (J.begins l x).length fc) .i64 (J.begins l x) → Calls Tryz.prog 62 #[.slice fo (J.begins l x).length fc, .func (.func 63) #[] #[.pointer (some ⟨w.heap.size, 0, none⟩), .pointer (some ⟨w.heap.size + 1, 0, none⟩)]] W fun e w' => Gm.Idx (fun z => K.matchB ((l[z.toNat]?).getD K.noRule) (A ++ Z) A.length) (J.begins l x) e ∧ L.Rd w' (.slice fo (J.begins l x).length fc) .i64 (J.begins l x) ∧ Below X.heap.size X w') := fun W fo fc hW hR => by
    refine (xIndex_any W _ (J.begins l x) hR (by omega) 63 _ (fun z => K.matchB ((l[z.toNat]?).getD K.noRule) (A ++ Z) A.length) (enters_of Tryz.func63 (by kernel_rfl) rfl) (fun Y z hY hz' => ?_)).mono fun e w' ⟨h1, h2⟩ => ⟨h1, hR.below h2 (Nat.le_refl _), hW.trans (h2.mono hW.size)⟩
    obtain ⟨i, r, hi, _, rfl⟩ := Gm.which_mem.1 hz'
    rw [Nat.zero_add]
    have hXY : Below X.heap.size X Y := hW.trans (hY.mono hW.size)
    have hwY : Below w.heap.size w Y := hXw.trans (hXY.mono (by omega))
    have hwb : Below wb.heap.size wb w := M.bel
    have hk := HKp.out Y hXY
    have hV : Gm.Vw w mb g (A ++ Z) := Gm.Vw.of (K.at_box (i := 0) hbox rfl) hT
    have h9 := xfirst1_any w Y hwY w.heap.size (w.heap.size + 1) mb g i vr (.slice hvo (J.heads (J.begins l) c (c.length - 1)).length hvc) l (M.rus.below hwb) (A ++ Z) hV (by rw [List.length_append]; omega) A.length (by rw [List.length_append]; omega) r hi (O.right r (List.mem_of_getElem? hi)) hk.1 hk.2.2.2 (K.at_box (i := 1) (K.blk_below hbox hwY) rfl)
    simp only [Int.toNat_natCast, hi, Option.getD_some]
    exact h9
  have HXw : Hid (Below w.heap.size w X) := hXw
  have e0 : w.cell? ⟨mb, 0, none⟩ = some (.pointer (some ⟨g, 0, none⟩)) := K.at_box (i := 0) hbox rfl
  have HE0 : Hid (∀ o, (w.alloc o).cell? ⟨mb, 0, none⟩ = some (.pointer (some ⟨g, 0, none⟩))) := fun o => K.alloc_cell e0 o
  have e1 := HE0.out (.cells #[.pointer (some ⟨mb, 0, none⟩)] 63)
  have HXX : Hid (X = (w.alloc (.cells #[.pointer (some ⟨mb, 0, none⟩)] 63)).alloc (.cells #[.int .i64 A.length] 3)) := hX
  generalize J.begins l x = bl at HFi HWh HIx hbl
  generalize (J.heads (J.begins l) c (c.length - 1)).length = hn at HKp HFi
  clear hT hbox hX0 hX1 hcur hX hXw hfo hx hright M O e0 HE0
  go_enter Tryz.func51, Tryz.ntmps51
  go_wp2_with fail
  go_at_call 50
  refine HCur.out.mono ?_
  rintro e w1 ⟨rfl, rfl⟩
  clear e1 HCur
  go_wp2_with fail
  rw [← HXX.out]
  have HQ0 : Hid (Below X.heap.size X X.drew) := (Below.refl _ X).drew
  go_cut [4] (fun v4 wx => ∃ fo fc, v4 = .slice fo bl.length fc ∧ Hid (L.Rd wx (.slice fo bl.length fc) .i64 bl ∧ Below X.heap.size X wx))
  case first =>
    go_region_held3 (fun w' => w'.cell? ⟨w.heap.size, 0, none⟩ = some (.pointer (some ⟨mb, 0, none⟩)) ∧ w'.cell? ⟨mb, 2, none⟩ = some (.slice hvo hn hvc) ∧ w'.cell? ⟨mb, 0, none⟩ = some (.pointer (some ⟨g, 0, none⟩)) ∧ w'.cell? ⟨w.heap.size + 1, 0, none⟩ = some (.int .i64 A.length))
      (first | with_reducible exact HKp.out _ HQ0.out | with_reducible exact k2 | with_reducible exact k1 | (go_keep; done))
      (first
        | (have hy := z1; clear hy; go_at_call 60; refine (HFi.out _ z1).mono ?_; rintro e w2 ⟨fo, fc, rfl, r2, z2⟩; have k2 := HKp.out _ z2)
        | ((fail_if_success (have hy := z1)); go_at_call 61; refine (HAt.out _ HQ0.out).mono ?_; rintro e w1 ⟨rfl, z1⟩; have k1 := HKp.out _ z1)
        | fail)
    all_goals go_wp2
    all_goals go_meet
    all_goals exact ⟨fo, fc, rfl, r2, z2⟩
  case rest =>
    obtain ⟨fo, fc, rfl, HC⟩ := hcut
    have HI2 := HIx.out wc fo fc HC.out.2 HC.out.1
    have HI3 : Hid (Calls Tryz.prog 62 #[.slice fo bl.length fc, .func (.func 63) #[] #[.pointer (some ⟨w.heap.size, 0, none⟩), .pointer (some ⟨w.heap.size + 1, 0, none⟩)]] wc fun e w' => ((∃ (j i : Nat), bl[j]? = some (i : Int) ∧ e = .returned (.int .i64 j) ∧ K.which l (A ++ Z) A.length = i) ∨ (e = .returned (.int .i64 (-1)) ∧ K.which l (A ++ Z) A.length = -1)) ∧ L.Rd w' (.slice fo bl.length fc) .i64 bl ∧ Below w.heap.size w w') := by
      refine HI2.mono ?_
      rintro e w' ⟨h1, h2, h3⟩
      refine ⟨?_, h2, HXw.out.trans (h3.mono (by omega))⟩
      rcases HWh.out e h1 with ⟨j, i, r, g1, _, g2, g3⟩ | h
      · exact .inl ⟨j, i, g1, g2, g3⟩
      · exact .inr h
    clear HI2 HIx HWh HKp HAt HFi
    go_wp2_with fail
    go_at_call 62
    refine HI3.out.mono ?_
    rintro e w3 ⟨h1, r3, b3⟩
    have HB3 : Hid (Below w.heap.size w w3) := b3
    rcases h1 with ⟨j, i, g1, rfl, hw⟩ | ⟨rfl, hw⟩
    · have HW : Hid (K.which l (A ++ Z) A.length = i) := hw
      clear hw
      have hjl := (List.getElem?_eq_some_iff.1 g1).1
      obtain ⟨ao9, cap9, h9, _, hcs⟩ := r3
      cases h9
      obtain ⟨fb, ff, rfl, hcell⟩ := hcs (by intro h; rw [h] at hjl; simp at hjl)
      have cj := hcell j _ g1
      clear hcell hcs g1 b3 HI3
      go_wp2
      go_ret
      exact ⟨by rw [HW.out]; rfl, HB3.out⟩
    · have HW : Hid (K.which l (A ++ Z) A.length = -1) := hw
      clear b3 HI3 r3 hw
      go_wp2
      go_ret
      exact ⟨by rw [HW.out]; rfl, HB3.out⟩

end Go.Proofs.YtlmmjefplbcapaaGreat
