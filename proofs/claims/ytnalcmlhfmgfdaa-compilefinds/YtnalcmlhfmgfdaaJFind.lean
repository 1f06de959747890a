/-
  compile.Find, of heads that Compile told.
-/
import Derived.Test.YtnalcmlhfmgfdaaJRead
import Derived.Deep.QuietTactic
import Derived.BigQuiet
namespace Go.Proofs.Ytnalcmlhfmgfdaa
open Go.RowKit Go.Lib Go.Sort
set_option maxRecDepth 20000
set_option linter.unusedSimpArgs false
set_option linter.unusedVariables false

theorem jEmpty (w : World) : (w.alloc (.cells #[] 3)).ownsRow w.heap.size 3 1 (.slice (some ⟨w.heap.size, 0, none⟩) 0 0) 0 [] := by
  refine ⟨rfl, .inr ⟨w.heap.size, 0, #[], rfl, Nat.le_refl _, ?_, Nat.le_refl _, by unfold maxLen; omega, rfl, rfl⟩⟩
  show (w.heap.push _)[w.heap.size]? = _
  exact Array.getElem?_push_size

set_option maxHeartbeats 1000000 in
theorem jClone_any (w : World) (v : Value) (zs : List Int) (R : L.Rd w v .i64 zs) (hl : zs.length ≤ 1000000) :
    Calls Try.prog 32 #[v] w fun e w' => ∃ v', e = .returned v' ∧ L.Rd w' v' .i64 zs ∧ Below w.heap.size w w' := by
  have HR : Hid (L.Rd w v .i64 zs) := R
  obtain ⟨i0, hi, hz0, hz1, hz2⟩ := info_parts Try.infoIntJ
  obtain ⟨ao, cap, rfl, hn, hc⟩ := R
  have HN : Hid (ao = none → zs = []) := fun h => by
    cases zs with
    | nil => rfl
    | cons z zs => obtain ⟨b, off, h', _⟩ := hc (by simp); rw [h] at h'; cases h'
  have q40 : ∀ (w : World) (a : Option Addr) (n c n' c' : Nat), (binOp .eql 40 (.slice a n c) (.slice none n' c')).run Try.prog w = .ok (.bool a.isNone) w := fun w a n c n' c' => Lib.run_eql_slice_nil w _ _ a n c n' c' Try.underlying40
  have HA : Hid (Below w.heap.size w (w.alloc (.cells #[] 3))) := (Below.refl _ w).alloc (Nat.le_refl _) _
  clear hc
  cases ao with
  | none =>
    have := HN.out rfl
    subst this
    have := hn rfl
    subst this
    go_enter Try.func32, Try.ntmps32
    go_wp2
    go_ret
    exact ⟨_, rfl, ⟨none, 0, rfl, fun _ => rfl, fun h => absurd rfl h⟩, Below.refl _ _⟩
  | some ad =>
    go_enter Try.func32, Try.ntmps32
    go_wp2_with (at_builtin; go_must (refine L.wpList_append_rd rfl _ _ 40 rfl w.heap.size 3 i0 .i64 8 Try.underlying40 hi hz0 hz1 hz2 _ _ _ rfl (jEmpty w) _ zs rfl (HR.out.below HA.out (Nat.le_refl _)) (by unfold maxLen; omega) (by omega) (by simp) ?_; intro v' w4 own4 grown4))
    go_ret
    have e : ([] ++ zs.map (Value.int .i64)) = zs.map (Value.int .i64) := by simp
    rw [e, Nat.zero_add] at own4
    exact ⟨v', rfl, L.Rd.of_owns own4, Below.grown HA.out grown4 (by simp) (fun j hj => by cases hj; exact Nat.le_refl _)⟩

set_option maxHeartbeats 1000000 in
theorem jFind1_any (ba bx : Nat) (v : Value) (hs : List J.Hd) (r : Int) (i : Nat) (p : J.Hd) (W : World) (hp : hs[i]? = some p) (R : J.Rd W v hs) (hl : hs.length ≤ 1000)
    (ha : W.cell? ⟨ba, 0, none⟩ = some v) (hr : W.cell? ⟨bx, 0, none⟩ = some (.int .i32 r)) :
    Calls Try.prog 31 (#[.int .i64 i] ++ #[.pointer (some ⟨ba, 0, none⟩), .pointer (some ⟨bx, 0, none⟩)]) W fun e w' => e = .returned (.bool (decide (r ≤ p.2.1))) ∧ ∃ q os, w' = grow (W.drewN q) os := by
  obtain ⟨ao, cap, rfl, _⟩ := id R
  have hlt := (List.getElem?_eq_some_iff.1 hp).1
  obtain ⟨X, off, ro, rc, rfl, c0, c1, c2, _⟩ := R.at hp
  have hiz : (i : Int) < (hs.length : Int) := by omega
  obtain ⟨p0, p1, p2⟩ := p
  simp only at c1 ⊢
  clear c0 c2 hp R
  go_enter Try.func31, Try.ntmps31
  go_wp2
  go_quiet (fail)
  go_wp2
  go_ret
  exact ⟨rfl, _, #[], by rw [grow_empty]⟩

namespace J
/-- what Find tells -/
def found (l : List K.Rule) (r : Int) : List Int := if 0 ≤ r ∧ r ≤ 1114111 then begins l r else []
theorem found_at {l : List K.Rule} {c : List Int} (h : Cuts l c) (hE : ∀ r ∈ l, K.ruleE r = 0) {r : Int} {k : Nat} (hk : k + 1 < c.length) (h1 : c.getD k 0 ≤ r) (h2 : r ≤ c.getD (k + 1) 0 - 1) : found l r = begins l (c.getD k 0) := by
  have r1 := mem_range hE ((h.2 _).1 (h.get (k := k) (by omega)))
  have r2 := mem_range hE ((h.2 _).1 (h.get (k := k + 1) (by omega)))
  unfold found
  rw [if_pos (by omega)]
  exact h.same hk h1 (by omega)
theorem found_none {l : List K.Rule} {c : List Int} (h : Cuts l c) (hE : ∀ r ∈ l, K.ruleE r = 0) {r : Int} (hn : ∀ k, k + 1 < c.length → ¬ (c.getD k 0 ≤ r ∧ r ≤ c.getD (k + 1) 0 - 1)) : found l r = [] := by
  unfold found
  rw [if_neg]
  rintro ⟨h1, h2⟩
  obtain ⟨k, hk, a, b⟩ := h.at hE h1 h2
  exact hn k hk ⟨a, by omega⟩
end J

set_option maxHeartbeats 2000000 in
theorem jFind_any (w : World) (v : Value) (l : List K.Rule) (c : List Int) (hc : J.Cuts l c) (hE : ∀ r ∈ l, K.ruleE r = 0) (hll : l.length ≤ 200) (hn : c.length - 1 ≤ 400) (R : J.Rd w v (J.heads (J.begins l) c (c.length - 1))) (r : Int) :
    Calls Try.prog 15 #[v, .int .i32 r] w fun e w' => ∃ v', e = .returned v' ∧ L.Rd w' v' .i64 (J.found l r) ∧ Below w.heap.size w w' := by
  obtain ⟨F, hF⟩ : ∃ F, F = J.found l r := ⟨_, rfl⟩
  rw [← hF]
  obtain ⟨hs, hhs⟩ : ∃ hs, hs = J.heads (J.begins l) c (c.length - 1) := ⟨_, rfl⟩
  have hlen : hs.length = c.length - 1 := by rw [hhs, J.heads_len]
  have hat : ∀ k, k < c.length - 1 → hs[k]? = some (J.headAt (J.begins l) c k) := fun k hk => by rw [hhs]; exact J.heads_at hk
  rw [← hhs] at R
  obtain ⟨aa, ca, rfl, _⟩ := id R
  obtain ⟨W0, hW0⟩ : ∃ W0, W0 = (w.alloc (.cells #[.slice aa hs.length ca] 32)).alloc (.cells #[.int .i32 r] 21) := ⟨_, rfl⟩
  have hsize : W0.heap.size = w.heap.size + 2 := by rw [hW0]; simp
  have hbw : Below w.heap.size w W0 := by
    rw [hW0]; exact ((Below.refl _ w).alloc (Nat.le_refl _) _).alloc (by simp) _
  have x1 : S.Bx W0 w.heap.size 32 (.slice aa hs.length ca) := by
    rw [hW0]
    exact (S.Bx.new w _ _).below (B := w.heap.size + 1) ((Below.refl _ _).alloc (by simp) _) (by omega)
  have x2 : S.Bx W0 (w.heap.size + 1) 21 (.int .i32 r) := by
    rw [hW0]
    have h := S.Bx.new (w.alloc (.cells #[.slice aa hs.length ca] 32)) 21 (.int .i32 r)
    rw [World.size_alloc] at h
    exact h
  have R0 : J.Rd W0 (.slice aa hs.length ca) hs := R.below hbw
  have hpm : ∀ a b, a ≤ b → b < hs.length → decide (r ≤ c.getD (a + 1) 0 - 1) = true → decide (r ≤ c.getD (b + 1) 0 - 1) = true := by
    intro a b hab hb h
    have := hc.le (i := a + 1) (j := b + 1) (by omega) (by omega)
    simp only [decide_eq_true_eq] at h ⊢
    omega
  have eg : ∀ args w, (callFunc 31 args).run Try.prog w = .ok (.enter 31 args) w := enters_of Try.func31 (by kernel_rfl) rfl
  have hS := Any.sort_Search Try.search 31 #[.pointer (some ⟨w.heap.size, 0, none⟩), .pointer (some ⟨w.heap.size + 1, 0, none⟩)] hs.length (fun i => decide (r ≤ c.getD (i + 1) 0 - 1)) W0 eg (by omega)
    (fun m os i hi => by
      have hb := below_grown_sl W0.heap.size W0 m os (Nat.le_refl _)
      exact jFind1_any w.heap.size (w.heap.size + 1) (.slice aa hs.length ca) hs r i _ (grow (W0.drewN m) os) (hat i (by omega)) (R0.below hb) (by omega) (x1.below hb (by omega)).cell (x2.below hb (by omega)).cell) hpm
  obtain ⟨q, hql, hqe, hq1, hq2⟩ := countP_range_mono hs.length (fun i => decide (r ≤ c.getD (i + 1) 0 - 1)) hpm
  rw [hqe] at hS
  change Calls Try.prog 30 _ _ _ at hS
  have HNo : Hid ((q = hs.length ∨ r < c.getD q 0) → F = []) := fun hor => by
    rw [hF]
    refine J.found_none hc hE fun k hk hh => ?_
    by_cases hkq : k < q
    · have := hq1 k hkq
      simp only [decide_eq_false_iff_not] at this
      omega
    · rcases hor with h | h
      · omega
      · have := hc.le (i := q) (j := k) (by omega) (by omega)
        omega
  have HYes : Hid (q < hs.length → c.getD q 0 ≤ r → F = J.begins l (c.getD q 0)) := fun h1 h2 => by
    rw [hF]
    have := hq2 q (Nat.le_refl _) h1
    simp only [decide_eq_true_eq] at this
    exact J.found_at hc hE (by omega) h2 this
  have HX : Hid (S.Bx W0 w.heap.size 32 (.slice aa hs.length ca) ∧ S.Bx W0 (w.heap.size + 1) 21 (.int .i32 r) ∧ Below w.heap.size w W0 ∧ J.Rd W0 (.slice aa hs.length ca) hs) := ⟨x1, x2, hbw, R0⟩
  have HAt : Hid (∀ k, k < hs.length → hs[k]? = some (J.headAt (J.begins l) c k)) := fun k hk => hat k (by omega)
  have hbl : (J.begins l (c.getD q 0)).length ≤ 1000000 := by
    have := J.which_len (fun r => S.memb (K.headS r) (c.getD q 0)) l 0
    unfold J.begins
    omega
  have hsl : hs.length ≤ 400 := by omega
  clear R0 x1 x2 hpm hqe hq1 hq2 R hat hhs hlen hn hE hc hF
  go_enter Try.func15, Try.ntmps15
  go_wp2_with fail
  rw [← hW0]
  refine hS.mono ?_
  clear hS hW0
  rintro e W1 ⟨rfl, n1, os, hW1⟩
  have hb1 := below_grown_sl W0.heap.size W0 n1 os (Nat.le_refl _)
  rw [← hW1] at hb1
  clear hW1
  obtain ⟨x1, x2, hbw2, hR⟩ := HX.out
  have e1 := (x1.below hb1 (by omega)).cell
  have e2 := (x2.below hb1 (by omega)).cell
  have HR1 : Hid (J.Rd W1 (.slice aa hs.length ca) hs) := hR.below hb1
  have BW : Hid (Below w.heap.size w W1) := hbw2.trans (hb1.mono (by omega))
  clear x1 x2 hb1 HX hbw2 hR hbw
  by_cases hql2 : q = hs.length
  · have h1 := HNo.out (.inl hql2)
    subst h1
    have hqi : ((q : Int) == (hs.length : Int)) = true := by simp; omega
    go_wp2_with fail
    go_quiet (fail)
    go_wp2
    go_ret
    exact ⟨_, rfl, ⟨none, 0, rfl, fun _ => rfl, fun h => absurd rfl h⟩, below_drewN BW.out _⟩
  · have hlt : q < hs.length := by omega
    have hqi : ((q : Int) == (hs.length : Int)) = false := by simp; omega
    obtain ⟨X, off, ro, rc, rfl, c0, c1, c2, hr⟩ := HR1.out.at (HAt.out q hlt)
    simp only [J.headAt] at c0 c1 c2 hr
    have HRr : Hid (L.Rd W1 (.slice ro (J.begins l (c.getD q 0)).length rc) .i64 (J.begins l (c.getD q 0))) := hr
    clear hr HR1 HAt c1
    generalize c.getD q 0 = lo at HNo HYes c0 c2 hbl HRr
    by_cases hlow : r < lo
    · have h1 := HNo.out (.inr hlow)
      subst h1
      go_wp2_with fail
      go_quiet (fail)
      go_wp2
      go_ret
      exact ⟨_, rfl, ⟨none, 0, rfl, fun _ => rfl, fun h => absurd rfl h⟩, below_drewN BW.out _⟩
    · have HFE : Hid (F = J.begins l lo) := HYes.out hlt (by omega)
      clear HYes HNo
      have hlowf : decide (r < lo) = false := decide_eq_false hlow
      have HCl : Hid (∀ n, Calls Try.prog 32 #[.slice ro (J.begins l lo).length rc] (W1.drewN n) fun e w' => ∃ v', e = .returned v' ∧ L.Rd w' v' .i64 (J.begins l lo) ∧ Below W1.heap.size W1 w') := fun n => by
        have hd : Below W1.heap.size W1 (W1.drewN n) := below_drewN (Below.refl _ _) _
        refine (jClone_any (W1.drewN n) _ (J.begins l lo) (HRr.out.below hd (Nat.le_refl _)) hbl).mono ?_
        rintro e w' ⟨v', h1, h2, h3⟩
        exact ⟨v', h1, h2, hd.trans h3⟩
      go_wp2_with fail
      go_quiet (fail)
      go_wp2_with fail
      go_at_call 32
      refine (HCl.out _).mono ?_
      rintro e w3 ⟨v3, rfl, r3, b3⟩
      have HF : Hid (L.Rd w3 v3 .i64 (J.begins l lo) ∧ Below w.heap.size w w3) := ⟨r3, BW.out.trans (b3.mono BW.out.size)⟩
      clear r3 b3
      go_wp2
      go_ret
      exact ⟨v3, rfl, by rw [HFE.out]; exact HF.out.1, HF.out.2⟩

end Go.Proofs.Ytnalcmlhfmgfdaa
