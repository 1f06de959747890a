/-
  What Matches answers: the program.
-/
import Derived.Test.YtdmpmkcigjkilaaMHere
namespace Go.Proofs.Ytdmpmkcigjkilaa
open Go.RowKit Go.Shelf
set_option maxRecDepth 20000
set_option linter.unusedSimpArgs false
set_option linter.unusedVariables false

namespace K
def matchesE (r : Rule) (t : List Int) (k : Int) : Int := if ruleE r ≠ 0 then ruleE r else if textE t ≠ 0 then textE t else if k < 0 ∨ (t.length : Int) < k then 3 else 0
theorem matchesE_zero {r : Rule} {t : List Int} {k : Int} (h : matchesE r t k = 0) : ruleE r = 0 ∧ textE t = 0 ∧ 0 ≤ k ∧ k ≤ t.length := by
  unfold matchesE at h
  by_cases h1 : ruleE r = 0
  · rw [if_neg (by simp [h1])] at h
    by_cases h2 : textE t = 0
    · rw [if_neg (by simp [h2])] at h
      by_cases h3 : k < 0 ∨ (t.length : Int) < k
      · rw [if_pos h3] at h; exact absurd h (by decide)
      · exact ⟨h1, h2, by omega, by omega⟩
    · rw [if_pos h2] at h; exact absurd h h2
  · rw [if_pos h1] at h; exact absurd h h1
def matchesB (r : Rule) (t : List Int) (k : Int) : Bool := if matchesE r t k = 0 then matchB r t k else false
end K

set_option maxHeartbeats 4000000 in
theorem mMatches_any (w : World) (v : Value) (r : K.Rule) (R : K.RuIs w v r) (vt : Value) (t : List Int) (Rt : L.Rd w vt .i32 t) (ht : t.length ≤ 140737488355328) (k : Int) (hk : K.I64 k) :
    Calls Try.prog 32 #[v, vt, .int .i64 k] w fun e w' => e = .returned (.tuple #[.bool (K.matchesB r t k), .int .i64 (K.matchesE r t k)]) ∧ Below w.heap.size w w' := by
  have HW : Hid (∀ X, Below w.heap.size w X → Calls Try.prog 60 #[v] X fun e w' => e = .returned (.int .i64 (K.ruleE r)) ∧ Below X.heap.size X w') := fun X hX => mWrong_any X v r (R.below hX)
  have HX : Hid (∀ X, Below w.heap.size w X → Calls Try.prog 61 #[vt] X fun e w' => e = .returned (.int .i64 (K.textE t)) ∧ Below X.heap.size X w') := fun X hX => mText_any X vt t (Rt.below hX (Nat.le_refl _)) ht
  have HH : Hid (K.ruleE r = 0 → K.textE t = 0 → 0 ≤ k → k ≤ t.length → ∀ X, Below w.heap.size w X → Calls Try.prog 62 #[v, .iface 103 vt, .int .i64 k] X fun e w' => e = .returned (.bool (K.matchB r t k)) ∧ Below X.heap.size X w') := fun h1 h2 h3 h4 X hX => mHere_any X v r (R.below hX) h1 vt t (Rt.below hX (Nat.le_refl _)) (K.textE_zero h2) k h3 h4
  have hI1 : -9223372036854775808 ≤ k := hk.1
  have hI2 : k ≤ 9223372036854775807 := hk.2
  obtain ⟨bo, bc, so, sc, ao, ac, to, tc, rfl, _⟩ := R
  obtain ⟨xo, xc, rfl, _⟩ := Rt
  have HA : Hid (∀ o, Below w.heap.size w (w.alloc o)) := fun o => (Below.refl _ w).alloc (Nat.le_refl _) o
  unfold K.matchesB
  obtain ⟨o, HO⟩ : ∃ o, Hid (K.matchesE r t k = o) := ⟨_, rfl⟩
  rw [HO.out]
  unfold K.matchesE at HO
  generalize K.ruleE r = e1 at *
  generalize K.textE t = e2 at *
  generalize K.matchB r t k = mb at *
  clear hk
  go_enter Try.func32, Try.ntmps32
  go_wp2_with fail
  refine (HW.out _ (HA.out _)).mono ?_
  rintro e w1 ⟨rfl, hb⟩
  obtain ⟨h1, hb1, hs1⟩ := K.one_box hb
  have HB1 : Hid (Below w.heap.size w w1) := hb1
  have HH1 : Hid (w1.heap[w.heap.size]? = _) := h1
  clear hb hb1 h1
  by_cases q1 : e1 = 0
  · subst q1
    go_wp2_with fail
    refine (HX.out _ HB1.out).mono ?_
    rintro e w2 ⟨rfl, hb⟩
    have HB2 : Hid (Below w.heap.size w w2) := HB1.out.trans (hb.mono (by omega))
    have h2 := K.blk_below HH1.out hb
    have HH2 : Hid (w2.heap[w.heap.size]? = _) := h2
    clear hb h2
    by_cases q2 : e2 = 0
    · subst q2
      by_cases q3 : k < 0 ∨ (t.length : Int) < k
      · have ho : o = 3 := by rw [← HO.out, if_neg (by simp), if_neg (by simp), if_pos q3]
        subst ho
        rcases q3 with q3 | q3
        · go_wp2
          go_ret2
          exact ⟨by simp, HB2.out⟩
        · by_cases q4 : k < 0
          · omega
          · go_wp2
            go_ret2
            exact ⟨by simp, HB2.out⟩
      · have ho : o = 0 := by rw [← HO.out, if_neg (by simp), if_neg (by simp), if_neg q3]
        subst ho
        have d0 := K.at_box (i := 0) HH2.out rfl
        have d1 := K.at_box (i := 1) HH2.out rfl
        have d2 := K.at_box (i := 2) HH2.out rfl
        have d3 := K.at_box (i := 3) HH2.out rfl
        have d4 := K.at_box (i := 4) HH2.out rfl
        have d5 := K.at_box (i := 5) HH2.out rfl
        have d6 := K.at_box (i := 6) HH2.out rfl
        have q4 : ¬ k < 0 := by omega
        have q5 : ¬ (t.length : Int) < k := by omega
        have hH := HH.out (by trivial) (by trivial) (by omega) (by omega) w2 HB2.out
        go_wp2_with fail
        refine hH.mono ?_
        rintro e w3 ⟨rfl, hb⟩
        have HB3 : Hid (Below w.heap.size w w3) := HB2.out.trans (hb.mono HB2.out.size)
        clear hb hH
        go_wp2
        go_ret2
        exact ⟨by simp, HB3.out⟩
    · have ho : o = e2 := by rw [← HO.out, if_neg (by simp), if_pos q2]
      subst ho
      go_wp2
      go_ret2
      exact ⟨by simp [q2], HB2.out⟩
  · have ho : o = e1 := by rw [← HO.out, if_pos q1]
    subst ho
    go_wp2
    go_ret2
    exact ⟨by simp [q1], HB1.out⟩

end Go.Proofs.Ytdmpmkcigjkilaa
