/-
  What is wrong with rules: what the program answers, and what the document's text answers.
-/
import Derived.Test.YtkkocnkfdepoiaaMWrong
import Derived.Test.YtkkocnkfdepoiaaQMath2
import Derived.Test.YtkkocnkfdepoiaaVLib
import Derived.Test.YtkkocnkfdepoiaaSWrong
namespace Go.Proofs.Ytkkocnkfdepoiaa
open Go.RowKit
set_option maxRecDepth 20000
set_option linter.unusedSimpArgs false
set_option linter.unusedVariables false

/-- a box of two cells -/
theorem K.box2 {w : World} {g : Nat} {a b : Value} {t : TypeId} (hg : w.heap[g]? = some (.cells #[a, b] t)) : w.cell? ⟨g, 0, none⟩ = some a ∧ w.cell? ⟨g, 1, none⟩ = some b ∧ w.frozen? ⟨g, 0, none⟩ = false ∧ w.frozen? ⟨g, 1, none⟩ = false := by
  refine ⟨?_, ?_, ?_, ?_⟩
  · rw [World.cell?]; simp [hg]
  · rw [World.cell?]; simp [hg]
  · rw [World.frozen?]; simp [hg]
  · rw [World.frozen?]; simp [hg]

set_option maxHeartbeats 2000000 in
theorem qWrong_any (w : World) (v : Value) (l : List K.Rule) (R0 : V.Rus w v l) :
    Calls Try.prog 12 #[v] w fun e w' => e = .returned (.agg #[.int .i64 (K.rulesF l).1, .int .i64 (K.rulesF l).2]) ∧ Below w.heap.size w w' := by
  have HR : Hid (V.Rus w v l) := R0
  have hfew := R0.few
  obtain ⟨ao, cap, rfl⟩ := R0.len
  clear R0
  have HA : Hid (∀ o, Below w.heap.size w (w.alloc o)) := fun o => (Below.refl _ w).alloc (Nat.le_refl _) o
  unfold K.rulesF
  by_cases hbig : 200 < l.length
  · rw [if_pos hbig]
    go_enter Try.func12, Try.ntmps12
    go_wp2
    refine bodyPost_ret (v := .agg #[.int .i64 5, .int .i64 0]) (by simp [results, Try.results12, go_sem]) rfl ?_
    exact ⟨rfl, HA.out _⟩
  · rw [if_neg hbig]
    obtain ⟨⟨o1, o2⟩, HO⟩ : ∃ o, Hid (K.firstR 0 l = o) := ⟨_, rfl⟩
    rw [HO.out]
    go_enter Try.func12, Try.ntmps12
    go_wp2
    go_loopw [12] (fun i wr => ∃ k : Nat, k ≤ l.length ∧ i = .int .i64 k ∧ Hid (K.firstR k (l.drop k) = (o1, o2)) ∧ Hid (Below w.heap.size w wr) ∧ Hid (wr.heap[w.heap.size]? = some (.cells #[.int .i64 0, .int .i64 0] 34))) (fun i _ => l.length - (intOf i).toNat)
    case atStart => exact ⟨0, Nat.zero_le _, rfl, HO, HA.out _, heap_alloc_new w _⟩
    case round =>
      obtain ⟨k, hk, rfl, HE, HB, HX⟩ := hrel
      have hX := HX.out
      by_cases hlt : k < l.length
      · obtain ⟨p, hp⟩ : ∃ x, l[k]? = some x := ⟨l[k], by simp [hlt]⟩
        obtain ⟨ao', cap', e', _, hcs⟩ := HR.out.below HB.out
        cases e'
        obtain ⟨b, off, rfl, hcell⟩ := hcs (by intro h; subst h; simp at hlt)
        obtain ⟨bo, bc, so, sc, ao, ac, tgo, tc, c0, c1, c2, c3, c4, c5, c6, hP⟩ := hcell k p hp
        have HE2 : Hid (K.firstR k (l.drop k) = if K.ruleE p = 0 then K.firstR (k + 1) (l.drop (k + 1)) else (K.ruleE p, (k : Int))) := K.firstR_drop hp
        have hsz := HB.out.size
        have HW : Hid (∀ o, Calls Try.prog 30 #[.agg #[.bool p.start, .bool p.fin, .slice bo p.before.length bc, .slice so p.source.length sc, .slice ao p.after.length ac, .slice tgo p.target.length tc, .int .i64 p.cursor]] (wr.alloc o) fun e w' => e = .returned (.int .i64 (K.ruleE p)) ∧ Below (wr.alloc o).heap.size (wr.alloc o) w') := fun o => mWrong_any _ _ p (V.rule_keeps hP (R.Keeps.alloc wr o))
        obtain ⟨z, HZ⟩ : ∃ z, Hid (K.ruleE p = z) := ⟨_, rfl⟩
        rw [HZ.out] at HW HE2
        clear hp hcell hcs hP hX
        obtain ⟨st, fi, be, sou, af, ta, cu⟩ := p
        simp only at c0 c1 c2 c3 c4 c5 c6 HW
        go_wp2_with fail
        refine (HW.out _).mono ?_
        rintro e w1 ⟨rfl, b1⟩
        obtain ⟨_, B1, hl1⟩ := K.one_box b1
        have hX1 : w1.heap[w.heap.size]? = some (.cells #[.int .i64 0, .int .i64 0] 34) := by
          rw [B1.block _ (Array.getElem?_eq_some_iff.1 HX.out).1]; exact HX.out
        have HB1 : Hid (Below w.heap.size w w1) := HB.out.trans (B1.mono hsz)
        have HX1 : Hid _ := hX1
        obtain ⟨x0, x1, f0, f1⟩ := K.box2 hX1
        clear b1 B1 hX1
        by_cases hz : z = 0
        · subst hz
          go_wp2
          go_roundw
          case rel => exact ⟨k + 1, by omega, by go_num, by show _ = _; rw [← HE.out, HE2.out]; simp, HB1, HX1⟩
          case measure => simp [intOf]; omega
        · go_wp2
          refine bodyPost_ret (v := .agg #[.int .i64 z, .int .i64 k]) (by simp [results, Try.results12, go_sem, *]) rfl ?_
          have h := HE2.out
          rw [HE.out, if_neg hz] at h
          cases h
          exact ⟨rfl, (HB1.out.setCell (p := ⟨w.heap.size, 0, none⟩) (Nat.le_refl _) _).setCell (p := ⟨w.heap.size, 1, none⟩) (Nat.le_refl _) _⟩
      · obtain ⟨x0, x1, f0, f1⟩ := K.box2 hX
        have h := HE.out
        rw [List.drop_eq_nil_of_le (by omega)] at h
        cases h
        go_wp2
        refine bodyPost_ret (v := .agg #[.int .i64 0, .int .i64 0]) (by simp [results, Try.results12, go_sem, *]) rfl ?_
        exact ⟨rfl, (HB.out.setCell (p := ⟨w.heap.size, 0, none⟩) (Nat.le_refl _) _).setCell (p := ⟨w.heap.size, 1, none⟩) (Nat.le_refl _) _⟩

end Go.Proofs.Ytkkocnkfdepoiaa

/-
  Rules in memory: one of many, the first ones of many; the set with which a rule begins.
-/
namespace Go.Proofs.Ytkkocnkfdepoiaa
open Go.RowKit Go.Shelf
set_option maxRecDepth 20000
set_option linter.unusedSimpArgs false
set_option linter.unusedVariables false

namespace K
/-- a rule among many: its cells -/
theorem Rus.rule {w : World} {ao : Option Addr} {n cap : Nat} {l : List Rule} (h : V.Rus w (.slice ao n cap) l) {j : Nat} {p : Rule} (hp : l[j]? = some p) :
    ∃ b off bo bc so sc ao2 ac tgo tc, ao = some ⟨b, off, none⟩ ∧
      w.cell? ⟨b, off + j * 7, none⟩ = some (.bool p.start) ∧ w.cell? ⟨b, off + j * 7 + 1, none⟩ = some (.bool p.fin) ∧ w.cell? ⟨b, off + j * 7 + 2, none⟩ = some (.slice bo p.before.length bc) ∧ w.cell? ⟨b, off + j * 7 + 3, none⟩ = some (.slice so p.source.length sc) ∧ w.cell? ⟨b, off + j * 7 + 4, none⟩ = some (.slice ao2 p.after.length ac) ∧ w.cell? ⟨b, off + j * 7 + 5, none⟩ = some (.slice tgo p.target.length tc) ∧ w.cell? ⟨b, off + j * 7 + 6, none⟩ = some (.int .i64 p.cursor) ∧
      RuIs w (.agg #[.bool p.start, .bool p.fin, .slice bo p.before.length bc, .slice so p.source.length sc, .slice ao2 p.after.length ac, .slice tgo p.target.length tc, .int .i64 p.cursor]) p := by
  obtain ⟨ao', cap', e', _, hcs⟩ := h
  cases e'
  obtain ⟨b, off, rfl, hcell⟩ := hcs (by intro h; subst h; simp at hp)
  obtain ⟨bo, bc, so, sc, ao, ac, tgo, tc, h⟩ := hcell j p hp
  exact ⟨b, off, bo, bc, so, sc, ao, ac, tgo, tc, rfl, h⟩
/-- the first ones of many rules -/
theorem Rus.upto {w : World} {ao : Option Addr} {n cap : Nat} {l : List Rule} (h : V.Rus w (.slice ao n cap) l) {k : Nat} (hk : k ≤ l.length) (c : Nat) : V.Rus w (.slice ao k c) (l.take k) := by
  have hf := h.few
  obtain ⟨ao', cap', e', _, hcs⟩ := h
  cases e'
  refine ⟨ao, c, by rw [List.length_take, Nat.min_eq_left hk], by rw [List.length_take]; omega, fun hz => ?_⟩
  obtain ⟨b, off, rfl, hcell⟩ := hcs (by intro h; subst h; simp at hz)
  refine ⟨b, off, rfl, fun j r hj => ?_⟩
  rw [List.getElem?_take] at hj
  split at hj
  · exact hcell j r hj
  · cases hj
theorem head_at {r : Rule} {s : List S.Sp} (h : r.source[0]? = some s) : headS r = s := by
  unfold headS
  cases hq : r.source with
  | nil => rw [hq] at h; simp at h
  | cons y l => rw [hq] at h; simpa using h
theorem head_ok {r : Rule} (h : ruleE r = 0) : S.Nf 0 (headS r) ∧ (headS r).length ≤ 200 := by
  obtain ⟨_, h2, _, h4, _⟩ := ruleE_zero h
  obtain ⟨s, hs⟩ : ∃ s, r.source[0]? = some s := ⟨r.source[0], by simp⟩
  rw [head_at hs]
  exact h2.2 s (List.mem_of_getElem? hs)
end K

end Go.Proofs.Ytkkocnkfdepoiaa
