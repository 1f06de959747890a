/-
  Right rules do not look far.
-/
import Derived.Test.YtackaadejnbfmaaYMath
import Derived.Test.YtackaadejnbfmaaQRepl2
import Derived.Test.YtackaadejnbfmaaVLib
import Derived.Test.YtackaadejnbfmaaQClone
import Derived.Laws.EntriesVeiled
import Derived.BigRegion
import Derived.RegionTactic
import Derived.Deep.RegionHeld3
namespace Go.Proofs.Ytackaadejnbfmaa.Ws
theorem ahead_le {l : List K.Rule} (hE : ∀ r ∈ l, K.ruleE r = 0) : K.ahead l ≤ 1000 := by
  have h : ∀ (l : List K.Rule), (∀ r ∈ l, K.ruleE r = 0) → ∀ m, m ≤ 1000 → l.foldl (fun m r => max m (r.source.length + r.after.length)) m ≤ 1000 := by
    intro l
    induction l with
    | nil => intro _ m hm; exact hm
    | cons x l ih =>
      intro hE m hm
      rw [List.foldl_cons]
      refine ih (fun r hr => hE r (List.mem_cons_of_mem _ hr)) _ ?_
      obtain ⟨_, g1, g2, _⟩ := K.ruleE_zero (hE x List.mem_cons_self)
      have h1 := g1.1
      have h2 := g2.1
      omega
  exact h l hE 0 (by omega)
theorem take_told {l : List K.Rule} {ah : Nat} {s : St} {c : List Int} (h0 : (take l ah s c).1 = 0) : (take l ah s c).2.told.length = s.told.length + 1 := by
  unfold take at h0 ⊢
  by_cases h1 : 4000 < s.came + c.length ∨ 4000 < s.A.length + s.Z.length + c.length
  · rw [if_pos h1] at h0; simp at h0
  · rw [if_neg h1] at h0 ⊢
    by_cases h2 : K.textE c ≠ 0
    · rw [if_pos h2] at h0; exact absurd h0 h2
    · rw [if_neg h2]
      simp
end Go.Proofs.Ytackaadejnbfmaa.Ws

/-
  What a rule asks of a text on one side of the cursor: package analyse's looks, and whether one asks for nothing that another doesn't.
-/
namespace Go.Proofs.Ytackaadejnbfmaa
open Go.RowKit
set_option maxRecDepth 20000
set_option linter.unusedSimpArgs false
set_option linter.unusedVariables false

namespace K
/-- a function that tells the k-th set of a list, now and later -/
def Tell (w : World) (f : Nat) (cb : Array Value) (l : List (List S.Sp)) : Prop :=
  ∀ (k : Nat) s W, l[k]? = some s → Below w.heap.size w W → Calls Try.prog f (#[.int .i64 k] ++ cb) W fun e w' => ∃ so sc, e = .returned (.slice so s.length sc) ∧ S.Rd w' (.slice so s.length sc) s ∧ Below W.heap.size W w'
theorem Tell.below {w w' : World} {f : Nat} {cb : Array Value} {l : List (List S.Sp)} (h : Tell w f cb l) (hb : Below w.heap.size w w') : Tell w' f cb l :=
  fun k s W hk hW => h k s W hk (hb.trans (hW.mono hb.size))
theorem three_new (w : World) (o1 o2 o3 : Obj) : (((w.alloc o1).alloc o2).alloc o3).heap[w.heap.size]? = some o1 ∧ (((w.alloc o1).alloc o2).alloc o3).heap[w.heap.size + 1]? = some o2 ∧ (((w.alloc o1).alloc o2).alloc o3).heap[w.heap.size + 1 + 1]? = some o3 ∧ Below w.heap.size w (((w.alloc o1).alloc o2).alloc o3) := by
  have x := two_boxes (Below.refl _ (((w.alloc o1).alloc o2).alloc o3))
  have hs1 : (w.alloc o1).heap.size = w.heap.size + 1 := by simp
  rw [hs1] at x
  have h0 := (x.2.2.1.block w.heap.size (by omega)).trans (heap_alloc_new w o1)
  exact ⟨h0, x.1, x.2.1, ((Below.refl _ w).alloc (Nat.le_refl _) _).trans (x.2.2.1.mono (by omega))⟩
def ruBox (r : Rule) (bo so ao tgo : Option Addr) (bc sc ac tc : Nat) : Obj := .cells #[.bool r.start, .bool r.fin, .slice bo r.before.length bc, .slice so r.source.length sc, .slice ao r.after.length ac, .slice tgo r.target.length tc, .int .i64 r.cursor] 58
end K

set_option maxHeartbeats 1000000 in
theorem backward1_any (w : World) (br bl : Nat) (bo : Option Addr) (bc : Nat) (l : List (List S.Sp)) (R : K.Ss w (.slice bo l.length bc) l) (c2 : w.cell? ⟨br, 2, none⟩ = some (.slice bo l.length bc)) (cl : w.cell? ⟨bl, 0, none⟩ = some (.int .i64 ((l.length : Int) - 1))) :
    K.Tell w 69 #[.pointer (some ⟨br, 0, none⟩), .pointer (some ⟨bl, 0, none⟩)] l.reverse := by
  intro k s W hk hW
  have hkl : k < l.length := by simpa using (List.getElem?_eq_some_iff.1 hk).1
  have hfew := R.few
  rw [List.getElem?_reverse hkl] at hk
  obtain ⟨b, off, so, sc, rfl, hc, hr, _⟩ := (R.below hW).at hk
  rw [← hW.cell (p := ⟨br, 2, none⟩) (L.block_lt c2)] at c2
  rw [← hW.cell (p := ⟨bl, 0, none⟩) (L.block_lt cl)] at cl
  have hn : (l.length : Int) - 1 - k = ((l.length - 1 - k : Nat) : Int) := by omega
  obtain ⟨m, hm⟩ : ∃ m, l.length - 1 - k = m := ⟨_, rfl⟩
  rw [hm] at hc hn
  have hml : m < l.length := by omega
  have HR : Hid (S.Rd W (.slice so s.length sc) s) := hr
  have h1 : -9223372036854775808 ≤ (l.length : Int) - 1 - k := by omega
  have h2 : (l.length : Int) - 1 - k ≤ 9223372036854775807 := by omega
  clear hk R hr hm hW
  show Calls Try.prog 69 #[.int .i64 k, .pointer (some ⟨br, 0, none⟩), .pointer (some ⟨bl, 0, none⟩)] W _
  go_enter Try.func69, Try.ntmps69
  go_wp2
  go_ret
  exact ⟨so, sc, rfl, HR.out, Below.refl _ _⟩

set_option maxHeartbeats 1000000 in
theorem forward1_any (w : World) (br bl : Nat) (so ao : Option Addr) (sc ac : Nat) (l m : List (List S.Sp)) (R : K.Ss w (.slice so l.length sc) l) (R' : K.Ss w (.slice ao m.length ac) m) (c3 : w.cell? ⟨br, 3, none⟩ = some (.slice so l.length sc)) (c4 : w.cell? ⟨br, 4, none⟩ = some (.slice ao m.length ac)) (cl : w.cell? ⟨bl, 0, none⟩ = some (.int .i64 (l.length : Int))) :
    K.Tell w 70 #[.pointer (some ⟨bl, 0, none⟩), .pointer (some ⟨br, 0, none⟩)] (l ++ m) := by
  intro k s W hk hW
  have hkl : k < l.length + m.length := by simpa using (List.getElem?_eq_some_iff.1 hk).1
  have hfew := R.few
  have hfew' := R'.few
  rw [← hW.cell (p := ⟨br, 3, none⟩) (L.block_lt c3)] at c3
  rw [← hW.cell (p := ⟨br, 4, none⟩) (L.block_lt c4)] at c4
  rw [← hW.cell (p := ⟨bl, 0, none⟩) (L.block_lt cl)] at cl
  by_cases hlt : k < l.length
  · rw [List.getElem?_append_left hlt] at hk
    obtain ⟨b, off, so2, sc2, rfl, hc, hr, _⟩ := (R.below hW).at hk
    have HR : Hid (S.Rd W (.slice so2 s.length sc2) s) := hr
    clear hk R R' hr hW c4
    show Calls Try.prog 70 #[.int .i64 k, .pointer (some ⟨bl, 0, none⟩), .pointer (some ⟨br, 0, none⟩)] W _
    go_enter Try.func70, Try.ntmps70
    go_wp2
    go_ret
    exact ⟨so2, sc2, rfl, HR.out, Below.refl _ _⟩
  · rw [List.getElem?_append_right (by omega)] at hk
    obtain ⟨b, off, so2, sc2, rfl, hc, hr, _⟩ := (R'.below hW).at hk
    have HR : Hid (S.Rd W (.slice so2 s.length sc2) s) := hr
    have hn : (k : Int) - l.length = ((k - l.length : Nat) : Int) := by omega
    obtain ⟨q, hq⟩ : ∃ q, k - l.length = q := ⟨_, rfl⟩
    rw [hq] at hc hn
    have hql : q < m.length := by omega
    have h1 : -9223372036854775808 ≤ (k : Int) - l.length := by omega
    have h2 : (k : Int) - l.length ≤ 9223372036854775807 := by omega
    clear hk R R' hr hW c3 hq
    show Calls Try.prog 70 #[.int .i64 k, .pointer (some ⟨bl, 0, none⟩), .pointer (some ⟨br, 0, none⟩)] W _
    go_enter Try.func70, Try.ntmps70
    go_wp2
    go_ret
    exact ⟨so2, sc2, rfl, HR.out, Below.refl _ _⟩

set_option maxHeartbeats 2000000 in
theorem backward_any (w : World) (v : Value) (r : K.Rule) (R : K.RuIs w v r) :
    Calls Try.prog 52 #[v] w fun e w' => ∃ f cb, e = .returned (.agg #[.int .i64 r.before.length, .bool r.start, .func (.func f) #[] cb]) ∧ (∀ args w, (callFunc f args).run Try.prog w = .ok (.enter f args) w) ∧ K.Tell w' f cb r.before.reverse ∧ Below w.heap.size w w' := by
  have hmf : ∀ (fn : Fn) (first cap : Array Value) (w : World), (Instr.makeFunc fn first cap).run Try.prog w = .ok (.func fn first cap) w := fun _ _ _ _ => rfl
  obtain ⟨bo, bc, so, sc, ao, ac, tgo, tc, rfl, h1, h2, h3, h4, h5⟩ := R
  have HS : Hid (K.Ss w (.slice bo r.before.length bc) r.before) := h1
  have hfew := h1.few
  clear h1 h2 h3 h4 h5
  obtain ⟨st, fi, be, sou, af, ta, cu⟩ := r
  simp only at HS hfew ⊢
  have e1 : -9223372036854775808 ≤ (be.length : Int) - 1 := by omega
  have e2 : (be.length : Int) - 1 ≤ 9223372036854775807 := by omega
  go_enter Try.func52, Try.ntmps52
  go_wp2
  have hx := K.three_new w (.cells #[.bool st, .bool fi, .slice bo be.length bc, .slice so sou.length sc, .slice ao af.length ac, .slice tgo ta.length tc, .int .i64 cu] 58) (.cells #[.int .i64 be.length, .bool st, .func (.func 69) #[] #[.pointer (some ⟨w.heap.size, 0, none⟩), .pointer (some ⟨w.heap.size + 1 + 1, 0, none⟩)]] 108) (.cells #[.int .i64 ((be.length : Int) - 1)] 3)
  refine bodyPost_ret (v := .agg #[.int .i64 be.length, .bool st, .func (.func 69) #[] #[.pointer (some ⟨w.heap.size, 0, none⟩), .pointer (some ⟨w.heap.size + 1 + 1, 0, none⟩)]]) (by simp [results, Try.results52, go_sem, *]) rfl ?_
  exact ⟨69, _, rfl, enters_of Try.func69 (by kernel_rfl) rfl, backward1_any _ _ _ bo bc be (HS.out.below hx.2.2.2) (K.at_box (i := 2) hx.1 rfl) (K.at_box (i := 0) hx.2.2.1 rfl), hx.2.2.2⟩

set_option maxHeartbeats 2000000 in
theorem forward_any (w : World) (v : Value) (r : K.Rule) (R : K.RuIs w v r) :
    Calls Try.prog 53 #[v] w fun e w' => ∃ f cb, e = .returned (.agg #[.int .i64 ((r.source.length : Int) + r.after.length), .bool r.fin, .func (.func f) #[] cb]) ∧ (∀ args w, (callFunc f args).run Try.prog w = .ok (.enter f args) w) ∧ K.Tell w' f cb (r.source ++ r.after) ∧ Below w.heap.size w w' := by
  have hmf : ∀ (fn : Fn) (first cap : Array Value) (w : World), (Instr.makeFunc fn first cap).run Try.prog w = .ok (.func fn first cap) w := fun _ _ _ _ => rfl
  obtain ⟨bo, bc, so, sc, ao, ac, tgo, tc, rfl, h1, h2, h3, h4, h5⟩ := R
  have HS : Hid (K.Ss w (.slice so r.source.length sc) r.source) := h2
  have HA : Hid (K.Ss w (.slice ao r.after.length ac) r.after) := h3
  have hfew := h2.few
  have hfew' := h3.few
  clear h1 h2 h3 h4 h5
  obtain ⟨st, fi, be, sou, af, ta, cu⟩ := r
  simp only at HS HA hfew hfew' ⊢
  have e1 : -9223372036854775808 ≤ (sou.length : Int) + af.length := by omega
  have e2 : (sou.length : Int) + af.length ≤ 9223372036854775807 := by omega
  go_enter Try.func53, Try.ntmps53
  go_wp2
  have hx := K.three_new w (.cells #[.bool st, .bool fi, .slice bo be.length bc, .slice so sou.length sc, .slice ao af.length ac, .slice tgo ta.length tc, .int .i64 cu] 58) (.cells #[.int .i64 ((sou.length : Int) + af.length), .bool fi, .func (.func 70) #[] #[.pointer (some ⟨w.heap.size + 1 + 1, 0, none⟩), .pointer (some ⟨w.heap.size, 0, none⟩)]] 108) (.cells #[.int .i64 (sou.length : Int)] 3)
  refine bodyPost_ret (v := .agg #[.int .i64 ((sou.length : Int) + af.length), .bool fi, .func (.func 70) #[] #[.pointer (some ⟨w.heap.size + 1 + 1, 0, none⟩), .pointer (some ⟨w.heap.size, 0, none⟩)]]) (by simp [results, Try.results53, go_sem, *]) rfl ?_
  exact ⟨70, _, rfl, enters_of Try.func70 (by kernel_rfl) rfl, forward1_any _ _ _ so ao sc ac sou af (HS.out.below hx.2.2.2) (HA.out.below hx.2.2.2) (K.at_box (i := 3) hx.1 rfl) (K.at_box (i := 4) hx.1 rfl) (K.at_box (i := 0) hx.2.2.1 rfl), hx.2.2.2⟩

end Go.Proofs.Ytackaadejnbfmaa
