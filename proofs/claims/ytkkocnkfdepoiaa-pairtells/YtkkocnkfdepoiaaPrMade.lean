/-
  Rules in memory: one of many, the first ones of many; the set with which a rule begins.
-/
import Derived.Test.YtkkocnkfdepoiaaYHead
import Derived.Test.YtkkocnkfdepoiaaQWrong
import Derived.Test.YtkkocnkfdepoiaaQApp
import Derived.Test.YtkkocnkfdepoiaaYReachR
import Derived.Test.YtkkocnkfdepoiaaSSubP
import Derived.Deep.RegionWith
import Derived.BigQuiet
namespace Go.Proofs.Ytkkocnkfdepoiaa
open Go.RowKit Go.Shelf
set_option maxRecDepth 20000
set_option linter.unusedSimpArgs false
set_option linter.unusedVariables false

namespace K
/-- a rule among many: its cells -/
theorem Rus.rule {w : World} {ao : Option Addr} {n cap : Nat} {l : List Rule} (h : V.Rus w (.slice ao n cap) l) {j : Nat} {p : Rule} (hp : l[j]? = some p) :
    ∃ b off bo bc so sc ao2 ac tgo tc, ao = some ⟨b, off, none⟩ ∧
      w.cell? ⟨b, off + j * 7, none⟩ = some (.bool p.start) ∧ w.cell? ⟨b, off + j * 7 + 1, none⟩ = some (.bool p.fin) ∧ w.cell? ⟨b, off + j * 7 + 2, none⟩ = some (.slice bo p.before.length bc) ∧ w.cell? ⟨b, off + j * 7 + 3, none⟩ = some (.slice so p.source.length sc) ∧ w.cell? ⟨b, off + j * 7 + 4, none⟩ = some (.slice ao2 p.after.length ac) ∧ w.cell? ⟨b, off + j * 7 + 5, none⟩ = some (.slice tgo p.target.length tc) ∧ w.cell? ⟨b, off + j * 7 + 6, none⟩ = some (.int .i64 p.cursor) ∧
      RuIs w (.agg #[.bool p.start, .bool p.fin, .slice bo p.before.length bc, .slice so p.source.length sc, .slice ao2 p.after.length ac, .slice tgo p.target.length tc, .int .i64 p.cursor]) p := by
  obtain ⟨ao', cap', e', _, hcs⟩ := h
  cases e'
  obtain ⟨b, off, rfl, hcell⟩ := hcs (by intro h; subst h; simp at hp)
  obtain ⟨bo, bc, so, sc, ao, ac, tgo, tc, h⟩ := hcell j p hp
  exact ⟨b, off, bo, bc, so, sc, ao, ac, tgo, tc, rfl, h⟩
/-- the first ones of many rules -/
theorem Rus.upto {w : World} {ao : Option Addr} {n cap : Nat} {l : List Rule} (h : V.Rus w (.slice ao n cap) l) {k : Nat} (hk : k ≤ l.length) (c : Nat) : V.Rus w (.slice ao k c) (l.take k) := by
  have hf := h.few
  obtain ⟨ao', cap', e', _, hcs⟩ := h
  cases e'
  refine ⟨ao, c, by rw [List.length_take, Nat.min_eq_left hk], by rw [List.length_take]; omega, fun hz => ?_⟩
  obtain ⟨b, off, rfl, hcell⟩ := hcs (by intro h; subst h; simp at hz)
  refine ⟨b, off, rfl, fun j r hj => ?_⟩
  rw [List.getElem?_take] at hj
  split at hj
  · exact hcell j r hj
  · cases hj
theorem head_at {r : Rule} {s : List S.Sp} (h : r.source[0]? = some s) : headS r = s := by
  unfold headS
  cases hq : r.source with
  | nil => rw [hq] at h; simp at h
  | cons y l => rw [hq] at h; simpa using h
theorem head_ok {r : Rule} (h : ruleE r = 0) : S.Nf 0 (headS r) ∧ (headS r).length ≤ 200 := by
  obtain ⟨_, h2, _, h4, _⟩ := ruleE_zero h
  obtain ⟨s, hs⟩ : ∃ s, r.source[0]? = some s := ⟨r.source[0], by simp⟩
  rw [head_at hs]
  exact h2.2 s (List.mem_of_getElem? hs)
end K

end Go.Proofs.Ytkkocnkfdepoiaa

/-
  What rules make of a number, and of all of a domain: pair.made, pair.images.
-/
namespace Go.Proofs.Ytkkocnkfdepoiaa
open Go.RowKit Go.Shelf
set_option maxRecDepth 20000
set_option linter.unusedSimpArgs false
set_option linter.unusedVariables false

set_option maxHeartbeats 1000000 in
theorem made1_any (w : World) (va : Value) (r : K.Rule) (u : Int) (bx : Nat) (Ra : K.RuIs w va r) (hr : K.ruleE r = 0) (hc : w.heap[bx]? = some (.cells #[.int .i32 u] 21)) :
    Calls Try.prog 76 (#[va] ++ #[.pointer (some ⟨bx, 0, none⟩)]) w fun e w' => e = .returned (.bool (Pr.hitB u r)) ∧ Below w.heap.size w w' := by
  have hbl := (Array.getElem?_eq_some_iff.1 hc).1
  have x0 : ∀ o, (w.alloc o).cell? ⟨bx, 0, none⟩ = some (.int .i32 u) := fun o => K.alloc_cell (K.at_box (i := 0) hc rfl) o
  obtain ⟨s, hs⟩ : ∃ s, r.source[0]? = some s := ⟨r.source[0]'(K.ruleE_zero hr).2.2.2.1, by simp⟩
  have hok := K.head_ok hr
  have hsm := (K.ruleE_zero hr).2.1.1
  unfold Pr.hitB
  rw [K.head_at hs] at hok ⊢
  obtain ⟨bo, bc, so, sc, ao, ac, tt, tc, rfl, _, hS, _⟩ := Ra
  have hsl := (K.ruleE_zero hr).2.2.2.1
  obtain ⟨gb, go, s2, c2, rfl, hc0, hr0, _⟩ := hS.at hs
  rw [Nat.add_zero] at hc0
  have hcc : ∀ o, (w.alloc o).cell? ⟨gb, go, none⟩ = some (.slice s2 s.length c2) := fun o => K.alloc_cell hc0 o
  have HH : Hid (∀ o W, Below (w.alloc o).heap.size (w.alloc o) W → Calls Try.prog 9 #[.slice s2 s.length c2, .int .i32 u] W fun e w' => e = .returned (.bool (S.memb s u)) ∧ Below w.heap.size w w') := fun o W hW => by
    have hB : Below w.heap.size w W := ((Below.refl _ w).alloc (Nat.le_refl _) o).trans (hW.mono (by simp))
    exact (has_any W _ s u (hr0.below hB (Nat.le_refl _)) hok.1 hok.2).mono fun e w' ⟨h1, h2⟩ => ⟨h1, hB.trans (h2.mono hB.size)⟩
  have HA : Hid (∀ o, Below w.heap.size w (w.alloc o)) := fun o => (Below.refl _ w).alloc (Nat.le_refl _) o
  generalize S.memb s u = z at HH ⊢
  obtain ⟨st, fi, be, sou, af, ta, cu⟩ := r
  simp only at hsl hsm ⊢
  clear hc hs hok hS hr0 hc0 hr
  show Calls Try.prog 76 #[_, .pointer (some ⟨bx, 0, none⟩)] w _
  by_cases q : sou.length = 1
  · rw [q, show (decide ((1 : Nat) = 1) && z) = z from by simp]
    go_enter Try.func76, Try.ntmps76
    go_wp2_with fail
    go_region_with (go_at_call 9; refine (HH.out _ _ (by first | exact Below.refl _ _ | exact (Below.refl _ _).drew)).mono ?_; rintro e w1 ⟨rfl, z1⟩)
    all_goals go_wp2
    all_goals go_ret
    all_goals exact ⟨rfl, by assumption⟩
  · have q2 : ((sou.length : Int) == 1) = false := by simp; omega
    have q3 : decide ((sou.length : Int) = 1) = false := by simp; omega
    have q4 : decide (sou.length = 1) = false := by simp; omega
    rw [q4, Bool.false_and]
    go_enter Try.func76, Try.ntmps76
    go_wp2_with fail
    go_quiet (fail)
    go_wp2
    go_ret
    exact ⟨by simp, below_drewN (HA.out _) _⟩

set_option maxHeartbeats 1000000 in
theorem made_any (w0 w : World) (hB : Below w0.heap.size w0 w) (v : Value) (l : List K.Rule) (R0 : V.Rus w0 v l) (hl : l.length ≤ 200) (hE : ∀ r ∈ l, K.ruleE r = 0) (u : Int) :
    Calls Try.prog 59 #[v, .int .i32 u] w fun e w' => ∃ v', e = .returned v' ∧ L.Rd w' v' .i32 (Pr.made l u) ∧ (Pr.made l u ≠ [] → ∀ g, v'.ownBlock = some g → g < w0.heap.size ∨ w.heap.size ≤ g) ∧ Below w.heap.size w w' := by
  have hmf : ∀ (fn : Fn) (first cap : Array Value) (w : World), (Instr.makeFunc fn first cap).run Try.prog w = .ok (.func fn first cap) w := fun _ _ _ _ => rfl
  obtain ⟨X, hX⟩ : ∃ X, X = w.alloc (.cells #[.int .i32 u] 21) := ⟨_, rfl⟩
  have hb := K.one_box (w := w) (Below.refl _ (w.alloc (.cells #[.int .i32 u] 21)))
  rw [← hX] at hb
  have HC : Hid (Calls Try.prog 67 #[v, .func (.func 76) #[] #[.pointer (some ⟨w.heap.size, 0, none⟩)]] X fun e w' => e = .returned (.int .i64 (Pr.firstI (Pr.hitB u) l)) ∧ Below X.heap.size X w') :=
    ruFirst_any X v l ((R0.below hB).below hb.2.1) 76 _ (Pr.hitB u) (enters_of Try.func76 (by kernel_rfl) rfl)
      (fun W r v' hW hr hu => made1_any W v' r u w.heap.size hu (hE r hr) (K.blk_below hb.1 hW))
  have HX : Hid (X.heap[w.heap.size]? = some (.cells #[.int .i32 u] 21) ∧ Below w.heap.size w X ∧ w.heap.size + 1 ≤ X.heap.size) := hb
  have HR : Hid (V.Rus w0 v l ∧ Below w0.heap.size w0 w) := ⟨R0, hB⟩
  obtain ⟨aa, ca, rfl⟩ := R0.len
  clear R0 hb hE hB
  rcases Pr.firstI_is (P := Pr.hitB u) (l := l) with hk | ⟨j, r, hj, hh, hk⟩
  · have hm : Pr.made l u = [u] := by unfold Pr.made; rw [hk, if_pos (by decide)]
    rw [hm]
    rw [hk] at HC
    clear hk hm
    go_enter Try.func59, Try.ntmps59
    go_wp2_with fail
    rw [← hX]
    refine HC.out.mono ?_
    rintro e w1 ⟨rfl, b1⟩
    have h1 := K.blk_below HX.out.1 b1
    have y0 := K.at_box (i := 0) h1 rfl
    have HB1 : Hid (Below w.heap.size w w1) := HX.out.2.1.trans (b1.mono (by have := HX.out.2.2; omega))
    clear b1 HC hX h1
    have HN : Hid (∀ o, Below w.heap.size w (w1.alloc o)) := fun o => HB1.out.alloc HB1.out.size o
    have HNw : Hid ((w1.alloc (.cells #[.int .i32 u] 21)).heap[w1.heap.size]? = some (.cells #[.int .i32 u] 21)) := heap_alloc_new w1 _
    have HSz : Hid (w.heap.size ≤ w1.heap.size) := HB1.out.size
    go_wp2
    go_ret
    refine ⟨_, rfl, ⟨_, _, rfl, fun e => (by cases e), fun _ => ⟨_, 0, rfl, fun j y hj => ?_⟩⟩, fun _ g hg => ?_, HN.out _⟩
    · match j, hj with
      | 0, hj => cases hj; exact K.at_box HNw.out rfl
      | n + 1, hj => simp at hj
    · cases hg; exact .inr HSz.out
  · have hm : Pr.made l u = r.target := by unfold Pr.made; rw [hk, if_neg (by omega), Int.toNat_natCast, hj]; rfl
    rw [hm]
    rw [hk] at HC
    clear hk hm hh
    have hjl := (List.getElem?_eq_some_iff.1 hj).1
    have hjz : (j : Int) < (l.length : Int) := by omega
    obtain ⟨ao', cap', e', _, hcs⟩ := HR.out.1
    cases e'
    obtain ⟨b, off, rfl, hcell⟩ := hcs (by intro h; subst h; simp at hj)
    obtain ⟨bo, bc, so, sc, ao, ac, tgo, tc, _, _, _, _, _, a5, _, hP⟩ := hcell j r hj
    obtain ⟨bo', bc', so', sc', ao', ac', tgo', tc', e', _, _, _, hT, _⟩ := hP
    have e2 := Value.agg.inj e'
    simp only [Array.mk.injEq, List.cons.injEq, Value.slice.injEq, true_and, and_true] at e2
    obtain ⟨⟨rfl, rfl⟩, ⟨rfl, rfl⟩, ⟨rfl, rfl⟩, rfl, rfl⟩ := e2
    have HT : Hid (L.Rd w0 (.slice tgo r.target.length tc) .i32 r.target ∧ (r.target ≠ [] → ∀ g, (Value.slice tgo r.target.length tc).ownBlock = some g → g < w0.heap.size ∨ w.heap.size ≤ g)) := by
      refine ⟨hT, fun hne g hg => .inl ?_⟩
      obtain ⟨a, c, e, _, hc⟩ := hT
      cases e
      obtain ⟨b', o', rfl, hc'⟩ := hc hne
      cases hg
      obtain ⟨z, zs, hz⟩ := List.exists_cons_of_ne_nil hne
      exact L.block_lt (hc' 0 z (by rw [hz]; rfl))
    have HA5 : Hid (w0.cell? ⟨b, off + j * 7 + 5, none⟩ = some (.slice tgo r.target.length tc)) := a5
    clear hT hcs hcell hj e' a5
    go_enter Try.func59, Try.ntmps59
    go_wp2_with fail
    rw [← hX]
    refine HC.out.mono ?_
    rintro e w1 ⟨rfl, b1⟩
    have HB1 : Hid (Below w.heap.size w w1) := HX.out.2.1.trans (b1.mono (by have := HX.out.2.2; omega))
    have HB0 : Hid (Below w0.heap.size w0 w1) := HR.out.2.trans (HB1.out.mono HR.out.2.size)
    have c5 : w1.cell? ⟨b, off + j * 7 + 5, none⟩ = some (.slice tgo r.target.length tc) := by rw [HB0.out.cell (p := ⟨b, off + j * 7 + 5, none⟩) (L.block_lt HA5.out)]; exact HA5.out
    clear b1 HC hX
    go_wp2
    go_ret
    exact ⟨_, rfl, HT.out.1.below HB0.out (Nat.le_refl _), HT.out.2, HB1.out⟩

theorem Try.infoImage : (Try.prog.info? 92).map (fun i => (i.zero, i.size, i.bytes)) = some (some (.agg #[.int .i32 0, .slice none 0 0]), 2, 32) := by kernel_rfl
namespace Pr
def IRow (w : World) (g : Nat) (cur : List Value) : Prop := w.heap[g]? = some (.cells cur.toArray 92 (0, 0))
theorem IRow.cell {w : World} {g : Nat} {cur : List Value} (h : IRow w g cur) (j : Nat) : w.cell? ⟨g, j, none⟩ = cur[j]? := by
  simp [World.cell?, show w.heap[g]? = _ from h]
theorem IRow.free {w : World} {g : Nat} {cur : List Value} (h : IRow w g cur) (j : Nat) : w.frozen? ⟨g, j, none⟩ = false := frozen_of_row w g j _ _ h
theorem IRow.set {w : World} {g k : Nat} {cur : List Value} (h : IRow w g cur) (u : Value) : IRow (w.setCell ⟨g, k, none⟩ u) g (cur.set k u) := by
  have := heap_setCell_same w g k _ _ u h
  unfold IRow
  rw [this]
  simp
theorem make_ims (w : World) (n : Nat) (hn : n ≤ 8000) : ∃ W cur, (∀ kl kc, (Instr.makeSlice 70 (.int kl (n : Int)) (.int kc (n : Int))).run Try.prog w = .ok (.slice (some ⟨w.heap.size, 0, none⟩) n n) W) ∧ IRow W w.heap.size cur ∧ cur.length = n * 2 ∧ Below w.heap.size w W := by
  obtain ⟨i0, hi, hz0, hz1, hz2⟩ := info_parts Try.infoImage
  have hr := fun kl kc => run_make (P := Try.prog) w 70 92 i0 (.agg #[.int .i32 0, .slice none 0 0]) Try.underlying70 hi hz0 kl kc n n (by omega) (Int.le_refl _) (by rw [hz2]; omega) (by omega)
  simp only [Int.toNat_natCast] at hr
  have h1 := Go.heap_alloc_new w (.cells (madeCells (Value.agg #[.int .i32 0, .slice none 0 0]).cells (n * i0.size)) 92)
  refine ⟨_, (madeCells (Value.agg #[.int .i32 0, .slice none 0 0]).cells (n * i0.size)).toList, hr, ?_, ?_, (Below.refl _ w).alloc (Nat.le_refl _) _⟩
  · unfold IRow
    rw [h1]
  · rw [hz1]; simp [madeCells]
/-- where the loop over the domain stands -/
def Mk (forth : List K.Rule) (dom : List Int) (w wr : World) (k : Nat) (cur : List Value) : Prop :=
  IRow wr w.heap.size cur ∧ cur.length = dom.length * 2 ∧ Below w.heap.size w wr ∧ ∀ (j : Nat) u, j < k → dom[j]? = some u → ∃ mo mc, cur[j * 2]? = some (.int .i32 u) ∧ cur[j * 2 + 1]? = some (.slice mo (made forth u).length mc) ∧ L.Rd wr (.slice mo (made forth u).length mc) .i32 (made forth u) ∧ (made forth u ≠ [] → (Value.slice mo (made forth u).length mc).ownBlock ≠ some w.heap.size)
theorem Mk.below {forth : List K.Rule} {dom : List Int} {w wr w' : World} {k : Nat} {cur : List Value} (h : Mk forth dom w wr k cur) (hb : Below wr.heap.size wr w') : Mk forth dom w w' k cur := by
  obtain ⟨h1, h2, h3, h4⟩ := h
  refine ⟨K.blk_below h1 hb, h2, h3.trans (hb.mono h3.size), fun j u hj hu => ?_⟩
  obtain ⟨mo, mc, g1, g2, g3, g4⟩ := h4 j u hj hu
  exact ⟨mo, mc, g1, g2, g3.below hb (Nat.le_refl _), g4⟩
theorem Mk.put {forth : List K.Rule} {dom : List Int} {w wr : World} {k : Nat} {cur : List Value} (h : Mk forth dom w wr k cur) {u : Int} (hu : dom[k]? = some u) {mo : Option Addr} {mc : Nat} (hr : L.Rd wr (.slice mo (made forth u).length mc) .i32 (made forth u)) (hne : made forth u ≠ [] → (Value.slice mo (made forth u).length mc).ownBlock ≠ some w.heap.size) :
    Mk forth dom w ((wr.setCell ⟨w.heap.size, k * 2, none⟩ (.int .i32 u)).setCell ⟨w.heap.size, k * 2 + 1, none⟩ (.slice mo (made forth u).length mc)) (k + 1) ((cur.set (k * 2) (.int .i32 u)).set (k * 2 + 1) (.slice mo (made forth u).length mc)) := by
  obtain ⟨h1, h2, h3, h4⟩ := h
  have keep : ∀ v z, L.Rd wr v .i32 z → (z ≠ [] → v.ownBlock ≠ some w.heap.size) → L.Rd ((wr.setCell ⟨w.heap.size, k * 2, none⟩ (.int .i32 u)).setCell ⟨w.heap.size, k * 2 + 1, none⟩ (.slice mo (made forth u).length mc)) v .i32 z := fun v z hv hz => by
    refine K.rd_block hv fun hz1 b hb => ?_
    have : b ≠ w.heap.size := fun e => hz hz1 (by rw [hb, e])
    rw [heap_setCell_other _ ⟨w.heap.size, k * 2 + 1, none⟩ b _ (by simpa using this), heap_setCell_other _ ⟨w.heap.size, k * 2, none⟩ b _ (by simpa using this)]
  have hlt := (List.getElem?_eq_some_iff.1 hu).1
  refine ⟨(h1.set _).set _, by simpa using h2, (h3.setCell (p := ⟨w.heap.size, k * 2, none⟩) (Nat.le_refl _) _).setCell (p := ⟨w.heap.size, k * 2 + 1, none⟩) (Nat.le_refl _) _, fun j q hj hq => ?_⟩
  by_cases e : j = k
  · subst e
    rw [hu] at hq
    cases hq
    refine ⟨mo, mc, ?_, ?_, keep _ _ hr hne, hne⟩
    · rw [List.getElem?_set_ne (by omega)]; exact List.getElem?_set_self (by omega)
    · exact List.getElem?_set_self (by simp; omega)
  · obtain ⟨mo', mc', g1, g2, g3, g4⟩ := h4 j q (by omega) hq
    refine ⟨mo', mc', ?_, ?_, keep _ _ g3 g4, g4⟩
    · rw [List.getElem?_set_ne (by omega), List.getElem?_set_ne (by omega)]; exact g1
    · rw [List.getElem?_set_ne (by omega), List.getElem?_set_ne (by omega)]; exact g2
end Pr

set_option maxHeartbeats 2000000 in
theorem images_any (w : World) (v : Value) (l : List K.Rule) (R0 : V.Rus w v l) (hl : l.length ≤ 200) (hE : ∀ r ∈ l, K.ruleE r = 0) (vd : Value) (dom : List Int) (Rd : L.Rd w vd .i32 dom) (hd : dom.length ≤ 40) :
    Calls Try.prog 35 #[v, vd] w fun e w' => ∃ v', e = .returned v' ∧ Pr.Ims w' v' (Pr.images l dom) ∧ Below w.heap.size w w' := by
  have HR : Hid (V.Rus w v l ∧ ∀ r ∈ l, K.ruleE r = 0) := ⟨R0, hE⟩
  obtain ⟨W, cur0, hmk, hrow, hcl, hB⟩ := Pr.make_ims w dom.length (by omega)
  have HW : Hid (Pr.Mk l dom w W 0 cur0) := ⟨hrow, hcl, hB, fun j p hj => by omega⟩
  obtain ⟨aa, ca, rfl⟩ := R0.len
  obtain ⟨xo, xc, rfl, _, hcs⟩ := Rd
  have HC : Hid (dom ≠ [] → ∃ b off, xo = some ⟨b, off, none⟩ ∧ ∀ j z, dom[j]? = some z → w.cell? ⟨b, off + j, none⟩ = some (.int .i32 z)) := hcs
  clear R0 hE hrow hB hcl hcs
  go_enter Try.func35, Try.ntmps35
  go_wp2
  go_loopw [13] (fun i wr => ∃ (k : Nat) (cur : List Value), k ≤ dom.length ∧ i = .int .i64 k ∧ Hid (Pr.Mk l dom w wr k cur)) (fun i _ => dom.length - (intOf i).toNat)
  case atStart => exact ⟨0, _, Nat.zero_le _, rfl, HW⟩
  case round =>
    obtain ⟨k, cur, hk, rfl, HI⟩ := hrel
    by_cases hlt : k < dom.length
    · obtain ⟨u, hu⟩ : ∃ x, dom[k]? = some x := ⟨dom[k], by simp [hlt]⟩
      obtain ⟨b, off, rfl, hcell⟩ := HC.out (by intro h; rw [h] at hlt; simp at hlt)
      have c0 := hcell k u hu
      rw [← HI.out.2.2.1.cell (p := ⟨b, off + k, none⟩) (L.block_lt c0)] at c0
      have HM := made_any w wr HI.out.2.2.1 _ l HR.out.1 hl HR.out.2 u
      have HMd : Hid (Calls Try.prog 59 #[.slice aa l.length ca, .int .i32 u] wr fun e w' => ∃ v', e = .returned v' ∧ L.Rd w' v' .i32 (Pr.made l u) ∧ (Pr.made l u ≠ [] → ∀ g, v'.ownBlock = some g → g < w.heap.size ∨ wr.heap.size ≤ g) ∧ Below wr.heap.size wr w') := HM
      have HQ : Hid (dom[k]? = some u) := hu
      clear hcell hu HM
      go_wp2_with fail
      refine HMd.out.mono ?_
      rintro e w1 ⟨v1, rfl, d1, n1, b1⟩
      have hsz : w.heap.size < wr.heap.size := lt_of_block HI.out.1
      have hM1 := HI.out.below b1
      obtain ⟨mo, mc, rfl⟩ : ∃ mo mc, v1 = .slice mo (Pr.made l u).length mc := by obtain ⟨a, c, h, _⟩ := d1; exact ⟨a, c, h⟩
      have hput := hM1.put HQ.out d1 (fun h e => by have := n1 h _ e; omega)
      have hcl : k * 2 + 1 < cur.length := by have := HI.out.2.1; omega
      obtain ⟨n, hn⟩ : ∃ n, n = (Pr.made l u).length := ⟨_, rfl⟩
      rw [← hn] at hput
      have HN : Hid (Pr.Mk l dom w ((w1.setCell ⟨w.heap.size, k * 2, none⟩ (.int .i32 u)).setCell ⟨w.heap.size, k * 2 + 1, none⟩ (.slice mo n mc)) (k + 1) ((cur.set (k * 2) (.int .i32 u)).set (k * 2 + 1) (.slice mo n mc))) := hput
      have k1 : w1.cell? ⟨w.heap.size, k * 2, none⟩ = some (cur[k * 2]) := by rw [hM1.1.cell]; simp [show k * 2 < cur.length by omega]
      have k2 : w1.cell? ⟨w.heap.size, k * 2 + 1, none⟩ = some (cur[k * 2 + 1]) := by rw [hM1.1.cell]; simp [hcl]
      have fz1 : w1.frozen? ⟨w.heap.size, k * 2, none⟩ = false := hM1.1.free _
      have fz2 : w1.frozen? ⟨w.heap.size, k * 2 + 1, none⟩ = false := hM1.1.free _
      rw [← hn]
      clear b1 hM1 HMd d1 n1 hput hn
      go_wp2
      go_roundw
      case rel => exact ⟨k + 1, _, by omega, by go_num, HN⟩
      case measure => simp [intOf]; omega
    · have hkl : k = dom.length := by omega
      subst hkl
      go_wp2
      go_ret
      obtain ⟨h1, h2, h3, h4⟩ := HI.out
      have hil : (Pr.images l dom).length = dom.length := by unfold Pr.images; simp
      refine ⟨_, rfl, ⟨_, _, by rw [hil]; rfl, by rw [hil]; omega, fun _ => ⟨w.heap.size, 0, rfl, fun j m hj => ?_⟩⟩, h3⟩
      unfold Pr.images at hj
      rw [List.getElem?_map] at hj
      cases hp : dom[j]? with
      | none => rw [hp] at hj; cases hj
      | some u =>
        rw [hp] at hj
        cases hj
        obtain ⟨mo, mc, g1, g2, g3, _⟩ := h4 j u (List.getElem?_eq_some_iff.1 hp).1 hp
        exact ⟨mo, mc, by rw [h1.cell, Nat.zero_add]; exact g1, by rw [h1.cell, Nat.zero_add]; exact g2, g3⟩

end Go.Proofs.Ytkkocnkfdepoiaa
