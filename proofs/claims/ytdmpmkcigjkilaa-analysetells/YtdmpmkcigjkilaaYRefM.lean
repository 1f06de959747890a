/-
  Whether a rule masks another: the document's answer.
-/
import Derived.Test.YtdmpmkcigjkilaaYCov
import Derived.Test.YtdmpmkcigjkilaaSSubRef
import Derived.Test.YtdmpmkcigjkilaaMSets
namespace Go.Proofs.Ytdmpmkcigjkilaa
open Go.RowKit
set_option maxRecDepth 20000
set_option linter.unusedSimpArgs false
set_option linter.unusedVariables false

namespace K
theorem Ss.vs {w : World} {ao : Option Addr} {n c : Nat} {l : List (List S.Sp)} (h : Ss w (.slice ao n c) l) : n = l.length := by
  obtain ⟨_, _, _, he, _⟩ := h
  cases he; rfl
/-- two lists of sets, one behind the other, in a row of their own -/
theorem app_sets2 {w W0 : World} {va vb : Value} {a b : List (List S.Sp)} (Ra : Ss w va a) (Rb : Ss w vb b) (hW : Below w.heap.size w W0) (B : Nat) (hwB : w.heap.size ≤ B) (hB : B ≤ W0.heap.size) (v0 : Value) (own0 : W0.ownsRow B 23 1 v0 ([] : List Value).length []) (hl : a.length + b.length ≤ 900) :
    ∃ v1 w1 ao c w2, (∀ ty, (Builtin.append_ #[61, 61] ty #[v0, va]).run Try.prog W0 = .ok v1 w1) ∧ (∀ ty, (Builtin.append_ #[61, 61] ty #[v1, vb]).run Try.prog w1 = .ok (.slice ao (a ++ b).length c) w2) ∧
      Ss w2 (.slice ao (a ++ b).length c) (a ++ b) ∧ Below B W0 w2 ∧ Below B W0 w1 := by
  obtain ⟨us, Va⟩ := Ra.vals
  obtain ⟨vs, Vb⟩ := Rb.vals
  have ea : us.length = a.length := by obtain ⟨_, _, _, _, h, _⟩ := Va; exact h.1
  have eb : vs.length = b.length := by obtain ⟨_, _, _, _, h, _⟩ := Vb; exact h.1
  obtain ⟨v1, w1, run1, own1, gr1⟩ := app_sets W0 B v0 [] own0 va a us (Va.below hW) (by simp; omega) hB
  have b1 : Below B W0 w1 := (Below.refl _ W0).grown gr1 hB fun q hq => (own0.lt q hq).1
  have hw1 : Below w.heap.size w w1 := hW.trans (b1.mono hwB)
  obtain ⟨v2, w2, run2, own2, gr2⟩ := app_sets w1 B v1 _ own1 vb b vs (Vb.below hw1) (by simp; omega) (Nat.le_trans hB b1.size)
  have b2 : Below B w1 w2 := (Below.refl _ w1).grown gr2 (Nat.le_trans hB b1.size) fun q hq => (own1.lt q hq).1
  have hw2 : Below w.heap.size w w2 := hw1.trans (b2.mono hwB)
  have hS : Sets w (us ++ vs) (a ++ b) := by
    obtain ⟨_, _, _, _, h1, _⟩ := Va
    obtain ⟨_, _, _, _, h2, _⟩ := Vb
    exact h1.append h2
  have hlen : ([] ++ us ++ vs).length = (a ++ b).length := by simp [ea, eb]
  rw [hlen] at own2
  have hc2 := fun g hg => World.ownsRow.cells own2 (g := g) hg
  have hsl : ∃ ao c, v2 = .slice ao (a ++ b).length c ∧ (ao = none → c = 0) ∧ (a ++ b ≠ [] → ∃ g, ao = some ⟨g, 0, none⟩) := by
    rcases own2.2 with ⟨h, h0⟩ | ⟨g, cp, cur, h, _⟩
    · exact ⟨none, 0, by rw [h, h0], fun _ => rfl, fun hz => by have := List.length_pos_iff.2 hz; omega⟩
    · exact ⟨_, cp, h, fun h => by simp at h, fun _ => ⟨g, rfl⟩⟩
  obtain ⟨ao, c, rfl, hn, hg⟩ := hsl
  refine ⟨v1, w1, ao, c, w2, run1, run2, ⟨ao, c, us ++ vs, rfl, hn, by rw [List.length_append]; omega, hS.below hw2, fun hz => ?_⟩, b1.trans b2, b1⟩
  obtain ⟨g, rfl⟩ := hg hz
  refine ⟨g, 0, rfl, fun j u hj => ?_⟩
  have := hc2 g rfl j u (by simpa using hj)
  rw [L.addr_add] at this
  exact this
/-- as the document reckons it: first what stands ahead, then what stands behind, then the ends -/
theorem masks_back {a b : Rule} (h : b.before.length < a.before.length) : masksB a b = false := by
  unfold masksB
  rw [covers_short (by simpa using h), Bool.false_and]
theorem masks_back_no {a b : Rule} {i : Nat} {s u : List S.Sp} (h1 : a.before.reverse[i]? = some s) (h2 : b.before.reverse[i]? = some u) (h : subF u s = false) : masksB a b = false := by
  unfold masksB
  rw [covers_no h1 h2 h, Bool.false_and]
theorem masks_ahead {a b : Rule} (h : (b.source ++ b.after).length < (a.source ++ a.after).length) : masksB a b = false := by
  unfold masksB
  rw [covers_short (e1 := a.fin) (e2 := b.fin) h, Bool.and_false]
theorem masks_ahead_no {a b : Rule} {i : Nat} {s u : List S.Sp} (h1 : (a.source ++ a.after)[i]? = some s) (h2 : (b.source ++ b.after)[i]? = some u) (h : subF u s = false) : masksB a b = false := by
  unfold masksB
  rw [covers_no (e1 := a.fin) (e2 := b.fin) h1 h2 h, Bool.and_false]
/-- where all sets are within each other the ends alone are asked -/
theorem masks_ends {a b : Rule} (hl : a.before.length ≤ b.before.length) (hs : ∀ (i : Nat) s u, a.before.reverse[i]? = some s → b.before.reverse[i]? = some u → subF u s = true) (hl2 : (a.source ++ a.after).length ≤ (b.source ++ b.after).length) (hs2 : ∀ (i : Nat) s u, (a.source ++ a.after)[i]? = some s → (b.source ++ b.after)[i]? = some u → subF u s = true) :
    masksB a b = (!(a.start && !(b.start && decide (a.before.length = b.before.length))) && !(a.fin && !(b.fin && decide ((a.source ++ a.after).length = (b.source ++ b.after).length)))) := by
  unfold masksB coversB
  rw [withinB_iff.2 ⟨by simpa using hl, hs⟩, withinB_iff.2 ⟨hl2, hs2⟩]
  simp
end K

set_option maxHeartbeats 8000000 in
theorem rMasks9_any (w : World) (va vb : Value) (a b : K.Rule) (Ra : K.RuIs w va a) (Rb : K.RuIs w vb b) (ha : K.ruleE a = 0) (hb : K.ruleE b = 0) :
    Calls Try.prog 25 #[va, vb] w fun e w' => e = .returned (.bool (K.masksB a b)) ∧ Below w.heap.size w w' := by
  obtain ⟨ga1, ga2, ga3, ga4, _⟩ := K.ruleE_zero ha
  obtain ⟨gb1, gb2, gb3, gb4, _⟩ := K.ruleE_zero hb
  obtain ⟨abo, abc, aso, asc, aao, aac, ato, atc, rfl, sa1, sa2, sa3, _⟩ := Ra
  obtain ⟨bbo, bbc, bso, bsc, bao, bac, bto, btc, rfl, sb1, sb2, sb3, _⟩ := Rb
  have hx := K.two_boxes (w := w) (Below.refl _ ((w.alloc (.cells #[.bool a.start, .bool a.fin, .slice abo a.before.length abc, .slice aso a.source.length asc, .slice aao a.after.length aac, .slice ato a.target.length atc, .int .i64 a.cursor] 64)).alloc (.cells #[.bool b.start, .bool b.fin, .slice bbo b.before.length bbc, .slice bso b.source.length bsc, .slice bao b.after.length bac, .slice bto b.target.length btc, .int .i64 b.cursor] 64)))
  obtain ⟨W0, hW0⟩ : ∃ W0, W0 = (w.alloc (.cells #[.bool a.start, .bool a.fin, .slice abo a.before.length abc, .slice aso a.source.length asc, .slice aao a.after.length aac, .slice ato a.target.length atc, .int .i64 a.cursor] 64)).alloc (.cells #[.bool b.start, .bool b.fin, .slice bbo b.before.length bbc, .slice bso b.source.length bsc, .slice bao b.after.length bac, .slice bto b.target.length btc, .int .i64 b.cursor] 64) := ⟨_, rfl⟩
  rw [← hW0] at hx
  have HX : Hid (W0.heap[w.heap.size]? = some (.cells #[.bool a.start, .bool a.fin, .slice abo a.before.length abc, .slice aso a.source.length asc, .slice aao a.after.length aac, .slice ato a.target.length atc, .int .i64 a.cursor] 64) ∧ W0.heap[w.heap.size + 1]? = some (.cells #[.bool b.start, .bool b.fin, .slice bbo b.before.length bbc, .slice bso b.source.length bsc, .slice bao b.after.length bac, .slice bto b.target.length btc, .int .i64 b.cursor] 64) ∧ Below w.heap.size w W0 ∧ w.heap.size + 2 ≤ W0.heap.size) := hx
  have HW0 : Hid (W0 = (w.alloc (.cells #[.bool a.start, .bool a.fin, .slice abo a.before.length abc, .slice aso a.source.length asc, .slice aao a.after.length aac, .slice ato a.target.length atc, .int .i64 a.cursor] 64)).alloc (.cells #[.bool b.start, .bool b.fin, .slice bbo b.before.length bbc, .slice bso b.source.length bsc, .slice bao b.after.length bac, .slice bto b.target.length btc, .int .i64 b.cursor] 64)) := hW0
  have HLo : Hid (∀ W, Below W0.heap.size W0 W → Below w.heap.size w W) := fun W hW => HX.out.2.2.1.trans (hW.mono (by have := HX.out.2.2.2; omega))
  have HSa : Hid (K.Ss w (.slice abo a.before.length abc) a.before ∧ K.Ss w (.slice aso a.source.length asc) a.source ∧ K.Ss w (.slice aao a.after.length aac) a.after) := ⟨sa1, sa2, sa3⟩
  have HSb : Hid (K.Ss w (.slice bbo b.before.length bbc) b.before ∧ K.Ss w (.slice bso b.source.length bsc) b.source ∧ K.Ss w (.slice bao b.after.length bac) b.after) := ⟨sb1, sb2, sb3⟩
  have HG : Hid (∀ s, s ∈ a.before ∨ s ∈ b.before ∨ s ∈ a.source ++ a.after ∨ s ∈ b.source ++ b.after → S.Nf 0 s ∧ s.length ≤ 200) := fun s hs => by
    rcases hs with h | h | h | h
    · exact ga1.2 s h
    · exact gb1.2 s h
    · exact (List.mem_append.1 h).elim (ga2.2 s) (ga3.2 s)
    · exact (List.mem_append.1 h).elim (gb2.2 s) (gb3.2 s)
  have la1 := ga1.1
  have la2 := ga2.1
  have la3 := ga3.1
  have lb1 := gb1.1
  have lb2 := gb2.1
  have lb3 := gb3.1
  have hkp : W0.cell? ⟨w.heap.size, 2, none⟩ = some (.slice abo a.before.length abc) ∧ W0.cell? ⟨w.heap.size + 1, 2, none⟩ = some (.slice bbo b.before.length bbc) := ⟨K.at_box (i := 2) hx.1 rfl, K.at_box (i := 2) hx.2.1 rfl⟩
  clear hx sa1 sa2 sa3 sb1 sb2 sb3 ga1 ga2 ga3 ga4 gb1 gb2 gb3 gb4 ha hb hkp hW0
  obtain ⟨mk, HMk⟩ : ∃ z, Hid (K.masksB a b = z) := ⟨_, rfl⟩
  rw [HMk.out]
  by_cases hshort : b.before.length < a.before.length
  · have h0 : mk = false := by rw [← HMk.out]; exact K.masks_back hshort
    subst h0
    go_enter Try.func25, Try.ntmps25
    go_wp2
    go_ret
    exact ⟨rfl, by rw [← HW0.out]; exact HX.out.2.2.1⟩
  · go_enter Try.func25, Try.ntmps25
    go_wp2
    go_loopw [5] (fun i wr => ∃ j : Nat, j ≤ a.before.length ∧ i = .int .i64 ((j : Int) + 1) ∧ Hid (∀ (i : Nat) s u, i < j → a.before.reverse[i]? = some s → b.before.reverse[i]? = some u → subF u s = true) ∧ Hid (Below W0.heap.size W0 wr)) (fun i _ => a.before.length + 1 - (intOf i).toNat)
    case atStart => exact ⟨0, Nat.zero_le _, rfl, fun i s u h => absurd h (Nat.not_lt_zero _), by show Below _ _ _; rw [← HW0.out]; exact Below.refl _ _⟩
    case round =>
      obtain ⟨j, hj, rfl, HI, HB⟩ := hrel
      have hXa := K.blk_below HX.out.1 HB.out
      have hXb := K.blk_below HX.out.2.1 HB.out
      by_cases hlt : j < a.before.length
      · obtain ⟨s, hs⟩ : ∃ s, a.before.reverse[j]? = some s := ⟨a.before.reverse[j]'(by simpa using hlt), List.getElem?_eq_getElem _⟩
        obtain ⟨u, hu⟩ : ∃ u, b.before.reverse[j]? = some u := ⟨b.before.reverse[j]'(by rw [List.length_reverse]; omega), List.getElem?_eq_getElem _⟩
        have HP : Hid (a.before.reverse[j]? = some s ∧ b.before.reverse[j]? = some u) := ⟨hs, hu⟩
        rw [List.getElem?_reverse hlt] at hs
        rw [List.getElem?_reverse (by omega)] at hu
        obtain ⟨ma, hma⟩ : ∃ m, a.before.length - 1 - j = m := ⟨_, rfl⟩
        obtain ⟨mb, hmb⟩ : ∃ m, b.before.length - 1 - j = m := ⟨_, rfl⟩
        rw [hma] at hs
        rw [hmb] at hu
        have ea : (a.before.length : Int) - ((j : Int) + 1) = (ma : Int) := by omega
        have eb : (b.before.length : Int) - ((j : Int) + 1) = (mb : Int) := by omega
        have lma : (ma : Int) < a.before.length := by omega
        have lmb : (mb : Int) < b.before.length := by omega
        have wa : IntKind.i64.wrap (ma : Int) = (ma : Int) := by rw [IntKind.wrap_i64]; omega
        have wb : IntKind.i64.wrap (mb : Int) = (mb : Int) := by rw [IntKind.wrap_i64]; omega
        obtain ⟨xa, oa, sa, ca, rfl, ka, ra, _⟩ := (HSa.out.1.below (HLo.out _ HB.out)).at hs
        obtain ⟨xb, ob, sb, cb, rfl, kb, rb, _⟩ := (HSb.out.1.below (HLo.out _ HB.out)).at hu
        have g1 := HG.out s (.inl (List.mem_of_getElem? hs))
        have g2 := HG.out u (.inr (.inl (List.mem_of_getElem? hu)))
        have HSub : Hid (∀ W, Below wr.heap.size wr W → Calls Try.prog 56 #[.slice sb u.length cb, .slice sa s.length ca] W fun e w' => e = .returned (.bool (subF u s)) ∧ Below W.heap.size W w') := fun W hW => refsub_any W _ _ u s (rb.below hW (Nat.le_refl _)) (ra.below hW (Nat.le_refl _)) g2.1 g1.1 g2.2 g1.2
        have HKp : Hid (∀ W, Below wr.heap.size wr W → W.cell? ⟨w.heap.size, 2, none⟩ = some (.slice (some ⟨xa, oa, none⟩) a.before.length abc) ∧ W.cell? ⟨w.heap.size + 1, 2, none⟩ = some (.slice (some ⟨xb, ob, none⟩) b.before.length bbc) ∧ W.cell? ⟨xa, oa + ma, none⟩ = some (.slice sa s.length ca) ∧ W.cell? ⟨xb, ob + mb, none⟩ = some (.slice sb u.length cb)) := fun W hW => ⟨K.at_box (i := 2) (K.blk_below hXa hW) rfl, K.at_box (i := 2) (K.blk_below hXb hW) rfl, by rw [hW.cell (p := ⟨xa, oa + ma, none⟩) (L.block_lt ka)]; exact ka, by rw [hW.cell (p := ⟨xb, ob + mb, none⟩) (L.block_lt kb)]; exact kb⟩
        have HQ0 : Hid (Below wr.heap.size wr wr.drew) := (Below.refl _ wr).drew
        obtain ⟨x2, y2, _, _⟩ := HKp.out wr (Below.refl _ wr)
        have HZ : Hid (subF u s = false → K.masksB a b = false) := fun h => K.masks_back_no HP.out.1 HP.out.2 h
        have HZ2 : Hid (subF u s = true → ∀ (i : Nat) s u, i < j + 1 → a.before.reverse[i]? = some s → b.before.reverse[i]? = some u → subF u s = true) := fun h i s' u' hi h1 h2 => by
          by_cases hij : i < j
          · exact HI.out i s' u' hij h1 h2
          · have : i = j := by omega
            subst this
            rw [HP.out.1] at h1
            rw [HP.out.2] at h2
            cases h1; cases h2; exact h
        generalize subF u s = z at HSub HZ HZ2
        clear hs hu hma hmb ra rb g1 g2 hXa hXb
        go_wp2
        go_region_held3 (fun w' => w'.cell? ⟨w.heap.size, 2, none⟩ = some (.slice (some ⟨xa, oa, none⟩) a.before.length abc) ∧ w'.cell? ⟨w.heap.size + 1, 2, none⟩ = some (.slice (some ⟨xb, ob, none⟩) b.before.length bbc) ∧ w'.cell? ⟨xa, oa + ma, none⟩ = some (.slice sa s.length ca) ∧ w'.cell? ⟨xb, ob + mb, none⟩ = some (.slice sb u.length cb))
          (first | with_reducible exact HKp.out _ HQ0.out | with_reducible exact k2 | (go_keep; done))
          (first
            | (go_at_call 56; refine (HSub.out _ HQ0.out).mono ?_; rintro e w2 ⟨rfl, z2⟩; have p2 : Below wr.heap.size wr w2 := HQ0.out.trans (z2.mono (Nat.le_refl _)); have k2 := HKp.out _ p2)
            | fail)
        have HB2 : Hid (Below W0.heap.size W0 w2) := HB.out.trans (p2.mono HB.out.size)
        clear p2 z2 k2 x2 y2 ka kb
        cases z with
        | false =>
          have h0 : mk = false := by rw [← HMk.out]; exact HZ.out rfl
          subst h0
          clear HZ HZ2
          go_wp2
          go_ret
          exact ⟨rfl, HLo.out _ HB2.out⟩
        | true =>
          have HI2 : Hid (∀ (i : Nat) s u, i < j + 1 → a.before.reverse[i]? = some s → b.before.reverse[i]? = some u → subF u s = true) := HZ2.out rfl
          clear HZ HZ2
          go_wp2
          go_roundw
          case rel => exact ⟨j + 1, by omega, by go_num, HI2, HB2⟩
          case measure => simp [intOf]; omega
      · have HIa : Hid (∀ (i : Nat) s u, a.before.reverse[i]? = some s → b.before.reverse[i]? = some u → subF u s = true) := fun i s u hs hu => HI.out i s u (by have := (List.getElem?_eq_some_iff.1 hs).1; rw [List.length_reverse] at this; omega) hs hu
        clear HI
        obtain ⟨wo, hwo⟩ : ∃ wo, wo = wr := ⟨_, rfl⟩
        subst hwo
        obtain ⟨LX, hLX⟩ : ∃ LX, LX = a.source ++ a.after := ⟨_, rfl⟩
        obtain ⟨LY, hLY⟩ : ∃ LY, LY = b.source ++ b.after := ⟨_, rfl⟩
        have lX : LX.length ≤ 40 := by rw [hLX, List.length_append]; omega
        have lY : LY.length ≤ 40 := by rw [hLY, List.length_append]; omega
        have hwo : w.heap.size ≤ wo.heap.size := (HLo.out _ HB.out).size
        have hal : Below wo.heap.size wo (wo.alloc (.cells #[] 23)).drew := ((Below.refl _ wo).alloc (Nat.le_refl _) _).drew
        have own0 : (wo.alloc (.cells #[] 23)).drew.ownsRow wo.heap.size 23 1 (.slice (some ⟨wo.heap.size, 0, none⟩) 0 0) ([] : List Value).length [] := World.ownsRow_made wo #[] 0 (Nat.le_refl _) (Nat.zero_le _) (by simp)
        obtain ⟨v1, w1, xo, xc, w2, run1, run2, sx, b2, b1⟩ := K.app_sets2 HSa.out.2.1 HSa.out.2.2 ((HLo.out _ HB.out).trans (hal.mono hwo)) wo.heap.size hwo (by show wo.heap.size ≤ (wo.alloc (.cells #[] 23)).heap.size; simp) _ own0 (by omega)
        rw [← hLX] at run2 sx
        have hB1 : Below W0.heap.size W0 w1 := HB.out.trans ((hal.trans b1).mono HB.out.size)
        have hB2 : Below W0.heap.size W0 w2 := HB.out.trans ((hal.trans b2).mono HB.out.size)
        have hw2 : w.heap.size ≤ w2.heap.size := (HLo.out _ hB2).size
        have hal2 : Below w2.heap.size w2 (w2.alloc (.cells #[] 23)).drew := ((Below.refl _ w2).alloc (Nat.le_refl _) _).drew
        have own1 : (w2.alloc (.cells #[] 23)).drew.ownsRow w2.heap.size 23 1 (.slice (some ⟨w2.heap.size, 0, none⟩) 0 0) ([] : List Value).length [] := World.ownsRow_made w2 #[] 0 (Nat.le_refl _) (Nat.zero_le _) (by simp)
        obtain ⟨v3, w3, yo, yc, w4, run3, run4, sy, b4, b3⟩ := K.app_sets2 HSb.out.2.1 HSb.out.2.2 ((HLo.out _ hB2).trans (hal2.mono hw2)) w2.heap.size hw2 (by show w2.heap.size ≤ (w2.alloc (.cells #[] 23)).heap.size; simp) _ own1 (by omega)
        rw [← hLY] at run4 sy
        have hB3 : Below W0.heap.size W0 w3 := hB2.trans ((hal2.trans b3).mono hB2.size)
        have hB4 : Below W0.heap.size W0 w4 := hB2.trans ((hal2.trans b4).mono hB2.size)
        have HSx : Hid (K.Ss w4 (.slice xo LX.length xc) LX) := sx.below (hal2.trans b4)
        have HSy : Hid (K.Ss w4 (.slice yo LY.length yc) LY) := sy
        have HR1 : Hid (∀ ty, (Builtin.append_ #[61, 61] ty #[.slice (some ⟨wo.heap.size, 0, none⟩) 0 0, .slice aso a.source.length asc]).run Try.prog (wo.alloc (.cells #[] 23)).drew = .ok v1 w1) := run1
        have HR2 : Hid (∀ ty, (Builtin.append_ #[61, 61] ty #[v1, .slice aao a.after.length aac]).run Try.prog w1 = .ok (.slice xo LX.length xc) w2) := run2
        have HR3 : Hid (∀ ty, (Builtin.append_ #[61, 61] ty #[.slice (some ⟨w2.heap.size, 0, none⟩) 0 0, .slice bso b.source.length bsc]).run Try.prog (w2.alloc (.cells #[] 23)).drew = .ok v3 w3) := run3
        have HR4 : Hid (∀ ty, (Builtin.append_ #[61, 61] ty #[v3, .slice bao b.after.length bac]).run Try.prog w3 = .ok (.slice yo LY.length yc) w4) := run4
        have HKa : Hid (∀ W, Below W0.heap.size W0 W → W.cell? ⟨w.heap.size, 3, none⟩ = some (.slice aso a.source.length asc) ∧ W.cell? ⟨w.heap.size, 4, none⟩ = some (.slice aao a.after.length aac)) := fun W hW => ⟨K.at_box (i := 3) (K.blk_below HX.out.1 hW) rfl, K.at_box (i := 4) (K.blk_below HX.out.1 hW) rfl⟩
        have HKb : Hid (∀ W, Below W0.heap.size W0 W → W.cell? ⟨w.heap.size + 1, 3, none⟩ = some (.slice bso b.source.length bsc) ∧ W.cell? ⟨w.heap.size + 1, 4, none⟩ = some (.slice bao b.after.length bac)) := fun W hW => ⟨K.at_box (i := 3) (K.blk_below HX.out.2.1 hW) rfl, K.at_box (i := 4) (K.blk_below HX.out.2.1 hW) rfl⟩
        have HBs : Hid (Below W0.heap.size W0 w1 ∧ Below W0.heap.size W0 w2 ∧ Below W0.heap.size W0 w3 ∧ Below W0.heap.size W0 w4) := ⟨hB1, hB2, hB3, hB4⟩
        have HD1 : Hid (Below W0.heap.size W0 (wo.alloc (.cells #[] 23)).drew ∧ Below W0.heap.size W0 wo.drew) := ⟨HB.out.trans (hal.mono HB.out.size), HB.out.drew⟩
        have HD2 : Hid (Below W0.heap.size W0 (w2.alloc (.cells #[] 23)).drew ∧ Below W0.heap.size W0 w2.drew) := ⟨hB2.trans (hal2.mono hB2.size), hB2.drew⟩
        have HL : Hid (LX = a.source ++ a.after ∧ LY = b.source ++ b.after) := ⟨hLX, hLY⟩
        have hXa := K.blk_below HX.out.1 HB.out
        have x2 := K.at_box (i := 2) hXa rfl
        clear run1 run2 run3 run4 sx sy b1 b2 b3 b4 hB1 hB2 hB3 hB4 own0 own1 hal hal2 hLX hLY hXa
        go_wp2
        go_region_held3 (fun w' => w'.cell? ⟨w.heap.size, 3, none⟩ = some (.slice aso a.source.length asc) ∧ w'.cell? ⟨w.heap.size, 4, none⟩ = some (.slice aao a.after.length aac))
          (first | with_reducible exact HKa.out _ HD1.out.2 | with_reducible exact HKa.out _ HD1.out.1 | with_reducible exact HKa.out _ HBs.out.1 | with_reducible exact HKa.out _ HBs.out.2.1 | (go_keep; done))
          (first | (refine K.step_run (by rfl) (.tmp 43) (.tmp 45) (by rfl) _ _ v1 w1 (by rfl) (by rfl) HR1.out ?_) | (refine K.step_run (by rfl) (.tmp 46) (.tmp 48) (by rfl) _ _ _ w2 (by rfl) (by rfl) HR2.out ?_) | fail)
        clear x2 HR1 HR2
        go_wp2
        go_region_held3 (fun w' => w'.cell? ⟨w.heap.size + 1, 3, none⟩ = some (.slice bso b.source.length bsc) ∧ w'.cell? ⟨w.heap.size + 1, 4, none⟩ = some (.slice bao b.after.length bac))
          (first | with_reducible exact HKb.out _ HD2.out.2 | with_reducible exact HKb.out _ HD2.out.1 | with_reducible exact HKb.out _ HBs.out.2.2.1 | with_reducible exact HKb.out _ HBs.out.2.2.2 | (go_keep; done))
          (first | (refine K.step_run (by rfl) (.tmp 50) (.tmp 52) (by rfl) _ _ v3 w3 (by rfl) (by rfl) HR3.out ?_) | (refine K.step_run (by rfl) (.tmp 53) (.tmp 55) (by rfl) _ _ _ w4 (by rfl) (by rfl) HR4.out ?_) | fail)
        clear HR3 HR4 HKa HKb
        by_cases hsh2 : LY.length < LX.length
        · have h0 : mk = false := by rw [← HMk.out]; exact K.masks_ahead (by rw [← HL.out.1, ← HL.out.2]; exact hsh2)
          subst h0
          go_wp2
          go_ret
          exact ⟨rfl, HLo.out _ HBs.out.2.2.2⟩
        · go_wp2
          go_loopw [64] (fun i wr => ∃ j : Nat, j ≤ LX.length ∧ i = .int .i64 j ∧ Hid (∀ (i : Nat) s u, i < j → LX[i]? = some s → LY[i]? = some u → subF u s = true) ∧ Hid (Below w4.heap.size w4 wr)) (fun i _ => LX.length - (intOf i).toNat)
          case atStart => exact ⟨0, Nat.zero_le _, rfl, fun i s u h => absurd h (Nat.not_lt_zero _), Below.refl _ _⟩
          case round =>
            obtain ⟨j, hj, rfl, HI, HBr⟩ := hrel
            have HB0 : Hid (Below W0.heap.size W0 wr) := HBs.out.2.2.2.trans (HBr.out.mono HBs.out.2.2.2.size)
            by_cases hlt : j < LX.length
            · obtain ⟨s, hs⟩ : ∃ s, LX[j]? = some s := ⟨LX[j], by simp [hlt]⟩
              obtain ⟨u, hu⟩ : ∃ u, LY[j]? = some u := ⟨LY[j]'(by omega), List.getElem?_eq_getElem _⟩
              have HP : Hid (LX[j]? = some s ∧ LY[j]? = some u) := ⟨hs, hu⟩
              obtain ⟨xa, oa, sa, ca, rfl, ka, ra, _⟩ := (HSx.out.below HBr.out).at hs
              obtain ⟨xb, ob, sb, cb, rfl, kb, rb, _⟩ := (HSy.out.below HBr.out).at hu
              have g1 := HG.out s (.inr (.inr (.inl (by rw [← HL.out.1]; exact List.mem_of_getElem? hs))))
              have g2 := HG.out u (.inr (.inr (.inr (by rw [← HL.out.2]; exact List.mem_of_getElem? hu))))
              have HSub : Hid (∀ W, Below wr.heap.size wr W → Calls Try.prog 56 #[.slice sb u.length cb, .slice sa s.length ca] W fun e w' => e = .returned (.bool (subF u s)) ∧ Below W.heap.size W w') := fun W hW => refsub_any W _ _ u s (rb.below hW (Nat.le_refl _)) (ra.below hW (Nat.le_refl _)) g2.1 g1.1 g2.2 g1.2
              have HKp : Hid (∀ W, Below wr.heap.size wr W → W.cell? ⟨xa, oa + j, none⟩ = some (.slice sa s.length ca) ∧ W.cell? ⟨xb, ob + j, none⟩ = some (.slice sb u.length cb)) := fun W hW => ⟨by rw [hW.cell (p := ⟨xa, oa + j, none⟩) (L.block_lt ka)]; exact ka, by rw [hW.cell (p := ⟨xb, ob + j, none⟩) (L.block_lt kb)]; exact kb⟩
              have HQ0 : Hid (Below wr.heap.size wr wr.drew) := (Below.refl _ wr).drew
              have lj : (j : Int) < LX.length := by omega
              have lj2 : (j : Int) < LY.length := by omega
              have HZ : Hid (subF u s = false → K.masksB a b = false) := fun h => K.masks_ahead_no (by rw [← HL.out.1]; exact HP.out.1) (by rw [← HL.out.2]; exact HP.out.2) h
              have HZ2 : Hid (subF u s = true → ∀ (i : Nat) s u, i < j + 1 → LX[i]? = some s → LY[i]? = some u → subF u s = true) := fun h i s' u' hi h1 h2 => by
                by_cases hij : i < j
                · exact HI.out i s' u' hij h1 h2
                · have : i = j := by omega
                  subst this
                  rw [HP.out.1] at h1
                  rw [HP.out.2] at h2
                  cases h1; cases h2; exact h
              generalize subF u s = z at HSub HZ HZ2
              clear hs hu ra rb g1 g2
              go_wp2
              go_region_held3 (fun w' => w'.cell? ⟨xa, oa + j, none⟩ = some (.slice sa s.length ca) ∧ w'.cell? ⟨xb, ob + j, none⟩ = some (.slice sb u.length cb))
                (first | with_reducible exact HKp.out _ HQ0.out | with_reducible exact k2 | (go_keep; done))
                (first
                  | (go_at_call 56; refine (HSub.out _ HQ0.out).mono ?_; rintro e w8 ⟨rfl, z2⟩; have p2 : Below wr.heap.size wr w8 := HQ0.out.trans (z2.mono (Nat.le_refl _)); have k2 := HKp.out _ p2)
                  | fail)
              have HB2 : Hid (Below w4.heap.size w4 w8 ∧ Below W0.heap.size W0 w8) := ⟨HBr.out.trans (p2.mono HBr.out.size), HB0.out.trans (p2.mono HB0.out.size)⟩
              clear p2 z2 k2 ka kb
              cases z with
              | false =>
                have h0 : mk = false := by rw [← HMk.out]; exact HZ.out rfl
                subst h0
                clear HZ HZ2
                go_wp2
                go_ret
                exact ⟨rfl, HLo.out _ HB2.out.2⟩
              | true =>
                have HI2 : Hid (∀ (i : Nat) s u, i < j + 1 → LX[i]? = some s → LY[i]? = some u → subF u s = true) := HZ2.out rfl
                clear HZ HZ2
                go_wp2
                go_roundw
                case rel => exact ⟨j + 1, by omega, by go_num, HI2, HB2.out.1⟩
                case measure => simp [intOf]; omega
            · have hE := K.masks_ends (a := a) (b := b) (by omega) HIa.out (by rw [← HL.out.1, ← HL.out.2]; omega) (fun i s u hs hu => by
                rw [← HL.out.1] at hs
                rw [← HL.out.2] at hu
                exact HI.out i s u (by have := (List.getElem?_eq_some_iff.1 hs).1; omega) hs hu)
              rw [HMk.out, ← HL.out.1, ← HL.out.2] at hE
              have HE : Hid (mk = (!(a.start && !(b.start && decide (a.before.length = b.before.length))) && !(a.fin && !(b.fin && decide (LX.length = LY.length))))) := hE
              have hXa := K.blk_below HX.out.1 HB0.out
              have hXb := K.blk_below HX.out.2.1 HB0.out
              have x0 := K.at_box (i := 0) hXa rfl
              have x1 := K.at_box (i := 1) hXa rfl
              have x2 := K.at_box (i := 2) hXa rfl
              have y0 := K.at_box (i := 0) hXb rfl
              have y1 := K.at_box (i := 1) hXb rfl
              have y2 := K.at_box (i := 2) hXb rfl
              clear hE HI HIa HMk hXa hXb HL
              have fin : ∀ z : Bool, z = mk → (Ending.returned (.bool z) = Ending.returned (.bool mk)) := fun z h => by rw [h]
              cases hs1 : a.start with
              | false =>
                cases hf1 : a.fin with
                | false =>
                  go_wp2
                  go_ret
                  exact ⟨L.ret_bool (by rw [HE.out, hs1, hf1]; rfl), HLo.out _ HB0.out⟩
                | true =>
                  cases hf2 : b.fin with
                  | false =>
                    go_wp2
                    go_ret
                    exact ⟨L.ret_bool (by rw [HE.out, hs1, hf1, hf2]; rfl), HLo.out _ HB0.out⟩
                  | true =>
                    by_cases hl : LX.length = LY.length
                    · go_wp2
                      go_ret
                      exact ⟨L.ret_bool (by rw [HE.out, hs1, hf1, hf2]; simp [hl]), HLo.out _ HB0.out⟩
                    · have hl' : ¬ (LX.length : Int) = LY.length := by omega
                      go_wp2
                      go_ret
                      exact ⟨L.ret_bool (by rw [HE.out, hs1, hf1, hf2]; simp [hl, hl']), HLo.out _ HB0.out⟩
              | true =>
                cases hs2 : b.start with
                | false =>
                  go_wp2
                  go_ret
                  exact ⟨L.ret_bool (by rw [HE.out, hs1, hs2]; rfl), HLo.out _ HB0.out⟩
                | true =>
                  by_cases hlb : a.before.length = b.before.length
                  · cases hf1 : a.fin with
                    | false =>
                      go_wp2
                      go_ret
                      exact ⟨L.ret_bool (by rw [HE.out, hs1, hs2, hf1]; simp [hlb]), HLo.out _ HB0.out⟩
                    | true =>
                      cases hf2 : b.fin with
                      | false =>
                        go_wp2
                        go_ret
                        exact ⟨L.ret_bool (by rw [HE.out, hs1, hs2, hf1, hf2]; simp [hlb]), HLo.out _ HB0.out⟩
                      | true =>
                        by_cases hl : LX.length = LY.length
                        · go_wp2
                          go_ret
                          exact ⟨L.ret_bool (by rw [HE.out, hs1, hs2, hf1, hf2]; simp [hl, hlb]), HLo.out _ HB0.out⟩
                        · have hl' : ¬ (LX.length : Int) = LY.length := by omega
                          go_wp2
                          go_ret
                          exact ⟨L.ret_bool (by rw [HE.out, hs1, hs2, hf1, hf2]; simp [hl, hl', hlb]), HLo.out _ HB0.out⟩
                  · have hlb' : ((a.before.length : Int) == (b.before.length : Int)) = false := beq_eq_false_iff_ne.2 (by omega)
                    go_wp2
                    go_ret
                    exact ⟨L.ret_bool (by rw [HE.out, hs1, hs2]; simp [hlb]), HLo.out _ HB0.out⟩

end Go.Proofs.Ytdmpmkcigjkilaa
