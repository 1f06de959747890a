/-
  What scriptref1.Same answers of two slices of runes: whether they read as the same list.
-/
import Derived.Test.YtkkocnkfdepoiaaRows
import Derived.Test.YtkkocnkfdepoiaaFrame
import Derived.Deep.QuietTactic
import Derived.BigQuiet
import Derived.Test.YtkkocnkfdepoiaaPrNum
import Derived.Test.YtkkocnkfdepoiaaYRef1
import Derived.Test.YtkkocnkfdepoiaaYIdx
import Derived.Test.YtkkocnkfdepoiaaQWhichR
import Derived.Test.YtkkocnkfdepoiaaSRefHas
namespace Go.Proofs.Ytkkocnkfdepoiaa
open Go.RowKit

theorem take_eq_snoc {a b : List Int} {k : Nat} {x y : Int} (h : a.take k = b.take k) (hx : a[k]? = some x) (hy : b[k]? = some y) (e : x = y) : a.take (k + 1) = b.take (k + 1) := by
  rw [List.take_add_one, List.take_add_one, h, hx, hy, e]

set_option maxHeartbeats 400000 in
theorem rsame_any (w : World) (va vb : Value) (za zb : List Int) (ha : L.Rd w va .i32 za) (hb : L.Rd w vb .i32 zb) (hla : za.length ≤ 4611686018427387903) (hlb : zb.length ≤ 4611686018427387903) :
    Calls Try.prog 11 #[va, vb] w fun e w' => e = .returned (.bool (decide (za = zb))) ∧ Below w.heap.size w w' := by
  obtain ⟨ao, ca, rfl, _, ha⟩ := ha
  obtain ⟨bo, cb, rfl, _, hb⟩ := hb
  by_cases hl : za.length = zb.length
  · go_enter Try.func11, Try.ntmps11
    go_wp2
    go_loopw [13] (fun i wr => ∃ k n : Nat, k ≤ za.length ∧ i = .int .i64 k ∧ za.take k = zb.take k ∧ wr = w.drewN n) (fun i _ => za.length - (intOf i).toNat)
    case atStart => exact ⟨0, 0, Nat.zero_le _, rfl, by simp, rfl⟩
    case round =>
      obtain ⟨k, n, hk, rfl, ht, rfl⟩ := hrel
      by_cases hlt : k < za.length
      · obtain ⟨b1, o1, rfl, hc1⟩ := ha (by intro h; subst h; simp at hlt)
        obtain ⟨b2, o2, rfl, hc2⟩ := hb (by intro h; subst h; simp at hl; rw [hl] at hlt; simp at hlt)
        obtain ⟨x, hx⟩ : ∃ x, za[k]? = some x := ⟨za[k], by simp [hlt]⟩
        obtain ⟨y, hy⟩ : ∃ y, zb[k]? = some y := ⟨zb[k]'(by omega), by simp [show k < zb.length by omega]⟩
        have c1 := hc1 k x hx
        have c2 := hc2 k y hy
        clear hc1 hc2 ha hb
        have HX : Hid (za[k]? = some x ∧ zb[k]? = some y ∧ za.take k = zb.take k) := ⟨hx, hy, ht⟩
        clear hx hy ht
        by_cases hxy : x = y
        · go_wp2
          go_quiet (fail)
          go_wp2
          go_roundw
          case rel => exact ⟨k + 1, _, by omega, by go_num, take_eq_snoc HX.out.2.2 HX.out.1 HX.out.2.1 hxy, rfl⟩
          case measure => simp [intOf]; omega
        · go_wp2
          go_quiet (fail)
          go_wp2
          go_ret
          refine ⟨L.ret_bool ?_, below_drewN (below_drewN (Below.refl _ _) _) _⟩
          have : za ≠ zb := by
            intro e
            rw [e] at HX
            have h1 := HX.out.1
            rw [HX.out.2.1] at h1
            exact hxy (Option.some.inj h1).symm
          simp [this]
      · go_wp2
        go_ret
        refine ⟨L.ret_bool ?_, below_drewN (Below.refl _ _) _⟩
        rw [List.take_of_length_le (by omega), List.take_of_length_le (by omega)] at ht
        simp [ht]
  · go_enter Try.func11, Try.ntmps11
    go_wp2
    go_ret
    refine ⟨L.ret_bool ?_, Below.refl _ _⟩
    have : za ≠ zb := by intro e; exact hl (by rw [e])
    simp [this]

end Go.Proofs.Ytkkocnkfdepoiaa

/-
  Rules that undo others: the small functions of the document's answer.
-/
namespace Go.Proofs.Ytkkocnkfdepoiaa
open Go.RowKit Go.Shelf
set_option maxRecDepth 20000
set_option linter.unusedSimpArgs false
set_option linter.unusedVariables false

namespace Pr
/-- a text that lies in elder memory, or in a block of runes -/
def Apart (F : Nat) (w : World) (v : Value) (t : List Int) : Prop := t ≠ [] → ∀ g, v.ownBlock = some g → g < F ∨ ∃ c, w.heap[g]? = some (.cells c 21)
theorem Apart.of_owns {F B : Nat} {w : World} {v : Value} {n : Nat} {xs : List Value} {t : List Int} (h : w.ownsRow B 21 1 v n xs) : Apart F w v t := fun _ g hg => by
  rcases h.2 with ⟨rfl, _⟩ | ⟨g', cap, cur, rfl, _, hx, _⟩
  · cases hg
  · cases hg; exact .inr ⟨_, hx⟩
end Pr

set_option maxHeartbeats 4000000 in
theorem rPlain14_any (w : World) (v : Value) (l : List K.Rule) (R0 : V.Rus w v l) :
    Calls Try.prog 18 #[v] w fun e w' => e = .returned (.bool (Pr.plainB l)) ∧ Below w.heap.size w w' := by
  have HR : Hid (V.Rus w v l) := R0
  have HS : Hid (∀ X, Below w.heap.size w X → Calls Try.prog 40 #[v] X fun e w' => e = .returned (.bool (K.sureB l)) ∧ Below X.heap.size X w') := fun X hX => rSure9_any X v l (R0.below hX)
  have hl := R0.few
  obtain ⟨lao, lcap, rfl⟩ := R0.len
  clear R0
  go_enter Try.func18, Try.ntmps18
  go_wp2
  go_loopw [7] (fun i wr => ∃ j : Nat, j ≤ l.length ∧ i = .int .i64 j ∧ Hid ((l.take j).any Pr.aroundB = false) ∧ Hid (Below w.heap.size w wr)) (fun i _ => l.length - (RowKit.intOf i).toNat)
  case atStart => exact ⟨0, Nat.zero_le _, rfl, by show (l.take 0).any Pr.aroundB = false; simp, Below.refl _ w⟩
  case round =>
    obtain ⟨j, hj, rfl, HW, HB⟩ := hrel
    by_cases hlt : j < l.length
    · obtain ⟨p, hp⟩ : ∃ x, l[j]? = some x := ⟨l[j], by simp [hlt]⟩
      obtain ⟨ao', cap', e', _, hcs⟩ := HR.out.below HB.out
      cases e'
      obtain ⟨b, off, rfl, hcell⟩ := hcs (by intro h; subst h; simp at hlt)
      obtain ⟨bo, bc, so, sc, ao, ac, tgo, tc, a0, a1, a2, a3, a4, a5, a6, hP⟩ := hcell j p hp
      obtain ⟨_, _, _, _, _, _, _, _, e', q1, q2, q3, _⟩ := id hP
      have f1 := q1.few
      have f3 := q3.few
      have HY : Hid (Pr.aroundB p = false → (l.take (j + 1)).any Pr.aroundB = false) := fun h => by rw [any_take hp, HW.out, h]; rfl
      have HN : Hid (Pr.aroundB p = true → Pr.plainB l = false) := fun h => by
        have : l.any Pr.aroundB = true := List.any_eq_true.2 ⟨p, List.mem_of_getElem? hp, h⟩
        unfold Pr.plainB; rw [this]; simp
      have HBa : Hid (∀ o, Below w.heap.size w (wr.alloc o)) := fun o => HB.out.alloc HB.out.size o
      unfold Pr.aroundB at HY HN
      clear hp hcell hcs hP e' q1 q2 q3
      obtain ⟨st, fi, be, sou, af, ta, cu⟩ := p
      simp only at a0 a1 a2 a3 a4 a5 a6 f1 f3 HY HN
      cases st with
      | true =>
        have HT : Hid (Pr.plainB l = false) := HN.out (by simp)
        clear HY HN HS
        go_wp2
        go_ret
        exact ⟨by rw [HT.out]; rfl, HBa.out _⟩
      | false =>
        cases fi with
        | true =>
          have HT : Hid (Pr.plainB l = false) := HN.out (by simp)
          clear HY HN HS
          go_wp2
          go_ret
          exact ⟨by rw [HT.out]; rfl, HBa.out _⟩
        | false =>
          by_cases q1 : 0 < be.length
          · have HT : Hid (Pr.plainB l = false) := HN.out (by simp [q1])
            clear HY HN HS
            go_wp2
            go_ret
            exact ⟨by rw [HT.out]; rfl, HBa.out _⟩
          · by_cases q2 : 0 < af.length
            · have HT : Hid (Pr.plainB l = false) := HN.out (by simp [q2])
              clear HY HN HS
              go_wp2
              go_ret
              exact ⟨by rw [HT.out]; rfl, HBa.out _⟩
            · have HT : Hid ((l.take (j + 1)).any Pr.aroundB = false) := HY.out (by simp [q1, q2])
              clear HY HN HS
              go_wp2
              go_roundw
              case rel => exact ⟨j + 1, by omega, by go_num, HT, HBa.out _⟩
              case measure => simp [RowKit.intOf]; omega
    · have hkl : j = l.length := by omega
      have hnone := HW.out
      rw [hkl, List.take_length] at hnone
      have HE : Hid (Pr.plainB l = K.sureB l) := by show _ = _; unfold Pr.plainB; rw [hnone]; simp
      have hC := HS.out _ HB.out
      clear HS hnone
      go_wp2_with fail
      refine hC.mono ?_
      rintro e w1 ⟨rfl, b1⟩
      have HB1 : Hid (Below w.heap.size w w1) := HB.out.trans (b1.mono HB.out.size)
      clear b1 hC
      go_wp2
      go_ret
      exact ⟨by rw [HE.out]; rfl, HB1.out⟩

set_option maxHeartbeats 4000000 in
theorem rAll14_any (w : World) (v : Value) (s : List S.Sp) (R : S.Rd w v s) (N : S.Nf 0 s) (hl : s.length ≤ 200) (hT : S.total s ≤ 40) :
    Calls Try.prog 19 #[v] w fun e w' => ∃ v', e = .returned v' ∧ (L.Rd w' v' .i32 (Pr.numbers s) ∧ ∀ F, Pr.Apart F w' v' (Pr.numbers s)) ∧ Below w.heap.size w w' := by
  obtain ⟨ao, cap, rfl, hn, hc⟩ := R
  have HN : Hid (S.Nf 0 s ∧ S.total s ≤ 40) := ⟨N, hT⟩
  clear N hT
  go_enter Try.func19, Try.ntmps19
  go_wp2
  go_loopw [3, 9] (fun i3 i wr => ∃ (k : Nat) (o : List Int) (vo : Option Addr) (vc : Nat), k ≤ s.length ∧ i = .int .i64 k ∧ i3 = .slice vo o.length vc ∧ o.length ≤ 40 ∧ Hid (o = Pr.numbers (s.take k) ∧ wr.ownsRow w.heap.size 21 1 (.slice vo o.length vc) o.length (K.ints o) ∧ Below w.heap.size w wr)) (fun _ i _ => s.length - (intOf i).toNat)
  case atStart => exact ⟨0, [], none, 0, Nat.zero_le _, rfl, rfl, by simp, ⟨by simp [Pr.numbers], World.ownsRow_nil _ _ _ _, Below.refl _ w⟩⟩
  case round =>
    obtain ⟨k, o, vo, vc, hk, rfl, rfl, hol, HI⟩ := hrel
    obtain ⟨wo, hwo⟩ : ∃ wo, wo = wr := ⟨_, rfl⟩
    subst hwo
    by_cases hlt : k < s.length
    · obtain ⟨b, off, rfl, hcell⟩ := hc (by intro h; subst h; simp at hlt)
      obtain ⟨x, hx⟩ : ∃ x, s[k]? = some x := ⟨s[k], by simp [hlt]⟩
      have c0 := hcell k x hx
      have hb := L.block_lt c0.1
      have c1 := c0.1
      have c2 := c0.2
      rw [← HI.out.2.2.cell (p := ⟨b, _, none⟩) hb] at c1 c2
      have hxo := HN.out.1.mem (List.mem_of_getElem? hx)
      have HP : Hid (∀ j : Nat, j ≤ (x.2 - x.1 + 1).toNat → (o ++ Pr.upFrom x.1 j).length ≤ 40) := fun j hj => by rw [HI.out.1]; exact Pr.part_len HN.out.1 HN.out.2 hx hj
      have HT : Hid (Pr.numbers (s.take (k + 1)) = o ++ Pr.upFrom x.1 (x.2 - x.1 + 1).toNat) := by rw [HI.out.1]; exact Pr.numbers_take hx
      obtain ⟨x1, x2⟩ := x
      simp only at c1 c2 hxo HP HT
      obtain ⟨X, hX⟩ : ∃ X, X = wo.alloc (.cells #[.int .i32 x1, .int .i32 x2] 57) := ⟨_, rfl⟩
      have HX : Hid (o = o ++ Pr.upFrom x1 0 ∧ X.ownsRow w.heap.size 21 1 (.slice vo o.length vc) o.length (K.ints o) ∧ Below w.heap.size w X ∧ X.heap[wo.heap.size]? = some (.cells #[.int .i32 x1, .int .i32 x2] 57)) := ⟨by simp [Pr.upFrom], by rw [hX]; exact HI.out.2.1.alloc _, by rw [hX]; exact HI.out.2.2.alloc HI.out.2.2.size _, by rw [hX]; exact heap_alloc_new wo _⟩
      have hwz := HI.out.2.2.size
      clear c0 hx hcell hc
      go_wp2
      rw [← hX]
      clear c1 c2
      go_loopw [3, 6] (fun i3 i6 wr => ∃ (j : Nat) (q : List Int) (qo : Option Addr) (qc : Nat), j ≤ (x2 - x1 + 1).toNat ∧ i6 = .int .i32 (x1 + j) ∧ i3 = .slice qo q.length qc ∧ q.length ≤ 40 ∧ Hid (q = o ++ Pr.upFrom x1 j ∧ wr.ownsRow w.heap.size 21 1 (.slice qo q.length qc) q.length (K.ints q) ∧ Below w.heap.size w wr ∧ wr.heap[wo.heap.size]? = some (.cells #[.int .i32 x1, .int .i32 x2] 57))) (fun _ i6 _ => (x2 + 1 - intOf i6).toNat)
      case atStart => exact ⟨0, o, vo, vc, Nat.zero_le _, by simp, rfl, hol, HX⟩
      case round =>
        obtain ⟨j, q, qo, qc, hj, rfl, rfl, hql, HQ⟩ := hrel
        have y0 := K.at_box (i := 0) HQ.out.2.2.2 rfl
        have y1 := K.at_box (i := 1) HQ.out.2.2.2 rfl
        have hbz : wo.heap.size + 1 ≤ wr.heap.size := lt_of_block HQ.out.2.2.2
        by_cases hjx : x1 + (j : Int) ≤ x2
        · obtain ⟨ao1, vc1, w1, run1, own1, kp1, sz1, be1⟩ := Cn.app1 HQ.out.2.1 (by omega) (by omega) (x1 + (j : Int))
          have HR : Hid (q ++ [x1 + (j : Int)] = o ++ Pr.upFrom x1 (j + 1) ∧ w1.ownsRow w.heap.size 21 1 (.slice ao1 (q.length + 1) vc1) (q ++ [x1 + (j : Int)]).length (K.ints (q ++ [x1 + (j : Int)])) ∧ Below w.heap.size w w1 ∧ w1.heap[wo.heap.size]? = some (.cells #[.int .i32 x1, .int .i32 x2] 57) ∧ (q ++ [x1 + (j : Int)]).length = q.length + 1 ∧ (q ++ [x1 + (j : Int)]).length ≤ 40) := by
            refine ⟨by rw [Pr.upFrom_succ, HQ.out.1, List.append_assoc], own1, HQ.out.2.2.1.trans be1, ?_, by simp, ?_⟩
            · rw [kp1 _ (by omega) (Pr.row_ne HQ.out.2.1 HQ.out.2.2.2)]; exact HQ.out.2.2.2
            · have := HP.out (j + 1) (by omega)
              rw [Pr.upFrom_succ, ← List.append_assoc, ← HQ.out.1] at this
              exact this
          clear own1 kp1 be1 HX
          go_wp2_with (at_builtin; refine Lib.wpList_append_run _ rfl _ _ _ _ rfl _ _ rfl rfl _ _ (run1 _) ?_; clear run1)
          go_roundw
          case rel => exact ⟨j + 1, q ++ [x1 + (j : Int)], ao1, vc1, by omega, by go_num, by rw [HR.out.2.2.2.2.1], HR.out.2.2.2.2.2, ⟨HR.out.1, by rw [HR.out.2.2.2.2.1]; have := HR.out.2.1; rw [HR.out.2.2.2.2.1] at this; exact this, HR.out.2.2.1, HR.out.2.2.2.1⟩⟩
          case measure => simp [intOf]; omega
        · have hje : j = (x2 - x1 + 1).toNat := by omega
          have HE : Hid (q = Pr.numbers (s.take (k + 1)) ∧ wr.ownsRow w.heap.size 21 1 (.slice qo q.length qc) q.length (K.ints q) ∧ Below w.heap.size w wr) := ⟨by rw [HT.out, HQ.out.1, hje], HQ.out.2.1, HQ.out.2.2.1⟩
          clear HX hje
          go_wp2
          go_roundw
          case rel => exact ⟨k + 1, q, qo, qc, by omega, by go_num, rfl, hql, HE⟩
          case measure => simp [intOf]; omega
    · have hkl : k = s.length := by omega
      subst hkl
      go_wp2
      go_ret
      have h := HI.out
      rw [List.take_length] at h
      refine ⟨_, rfl, ?_, h.2.2⟩
      rw [← h.1]
      exact ⟨L.Rd.of_owns h.2.1, fun F => Pr.Apart.of_owns h.2.1⟩

set_option maxHeartbeats 4000000 in
theorem rCan14_any (w : World) (v : Value) (r : K.Rule) (R : K.RuIs w v r) (hE : K.ruleE r = 0) (vd : Value) (dom : List Int) (Rd : L.Rd w vd .i32 dom) (hd : dom.length ≤ 8000) :
    Calls Try.prog 20 #[v, vd] w fun e w' => e = .returned (.bool (!(r.source.any (Pr.neverB dom)))) ∧ Below w.heap.size w w' := by
  have hG := (K.ruleE_zero hE).2.1
  obtain ⟨bo, bc, so, sc, ao, ac, tgo, tc, rfl, _, h2, _⟩ := R
  have HS : Hid (K.Ss w (.slice so r.source.length sc) r.source) := h2
  have HG : Hid (∀ s ∈ r.source, s.length ≤ 200) := fun s hs => (hG.2 s hs).2
  obtain ⟨xo, xc, rfl, _, hcs⟩ := Rd
  have HC : Hid (dom ≠ [] → ∃ b off, xo = some ⟨b, off, none⟩ ∧ ∀ j z, dom[j]? = some z → w.cell? ⟨b, off + j, none⟩ = some (.int .i32 z)) := hcs
  have f2 := hG.1
  obtain ⟨st, fi, be, sou, af, ta, cu⟩ := r
  simp only at HS HG f2 ⊢
  have HA : Hid (∀ o, Below w.heap.size w (w.alloc o)) := fun o => (Below.refl _ w).alloc (Nat.le_refl _) o
  clear hG hE h2 hcs
  go_enter Try.func20, Try.ntmps20
  go_wp2
  go_loopw [13] (fun i wr => ∃ j : Nat, j ≤ sou.length ∧ i = .int .i64 j ∧ Hid ((sou.take j).any (Pr.neverB dom) = false) ∧ Hid (Below w.heap.size w wr)) (fun i _ => sou.length - (RowKit.intOf i).toNat)
  case atStart => exact ⟨0, Nat.zero_le _, rfl, by show (sou.take 0).any (Pr.neverB dom) = false; simp, HA.out _⟩
  case round =>
    obtain ⟨j, hj, rfl, HW, HB⟩ := hrel
    by_cases hlt : j < sou.length
    · obtain ⟨s, hs⟩ : ∃ x, sou[j]? = some x := ⟨sou[j], by simp [hlt]⟩
      obtain ⟨b, off, qo, qc, rfl, a0, hP, hF⟩ := (HS.out.below HB.out).at hs
      have HN : Hid (Pr.neverB dom s = true → (sou.any (Pr.neverB dom)) = true) := fun h => List.any_eq_true.2 ⟨s, List.mem_of_getElem? hs, h⟩
      have HY : Hid (Pr.neverB dom s = false → (sou.take (j + 1)).any (Pr.neverB dom) = false) := fun h => by rw [any_take hs, HW.out, h]; rfl
      have hsl := HG.out s (List.mem_of_getElem? hs)
      have HHas : Hid (∀ X x, Below wr.heap.size wr X → Calls Try.prog 41 #[.slice qo s.length qc, .int .i32 x] X fun e w' => e = .returned (.bool (S.memb s x)) ∧ Below X.heap.size X w') := fun X x hX => refhas_any X _ s x (hP.below hX (Nat.le_refl _)) (by omega)
      obtain ⟨wo, hwo⟩ : ∃ wo, wo = wr := ⟨_, rfl⟩
      subst hwo
      clear hP hF hs
      go_wp2
      go_loopw [7, 19] (fun y i wr => ∃ (k : Nat) (z : Bool), k ≤ dom.length ∧ i = .int .i64 k ∧ y = .bool z ∧ Hid (z = (dom.take k).any (fun x => S.memb s x)) ∧ Hid (Below wo.heap.size wo wr)) (fun _ i _ => dom.length - (RowKit.intOf i).toNat)
      case atStart => exact ⟨0, false, Nat.zero_le _, rfl, rfl, by show false = _; simp, Below.refl _ _⟩
      case round =>
        obtain ⟨k, z, hk, rfl, rfl, HZ, HBk⟩ := hrel
        have HBw : Hid (Below w.heap.size w wr) := HB.out.trans (HBk.out.mono HB.out.size)
        by_cases hkt : k < dom.length
        · obtain ⟨x, hx⟩ : ∃ x, dom[k]? = some x := ⟨dom[k], by simp [hkt]⟩
          obtain ⟨b', off', rfl, hcell⟩ := HC.out (by intro h; rw [h] at hkt; simp at hkt)
          have c0 := hcell k x hx
          rw [← HBw.out.cell (p := ⟨b', off' + k, none⟩) (L.block_lt c0)] at c0
          have HT : Hid ((dom.take (k + 1)).any (fun x => S.memb s x) = (z || S.memb s x)) := by show _ = _; rw [any_take hx, ← HZ.out]
          have hC := HHas.out wr x HBk.out
          generalize S.memb s x = q at hC HT
          clear hcell hx
          cases z with
          | true =>
            have HT2 : Hid (true = (dom.take (k + 1)).any (fun x => S.memb s x)) := by show _ = _; rw [HT.out]; rfl
            clear HT hC
            go_wp2
            go_roundw
            case rel => exact ⟨k + 1, true, by omega, by go_num, rfl, HT2, HBk⟩
            case measure => simp [RowKit.intOf]; omega
          | false =>
            go_wp2_with fail
            refine hC.mono ?_
            rintro e w3 ⟨rfl, b3⟩
            have HB3 : Hid (Below wo.heap.size wo w3) := HBk.out.trans (b3.mono HBk.out.size)
            have HT2 : Hid (q = (dom.take (k + 1)).any (fun x => S.memb s x)) := by show _ = _; rw [HT.out]; simp
            clear b3 hC HT
            go_wp2
            go_roundw
            case rel => exact ⟨k + 1, q, by omega, by go_num, rfl, HT2, HB3⟩
            case measure => simp [RowKit.intOf]; omega
        · have hkl : k = dom.length := by omega
          have hz := HZ.out
          rw [hkl, List.take_length] at hz
          clear hkl
          cases z with
          | false =>
            have HT : Hid ((sou.any (Pr.neverB dom)) = true) := HN.out (by unfold Pr.neverB; rw [← hz]; rfl)
            clear HN HY hz
            go_wp2
            go_ret
            exact ⟨by rw [HT.out]; rfl, HBw.out⟩
          | true =>
            have HT : Hid ((sou.take (j + 1)).any (Pr.neverB dom) = false) := HY.out (by unfold Pr.neverB; rw [← hz]; rfl)
            clear HN HY hz
            go_wp2
            go_roundw
            case rel => exact ⟨j + 1, by omega, by go_num, HT, HBw⟩
            case measure => simp [RowKit.intOf]; omega
    · have hkl : j = sou.length := by omega
      have hnone := HW.out
      rw [hkl, List.take_length] at hnone
      have HE : Hid ((!(sou.any (Pr.neverB dom))) = true) := by show _ = _; rw [hnone]; rfl
      clear hnone
      go_wp2
      go_ret
      exact ⟨by rw [HE.out]; rfl, HB.out⟩

namespace Pr
def undoneB (l : List K.Rule) (t : List Int) (n : Nat) (u : Int) : Bool :=
  if K.which l t 0 < 0 then decide (n = 1) && decide (t.getD 0 0 = u)
  else decide (((l[(K.which l t 0).toNat]?).getD K.noRule).source.length = n) && decide (((l[(K.which l t 0).toNat]?).getD K.noRule).target = [u])
theorem undone_comes {back : List K.Rule} {m : Int × List Int} (h : 0 < m.2.length) (bh : List Int) : undoneB back (m.2 ++ bh) m.2.length m.1 = comesB back m bh := by
  unfold undoneB comesB
  by_cases hk : K.which back (m.2 ++ bh) 0 < 0
  · rw [if_pos hk, if_pos hk]
    obtain ⟨u, t⟩ := m
    match t, h with
    | [x], _ => simp
    | x :: y :: t, _ => simp
  · rw [if_neg hk, if_neg hk]
end Pr

set_option maxHeartbeats 4000000 in
theorem rUndone14_any (w : World) (v : Value) (l : List K.Rule) (R0 : V.Rus w v l) (hl : l.length ≤ 200) (hE : ∀ r ∈ l, K.ruleE r = 0) (vt : Value) (t : List Int) (Rt : L.Rd w vt .i32 t) (ht : t.length ≤ 4000) (h0 : 0 < t.length) (n : Nat) (hn : n ≤ 4000) (u : Int) :
    Calls Try.prog 23 #[v, vt, .int .i64 n, .int .i32 u] w fun e w' => e = .returned (.bool (Pr.undoneB l t n u)) ∧ Below w.heap.size w w' := by
  have HW : Hid (Calls Try.prog 21 #[v, vt, .int .i64 0] w fun e w' => e = .returned (.int .i64 (K.which l t 0)) ∧ Below w.heap.size w w') := rWhich8_any w v l R0 hl hE vt t Rt ht 0 (by omega) (by omega)
  unfold Pr.undoneB
  rcases K.which_is (l := l) (t := t) (k := 0) with hk | ⟨j, r, hj, _, hk⟩
  · rw [hk] at HW ⊢
    rw [if_pos (by decide)]
    obtain ⟨aa, ca, rfl⟩ := R0.len
    obtain ⟨xo, xc, rfl, _, hcs⟩ := Rt
    obtain ⟨b, off, rfl, hcell⟩ := hcs (by intro h; rw [h] at h0; simp at h0)
    obtain ⟨z, hz⟩ : ∃ z, t[0]? = some z := ⟨t[0], by simp⟩
    have HC : Hid (w.cell? ⟨b, off, none⟩ = some (.int .i32 z)) := by have := hcell 0 z hz; rwa [Nat.add_zero] at this
    have hg : t.getD 0 0 = z := by rw [List.getD_eq_getElem?_getD, hz]; rfl
    rw [hg]
    clear hk R0 hcell hcs hg hz hE
    by_cases q : n = 1
    · subst q
      have HZ : Hid ((decide ((1 : Nat) = 1) && decide (z = u)) = decide (z = u)) := by show _ = _; simp
      rw [HZ.out]
      go_enter Try.func23, Try.ntmps23
      go_wp2_with fail
      refine HW.out.mono ?_
      rintro e w1 ⟨rfl, b1⟩
      have c0 : w1.cell? ⟨b, off, none⟩ = some (.int .i32 z) := by rw [b1.cell (p := ⟨b, off, none⟩) (L.block_lt HC.out)]; exact HC.out
      have HB1 : Hid (Below w.heap.size w w1) := b1
      clear b1 HW
      go_wp2
      go_ret
      exact ⟨L.ret_bool rfl, HB1.out⟩
    · have q2 : ((n : Int) == 1) = false := beq_eq_false_iff_ne.2 (by omega)
      have HZ : Hid ((decide (n = 1) && decide (z = u)) = false) := by show _ = _; rw [decide_eq_false q]; rfl
      rw [HZ.out]
      go_enter Try.func23, Try.ntmps23
      go_wp2_with fail
      refine HW.out.mono ?_
      rintro e w1 ⟨rfl, b1⟩
      have HB1 : Hid (Below w.heap.size w w1) := b1
      clear b1 HW
      go_wp2
      go_ret
      exact ⟨rfl, HB1.out⟩
  · rw [hk] at HW ⊢
    rw [if_neg (by omega), Int.toNat_natCast, hj]
    simp only [Option.getD_some]
    have hjl := (List.getElem?_eq_some_iff.1 hj).1
    have hjz : (j : Int) < (l.length : Int) := by omega
    have hrE := hE r (List.mem_of_getElem? hj)
    have hsl := (K.ruleE_zero hrE).2.1.1
    have htg := (K.ruleE_zero hrE).2.2.2.2.1
    obtain ⟨ao', cap', e', _, hcs⟩ := id R0
    subst e'
    obtain ⟨b, off, rfl, hcell⟩ := hcs (by intro h; subst h; simp at hj)
    obtain ⟨bo, bc, so, sc, ao, ac, tgo, tg, _, _, _, a3, _, a5, _, hP⟩ := hcell j r hj
    obtain ⟨bo', bc', so', sc', ao', ac', tgo', tc', e', _, _, _, hT, _⟩ := hP
    have e2 := Value.agg.inj e'
    simp only [Array.mk.injEq, List.cons.injEq, Value.slice.injEq, true_and, and_true] at e2
    obtain ⟨⟨rfl, rfl⟩, ⟨rfl, rfl⟩, ⟨rfl, rfl⟩, rfl, rfl⟩ := e2
    have HA : Hid (w.cell? ⟨b, off + j * 7 + 3, none⟩ = some (.slice so r.source.length sc) ∧ w.cell? ⟨b, off + j * 7 + 5, none⟩ = some (.slice tgo r.target.length tg) ∧ L.Rd w (.slice tgo r.target.length tg) .i32 r.target) := ⟨a3, a5, hT⟩
    obtain ⟨xo, xc, rfl⟩ : ∃ a c, vt = .slice a t.length c := by obtain ⟨a, c, h, _⟩ := Rt; exact ⟨a, c, h⟩
    clear hT hcs hcell hj e' a3 a5 hrE hk R0 Rt hE
    obtain ⟨st, fi, be, sou, af, tar, cu⟩ := r
    simp only at hsl htg HA ⊢
    by_cases q : sou.length = n
    · obtain ⟨z, HZ⟩ : ∃ z, Hid (decide (tar = [u]) = z) := ⟨_, rfl⟩
      rw [decide_eq_true q, Bool.true_and, HZ.out]
      have HQ : Hid (sou.length = n) := q
      clear q
      go_enter Try.func23, Try.ntmps23
      go_wp2_with fail
      refine HW.out.mono ?_
      rintro e w1 ⟨rfl, b1⟩
      have c3 : w1.cell? ⟨b, off + j * 7 + 3, none⟩ = some (.slice so sou.length sc) := by rw [b1.cell (p := ⟨b, off + j * 7 + 3, none⟩) (L.block_lt HA.out.1)]; exact HA.out.1
      have c5 : w1.cell? ⟨b, off + j * 7 + 5, none⟩ = some (.slice tgo tar.length tg) := by rw [b1.cell (p := ⟨b, off + j * 7 + 5, none⟩) (L.block_lt HA.out.2.1)]; exact HA.out.2.1
      rw [HQ.out] at c3
      have HB1 : Hid (Below w.heap.size w w1) := b1
      obtain ⟨X, hX⟩ : ∃ X, X = w1.alloc (.cells #[.int .i32 u] 21) := ⟨_, rfl⟩
      have k1 := K.one_box (w := w1) (Below.refl _ (w1.alloc (.cells #[.int .i32 u] 21)))
      rw [← hX] at k1
      have hS := rsame_any X (.slice tgo tar.length tg) (.slice (some ⟨w1.heap.size, 0, none⟩) 1 1) tar [u] ((HA.out.2.2.below b1 (Nat.le_refl _)).below k1.2.1 (Nat.le_refl _)) ⟨_, _, rfl, fun e => (by cases e), fun _ => ⟨_, 0, rfl, fun j y hj => by
        match j, hj with
        | 0, hj => cases hj; exact K.at_box k1.1 rfl
        | n + 1, hj => simp at hj⟩⟩ (by omega) (by simp)
      rw [HZ.out] at hS
      have HXb : Hid (Below w.heap.size w X) := b1.trans (k1.2.1.mono b1.size)
      clear b1 HW k1 HZ HQ HA
      go_wp2_with fail
      rw [← hX]
      refine hS.mono ?_
      rintro e w2 ⟨rfl, b2⟩
      have HB2 : Hid (Below w.heap.size w w2) := HXb.out.trans (b2.mono HXb.out.size)
      clear b2 hS hX
      go_wp2
      go_ret
      exact ⟨rfl, HB2.out⟩
    · have q2 : ((sou.length : Int) == (n : Int)) = false := beq_eq_false_iff_ne.2 (by omega)
      rw [decide_eq_false q, Bool.false_and]
      go_enter Try.func23, Try.ntmps23
      go_wp2_with fail
      refine HW.out.mono ?_
      rintro e w1 ⟨rfl, b1⟩
      have c3 : w1.cell? ⟨b, off + j * 7 + 3, none⟩ = some (.slice so sou.length sc) := by rw [b1.cell (p := ⟨b, off + j * 7 + 3, none⟩) (L.block_lt HA.out.1)]; exact HA.out.1
      have HB1 : Hid (Below w.heap.size w w1) := b1
      clear b1 HW HA
      go_wp2
      go_ret
      exact ⟨rfl, HB1.out⟩

end Go.Proofs.Ytkkocnkfdepoiaa
