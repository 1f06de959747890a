/-
  All numbers of a set that has few: pair.numbers.
-/
import Derived.Test.YtkkocnkfdepoiaaPrLib
import Derived.Test.YtkkocnkfdepoiaaCnApp
import Derived.Test.YtkkocnkfdepoiaaSCnt
import Derived.Test.YtkkocnkfdepoiaaYSure
import Derived.Test.YtkkocnkfdepoiaaYRus
namespace Go.Proofs.Ytkkocnkfdepoiaa
open Go.RowKit Go.Shelf
set_option maxRecDepth 20000
set_option linter.unusedSimpArgs false
set_option linter.unusedVariables false

namespace Pr
theorem upFrom_succ (a : Int) (n : Nat) : upFrom a (n + 1) = upFrom a n ++ [a + n] := by
  unfold upFrom; rw [List.range_succ, List.map_append]; rfl
theorem upFrom_len (a : Int) (n : Nat) : (upFrom a n).length = n := by unfold upFrom; simp
theorem numbers_take {s : List S.Sp} {k : Nat} {x : S.Sp} (h : s[k]? = some x) : numbers (s.take (k + 1)) = numbers (s.take k) ++ upFrom x.1 (x.2 - x.1 + 1).toNat := by
  unfold numbers; rw [List.take_add_one, h, List.flatMap_append]; simp
theorem numbers_len {s : List S.Sp} (h : ∀ x ∈ s, x.1 ≤ x.2) : ((numbers s).length : Int) = S.total s := by
  induction s with
  | nil => rfl
  | cons x s ih =>
    have h1 := h x (List.mem_cons_self ..)
    have h2 := ih fun y hy => h y (List.mem_cons_of_mem _ hy)
    have e : numbers (x :: s) = upFrom x.1 (x.2 - x.1 + 1).toNat ++ numbers s := by simp [numbers]
    rw [e, List.length_append, upFrom_len, S.total]
    omega
theorem total_mono {s : List S.Sp} (h : ∀ x ∈ s, x.1 ≤ x.2) (k : Nat) : S.total (s.take k) ≤ S.total s := by
  have e := total_append (s.take k) (s.drop k)
  rw [List.take_append_drop] at e
  have := numbers_len (s := s.drop k) fun x hx => h x (List.mem_of_mem_drop hx)
  omega
theorem part_len {s : List S.Sp} (N : S.Nf 0 s) (hT : S.total s ≤ 40) {k j : Nat} {x : S.Sp} (hx : s[k]? = some x) (hj : j ≤ (x.2 - x.1 + 1).toNat) : (numbers (s.take k) ++ upFrom x.1 j).length ≤ 40 := by
  have hr : ∀ x ∈ s, x.1 ≤ x.2 := fun y hy => (N.mem hy).2.1
  have h1 := numbers_len (s := s.take (k + 1)) fun y hy => hr y (List.mem_of_mem_take hy)
  have h2 := total_mono hr (k + 1)
  rw [numbers_take hx, List.length_append, upFrom_len] at h1
  rw [List.length_append, upFrom_len]
  omega
theorem row_ne {w : World} {B : Nat} {v : Value} {n : Nat} {xs : List Value} {b : Nat} {c : Array Value} (h : w.ownsRow B 21 1 v n xs) (hb : w.heap[b]? = some (.cells c 57)) : v.ownBlock ≠ some b := by
  intro e
  rcases h.2 with ⟨rfl, _⟩ | ⟨g, cap, cur, rfl, _, hg, _⟩
  · cases e
  · cases e
    rw [hg] at hb
    simp at hb
end Pr

set_option maxHeartbeats 4000000 in
theorem numbers_any (w : World) (v : Value) (s : List S.Sp) (R : S.Rd w v s) (N : S.Nf 0 s) (hl : s.length ≤ 200) (hT : S.total s ≤ 40) :
    Calls Try.prog 15 #[v] w fun e w' => ∃ v', e = .returned v' ∧ L.Rd w' v' .i32 (Pr.numbers s) ∧ Below w.heap.size w w' := by
  obtain ⟨ao, cap, rfl, hn, hc⟩ := R
  have HN : Hid (S.Nf 0 s ∧ S.total s ≤ 40) := ⟨N, hT⟩
  clear N hT
  go_enter Try.func15, Try.ntmps15
  go_wp2
  go_loopw [3, 9] (fun i3 i wr => ∃ (k : Nat) (o : List Int) (vo : Option Addr) (vc : Nat), k ≤ s.length ∧ i = .int .i64 k ∧ i3 = .slice vo o.length vc ∧ o.length ≤ 40 ∧ Hid (o = Pr.numbers (s.take k) ∧ wr.ownsRow w.heap.size 21 1 (.slice vo o.length vc) o.length (K.ints o) ∧ Below w.heap.size w wr)) (fun _ i _ => s.length - (intOf i).toNat)
  case atStart => exact ⟨0, [], none, 0, Nat.zero_le _, rfl, rfl, by simp, ⟨by simp [Pr.numbers], World.ownsRow_nil _ _ _ _, Below.refl _ w⟩⟩
  case round =>
    obtain ⟨k, o, vo, vc, hk, rfl, rfl, hol, HI⟩ := hrel
    obtain ⟨wo, hwo⟩ : ∃ wo, wo = wr := ⟨_, rfl⟩
    subst hwo
    by_cases hlt : k < s.length
    · obtain ⟨b, off, rfl, hcell⟩ := hc (by intro h; subst h; simp at hlt)
      obtain ⟨x, hx⟩ : ∃ x, s[k]? = some x := ⟨s[k], by simp [hlt]⟩
      have c0 := hcell k x hx
      have hb := L.block_lt c0.1
      have c1 := c0.1
      have c2 := c0.2
      rw [← HI.out.2.2.cell (p := ⟨b, _, none⟩) hb] at c1 c2
      have hxo := HN.out.1.mem (List.mem_of_getElem? hx)
      have HP : Hid (∀ j : Nat, j ≤ (x.2 - x.1 + 1).toNat → (o ++ Pr.upFrom x.1 j).length ≤ 40) := fun j hj => by rw [HI.out.1]; exact Pr.part_len HN.out.1 HN.out.2 hx hj
      have HT : Hid (Pr.numbers (s.take (k + 1)) = o ++ Pr.upFrom x.1 (x.2 - x.1 + 1).toNat) := by rw [HI.out.1]; exact Pr.numbers_take hx
      obtain ⟨x1, x2⟩ := x
      simp only at c1 c2 hxo HP HT
      obtain ⟨X, hX⟩ : ∃ X, X = wo.alloc (.cells #[.int .i32 x1, .int .i32 x2] 57) := ⟨_, rfl⟩
      have HX : Hid (o = o ++ Pr.upFrom x1 0 ∧ X.ownsRow w.heap.size 21 1 (.slice vo o.length vc) o.length (K.ints o) ∧ Below w.heap.size w X ∧ X.heap[wo.heap.size]? = some (.cells #[.int .i32 x1, .int .i32 x2] 57)) := ⟨by simp [Pr.upFrom], by rw [hX]; exact HI.out.2.1.alloc _, by rw [hX]; exact HI.out.2.2.alloc HI.out.2.2.size _, by rw [hX]; exact heap_alloc_new wo _⟩
      have hwz := HI.out.2.2.size
      clear c0 hx hcell hc
      go_wp2
      rw [← hX]
      clear c1 c2
      go_loopw [3, 6] (fun i3 i6 wr => ∃ (j : Nat) (q : List Int) (qo : Option Addr) (qc : Nat), j ≤ (x2 - x1 + 1).toNat ∧ i6 = .int .i32 (x1 + j) ∧ i3 = .slice qo q.length qc ∧ q.length ≤ 40 ∧ Hid (q = o ++ Pr.upFrom x1 j ∧ wr.ownsRow w.heap.size 21 1 (.slice qo q.length qc) q.length (K.ints q) ∧ Below w.heap.size w wr ∧ wr.heap[wo.heap.size]? = some (.cells #[.int .i32 x1, .int .i32 x2] 57))) (fun _ i6 _ => (x2 + 1 - intOf i6).toNat)
      case atStart => exact ⟨0, o, vo, vc, Nat.zero_le _, by simp, rfl, hol, HX⟩
      case round =>
        obtain ⟨j, q, qo, qc, hj, rfl, rfl, hql, HQ⟩ := hrel
        have y0 := K.at_box (i := 0) HQ.out.2.2.2 rfl
        have y1 := K.at_box (i := 1) HQ.out.2.2.2 rfl
        have hbz : wo.heap.size + 1 ≤ wr.heap.size := lt_of_block HQ.out.2.2.2
        by_cases hjx : x1 + (j : Int) ≤ x2
        · obtain ⟨ao1, vc1, w1, run1, own1, kp1, sz1, be1⟩ := Cn.app1 HQ.out.2.1 (by omega) (by omega) (x1 + (j : Int))
          have HR : Hid (q ++ [x1 + (j : Int)] = o ++ Pr.upFrom x1 (j + 1) ∧ w1.ownsRow w.heap.size 21 1 (.slice ao1 (q.length + 1) vc1) (q ++ [x1 + (j : Int)]).length (K.ints (q ++ [x1 + (j : Int)])) ∧ Below w.heap.size w w1 ∧ w1.heap[wo.heap.size]? = some (.cells #[.int .i32 x1, .int .i32 x2] 57) ∧ (q ++ [x1 + (j : Int)]).length = q.length + 1 ∧ (q ++ [x1 + (j : Int)]).length ≤ 40) := by
            refine ⟨by rw [Pr.upFrom_succ, HQ.out.1, List.append_assoc], own1, HQ.out.2.2.1.trans be1, ?_, by simp, ?_⟩
            · rw [kp1 _ (by omega) (Pr.row_ne HQ.out.2.1 HQ.out.2.2.2)]; exact HQ.out.2.2.2
            · have := HP.out (j + 1) (by omega)
              rw [Pr.upFrom_succ, ← List.append_assoc, ← HQ.out.1] at this
              exact this
          clear own1 kp1 be1 HX
          go_wp2_with (at_builtin; refine Lib.wpList_append_run _ rfl _ _ _ _ rfl _ _ rfl rfl _ _ (run1 _) ?_; clear run1)
          go_roundw
          case rel => exact ⟨j + 1, q ++ [x1 + (j : Int)], ao1, vc1, by omega, by go_num, by rw [HR.out.2.2.2.2.1], HR.out.2.2.2.2.2, ⟨HR.out.1, by rw [HR.out.2.2.2.2.1]; have := HR.out.2.1; rw [HR.out.2.2.2.2.1] at this; exact this, HR.out.2.2.1, HR.out.2.2.2.1⟩⟩
          case measure => simp [intOf]; omega
        · have hje : j = (x2 - x1 + 1).toNat := by omega
          have HE : Hid (q = Pr.numbers (s.take (k + 1)) ∧ wr.ownsRow w.heap.size 21 1 (.slice qo q.length qc) q.length (K.ints q) ∧ Below w.heap.size w wr) := ⟨by rw [HT.out, HQ.out.1, hje], HQ.out.2.1, HQ.out.2.2.1⟩
          clear HX hje
          go_wp2
          go_roundw
          case rel => exact ⟨k + 1, q, qo, qc, by omega, by go_num, rfl, hql, HE⟩
          case measure => simp [intOf]; omega
    · have hkl : k = s.length := by omega
      subst hkl
      go_wp2
      go_ret
      have h := HI.out
      rw [List.take_length] at h
      refine ⟨_, rfl, ?_, h.2.2⟩
      rw [← h.1]
      exact L.Rd.of_owns h.2.1

end Go.Proofs.Ytkkocnkfdepoiaa

/-
  Whether it is sure that rules undo others: pair.undoes, pair.Sure.
-/
namespace Go.Proofs.Ytkkocnkfdepoiaa
open Go.RowKit Go.Shelf
set_option maxRecDepth 20000
set_option linter.unusedSimpArgs false
set_option linter.unusedVariables false

namespace Pr
theorem made_len {l : List K.Rule} (hE : ∀ r ∈ l, K.ruleE r = 0) (u : Int) : (made l u).length ≤ 20 := by
  unfold made
  rcases firstI_is (P := hitB u) (l := l) with hk | ⟨j, r, hj, _, hk⟩
  · rw [hk, if_pos (by decide)]; simp
  · rw [hk, if_neg (by omega), Int.toNat_natCast, hj]
    exact (K.ruleE_zero (hE r (List.mem_of_getElem? hj))).2.2.2.2.1
theorem images_len {l : List K.Rule} (hE : ∀ r ∈ l, K.ruleE r = 0) (dom : List Int) : ∀ m ∈ images l dom, m.2.length ≤ 1000 := fun m hm => by
  unfold images at hm
  obtain ⟨u, _, rfl⟩ := List.mem_map.1 hm
  have := made_len hE u
  show (made l u).length ≤ 1000
  omega
end Pr

set_option maxHeartbeats 2000000 in
theorem undoes_any (w : World) (va vb : Value) (forth back : List K.Rule) (Ra : V.Rus w va forth) (Rb : V.Rus w vb back) (hla : forth.length ≤ 200) (hlb : back.length ≤ 200) (hEa : ∀ r ∈ forth, K.ruleE r = 0) (hEb : ∀ r ∈ back, K.ruleE r = 0) (vd : Value) (dom : List Int) (Rd : L.Rd w vd .i32 dom) (hd : dom.length ≤ 40) :
    Calls Try.prog 14 #[va, vb, vd] w fun e w' => e = .returned (.bool (Pr.undoesB forth back dom)) ∧ Below w.heap.size w w' := by
  have HP1 : Hid (Calls Try.prog 33 #[va] w fun e w' => e = .returned (.bool (Pr.plainB forth)) ∧ Below w.heap.size w w') := plain_any w va forth Ra
  have HP2 : Hid (∀ X, Below w.heap.size w X → Calls Try.prog 33 #[vb] X fun e w' => e = .returned (.bool (Pr.plainB back)) ∧ Below X.heap.size X w') := fun X hX => plain_any X vb back (Rb.below hX)
  have HO : Hid (∀ X, Below w.heap.size w X → Calls Try.prog 34 #[va, vd] X fun e w' => e = .returned (.bool (Pr.oneByOneB forth dom)) ∧ Below X.heap.size X w') := fun X hX => oneByOne_any X va forth (Ra.below hX) hEa vd dom (Rd.below hX (Nat.le_refl _)) (by omega)
  have HI : Hid (∀ X, Below w.heap.size w X → Calls Try.prog 35 #[va, vd] X fun e w' => ∃ v', e = .returned v' ∧ Pr.Ims w' v' (Pr.images forth dom) ∧ Below X.heap.size X w') := fun X hX => images_any X va forth (Ra.below hX) hla hEa vd dom (Rd.below hX (Nat.le_refl _)) hd
  have HL : Hid (∀ X vi, Below w.heap.size w X → Pr.Ims X vi (Pr.images forth dom) → Calls Try.prog 36 #[vi, vb] X fun e w' => e = .returned (.bool (Pr.longB (Pr.images forth dom) back)) ∧ Below X.heap.size X w') := fun X vi hX hi => long_any X vi _ hi (Pr.images_len hEa dom) vb back (Rb.below hX) hEb
  have HA : Hid (∀ X vi, Below w.heap.size w X → Pr.Ims X vi (Pr.images forth dom) → Calls Try.prog 37 #[vi, vb] X fun e w' => e = .returned (.bool (Pr.allB (Pr.images forth dom) back)) ∧ Below X.heap.size X w') := fun X vi hX hi => allBack_any X vi _ hi (Pr.images_len hEa dom) vb back (Rb.below hX) hlb hEb
  unfold Pr.undoesB
  generalize Pr.plainB forth = z1 at *
  generalize Pr.plainB back = z2 at *
  generalize Pr.oneByOneB forth dom = z3 at *
  generalize Pr.images forth dom = im at *
  generalize Pr.longB im back = z4 at *
  generalize Pr.allB im back = z5 at *
  obtain ⟨aa, ca, rfl⟩ := Ra.len
  obtain ⟨ba, cb, rfl⟩ := Rb.len
  obtain ⟨xo, xc, rfl, _⟩ := Rd
  clear Ra Rb hEa hEb
  go_enter Try.func14, Try.ntmps14
  go_wp2_with fail
  refine HP1.out.mono ?_
  rintro e w1 ⟨rfl, b1⟩
  have HB1 : Hid (Below w.heap.size w w1) := b1
  clear b1 HP1
  cases z1 with
  | false => go_wp2; go_ret; exact ⟨by simp, HB1.out⟩
  | true =>
    go_wp2_with fail
    refine (HP2.out _ HB1.out).mono ?_
    rintro e w2 ⟨rfl, b2⟩
    have HB2 : Hid (Below w.heap.size w w2) := HB1.out.trans (b2.mono HB1.out.size)
    clear b2 HP2
    cases z2 with
    | false => go_wp2; go_ret; exact ⟨by simp, HB2.out⟩
    | true =>
      go_wp2_with fail
      refine (HO.out _ HB2.out).mono ?_
      rintro e w3 ⟨rfl, b3⟩
      have HB3 : Hid (Below w.heap.size w w3) := HB2.out.trans (b3.mono HB2.out.size)
      clear b3 HO
      cases z3 with
      | false => go_wp2; go_ret; exact ⟨by simp, HB3.out⟩
      | true =>
        go_wp2_with fail
        refine (HI.out _ HB3.out).mono ?_
        rintro e w4 ⟨vi, rfl, hi, b4⟩
        obtain ⟨io, ic, rfl⟩ := hi.len
        have HB4 : Hid (Below w.heap.size w w4) := HB3.out.trans (b4.mono HB3.out.size)
        have HIm : Hid (Pr.Ims w4 (.slice io im.length ic) im) := hi
        have HL4 := HL.out w4 _ HB4.out hi
        clear b4 HI hi HL
        go_wp2_with fail
        refine HL4.mono ?_
        rintro e w5 ⟨rfl, b5⟩
        have HB5 : Hid (Below w.heap.size w w5) := HB4.out.trans (b5.mono HB4.out.size)
        have HA5 := HA.out w5 _ HB5.out (HIm.out.below b5)
        clear b5 HL4 HA HIm
        cases z4 with
        | false => go_wp2; go_ret; exact ⟨by simp, HB5.out⟩
        | true =>
          go_wp2_with fail
          refine HA5.mono ?_
          rintro e w6 ⟨rfl, b6⟩
          have HB6 : Hid (Below w.heap.size w w6) := HB5.out.trans (b6.mono HB5.out.size)
          clear b6 HA5
          cases z5 with
          | false => go_wp2; go_ret; exact ⟨by simp, HB6.out⟩
          | true => go_wp2; go_ret; exact ⟨by simp, HB6.out⟩

set_option maxHeartbeats 2000000 in
theorem pSure_any (w : World) (va vb : Value) (forth back : List K.Rule) (Ra : V.Rus w va forth) (Rb : V.Rus w vb back) (vs : Value) (s : List S.Sp) (Rs : S.Rd w vs s) (Fs : S.Fit s) :
    Calls Try.prog 6 #[va, vb, vs] w fun e w' => e = .returned (.tuple #[.bool (Pr.sureF forth back s).1, .int .i64 (Pr.sureF forth back s).2]) ∧ Below w.heap.size w w' := by
  have HW1 : Hid (Calls Try.prog 12 #[va] w fun e w' => e = .returned (.agg #[.int .i64 (K.rulesF forth).1, .int .i64 (K.rulesF forth).2]) ∧ Below w.heap.size w w') := qWrong_any w va forth Ra
  have HW2 : Hid (∀ X, Below w.heap.size w X → Calls Try.prog 12 #[vb] X fun e w' => e = .returned (.agg #[.int .i64 (K.rulesF back).1, .int .i64 (K.rulesF back).2]) ∧ Below X.heap.size X w') := fun X hX => qWrong_any X vb back (Rb.below hX)
  have HC : Hid (∀ X, Below w.heap.size w X → Calls Try.prog 13 #[vs] X fun e w' => e = .returned (.tuple #[.int .i64 (cntF s), .int .i64 (S.wrongE s)]) ∧ Below X.heap.size X w') := fun X hX => count_any X vs s (Rs.below hX (Nat.le_refl _)) Fs
  have HN : Hid (S.wrongE s = 0 → S.total s ≤ 40 → (Pr.numbers s).length ≤ 40 ∧ ∀ X, Below w.heap.size w X → Calls Try.prog 15 #[vs] X fun e w' => ∃ v', e = .returned v' ∧ L.Rd w' v' .i32 (Pr.numbers s) ∧ Below X.heap.size X w') := fun hz ht => by
    obtain ⟨hl, N⟩ := S.wrongE_zero.1 hz
    refine ⟨?_, fun X hX => numbers_any X vs s (Rs.below hX (Nat.le_refl _)) N hl ht⟩
    have := Pr.numbers_len (s := s) fun x hx => (N.mem hx).2.1
    omega
  have HU : Hid ((K.rulesF forth).1 = 0 → (K.rulesF back).1 = 0 → (Pr.numbers s).length ≤ 40 → ∀ X vd, Below w.heap.size w X → L.Rd X vd .i32 (Pr.numbers s) → Calls Try.prog 14 #[va, vb, vd] X fun e w' => e = .returned (.bool (Pr.undoesB forth back (Pr.numbers s))) ∧ Below X.heap.size X w') := fun h1 h2 hd X vd hX hr =>
    undoes_any X va vb forth back (Ra.below hX) (Rb.below hX) (K.rulesF_zero h1).1 (K.rulesF_zero h2).1 (K.rulesF_zero h1).2.1 (K.rulesF_zero h2).2.1 vd _ hr hd
  obtain ⟨⟨o1, o2⟩, HO⟩ : ∃ o, Hid (Pr.sureF forth back s = o) := ⟨_, rfl⟩
  rw [HO.out]
  unfold Pr.sureF at HO
  have htot : S.wrongE s = 0 → cntF s = S.total s := fun h => by unfold cntF; rw [if_pos h]
  have hle : S.wrongE s = 0 → S.total s ≤ 1114112 := fun h => total_le (S.wrongE_zero.1 h).2 (by omega)
  obtain ⟨aa, ca, rfl⟩ := Ra.len
  obtain ⟨ba, cb, rfl⟩ := Rb.len
  obtain ⟨xo, xc, rfl⟩ := Rs.len
  clear Ra Rb Rs Fs
  generalize K.rulesF forth = f1 at *
  obtain ⟨f1, g1⟩ := f1
  generalize K.rulesF back = f2 at *
  obtain ⟨f2, g2⟩ := f2
  generalize S.wrongE s = we at *
  generalize cntF s = ct at *
  generalize Pr.undoesB forth back (Pr.numbers s) = z at *
  simp only at *
  go_enter Try.func6, Try.ntmps6
  go_wp2_with fail
  refine HW1.out.mono ?_
  rintro e w1 ⟨rfl, b1⟩
  have HA1 : Hid (∀ o, Below w.heap.size w (w1.alloc o)) := fun o => b1.alloc b1.size o
  clear b1 HW1
  by_cases h1 : f1 = 0
  · subst h1
    have HO1 := HO.out
    rw [if_neg (by simp)] at HO1
    have HW2' := HW2.out _ (HA1.out (.cells #[.int .i64 0, .int .i64 g1] 34))
    clear HO
    go_wp2_with fail
    refine HW2'.mono ?_
    rintro e w2 ⟨rfl, b2⟩
    have hB2 : Below w.heap.size w w2 := (HA1.out _).trans (b2.mono (HA1.out _).size)
    have HA2 : Hid (∀ o, Below w.heap.size w (w2.alloc o)) := fun o => hB2.alloc hB2.size o
    clear b2 HW2' HW2 hB2 HA1
    by_cases h2 : f2 = 0
    · subst h2
      rw [if_neg (by simp)] at HO1
      have HC' := HC.out _ (HA2.out (.cells #[.int .i64 0, .int .i64 g2] 34))
      have HO2 : Hid _ := HO1
      clear HO1
      go_wp2_with fail
      refine HC'.mono ?_
      rintro e w3 ⟨rfl, b3⟩
      have HB3 : Hid (Below w.heap.size w w3) := (HA2.out _).trans (b3.mono (HA2.out _).size)
      clear b3 HC' HC HA2
      by_cases h3 : we = 0
      · subst h3
        have ht := htot rfl
        subst ht
        have hle' := hle rfl
        have HO3 := HO2.out
        rw [if_neg (by simp)] at HO3
        by_cases h4 : 40 < S.total s
        · rw [if_pos h4] at HO3
          cases HO3
          clear HO2 HN HU htot hle
          generalize S.total s = tt at *
          go_wp2
          go_ret2
          exact ⟨rfl, HB3.out⟩
        · rw [if_neg h4] at HO3
          cases HO3
          obtain ⟨hnl, hnum⟩ := HN.out rfl (by omega)
          have HNu := hnum w3 HB3.out
          clear HO2 HN htot hle hnum
          generalize S.total s = tt at *
          go_wp2_with fail
          refine HNu.mono ?_
          rintro e w4 ⟨vd, rfl, rd, b4⟩
          have HB4 : Hid (Below w.heap.size w w4) := HB3.out.trans (b4.mono HB3.out.size)
          have HU4 := HU.out trivial trivial hnl w4 vd HB4.out rd
          obtain ⟨dn, hdn⟩ : ∃ n, n = (Pr.numbers s).length := ⟨_, rfl⟩
          obtain ⟨da, dc, rfl⟩ : ∃ da dc, vd = .slice da dn dc := by obtain ⟨a, c, h, _⟩ := rd; exact ⟨a, c, by rw [hdn]; exact h⟩
          clear b4 HNu rd HU hnl hdn
          go_wp2_with fail
          refine HU4.mono ?_
          rintro e w5 ⟨rfl, b5⟩
          have HB5 : Hid (Below w.heap.size w w5) := HB4.out.trans (b5.mono HB4.out.size)
          clear b5 HU4
          go_wp2
          go_ret2
          exact ⟨rfl, HB5.out⟩
      · have HO3 := HO2.out
        rw [if_pos h3] at HO3
        cases HO3
        clear HO2 HN HU htot hle
        go_wp2
        go_ret2
        exact ⟨rfl, HB3.out⟩
    · rw [if_pos h2] at HO1
      cases HO1
      clear HC HN HU htot hle
      go_wp2
      go_quiet (fail)
      go_wp2
      go_ret2
      exact ⟨rfl, below_drewN (HA2.out _) _⟩
  · have HO1 := HO.out
    rw [if_pos h1] at HO1
    cases HO1
    clear HO HC HN HU htot hle HW2
    go_wp2
    go_quiet (fail)
    go_wp2
    go_ret2
    exact ⟨rfl, below_drewN (HA1.out _) _⟩

end Go.Proofs.Ytkkocnkfdepoiaa
