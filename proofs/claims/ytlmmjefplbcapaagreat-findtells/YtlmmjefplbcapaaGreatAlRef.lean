/-
  Numbers held against each other; whether rules always go on, and how far they look: the document's answers.
-/
import Derived.Test.YtlmmjefplbcapaaGreatAlPlay
import Derived.Test.YtlmmjefplbcapaaGreatQFrame
import Derived.Test.YtlmmjefplbcapaaGreatSHas7
import Derived.Deep.QuietTactic
import Derived.BigQuiet
import Derived.Test.YtlmmjefplbcapaaGreatQCheckR
import Derived.Test.YtlmmjefplbcapaaGreatJMath
import Derived.Test.YtlmmjefplbcapaaGreatAlWhole
import Derived.Test.YtlmmjefplbcapaaGreatQRef
import Derived.Test.YtlmmjefplbcapaaGreatJRef
namespace Go.Proofs.YtlmmjefplbcapaaGreat
open Go.RowKit
set_option maxRecDepth 20000
set_option linter.unusedSimpArgs false
set_option linter.unusedVariables false

set_option maxHeartbeats 2000000 in
theorem rSure9_any (w : World) (v : Value) (l : List K.Rule) (R0 : V.Rus w v l) :
    Calls Tryz.prog 21 #[v] w fun e w' => e = .returned (.bool (K.sureB l)) ∧ Below w.heap.size w w' := by
  have HR : Hid (V.Rus w v l) := R0
  have hl := R0.few
  obtain ⟨lao, lcap, rfl⟩ := R0.len
  clear R0
  go_enter Tryz.func21, Tryz.ntmps21
  go_wp2
  go_loopw [7] (fun i wr => ∃ j : Nat, j ≤ l.length ∧ i = .int .i64 j ∧ Hid ((l.take j).all K.goesB = true) ∧ Hid (Below w.heap.size w wr)) (fun i _ => l.length - (intOf i).toNat)
  case atStart => exact ⟨0, Nat.zero_le _, rfl, by show (l.take 0).all K.goesB = true; simp, Below.refl _ w⟩
  case round =>
    obtain ⟨j, hj, rfl, HW, HB⟩ := hrel
    by_cases hlt : j < l.length
    · obtain ⟨p, hp⟩ : ∃ x, l[j]? = some x := ⟨l[j], by simp [hlt]⟩
      obtain ⟨ao', cap', e', _, hcs⟩ := HR.out.below HB.out
      cases e'
      obtain ⟨b, off, rfl, hcell⟩ := hcs (by intro h; subst h; simp at hlt)
      obtain ⟨bo, bc, so, sc, ao, ac, tgo, tc, a0, a1, a2, a3, a4, a5, a6, hP⟩ := hcell j p hp
      have hfa := hP
      obtain ⟨_, _, _, _, _, _, _, _, _, _, _, _, _, h5, hI⟩ := hfa
      have hI1 : -9223372036854775808 ≤ p.cursor := hI.1
      have hI2 : p.cursor ≤ 9223372036854775807 := hI.2
      have HY : Hid (p.cursor = p.target.length → (l.take (j + 1)).all K.goesB = true) := fun h => by
        rw [List.take_add_one, hp, List.all_append, HW.out]; simp [K.goesB, h]
      have HN : Hid (p.cursor ≠ p.target.length → K.sureB l = false) := fun h => by
        unfold K.sureB
        rw [List.all_eq_false]
        exact ⟨p, List.mem_of_getElem? hp, by simp [K.goesB, h]⟩
      have HBa : Hid (∀ o, Below w.heap.size w (wr.alloc o)) := fun o => HB.out.alloc HB.out.size o
      clear hp hcell hcs hP hI
      obtain ⟨st, fi, be, sou, af, ta, cu⟩ := p
      simp only at a0 a1 a2 a3 a4 a5 a6 h5 hI1 hI2 HY HN
      by_cases hc : cu = ta.length
      · have HT : Hid ((l.take (j + 1)).all K.goesB = true) := HY.out hc
        clear HY HN
        go_wp2
        go_roundw
        case rel => exact ⟨j + 1, by omega, by go_num, HT, HBa.out _⟩
        case measure => simp [intOf]; omega
      · have HT : Hid (K.sureB l = false) := HN.out hc
        clear HY HN
        go_wp2
        go_ret
        exact ⟨by rw [HT.out]; rfl, HBa.out _⟩
    · have hkl : j = l.length := by omega
      subst hkl
      go_wp2
      go_ret
      refine ⟨L.ret_bool ?_, HB.out⟩
      have h := HW.out
      rw [List.take_length] at h
      exact h.symm

end Go.Proofs.YtlmmjefplbcapaaGreat

/-
  What comes in a rule's place: what the document's text answers, in a row of its own.
-/
namespace Go.Proofs.YtlmmjefplbcapaaGreat
open Go.RowKit
set_option maxRecDepth 20000
set_option linter.unusedSimpArgs false
set_option linter.unusedVariables false

set_option maxHeartbeats 4000000 in
theorem rPut2_any (w : World) (v : Value) (r : K.Rule) (R : K.RuIs w v r) (hE : K.ruleE r = 0) (xo : Option Addr) (xc : Nat) (t : List Int) (Rt : L.Rd w (.slice xo t.length xc) .i32 t) (hcap : t.length ≤ xc) (ht : t.length ≤ 4000) (n : Nat) (hn : n + r.source.length ≤ t.length) :
    Calls Tryz.prog 23 #[v, .slice xo t.length xc, .int .i64 (n : Int)] w fun e w' => ∃ v', e = .returned v' ∧ w'.ownsRow (w.heap.size + 1) 21 1 v' (K.putL r t n).length ((K.putL r t n).map (Value.int .i32)) ∧ Below w.heap.size w w' := by
  obtain ⟨i0, hi, hz0, hz1, hz2⟩ := info_parts Tryz.infoI32
  obtain ⟨g1, g2, g3, hsrc, hta, _⟩ := K.ruleE_zero hE
  have l2 := g2.1
  obtain ⟨bo, bc, so, sc, ao, ac, tgo, tc, rfl, _, _, _, R4, _, _⟩ := R
  have HR4 : Hid (L.Rd w (.slice tgo r.target.length tc) .i32 r.target) := R4
  obtain ⟨D, hD⟩ : ∃ D : Nat, D = n + r.source.length := ⟨_, rfl⟩
  have hDl : D ≤ t.length := by omega
  obtain ⟨ap, hap⟩ : ∃ ap, ap = (if xc = D then xo else Option.map (fun x => x.add D) xo) := ⟨_, rfl⟩
  obtain ⟨m, hm⟩ : ∃ m : Nat, m = t.length - D := ⟨_, rfl⟩
  obtain ⟨mc, hmc⟩ : ∃ mc : Nat, mc = xc - D := ⟨_, rfl⟩
  have HZ1 : Hid (L.Rd w (.slice xo n xc) .i32 (t.take n)) := K.rd_take Rt (by omega)
  have HZ3 : Hid (L.Rd w (.slice ap m mc) .i32 (t.drop D)) := by
    rw [hap, hm, hmc]; exact K.rd_drop Rt hDl hcap
  have hsl1 : ∀ w', (Instr.slice 23 (.slice xo t.length xc) none (some (.int .i64 (n : Int))) none).run Tryz.prog w' = .ok (.slice xo n xc) w' := fun w' => K.slice_upto xo _ xc n (by omega) w'
  have hsl2 : ∀ w', (Instr.slice 23 (.slice xo t.length xc) (some (.int .i64 ((n : Int) + (r.source.length : Int)))) none none).run Tryz.prog w' = .ok (.slice ap m mc) w' := fun w' => by
    have h := K.slice_from xo t.length xc D hDl hcap w'
    rw [hm, hap, hmc, show (n : Int) + (r.source.length : Int) = (D : Int) by omega]
    exact h
  have HP : Hid (K.putL r t n = t.take n ++ r.target ++ t.drop D) := by
    show _ = _
    unfold K.putL; rw [hD]; rfl
  have HL1 : Hid ((t.take n).length = n) := by show _ = _; rw [List.length_take]; omega
  have HL3 : Hid ((t.drop D).length = m) := by show _ = _; rw [List.length_drop, hm]
  have hm4 : m ≤ 4000 := by omega
  have HB0 : Hid (∀ o o', Below w.heap.size w ((w.alloc o).alloc o')) := fun o o' => ((Below.refl _ w).alloc (Nat.le_refl _) o).alloc (by simp) o'
  have OW : Hid (∀ o, ((w.alloc o).alloc (.cells #[] 21)).ownsRow (w.heap.size + 1) 21 1 (.slice (some ⟨w.heap.size + 1, 0, none⟩) 0 0) 0 []) := fun o => by
    have h := World.ownsRow_made (base := w.heap.size + 1) (e := 21) (size := 1) (w.alloc o) #[] 0 (by simp) (by simp) (by simp)
    simpa using h
  have hnt : n ≤ 4000 := by omega
  clear hap hm hmc hD Rt R4 g1 g2 g3
  go_enter Tryz.func23, Tryz.ntmps23
  have HBox : Hid (∀ o o', ((w.alloc o).alloc o').heap[w.heap.size]? = some o) := fun o o' => (K.two_boxes (w := w) (Below.refl _ ((w.alloc o).alloc o'))).1
  go_wp2_with first
    | (at_builtin; refine L.wpList_append_rd rfl _ _ 23 rfl (w.heap.size + 1) 21 i0 .i32 4 Tryz.underlying23 hi hz0 hz1 hz2 _ _ _ rfl (OW.out _) _ (t.take n) rfl (HZ1.out.below (HB0.out _ _) (Nat.le_refl _)) (by unfold maxLen; have := HL1.out; omega) (by have := HL1.out; omega) (by simp) ?_; intro v1 W1 own1 gr1; have HB1 : Hid (Below w.heap.size w W1) := (HB0.out _ _).grown gr1 (by simp; omega) (fun k hk => by have h2 : w.heap.size + 1 = k := Option.some.inj hk; omega); have HH1 : Hid (W1.heap[w.heap.size]? = some (.cells #[.bool r.start, .bool r.fin, .slice bo r.before.length bc, .slice so r.source.length sc, .slice ao r.after.length ac, .slice tgo r.target.length tc, .int .i64 r.cursor] 55)) := ((gr1.block w.heap.size (by simp; omega) (fun hk => by have h2 : w.heap.size = w.heap.size + 1 := Option.some.inj hk; omega)).trans (HBox.out _ _)); have HO1 : Hid (W1.ownsRow (w.heap.size + 1) 21 1 v1 (0 + (t.take n).length) ([] ++ (t.take n).map (Value.int .i32))) := own1; have hs1 : w.heap.size + 2 ≤ W1.heap.size := (by have := gr1.size; simp at this; omega); have d5 := K.at_box (i := 5) HH1.out rfl; clear own1 gr1)
    | (at_builtin; refine L.wpList_append_rd rfl _ _ 23 rfl (w.heap.size + 1) 21 i0 .i32 4 Tryz.underlying23 hi hz0 hz1 hz2 _ _ _ rfl HO1.out _ r.target rfl (HR4.out.below HB1.out (Nat.le_refl _)) (by unfold maxLen; have := HL1.out; omega) (by have := HL1.out; omega) (by omega) ?_; intro v2 W2 own2 gr2; have HB2 : Hid (Below w.heap.size w W2) := HB1.out.grown gr2 (by omega) (fun k hk => by have := (HO1.out.lt k hk).1; omega); have HH2 : Hid (W2.heap[w.heap.size]? = some (.cells #[.bool r.start, .bool r.fin, .slice bo r.before.length bc, .slice so r.source.length sc, .slice ao r.after.length ac, .slice tgo r.target.length tc, .int .i64 r.cursor] 55)) := ((gr2.block w.heap.size (by omega) (fun hk => by have := (HO1.out.lt _ hk.symm).1; omega)).trans HH1.out); have HO2 : Hid (W2.ownsRow (w.heap.size + 1) 21 1 v2 (0 + (t.take n).length + r.target.length) ([] ++ (t.take n).map (Value.int .i32) ++ r.target.map (Value.int .i32))) := own2; have hs2 : w.heap.size + 2 ≤ W2.heap.size := (by have := gr2.size; omega); have d3 := K.at_box (i := 3) HH2.out rfl; clear own2 gr2 d5)
    | (at_builtin; refine L.wpList_append_rd rfl _ _ 23 rfl (w.heap.size + 1) 21 i0 .i32 4 Tryz.underlying23 hi hz0 hz1 hz2 _ _ _ rfl HO2.out _ (t.drop D) rfl (HZ3.out.below HB2.out (Nat.le_refl _)) (by unfold maxLen; have := HL1.out; have := HL3.out; omega) (by have := HL1.out; have := HL3.out; omega) (by omega) ?_; intro v3 W3 own3 gr3; have HB3 : Hid (Below w.heap.size w W3) := HB2.out.grown gr3 (by omega) (fun k hk => by have := (HO2.out.lt k hk).1; omega); have HO3 : Hid (W3.ownsRow (w.heap.size + 1) 21 1 v3 (0 + (t.take n).length + r.target.length + (t.drop D).length) ([] ++ (t.take n).map (Value.int .i32) ++ r.target.map (Value.int .i32) ++ (t.drop D).map (Value.int .i32))) := own3; clear own3 gr3 d3)
    | fail
  go_ret
  refine ⟨_, rfl, ?_, HB3.out⟩
  rw [HP.out]
  have h := HO3.out
  rw [show 0 + (t.take n).length + r.target.length + (t.drop D).length = (t.take n ++ r.target ++ t.drop D).length by simp only [List.length_append]; omega, show [] ++ (t.take n).map (Value.int .i32) ++ r.target.map (Value.int .i32) ++ (t.drop D).map (Value.int .i32) = (t.take n ++ r.target ++ t.drop D).map (Value.int .i32) by simp only [List.map_append, List.nil_append]] at h
  exact h

end Go.Proofs.YtlmmjefplbcapaaGreat

/-
  scriptref15.Links: the document's answer: played again, piece by piece.
-/
namespace Go.Proofs.YtlmmjefplbcapaaGreat
open Go.RowKit Go.Shelf
set_option maxRecDepth 20000
set_option linter.unusedSimpArgs false
set_option linter.unusedVariables false

/-- what stands ahead of a round -/
structure Al.Ri (wE wr : World) (l : List K.Rule) (tot : List Al.Lk) (left : Nat) (fr : Int) (xs : List Al.Lk) (vo vn : Value) (now A Z : List Int) (a : Nat) : Prop where
  split : now = A ++ Z
  at_ : a = A.length
  good : ∃ s p, (K.play l left A Z s p).1 = 0
  all : tot = xs ++ Al.links l fr (Al.shots l left A Z)
  own : wr.ownsRow wE.heap.size 44 5 vo xs.length (Al.lcells xs)
  text : wr.ownsRow 0 21 1 vn now.length (K.ints now)
  bel : Below wE.heap.size wE wr

/-- two rows of two kinds -/
theorem Al.ne {F F' : Nat} {e e' : TypeId} {k k' n n' : Nat} {w : World} {v v' : Value} {xs xs' : List Value} (h : w.ownsRow F e k v n xs) (h' : w.ownsRow F' e' k' v' n' xs') (hne : e ≠ e') : ∀ q, v'.ownBlock = some q → v.ownBlock ≠ some q := fun q hq hq2 => by
  obtain ⟨_, c1, p1, h1⟩ := Al.block h hq2
  obtain ⟨_, c2, p2, h2⟩ := Al.block h' hq
  have := h1.symm.trans h2
  simp at this
  exact hne this.2.1

theorem Al.grew {w w' : World} {F : Nat} {vo vn : Value} {n m : Nat} {xs ys : List Value} (h : w.ownsRow F 44 5 vo n xs) (h' : w.ownsRow 0 21 1 vn m ys) (kp : ∀ b, b < w.heap.size → vo.ownBlock ≠ some b → w'.heap[b]? = w.heap[b]?) : w'.ownsRow 0 21 1 vn m ys :=
  Al.held h' fun q hq hl => kp q hl (Al.ne h h' (by decide) q hq)

set_option maxHeartbeats 16000000 in
theorem alRef_loop (w : World) (va : Option Addr) (vc : Nat) (l : List K.Rule) (R0 : V.Rus w (.slice va l.length vc) l) : True := trivial

set_option maxHeartbeats 16000000 in
theorem alRef_any (w : World) (v : Value) (l : List K.Rule) (R0 : V.Rus w v l) (vt : Value) (t : List Int) (Rt : L.Rd w vt .i32 t) (ht : t.length ≤ 140737488355328) :
    Calls Tryz.prog 10 #[v, vt] w fun e w' => ∃ (v' : Value) (o : List J.Hd × Int × Int), e = .returned (.tuple #[v', .agg #[.int .i64 (Al.ans l t o).2.1, .int .i64 (Al.ans l t o).2.2]]) ∧ Gm.Chk l t o ∧ w'.ownsRow w.heap.size 44 5 v' (Al.ans l t o).1.length (Al.lcells (Al.ans l t o).1) ∧ Below w.heap.size w w' := by
  have HA : Hid (∀ o, Below w.heap.size w (w.alloc o)) := fun o => (Below.refl _ w).alloc (Nat.le_refl _) o
  have HC : Hid (∀ o, Calls Tryz.prog 19 #[v, vt] (w.alloc o) fun e w' => e = .returned (.agg #[.int .i64 (K.checkF l t).1, .int .i64 (K.checkF l t).2]) ∧ Below (w.alloc o).heap.size (w.alloc o) w') := fun o => rCheck_any _ _ l (R0.below (HA.out o)) vt t (Rt.below (HA.out o) (Nat.le_refl _)) ht
  have HM : Hid (∀ X, Below w.heap.size w X → Calls Tryz.prog 20 #[v] X fun e w' => ∃ (v' : Value) (o : List J.Hd × Int × Int), J.Comp l o ∧ e = .returned (.tuple #[v', .agg #[.int .i64 o.2.1, .int .i64 o.2.2]]) ∧ J.Own X.heap.size w' v' o.1 ∧ Below X.heap.size X w') := fun X hX => rCompile_any X v l (R0.below hX)
  have HB : Hid (∀ X, Below w.heap.size w X → Calls Tryz.prog 12 #[v, vt] X fun e w' => ∃ v', e = .returned (.tuple #[.agg #[v', .int .i64 (K.runF l t).1.2.1, .int .i64 (K.runF l t).1.2.2], .agg #[.int .i64 (K.runF l t).2.1, .int .i64 (K.runF l t).2.2]]) ∧ L.Rd w' v' .i32 (K.runF l t).1.1 ∧ Below X.heap.size X w') := fun X hX => rRun8_any X _ l (R0.below hX) vt t (Rt.below hX (Nat.le_refl _)) ht
  have HSu : Hid (∀ X, Below w.heap.size w X → Calls Tryz.prog 21 #[v] X fun e w' => e = .returned (.bool (K.sureB l)) ∧ Below X.heap.size X w') := fun X hX => rSure9_any X v l (R0.below hX)
  have HR : Hid (V.Rus w v l) := R0
  have HT : Hid (L.Rd w vt .i32 t) := Rt
  have HChk : Hid ((K.checkF l t).1 ≠ 0 → Gm.Chk l t ([], K.checkF l t)) := fun h => by
    unfold K.checkF at h ⊢
    by_cases hr : (K.rulesF l).1 = 0
    · rw [if_pos hr] at h ⊢; exact .inr (.inl ⟨hr, h, rfl⟩)
    · rw [if_neg hr]; exact .inl ⟨hr, rfl⟩
  have HChk2 : Hid ((K.checkF l t).1 = 0 → (K.rulesF l).1 = 0 ∧ K.textE t = 0 ∧ (K.checkF l t).2 = 0 ∧ ∀ o, J.Comp l o → Gm.Chk l t o) := fun h => by
    obtain ⟨h1, h2, h3⟩ := K.checkF_zero h
    exact ⟨h1, h2, by rw [h3], fun o ho => .inr (.inr ⟨h1, h2, ho⟩)⟩
  have HRunF : Hid ((K.checkF l t).1 = 0 → (K.runF l t).2 = ((K.play l (8 * t.length + 40) [] t 0 0).1, 0)) := fun h => by unfold K.runF; rw [if_pos h]
  obtain ⟨va, vc, rfl⟩ := R0.len
  obtain ⟨xo, xc, rfl, _⟩ := Rt
  obtain ⟨⟨c1, c2⟩, hc⟩ : ∃ o, K.checkF l t = o := ⟨_, rfl⟩
  rw [hc] at HC HChk HChk2 HRunF
  simp only at HC HChk HChk2 HRunF
  clear R0 hc
  go_enter Tryz.func10, Tryz.ntmps10
  go_wp2_with fail
  refine (HC.out _).mono ?_
  rintro e w1 ⟨rfl, b1⟩
  obtain ⟨h1, B1, s1⟩ := K.one_box b1
  clear HC b1
  by_cases q1 : c1 = 0
  · subst q1
    obtain ⟨z1, z2, rfl, hcomp⟩ := HChk2.out rfl
    have HCm : Hid (∀ o, J.Comp l o → Gm.Chk l t o) := hcomp
    have hrun := HRunF.out rfl
    have ht4 := K.textE_zero z2
    obtain ⟨hl, hE, _⟩ := K.rulesF_zero z1
    have HE : Hid (∀ r ∈ l, K.ruleE r = 0) := hE
    obtain ⟨⟨⟨rt, rs, rp⟩, re, ra⟩, hru⟩ : ∃ o, K.runF l t = o := ⟨_, rfl⟩
    rw [hru] at HB hrun
    simp only [Prod.mk.injEq] at HB hrun
    obtain ⟨hre, rfl⟩ := hrun
    have HP : Hid ((K.play l (8 * t.length + 40) [] t 0 0).1 = re) := hre.symm
    have HX1 : Hid (w1.heap[w.heap.size]? = some (.cells #[.int .i64 0, .int .i64 0] 27)) := h1
    have HMo : Hid (∀ o, Calls Tryz.prog 20 #[.slice va l.length vc] (w1.alloc o) fun e w' => ∃ (v' : Value) (o' : List J.Hd × Int × Int), J.Comp l o' ∧ e = .returned (.tuple #[v', .agg #[.int .i64 o'.2.1, .int .i64 o'.2.2]]) ∧ J.Own (w1.alloc o).heap.size w' v' o'.1 ∧ Below (w1.alloc o).heap.size (w1.alloc o) w') := fun o => HM.out _ (B1.alloc B1.size o)
    have HB1 : Hid (Below w.heap.size w w1) := B1
    clear HM HChk HChk2 HRunF hcomp z1 z2 hE hru hre h1 B1
    go_wp2_with fail
    go_at_call 20
    refine (HMo.out _).mono ?_
    rintro e w2 ⟨v2, ⟨hs, o1, o2⟩, hcp, rfl, _, b2⟩
    have HCh : Hid (Gm.Chk l t (hs, o1, o2)) := HCm.out _ hcp
    obtain ⟨_, B2, s2⟩ := K.one_box b2
    have h2 := K.blk_below HX1.out B2
    have HX2 : Hid (w2.heap[w.heap.size]? = some (.cells #[.int .i64 0, .int .i64 0] 27)) := h2
    have hB2 : Below w.heap.size w w2 := HB1.out.trans (B2.mono HB1.out.size)
    have HB2 : Hid (Below w.heap.size w w2) := hB2
    obtain ⟨x0, x1, f0, f3⟩ := K.box2 h2
    have k0 : ∀ o, (w2.alloc o).cell? ⟨w.heap.size, 0, none⟩ = some (.int .i64 0) := fun o => K.alloc_cell x0 o
    have k1 : ∀ o, (w2.alloc o).cell? ⟨w.heap.size, 1, none⟩ = some (.int .i64 0) := fun o => K.alloc_cell x1 o
    have g0 : ∀ o, (w2.alloc o).frozen? ⟨w.heap.size, 0, none⟩ = false := fun o => K.alloc_free h2 o 0
    have g1 : ∀ o, (w2.alloc o).frozen? ⟨w.heap.size, 1, none⟩ = false := fun o => K.alloc_free h2 o 1
    clear HMo HCm hcp b2 B2 HX1 h2 x0 x1 f0 f3
    by_cases q2 : o1 = 0
    · subst q2
      obtain ⟨_, _, rfl, _⟩ := HCh.out.ok
      have HRn : Hid (∀ o, Calls Tryz.prog 12 #[.slice va l.length vc, .slice xo t.length xc] (w2.alloc o) fun e w' => ∃ v', e = .returned (.tuple #[.agg #[v', .int .i64 rs, .int .i64 rp], .agg #[.int .i64 re, .int .i64 0]]) ∧ L.Rd w' v' .i32 rt ∧ Below (w2.alloc o).heap.size (w2.alloc o) w') := fun o => HB.out _ (hB2.alloc hB2.size o)
      clear HB k0 k1 g0 g1 hB2
      go_wp2_with fail
      go_at_call 12
      refine (HRn.out _).mono ?_
      rintro e w3 ⟨v3, rfl, d3, b3⟩
      obtain ⟨_, B3, s3⟩ := K.one_box b3
      have h3 := K.blk_below HX2.out B3
      have hB3 : Below w.heap.size w w3 := HB2.out.trans (B3.mono HB2.out.size)
      obtain ⟨X3, hX3⟩ : ∃ X3, X3 = (w3.alloc (.cells #[v3, .int .i64 rs, .int .i64 rp] 40)).alloc (.cells #[.int .i64 re, .int .i64 0] 27) := ⟨_, rfl⟩
      have hb3 : Below w3.heap.size w3 X3 := by rw [hX3]; exact ((Below.refl _ w3).alloc (Nat.le_refl _) _).alloc (by simp) _
      have hx3 := K.blk_below h3 hb3
      have HX3 : Hid (X3.heap[w.heap.size]? = some (.cells #[.int .i64 0, .int .i64 0] 27) ∧ Below w.heap.size w X3) := ⟨hx3, hB3.trans (hb3.mono hB3.size)⟩
      have y3 : X3.heap[w3.heap.size + 1]? = some (.cells #[.int .i64 re, .int .i64 0] 27) := by
        rw [hX3]
        show (((w3.heap.push _).push _))[w3.heap.size + 1]? = _
        rw [Array.getElem?_push, if_pos (by simp)]
      obtain ⟨x0, x1, f0, f3⟩ := K.box2 hx3
      obtain ⟨y0, y1, _, _⟩ := K.box2 y3
      obtain ⟨uo, uc, rfl⟩ : ∃ a c, v3 = .slice a rt.length c := by obtain ⟨a, c, h, _⟩ := d3; exact ⟨a, c, h⟩
      clear HRn b3 B3 hB3 h3 hb3 hx3 y3 d3
      by_cases q3 : re = 0
      · subst q3
        have HSX : Hid (Calls Tryz.prog 21 #[.slice va l.length vc] X3 fun e w' => e = .returned (.bool (K.sureB l)) ∧ Below X3.heap.size X3 w') := HSu.out X3 HX3.out.2
        have HSG : Hid (K.sureB l = true → ∀ (left : Nat) (A Z : List Int) (s p fr : Int) (j : Nat) (r : K.Rule), ¬ Z.length = 0 → K.which l (A ++ Z) A.length = (j : Int) → l[j]? = some r → (K.play l (left + 1) A Z s p).1 = 0 → (K.play l left (A ++ r.target) (Z.drop r.source.length) (s + 1) (p + 1)).1 = 0 ∧ A.length + r.target.length + (Z.length - r.source.length) ≤ 4000 ∧ Al.links l fr (Al.shots l (left + 1) A Z) = ⟨fr, fr + (r.source.length : Int), A.length, (A.length : Int) + (r.target.length : Int), j⟩ :: Al.links l (fr + (r.source.length : Int)) (Al.shots l left (A ++ r.target) (Z.drop r.source.length))) := fun hS left A Z s p fr j r hz hk hr h0 => Al.go_put hz hk hr hS h0
        have HAn : Hid (Al.ans l t (hs, 0, 0) = if K.sureB l = true then (Al.links l 0 (Al.shots l (8 * t.length + 40) [] t), 0, 0) else ([], 8, 0)) := by
          show _ = _
          unfold Al.ans
          rw [if_neg (by simp), if_neg (by rw [HP.out]; simp)]
        generalize K.sureB l = su at *
        go_upto_region 8 with fail
        rw [← hX3]
        clear hX3 HSu
        go_wp2_with fail
        go_at_call 21
        refine HSX.out.mono ?_
        rintro e w4 ⟨rfl, b4⟩
        have h4 := K.blk_below HX3.out.1 b4
        have hB4 : Below w.heap.size w w4 := HX3.out.2.trans (b4.mono HX3.out.2.size)
        have HX4 : Hid (w4.heap[w.heap.size]? = some (.cells #[.int .i64 0, .int .i64 0] 27) ∧ Below w.heap.size w w4) := ⟨h4, hB4⟩
        obtain ⟨x0, x1, f0, f3⟩ := K.box2 h4
        clear HSX b4 y0 y1
        cases su with
        | false =>
          have HAn2 : Hid (Al.ans l t (hs, 0, 0) = ([], 8, 0)) := by
            have := HAn.out
            simp at this
            exact this
          have HBd : Hid (∀ x y, Below w.heap.size w ((w4.setCell ⟨w.heap.size, 0, none⟩ x).setCell ⟨w.heap.size, 1, none⟩ y)) := fun x y => (hB4.setCell (p := ⟨w.heap.size, 0, none⟩) (Nat.le_refl _) _).setCell (p := ⟨w.heap.size, 1, none⟩) (Nat.le_refl _) _
          clear HAn HR HT HE HP h4 hB4 HSG
          go_wp2
          refine bodyPost_ret (v := .tuple #[.slice none 0 0, .agg #[.int .i64 8, .int .i64 0]]) (by simp [results, Tryz.results10, go_sem, *]) rfl ?_
          exact ⟨_, (hs, 0, 0), by rw [HAn2.out], HCh.out, by rw [HAn2.out]; exact World.ownsRow_nil _ _ _ _, HBd.out _ _⟩
        | true =>
          have HAn2 : Hid (Al.ans l t (hs, 0, 0) = (Al.links l 0 (Al.shots l (8 * t.length + 40) [] t), 0, 0)) := by
            have := HAn.out
            simp at this
            exact this
          have hal : Below w4.heap.size w4 (w4.alloc (.cells #[] 21)) := (Below.refl _ w4).alloc (Nat.le_refl _) _
          have own0 : (w4.alloc (.cells #[] 21)).ownsRow w4.heap.size 21 1 (.slice (some ⟨w4.heap.size, 0, none⟩) ([] : List Int).length 0) ([] : List Int).length (K.ints []) := World.ownsRow_made w4 #[] 0 (Nat.le_refl _) (Nat.zero_le _) (by simp)
          obtain ⟨v9, wE, run9, own9, gr9, _⟩ := K.app_rd _ w4.heap.size _ [] own0 (.slice xo t.length xc) t ((HT.out.below hB4 (Nat.le_refl _)).below hal (Nat.le_refl _)) (by simp; omega) (by simp)
          have bE : Below w4.heap.size w4 wE := hal.grown gr9 (by simp) fun k hk => (own0.lt k hk).1
          rw [List.nil_append] at own9
          obtain ⟨r1, rc, rfl, hrc, hrm⟩ := K.own_slice own9
          obtain ⟨tot, htot⟩ : ∃ tot, tot = Al.links l 0 (Al.shots l (8 * t.length + 40) [] t) := ⟨_, rfl⟩
          rw [← htot] at HAn2
          have HI0 : Hid (Al.Ri wE wE l tot (8 * t.length + 40) 0 [] (.slice none ([] : List Al.Lk).length 0) (.slice r1 t.length rc) t [] t 0) := ⟨rfl, rfl, ⟨0, 0, HP.out⟩, by rw [htot]; rfl, World.ownsRow_nil _ _ _ _, L.owns_base own9 (Nat.zero_le _), Below.refl _ _⟩
          have hxE := K.blk_below HX4.out.1 bE
          have HXE : Hid (wE.heap[w.heap.size]? = some (.cells #[.int .i64 0, .int .i64 0] 27) ∧ Below w.heap.size w wE) := ⟨hxE, hB4.trans (bE.mono hB4.size)⟩
          have hwE : w.heap.size + 1 ≤ wE.heap.size := lt_of_block hxE
          have HSG2 : Hid (∀ (left : Nat) (A Z : List Int) (s p fr : Int) (j : Nat) (r : K.Rule), ¬ Z.length = 0 → K.which l (A ++ Z) A.length = (j : Int) → l[j]? = some r → (K.play l (left + 1) A Z s p).1 = 0 → (K.play l left (A ++ r.target) (Z.drop r.source.length) (s + 1) (p + 1)).1 = 0 ∧ A.length + r.target.length + (Z.length - r.source.length) ≤ 4000 ∧ Al.links l fr (Al.shots l (left + 1) A Z) = ⟨fr, fr + (r.source.length : Int), A.length, (A.length : Int) + (r.target.length : Int), j⟩ :: Al.links l (fr + (r.source.length : Int)) (Al.shots l left (A ++ r.target) (Z.drop r.source.length))) := HSG.out rfl
          clear HAn HT HP h4 hB4 hal own0 own9 gr9 bE htot hxE HX4 x0 x1 f0 f3 HSG
          unfold maxLen at hrm
          go_wp2_with (at_builtin; first | refine Lib.wpList_append_run _ rfl _ _ _ _ rfl _ _ rfl rfl _ _ (run9 _) ?_)
          clear run9
          go_loopw [11, 12, 13, 14] (fun i11 i12 i13 i14 wr => ∃ (left : Nat) (fr : Int) (xs : List Al.Lk) (vo : Option Addr) (vc' : Nat) (no : Option Addr) (nc : Nat) (now A Z : List Int) (a : Nat), i11 = .slice vo xs.length vc' ∧ i12 = .slice no now.length nc ∧ now.length ≤ nc ∧ now.length ≤ 4000 ∧ i13 = .int .i64 fr ∧ i14 = .int .i64 a ∧ a ≤ now.length ∧ 0 ≤ fr ∧ fr + 20 * left ≤ 640800 ∧ xs.length + left ≤ 32040 ∧ Hid (Al.Ri wE wr l tot left fr xs (.slice vo xs.length vc') (.slice no now.length nc) now A Z a)) (fun _ i12 _ i14 _ => (match i12 with | .slice _ n _ => n | _ => 0) - (RowKit.intOf i14).toNat)
          case atStart => exact ⟨8 * t.length + 40, 0, [], none, 0, r1, rc, t, [], t, 0, rfl, rfl, hrc, ht4, rfl, rfl, by omega, by omega, by omega, by simp; omega, HI0⟩
          case round =>
            obtain ⟨left, fr, xs, vo, vc', no, nc, now, A, Z, a, rfl, rfl, hnc, hn4, rfl, rfl, han, hf0, hf1, hx1, HI⟩ := hrel
            have e1 := HI.out.split
            have e2 := HI.out.at_
            have e3 : now.length = A.length + Z.length := by rw [e1, List.length_append]
            have hsz := HI.out.bel.size
            have hBr : Below w.heap.size w wr := HXE.out.2.trans (HI.out.bel.mono HXE.out.2.size)
            by_cases hz : Z.length = 0
            · have hge : now.length ≤ a := by omega
              have hx := K.blk_below HXE.out.1 HI.out.bel
              obtain ⟨x0, x1, f0, f3⟩ := K.box2 hx
              have HFi : Hid (∀ x y, ((wr.setCell ⟨w.heap.size, 0, none⟩ x).setCell ⟨w.heap.size, 1, none⟩ y).ownsRow w.heap.size 44 5 (.slice vo xs.length vc') tot.length (Al.lcells tot) ∧ Below w.heap.size w ((wr.setCell ⟨w.heap.size, 0, none⟩ x).setCell ⟨w.heap.size, 1, none⟩ y)) := fun x y => by
                have e4 : tot = xs := by
                  rw [HI.out.all, Al.shots_end hz]
                  exact List.append_nil _
                rw [e4]
                refine ⟨L.owns_base (Al.held HI.out.own fun q hq _ => ?_) (by omega), (hBr.setCell (p := ⟨w.heap.size, 0, none⟩) (Nat.le_refl _) _).setCell (p := ⟨w.heap.size, 1, none⟩) (Nat.le_refl _) _⟩
                have := (Al.block HI.out.own hq).1
                rw [heap_setCell_other _ ⟨w.heap.size, 1, none⟩ q y (by simp; omega), heap_setCell_other _ ⟨w.heap.size, 0, none⟩ q x (by simp; omega)]
              clear e1 e2 e3 hx hBr
              go_wp2
              refine bodyPost_ret (v := .tuple #[.slice vo xs.length vc', .agg #[.int .i64 0, .int .i64 0]]) (by simp [results, Tryz.results10, go_sem, *]) rfl ?_
              exact ⟨_, (hs, 0, 0), by rw [HAn2.out], HCh.out, by rw [HAn2.out]; exact (HFi.out _ _).1, (HFi.out _ _).2⟩
            · have hlt : a < now.length := by omega
              have HWh : Hid (Calls Tryz.prog 22 #[.slice va l.length vc, .slice no now.length nc, .int .i64 (a : Int)] wr fun e w' => e = .returned (.int .i64 (K.which l now a)) ∧ Below wr.heap.size wr w') := rWhich8_any wr _ l (HR.out.below hBr) hl HE.out _ now (K.rd_owns HI.out.text) hn4 a (by omega) (by omega)
              obtain ⟨s, p, hplay⟩ := HI.out.good
              cases left with
              | zero => rw [K.play_out hz] at hplay; exact absurd hplay (by decide)
              | succ left =>
                rcases K.which_is (l := l) (t := now) (k := (a : Int)) with hw | ⟨j, r, hj, hm, hw⟩
                · rw [hw] at HWh
                  have hw2 : K.which l (A ++ Z) A.length = -1 := by rw [← e1, ← e2]; exact hw
                  obtain ⟨n1, n2⟩ := Al.go_on (fr := fr) hz hw2 hplay
                  have HN : Hid (now = (A ++ Z.take 1) ++ Z.drop 1 ∧ a + 1 = (A ++ Z.take 1).length ∧ (K.play l left (A ++ Z.take 1) (Z.drop 1) (s + 1) p).1 = 0 ∧ tot = (xs ++ [⟨fr, fr + 1, a, (a : Int) + 1, -1⟩]) ++ Al.links l (fr + 1) (Al.shots l left (A ++ Z.take 1) (Z.drop 1))) := by
                    refine ⟨by rw [List.append_assoc, List.take_append_drop]; exact e1, by simp; omega, n1, ?_⟩
                    rw [HI.out.all, n2, List.append_assoc, e2]
                    rfl
                  have HBr : Hid (Below w.heap.size w wr) := hBr
                  clear e1 e2 e3 hw hw2 n1 n2 hplay hBr hz
                  go_wp2_with fail
                  go_at_call 22
                  refine HWh.out.mono ?_
                  rintro e w5 ⟨rfl, b5⟩
                  have hs5 := b5.size
                  have own5 : (w5.alloc (.cells #[.int .i64 fr, .int .i64 (fr + 1), .int .i64 a, .int .i64 ((a : Int) + 1), .int .i64 (-1)] 44)).ownsRow wE.heap.size 44 5 (.slice vo xs.length vc') xs.length (Al.lcells xs) := (L.owns_below HI.out.own b5 (Nat.le_refl _)).alloc _
                  have txt5 : (w5.alloc (.cells #[.int .i64 fr, .int .i64 (fr + 1), .int .i64 a, .int .i64 ((a : Int) + 1), .int .i64 (-1)] 44)).ownsRow 0 21 1 (.slice no now.length nc) now.length (K.ints now) := (L.owns_below HI.out.text b5 (Nat.le_refl _)).alloc _
                  obtain ⟨ao1, vc1, w6, run1, own6, kp6, sz6, be6⟩ := Al.app (sl := 33) Tryz.underlying33 Tryz.infoLink rfl (by decide) (by decide) own5 (by simp; omega) (by omega) [.int .i64 fr, .int .i64 (fr + 1), .int .i64 a, .int .i64 ((a : Int) + 1), .int .i64 (-1)] rfl (fun u hu => by simp at hu; rcases hu with rfl | rfl | rfl | rfl | rfl <;> rfl)
                  have hx6 : w6.heap[w5.heap.size]? = some (.cells #[.int .i64 fr, .int .i64 (fr + 1), .int .i64 a, .int .i64 ((a : Int) + 1), .int .i64 (-1)] 44) := by
                    rw [kp6 _ (by simp) (fun e => by have h3 := (HI.out.own.lt _ e).2; omega)]
                    exact heap_alloc_new w5 _
                  have HN2 : Hid (∀ q, Al.Ri wE (w6.drewN q) l tot left (fr + 1) (xs ++ [⟨fr, fr + 1, a, (a : Int) + 1, -1⟩]) (.slice ao1 (xs.length + 1) vc1) (.slice no now.length nc) now (A ++ Z.take 1) (Z.drop 1) (a + 1)) := fun q => by
                    have hbq : Below w6.heap.size w6 (w6.drewN q) := below_drewN (Below.refl _ w6) q
                    refine ⟨HN.out.1, HN.out.2.1, ⟨_, _, HN.out.2.2.1⟩, HN.out.2.2.2, L.owns_below ?_ hbq (Nat.le_refl _), L.owns_below (Al.grew own5 txt5 kp6) hbq (Nat.le_refl _), ?_⟩
                    · rw [Al.lcells_append, List.length_append]; exact own6
                    · exact below_drewN ((HI.out.bel.trans (b5.mono hsz)).trans (((Below.refl _ w5).alloc (by omega) _).trans be6)) q
                  have hlen : (xs ++ [(⟨fr, fr + 1, a, (a : Int) + 1, -1⟩ : Al.Lk)]).length = xs.length + 1 := by simp
                  have HL : Hid ((xs ++ [(⟨fr, fr + 1, a, (a : Int) + 1, -1⟩ : Al.Lk)]).length = xs.length + 1) := hlen
                  rw [show (w5.alloc (.cells #[.int .i64 fr, .int .i64 (fr + 1), .int .i64 a, .int .i64 ((a : Int) + 1), .int .i64 (-1)] 44)).heap.size = w5.heap.size + 1 by simp] at run1
                  have y1 := K.at_box (i := 1) hx6 rfl
                  have y3 := K.at_box (i := 3) hx6 rfl
                  clear own5 txt5 own6 kp6 be6 hx6 HWh b5 HN hlen
                  go_wp2_with (at_builtin; refine Lib.wpList_append_run _ rfl _ _ _ _ rfl _ _ rfl rfl _ _ (run1 _) ?_; clear run1)
                  go_quiet (fail)
                  go_wp2
                  go_roundw
                  case rel => exact ⟨left, fr + 1, xs ++ [⟨fr, fr + 1, a, (a : Int) + 1, -1⟩], ao1, vc1, no, nc, now, A ++ Z.take 1, Z.drop 1, a + 1, (by rw [HL.out]), rfl, hnc, hn4, rfl, (by go_num), by omega, by omega, by omega, (by rw [HL.out]; omega), by show Al.Ri _ _ _ _ _ _ _ _ _ _ _ _ _; rw [HL.out]; exact HN2.out _⟩
                  case measure => simp [RowKit.intOf]; omega
                · rw [hw] at HWh
                  have hw2 : K.which l (A ++ Z) A.length = (j : Int) := by rw [← e1, ← e2]; exact hw
                  have hrE := HE.out r (List.mem_of_getElem? hj)
                  have hm2 : K.matchB r (A ++ Z) A.length = true := by rw [← e1, ← e2]; exact hm
                  have hfit := K.fits hrE hm2
                  obtain ⟨n1, n3, n2⟩ := HSG2.out left A Z s p fr j r hz hw2 hj hplay
                  have hls : r.source.length ≤ 20 := (K.ruleE_zero hrE).2.1.1
                  have hls0 : 0 < r.source.length := (K.ruleE_zero hrE).2.2.2.1
                  have hlt2 : r.target.length ≤ 20 := (K.ruleE_zero hrE).2.2.2.2.1
                  have hput : K.putL r now (a : Int) = (A ++ r.target) ++ Z.drop r.source.length := by
                    rw [e1, e2, K.putL_rest]
                    unfold K.restOf
                    rw [List.append_assoc]
                  obtain ⟨nw, hnw⟩ : ∃ nw, nw = K.putL r now (a : Int) := ⟨_, rfl⟩
                  have hnl : nw.length = a + r.target.length + (Z.length - r.source.length) := by rw [hnw, hput]; simp; omega
                  have HN : Hid (nw = (A ++ r.target) ++ Z.drop r.source.length ∧ a + r.target.length = (A ++ r.target).length ∧ (K.play l left (A ++ r.target) (Z.drop r.source.length) (s + 1) (p + 1)).1 = 0 ∧ tot = (xs ++ [⟨fr, fr + (r.source.length : Int), a, (a : Int) + (r.target.length : Int), j⟩]) ++ Al.links l (fr + (r.source.length : Int)) (Al.shots l left (A ++ r.target) (Z.drop r.source.length))) := by
                    refine ⟨by rw [hnw, hput], by simp; omega, n1, ?_⟩
                    rw [HI.out.all, n2, List.append_assoc, e2]
                    rfl
                  have hjl := (List.getElem?_eq_some_iff.1 hj).1
                  have hj0 : (0 : Int) ≤ j := by omega
                  have hRr := HR.out.below hBr
                  obtain ⟨ba, oa, bo, bc, so, sc, ao2, ac, tt, tc, hva, a0, a1, a2, a3, a4, a5, a6, hP⟩ := K.Rus.rule hRr hj
                  cases hva
                  have hba : ba < wr.heap.size := L.block_lt a0
                  have HPu : Hid (∀ w5 o, Below wr.heap.size wr w5 → Calls Tryz.prog 23 #[.agg #[.bool r.start, .bool r.fin, .slice bo r.before.length bc, .slice so r.source.length sc, .slice ao2 r.after.length ac, .slice tt r.target.length tc, .int .i64 r.cursor], .slice no now.length nc, .int .i64 (a : Int)] (w5.alloc o) fun e w' => ∃ v', e = .returned v' ∧ w'.ownsRow ((w5.alloc o).heap.size + 1) 21 1 v' nw.length (K.ints nw) ∧ Below (w5.alloc o).heap.size (w5.alloc o) w') := fun w5 o hb5 => by
                    have hb6 : Below wr.heap.size wr (w5.alloc o) := hb5.alloc hb5.size o
                    have h := rPut2_any (w5.alloc o) _ r (hP.below hb6) hrE no nc now (K.rd_owns (L.owns_below HI.out.text hb6 (Nat.le_refl _))) hnc hn4 a (by omega)
                    rw [← hnw] at h
                    exact h
                  have HC7 : Hid (wr.cell? ⟨ba, oa + j * 7, none⟩ = some (.bool r.start) ∧ wr.cell? ⟨ba, oa + j * 7 + 1, none⟩ = some (.bool r.fin) ∧ wr.cell? ⟨ba, oa + j * 7 + 2, none⟩ = some (.slice bo r.before.length bc) ∧ wr.cell? ⟨ba, oa + j * 7 + 3, none⟩ = some (.slice so r.source.length sc) ∧ wr.cell? ⟨ba, oa + j * 7 + 4, none⟩ = some (.slice ao2 r.after.length ac) ∧ wr.cell? ⟨ba, oa + j * 7 + 5, none⟩ = some (.slice tt r.target.length tc) ∧ wr.cell? ⟨ba, oa + j * 7 + 6, none⟩ = some (.int .i64 r.cursor)) := ⟨a0, a1, a2, a3, a4, a5, a6⟩
                  have hnl4 : nw.length ≤ 4000 := by omega
                  have hnla : a + r.target.length ≤ nw.length := by omega
                  have hnlm : nw.length - (a + r.target.length) < now.length - a := by omega
                  clear e1 e2 e3 hw hw2 n1 n2 n3 hplay hBr hz hm hm2 hrE hj hput hnw hnl hP hRr a0 a1 a2 a3 a4 a5 a6 hfit
                  obtain ⟨st, fi, be, sou, af, ta, cu⟩ := r
                  simp only at HC7 HPu HN hls hls0 hlt2 hnl4 hnla hnlm
                  go_wp2_with fail
                  go_at_call 22
                  refine HWh.out.mono ?_
                  rintro e w5 ⟨rfl, b5⟩
                  have hs5 := b5.size
                  have HB5 : Hid (Below wr.heap.size wr w5) := b5
                  have hba5 : ba < w5.heap.size := by omega
                  have hnb : ba ≠ w5.heap.size := by omega
                  have c0 : w5.cell? ⟨ba, oa + j * 7, none⟩ = _ := (b5.cell (p := ⟨ba, _, none⟩) hba).trans HC7.out.1
                  have c1 : w5.cell? ⟨ba, oa + j * 7 + 1, none⟩ = _ := (b5.cell (p := ⟨ba, _, none⟩) hba).trans HC7.out.2.1
                  have c2 : w5.cell? ⟨ba, oa + j * 7 + 2, none⟩ = _ := (b5.cell (p := ⟨ba, _, none⟩) hba).trans HC7.out.2.2.1
                  have c3 : w5.cell? ⟨ba, oa + j * 7 + 3, none⟩ = _ := (b5.cell (p := ⟨ba, _, none⟩) hba).trans HC7.out.2.2.2.1
                  have c4 : w5.cell? ⟨ba, oa + j * 7 + 4, none⟩ = _ := (b5.cell (p := ⟨ba, _, none⟩) hba).trans HC7.out.2.2.2.2.1
                  have c5 : w5.cell? ⟨ba, oa + j * 7 + 5, none⟩ = _ := (b5.cell (p := ⟨ba, _, none⟩) hba).trans HC7.out.2.2.2.2.2.1
                  have c6 : w5.cell? ⟨ba, oa + j * 7 + 6, none⟩ = _ := (b5.cell (p := ⟨ba, _, none⟩) hba).trans HC7.out.2.2.2.2.2.2
                  clear HWh HC7 b5
                  go_wp2_with fail
                  go_at_call 23
                  refine (HPu.out w5 _ HB5.out).mono ?_
                  rintro e w6 ⟨v6, rfl, own6, b6⟩
                  obtain ⟨h6, B6, s6⟩ := K.one_box b6
                  obtain ⟨po, pc, rfl, hpc, hpm⟩ := K.own_slice own6
                  unfold maxLen at hpm
                  have b5 := HB5.out
                  have B56 : Below wr.heap.size wr w6 := b5.trans (B6.mono b5.size)
                  have own5 : w6.ownsRow wE.heap.size 44 5 (.slice vo xs.length vc') xs.length (Al.lcells xs) := L.owns_below HI.out.own B56 (Nat.le_refl _)
                  have txt5 : w6.ownsRow 0 21 1 (.slice po nw.length pc) nw.length (K.ints nw) := L.owns_base own6 (Nat.zero_le _)
                  obtain ⟨ao1, vc1, w7, run1, own7, kp7, sz7, be7⟩ := Al.app (sl := 33) Tryz.underlying33 Tryz.infoLink rfl (by decide) (by decide) own5 (by have := B56.size; omega) (by omega) [.int .i64 fr, .int .i64 (fr + (sou.length : Int)), .int .i64 a, .int .i64 ((a : Int) + (ta.length : Int)), .int .i64 j] rfl (fun u hu => by simp at hu; rcases hu with rfl | rfl | rfl | rfl | rfl <;> rfl)
                  have hx7 : w7.heap[w5.heap.size]? = some (.cells #[.int .i64 fr, .int .i64 (fr + (sou.length : Int)), .int .i64 a, .int .i64 ((a : Int) + (ta.length : Int)), .int .i64 j] 44) := by
                    rw [kp7 _ (by omega) (fun e => by have h3 := (HI.out.own.lt _ e).2; omega)]
                    exact h6
                  have HN2 : Hid (∀ q, Al.Ri wE (w7.drewN q) l tot left (fr + (sou.length : Int)) (xs ++ [⟨fr, fr + (sou.length : Int), a, (a : Int) + (ta.length : Int), j⟩]) (.slice ao1 (xs.length + 1) vc1) (.slice po nw.length pc) nw (A ++ ta) (Z.drop sou.length) (a + ta.length)) := fun q => by
                    have hbq : Below w7.heap.size w7 (w7.drewN q) := below_drewN (Below.refl _ w7) q
                    refine ⟨HN.out.1, HN.out.2.1, ⟨_, _, HN.out.2.2.1⟩, HN.out.2.2.2, L.owns_below ?_ hbq (Nat.le_refl _), L.owns_below (Al.grew own5 txt5 kp7) hbq (Nat.le_refl _), ?_⟩
                    · rw [Al.lcells_append, List.length_append]; exact own7
                    · exact below_drewN ((HI.out.bel.trans (B56.mono hsz)).trans be7) q
                  have HL : Hid ((xs ++ [(⟨fr, fr + (sou.length : Int), a, (a : Int) + (ta.length : Int), j⟩ : Al.Lk)]).length = xs.length + 1) := by show _ = _; simp
                  have y0 := K.at_box (i := 0) h6 rfl
                  have y1 := K.at_box (i := 1) h6 rfl
                  have y2 := K.at_box (i := 2) h6 rfl
                  have y3 := K.at_box (i := 3) h6 rfl
                  have y4 := K.at_box (i := 4) h6 rfl
                  have u1 := K.at_box (i := 1) hx7 rfl
                  have u3 := K.at_box (i := 3) hx7 rfl
                  clear own5 txt5 own6 own7 kp7 be7 hx7 HPu b5 b6 B6 B56 h6 HN HB5 c0 c1 c2 c3 c4 c5 c6
                  go_wp2_with (at_builtin; refine Lib.wpList_append_run _ rfl _ _ _ _ rfl _ _ rfl rfl _ _ (run1 _) ?_; clear run1)
                  go_quiet (fail)
                  go_wp2
                  go_roundw
                  case rel => exact ⟨left, fr + (sou.length : Int), xs ++ [⟨fr, fr + (sou.length : Int), a, (a : Int) + (ta.length : Int), j⟩], ao1, vc1, po, pc, nw, A ++ ta, Z.drop sou.length, a + ta.length, (by rw [HL.out]), rfl, hpc, hnl4, rfl, (by go_num), hnla, by omega, by omega, (by rw [HL.out]; omega), by show Al.Ri _ _ _ _ _ _ _ _ _ _ _ _ _; rw [HL.out]; exact HN2.out _⟩
                  case measure => simp [RowKit.intOf]; omega
      · have HAn : Hid (Al.ans l t (hs, 0, 0) = ([], re, 0)) := by
          show _ = _
          unfold Al.ans
          rw [if_neg (by simp), if_pos (by rw [HP.out]; exact q3), HP.out]
        have HBd : Hid (∀ x y, Below w.heap.size w ((X3.setCell ⟨w.heap.size, 0, none⟩ x).setCell ⟨w.heap.size, 1, none⟩ y)) := fun x y => (HX3.out.2.setCell (p := ⟨w.heap.size, 0, none⟩) (Nat.le_refl _) _).setCell (p := ⟨w.heap.size, 1, none⟩) (Nat.le_refl _) _
        clear HSu HR HT HE HP
        go_upto_region 8 with fail
        rw [← hX3]
        clear hX3
        go_wp2
        go_region
        go_wp2
        refine bodyPost_ret (v := .tuple #[.slice none 0 0, .agg #[.int .i64 re, .int .i64 0]]) (by simp [results, Tryz.results10, go_sem, *]) rfl ?_
        exact ⟨_, (hs, 0, 0), by rw [HAn.out], HCh.out, by rw [HAn.out]; exact World.ownsRow_nil _ _ _ _, (HBd.out _ _).drew⟩
    · have HAn : Hid (Al.ans l t (hs, o1, o2) = ([], o1, o2)) := by
        show _ = _
        unfold Al.ans
        rw [if_pos q2]
      have HBd : Hid (∀ o x y, Below w.heap.size w (((w2.alloc o).setCell ⟨w.heap.size, 0, none⟩ x).setCell ⟨w.heap.size, 1, none⟩ y)) := fun o x y => ((hB2.alloc hB2.size o).setCell (p := ⟨w.heap.size, 0, none⟩) (Nat.le_refl _) _).setCell (p := ⟨w.heap.size, 1, none⟩) (Nat.le_refl _) _
      clear HB HSu HR HT HE HP hB2
      go_wp2
      go_region
      go_wp2
      refine bodyPost_ret (v := .tuple #[.slice none 0 0, .agg #[.int .i64 o1, .int .i64 o2]]) (by simp [results, Tryz.results10, go_sem, *]) rfl ?_
      exact ⟨_, (hs, o1, o2), by rw [HAn.out], HCh.out, by rw [HAn.out]; exact World.ownsRow_nil _ _ _ _, (HBd.out _ _ _).drew⟩
  · have HCh : Hid (Gm.Chk l t ([], c1, c2)) := HChk.out q1
    have HAn : Hid (Al.ans l t ([], c1, c2) = ([], c1, c2)) := by
      show _ = _
      unfold Al.ans
      rw [if_pos q1]
    obtain ⟨x0, x1, f0, f3⟩ := K.box2 h1
    have k0 : ∀ o, (w1.alloc o).cell? ⟨w.heap.size, 0, none⟩ = some (.int .i64 0) := fun o => K.alloc_cell x0 o
    have k1 : ∀ o, (w1.alloc o).cell? ⟨w.heap.size, 1, none⟩ = some (.int .i64 0) := fun o => K.alloc_cell x1 o
    have g0 : ∀ o, (w1.alloc o).frozen? ⟨w.heap.size, 0, none⟩ = false := fun o => K.alloc_free h1 o 0
    have g1 : ∀ o, (w1.alloc o).frozen? ⟨w.heap.size, 1, none⟩ = false := fun o => K.alloc_free h1 o 1
    have HBd : Hid (∀ o x y, Below w.heap.size w (((w1.alloc o).setCell ⟨w.heap.size, 0, none⟩ x).setCell ⟨w.heap.size, 1, none⟩ y)) := fun o x y => ((B1.alloc B1.size o).setCell (p := ⟨w.heap.size, 0, none⟩) (Nat.le_refl _) _).setCell (p := ⟨w.heap.size, 1, none⟩) (Nat.le_refl _) _
    clear HB HM HSu HR HT HChk HChk2 HRunF x0 x1 f0 f3 h1 B1
    go_wp2
    go_region
    go_wp2
    refine bodyPost_ret (v := .tuple #[.slice none 0 0, .agg #[.int .i64 c1, .int .i64 c2]]) (by simp [results, Tryz.results10, go_sem, *]) rfl ?_
    exact ⟨_, ([], c1, c2), by rw [HAn.out], HCh.out, by rw [HAn.out]; exact World.ownsRow_nil _ _ _ _, (HBd.out _ _ _).drew⟩

end Go.Proofs.YtlmmjefplbcapaaGreat
