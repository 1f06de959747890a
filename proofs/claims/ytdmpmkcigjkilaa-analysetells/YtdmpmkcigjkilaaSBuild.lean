/-
  What the document's Build makes of edges and of what holds: the set of the numbers of which it holds.
-/
import Derived.Test.YtdmpmkcigjkilaaSFew
import Derived.Test.YtdmpmkcigjkilaaSJoin
import Derived.Test.YtdmpmkcigjkilaaSAlg
namespace Go.Proofs.Ytdmpmkcigjkilaa
open Go.RowKit
set_option maxRecDepth 20000

/-- all up to r are told -/
structure Upto (P : Int → Bool) (s : List S.Sp) (r : Int) : Prop where
  nf : S.Nf 0 s
  mem : ∀ q, S.memb s q = (decide (q < r) && (S.inR q && P q))

theorem Upto.ends {P : Int → Bool} {s : List S.Sp} {r : Int} (h : Upto P s r) {p : S.Sp} (hp : p ∈ s) : p.1 ≤ p.2 ∧ p.2 < r := by
  have h1 := h.nf.mem hp
  have h2 : S.memb s p.2 = true := S.memb_iff.2 ⟨p, hp, by omega, by omega⟩
  rw [h.mem] at h2
  simp at h2
  omega
theorem Upto.keep {P : Int → Bool} {s : List S.Sp} {r hi : Int} (h : Upto P s r) (h0 : 0 ≤ r) (h1 : r ≤ hi) (h2 : hi ≤ 1114111) (ha : ∀ q, r ≤ q → q ≤ hi → P q = P r) (hk : P r = true) : Upto P (S.joinF s (r, hi)) (hi + 1) := by
  have hj := S.joinF_nf (x := (r, hi)) h.nf h0 h1 h2 fun p hp => by
    have := h.ends (List.mem_of_getLast? hp)
    simp only; omega
  refine ⟨hj.1, fun q => ?_⟩
  rw [hj.2, h.mem]
  simp only
  by_cases hq : r ≤ q ∧ q ≤ hi
  · have h3 : S.inR q = true := by simp [S.inR]; omega
    rw [ha q hq.1 hq.2, hk, h3]
    simp [hq.1, hq.2]
    omega
  · have e : decide (q < r) = decide (q < hi + 1) := by
      apply S.bool_eq; simp; omega
    rw [e]
    have : (decide (r ≤ q) && decide (q ≤ hi)) = false := by simp; omega
    rw [this, Bool.or_false]
theorem Upto.skip {P : Int → Bool} {s : List S.Sp} {r hi : Int} (h : Upto P s r) (h1 : r ≤ hi) (ha : ∀ q, r ≤ q → q ≤ hi → P q = P r) (hk : P r = false) : Upto P s (hi + 1) := by
  refine ⟨h.nf, fun q => ?_⟩
  rw [h.mem]
  by_cases hq : r ≤ q ∧ q ≤ hi
  · rw [ha q hq.1 hq.2, hk]; simp
  · have e : decide (q < r) = decide (q < hi + 1) := by
      apply S.bool_eq; simp; omega
    rw [e]

/-- edges: rising from 0 on, and between two nothing changes -/
structure Edged (zs : List Int) (P : Int → Bool) : Prop where
  first : zs[0]? = some 0
  rise : zs.Pairwise (· < ·)
  top : ∀ z ∈ zs, z ≤ 1114111
  same : ∀ (i : Nat) r, zs[i]? = some r → ∀ q, r ≤ q → (∀ r', zs[i + 1]? = some r' → q < r') → q ≤ 1114111 → P q = P r

theorem Edged.nonneg {zs : List Int} {P : Int → Bool} (h : Edged zs P) {i : Nat} {r : Int} (hi : zs[i]? = some r) : 0 ≤ r := by
  have h0 := h.first
  cases i with
  | zero => rw [h0] at hi; cases hi; omega
  | succ i =>
    have l1 := (List.getElem?_eq_some_iff.1 hi).1
    have l0 := (List.getElem?_eq_some_iff.1 h0).1
    have := (List.pairwise_iff_getElem.1 h.rise) 0 (i + 1) l0 l1 (by omega)
    rw [List.getElem?_eq_getElem l0] at h0
    rw [List.getElem?_eq_getElem l1] at hi
    have e0 := Option.some.inj h0
    have e1 := Option.some.inj hi
    omega

/-- where the i-th stretch begins -/
def edgeAt (zs : List Int) (i : Nat) : Int := (zs[i]?).getD 1114112

set_option maxHeartbeats 2000000 in
theorem build_any (w : World) (ve : Value) (zs : List Int) (P : Int → Bool) (g : Nat) (cb : Array Value) (Re : L.Rd w ve .i32 zs) (E : Edged zs P) (hl : zs.length ≤ 4194304)
    (eg : ∀ args w, (callFunc g args).run Try.prog w = .ok (.enter g args) w) (hh : ∀ W r, Below w.heap.size w W → Calls Try.prog g (#[.int .i32 r] ++ cb) W fun e w' => e = .returned (.bool (P r)) ∧ Below W.heap.size W w') :
    Calls Try.prog 93 #[ve, .func (.func g) #[] cb] w (Tells w 0 0 fun q => S.inR q && P q) := by
  obtain ⟨i0, hi, hz0, hz1, hz2⟩ := info_parts Try.infoSp
  obtain ⟨ao, cap, rfl, hn, hc⟩ := Re
  obtain ⟨be, off, rfl, hcell⟩ := hc (by intro h; have := E.first; rw [h] at this; simp at this)
  have HC : Hid (∀ j z, zs[j]? = some z → w.cell? ⟨be, off + j, none⟩ = some (.int .i32 z)) := hcell
  have HE : Hid (Edged zs P) := E
  have HH : Hid (∀ W r, Below w.heap.size w W → Calls Try.prog g (#[.int .i32 r] ++ cb) W fun e w' => e = .returned (.bool (P r)) ∧ Below W.heap.size W w') := hh
  clear hcell hc E hh hn
  generalize hres : (fun q => S.inR q && P q) = PP
  have HPP : Hid ((fun q => S.inR q && P q) = PP) := hres
  clear hres
  go_enter Try.func93, Try.ntmps93
  go_wp2
  go_loopw [6, 13] (fun vo iv wr => ∃ (i : Nat) (s : List S.Sp), i ≤ zs.length ∧ iv = .int .i64 i ∧ s.length ≤ i ∧ Hid (wr.ownsRow w.heap.size 99 2 vo s.length (S.cellsOf s)) ∧ Hid (Upto P s (edgeAt zs i)) ∧ Hid (Below w.heap.size w wr)) (fun _ iv _ => zs.length - (intOf iv).toNat)
  case atStart =>
    refine ⟨0, [], Nat.zero_le _, rfl, by simp, World.ownsRow_nil _ _ _ _, ⟨trivial, fun q => ?_⟩, Below.refl _ _⟩
    have : edgeAt zs 0 = 0 := by unfold edgeAt; rw [HE.out.first]; rfl
    rw [this, S.memb_nil]
    by_cases hq : q < 0
    · have : S.inR q = false := by simp [S.inR]; omega
      simp only [this, Bool.false_and, Bool.and_false]
    · simp [hq]
  case round =>
    obtain ⟨i, s, hil, rfl, hsl, HO, HU, HB⟩ := hrel
    have hsr := HB.out.size
    by_cases hlt : i < zs.length
    · obtain ⟨r, hr⟩ : ∃ r, zs[i]? = some r := ⟨zs[i], by simp [hlt]⟩
      have c1 := HC.out i r hr
      have hbe := L.block_lt c1
      rw [← HB.out.cell (p := ⟨be, off + i, none⟩) hbe] at c1
      have hr0 := HE.out.nonneg hr
      have hr1 := HE.out.top r (List.mem_of_getElem? hr)
      have heq : edgeAt zs i = r := by unfold edgeAt; rw [hr]; rfl
      have HU2 := HU.out
      rw [heq] at HU2
      have HU3 : Hid (Upto P s r) := HU2
      have hcall := HH.out wr r HB.out
      have hsame := HE.out.same i r hr
      have HSame : Hid _ := hsame
      have HR : Hid (zs[i]? = some r) := hr
      clear HU2 heq hr hsame HU
      cases hP : P r with
      | false =>
        rw [hP] at hcall
        have HP : Hid (P r = false) := hP
        clear hP
        go_wp2_with fail
        refine hcall.mono ?_
        clear hcall
        rintro e w1 ⟨rfl, b1⟩
        have HB1 : Hid (Below w.heap.size w w1) := HB.out.trans (b1.mono hsr)
        have HO1 : Hid (w1.ownsRow w.heap.size 99 2 _ s.length (S.cellsOf s)) := L.owns_below HO.out b1 (Nat.le_refl _)
        clear b1
        have hnext : Hid (Upto P s (edgeAt zs (i + 1))) := by
          have h0 : r ≤ edgeAt zs (i + 1) - 1 := by
            unfold edgeAt
            cases hq : zs[i + 1]? with
            | none => simp; omega
            | some r' =>
              have l1 := (List.getElem?_eq_some_iff.1 hq).1
              have l0 := (List.getElem?_eq_some_iff.1 HR.out).1
              have := (List.pairwise_iff_getElem.1 HE.out.rise) i (i + 1) l0 l1 (by omega)
              have e0 := HR.out
              rw [List.getElem?_eq_getElem l0] at e0
              rw [List.getElem?_eq_getElem l1] at hq
              cases e0; cases hq
              simp; omega
          have := HU3.out.skip (hi := edgeAt zs (i + 1) - 1) h0 (fun q h1 h2 => by
            refine HSame.out q h1 (fun r' hr' => by unfold edgeAt at h2; rw [hr'] at h2; simp at h2; omega) ?_
            unfold edgeAt at h2
            cases hq : zs[i + 1]? with
            | none => rw [hq] at h2; simp at h2; omega
            | some r' => rw [hq] at h2; have := HE.out.top r' (List.mem_of_getElem? hq); simp at h2; omega) HP.out
          rw [show edgeAt zs (i + 1) - 1 + 1 = edgeAt zs (i + 1) by omega] at this
          exact this
        go_wp2
        go_roundw
        case rel => exact ⟨i + 1, s, by omega, by go_num, by omega, HO1, hnext, HB1⟩
        case measure => simp [intOf]; omega
      | true =>
        rw [hP] at hcall
        have HP : Hid (P r = true) := hP
        clear hP
        go_wp2_with fail
        refine hcall.mono ?_
        clear hcall
        rintro e w1 ⟨rfl, b1⟩
        have HB1 : Hid (Below w.heap.size w w1) := HB.out.trans (b1.mono hsr)
        have HO1 : Hid (w1.ownsRow w.heap.size 99 2 _ s.length (S.cellsOf s)) := L.owns_below HO.out b1 (Nat.le_refl _)
        have hs1 := HB1.out.size
        clear b1 HO
        have HO1a : Hid (∀ o, (w1.alloc o).ownsRow w.heap.size 99 2 _ s.length (S.cellsOf s)) := fun o => HO1.out.alloc o
        have HB1a : Hid (∀ o, Below w.heap.size w (w1.alloc o)) := fun o => HB1.out.alloc hs1 o
        cases hq : zs[i + 1]? with
        | none =>
          have hil2 : zs.length ≤ i + 1 := by
            rcases Nat.lt_or_ge (i + 1) zs.length with h | h
            · rw [List.getElem?_eq_getElem h] at hq; cases hq
            · exact h
          have HNx : Hid (zs[i + 1]? = none) := hq
          clear hq
          have HNext : Hid (Upto P (S.joinF s (r, 1114111)) (edgeAt zs (i + 1))) := by
            have h := HU3.out.keep (hi := 1114111) hr0 (by omega) (by omega) (fun q h1 h2 => HSame.out q h1 (fun r' hr' => by rw [HNx.out] at hr'; cases hr') (by omega)) HP.out
            rw [show 1114111 + 1 = edgeAt zs (i + 1) by unfold edgeAt; rw [HNx.out]; rfl] at h
            exact h
          rcases S.snoc_cases s with rfl | ⟨m, p, rfl⟩
          · have hv : ∃ a0 c0, _ = Value.slice a0 ([] : List S.Sp).length c0 := (S.Rd.of_owns HO1.out).len
            obtain ⟨a0, c0, rfl⟩ := hv
            go_wp2_with (at_builtin; go_must (refine wpList_append_own _ rfl _ _ 23 rfl w.heap.size 99 i0 (.agg #[.int .i32 0, .int .i32 0]) 2 8 Try.underlying23 hi hz0 hz1 hz2 rfl (by decide) _ _ _ rfl (HO1a.out _) ⟨w1.heap.size, 0, none⟩ 1 1 [.int .i32 r, .int .i32 (1114111)] rfl rfl (fun j u hj => two_new _ _ _ _ _ (by simp) j u hj) (fun x hx => by simp at hx; rcases hx with rfl | rfl <;> rfl) (by unfold maxLen; simp) (by simp) (by simp; omega) ?_; intro v4 w4 hown4 hgrow4 hnil4; have HO4 : Hid _ := hown4; have HB4 : Hid (Below w.heap.size w w4) := Below.grown (HB1a.out _) hgrow4 (by simp; omega) (fun j hj => ((HO1a.out (.cells #[.int .i32 r, .int .i32 (1114111)] 99)).lt j hj).1); clear hown4 hgrow4 hnil4))
            go_roundw
            case rel =>
              refine ⟨i + 1, S.joinF [] (r, 1114111), by omega, by go_num, by rw [S.joinF_nil]; simp, ?_, HNext.out, HB4⟩
              have h := HO4.out
              rw [show S.joinF [] (r, 1114111) = [] ++ [(r, 1114111)] from rfl, S.cellsOf_append, List.length_append]
              exact h
            case measure => simp [intOf]; omega
          · obtain ⟨p1, p2⟩ := p
            have hpe := HU3.out.ends (p := (p1, p2)) (by simp)
            have hpm := HU3.out.nf.mem (x := (p1, p2)) (by simp)
            simp only at hpe hpm
            have hown1 := HO1.out
            rcases hown1.2 with ⟨_, h0⟩ | ⟨gb, cp, cur, hv, _⟩
            · simp at h0
            · subst hv
              have e1 : (m ++ [(p1, p2)])[m.length]? = some (p1, p2) := by simp
              have cp2 := hown1.cells (g := gb) rfl _ _ (S.cellsOf_get e1).2
              rw [L.addr_add, Nat.zero_add] at cp2
              simp only at cp2
              have hfz := World.ownsRow.frozenAt hown1 (m.length * 2 + 1)
              have hlen : (m ++ [(p1, p2)]).length = m.length + 1 := by simp
              rw [hlen] at hsl
              have hx2 : (m.length : Int) < (m.length : Int) + 1 := by omega
              clear hown1 e1
              generalize hN : (m ++ [(p1, p2)]).length = N at *
              subst hlen
              clear hN
              by_cases hc : p2 + 1 = r
              · have hst := World.ownsRow.stored HO1.out (m.length * 2 + 1) (.int .i32 (1114111))
                rw [cellsOf_set] at hst
                have HST : Hid _ := hst
                have HBs : Hid (Below w.heap.size w (w1.setCell ⟨gb, m.length * 2 + 1, none⟩ (.int .i32 (1114111)))) := Below.grown HB1.out hst.2 (by omega) (fun j hj => by cases hj; exact (HO1.out.lt gb rfl).1)
                have hcq : (p2 + 1 == r) = true := by simp [hc]
                clear hst
                go_wp2
                go_roundw
                case rel =>
                  refine ⟨i + 1, S.joinF (m ++ [(p1, p2)]) (r, 1114111), by omega, by go_num, ?_, ?_, HNext.out, HBs⟩
                  · rw [S.joinF_snoc, if_neg (by simp only; omega)]; simp; omega
                  · rw [S.joinF_snoc, if_neg (by simp only; omega)]
                    have h := HST.out.1
                    rw [show max p2 (1114111) = 1114111 by omega]
                    rw [show (m ++ [((p1, 1114111) : S.Sp)]).length = m.length + 1 by simp]
                    exact h
                case measure => simp [intOf]; omega
              · have hcq : (p2 + 1 == r) = false := by simp [hc]
                go_wp2_with (at_builtin; go_must (refine wpList_append_own _ rfl _ _ 23 rfl w.heap.size 99 i0 (.agg #[.int .i32 0, .int .i32 0]) 2 8 Try.underlying23 hi hz0 hz1 hz2 rfl (by decide) _ _ _ rfl (HO1a.out _) ⟨w1.heap.size, 0, none⟩ 1 1 [.int .i32 r, .int .i32 (1114111)] rfl rfl (fun j u hj => two_new _ _ _ _ _ (by simp) j u hj) (fun x hx => by simp at hx; rcases hx with rfl | rfl <;> rfl) (by unfold maxLen; omega) (by omega) (by simp; omega) ?_; intro v4 w4 hown4 hgrow4 hnil4; have HO4 : Hid _ := hown4; have HB4 : Hid (Below w.heap.size w w4) := Below.grown (HB1a.out _) hgrow4 (by simp; omega) (fun j hj => ((HO1a.out (.cells #[.int .i32 r, .int .i32 (1114111)] 99)).lt j hj).1); clear hown4 hgrow4 hnil4))
                go_roundw
                case rel =>
                  refine ⟨i + 1, S.joinF (m ++ [(p1, p2)]) (r, 1114111), by omega, by go_num, by rw [S.joinF_snoc, if_pos (by simp only; omega)]; simp; omega, ?_, HNext.out, HB4⟩
                  have h := HO4.out
                  rw [S.joinF_snoc, if_pos (by simp only; omega), S.cellsOf_append, List.length_append, show (m ++ [((p1, p2) : S.Sp)]).length = m.length + 1 by simp]
                  exact h
                case measure => simp [intOf]; omega
        | some r1 =>
          have l1 := (List.getElem?_eq_some_iff.1 hq).1
          have hlt1 : r < r1 := by
            have l0 := (List.getElem?_eq_some_iff.1 HR.out).1
            have h := (List.pairwise_iff_getElem.1 HE.out.rise) i (i + 1) l0 l1 (by omega)
            have e0 := HR.out
            rw [List.getElem?_eq_getElem l0] at e0
            have e1 := hq
            rw [List.getElem?_eq_getElem l1] at e1
            have := Option.some.inj e0
            have := Option.some.inj e1
            omega
          have ht1 := HE.out.top r1 (List.mem_of_getElem? hq)
          have c2 := HC.out (i + 1) r1 hq
          rw [← HB1.out.cell (p := ⟨be, off + (i + 1), none⟩) hbe] at c2
          have HNx : Hid (zs[i + 1]? = some r1) := hq
          have hi1 : (i : Int) + 1 < (zs.length : Int) := by omega
          clear hq
          have HNext : Hid (Upto P (S.joinF s (r, r1 - 1)) (edgeAt zs (i + 1))) := by
            have h := HU3.out.keep (hi := r1 - 1) hr0 (by omega) (by omega) (fun q h1 h2 => HSame.out q h1 (fun r' hr' => by rw [HNx.out] at hr'; cases hr'; omega) (by omega)) HP.out
            rw [show r1 - 1 + 1 = edgeAt zs (i + 1) by unfold edgeAt; rw [HNx.out]; simp] at h
            exact h
          rcases S.snoc_cases s with rfl | ⟨m, p, rfl⟩
          · have hv : ∃ a0 c0, _ = Value.slice a0 ([] : List S.Sp).length c0 := (S.Rd.of_owns HO1.out).len
            obtain ⟨a0, c0, rfl⟩ := hv
            go_wp2_with (at_builtin; go_must (refine wpList_append_own _ rfl _ _ 23 rfl w.heap.size 99 i0 (.agg #[.int .i32 0, .int .i32 0]) 2 8 Try.underlying23 hi hz0 hz1 hz2 rfl (by decide) _ _ _ rfl (HO1a.out _) ⟨w1.heap.size, 0, none⟩ 1 1 [.int .i32 r, .int .i32 (r1 - 1)] rfl rfl (fun j u hj => two_new _ _ _ _ _ (by simp) j u hj) (fun x hx => by simp at hx; rcases hx with rfl | rfl <;> rfl) (by unfold maxLen; simp) (by simp) (by simp; omega) ?_; intro v4 w4 hown4 hgrow4 hnil4; have HO4 : Hid _ := hown4; have HB4 : Hid (Below w.heap.size w w4) := Below.grown (HB1a.out _) hgrow4 (by simp; omega) (fun j hj => ((HO1a.out (.cells #[.int .i32 r, .int .i32 (r1 - 1)] 99)).lt j hj).1); clear hown4 hgrow4 hnil4))
            go_roundw
            case rel =>
              refine ⟨i + 1, S.joinF [] (r, r1 - 1), by omega, by go_num, by rw [S.joinF_nil]; simp, ?_, HNext.out, HB4⟩
              have h := HO4.out
              rw [show S.joinF [] (r, r1 - 1) = [] ++ [(r, r1 - 1)] from rfl, S.cellsOf_append, List.length_append]
              exact h
            case measure => simp [intOf]; omega
          · obtain ⟨p1, p2⟩ := p
            have hpe := HU3.out.ends (p := (p1, p2)) (by simp)
            have hpm := HU3.out.nf.mem (x := (p1, p2)) (by simp)
            simp only at hpe hpm
            have hown1 := HO1.out
            rcases hown1.2 with ⟨_, h0⟩ | ⟨gb, cp, cur, hv, _⟩
            · simp at h0
            · subst hv
              have e1 : (m ++ [(p1, p2)])[m.length]? = some (p1, p2) := by simp
              have cp2 := hown1.cells (g := gb) rfl _ _ (S.cellsOf_get e1).2
              rw [L.addr_add, Nat.zero_add] at cp2
              simp only at cp2
              have hfz := World.ownsRow.frozenAt hown1 (m.length * 2 + 1)
              have hlen : (m ++ [(p1, p2)]).length = m.length + 1 := by simp
              rw [hlen] at hsl
              have hx2 : (m.length : Int) < (m.length : Int) + 1 := by omega
              clear hown1 e1
              generalize hN : (m ++ [(p1, p2)]).length = N at *
              subst hlen
              clear hN
              by_cases hc : p2 + 1 = r
              · have hst := World.ownsRow.stored HO1.out (m.length * 2 + 1) (.int .i32 (r1 - 1))
                rw [cellsOf_set] at hst
                have HST : Hid _ := hst
                have HBs : Hid (Below w.heap.size w (w1.setCell ⟨gb, m.length * 2 + 1, none⟩ (.int .i32 (r1 - 1)))) := Below.grown HB1.out hst.2 (by omega) (fun j hj => by cases hj; exact (HO1.out.lt gb rfl).1)
                have hcq : (p2 + 1 == r) = true := by simp [hc]
                clear hst
                go_wp2
                go_roundw
                case rel =>
                  refine ⟨i + 1, S.joinF (m ++ [(p1, p2)]) (r, r1 - 1), by omega, by go_num, ?_, ?_, HNext.out, HBs⟩
                  · rw [S.joinF_snoc, if_neg (by simp only; omega)]; simp; omega
                  · rw [S.joinF_snoc, if_neg (by simp only; omega)]
                    have h := HST.out.1
                    rw [show max p2 (r1 - 1) = r1 - 1 by omega]
                    rw [show (m ++ [((p1, r1 - 1) : S.Sp)]).length = m.length + 1 by simp]
                    exact h
                case measure => simp [intOf]; omega
              · have hcq : (p2 + 1 == r) = false := by simp [hc]
                go_wp2_with (at_builtin; go_must (refine wpList_append_own _ rfl _ _ 23 rfl w.heap.size 99 i0 (.agg #[.int .i32 0, .int .i32 0]) 2 8 Try.underlying23 hi hz0 hz1 hz2 rfl (by decide) _ _ _ rfl (HO1a.out _) ⟨w1.heap.size, 0, none⟩ 1 1 [.int .i32 r, .int .i32 (r1 - 1)] rfl rfl (fun j u hj => two_new _ _ _ _ _ (by simp) j u hj) (fun x hx => by simp at hx; rcases hx with rfl | rfl <;> rfl) (by unfold maxLen; omega) (by omega) (by simp; omega) ?_; intro v4 w4 hown4 hgrow4 hnil4; have HO4 : Hid _ := hown4; have HB4 : Hid (Below w.heap.size w w4) := Below.grown (HB1a.out _) hgrow4 (by simp; omega) (fun j hj => ((HO1a.out (.cells #[.int .i32 r, .int .i32 (r1 - 1)] 99)).lt j hj).1); clear hown4 hgrow4 hnil4))
                go_roundw
                case rel =>
                  refine ⟨i + 1, S.joinF (m ++ [(p1, p2)]) (r, r1 - 1), by omega, by go_num, by rw [S.joinF_snoc, if_pos (by simp only; omega)]; simp; omega, ?_, HNext.out, HB4⟩
                  have h := HO4.out
                  rw [S.joinF_snoc, if_pos (by simp only; omega), S.cellsOf_append, List.length_append, show (m ++ [((p1, p2) : S.Sp)]).length = m.length + 1 by simp]
                  exact h
                case measure => simp [intOf]; omega
    · have he : edgeAt zs i = 1114112 := by
        unfold edgeAt; rw [List.getElem?_eq_none (by omega)]; rfl
      have hU := HU.out
      rw [he] at hU
      have HIS : Hid (S.Is PP s) := by
        rw [← HPP.out]
        refine ⟨hU.nf, fun q => ?_⟩
        rw [hU.mem]
        cases hi : S.inR q with
        | false => simp only [Bool.false_and, Bool.and_false, hi]
        | true =>
          have : q < 1114112 := by simp [S.inR] at hi; omega
          simp only [this, decide_true, Bool.true_and, hi]
      have HNF := S.nf_eq HIS.out
      clear hU he
      have hv : ∃ a0 c0, _ = Value.slice a0 s.length c0 := (S.Rd.of_owns HO.out).len
      obtain ⟨a0, c0, rfl⟩ := hv
      have HR9 : Hid (S.Rd wr (.slice a0 s.length c0) s) := S.Rd.of_owns HO.out
      by_cases hmany : 200 < s.length
      · go_wp2
        go_ret2
        refine ⟨.slice none 0 0, ?_, ?_, HB.out, fun _ _ => ⟨s, HIS.out⟩⟩
        · unfold S.resE S.fewE; rw [HNF]; simp [hmany]
        · unfold S.resL S.fewL; rw [HNF]; simp [hmany]; exact S.Rd.nil _
      · go_wp2
        go_ret2
        refine ⟨.slice a0 s.length c0, ?_, ?_, HB.out, fun _ _ => ⟨s, HIS.out⟩⟩
        · unfold S.resE S.fewE; rw [HNF]; simp [hmany]
        · unfold S.resL S.fewL; rw [HNF]; simp [hmany]; exact HR9.out

end Go.Proofs.Ytdmpmkcigjkilaa
