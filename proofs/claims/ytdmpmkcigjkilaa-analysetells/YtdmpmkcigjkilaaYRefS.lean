/-
  Whether what rules made stays: the document's answer.
-/
import Derived.Test.YtdmpmkcigjkilaaYRefF
import Derived.Test.YtdmpmkcigjkilaaSRefHas
namespace Go.Proofs.Ytdmpmkcigjkilaa
open Go.RowKit Go.Shelf
set_option maxRecDepth 20000
set_option linter.unusedSimpArgs false
set_option linter.unusedVariables false

set_option maxHeartbeats 8000000 in
theorem rSteady9_any (w : World) (v : Value) (l : List K.Rule) (R0 : V.Rus w v l) (h0 : (K.rulesF l).1 = 0) :
    Calls Try.prog 27 #[v] w fun e w' => e = .returned (.tuple #[.bool (K.steadyF l).1, .agg #[.int .i64 (K.steadyF l).2.1, .int .i64 (K.steadyF l).2.2]]) ∧ Below w.heap.size w w' := by
  obtain ⟨hl, hE, hr0⟩ := K.rulesF_zero h0
  have HA : Hid (∀ o, Below w.heap.size w (w.alloc o)) := fun o => (Below.refl _ w).alloc (Nat.le_refl _) o
  have HC : Hid (∀ o, Calls Try.prog 16 #[v] (w.alloc o) fun e w' => e = .returned (.agg #[.int .i64 0, .int .i64 0]) ∧ Below (w.alloc o).heap.size (w.alloc o) w') := fun o => by
    have h := rWrong8_any _ _ l (R0.below (HA.out o))
    rw [hr0] at h
    exact h
  have HF : Hid (∀ X, Below w.heap.size w X → Calls Try.prog 26 #[v] X (Tells X 0 0 (S.memb (K.firstsL l)))) := fun X hX => rFirsts9_any X _ l (R0.below hX) hl hE
  have HR : Hid (V.Rus w v l) := R0
  have HE : Hid (∀ r ∈ l, K.ruleE r = 0) := hE
  have HSt : Hid (K.steadyF l = if S.resE 0 0 (S.memb (K.firstsL l)) = 0 then (!(l.any (K.stir9 l)), 0, 0) else (false, S.resE 0 0 (S.memb (K.firstsL l)), 0)) := by
    show _ = _
    unfold K.steadyF K.firstsF
    rw [if_pos h0, K.steady9 hE]
  obtain ⟨ao, cap, rfl⟩ := R0.len
  obtain ⟨⟨o0, o1, o2⟩, HO⟩ : ∃ o, Hid (K.steadyF l = o) := ⟨_, rfl⟩
  rw [HO.out] at HSt
  rw [HO.out]
  clear R0 hE hr0 h0 HO
  go_enter Try.func27, Try.ntmps27
  go_wp2_with fail
  refine (HC.out _).mono ?_
  rintro e w1 ⟨rfl, b1⟩
  obtain ⟨h1, B1, s1⟩ := K.one_box b1
  have HB1 : Hid (Below w.heap.size w w1) := B1
  have HX1 : Hid (w1.heap[w.heap.size]? = some (.cells #[.int .i64 0, .int .i64 0] 29)) := h1
  obtain ⟨X, hX⟩ : ∃ X, X = w1.alloc (.cells #[.int .i64 0, .int .i64 0] 29) := ⟨_, rfl⟩
  have hXB : Below w.heap.size w X := by rw [hX]; exact HB1.out.alloc (by omega) _
  have HX : Hid (Below w.heap.size w X ∧ X.heap[w.heap.size]? = some (.cells #[.int .i64 0, .int .i64 0] 29)) := ⟨hXB, by rw [hX, Below.heap_alloc w1 _ w.heap.size (by omega)]; exact HX1.out⟩
  have hFi := HF.out X hXB
  unfold Tells at hFi
  generalize hre : S.resE 0 0 (S.memb (K.firstsL l)) = re at hFi HSt
  clear b1 B1 HC h1 hXB hre
  go_wp2_with fail
  rw [← hX]
  refine hFi.mono ?_
  rintro e w2 ⟨v2, rfl, R2, b2, _⟩
  obtain ⟨va, vn, vc, rfl⟩ : ∃ a n c, v2 = .slice a n c := by obtain ⟨a, c, h, _⟩ := R2; exact ⟨a, _, c, h⟩
  have h2 := K.blk_below HX.out.2 b2
  have HB2 : Hid (Below w.heap.size w w2 ∧ w2.heap[w.heap.size]? = some (.cells #[.int .i64 0, .int .i64 0] 29)) := ⟨HX.out.1.trans (b2.mono HX.out.1.size), h2⟩
  have hw2 : w.heap.size < w2.heap.size := (Array.getElem?_eq_some_iff.1 h2).1
  clear b2 R2 hFi hX HF
  by_cases hre0 : re = 0
  · subst hre0
    have hs := HSt.out
    rw [if_pos rfl] at hs
    simp only [Prod.mk.injEq] at hs
    obtain ⟨q0, q1, q2⟩ := hs
    subst q1 q2
    have HQ : Hid (o0 = !(l.any (K.stir9 l))) := q0
    clear q0 HSt h2
    go_wp2
    go_loopw [30] (fun i wr => ∃ j : Nat, j ≤ l.length ∧ i = .int .i64 j ∧ Hid ((l.take j).any (K.stir9 l) = false) ∧ Hid (Below w2.heap.size w2 wr)) (fun i _ => l.length - (intOf i).toNat)
    case atStart => exact ⟨0, Nat.zero_le _, rfl, by show List.any _ _ = false; simp, Below.refl _ _⟩
    case round =>
      obtain ⟨j, hj, rfl, HN, HB⟩ := hrel
      have HBw : Hid (Below w.heap.size w wr) := HB2.out.1.trans (HB.out.mono (by omega))
      by_cases hlt : j < l.length
      · obtain ⟨p, hp⟩ : ∃ x, l[j]? = some x := ⟨l[j], by simp [hlt]⟩
        obtain ⟨ba, oa, bo, bc, so, sc, ao2, ac, to, tc, rfl, a0, a1, a2, a3, a4, a5, a6, hP⟩ := K.Rus.rule (HR.out.below HBw.out) hp
        have hz := K.ruleE_zero (HE.out p (List.mem_of_getElem? hp))
        have hN2 : K.stir9 l p = false → (l.take (j + 1)).any (K.stir9 l) = false := fun h => by rw [List.take_add_one, hp, List.any_append, HN.out]; simp [h]
        have hY2 : K.stir9 l p = true → o0 = false := fun h => by rw [HQ.out, List.any_eq_true.2 ⟨p, List.mem_of_getElem? hp, h⟩]; rfl
        have HN2 : Hid (K.stir9 l p = false → (l.take (j + 1)).any (K.stir9 l) = false) := hN2
        have HY2 : Hid (K.stir9 l p = true → o0 = false) := hY2
        have hl1 := hz.2.1.1
        have hl2 := hz.2.2.1.1
        have hl3 := hz.2.2.2.2.1
        have hl4 := hz.2.2.2.2.2.2.1
        have hl5 := hz.2.2.2.2.2.2.2
        obtain ⟨bo', bc', so', sc', ao', ac', to', tc', hv, _, _, _, hTa, _⟩ := hP
        have hv2 := Value.agg.inj hv
        simp only [Array.mk.injEq, List.cons.injEq, Value.slice.injEq, true_and, and_true] at hv2
        obtain ⟨⟨rfl, rfl⟩, ⟨rfl, rfl⟩, ⟨rfl, rfl⟩, ⟨rfl, rfl⟩⟩ := hv2
        have hal : ∀ o, Below wr.heap.size wr (wr.alloc o) := fun o => (Below.refl _ wr).alloc (Nat.le_refl _) o
        have HTa : Hid (∀ o, L.Rd (wr.alloc o) (.slice to p.target.length tc) .i32 p.target) := fun o => hTa.below (hal o) (Nat.le_refl _)
        have HBa : Hid (∀ o, Below w2.heap.size w2 (wr.alloc o) ∧ Below w.heap.size w (wr.alloc o)) := fun o => ⟨HB.out.alloc HB.out.size o, HBw.out.alloc HBw.out.size o⟩
        have hbx := K.blk_below HB2.out.2 HB.out
        have hbl := (Array.getElem?_eq_some_iff.1 hbx).1
        obtain ⟨k0, k1, g0, g1⟩ := K.box2 hbx
        clear hN2 hY2 hp hz hv hTa hal hbx
        cases hsh : K.shapeB p with
        | true =>
          have h9 : o0 = false := HY2.out (by unfold K.stir9; rw [hsh]; rfl)
          subst h9
          unfold K.shapeB at hsh
          simp only [Bool.or_eq_true, decide_eq_true_eq] at hsh
          clear HN2 HY2
          obtain ⟨st, fi, be, sou, af, ta, cu⟩ := p
          simp only at a0 a1 a2 a3 a4 a5 a6 hsh hl1 hl2 hl3 hl4 hl5
          by_cases c1 : 1 < sou.length
          · go_wp2
            refine bodyPost_ret (v := .tuple #[.bool false, .agg #[.int .i64 0, .int .i64 0]]) (by simp [results, Try.results27, go_sem, *]) rfl ?_
            exact ⟨rfl, ((HBw.out.setCell (p := ⟨w.heap.size, 0, none⟩) (Nat.le_refl _) _).setCell (p := ⟨w.heap.size, 1, none⟩) (Nat.le_refl _) _).alloc (by simp; exact HBw.out.size) _⟩
          · by_cases c2 : 0 < af.length
            · go_wp2
              refine bodyPost_ret (v := .tuple #[.bool false, .agg #[.int .i64 0, .int .i64 0]]) (by simp [results, Try.results27, go_sem, *]) rfl ?_
              exact ⟨rfl, ((HBw.out.setCell (p := ⟨w.heap.size, 0, none⟩) (Nat.le_refl _) _).setCell (p := ⟨w.heap.size, 1, none⟩) (Nat.le_refl _) _).alloc (by simp; exact HBw.out.size) _⟩
            · cases fi with
              | true =>
                clear hsh
                go_wp2
                refine bodyPost_ret (v := .tuple #[.bool false, .agg #[.int .i64 0, .int .i64 0]]) (by simp [results, Try.results27, go_sem, *]) rfl ?_
                exact ⟨rfl, ((HBw.out.setCell (p := ⟨w.heap.size, 0, none⟩) (Nat.le_refl _) _).setCell (p := ⟨w.heap.size, 1, none⟩) (Nat.le_refl _) _).alloc (by simp; exact HBw.out.size) _⟩
              | false =>
                have c4 : cu < ta.length := by
                  rcases hsh with ((h | h) | h) | h
                  · exact absurd h c1
                  · exact absurd h c2
                  · cases h
                  · exact h
                clear hsh
                go_wp2
                refine bodyPost_ret (v := .tuple #[.bool false, .agg #[.int .i64 0, .int .i64 0]]) (by simp [results, Try.results27, go_sem, *]) rfl ?_
                exact ⟨rfl, ((HBw.out.setCell (p := ⟨w.heap.size, 0, none⟩) (Nat.le_refl _) _).setCell (p := ⟨w.heap.size, 1, none⟩) (Nat.le_refl _) _).alloc (by simp; exact HBw.out.size) _⟩
        | false =>
          have HN3 : Hid (p.target.any (S.memb (K.firstsL l)) = false → (l.take (j + 1)).any (K.stir9 l) = false) := fun h => HN2.out (by unfold K.stir9; rw [hsh, h]; rfl)
          have HY3 : Hid (p.target.any (S.memb (K.firstsL l)) = true → o0 = false) := fun h => HY2.out (by unfold K.stir9; rw [hsh, h]; rfl)
          unfold K.shapeB at hsh
          simp only [Bool.or_eq_false_iff, decide_eq_false_iff_not] at hsh
          obtain ⟨⟨⟨c1, c2⟩, c3⟩, c4⟩ := hsh
          clear HN2 HY2
          obtain ⟨st, fi, be, sou, af, ta, cu⟩ := p
          simp only at a0 a1 a2 a3 a4 a5 a6 hl1 hl2 hl3 hl4 hl5 c1 c2 c3 c4 HN3 HY3 HTa
          subst c3
          obtain ⟨W3, hW3⟩ : ∃ W3, W3 = wr.alloc (.cells #[.bool st, .bool false, .slice bo be.length bc, .slice so sou.length sc, .slice ao2 af.length ac, .slice to ta.length tc, .int .i64 cu] 64) := ⟨_, rfl⟩
          have HW3 : Hid (W3 = wr.alloc (.cells #[.bool st, .bool false, .slice bo be.length bc, .slice so sou.length sc, .slice ao2 af.length ac, .slice to ta.length tc, .int .i64 cu] 64)) := hW3
          have HB3 : Hid (Below w2.heap.size w2 W3 ∧ Below w.heap.size w W3 ∧ L.Rd W3 (.slice to ta.length tc) .i32 ta) := ⟨by rw [hW3]; exact (HBa.out _).1, by rw [hW3]; exact (HBa.out _).2, by rw [hW3]; exact HTa.out _⟩
          clear hW3 HBa HTa k0 k1 g0 g1
          obtain ⟨wo, hwo⟩ : ∃ wo, wo = wr := ⟨_, rfl⟩
          subst hwo
          go_wp2
          go_loopw [60] (fun i wr => ∃ q : Nat, q ≤ ta.length ∧ i = .int .i64 q ∧ Hid ((ta.take q).any (S.memb (K.firstsL l)) = false) ∧ Hid (Below W3.heap.size W3 wr)) (fun i _ => ta.length - (intOf i).toNat)
          case atStart => exact ⟨0, Nat.zero_le _, rfl, by show List.any _ _ = false; simp, by show Below _ _ _; rw [← HW3.out]; exact Below.refl _ _⟩
          case round =>
            obtain ⟨q, hq, rfl, HNq, HBq⟩ := hrel
            have HB4 : Hid (Below w2.heap.size w2 wr ∧ Below w.heap.size w wr) := ⟨HB3.out.1.trans (HBq.out.mono HB3.out.1.size), HB3.out.2.1.trans (HBq.out.mono HB3.out.2.1.size)⟩
            by_cases hql : q < ta.length
            · obtain ⟨x, hx⟩ : ∃ x, ta[q]? = some x := ⟨ta[q], by simp [hql]⟩
              obtain ⟨to', tc', hte, _, htc⟩ := HB3.out.2.2
              cases hte
              obtain ⟨tb, tof, rfl, hcell⟩ := htc (by intro h; subst h; simp at hql)
              have cx := hcell q x hx
              rw [← HBq.out.cell (p := ⟨tb, tof + q, none⟩) (L.block_lt cx)] at cx
              have HNx : Hid (S.memb (K.firstsL l) x = false → (ta.take (q + 1)).any (S.memb (K.firstsL l)) = false) := fun h => by rw [List.take_add_one, hx, List.any_append, HNq.out]; simp [h]
              have HYx : Hid (S.memb (K.firstsL l) x = true → o0 = false) := fun h => HY3.out (List.any_eq_true.2 ⟨x, List.mem_of_getElem? hx, h⟩)
              have HMx : Hid (S.memb (K.firstsL l) x = l.any fun r => S.memb (K.headS r) x) := K.memb_firsts l x
              obtain ⟨wm, hwm⟩ : ∃ wm, wm = wr := ⟨_, rfl⟩
              subst hwm
              clear hx hcell htc
              go_wp2
              go_loopw [66] (fun i wr => ∃ m : Nat, m ≤ l.length ∧ i = .int .i64 m ∧ Hid ((l.take m).any (fun r => S.memb (K.headS r) x) = false) ∧ Hid (Below wm.heap.size wm wr)) (fun i _ => l.length - (intOf i).toNat)
              case atStart => exact ⟨0, Nat.zero_le _, rfl, by show List.any _ _ = false; simp, Below.refl _ _⟩
              case round =>
                obtain ⟨m, hm, rfl, HNm, HBm⟩ := hrel
                have HB5 : Hid (Below w2.heap.size w2 wr ∧ Below w.heap.size w wr ∧ Below W3.heap.size W3 wr) := ⟨HB4.out.1.trans (HBm.out.mono HB4.out.1.size), HB4.out.2.trans (HBm.out.mono HB4.out.2.size), HBq.out.trans (HBm.out.mono HBq.out.size)⟩
                by_cases hml : m < l.length
                · obtain ⟨r, hr⟩ : ∃ x, l[m]? = some x := ⟨l[m], by simp [hml]⟩
                  obtain ⟨rb, rof, rbo, rbc, rso, rsc, rao, rac, rto, rtc, he, r0, r1, r2, r3, r4, r5, r6, hRr⟩ := K.Rus.rule (HR.out.below HB5.out.2.1) hr
                  cases he
                  have her := HE.out r (List.mem_of_getElem? hr)
                  have hsp := (K.ruleE_zero her).2.2.2.1
                  obtain ⟨s, hs⟩ : ∃ s, r.source[0]? = some s := ⟨r.source[0], by simp⟩
                  have hhd := K.head_at hs
                  have hok := K.head_ok her
                  rw [hhd] at hok
                  obtain ⟨_, _, _, _, _, _, _, _, hv, _, hSs, _⟩ := hRr
                  have hv2 := Value.agg.inj hv
                  simp only [Array.mk.injEq, List.cons.injEq, Value.slice.injEq, true_and, and_true] at hv2
                  obtain ⟨⟨rfl, rfl⟩, ⟨rfl, rfl⟩, ⟨rfl, rfl⟩, ⟨rfl, rfl⟩⟩ := hv2
                  obtain ⟨gb, go, s2, c2', rfl, hc0, hrd0, _⟩ := hSs.at hs
                  rw [Nat.add_zero] at hc0
                  have hgb := L.block_lt hc0
                  have hcc : ∀ o, (wr.alloc o).cell? ⟨gb, go, none⟩ = some (.slice s2 s.length c2') := fun o => K.alloc_cell hc0 o
                  have hal : ∀ o, Below wr.heap.size wr (wr.alloc o) := fun o => (Below.refl _ wr).alloc (Nat.le_refl _) o
                  have HHas : Hid (∀ o, Calls Try.prog 58 #[.slice s2 s.length c2', .int .i32 x] (wr.alloc o) fun e w' => e = .returned (.bool (S.memb s x)) ∧ Below (wr.alloc o).heap.size (wr.alloc o) w') := fun o => refhas_any _ _ s x (hrd0.below (hal o) (Nat.le_refl _)) (by have := hok.2; omega)
                  have HNr : Hid (S.memb s x = false → (l.take (m + 1)).any (fun r => S.memb (K.headS r) x) = false) := fun h => by
                    rw [List.take_add_one, hr, List.any_append, HNm.out]; simp [hhd, h]
                  have HYr : Hid (S.memb s x = true → o0 = false) := fun h => HYx.out (by rw [HMx.out]; exact List.any_eq_true.2 ⟨r, List.mem_of_getElem? hr, by rw [hhd]; exact h⟩)
                  generalize S.memb s x = z at HHas HNr HYr
                  clear hr her hs hhd hok hv hSs hrd0 hc0 hal
                  obtain ⟨rst, rfi, rbe, rsou, raf, rta, rcu⟩ := r
                  simp only at r0 r1 r2 r3 r4 r5 r6 hsp
                  go_wp2_with fail
                  refine (HHas.out _).mono ?_
                  rintro e w9 ⟨rfl, b9⟩
                  have b9' := (K.one_box b9).2.1
                  have HB9 : Hid (Below wm.heap.size wm w9 ∧ Below w2.heap.size w2 w9 ∧ Below w.heap.size w w9) := ⟨HBm.out.trans (b9'.mono HBm.out.size), HB5.out.1.trans (b9'.mono HB5.out.1.size), HB5.out.2.1.trans (b9'.mono HB5.out.2.1.size)⟩
                  clear b9 b9' HHas hcc r0 r1 r2 r3 r4 r5 r6
                  cases z with
                  | false =>
                    have HNz : Hid ((l.take (m + 1)).any (fun r => S.memb (K.headS r) x) = false) := HNr.out rfl
                    clear HNr HYr
                    go_wp2
                    go_roundw
                    case rel => exact ⟨m + 1, by omega, by go_num, HNz, HB9.out.1⟩
                    case measure => simp [intOf]; omega
                  | true =>
                    have h9 : o0 = false := HYr.out rfl
                    subst h9
                    obtain ⟨x0, x1, f0, f1⟩ := K.box2 (K.blk_below HB2.out.2 HB9.out.2.1)
                    clear HNr HYr
                    go_wp2
                    refine bodyPost_ret (v := .tuple #[.bool false, .agg #[.int .i64 0, .int .i64 0]]) (by simp [results, Try.results27, go_sem, *]) rfl ?_
                    exact ⟨rfl, (HB9.out.2.2.setCell (p := ⟨w.heap.size, 0, none⟩) (Nat.le_refl _) _).setCell (p := ⟨w.heap.size, 1, none⟩) (Nat.le_refl _) _⟩
                · have hkl : m = l.length := by omega
                  subst hkl
                  have HNz : Hid ((ta.take (q + 1)).any (S.memb (K.firstsL l)) = false) := HNx.out (by rw [HMx.out]; have h := HNm.out; rw [List.take_length] at h; exact h)
                  go_wp2
                  go_roundw
                  case rel => exact ⟨q + 1, by omega, by go_num, HNz, HB5.out.2.2⟩
                  case measure => simp [intOf]; omega
            · have hkl : q = ta.length := by omega
              subst hkl
              have HNz : Hid ((l.take (j + 1)).any (K.stir9 l) = false) := HN3.out (by have h := HNq.out; rw [List.take_length] at h; exact h)
              go_wp2
              go_roundw
              case rel => exact ⟨j + 1, by omega, by go_num, HNz, HB4.out.1⟩
              case measure => simp [intOf]; omega
      · have hkl : j = l.length := by omega
        subst hkl
        have h9 : o0 = true := by rw [HQ.out]; have h := HN.out; rw [List.take_length] at h; rw [h]; rfl
        subst h9
        obtain ⟨x0, x1, f0, f1⟩ := K.box2 (K.blk_below HB2.out.2 HB.out)
        go_wp2
        refine bodyPost_ret (v := .tuple #[.bool true, .agg #[.int .i64 0, .int .i64 0]]) (by simp [results, Try.results27, go_sem, *]) rfl ?_
        exact ⟨rfl, (HBw.out.setCell (p := ⟨w.heap.size, 0, none⟩) (Nat.le_refl _) _).setCell (p := ⟨w.heap.size, 1, none⟩) (Nat.le_refl _) _⟩
  · have hs := HSt.out
    rw [if_neg hre0] at hs
    cases hs
    obtain ⟨x0, x1, f0, f1⟩ := K.box2 h2
    clear h2 HSt
    go_wp2
    refine bodyPost_ret (v := .tuple #[.bool false, .agg #[.int .i64 o1, .int .i64 0]]) (by simp [results, Try.results27, go_sem, *]) rfl ?_
    exact ⟨rfl, (HB2.out.1.setCell (p := ⟨w.heap.size, 0, none⟩) (Nat.le_refl _) _).setCell (p := ⟨w.heap.size, 1, none⟩) (Nat.le_refl _) _⟩

end Go.Proofs.Ytdmpmkcigjkilaa
