/-
  The set of the runes with which rules begin: analyse.Firsts.
-/
import Derived.Test.YtdmpmkcigjkilaaYMasks
import Derived.Test.YtdmpmkcigjkilaaSOf2
namespace Go.Proofs.Ytdmpmkcigjkilaa
open Go.RowKit Go.Shelf
set_option maxRecDepth 20000
set_option linter.unusedSimpArgs false
set_option linter.unusedVariables false

/-- 'append(out, xs...)' of spans: out nil or the call's own, xs whatever reads as spans -/
theorem S.wpList_append_sp {w : World} {ops : Array Oper} {rest : List Oper} {o : Oper} {a : Act} {Q : Exit → Act → World → Prop} (hgd : o.guard = none) (s x : Operand)
    (ho : o.op = .call { callee := .builtin .append, args := #[s, x], argTypes := #[23, 23] })
    (base : Nat) (v : Value) (ys : List S.Sp) (hs : a.eval s = v) (hown : w.ownsRow base 99 2 v ys.length (S.cellsOf ys))
    (vx : Value) (zs : List S.Sp) (hx : a.eval x = vx) (hrd : S.Rd w vx zs) (hl : ys.length + zs.length ≤ 1000000) (hbase : base ≤ w.heap.size)
    (h : ∀ v' w', w'.ownsRow base 99 2 v' (ys ++ zs).length (S.cellsOf (ys ++ zs)) → w.grownBy w' v.ownBlock → wpList Try.prog ops Q rest (a.put o.dst v') w') : wpList Try.prog ops Q (o :: rest) a w := by
  obtain ⟨i0, hi, hz0, hz1, hz2⟩ := info_parts Try.infoSp
  obtain ⟨ao, cap, rfl, hn, hc⟩ := hrd
  cases ao with
  | none =>
    have h0 : zs = [] := by
      cases zs with
      | nil => rfl
      | cons z zs => obtain ⟨b, off, h, _⟩ := hc (by simp); simp at h
    subst h0
    have := hn rfl
    subst this
    refine wpList_append_own_none hgd s x 23 ho base 99 i0 2 Try.underlying23 hi v ys.length (S.cellsOf ys) hs hown hx ?_
    refine h v w ?_ ⟨rfl, rfl, rfl, Nat.le_refl _, fun _ _ _ => rfl⟩
    rw [List.append_nil]; exact hown
  | some ad =>
    refine wpList_append_own w hgd s x 23 ho base 99 i0 (.agg #[.int .i32 0, .int .i32 0]) 2 8 Try.underlying23 hi hz0 hz1 hz2 rfl (by decide) v ys.length (S.cellsOf ys) hs hown ad zs.length cap (S.cellsOf zs) hx (S.cellsOf_length zs) ?_ (fun u hu => S.cellsOf_one hu) (by unfold maxLen; omega) (by omega) hbase (fun v' w' h1 h2 _ => h v' w' (by rw [List.length_append, S.cellsOf_append]; exact h1) h2)
    intro j u hj
    obtain ⟨q, y, hq, hor⟩ := S.cellsOf_inv hj
    obtain ⟨b, off, hao, hcell⟩ := hc (by intro h; subst h; simp at hq)
    simp at hao
    subst hao
    have := hcell q y hq
    rw [L.addr_add]
    rcases hor with ⟨rfl, rfl⟩ | ⟨rfl, rfl⟩
    · exact this.1
    · rw [← Nat.add_assoc]; exact this.2

namespace K
noncomputable def firstsF (l : List Rule) : List S.Sp × Int × Int := if (rulesF l).1 = 0 then (S.resL 0 0 (S.memb (firstsL l)), S.resE 0 0 (S.memb (firstsL l)), 0) else ([], rulesF l)
theorem head_at {r : Rule} {s : List S.Sp} (h : r.source[0]? = some s) : headS r = s := by
  unfold headS
  cases hq : r.source with
  | nil => rw [hq] at h; simp at h
  | cons y l => rw [hq] at h; simpa using h
theorem firstsL_take {l : List Rule} {k : Nat} {r : Rule} (h : l[k]? = some r) : firstsL (l.take (k + 1)) = firstsL (l.take k) ++ headS r := by
  unfold firstsL; rw [List.take_add_one, h, List.flatMap_append]; simp
theorem head_ok {r : Rule} (h : ruleE r = 0) : S.Nf 0 (headS r) ∧ (headS r).length ≤ 200 := by
  obtain ⟨_, h2, _, h4, _⟩ := ruleE_zero h
  obtain ⟨s, hs⟩ : ∃ s, r.source[0]? = some s := ⟨r.source[0], by simp⟩
  rw [head_at hs]
  exact h2.2 s (List.mem_of_getElem? hs)
theorem firstsL_bad {l : List Rule} (hE : ∀ r ∈ l, ruleE r = 0) : (firstsL l).any S.bad = false := by
  rw [List.any_eq_false]
  intro x hx
  obtain ⟨r, hr, hx⟩ := List.mem_flatMap.1 hx
  have := S.bad_false.2 ((head_ok (hE r hr)).1.mem hx)
  simp [this]
theorem firstsL_len {l : List Rule} (hE : ∀ r ∈ l, ruleE r = 0) : (firstsL l).length ≤ 200 * l.length := by
  induction l with
  | nil => simp [firstsL]
  | cons x l ih =>
    have h1 := (head_ok (hE x (List.mem_cons_self ..))).2
    have h2 := ih fun r hr => hE r (List.mem_cons_of_mem _ hr)
    unfold firstsL at h2 ⊢
    rw [List.flatMap_cons, List.length_append, List.length_cons]
    omega
end K

set_option maxHeartbeats 4000000 in
theorem yFirsts_any (w : World) (v : Value) (l : List K.Rule) (R0 : V.Rus w v l) :
    Calls Try.prog 23 #[v] w fun e w' => ∃ v', e = .returned (.tuple #[v', .agg #[.int .i64 (K.firstsF l).2.1, .int .i64 (K.firstsF l).2.2]]) ∧ S.Rd w' v' (K.firstsF l).1 ∧ Below w.heap.size w w' ∧ ((K.rulesF l).1 = 0 → ∃ s, S.Is (S.memb (K.firstsL l)) s) := by
  have HA : Hid (∀ o, Below w.heap.size w (w.alloc o)) := fun o => (Below.refl _ w).alloc (Nat.le_refl _) o
  have HC : Hid (∀ o, Calls Try.prog 48 #[v] (w.alloc o) fun e w' => e = .returned (.agg #[.int .i64 (K.rulesF l).1, .int .i64 (K.rulesF l).2]) ∧ Below (w.alloc o).heap.size (w.alloc o) w') := fun o => qWrong_any _ _ l (R0.below (HA.out o))
  have HE : Hid ((K.rulesF l).1 = 0 → l.length ≤ 200 ∧ ∀ r ∈ l, K.ruleE r = 0) := fun h => ⟨(K.rulesF_zero h).1, (K.rulesF_zero h).2.1⟩
  have HR : Hid (V.Rus w v l) := R0
  obtain ⟨ao, cap, rfl⟩ := R0.len
  obtain ⟨⟨o0, o1, o2⟩, HO⟩ : ∃ o, Hid (K.firstsF l = o) := ⟨_, rfl⟩
  rw [HO.out]
  unfold K.firstsF at HO
  obtain ⟨⟨e1, e2⟩, he⟩ : ∃ o, K.rulesF l = o := ⟨_, rfl⟩
  rw [he] at HC HE HO ⊢
  simp only at HC HE HO ⊢
  clear he R0
  go_enter Try.func23, Try.ntmps23
  go_wp2_with fail
  refine (HC.out _).mono ?_
  rintro e w1 ⟨rfl, b1⟩
  obtain ⟨h1, B1, s1⟩ := K.one_box b1
  have HB1 : Hid (Below w.heap.size w w1) := B1
  have HX1 : Hid (w1.heap[w.heap.size]? = some (.cells #[.int .i64 0, .int .i64 0] 29)) := h1
  obtain ⟨x0, x1, f0, f1⟩ := K.box2 h1
  have k0 : ∀ o, (w1.alloc o).cell? ⟨w.heap.size, 0, none⟩ = some (.int .i64 0) := fun o => K.alloc_cell x0 o
  have k1 : ∀ o, (w1.alloc o).cell? ⟨w.heap.size, 1, none⟩ = some (.int .i64 0) := fun o => K.alloc_cell x1 o
  have g0 : ∀ o, (w1.alloc o).frozen? ⟨w.heap.size, 0, none⟩ = false := fun o => K.alloc_free h1 o 0
  have g1 : ∀ o, (w1.alloc o).frozen? ⟨w.heap.size, 1, none⟩ = false := fun o => K.alloc_free h1 o 1
  have HB2 : Hid (∀ o, Below w.heap.size w (w1.alloc o)) := fun o => HB1.out.alloc (by omega) o
  clear b1 B1 HC x0 x1 f0 f1 h1
  by_cases q : e1 = 0
  · subst q
    have ho := HO.out
    rw [if_pos rfl] at ho
    obtain ⟨hl, hE⟩ := HE.out rfl
    have HE2 : Hid (∀ r ∈ l, K.ruleE r = 0) := hE
    have HBad : Hid ((K.firstsL l).any S.bad = false) := K.firstsL_bad hE
    have HO2 : Hid ((S.resL 0 0 (S.memb (K.firstsL l)), S.resE 0 0 (S.memb (K.firstsL l)), (0 : Int)) = (o0, o1, o2)) := ho
    clear hE HE HO ho
    obtain ⟨X, hX⟩ : ∃ X, X = w1.alloc (.cells #[.int .i64 0, .int .i64 e2] 29) := ⟨_, rfl⟩
    have HXX : Hid (X = w1.alloc (.cells #[.int .i64 0, .int .i64 e2] 29)) := hX
    have HBX : Hid (Below w.heap.size w X) := by show Below _ _ _; rw [hX]; exact HB2.out _
    have hXs : w.heap.size < X.heap.size := by rw [hX]; simp; omega
    have HXb : Hid (X.heap[w.heap.size]? = some (.cells #[.int .i64 0, .int .i64 0] 29)) := by
      show X.heap[w.heap.size]? = _
      rw [hX, Below.heap_alloc w1 _ w.heap.size (by omega)]; exact HX1.out
    clear hX k0 k1 g0 g1
    go_wp2
    go_loopw [5, 18] (fun vo i wr => ∃ k : Nat, k ≤ l.length ∧ i = .int .i64 k ∧ Hid (wr.ownsRow X.heap.size 99 2 vo (K.firstsL (l.take k)).length (S.cellsOf (K.firstsL (l.take k)))) ∧ Hid (Below X.heap.size X wr)) (fun _ i _ => l.length - (intOf i).toNat)
    case atStart => exact ⟨0, Nat.zero_le _, rfl, World.ownsRow_nil _ _ _ _, by show Below _ _ _; rw [← HXX.out]; exact Below.refl _ _⟩
    case round =>
      obtain ⟨k, hk, rfl, HOw, HB⟩ := hrel
      have hwr := HB.out.size
      by_cases hlt : k < l.length
      · obtain ⟨p, hp⟩ : ∃ x, l[k]? = some x := ⟨l[k], by simp [hlt]⟩
        have HBw : Hid (Below w.heap.size w wr) := HBX.out.trans (HB.out.mono (by omega))
        obtain ⟨ba, oa, bo, bc, so, sc, ao2, ac, to, tc, rfl, a0, a1, a2, a3, a4, a5, a6, hP⟩ := K.Rus.rule (HR.out.below HBw.out) hp
        have hep := HE2.out p (List.mem_of_getElem? hp)
        have hsp := (K.ruleE_zero hep).2.2.2.1
        obtain ⟨s, hs⟩ : ∃ s, p.source[0]? = some s := ⟨p.source[0], by simp⟩
        have hhd := K.head_at hs
        have hok := K.head_ok hep
        rw [hhd] at hok
        have hlen := K.firstsL_len (l := l.take k) fun r hr => HE2.out r (List.mem_of_mem_take hr)
        rw [List.length_take] at hlen
        have HF : Hid (K.firstsL (l.take (k + 1)) = K.firstsL (l.take k) ++ s) := by show _ = _; rw [K.firstsL_take hp, hhd]
        obtain ⟨bo', bc', so', sc', ao', ac', to', tc', hv, _, hS, _⟩ := hP
        have hv2 := Value.agg.inj hv
        simp only [Array.mk.injEq, List.cons.injEq, Value.slice.injEq, true_and, and_true] at hv2
        obtain ⟨_, ⟨rfl, rfl⟩, _⟩ := hv2
        obtain ⟨gb, go, s2, c2, rfl, hc0, hr0, _⟩ := hS.at hs
        rw [Nat.add_zero] at hc0
        have hgb := L.block_lt hc0
        have HRd : Hid (∀ o, S.Rd (wr.alloc o) (.slice s2 s.length c2) s) := fun o => hr0.below ((Below.refl _ wr).alloc (Nat.le_refl _) o) (Nat.le_refl _)
        have hcc : ∀ o, (wr.alloc o).cell? ⟨gb, go, none⟩ = some (.slice s2 s.length c2) := fun o => K.alloc_cell hc0 o
        have HOa : Hid (∀ o, (wr.alloc o).ownsRow X.heap.size 99 2 u5 (K.firstsL (l.take k)).length (S.cellsOf (K.firstsL (l.take k)))) := fun o => HOw.out.alloc o
        have HBal : Hid (∀ o, Below X.heap.size X (wr.alloc o)) := fun o => HB.out.alloc hwr o
        have hl2 : (K.firstsL (l.take k)).length + s.length ≤ 1000000 := by have := hok.2; omega
        clear hp hep hs hhd hok hv hS hr0 hc0 hlen
        obtain ⟨st, fi, be, sou, af, ta, cu⟩ := p
        simp only at a0 a1 a2 a3 a4 a5 a6 hsp
        go_wp2_with (at_builtin; go_must (refine S.wpList_append_sp rfl _ _ rfl X.heap.size _ _ rfl (HOa.out _) _ s rfl (HRd.out _) hl2 (by simp; omega) ?_; intro v' w4 hown' hgrow4; have HX4 : Hid (w4.ownsRow X.heap.size 99 2 v' (K.firstsL (l.take k) ++ s).length (S.cellsOf (K.firstsL (l.take k) ++ s)) ∧ Below X.heap.size X w4) := ⟨hown', Below.grown (HBal.out _) hgrow4 (by simp; omega) (fun j hj => (HOw.out.lt _ hj).1)⟩; clear hown' hgrow4))
        go_roundw
        case rel => exact ⟨k + 1, by omega, by go_num, by rw [HF.out]; exact HX4.out.1, HX4.out.2⟩
        case measure => simp [intOf]; omega
      · have hkl : k = l.length := by omega
        subst hkl
        rw [List.take_length] at HOw
        have hlen := K.firstsL_len HE2.out
        have hof := of_any wr _ (K.firstsL l) (S.Rd.of_owns HOw.out) (by omega)
        rw [HBad.out, if_neg (by decide)] at hof
        have hcut : ∃ ao n c, u5 = .slice ao n c := by
          obtain ⟨a, c, h, _⟩ := S.Rd.of_owns HOw.out
          exact ⟨a, _, c, h⟩
        obtain ⟨ua, un, uc, rfl⟩ := hcut
        have HP : Hid (∀ q, S.memb (K.firstsL l) q = S.memb (K.firstsL l) q) := fun _ => rfl
        go_wp2_with fail
        refine hof.mono ?_
        rintro e w5 ⟨v5, rfl, R5, b5, hex⟩
        have ho := HO2.out
        simp only [Prod.mk.injEq] at ho
        obtain ⟨q0, q1, q2⟩ := ho
        subst q2
        rw [q0] at R5
        rw [q1]
        obtain ⟨va, vn, vc, rfl⟩ : ∃ a n c, v5 = .slice a n c := by obtain ⟨a, c, h, _⟩ := R5; exact ⟨a, _, c, h⟩
        have HB5 : Hid (Below X.heap.size X w5) := HB.out.trans (b5.mono hwr)
        have hx5 := K.blk_below HXb.out HB5.out
        obtain ⟨x0, x1, f0, f1⟩ := K.box2 hx5
        have HR5 : Hid (∀ u u', S.Rd ((w5.setCell ⟨w.heap.size, 0, none⟩ u).setCell ⟨w.heap.size, 1, none⟩ u') (.slice va vn vc) o0) := fun u u' => by
          by_cases hz : o0 = []
          · subst hz
            obtain ⟨a, c, h, hn, _⟩ := R5
            exact ⟨a, c, h, hn, fun h => absurd rfl h⟩
          · refine R5.cells fun b o uu hu hv => ?_
            obtain ⟨ao9, n9, c9, hv9, a9, ha9, hb9⟩ := hv
            have hne : b ≠ w.heap.size := fun e => by
              obtain ⟨aa, cc, hh, _, hcell⟩ := R5
              obtain ⟨b', off', hbb, hcl⟩ := hcell hz
              cases hh
              cases hv9
              rw [hbb] at ha9
              cases ha9
              simp only at hb9
              obtain ⟨y, hy⟩ : ∃ y, o0[0]? = some y := ⟨o0[0]'(List.length_pos_iff.2 hz), by simp⟩
              have h1 := (hcl 0 y hy).1
              rw [hb9, e, World.cell?] at h1
              simp only [show w5.heap[w.heap.size]? = _ from hx5] at h1
              simp at h1
              have hlt := (List.getElem?_eq_some_iff.1 h1).1
              match off', h1 with
              | 0, h1 => simp at h1
              | 1, h1 => simp at h1
              | n + 2, _ => simp at hlt; omega
            have e1 : ((w5.setCell ⟨w.heap.size, 0, none⟩ u).setCell ⟨w.heap.size, 1, none⟩ u').heap[b]? = w5.heap[b]? := by
              rw [heap_setCell_other _ ⟨w.heap.size, 1, none⟩ b _ hne, heap_setCell_other _ ⟨w.heap.size, 0, none⟩ b _ hne]
            rw [World.cell?_of_block (a := ⟨b, o, none⟩) e1]; exact hu
        have HEx : Hid (∃ s, S.Is (S.memb (K.firstsL l)) s) := hex rfl rfl
        clear hof hex R5 b5 hx5 HP
        go_wp2
        refine bodyPost_ret (v := .tuple #[.slice va vn vc, .agg #[.int .i64 o1, .int .i64 0]]) (by simp [results, Try.results23, go_sem, *]) rfl ?_
        exact ⟨_, rfl, HR5.out _ _, ((HBX.out.trans (HB5.out.mono (by omega))).setCell (p := ⟨w.heap.size, 0, none⟩) (Nat.le_refl _) _).setCell (p := ⟨w.heap.size, 1, none⟩) (Nat.le_refl _) _, HEx.out⟩
  · have ho := HO.out
    rw [if_neg q] at ho
    cases ho
    go_wp2
    go_region
    go_wp2
    refine bodyPost_ret (v := .tuple #[.slice none 0 0, .agg #[.int .i64 o1, .int .i64 o2]]) (by simp [results, Try.results23, go_sem, *]) rfl ?_
    exact ⟨_, rfl, S.Rd.nil _, (((HB2.out _).setCell (p := ⟨w.heap.size, 0, none⟩) (Nat.le_refl _) _).setCell (p := ⟨w.heap.size, 1, none⟩) (Nat.le_refl _) _).drew, fun h => absurd h q⟩

end Go.Proofs.Ytdmpmkcigjkilaa
