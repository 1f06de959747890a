/-
  scriptlaw9.AnalyseFirsts: it returns true.
-/
import Derived.Test.YtdmpmkcigjkilabLawYSteady
namespace Go.Proofs.Ytdmpmkcigjkilab
open Go.RowKit Go.Shelf
set_option maxRecDepth 20000
set_option linter.unusedSimpArgs false
set_option linter.unusedVariables false

namespace K
def restL (s : List S.Sp) (t : List Int) : List Int := t.filter fun r => !S.memb s r
theorem restL_yes {s : List S.Sp} {t : List Int} {k : Nat} {r : Int} (h : t[k]? = some r) (hm : S.memb s r = true) : restL s (t.take (k + 1)) = restL s (t.take k) := by
  unfold restL; rw [List.take_add_one, h, List.filter_append]; simp [hm]
theorem restL_no {s : List S.Sp} {t : List Int} {k : Nat} {r : Int} (h : t[k]? = some r) (hm : S.memb s r = false) : restL s (t.take (k + 1)) = restL s (t.take k) ++ [r] := by
  unfold restL; rw [List.take_add_one, h, List.filter_append]; simp [hm]
theorem restL_len (s : List S.Sp) (t : List Int) (k : Nat) : (restL s (t.take k)).length ≤ k := by
  unfold restL
  refine Nat.le_trans (List.length_filter_le _ _) ?_
  rw [List.length_take]; omega
end K

set_option maxHeartbeats 4000000 in
theorem analyseFirsts_any (w : World) (vl : Value) (l : List K.Rule) (R0 : V.Rus w vl l) (vt : Value) (t : List Int) (Rt : L.Rd w vt .i32 t) (ht : t.length ≤ 140737488355328) :
    Calls Try.prog 6 #[vl, vt] w fun e w' => e = .returned (.bool true) ∧ Below w.heap.size w w' := by
  have HS : Hid (∀ X, Below w.heap.size w X → Calls Try.prog 15 #[vl] X fun e w' => ∃ v', e = .returned (.tuple #[v', .agg #[.int .i64 (K.firstsF l).2.1, .int .i64 (K.firstsF l).2.2]]) ∧ S.Rd w' v' (K.firstsF l).1 ∧ Below X.heap.size X w' ∧ ((K.rulesF l).1 = 0 → ∃ s, S.Is (S.memb (K.firstsL l)) s)) := fun X hX => yFirsts_any X _ l (R0.below hX)
  have HT : Hid (∀ X, Below w.heap.size w X → Calls Try.prog 16 #[vt] X fun e w' => e = .returned (.int .i64 (K.textE t)) ∧ Below X.heap.size X w') := fun X hX => mText_any X vt t (Rt.below hX (Nat.le_refl _)) ht
  have HA : Hid (∀ X v u, Below w.heap.size w X → L.Rd X v .i32 u → u.length ≤ 4000 → Calls Try.prog 10 #[vl, v] X fun e w' => ∃ v', e = .returned (.tuple #[.agg #[v', .int .i64 (K.runF l u).1.2.1, .int .i64 (K.runF l u).1.2.2], .agg #[.int .i64 (K.runF l u).2.1, .int .i64 (K.runF l u).2.2]]) ∧ L.Rd w' v' .i32 (K.runF l u).1.1 ∧ Below X.heap.size X w') := fun X v u hX hv hu => qRun_any X _ l (R0.below hX) v u hv (by omega)
  have HM : Hid ((K.firstsF l).2.1 = 0 → K.textE t = 0 → (∃ s, S.Is (S.memb (K.firstsL l)) s) → (S.Nf 0 (K.firstsF l).1 ∧ (K.firstsF l).1.length ≤ 200) ∧ t.length ≤ 4000 ∧ K.runF l (K.restL (K.firstsF l).1 t) = ((K.restL (K.firstsF l).1 t, ((K.restL (K.firstsF l).1 t).length : Int), 0), 0, 0)) := fun h1 h2 h3 => by
    obtain ⟨z1, z2, z3, z4⟩ := K.firstsF_zero h1
    have hset := K.res_set h3 z3
    rw [← z4] at hset
    have hms : S.memb (K.firstsF l).1 = S.memb (K.firstsL l) := funext hset.1.2
    refine ⟨⟨hset.1.1, hset.2⟩, K.textE_zero h2, ?_⟩
    unfold K.restL
    rw [hms]
    exact K.runF_firsts z1 h2
  have HRu : Hid ((K.firstsF l).2.1 = 0 → (K.rulesF l).1 = 0) := fun h => (K.firstsF_zero h).1
  have HRt : Hid (L.Rd w vt .i32 t) := Rt
  obtain ⟨i0, hi, hz0, hz1, hz2⟩ := info_parts Try.infoI32
  obtain ⟨ao, cap, rfl⟩ := R0.len
  obtain ⟨xo, xc, rfl, _, hcx⟩ := Rt
  obtain ⟨⟨fs, e1, e2⟩, hfi⟩ : ∃ o, K.firstsF l = o := ⟨_, rfl⟩
  rw [hfi] at HS HM HRu
  generalize K.textE t = te at HT HM
  simp only at HS HM HRu
  have HCX : Hid (t ≠ [] → ∃ b off, xo = some ⟨b, off, none⟩ ∧ ∀ j z, t[j]? = some z → w.cell? ⟨b, off + j, none⟩ = some (.int .i32 z)) := hcx
  clear hfi R0 hcx
  go_enter Try.func6, Try.ntmps6
  go_wp2_with fail
  refine (yAlive_any w).mono ?_
  rintro e w1 ⟨rfl, b1⟩
  have HB1 : Hid (Below w.heap.size w w1) := b1
  clear b1
  go_wp2_with fail
  refine (HS.out _ HB1.out).mono ?_
  rintro e w2 ⟨v2, rfl, d2, b2, hex⟩
  obtain ⟨va, vc, rfl⟩ : ∃ a c, v2 = .slice a fs.length c := by obtain ⟨a, c, h, _⟩ := d2; exact ⟨a, c, h⟩
  have HB2 : Hid (Below w.heap.size w w2) := HB1.out.trans (b2.mono HB1.out.size)
  have hw2 : w.heap.size ≤ w2.heap.size := HB2.out.size
  have HBa : Hid (∀ o, Below w.heap.size w (w2.alloc o)) := fun o => HB2.out.alloc HB2.out.size o
  have HEx : Hid ((K.rulesF l).1 = 0 → ∃ s, S.Is (S.memb (K.firstsL l)) s) := hex
  have HF : Hid (S.Rd w2 (.slice va fs.length vc) fs) := d2
  clear b2 HS HB1 hex d2
  by_cases h1 : e1 = 0
  · have hTx := HT.out _ (HBa.out (.cells #[.int .i64 0, .int .i64 e2] 28))
    have HM2 : Hid (te = 0 → (S.Nf 0 fs ∧ fs.length ≤ 200) ∧ t.length ≤ 4000 ∧ K.runF l (K.restL fs t) = ((K.restL fs t, ((K.restL fs t).length : Int), 0), 0, 0)) := fun h => HM.out h1 h (HEx.out (HRu.out h1))
    subst h1
    clear HM HT HRu HEx
    go_wp2_with fail
    refine hTx.mono ?_
    rintro e w3 ⟨rfl, b3⟩
    obtain ⟨h9, b23, s3⟩ := K.one_box b3
    have HB3 : Hid (Below w.heap.size w w3 ∧ w3.heap[w2.heap.size]? = some (.cells #[.int .i64 0, .int .i64 e2] 28) ∧ w2.heap.size < w3.heap.size) := ⟨HB2.out.trans (b23.mono hw2), h9, by omega⟩
    have HF3 : Hid (S.Rd w3 (.slice va fs.length vc) fs) := HF.out.below b23 (Nat.le_refl _)
    clear b3 hTx h9 b23 HF
    by_cases h2 : te = 0
    · obtain ⟨⟨hnf, hfl⟩, h4, hrun⟩ := HM2.out h2
      have HNf : Hid (S.Nf 0 fs) := hnf
      have HRun : Hid (K.runF l (K.restL fs t) = ((K.restL fs t, ((K.restL fs t).length : Int), 0), 0, 0)) := hrun
      subst h2
      clear HM2 hnf hrun
      go_wp2
      go_loopw [7, 28] (fun vo i wr => ∃ k : Nat, k ≤ t.length ∧ i = .int .i64 k ∧ Hid (wr.ownsRow w3.heap.size 21 1 vo (K.restL fs (t.take k)).length ((K.restL fs (t.take k)).map (Value.int .i32))) ∧ Hid (Below w3.heap.size w3 wr)) (fun _ i _ => t.length - (intOf i).toNat)
      case atStart => exact ⟨0, Nat.zero_le _, rfl, World.ownsRow_nil _ _ _ _, Below.refl _ _⟩
      case round =>
        obtain ⟨k, hk, rfl, HOw, HB⟩ := hrel
        have hwr := HB.out.size
        have HBw : Hid (Below w.heap.size w wr) := HB3.out.1.trans (HB.out.mono HB3.out.1.size)
        by_cases hlt : k < t.length
        · obtain ⟨r, hr⟩ : ∃ x, t[k]? = some x := ⟨t[k], by simp [hlt]⟩
          obtain ⟨b, off, rfl, hcell⟩ := HCX.out (by intro h; subst h; simp at hlt)
          have c0 := hcell k r hr
          rw [← HBw.out.cell (p := ⟨b, off + k, none⟩) (L.block_lt c0)] at c0
          have HH := has_any wr _ fs r (HF3.out.below HB.out (Nat.le_refl _)) HNf.out hfl
          have HR1 : Hid (S.memb fs r = true → K.restL fs (t.take (k + 1)) = K.restL fs (t.take k)) := fun h => K.restL_yes hr h
          have HR2 : Hid (S.memb fs r = false → K.restL fs (t.take (k + 1)) = K.restL fs (t.take k) ++ [r]) := fun h => K.restL_no hr h
          have hlen := K.restL_len fs t k
          generalize S.memb fs r = z at HH HR1 HR2
          clear hr hcell
          go_wp2_with fail
          refine HH.mono ?_
          rintro e w5 ⟨rfl, b5⟩
          have HO5 : Hid (w5.ownsRow w3.heap.size 21 1 u7 (K.restL fs (t.take k)).length ((K.restL fs (t.take k)).map (Value.int .i32))) := L.owns_below HOw.out b5 (Nat.le_refl _)
          have HB5 : Hid (Below w3.heap.size w3 w5) := HB.out.trans (b5.mono hwr)
          have hw5 : w3.heap.size ≤ w5.heap.size := HB5.out.size
          clear b5 HH c0
          cases z with
          | true =>
            have HQ : Hid (K.restL fs (t.take (k + 1)) = K.restL fs (t.take k)) := HR1.out rfl
            clear HR1 HR2
            go_wp2
            go_roundw
            case rel => exact ⟨k + 1, by omega, by go_num, by rw [HQ.out]; exact HO5, HB5⟩
            case measure => simp [intOf]; omega
          | false =>
            have HQ : Hid (K.restL fs (t.take (k + 1)) = K.restL fs (t.take k) ++ [r]) := HR2.out rfl
            clear HR1 HR2
            go_wp2_with (at_builtin; go_must (refine wpList_append_own _ rfl _ _ 23 rfl w3.heap.size 21 i0 (.int .i32 0) 1 4 Try.underlying23 hi hz0 hz1 hz2 rfl (by decide) _ _ _ rfl (HO5.out.alloc _) ⟨w5.heap.size, 0, none⟩ 1 1 [.int .i32 r] rfl rfl (cell_one_new _ _ _) (fun x hx => by simp at hx; subst hx; rfl) (by unfold maxLen; omega) (by omega) (by simp; omega) ?_; intro v' w6 hown' hgrow6 hnil6; have HX6 : Hid (w6.ownsRow w3.heap.size 21 1 v' ((K.restL fs (t.take k)).length + 1) ((K.restL fs (t.take k)).map (Value.int .i32) ++ [.int .i32 r]) ∧ Below w3.heap.size w3 w6) := ⟨hown', Below.grown (HB5.out.alloc hw5 _) hgrow6 (by simp; omega) (fun j hj => (HO5.out.lt _ hj).1)⟩; clear hown' hgrow6 hnil6))
            go_roundw
            case rel => exact ⟨k + 1, by omega, by go_num, by rw [HQ.out, List.length_append, List.map_append]; exact HX6.out.1, HX6.out.2⟩
            case measure => simp [intOf]; omega
        · have hkl : k = t.length := by omega
          subst hkl
          rw [List.take_length] at HOw
          have hlen := K.restL_len fs t t.length
          rw [List.take_length] at hlen
          have hrd := L.Rd.of_owns HOw.out
          have hRn := HA.out wr _ (K.restL fs t) HBw.out hrd (by omega)
          rw [HRun.out] at hRn
          simp only at hRn
          obtain ⟨ra, rc, rfl⟩ : ∃ a c, u7 = .slice a (K.restL fs t).length c := by obtain ⟨a, c, h, _⟩ := hrd; exact ⟨a, c, h⟩
          have HRd : Hid (L.Rd wr (.slice ra (K.restL fs t).length rc) .i32 (K.restL fs t)) := hrd
          have h9 := K.blk_below HB3.out.2.1 HB.out
          clear hrd HA HRun HOw
          generalize K.restL fs t = rt at *
          go_wp2_with fail
          refine hRn.mono ?_
          rintro e x2 ⟨v8, rfl, d8, g8⟩
          obtain ⟨va2, vc2, rfl⟩ : ∃ va vc, v8 = .slice va rt.length vc := by obtain ⟨a, c, h, _⟩ := d8; exact ⟨a, c, h⟩
          have p1 := K.blk_below h9 g8
          have HB8 : Hid (Below w.heap.size w x2) := HBw.out.trans (g8.mono HBw.out.size)
          obtain ⟨Y2, hY2⟩ : ∃ Y2, Y2 = ((x2.setCell ⟨w2.heap.size, 0, none⟩ (.int .i64 0)).setCell ⟨w2.heap.size, 1, none⟩ (.int .i64 0)).alloc (.cells #[(.slice va2 rt.length vc2), .int .i64 rt.length, .int .i64 0] 32) := ⟨_, rfl⟩
          have hAf2 := K.after_run hY2 p1 w HB8.out hw2
          have HSm := rsame_any Y2 (.slice va2 rt.length vc2) (.slice ra rt.length rc) rt rt (hAf2.2.2.2 _ _ d8) (hAf2.2.2.2 _ _ (HRd.out.below g8 (Nat.le_refl _))) (by omega) (by omega)
          obtain ⟨t0, t1, ft0, ft1⟩ := K.box2 p1
          have l7 := (Array.getElem?_eq_some_iff.1 p1).1
          have HB9 : Hid (Below w.heap.size w Y2) := hAf2.2.2.1
          clear d8 g8 p1 hRn hAf2 h9
          go_wp2_with fail
          rw [← hY2]
          refine HSm.mono ?_
          rintro e x3 ⟨rfl, g3⟩
          have HZ3 : Hid (Below w.heap.size w x3) := HB9.out.trans (g3.mono HB9.out.size)
          clear g3 HSm
          go_wp2
          go_ret
          exact ⟨by simp, HZ3.out⟩
    · clear HM2
      go_wp2
      go_ret
      exact ⟨rfl, HB3.out.1⟩
  · go_wp2
    go_ret
    exact ⟨rfl, HBa.out _⟩

end Go.Proofs.Ytdmpmkcigjkilab
