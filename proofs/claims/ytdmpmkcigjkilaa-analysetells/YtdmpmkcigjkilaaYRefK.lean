/-
  The rules that one ahead of them masks: the document's answer.
-/
import Derived.Test.YtdmpmkcigjkilaaYRefM
import Derived.Test.YtdmpmkcigjkilaaYMasked
namespace Go.Proofs.Ytdmpmkcigjkilaa
open Go.RowKit
set_option maxRecDepth 20000
set_option linter.unusedSimpArgs false
set_option linter.unusedVariables false

set_option maxHeartbeats 8000000 in
theorem rMasked9_any (w : World) (v : Value) (l : List K.Rule) (R0 : V.Rus w v l) (hl : l.length ≤ 200) (hE : ∀ r ∈ l, K.ruleE r = 0) :
    Calls Try.prog 29 #[v] w fun e w' => ∃ v', e = .returned v' ∧ L.Rd w' v' .i64 (K.maskedL l) ∧ Below w.heap.size w w' := by
  have HR : Hid (V.Rus w v l) := R0
  have HE : Hid (∀ r ∈ l, K.ruleE r = 0) := hE
  obtain ⟨i0, hi, hz0, hz1, hz2⟩ := info_parts Try.infoIntY
  obtain ⟨ao, cap, rfl⟩ := R0.len
  clear R0 hE
  go_enter Try.func29, Try.ntmps29
  go_wp2
  go_loopw [3, 8] (fun vo i wr => ∃ k : Nat, k ≤ l.length ∧ i = .int .i64 k ∧ Hid (wr.ownsRow w.heap.size 3 1 vo (K.maskedN l k).length ((K.maskedN l k).map (Value.int .i64))) ∧ Hid (Below w.heap.size w wr)) (fun _ i _ => l.length - (intOf i).toNat)
  case atStart => exact ⟨0, Nat.zero_le _, rfl, World.ownsRow_nil _ _ _ _, Below.refl _ _⟩
  case round =>
    obtain ⟨k, hk, rfl, HOw, HB⟩ := hrel
    have hwr := HB.out.size
    by_cases hlt : k < l.length
    · obtain ⟨p, hp⟩ : ∃ x, l[k]? = some x := ⟨l[k], by simp [hlt]⟩
      have HT : Hid (K.maskAt l k = (l.take k).any fun a => K.masksB a p) := K.maskAt_at hp
      have HPk : Hid (l[k]? = some p) := hp
      have hlen := K.maskedN_len l k
      obtain ⟨vo, hvo⟩ : ∃ vo, vo = u3 := ⟨_, rfl⟩
      subst hvo
      obtain ⟨wo, hwo⟩ : ∃ wo, wo = wr := ⟨_, rfl⟩
      subst hwo
      clear hp
      go_wp2
      go_loopw [3, 5] (fun vo' i wr => ∃ j : Nat, j ≤ k ∧ i = .int .i64 j ∧ vo' = vo ∧ Hid (((l.take k).take j).any (fun a => K.masksB a p) = false) ∧ Hid (wr.ownsRow w.heap.size 3 1 vo (K.maskedN l k).length ((K.maskedN l k).map (Value.int .i64))) ∧ Hid (Below w.heap.size w wr)) (fun _ i _ => k - (intOf i).toNat)
      case atStart => exact ⟨0, Nat.zero_le _, rfl, rfl, by show List.any _ _ = false; simp, HOw, HB⟩
      case round =>
        obtain ⟨j, hj, rfl, rfl, HN, HO2, HB2⟩ := hrel
        have hwr2 := HB2.out.size
        by_cases hjk : j < k
        · obtain ⟨a, ha⟩ : ∃ x, l[j]? = some x := ⟨l[j]'(by omega), List.getElem?_eq_getElem _⟩
          obtain ⟨ba, oa, abo, abc, aso, asc, aao, aac, ato, atc, rfl, a0, a1, a2, a3, a4, a5, a6, hA⟩ := K.Rus.rule (HR.out.below HB2.out) ha
          obtain ⟨bb, ob, bbo, bbc, bso, bsc, bao, bac, bto, btc, heq, b0, b1, b2, b3, b4, b5, b6, hBb⟩ := K.Rus.rule (HR.out.below HB2.out) HPk.out
          cases heq
          have hba := L.block_lt a0
          have htj : (l.take k)[j]? = some a := by rw [List.getElem?_take_of_lt hjk]; exact ha
          have HMs : Hid (∀ W, Below wr.heap.size wr W → Calls Try.prog 25 #[.agg #[.bool a.start, .bool a.fin, .slice abo a.before.length abc, .slice aso a.source.length asc, .slice aao a.after.length aac, .slice ato a.target.length atc, .int .i64 a.cursor], .agg #[.bool p.start, .bool p.fin, .slice bbo p.before.length bbc, .slice bso p.source.length bsc, .slice bao p.after.length bac, .slice bto p.target.length btc, .int .i64 p.cursor]] W fun e w' => e = .returned (.bool (K.masksB a p)) ∧ Below W.heap.size W w') := fun W hW => rMasks9_any W _ _ a p (hA.below hW) (hBb.below hW) (HE.out a (List.mem_of_getElem? ha)) (HE.out p (List.mem_of_getElem? HPk.out))
          have HKp : Hid (∀ W, Below wr.heap.size wr W → W.cell? ⟨ba, oa + j * 7, none⟩ = some (.bool a.start) ∧ W.cell? ⟨ba, oa + j * 7 + 1, none⟩ = some (.bool a.fin) ∧ W.cell? ⟨ba, oa + j * 7 + 2, none⟩ = some (.slice abo a.before.length abc) ∧ W.cell? ⟨ba, oa + j * 7 + 3, none⟩ = some (.slice aso a.source.length asc) ∧ W.cell? ⟨ba, oa + j * 7 + 4, none⟩ = some (.slice aao a.after.length aac) ∧ W.cell? ⟨ba, oa + j * 7 + 5, none⟩ = some (.slice ato a.target.length atc) ∧ W.cell? ⟨ba, oa + j * 7 + 6, none⟩ = some (.int .i64 a.cursor) ∧ W.cell? ⟨ba, oa + k * 7, none⟩ = some (.bool p.start) ∧ W.cell? ⟨ba, oa + k * 7 + 1, none⟩ = some (.bool p.fin) ∧ W.cell? ⟨ba, oa + k * 7 + 2, none⟩ = some (.slice bbo p.before.length bbc) ∧ W.cell? ⟨ba, oa + k * 7 + 3, none⟩ = some (.slice bso p.source.length bsc) ∧ W.cell? ⟨ba, oa + k * 7 + 4, none⟩ = some (.slice bao p.after.length bac) ∧ W.cell? ⟨ba, oa + k * 7 + 5, none⟩ = some (.slice bto p.target.length btc) ∧ W.cell? ⟨ba, oa + k * 7 + 6, none⟩ = some (.int .i64 p.cursor)) := fun W hW => by
            have e : ∀ o, W.cell? ⟨ba, o, none⟩ = wr.cell? ⟨ba, o, none⟩ := fun o => hW.cell (p := ⟨ba, o, none⟩) hba
            simp only [e]
            exact ⟨a0, a1, a2, a3, a4, a5, a6, b0, b1, b2, b3, b4, b5, b6⟩
          have HQ0 : Hid (Below wr.heap.size wr wr.drew) := (Below.refl _ wr).drew
          have HN2 : Hid (K.masksB a p = false → ((l.take k).take (j + 1)).any (fun a => K.masksB a p) = false) := fun h => by
            rw [List.take_add_one, htj, List.any_append, HN.out]; simp [h]
          have HY2 : Hid (K.masksB a p = true → K.maskAt l k = true) := fun h => by
            rw [HT.out]; exact List.any_eq_true.2 ⟨a, List.mem_of_getElem? htj, h⟩
          have lj : (j : Int) < l.length := by omega
          have lk : (k : Int) < l.length := by omega
          clear ha hA hBb htj a0 a1 a2 a3 a4 a5 a6 b0 b1 b2 b3 b4 b5 b6
          generalize K.masksB a p = z at HMs HN2 HY2
          go_wp2
          go_region_held3 (fun w' => w'.cell? ⟨ba, oa + j * 7, none⟩ = some (.bool a.start) ∧ w'.cell? ⟨ba, oa + j * 7 + 1, none⟩ = some (.bool a.fin) ∧ w'.cell? ⟨ba, oa + j * 7 + 2, none⟩ = some (.slice abo a.before.length abc) ∧ w'.cell? ⟨ba, oa + j * 7 + 3, none⟩ = some (.slice aso a.source.length asc) ∧ w'.cell? ⟨ba, oa + j * 7 + 4, none⟩ = some (.slice aao a.after.length aac) ∧ w'.cell? ⟨ba, oa + j * 7 + 5, none⟩ = some (.slice ato a.target.length atc) ∧ w'.cell? ⟨ba, oa + j * 7 + 6, none⟩ = some (.int .i64 a.cursor) ∧ w'.cell? ⟨ba, oa + k * 7, none⟩ = some (.bool p.start) ∧ w'.cell? ⟨ba, oa + k * 7 + 1, none⟩ = some (.bool p.fin) ∧ w'.cell? ⟨ba, oa + k * 7 + 2, none⟩ = some (.slice bbo p.before.length bbc) ∧ w'.cell? ⟨ba, oa + k * 7 + 3, none⟩ = some (.slice bso p.source.length bsc) ∧ w'.cell? ⟨ba, oa + k * 7 + 4, none⟩ = some (.slice bao p.after.length bac) ∧ w'.cell? ⟨ba, oa + k * 7 + 5, none⟩ = some (.slice bto p.target.length btc) ∧ w'.cell? ⟨ba, oa + k * 7 + 6, none⟩ = some (.int .i64 p.cursor))
            (first | with_reducible exact HKp.out _ HQ0.out | with_reducible exact k2 | (go_keep; done))
            (first
              | (go_at_call 25; refine (HMs.out _ HQ0.out).mono ?_; rintro e w2 ⟨rfl, z2⟩; have p2 : Below wr.heap.size wr w2 := HQ0.out.trans (z2.mono (Nat.le_refl _)); have k2 := HKp.out _ p2)
              | fail)
          have HB3 : Hid (Below w.heap.size w w2) := HB2.out.trans (p2.mono hwr2)
          have HO3 : Hid (w2.ownsRow w.heap.size 3 1 u3 (K.maskedN l k).length ((K.maskedN l k).map (Value.int .i64))) := L.owns_below HO2.out p2 (Nat.le_refl _)
          have hw2 : w.heap.size ≤ w2.heap.size := HB3.out.size
          clear k2 z2 p2
          cases z with
          | false =>
            have HN3 : Hid (((l.take k).take (j + 1)).any (fun a => K.masksB a p) = false) := HN2.out rfl
            clear HN2 HY2
            go_wp2
            go_roundw
            case rel => exact ⟨j + 1, by omega, by go_num, rfl, HN3, HO3, HB3⟩
            case measure => simp [intOf]; omega
          | true =>
            have HZ : Hid (K.maskAt l k = true) := HY2.out rfl
            clear HN2 HY2
            go_wp2_with (at_builtin; go_must (refine wpList_append_own _ rfl _ _ 54 rfl w.heap.size 3 i0 (.int .i64 0) 1 8 Try.underlying54 hi hz0 hz1 hz2 rfl (by decide) _ _ _ rfl (HO3.out.alloc _) ⟨w2.heap.size, 0, none⟩ 1 1 [.int .i64 (k : Int)] rfl rfl (cell_one_new _ _ _) (fun x hx => by simp at hx; subst hx; rfl) (by unfold maxLen; omega) (by omega) (by simp; omega) ?_; intro v' w4 hown' hgrow4 hnil4; have HX4 : Hid (w4.ownsRow w.heap.size 3 1 v' ((K.maskedN l k).length + 1) ((K.maskedN l k).map (Value.int .i64) ++ [.int .i64 (k : Int)]) ∧ Below w.heap.size w w4) := ⟨hown', Below.grown (HB3.out.alloc hw2 _) hgrow4 (by simp; omega) (fun j hj => (HO3.out.lt _ hj).1)⟩; clear hown' hgrow4 hnil4))
            go_roundw
            case rel => exact ⟨k + 1, by omega, by go_num, by rw [K.maskedN_yes HZ.out, List.length_append, List.map_append]; exact HX4.out.1, HX4.out.2⟩
            case measure => simp [intOf]; omega
        · have HZ : Hid (K.maskAt l k = false) := by
            show _ = false
            rw [HT.out]
            have h := HN.out
            rw [List.take_of_length_le (by rw [List.length_take]; omega)] at h
            exact h
          go_wp2
          go_roundw
          case rel => exact ⟨k + 1, by omega, by go_num, by rw [K.maskedN_no HZ.out]; exact HO2, HB2⟩
          case measure => simp [intOf]; omega
    · have hkl : k = l.length := by omega
      subst hkl
      go_wp2
      go_ret
      exact ⟨_, rfl, L.Rd.of_owns HOw.out, HB.out⟩

end Go.Proofs.Ytdmpmkcigjkilaa
