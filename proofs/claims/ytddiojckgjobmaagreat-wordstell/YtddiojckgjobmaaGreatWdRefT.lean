/-
  The document's Title.
-/
import Derived.Test.YtddiojckgjobmaaGreatWdRefS
import Derived.Test.YtddiojckgjobmaaGreatWdTitle
import Derived.Test.YtddiojckgjobmaaGreatQCheckR
namespace Go.Proofs.YtddiojckgjobmaaGreat
open Go.RowKit Go.Lib
set_option maxRecDepth 20000
set_option linter.unusedSimpArgs false
set_option linter.unusedVariables false

namespace Wd
theorem split_sets {A : List S.Sp} {t : List Int} (h : splitE A t = 0) : A.length ≤ 200 ∧ S.Nf 0 A := by
  unfold splitE at h
  split at h
  · rename_i hh; exact S.zaw.1 hh
  · rename_i hh; exact absurd h hh
/-- append(out, c) of a row of runes of one's own -/
theorem app1 (w : World) (B : Nat) (vo : Option Addr) (vc : Nat) (acc : List Int) (c : Int) (own : w.ownsRow B 21 1 (.slice vo acc.length vc) acc.length (K.ints acc)) (hl : acc.length ≤ 4000) (hB : B ≤ w.heap.size) :
    ∃ ao1 vc1 w4, (∀ ty, (Builtin.append_ #[26, 26] ty #[.slice vo acc.length vc, .slice (some ⟨w.heap.size, 0, none⟩) 1 1]).run Tryz.prog (w.alloc (.cells #[.int .i32 c] 21)) = .ok (.slice ao1 (acc.length + 1) vc1) w4) ∧ w4.ownsRow B 21 1 (.slice ao1 (acc ++ [c]).length vc1) (acc ++ [c]).length (K.ints (acc ++ [c])) ∧ Below B w w4 := by
  have hx : L.Rd (w.alloc (.cells #[.int .i32 c] 21)) (.slice (some ⟨w.heap.size, 0, none⟩) 1 1) .i32 [c] := ⟨_, _, rfl, fun e => by (cases e), fun _ => ⟨_, 0, rfl, fun j z hj => by
    match j, hj with
    | 0, hj => cases hj; exact K.zaa (heap_alloc_new w _) rfl
    | n + 1, hj => simp at hj⟩⟩
  obtain ⟨v', w', run, own', hg, _⟩ := K.zb9 (w.alloc (.cells #[.int .i32 c] 21)) B _ acc (own.alloc _) _ [c] hx (by simp; omega) (by simp; omega)
  obtain ⟨ao1, vc1, rfl, _⟩ := Al.lies own'
  have e : (acc ++ [c]).length = acc.length + 1 := by simp
  refine ⟨ao1, vc1, w', fun ty => by rw [run ty, e], own', ?_⟩
  exact (((Below.refl _ w).alloc hB _).grown hg (by simp; omega) (fun j hj => (own.lt j hj).1))
end Wd

set_option maxHeartbeats 8000000 in
theorem rTitle17_any (w : World) (v : Value) (A : List S.Sp) (R : S.Rd w v A) (hf : S.Fit A) (xo : Option Addr) (xc : Nat) (t : List Int) (Rt : L.Rd w (.slice xo t.length xc) .i32 t) (ht : t.length ≤ 140737488355328) :
    Calls Tryz.prog 7 #[v, .slice xo t.length xc] w fun e w' => ∃ v', e = .returned (.tuple #[v', .int .i64 (Wd.splitE A t)]) ∧ L.Rd w' v' .i32 (Wd.titleF A t) ∧ Below w.heap.size w w' := by
  have H1 := rSplit17_any w v A R hf xo xc t Rt ht
  obtain ⟨i0, hi0, hz0, hz1, hz2⟩ := info_parts Tryz.infoI32
  have HIn : Hid (S.Rd w v A ∧ L.Rd w (.slice xo t.length xc) .i32 t) := ⟨R, Rt⟩
  obtain ⟨e1, HE1⟩ : ∃ z, Hid (Wd.splitE A t = z) := ⟨_, rfl⟩
  obtain ⟨l, HLw⟩ : ∃ z, Hid (Wd.splitF A t = z) := ⟨_, rfl⟩
  rw [HE1.out, HLw.out] at H1
  obtain ⟨va, vc, rfl⟩ := R.len
  clear R Rt HLw
  go_enter Tryz.func7, Tryz.ntmps7
  go_wp2_with fail
  refine H1.mono ?_
  rintro e w1 ⟨v1, rfl, own1, b1⟩
  have HB1 : Hid (Below w.heap.size w w1) := b1
  obtain ⟨wo, wc, rfl, _⟩ := Al.lies own1
  clear H1 b1 own1
  by_cases q1 : e1 = 0
  · subst q1
    have hTx := Wd.split_tx HE1.out
    have h4 : t.length ≤ 4000 := hTx.1
    have HTx : Hid (∀ r ∈ t, 0 ≤ r ∧ r ≤ 1114111) := hTx.range
    have HF : Hid (Wd.titleF A t = Wd.title (S.memb A) false t) := by show _ = _; unfold Wd.titleF; rw [if_pos HE1.out]
    have HH : Hid (∀ X r, Below w.heap.size w X → Calls Tryz.prog 16 #[.slice va A.length vc, .int .i32 r] X fun e w' => e = .returned (.bool (S.memb A r)) ∧ Below X.heap.size X w') := fun X r hX => zbq X _ A r (HIn.out.1.below hX (Nat.le_refl _)) (by have := (Wd.split_sets HE1.out).1; omega)
    have HU : Hid (∀ X r, 0 ≤ r → r ≤ 1114111 → Calls Tryz.prog 19 #[.int .i32 r] X fun e w' => e = .returned (.int .i32 (Cn.up r)) ∧ w' = X) := fun X r h1 h2 => zgu r (by omega) (by omega) X
    have HL : Hid (∀ X r, 0 ≤ r → r ≤ 1114111 → Calls Tryz.prog 20 #[.int .i32 r] X fun e w' => e = .returned (.int .i32 (Cn.low r)) ∧ w' = X) := fun X r h1 h2 => zgw r (by omega) (by omega) X
    clear hTx
    go_wp2
    go_loopw [8, 22] (fun v8 i wr => ∃ (k : Nat) (acc : List Int) (vo : Option Addr) (vc' : Nat), k ≤ t.length ∧ i = .int .i64 k ∧ v8 = .slice vo acc.length vc' ∧ Hid (acc ++ Wd.title (S.memb A) (Wd.bf (S.memb A) t k) (t.drop k) = Wd.title (S.memb A) false t ∧ acc.length = k) ∧ Hid (wr.ownsRow w.heap.size 21 1 (.slice vo acc.length vc') acc.length (K.ints acc) ∧ Below w.heap.size w wr)) (fun _ i _ => t.length - (RowKit.intOf i).toNat)
    case atStart => exact ⟨0, [], none, 0, Nat.zero_le _, rfl, rfl, ⟨rfl, rfl⟩, World.ownsRow_nil _ _ _ _, HB1.out⟩
    case round =>
      obtain ⟨k, acc, vo, vc', hk, rfl, rfl, HA, HO⟩ := hrel
      by_cases hlt : k < t.length
      · obtain ⟨bk, off, rfl, hbk, hcell⟩ := Wd.at_text HIn.out.2 hlt
        have c0 := hcell wr HO.out.2 k hlt
        have HS : Hid (acc ++ (Wd.ch (S.memb A) (Wd.bf (S.memb A) t k) (t.getD k 0) :: Wd.title (S.memb A) (Wd.bf (S.memb A) t (k + 1)) (t.drop (k + 1))) = Wd.title (S.memb A) false t) := by show _ = _; rw [← Wd.title_at hlt]; exact HA.out.1
        have hx : t.getD k 0 ∈ t := by
          have : t[k]? = some (t.getD k 0) := by simp [List.getD, hlt]
          exact List.mem_of_getElem? this
        have hr := HTx.out _ hx
        have hH := HH.out wr (t.getD k 0) HO.out.2
        have HP : Hid (∀ m, k = m + 1 → Wd.bf (S.memb A) t k = S.memb A (t.getD m 0) ∧ ∀ X, Below w.heap.size w X → X.cell? ⟨bk, off + m, none⟩ = some (.int .i32 (t.getD m 0))) := fun m hm => by subst hm; exact ⟨rfl, fun X hX => hcell X hX m (by omega)⟩
        have hal : acc.length ≤ 4000 := by rw [HA.out.2]; omega
        have HAk : Hid (acc.length = k) := HA.out.2
        -- what comes of one rune more
        have HMore : Hid (∀ (c : Int) w3, Below wr.heap.size wr w3 → c = Wd.ch (S.memb A) (Wd.bf (S.memb A) t k) (t.getD k 0) → ∃ ao1 vc1 w4, (∀ ty, (Builtin.append_ #[26, 26] ty #[.slice vo acc.length vc', .slice (some ⟨w3.heap.size, 0, none⟩) 1 1]).run Tryz.prog (w3.alloc (.cells #[.int .i32 c] 21)) = .ok (.slice ao1 (acc.length + 1) vc1) w4) ∧ ((acc ++ [c]) ++ Wd.title (S.memb A) (Wd.bf (S.memb A) t (k + 1)) (t.drop (k + 1)) = Wd.title (S.memb A) false t ∧ (acc ++ [c]).length = k + 1) ∧ w4.ownsRow w.heap.size 21 1 (.slice ao1 (acc ++ [c]).length vc1) (acc ++ [c]).length (K.ints (acc ++ [c])) ∧ Below w.heap.size w w4 ∧ (acc ++ [c]).length = acc.length + 1) := fun c w3 b3 hc => by
          have hs3 := b3.size
          have hs0 := HO.out.2.size
          obtain ⟨ao1, vc1, w4, run1, own1, hb4⟩ := Wd.app1 w3 w.heap.size vo vc' acc c (L.zat HO.out.1 b3 (Nat.le_refl _)) (by omega) (by omega)
          refine ⟨ao1, vc1, w4, run1, ⟨by rw [← HS.out, hc]; simp, by simp; exact HAk.out⟩, own1, (HO.out.2.trans (b3.mono hs0)).trans hb4, by simp⟩
        generalize t.getD k 0 = x at hH c0 hr HMore
        clear hcell hx HS
        go_wp2_with fail
        refine hH.mono ?_
        clear hH
        rintro e w2 ⟨rfl, b2⟩
        have HB2 : Hid (Below wr.heap.size wr w2 ∧ Below w.heap.size w w2) := ⟨b2, HO.out.2.trans (b2.mono HO.out.2.size)⟩
        clear b2
        cases hm : S.memb A x with
        | false =>
          have hc : x = Wd.ch (S.memb A) (Wd.bf (S.memb A) t k) x := by unfold Wd.ch; rw [if_pos hm]
          obtain ⟨ao1, vc1, w4, run4, h4a, h4b, h4c, h4d⟩ := HMore.out x w2 HB2.out.1 hc
          have HN : Hid (((acc ++ [x]) ++ Wd.title (S.memb A) (Wd.bf (S.memb A) t (k + 1)) (t.drop (k + 1)) = Wd.title (S.memb A) false t ∧ (acc ++ [x]).length = k + 1) ∧ w4.ownsRow w.heap.size 21 1 (.slice ao1 (acc ++ [x]).length vc1) (acc ++ [x]).length (K.ints (acc ++ [x])) ∧ Below w.heap.size w w4 ∧ (acc ++ [x]).length = acc.length + 1) := ⟨h4a, h4b, h4c, h4d⟩
          clear h4a h4b h4c h4d hc hm HMore
          go_wp2_with (at_builtin; refine Lib.wpList_append_run _ rfl _ _ _ _ rfl _ _ rfl rfl _ _ (run4 _) ?_; clear run4)
          go_roundw
          case rel => exact ⟨k + 1, acc ++ [x], ao1, vc1, by omega, by go_num, by rw [HN.out.2.2.2], HN.out.1, HN.out.2.1, HN.out.2.2.1⟩
          case measure => simp [RowKit.intOf]; omega
        | true =>
          by_cases h0 : k = 0
          · have hd0 : ((k : Int) == 0) = true := by simp [h0]
            have hc : Cn.up x = Wd.ch (S.memb A) (Wd.bf (S.memb A) t k) x := by unfold Wd.ch; rw [if_neg (by rw [hm]; decide), h0]; rfl
            obtain ⟨ao1, vc1, w4, run4, h4a, h4b, h4c, h4d⟩ := HMore.out (Cn.up x) w2 HB2.out.1 hc
            have HN : Hid (((acc ++ [Cn.up x]) ++ Wd.title (S.memb A) (Wd.bf (S.memb A) t (k + 1)) (t.drop (k + 1)) = Wd.title (S.memb A) false t ∧ (acc ++ [Cn.up x]).length = k + 1) ∧ w4.ownsRow w.heap.size 21 1 (.slice ao1 (acc ++ [Cn.up x]).length vc1) (acc ++ [Cn.up x]).length (K.ints (acc ++ [Cn.up x])) ∧ Below w.heap.size w w4 ∧ (acc ++ [Cn.up x]).length = acc.length + 1) := ⟨h4a, h4b, h4c, h4d⟩
            have hU := HU.out w2 x hr.1 hr.2
            clear h4a h4b h4c h4d hc HMore
            generalize Cn.up x = c at hU HN run4
            generalize acc ++ [c] = acc2 at HN
            go_wp2_with fail
            refine hU.mono ?_
            clear hU
            rintro e w5 ⟨rfl, rfl⟩
            go_wp2_with (at_builtin; refine Lib.wpList_append_run _ rfl _ _ _ _ rfl _ _ rfl rfl _ _ (run4 _) ?_; clear run4)
            go_roundw
            case rel => exact ⟨k + 1, acc2, ao1, vc1, by omega, by go_num, by rw [HN.out.2.2.2], HN.out.1, HN.out.2.1, HN.out.2.2.1⟩
            case measure => simp [RowKit.intOf]; omega
          · obtain ⟨m, hmk⟩ : ∃ m, k = m + 1 := ⟨k - 1, by omega⟩
            obtain ⟨hbf, hcl⟩ := HP.out m hmk
            have hwr : IntKind.i64.wrap ((k : Int) - 1) = (m : Int) := by rw [IntKind.wrap_i64]; omega
            have hml : m < t.length := by omega
            have hd0 : ((k : Int) == 0) = false := by simp; exact h0
            have c1 := hcl w2 HB2.out.2
            have hH2 := HH.out w2 (t.getD m 0) HB2.out.2
            have HBf : Hid (Wd.bf (S.memb A) t k = S.memb A (t.getD m 0)) := hbf
            have HMk : Hid (k = m + 1) := hmk
            generalize t.getD m 0 = y at c1 hH2 HBf
            have HM2 : Hid (S.memb A x = true) := hm
            clear hbf hcl hmk hm
            go_wp2_with fail
            refine hH2.mono ?_
            clear hH2 c1
            rintro e w3 ⟨rfl, b3⟩
            have HB3 : Hid (Below wr.heap.size wr w3 ∧ Below w.heap.size w w3) := ⟨HB2.out.1.trans (b3.mono HB2.out.1.size), HB2.out.2.trans (b3.mono HB2.out.2.size)⟩
            clear b3
            generalize S.memb A y = bb at HBf
            cases bb with
            | false =>
              have hc : Cn.up x = Wd.ch (S.memb A) (Wd.bf (S.memb A) t k) x := by unfold Wd.ch; rw [if_neg (by rw [HM2.out]; decide), HBf.out]; rfl
              obtain ⟨ao1, vc1, w4, run4, h4a, h4b, h4c, h4d⟩ := HMore.out (Cn.up x) w3 HB3.out.1 hc
              have HN : Hid (((acc ++ [Cn.up x]) ++ Wd.title (S.memb A) (Wd.bf (S.memb A) t (k + 1)) (t.drop (k + 1)) = Wd.title (S.memb A) false t ∧ (acc ++ [Cn.up x]).length = k + 1) ∧ w4.ownsRow w.heap.size 21 1 (.slice ao1 (acc ++ [Cn.up x]).length vc1) (acc ++ [Cn.up x]).length (K.ints (acc ++ [Cn.up x])) ∧ Below w.heap.size w w4 ∧ (acc ++ [Cn.up x]).length = acc.length + 1) := ⟨h4a, h4b, h4c, h4d⟩
              have hU := HU.out w3 x hr.1 hr.2
              clear h4a h4b h4c h4d hc HMore
              generalize Cn.up x = c at hU HN run4
              generalize acc ++ [c] = acc2 at HN
              go_wp2_with fail
              refine hU.mono ?_
              clear hU
              rintro e w5 ⟨rfl, rfl⟩
              go_wp2_with (at_builtin; refine Lib.wpList_append_run _ rfl _ _ _ _ rfl _ _ rfl rfl _ _ (run4 _) ?_; clear run4)
              go_roundw
              case rel => exact ⟨k + 1, acc2, ao1, vc1, by omega, by go_num, by rw [HN.out.2.2.2], HN.out.1, HN.out.2.1, HN.out.2.2.1⟩
              case measure => simp [RowKit.intOf]; omega
            | true =>
              have hc : Cn.low x = Wd.ch (S.memb A) (Wd.bf (S.memb A) t k) x := by unfold Wd.ch; rw [if_neg (by rw [HM2.out]; decide), HBf.out]; rfl
              obtain ⟨ao1, vc1, w4, run4, h4a, h4b, h4c, h4d⟩ := HMore.out (Cn.low x) w3 HB3.out.1 hc
              have HN : Hid (((acc ++ [Cn.low x]) ++ Wd.title (S.memb A) (Wd.bf (S.memb A) t (k + 1)) (t.drop (k + 1)) = Wd.title (S.memb A) false t ∧ (acc ++ [Cn.low x]).length = k + 1) ∧ w4.ownsRow w.heap.size 21 1 (.slice ao1 (acc ++ [Cn.low x]).length vc1) (acc ++ [Cn.low x]).length (K.ints (acc ++ [Cn.low x])) ∧ Below w.heap.size w w4 ∧ (acc ++ [Cn.low x]).length = acc.length + 1) := ⟨h4a, h4b, h4c, h4d⟩
              have hU := HL.out w3 x hr.1 hr.2
              clear h4a h4b h4c h4d hc HMore
              generalize Cn.low x = c at hU HN run4
              generalize acc ++ [c] = acc2 at HN
              go_wp2_with fail
              refine hU.mono ?_
              clear hU
              rintro e w5 ⟨rfl, rfl⟩
              go_wp2_with (at_builtin; refine Lib.wpList_append_run _ rfl _ _ _ _ rfl _ _ rfl rfl _ _ (run4 _) ?_; clear run4)
              go_roundw
              case rel => exact ⟨k + 1, acc2, ao1, vc1, by omega, by go_num, by rw [HN.out.2.2.2], HN.out.1, HN.out.2.1, HN.out.2.2.1⟩
              case measure => simp [RowKit.intOf]; omega
      · have hkl : k = t.length := by omega
        have HE : Hid (Wd.titleF A t = acc) := by
          show _ = _
          rw [HF.out, ← HA.out.1, hkl, List.drop_length, Wd.title, List.append_nil]
        have HRd : Hid (L.Rd wr (.slice vo acc.length vc') .i32 acc) := L.Rd.zaq HO.out.1
        clear HA
        go_wp2
        refine bodyPost_ret (v := .tuple #[.slice vo acc.length vc', .int .i64 0]) (by simp [results, Tryz.results7, go_sem, *]) rfl ?_
        exact ⟨_, by rw [HE1.out], by rw [HE.out]; exact HRd.out, HO.out.2⟩
  · have HT : Hid (Wd.titleF A t = []) := by show _ = _; unfold Wd.titleF; rw [if_neg (by rw [HE1.out]; exact q1)]
    go_wp2
    refine bodyPost_ret (v := .tuple #[.slice none 0 0, .int .i64 e1]) (by simp [results, Tryz.results7, go_sem, *]) rfl ?_
    exact ⟨_, by rw [HE1.out], by rw [HT.out]; exact ⟨none, 0, rfl, fun _ => rfl, fun h => absurd rfl h⟩, HB1.out⟩

end Go.Proofs.YtddiojckgjobmaaGreat
