/-
  words.Split: the program's answer.
-/
import Derived.Test.YtddiojckgjobmaaGreatWdWord
import Derived.Test.YtddiojckgjobmaaGreatSWrong
import Derived.Test.YtddiojckgjobmaaGreatMWrong
namespace Go.Proofs.YtddiojckgjobmaaGreat
open Go.RowKit Go.Lib
set_option maxRecDepth 20000
set_option linter.unusedSimpArgs false
set_option linter.unusedVariables false

set_option maxHeartbeats 4000000 in
theorem wSplit_any (w : World) (v : Value) (A : List S.Sp) (R : S.Rd w v A) (hf : S.Fit A) (xo : Option Addr) (xc : Nat) (t : List Int) (Rt : L.Rd w (.slice xo t.length xc) .i32 t) (ht : t.length ≤ 140737488355328) :
    Calls Tryz.prog 4 #[v, .slice xo t.length xc] w fun e w' => ∃ v', e = .returned (.tuple #[v', .int .i64 (Wd.splitE A t)]) ∧ w'.ownsRow w.heap.size 32 3 v' (Wd.splitF A t).length (Wd.wcells (Wd.splitF A t)) ∧ Below w.heap.size w w' := by
  have H1 := zcr w v A R hf
  have H2 : Hid (∀ X, Below w.heap.size w X → Calls Tryz.prog 12 #[.slice xo t.length xc] X fun e w' => e = .returned (.int .i64 (K.textE t)) ∧ Below X.heap.size X w') := fun X hX => zcz X _ t (Rt.below hX (Nat.le_refl _)) ht
  have HIn : Hid (S.Rd w v A ∧ L.Rd w (.slice xo t.length xc) .i32 t) := ⟨R, Rt⟩
  obtain ⟨va, vc, rfl⟩ := R.len
  obtain ⟨a1, HA1⟩ : ∃ z, Hid (S.wrongE A = z) := ⟨_, rfl⟩
  obtain ⟨a2, HA2⟩ : ∃ z, Hid (K.textE t = z) := ⟨_, rfl⟩
  rw [HA1.out] at H1
  rw [HA2.out] at H2
  clear R Rt
  go_enter Tryz.func4, Tryz.ntmps4
  go_wp2_with fail
  refine H1.mono ?_
  rintro e w1 ⟨rfl, b1⟩
  have H2' := H2.out _ b1
  have HB1 : Hid (Below w.heap.size w w1) := b1
  clear H1 b1 H2
  by_cases q1 : a1 = 0
  · subst q1
    go_wp2_with fail
    refine H2'.mono ?_
    rintro e w2 ⟨rfl, b2⟩
    have HB2 : Hid (Below w.heap.size w w2) := HB1.out.trans (b2.mono HB1.out.size)
    clear H2' b2 HB1
    by_cases q2 : a2 = 0
    · subst q2
      have hA := S.zaw.1 HA1.out
      have h4 := K.zbp HA2.out
      have HS : Hid (Wd.splitE A t = 0 ∧ Wd.splitF A t = Wd.rest (S.memb A) t 0) := by
        have e : Wd.splitE A t = 0 := by unfold Wd.splitE; rw [if_pos HA1.out, HA2.out]
        exact ⟨e, by unfold Wd.splitF; rw [if_pos e]⟩
      have HWd : Hid (∀ X (k : Nat), Below w.heap.size w X → k < t.length → Calls Tryz.prog 13 #[.slice va A.length vc, .slice xo t.length xc, .int .i64 k] X fun e w' => ∃ (to : Nat) (b : Bool), e = .returned (.agg #[.int .i64 k, .int .i64 to, .bool b]) ∧ Wd.rest (S.memb A) t k = (k, to, b) :: Wd.rest (S.memb A) t to ∧ k < to ∧ to ≤ t.length ∧ Below X.heap.size X w') := fun X k hX hk => word_any X _ A (HIn.out.1.below hX (Nat.le_refl _)) hA.2 hA.1 xo xc t (HIn.out.2.below hX (Nat.le_refl _)) h4 k hk
      clear hA
      go_wp2
      go_loopw [8, 9] (fun i8 i9 wr => ∃ (k : Nat) (xs : List Wd.Wo) (vo : Option Addr) (vc' : Nat), k ≤ t.length ∧ i9 = .int .i64 k ∧ i8 = .slice vo xs.length vc' ∧ Hid (Wd.rest (S.memb A) t 0 = xs ++ Wd.rest (S.memb A) t k ∧ wr.ownsRow w.heap.size 32 3 (.slice vo xs.length vc') xs.length (Wd.wcells xs) ∧ Below w.heap.size w wr)) (fun _ i9 _ => t.length - (RowKit.intOf i9).toNat)
      case atStart => exact ⟨0, [], none, 0, Nat.zero_le _, rfl, rfl, rfl, World.ownsRow_nil _ _ _ _, HB2.out⟩
      case round =>
        obtain ⟨k, xs, vo, vc', hk, rfl, rfl, HI⟩ := hrel
        have hxl : xs.length ≤ 4000 := by
          have h1 := Wd.rest_len (S.memb A) t 0
          rw [HI.out.1, List.length_append] at h1
          omega
        by_cases hlt : k < t.length
        · have HW := HWd.out wr k HI.out.2.2 hlt
          have hszr := HI.out.2.2.size
          go_wp2_with fail
          go_at_call 13
          refine HW.mono ?_
          rintro e w3 ⟨to, b, rfl, hrest, hk1, hk2, b3⟩
          have hs3 := b3.size
          have own3 : (w3.alloc (.cells #[.int .i64 k, .int .i64 to, .bool b] 32)).ownsRow w.heap.size 32 3 (.slice vo xs.length vc') xs.length (Wd.wcells xs) := (L.zat HI.out.2.1 b3 (Nat.le_refl _)).alloc _
          obtain ⟨ao1, vc1, w4, run1, own1, kp1, sz1, be1⟩ := Al.app (sl := 27) Tryz.underlying27 Tryz.infoWord rfl (by decide) (by decide) own3 (by simp; omega) (by omega) [.int .i64 k, .int .i64 to, .bool b] rfl (fun u hu => by simp at hu; rcases hu with rfl | rfl | rfl <;> rfl)
          have hx4 : w4.heap[w3.heap.size]? = some (.cells #[.int .i64 k, .int .i64 to, .bool b] 32) := by
            rw [kp1 _ (by simp) (fun e => by have h3 := (HI.out.2.1.lt _ e).2; omega)]
            exact heap_alloc_new w3 _
          have y1 := K.zaa (i := 1) hx4 rfl
          have HN2 : Hid (Wd.rest (S.memb A) t 0 = (xs ++ [(k, to, b)]) ++ Wd.rest (S.memb A) t to ∧ w4.ownsRow w.heap.size 32 3 (.slice ao1 (xs.length + 1) vc1) (xs.length + 1) (Wd.wcells (xs ++ [(k, to, b)])) ∧ Below w.heap.size w w4 ∧ (xs ++ [((k, to, b) : Wd.Wo)]).length = xs.length + 1) := by
            refine ⟨by rw [HI.out.1, hrest]; simp, by rw [Wd.wcells_append]; exact own1, ?_, by simp⟩
            exact (HI.out.2.2.trans (b3.mono (by omega))).trans (((Below.refl _ w3).alloc (by omega) _).trans be1)
          rw [show (w3.alloc (.cells #[.int .i64 k, .int .i64 to, .bool b] 32)).heap.size = w3.heap.size + 1 by simp] at run1
          clear own3 own1 kp1 be1 hx4 HW b3 hrest
          go_wp2_with (at_builtin; refine Lib.wpList_append_run _ rfl _ _ _ _ rfl _ _ rfl rfl _ _ (run1 _) ?_; clear run1)
          go_roundw
          case rel => exact ⟨to, xs ++ [(k, to, b)], ao1, vc1, hk2, rfl, (by rw [HN2.out.2.2.2]), HN2.out.1, by rw [HN2.out.2.2.2]; exact HN2.out.2.1, HN2.out.2.2.1⟩
          case measure => simp [RowKit.intOf]; omega
        · have HE : Hid (Wd.splitF A t = xs) := by show _ = _; rw [HS.out.2, HI.out.1, Wd.rest_end (by omega), List.append_nil]
          go_wp2
          refine bodyPost_ret (v := .tuple #[.slice vo xs.length vc', .int .i64 0]) (by simp [results, Tryz.results4, go_sem, *]) rfl ?_
          exact ⟨_, by rw [HS.out.1], by rw [HE.out]; exact HI.out.2.1, HI.out.2.2⟩
    · have HS : Hid (Wd.splitE A t = a2 ∧ Wd.splitF A t = []) := by
        have e : Wd.splitE A t = a2 := by unfold Wd.splitE; rw [if_pos HA1.out, HA2.out]
        exact ⟨e, by unfold Wd.splitF; rw [if_neg (by rw [e]; exact q2)]⟩
      go_wp2
      refine bodyPost_ret (v := .tuple #[.slice none 0 0, .int .i64 a2]) (by simp [results, Tryz.results4, go_sem, *]) rfl ?_
      exact ⟨_, by rw [HS.out.1], by rw [HS.out.2]; exact World.ownsRow_nil _ _ _ _, HB2.out⟩
  · have HS : Hid (Wd.splitE A t = a1 ∧ Wd.splitF A t = []) := by
      have e : Wd.splitE A t = a1 := by unfold Wd.splitE; rw [if_neg (by rw [HA1.out]; exact q1), HA1.out]
      exact ⟨e, by unfold Wd.splitF; rw [if_neg (by rw [e]; exact q1)]⟩
    go_wp2
    refine bodyPost_ret (v := .tuple #[.slice none 0 0, .int .i64 a1]) (by simp [results, Tryz.results4, go_sem, *]) rfl ?_
    exact ⟨_, by rw [HS.out.1], by rw [HS.out.2]; exact World.ownsRow_nil _ _ _ _, HB1.out⟩

end Go.Proofs.YtddiojckgjobmaaGreat
