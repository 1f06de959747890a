/-
  All pieces come: stream.feed, stream.Feed, stream.Wait.
-/
import Derived.Test.YtackaadejnbfmaaWTake
import Derived.Test.YtackaadejnbfmaaYLook
import Derived.Test.YtackaadejnbfmaaQNe
import Derived.Test.YtackaadejnbfmaaSHas7
import Derived.Test.YtackaadejnbfmaaQClone
namespace Go.Proofs.Ytackaadejnbfmaa
open Go.RowKit Go.Lib
set_option maxRecDepth 20000
set_option linter.unusedSimpArgs false
set_option linter.unusedVariables false

namespace Ws
/-- a store of what is there already -/
theorem idle {w : World} {r : Nat} {x y : Value} {ty : TypeId} (h : w.heap[r]? = some (.cells #[x, y] ty)) : Below w.heap.size w ((w.setCell ⟨r, 0, none⟩ x).setCell ⟨r, 1, none⟩ y) := by
  refine ⟨rfl, rfl, rfl, by simp, fun k hk => ?_⟩
  by_cases e : k = r
  · subst e
    rw [h]
    exact heap_setCell_same _ k 1 _ _ y (heap_setCell_same w k 0 _ _ x h)
  · rw [heap_setCell_other _ ⟨r, 1, none⟩ k y (by simpa using e), heap_setCell_other _ ⟨r, 0, none⟩ k x (by simpa using e)]
/-- what feed leaves -/
def Fed (w W0 w' : World) (vl : Value) (l : List K.Rule) (o : Int × Int × St) (fp : Value) : Prop :=
  Below w.heap.size w w' ∧ ((o.1 ≠ 0 ∧ fp = .pointer none) ∨ (o.1 = 0 ∧ o.2.1 = 0 ∧ (∀ r ∈ l, K.ruleE r = 0) ∧ l.length ≤ 200 ∧ o.2.2.Ok ∧ o.2.2.told.length ≤ 200 ∧ ∃ bs tv vt, fp = .pointer (some ⟨bs, 0, none⟩) ∧ Below W0.heap.size W0 w' ∧ Fl W0.heap.size bs w' vl (K.ahead l) tv vt (o.2.2.A ++ o.2.2.Z) o.2.2.A.length o.2.2.came o.2.2.steps o.2.2.A.length o.2.2.told))
end Ws

set_option maxHeartbeats 16000000 in
theorem wfeed_any (w : World) (vl : Value) (l : List K.Rule) (R0 : V.Rus w vl l) (vc : Value) (cs : List (List Int)) (Rc : Ws.Rd w vc cs) (hcs : ∀ c ∈ cs, c.length ≤ 140737488355328) (hcl : cs.length ≤ 140737488355328) (o1 o2 : Int) (os : Ws.St) (hO : Ws.all l (K.ahead l) cs = (o1, o2, os)) :
    Calls Try.prog 22 #[vl, vc] w fun e w' => ∃ fp, e = .returned (.tuple #[fp, .agg #[.int .i64 o1, .int .i64 o2]]) ∧ Ws.Fed w (w.alloc (.cells #[.int .i64 0, .int .i64 0] 28)) w' vl l (o1, o2, os) fp := by
  obtain ⟨W0, hW0⟩ : ∃ W0, W0 = w.alloc (.cells #[.int .i64 0, .int .i64 0] 28) := ⟨_, rfl⟩
  have hA0 : Below w.heap.size w W0 := by rw [hW0]; exact (Below.refl _ w).alloc (Nat.le_refl _) _
  have hsz : W0.heap.size = w.heap.size + 1 := by rw [hW0]; simp
  have hr0 : W0.heap[w.heap.size]? = some (.cells #[.int .i64 0, .int .i64 0] 28) := by rw [hW0]; exact heap_alloc_new w _
  have HR : Hid (V.Rus W0 vl l ∧ Ws.Rd W0 vc cs ∧ ∀ c ∈ cs, c.length ≤ 140737488355328) := ⟨R0.below hA0, Rc.below hA0, hcs⟩
  have HW0 : Hid (W0 = w.alloc (.cells #[.int .i64 0, .int .i64 0] 28) ∧ W0.heap.size = w.heap.size + 1 ∧ W0.heap[w.heap.size]? = some (.cells #[.int .i64 0, .int .i64 0] 28) ∧ Below w.heap.size w W0) := ⟨hW0, hsz, hr0, hA0⟩
  have HWr : Hid (∀ Y, Y = W0 → Calls Try.prog 33 #[vl] Y fun e w' => e = .returned (.agg #[.int .i64 (K.rulesF l).1, .int .i64 (K.rulesF l).2]) ∧ Below W0.heap.size W0 w') := fun Y hY => by rw [hY]; exact qWrong_any W0 _ l HR.out.1
  have HRe : Hid (∀ X, Below W0.heap.size W0 X → Calls Try.prog 34 #[vl] X fun e w' => e = .returned (.tuple #[.int .i64 (K.behind l), .int .i64 (K.ahead l)]) ∧ Below X.heap.size X w') := fun X hX => yReach_any X vl l (HR.out.1.below hX)
  rw [← hW0]
  obtain ⟨ao, cap, rfl⟩ := R0.len
  obtain ⟨co, cc, rfl, _⟩ := Rc
  obtain ⟨⟨r1, r2⟩, hru⟩ : ∃ o, K.rulesF l = o := ⟨_, rfl⟩
  have HRu : Hid (K.rulesF l = (r1, r2)) := hru
  have HO : Hid (Ws.all l (K.ahead l) cs = (o1, o2, os)) := hO
  rw [hru] at HWr
  simp only at HWr
  clear hW0 hA0 hsz hr0 hru hO R0 hcs
  go_enter Try.func22, Try.ntmps22
  go_wp2_with fail
  go_at_call 33
  refine (HWr.out _ HW0.out.1.symm).mono ?_
  rintro e w1 ⟨rfl, b1⟩
  have h1 := K.blk_below HW0.out.2.2.1 b1
  have hs1 : w.heap.size + 1 ≤ w1.heap.size := by have := b1.size; have := HW0.out.2.1; omega
  have HB1 : Hid (Below W0.heap.size W0 w1) := b1
  have HX1 : Hid (w1.heap[w.heap.size]? = some (.cells #[.int .i64 0, .int .i64 0] 28)) := h1
  have HWw : Hid (∀ X, Below W0.heap.size W0 X → Below w.heap.size w X) := fun X hX => HW0.out.2.2.2.trans (hX.mono (by have := HW0.out.2.1; omega))
  obtain ⟨x0, x1, f0, f1⟩ := K.box2 h1
  have k0 : ∀ o, (w1.alloc o).cell? ⟨w.heap.size, 0, none⟩ = some (.int .i64 0) := fun o => K.alloc_cell x0 o
  have k1 : ∀ o, (w1.alloc o).cell? ⟨w.heap.size, 1, none⟩ = some (.int .i64 0) := fun o => K.alloc_cell x1 o
  have g0 : ∀ o i, (w1.alloc o).frozen? ⟨w.heap.size, i, none⟩ = false := fun o i => K.alloc_free h1 o i
  have HBa : Hid (∀ o, Below W0.heap.size W0 (w1.alloc o)) := fun o => HB1.out.alloc HB1.out.size o
  clear b1 HWr x0 x1 f0 f1 h1
  by_cases q : r1 = 0
  · subst q
    obtain ⟨hl2, hE, hz⟩ := K.rulesF_zero (l := l) (by rw [HRu.out])
    have hr2 : r2 = 0 := by rw [HRu.out] at hz; exact (Prod.mk.inj hz).2
    subst hr2
    have hall : Ws.all l (K.ahead l) cs = if 200 < cs.length then (5, 0, Ws.start) else Ws.feed l (K.ahead l) 0 cs Ws.start := by
      unfold Ws.all
      rw [if_neg (by simp [HRu.out])]
    rw [HO.out] at hall
    have HE : Hid (∀ r ∈ l, K.ruleE r = 0) := hE
    have HAll : Hid (_ = _) := hall
    clear hE hall hz
    by_cases hc200 : 200 < cs.length
    · have h2 := HAll.out
      rw [if_pos hc200] at h2
      simp only [Prod.mk.injEq] at h2
      obtain ⟨rfl, rfl, rfl⟩ := h2
      have hci : (200 : Int) < (cs.length : Int) := by omega
      clear HAll HO
      go_wp2
      refine bodyPost_ret (v := .tuple #[.pointer none, .agg #[.int .i64 5, .int .i64 0]]) (by simp [results, Try.results22, go_sem, *]) rfl ?_
      exact ⟨_, rfl, ((HWw.out _ (HBa.out _)).setCell (p := ⟨w.heap.size, 0, none⟩) (Nat.le_refl _) _).setCell (p := ⟨w.heap.size, 1, none⟩) (Nat.le_refl _) _, .inl ⟨by simp, rfl⟩⟩
    · have h2 := HAll.out
      rw [if_neg hc200] at h2
      have HFd : Hid (Ws.feed l (K.ahead l) 0 cs Ws.start = (o1, o2, os)) := h2.symm
      have hci : ¬ (200 : Int) < (cs.length : Int) := by omega
      have hal := Ws.ahead_le HE.out
      obtain ⟨ah, hah⟩ : ∃ ah, ah = K.ahead l := ⟨_, rfl⟩
      have HRe2 : Hid (∀ o, Calls Try.prog 34 #[.slice ao l.length cap] (w1.alloc o) fun e w' => e = .returned (.tuple #[.int .i64 (K.behind l), .int .i64 ah]) ∧ Below W0.heap.size W0 w') := fun o => by
        refine (HRe.out _ (HBa.out o)).mono ?_
        rintro e w' ⟨rfl, h⟩
        exact ⟨by rw [hah], (HBa.out o).trans (h.mono (HBa.out o).size)⟩
      have HAh : Hid (ah = K.ahead l) := hah
      rw [← hah] at hal HFd
      clear HAll HO h2 HRe hah k0 k1 g0
      go_wp2_with fail
      go_at_call 34
      refine (HRe2.out _).mono ?_
      rintro e w2 ⟨rfl, b2⟩
      obtain ⟨X, hX⟩ : ∃ X, X = w2.alloc (.cells #[.slice none 0 0, .int .i64 0, .slice ao l.length cap, .int .i64 ah, .int .i64 0, .int .i64 0, .slice none 0 0, .int .i64 0] 75) := ⟨_, rfl⟩
      have hbx : Below W0.heap.size W0 X := by rw [hX]; exact b2.alloc b2.size _
      have hfl : Ws.Fl W0.heap.size w2.heap.size X (.slice ao l.length cap) ah (.slice none 0 0) (.slice none 0 0) (Ws.start.A ++ Ws.start.Z) Ws.start.A.length Ws.start.came Ws.start.steps Ws.start.A.length Ws.start.told := ⟨b2.size, by rw [hX]; exact heap_alloc_new w2 _, World.ownsRow_nil _ _ _ _, [], rfl, World.ownsRow_nil _ _ _ _, fun p hp => by cases hp⟩
      have HBX : Hid (Below W0.heap.size W0 X) := hbx
      have HFX : Hid (∃ tv vt, Ws.Fl W0.heap.size w2.heap.size X (.slice ao l.length cap) ah tv vt (Ws.start.A ++ Ws.start.Z) Ws.start.A.length Ws.start.came Ws.start.steps Ws.start.A.length Ws.start.told) := ⟨_, _, hfl⟩
      have HXe : Hid (X = w2.alloc (.cells #[.slice none 0 0, .int .i64 0, .slice ao l.length cap, .int .i64 ah, .int .i64 0, .int .i64 0, .slice none 0 0, .int .i64 0] 75)) := hX
      clear hX hbx hfl b2 HRe2 HBa HB1 HX1
      go_wp2
      rw [← HXe.out]
      clear HXe
      generalize w2.heap.size = bs at *
      go_loopw [34] (fun i wr => ∃ (k : Nat) (s : Ws.St), k ≤ cs.length ∧ i = .int .i64 k ∧ Hid (∃ tv vt, Ws.Fl W0.heap.size bs wr (.slice ao l.length cap) ah tv vt (s.A ++ s.Z) s.A.length s.came s.steps s.A.length s.told) ∧ Hid (Below W0.heap.size W0 wr) ∧ Hid (Ws.feed l ah k (cs.drop k) s = (o1, o2, os)) ∧ Hid s.Ok ∧ s.told.length ≤ k) (fun i _ => cs.length - (RowKit.intOf i).toNat)
      case atStart => exact ⟨0, Ws.start, Nat.zero_le _, rfl, HFX, HBX, HFd, Ws.start_ok, by simp [Ws.start]⟩
      case round =>
        obtain ⟨k, s, hk, rfl, HFl, HBr, HGr, HOk, htl⟩ := hrel
        have hr := K.blk_below HW0.out.2.2.1 HBr.out
        by_cases hlt : k < cs.length
        · obtain ⟨c, hc⟩ : ∃ c, cs[k]? = some c := ⟨cs[k], by simp [hlt]⟩
          obtain ⟨co', cc', e', _, hcell⟩ := HR.out.2.1
          cases e'
          obtain ⟨b, off, rfl, hcl2⟩ := hcell (by intro h; subst h; simp at hlt)
          obtain ⟨u, hu, hRu⟩ := hcl2 k c hc
          have ku : wr.cell? ⟨b, off + k, none⟩ = some u := by rw [HBr.out.cell (p := ⟨b, off + k, none⟩) (L.block_lt hu)]; exact hu
          obtain ⟨uo, uc, rfl, _⟩ := id hRu
          obtain ⟨tv, vt, hfl⟩ := HFl.out
          have HTk : Hid (Calls Try.prog 35 #[.pointer (some ⟨bs, 0, none⟩), .slice uo c.length uc] wr fun e w' => e = .returned (.int .i64 (Ws.take l ah s c).1) ∧ Below W0.heap.size wr w' ∧ Ws.Took l W0.heap.size bs w' (.slice ao l.length cap) ah (Ws.take l ah s c).2 (Ws.take l ah s c).1) := wtake_any W0 _ l HR.out.1 hl2 HE.out wr HBr.out bs ah (by omega) tv vt s HOk.out hfl (by omega) _ c hRu (HR.out.2.2 c (List.mem_of_getElem? hc))
          have HGs : Hid (Ws.feed l ah k (cs.drop k) s = if (Ws.take l ah s c).1 = 0 then Ws.feed l ah (k + 1) (cs.drop (k + 1)) (Ws.take l ah s c).2 else ((Ws.take l ah s c).1, (k : Int), s)) := Ws.feed_drop hc
          have HTo : Hid ((Ws.take l ah s c).1 = 0 → (Ws.take l ah s c).2.Ok ∧ (Ws.take l ah s c).2.told.length = s.told.length + 1) := fun h => ⟨Ws.take_ok HOk.out h, Ws.take_told h⟩
          generalize Ws.take l ah s c = tk at *
          obtain ⟨e1, s2⟩ := tk
          simp only at HTk HGs HTo
          generalize c.length = n at *
          clear hu hRu hcell hcl2 hfl hc
          go_wp2_with fail
          go_at_call 35
          refine HTk.out.mono ?_
          rintro e w9 ⟨rfl, b9, t9⟩
          have HB9 : Hid (Below W0.heap.size W0 w9) := HBr.out.trans b9
          have HT9 : Hid (Ws.Took l W0.heap.size bs w9 (.slice ao l.length cap) ah s2 e1) := t9
          have hr9 := K.blk_below HW0.out.2.2.1 HB9.out
          clear b9 t9 HTk ku hr
          by_cases qe : e1 = 0
          · subst qe
            have hg := HGs.out
            rw [if_pos rfl, HGr.out] at hg
            have HG2 : Hid (Ws.feed l ah (k + 1) (cs.drop (k + 1)) s2 = (o1, o2, os)) := hg.symm
            have hto := HTo.out rfl
            have HO2 : Hid s2.Ok := hto.1
            have hl9 : s2.told.length ≤ k + 1 := by omega
            have HF9 : Hid (∃ tv vt, Ws.Fl W0.heap.size bs w9 (.slice ao l.length cap) ah tv vt (s2.A ++ s2.Z) s2.A.length s2.came s2.steps s2.A.length s2.told) := HT9.out rfl
            clear hg hto HT9 HGs HTo HGr hr9
            go_wp2
            go_roundw
            case rel => exact ⟨k + 1, s2, by omega, by go_num, HF9, HB9, HG2, HO2, hl9⟩
            case measure => simp [RowKit.intOf]; omega
          · have hg := HGs.out
            rw [if_neg qe, HGr.out] at hg
            simp only [Prod.mk.injEq] at hg
            obtain ⟨rfl, rfl, rfl⟩ := hg
            obtain ⟨x0, x1, f0, f1⟩ := K.box2 hr9
            clear HT9 HGs HTo HGr hr9
            go_wp2
            refine bodyPost_ret (v := .tuple #[.pointer none, .agg #[.int .i64 o1, .int .i64 k]]) (by simp [results, Try.results22, go_sem, *]) rfl ?_
            exact ⟨_, rfl, ((HWw.out _ HB9.out).setCell (p := ⟨w.heap.size, 0, none⟩) (Nat.le_refl _) _).setCell (p := ⟨w.heap.size, 1, none⟩) (Nat.le_refl _) _, .inl ⟨qe, rfl⟩⟩
        · have hkl : k = cs.length := by omega
          subst hkl
          have hg := HGr.out
          rw [List.drop_length] at hg
          have hg2 : ((0 : Int), (0 : Int), s) = (o1, o2, os) := hg
          simp only [Prod.mk.injEq] at hg2
          obtain ⟨rfl, rfl, rfl⟩ := hg2
          have HIdle : Hid (Below wr.heap.size wr ((wr.setCell ⟨w.heap.size, 0, none⟩ (.int .i64 0)).setCell ⟨w.heap.size, 1, none⟩ (.int .i64 0))) := Ws.idle hr
          obtain ⟨x0, x1, f0, f1⟩ := K.box2 hr
          clear hg hr HGr
          go_wp2
          refine bodyPost_ret (v := .tuple #[.pointer (some ⟨bs, 0, none⟩), .agg #[.int .i64 0, .int .i64 0]]) (by simp [results, Try.results22, go_sem, *]) rfl ?_
          obtain ⟨tv, vt, hfl⟩ := HFl.out
          have hb := HBr.out.trans (HIdle.out.mono HBr.out.size)
          rw [HAh.out] at hfl
          exact ⟨_, rfl, HWw.out _ hb, .inr ⟨rfl, rfl, HE.out, hl2, HOk.out, by simp only; omega, bs, tv, vt, rfl, hb, hfl.below HIdle.out⟩⟩
  · have h2 : Ws.all l (K.ahead l) cs = (r1, r2, Ws.start) := by
      unfold Ws.all
      rw [HRu.out, if_pos q]
    rw [HO.out] at h2
    simp only [Prod.mk.injEq] at h2
    obtain ⟨rfl, rfl, rfl⟩ := h2
    clear HO
    go_wp2
    go_region
    go_wp2
    refine bodyPost_ret (v := .tuple #[.pointer none, .agg #[.int .i64 o1, .int .i64 o2]]) (by simp [results, Try.results22, go_sem, *]) rfl ?_
    exact ⟨_, rfl, (((HWw.out _ (HBa.out _)).setCell (p := ⟨w.heap.size, 0, none⟩) (Nat.le_refl _) _).setCell (p := ⟨w.heap.size, 1, none⟩) (Nat.le_refl _) _).drew, .inl ⟨q, rfl⟩⟩

end Go.Proofs.Ytackaadejnbfmaa

/-
  stream.Feed, stream.Wait: what the program answers.
-/
namespace Go.Proofs.Ytackaadejnbfmaa
open Go.RowKit Go.Lib
set_option maxRecDepth 20000
set_option linter.unusedSimpArgs false
set_option linter.unusedVariables false

set_option maxHeartbeats 8000000 in
theorem wFeed_any (w : World) (vl : Value) (l : List K.Rule) (R0 : V.Rus w vl l) (vc : Value) (cs : List (List Int)) (Rc : Ws.Rd w vc cs) (hcs : ∀ c ∈ cs, c.length ≤ 140737488355328) (hcl : cs.length ≤ 140737488355328) (ts : List (List Int)) (f1 f2 : Int) (hFF : Ws.feedF l (K.ahead l) cs = (ts, f1, f2)) :
    Calls Try.prog 10 #[vl, vc] w fun e w' => ∃ v', e = .returned (.tuple #[v', .agg #[.int .i64 f1, .int .i64 f2]]) ∧ Ws.Rd w' v' ts ∧ Below w.heap.size w w' := by
  obtain ⟨W, hW⟩ : ∃ W, W = w.alloc (.cells #[.int .i64 0, .int .i64 0] 28) := ⟨_, rfl⟩
  have hA0 : Below w.heap.size w W := by rw [hW]; exact (Below.refl _ w).alloc (Nat.le_refl _) _
  have hsz : W.heap.size = w.heap.size + 1 := by rw [hW]; simp
  have hr0 : W.heap[w.heap.size]? = some (.cells #[.int .i64 0, .int .i64 0] 28) := by rw [hW]; exact heap_alloc_new w _
  obtain ⟨Vw, hV⟩ : ∃ Vw, Vw = W.alloc (.cells #[.int .i64 0, .int .i64 0] 28) := ⟨_, rfl⟩
  have hWV : Below W.heap.size W Vw := by rw [hV]; exact (Below.refl _ W).alloc (Nat.le_refl _) _
  have hVs : Vw.heap.size = w.heap.size + 2 := by rw [hV]; simp; omega
  have hrV : Vw.heap[w.heap.size]? = some (.cells #[.int .i64 0, .int .i64 0] 28) := K.blk_below hr0 hWV
  have HRV : Hid (V.Rus Vw vl l) := (R0.below hA0).below hWV
  obtain ⟨⟨o1, o2, s⟩, hO⟩ : ∃ o, Ws.all l (K.ahead l) cs = o := ⟨_, rfl⟩
  have HFe : Hid (∀ Y, Y = W → Calls Try.prog 22 #[vl, vc] Y fun e w' => ∃ fp, e = .returned (.tuple #[fp, .agg #[.int .i64 o1, .int .i64 o2]]) ∧ Ws.Fed W Vw w' vl l (o1, o2, s) fp) := fun Y hY => by
    rw [hY, hV]; exact wfeed_any W vl l (R0.below hA0) vc cs (Rc.below hA0) hcs hcl o1 o2 s hO
  have hff := hFF
  unfold Ws.feedF at hff
  rw [hO] at hff
  simp only at hff
  have HFF : Hid (_ = _) := hff
  have HW : Hid (W = w.alloc (.cells #[.int .i64 0, .int .i64 0] 28) ∧ Below w.heap.size w W ∧ W.heap.size = w.heap.size + 1 ∧ W.heap[w.heap.size]? = some (.cells #[.int .i64 0, .int .i64 0] 28)) := ⟨hW, hA0, hsz, hr0⟩
  have HV : Hid (Vw.heap.size = w.heap.size + 2 ∧ Vw.heap[w.heap.size]? = some (.cells #[.int .i64 0, .int .i64 0] 28) ∧ Below w.heap.size w Vw) := ⟨hVs, hrV, hA0.trans (hWV.mono (by omega))⟩
  obtain ⟨ao, cap, rfl⟩ := R0.len
  obtain ⟨co, cc, rfl, _⟩ := Rc
  clear hff hFF hO hW hA0 hsz hr0 hV hWV hVs hrV R0 hcs
  go_enter Try.func10, Try.ntmps10
  go_wp2_with fail
  go_at_call 22
  refine (HFe.out _ HW.out.1.symm).mono ?_
  rintro e w1 ⟨fp, rfl, hb1, ⟨q, rfl⟩ | ⟨q, q2, hE, hl2, hok, htl, bs, tv, vt, rfl, hbV, hfl⟩⟩
  · have hq : ¬ o1 = 0 := q
    have hff := HFF.out
    rw [if_pos hq] at hff
    simp only [Prod.mk.injEq] at hff
    obtain ⟨rfl, rfl, rfl⟩ := hff
    have h1 := K.blk_below HW.out.2.2.2 hb1
    have hs1 : w.heap.size + 1 ≤ w1.heap.size := lt_of_block h1
    have HB1 : Hid (Below w.heap.size w w1) := HW.out.2.1.trans (hb1.mono (by have := HW.out.2.2.1; omega))
    have HBa : Hid (∀ o, Below w.heap.size w (w1.alloc o)) := fun o => HB1.out.alloc (by omega) o
    obtain ⟨x0, x1, f0, f1'⟩ := K.box2 h1
    have k0 : ∀ o, (w1.alloc o).cell? ⟨w.heap.size, 0, none⟩ = some (.int .i64 0) := fun o => K.alloc_cell x0 o
    have k1 : ∀ o, (w1.alloc o).cell? ⟨w.heap.size, 1, none⟩ = some (.int .i64 0) := fun o => K.alloc_cell x1 o
    have g0 : ∀ o i, (w1.alloc o).frozen? ⟨w.heap.size, i, none⟩ = false := fun o i => K.alloc_free h1 o i
    clear hb1 HFe HFF h1 x0 x1 f0 f1' q
    go_wp2
    go_region
    go_wp2
    refine bodyPost_ret (v := .tuple #[.slice none 0 0, .agg #[.int .i64 o1, .int .i64 o2]]) (by simp [results, Try.results10, go_sem, *]) rfl ?_
    exact ⟨_, rfl, ⟨none, 0, rfl, fun _ => rfl, fun h => absurd rfl h⟩, (((HBa.out _).setCell (p := ⟨w.heap.size, 0, none⟩) (Nat.le_refl _) _).setCell (p := ⟨w.heap.size, 1, none⟩) (Nat.le_refl _) _).drew⟩
  · simp only at q q2
    subst q q2
    have hff := HFF.out
    rw [if_neg (by simp)] at hff
    have hs1 : w.heap.size + 2 ≤ w1.heap.size := by have := hbV.size; have := HV.out.1; omega
    obtain ⟨⟨e1, ts'⟩, hfin⟩ : ∃ o, Ws.finish l (K.ahead l) s = o := ⟨_, rfl⟩
    have HFn : Hid (∀ o, Calls Try.prog 23 #[.pointer (some ⟨bs, 0, none⟩)] (w1.alloc o) fun e w' => e = .returned (.int .i64 e1) ∧ Below Vw.heap.size Vw w' ∧ (e1 = 0 → ∃ vt, w'.cell? ⟨bs, 6, none⟩ = some vt ∧ Ws.Own Vw.heap.size w' vt ts')) := fun o => by
      have hal : Below w1.heap.size w1 (w1.alloc o) := (Below.refl _ w1).alloc (Nat.le_refl _) o
      have hb2 := hbV.trans (hal.mono hbV.size)
      refine (wfinish_any Vw _ l HRV.out hl2 hE (w1.alloc o) hb2 bs (K.ahead l) tv vt s hok (hfl.below hal) (by have := htl; simp only at this; omega)).mono ?_
      rw [hfin]
      rintro e w' ⟨rfl, h2, h3⟩
      refine ⟨rfl, hb2.trans h2, fun h => ?_⟩
      obtain ⟨A, Z, tv, vt, st, up, hf⟩ := h3 h
      exact ⟨vt, K.at_box (i := 6) hf.box rfl, hf.told.own⟩
    rw [hfin] at hff
    simp only at hff
    have HFF2 : Hid (_ = _) := hff
    clear hff HFF HFe hfin hb1 hbV hfl hok hE
    go_wp2_with fail
    go_at_call 23
    refine (HFn.out _).mono ?_
    rintro e w2 ⟨rfl, b2, hown⟩
    have h2 := K.blk_below HV.out.2.1 b2
    obtain ⟨x0, x1, f0, f1'⟩ := K.box2 h2
    have HB2 : Hid (Below w.heap.size w w2 ∧ Below Vw.heap.size Vw w2) := ⟨HV.out.2.2.trans (b2.mono (by have := HV.out.1; omega)), b2⟩
    have HOw : Hid (e1 = 0 → ∃ vt, w2.cell? ⟨bs, 6, none⟩ = some vt ∧ Ws.Own Vw.heap.size w2 vt ts') := hown
    have HBox : Hid (w2.heap[w.heap.size]? = some (.cells #[.int .i64 0, .int .i64 0] 28)) := h2
    clear b2 hown h2 HFn
    by_cases qe : e1 = 0
    · subst qe
      have hff := HFF2.out
      rw [if_neg (by simp)] at hff
      simp only [Prod.mk.injEq] at hff
      obtain ⟨rfl, rfl, rfl⟩ := hff
      obtain ⟨vt2, k6, ow⟩ := HOw.out rfl
      have HOw2 : Hid (Ws.Own Vw.heap.size w2 vt2 ts') := ow
      obtain ⟨to_, tc_, rfl⟩ := ow.len
      clear HOw HFF2 ow
      go_wp2
      refine bodyPost_ret (v := .tuple #[.slice to_ ts'.length tc_, .agg #[.int .i64 0, .int .i64 0]]) (by simp [results, Try.results10, go_sem, *]) rfl ?_
      have hid := Ws.idle HBox.out
      exact ⟨_, rfl, HOw2.out.rd.below hid, HB2.out.1.trans (hid.mono HB2.out.1.size)⟩
    · have hff := HFF2.out
      rw [if_pos qe] at hff
      simp only [Prod.mk.injEq] at hff
      obtain ⟨rfl, rfl, rfl⟩ := hff
      clear HOw HFF2
      go_wp2
      refine bodyPost_ret (v := .tuple #[.slice none 0 0, .agg #[.int .i64 e1, .int .i64 cs.length]]) (by simp [results, Try.results10, go_sem, *]) rfl ?_
      exact ⟨_, rfl, ⟨none, 0, rfl, fun _ => rfl, fun h => absurd rfl h⟩, (HB2.out.1.setCell (p := ⟨w.heap.size, 0, none⟩) (Nat.le_refl _) _).setCell (p := ⟨w.heap.size, 1, none⟩) (Nat.le_refl _) _⟩

set_option maxHeartbeats 8000000 in
theorem wWait_any (w : World) (vl : Value) (l : List K.Rule) (R0 : V.Rus w vl l) (vc : Value) (cs : List (List Int)) (Rc : Ws.Rd w vc cs) (hcs : ∀ c ∈ cs, c.length ≤ 140737488355328) (hcl : cs.length ≤ 140737488355328) (n f1 f2 : Int) (hFF : Ws.waitF l (K.ahead l) cs = (n, f1, f2)) :
    Calls Try.prog 12 #[vl, vc] w fun e w' => e = .returned (.tuple #[.int .i64 n, .agg #[.int .i64 f1, .int .i64 f2]]) ∧ Below w.heap.size w w' := by
  obtain ⟨W, hW⟩ : ∃ W, W = w.alloc (.cells #[.int .i64 0, .int .i64 0] 28) := ⟨_, rfl⟩
  have hA0 : Below w.heap.size w W := by rw [hW]; exact (Below.refl _ w).alloc (Nat.le_refl _) _
  have hsz : W.heap.size = w.heap.size + 1 := by rw [hW]; simp
  have hr0 : W.heap[w.heap.size]? = some (.cells #[.int .i64 0, .int .i64 0] 28) := by rw [hW]; exact heap_alloc_new w _
  obtain ⟨⟨o1, o2, s⟩, hO⟩ : ∃ o, Ws.all l (K.ahead l) cs = o := ⟨_, rfl⟩
  have HFe : Hid (∀ Y, Y = W → Calls Try.prog 22 #[vl, vc] Y fun e w' => ∃ fp, e = .returned (.tuple #[fp, .agg #[.int .i64 o1, .int .i64 o2]]) ∧ Ws.Fed W (W.alloc (.cells #[.int .i64 0, .int .i64 0] 28)) w' vl l (o1, o2, s) fp) := fun Y hY => by
    rw [hY]; exact wfeed_any W vl l (R0.below hA0) vc cs (Rc.below hA0) hcs hcl o1 o2 s hO
  have hff := hFF
  unfold Ws.waitF at hff
  rw [hO] at hff
  simp only at hff
  have HFF : Hid (_ = _) := hff
  have HW : Hid (W = w.alloc (.cells #[.int .i64 0, .int .i64 0] 28) ∧ Below w.heap.size w W ∧ W.heap.size = w.heap.size + 1 ∧ W.heap[w.heap.size]? = some (.cells #[.int .i64 0, .int .i64 0] 28)) := ⟨hW, hA0, hsz, hr0⟩
  obtain ⟨ao, cap, rfl⟩ := R0.len
  obtain ⟨co, cc, rfl, _⟩ := Rc
  clear hff hFF hO hW hA0 hsz hr0 R0 hcs
  go_enter Try.func12, Try.ntmps12
  go_wp2_with fail
  go_at_call 22
  refine (HFe.out _ HW.out.1.symm).mono ?_
  rintro e w1 ⟨fp, rfl, hb1, hor⟩
  have h1 := K.blk_below HW.out.2.2.2 hb1
  have hs1 : w.heap.size + 1 ≤ w1.heap.size := lt_of_block h1
  have HB1 : Hid (Below w.heap.size w w1) := HW.out.2.1.trans (hb1.mono (by have := HW.out.2.2.1; omega))
  have HBa : Hid (∀ o, Below w.heap.size w (w1.alloc o)) := fun o => HB1.out.alloc (by omega) o
  obtain ⟨x0, x1, f0, f1'⟩ := K.box2 h1
  have k0 : ∀ o, (w1.alloc o).cell? ⟨w.heap.size, 0, none⟩ = some (.int .i64 0) := fun o => K.alloc_cell x0 o
  have k1 : ∀ o, (w1.alloc o).cell? ⟨w.heap.size, 1, none⟩ = some (.int .i64 0) := fun o => K.alloc_cell x1 o
  have g0 : ∀ o i, (w1.alloc o).frozen? ⟨w.heap.size, i, none⟩ = false := fun o i => K.alloc_free h1 o i
  clear hb1 HFe h1 x0 x1 f0 f1'
  rcases hor with ⟨q, rfl⟩ | ⟨q, q2, hE, hl2, hok, htl, bs, tv, vt, rfl, hbV, hfl⟩
  · have hq : ¬ o1 = 0 := q
    have hff := HFF.out
    rw [if_pos hq] at hff
    simp only [Prod.mk.injEq] at hff
    obtain ⟨rfl, rfl, rfl⟩ := hff
    clear HFF q
    go_wp2
    go_region
    go_wp2
    refine bodyPost_ret (v := .tuple #[.int .i64 0, .agg #[.int .i64 o1, .int .i64 o2]]) (by simp [results, Try.results12, go_sem, *]) rfl ?_
    exact ⟨rfl, (((HBa.out _).setCell (p := ⟨w.heap.size, 0, none⟩) (Nat.le_refl _) _).setCell (p := ⟨w.heap.size, 1, none⟩) (Nat.le_refl _) _).drew⟩
  · simp only at q q2
    subst q q2
    have hff := HFF.out
    rw [if_neg (by simp)] at hff
    simp only [Prod.mk.injEq] at hff
    obtain ⟨rfl, rfl, rfl⟩ := hff
    obtain ⟨ro, rc, rfl⟩ := hfl.slice
    have hfew := hok.few
    simp only at hfew hfl
    obtain ⟨A, Z, came, steps, ts⟩ := s
    simp only at hfew hfl
    have hlen : (A ++ Z).length = A.length + Z.length := List.length_append
    obtain ⟨NN, hNN⟩ : ∃ NN, NN = (A ++ Z).length := ⟨_, rfl⟩
    have y0 : ∀ o, (w1.alloc o).cell? ⟨bs, 0, none⟩ = some (.slice ro NN rc) := fun o => K.alloc_cell (by rw [hNN]; exact K.at_box (i := 0) hfl.box rfl) o
    have y1 : ∀ o, (w1.alloc o).cell? ⟨bs, 1, none⟩ = some (.int .i64 A.length) := fun o => K.alloc_cell (K.at_box (i := 1) hfl.box rfl) o
    have hne : bs ≠ w.heap.size := by
      have h1 := hfl.hF
      have h2 := HW.out.2.2.1
      simp at h1
      omega
    have hbl : bs < w1.heap.size := lt_of_block hfl.box
    have HNN : Hid (NN = A.length + Z.length) := hNN.trans hlen
    have hn4 : NN ≤ 4000 := by omega
    have ha4 : A.length ≤ 4000 := by omega
    clear HFF hbV hfl hok hE hlen hNN htl
    go_wp2
    go_region
    go_wp2
    refine bodyPost_ret (v := .tuple #[.int .i64 (Z.length : Int), .agg #[.int .i64 0, .int .i64 0]]) ?_ rfl ?_
    · have e1 : (NN : Int) - (A.length : Int) = (Z.length : Int) := by have := HNN.out; omega
      simp [results, Try.results12, go_sem, *]
    · exact ⟨rfl, (((HBa.out _).setCell (p := ⟨w.heap.size, 0, none⟩) (Nat.le_refl _) _).setCell (p := ⟨w.heap.size, 1, none⟩) (Nat.le_refl _) _).drew⟩

end Go.Proofs.Ytackaadejnbfmaa
