/-
  A file that is read: as many items as come.
-/
import Derived.Test.YtajbcgobfkaahaaGreatDoorRRd4
namespace Go.Proofs.YtajbcgobfkaahaaGreatDoor
open Go.RowKit
set_option maxRecDepth 20000
set_option linter.unusedSimpArgs false

theorem item_len {l : List Int} {p q : Nat} {ys : List R.Item} (h : R.item l p = .ok (some ys) q) : ys.length ≤ l.length + 1 := by
  unfold R.item at h
  split at h
  · cases h1 : T.setN 20 l p with
    | bad e r => rw [h1] at h; cases h
    | ok s r => rw [h1] at h; cases h; simp
  · split at h
    · cases h1 : R.varAt l p with
      | bad e r => rw [h1] at h; cases h
      | ok s r => rw [h1] at h; cases h; simp
    · split at h
      · split at h
        · cases h
          rw [List.length_map]
          unfold T.cut
          rw [List.length_take, List.length_drop]
          omega
        · cases h
      · split at h
        · cases h1 : T.chr l p with
          | bad e r => rw [h1] at h; cases h
          | ok s r =>
            rw [h1] at h
            simp only at h
            split at h
            · cases h; simp
            · cases h
        · cases h
theorem item_none {l : List Int} {p q : Nat} (h : R.item l p = .ok none q) : q = p := by
  unfold R.item at h
  split at h
  · cases h1 : T.setN 20 l p with
    | bad e r => rw [h1] at h; cases h
    | ok s r => rw [h1] at h; cases h
  · split at h
    · cases h1 : R.varAt l p with
      | bad e r => rw [h1] at h; cases h
      | ok s r => rw [h1] at h; cases h
    · split at h
      · split at h <;> cases h
      · split at h
        · cases h1 : T.chr l p with
          | bad e r => rw [h1] at h; cases h
          | ok s r =>
            rw [h1] at h
            simp only at h
            split at h <;> cases h
        · cases h; rfl

/-- items, where they begin, and the cursor among them -/
def R.isList (b F : Nat) (x : List R.Item × Int) (v : Value) (w : World) : Prop :=
  ∃ vo vc, v = .agg #[.int .i64 b, .slice vo x.1.length vc, .int .i64 x.2] ∧ R.Stays F none w (fun w' => R.Its w' (.slice vo x.1.length vc) x.1) ∧ x.1.length ≤ 20 ∧ -1 ≤ x.2 ∧ x.2 ≤ 20

set_option maxHeartbeats 8000000 in
theorem items_any (hK : T.ClassOk) (w : World) (cb tb cap p : Nat) (ao : Option Addr) (l : List Int) (C : T.Cur w cb tb cap ao l p) :
    Calls Tryz.prog 108 #[.pointer (some ⟨cb, 0, none⟩)] w (T.Ends w cb tb cap ao l (R.items l p) (R.isList p w.heap.size)) := by
  have hlen := C.len
  have hple := C.le
  have c1 := C.cell1
  obtain ⟨he1, he2⟩ := C.elder
  have HE2 : Hid (l ≠ [] → tb < w.heap.size) := he2
  have HK : Hid T.ClassOk := hK
  have HC : Hid (T.Cur w cb tb cap ao l p) := C
  clear C he2 hK
  obtain ⟨o, HO⟩ : ∃ o, Hid (R.items l p = o) := ⟨_, rfl⟩
  rw [HO.out]
  have n1 : ¬ w.heap.size = cb := by omega
  have n2 : ¬ w.heap.size + 1 = cb := by omega
  go_enter Tryz.func108, Tryz.ntmps108
  go_wp2_with fail
  have bA := (Below.refl _ w).alloc (Nat.le_refl _) (.cells #[.int .i64 0, .slice none 0 0, .int .i64 0] 150)
  have x2 : (w.alloc (.cells #[.int .i64 0, .slice none 0 0, .int .i64 0] 150)).heap[w.heap.size]? = some (.cells #[.int .i64 0, .slice none 0 0, .int .i64 0] 150) := heap_alloc_new w _
  have hsz : (w.alloc (.cells #[.int .i64 0, .slice none 0 0, .int .i64 0] 150)).heap.size = w.heap.size + 1 := by simp
  have x3 := heap_alloc_new (w.alloc (.cells #[.int .i64 0, .slice none 0 0, .int .i64 0] 150)) (.cells #[.int .i64 p, .slice none 0 0, .int .i64 (-1)] 150)
  have bB := (Below.refl _ (w.alloc (.cells #[.int .i64 0, .slice none 0 0, .int .i64 0] 150))).alloc (Nat.le_refl _) (.cells #[.int .i64 p, .slice none 0 0, .int .i64 (-1)] 150)
  have x2' := R.blk_below x2 bB
  have bW := bA.trans (bB.mono (by rw [hsz]; omega))
  rw [hsz] at x3
  have CW := HC.out.below bW
  have GW : w.grownBy _ (some cb) := S.grown_below bW
  refine (between_any _ cb tb cap p ao l CW).mono ?_
  generalize (w.alloc (.cells #[.int .i64 0, .slice none 0 0, .int .i64 0] 150)).alloc (.cells #[.int .i64 p, .slice none 0 0, .int .i64 (-1)] 150) = W0 at x3 bB x2' bW CW GW
  clear bA bB bW CW x2 hsz c1
  rintro e w1 ⟨rfl, C1, g1⟩
  have HX2 : Hid (w1.heap[w.heap.size]? = some (.cells #[.int .i64 0, .slice none 0 0, .int .i64 0] 150)) := R.blk_grown x2' g1 n1
  have HX3 : Hid (w1.heap[w.heap.size + 1]? = some (.cells #[.int .i64 p, .slice none 0 0, .int .i64 (-1)] 150)) := R.blk_grown x3 g1 n2
  have HC1 : Hid (T.Cur w1 cb tb cap ao l (R.gap l p)) := C1
  have HG1 : Hid (w.grownBy w1 (some cb)) := S.grown_trans GW g1
  clear x2' x3 GW C1 g1
  go_wp2
  go_loopw [25] (fun _ wr => ∃ (p' q f : Nat) (xs : List R.Item) (c : Int) (vo : Option Addr) (vc : Nat), Hid (R.gap l p' = q) ∧ Hid (l.length < p' + f) ∧ Hid (R.itemsN f l xs c p' = o) ∧ xs.length ≤ 20 ∧ -1 ≤ c ∧ c ≤ 20 ∧ Hid (wr.heap[w.heap.size + 1]? = some (.cells #[.int .i64 p, .slice vo xs.length vc, .int .i64 c] 150)) ∧ Hid (wr.heap[w.heap.size]? = some (.cells #[.int .i64 0, .slice none 0 0, .int .i64 0] 150)) ∧ Hid (R.RowI (w.heap.size + 2) wr (.slice vo xs.length vc) xs) ∧ Hid (T.Cur wr cb tb cap ao l q) ∧ Hid (w.grownBy wr (some cb))) (fun _ wr => l.length - T.pos wr cb)
  case atStart => exact ⟨p, _, l.length + 2, [], -1, none, 0, rfl, by show _ < _; omega, by show _ = _; rw [← HO.out]; rfl, by simp, by omega, by omega, HX3, HX2, R.Row.nil _ _, HC1, HG1⟩
  case round =>
    obtain ⟨p', q, f, xs, c, vo, vc, HQ, HF, HN, hxl, hc1, hc2, HX3, HX2, HR, HCq, HG⟩ := hrel
    have HPos : Hid _ := HCq.out.pos
    have hql := HCq.out.le
    have cq := HCq.out.cell1
    have hpq : p' ≤ q := by have := R.gap_ge l p'; have := HQ.out; omega
    obtain ⟨f, rfl⟩ : ∃ g, f = g + 1 := ⟨f - 1, by have := HF.out; omega⟩
    go_wp2_with fail
    refine (skip_any _ cb tb cap q ao l 124 (by decide) HCq.out).mono ?_
    rintro e w4 ⟨rfl, C4, g4⟩
    have HG4 : Hid (w.grownBy w4 (some cb)) := S.grown_trans HG.out g4
    have x43 := R.blk_grown HX3.out g4 n2
    have HX43 : Hid (w4.heap[w.heap.size + 1]? = some (.cells #[.int .i64 p, .slice vo xs.length vc, .int .i64 c] 150)) := x43
    have HX42 : Hid (w4.heap[w.heap.size]? = some (.cells #[.int .i64 0, .slice none 0 0, .int .i64 0] 150)) := R.blk_grown HX2.out g4 n1
    have HR4 : Hid (R.RowI (w.heap.size + 2) w4 (.slice vo xs.length vc) xs) := R.Row.cur HR.out g4 (by omega)
    clear g4 cq
    by_cases h124 : T.see l q = 124
    · rw [if_pos h124] at C4
      have HC4 : Hid (T.Cur w4 cb tb cap ao l (q + 1)) := C4
      clear C4
      have a1 := R.at_box' (i := 1) x43 rfl
      have a2 := R.at_box' (i := 2) x43 rfl
      have z2 := R.free_box (i := 2) x43
      clear x43
      by_cases hc0 : 0 ≤ c
      · have hcc : ¬ c < 0 := by omega
        go_wp2_with (go_at_call 23; refine (fail_any _ 5 q).mono ?_; unfold T.thrown; rintro e w5 ⟨rfl, rfl⟩)
        refine ⟨rfl, ?_⟩
        rw [← HN.out, R.itemsN, HQ.out, if_pos h124, if_pos hc0]
        exact ⟨rfl, HG4.out⟩
      · have hcc : c < 0 := by omega
        have gS : w4.grownBy (w4.setCell ⟨w.heap.size + 1, 2, none⟩ (.int .i64 xs.length)) (some (w.heap.size + 1)) := R.grown_set _ _ _ _
        have HC5 : Hid (T.Cur (w4.setCell ⟨w.heap.size + 1, 2, none⟩ (.int .i64 xs.length)) cb tb cap ao l (q + 1)) := HC4.out.apart gS n2 (fun h => by have := HE2.out h; omega)
        have HX53 : Hid ((w4.setCell ⟨w.heap.size + 1, 2, none⟩ (.int .i64 xs.length)).heap[w.heap.size + 1]? = some (.cells #[.int .i64 p, .slice vo xs.length vc, .int .i64 xs.length] 150)) := heap_setCell_same w4 (w.heap.size + 1) 2 _ 150 _ HX43.out
        have HX52 : Hid ((w4.setCell ⟨w.heap.size + 1, 2, none⟩ (.int .i64 xs.length)).heap[w.heap.size]? = some (.cells #[.int .i64 0, .slice none 0 0, .int .i64 0] 150)) := R.blk_grown HX42.out gS (by omega)
        have HR5 : Hid (R.RowI (w.heap.size + 2) (w4.setCell ⟨w.heap.size + 1, 2, none⟩ (.int .i64 xs.length)) (.slice vo xs.length vc) xs) := R.Row.cur HR4.out gS (by omega)
        have HG5 : Hid (w.grownBy (w4.setCell ⟨w.heap.size + 1, 2, none⟩ (.int .i64 xs.length)) (some cb)) := R.grown_new HG4.out gS (by omega)
        clear gS
        go_wp2_with fail
        refine (between_any _ cb tb cap (q + 1) ao l HC5.out).mono ?_
        rintro e w6 ⟨rfl, C6, g6⟩
        have HC6 : Hid (T.Cur w6 cb tb cap ao l (R.gap l (q + 1))) := C6
        have HX63 := R.blk_grown HX53.out g6 n2
        have HX62 := R.blk_grown HX52.out g6 n1
        have HR6 := R.Row.cur HR5.out g6 (show cb < w.heap.size + 2 by omega)
        have HG6 := S.grown_trans HG5.out g6
        have HY : Hid _ := And.intro HX63 (And.intro HX62 (And.intro HR6 HG6))
        have hge := R.gap_ge l (q + 1)
        clear C6 g6 HX63 HX62 HR6 HG6 HC5 HX53 HX52 HR5 HG5 a1 a2 z2
        go_wp2
        go_roundw
        case rel => exact ⟨q + 1, _, f, xs, xs.length, vo, vc, rfl, by have := HF.out; show _ < _; omega, by show _ = _; rw [← HN.out, R.itemsN, HQ.out, if_pos h124, if_neg (by omega)], hxl, by omega, by omega, HY.out.1, HY.out.2.1, HY.out.2.2.1, HC6, HY.out.2.2.2⟩
        case measure =>
          rw [HC6.out.pos, HPos.out]
          have := HC6.out.le
          omega
    · rw [if_neg h124] at C4
      have HC4 : Hid (T.Cur w4 cb tb cap ao l q) := C4
      clear C4 x43
      go_wp2_with fail
      refine (item_any HK.out _ cb tb cap q ao l HC4.out).mono ?_
      intro e w5 h
      cases hc : R.item l q with
      | bad er r =>
        rw [hc] at h
        obtain ⟨rfl, g5⟩ := h
        unfold T.thrown
        go_wp2
        refine ⟨rfl, ?_⟩
        rw [← HN.out, R.itemsN, HQ.out, if_neg h124, hc]
        exact ⟨rfl, S.grown_trans HG4.out g5⟩
      | ok yo r =>
        rw [hc] at h
        obtain ⟨v5, rfl, hv5, C5, g5⟩ := h
        have x53 := R.blk_grown HX43.out g5 n2
        have x52 := R.blk_grown HX42.out g5 n1
        have HX53 : Hid (w5.heap[w.heap.size + 1]? = some (.cells #[.int .i64 p, .slice vo xs.length vc, .int .i64 c] 150)) := x53
        have HX52 : Hid (w5.heap[w.heap.size]? = some (.cells #[.int .i64 0, .slice none 0 0, .int .i64 0] 150)) := x52
        have HR5 : Hid (R.RowI (w.heap.size + 2) w5 (.slice vo xs.length vc) xs) := R.Row.cur HR4.out g5 (by omega)
        have HG5 : Hid (w.grownBy w5 (some cb)) := S.grown_trans HG4.out g5
        have HC5 : Hid (T.Cur w5 cb tb cap ao l r) := C5
        have HHc : Hid _ := hc
        have a0 := R.at_box' (i := 0) x53 rfl
        have a1 := R.at_box' (i := 1) x53 rfl
        have a2 := R.at_box' (i := 2) x53 rfl
        clear C5 g5 hc
        cases yo with
        | none =>
          unfold R.isItems at hv5
          simp only at hv5
          subst hv5
          have r0 := R.at_box' (i := 0) x52 rfl
          have r1 := R.at_box' (i := 1) x52 rfl
          have r2 := R.at_box' (i := 2) x52 rfl
          have s0 := R.free_box (i := 0) x52
          have s1 := R.free_box (i := 1) x52
          have s2 := R.free_box (i := 2) x52
          clear x52 x53
          go_wp2
          obtain ⟨hbx, hgr⟩ := R.put3 HX52.out (.int .i64 p) (.slice vo xs.length vc) (.int .i64 c)
          refine bodyPost_ret (R.ret_cell rfl _ _ w.heap.size #[.int .i64 p, .slice vo xs.length vc, .int .i64 c] hbx Tryz.underlying150 (by kernel_rfl) rfl) rfl ?_
          rw [← HN.out, R.itemsN, HQ.out, if_neg h124, HHc.out]
          exact ⟨_, rfl, ⟨vo, vc, rfl, ((R.RowI.its HR5.out).apart hgr (by omega)).down (by omega), hxl, hc1, hc2⟩, HC5.out.apart hgr n1 (fun h => by have := HE2.out h; omega), R.grown_new HG5.out hgr (Nat.le_refl _)⟩
        | some ys =>
          obtain ⟨vs, hvs, hry⟩ := hv5
          subst hvs
          have hyl := item_len HHc.out
          have hlt := item_lt HHc.out
          have HY5 : Hid (R.RowI w4.heap.size w5 vs ys) := hry
          obtain ⟨yo, yc, hvy⟩ := R.Row.slice hry
          subst hvy
          have hlr := R.Row.lt HR4.out
          have HLr : Hid _ := hlr
          obtain ⟨zs, HZs⟩ : ∃ zs, Hid (xs ++ ys = zs) := ⟨_, rfl⟩
          have hzl : zs.length = xs.length + ys.length := by rw [← HZs.out, List.length_append]
          have HZl : Hid (zs.length = xs.length + ys.length) := hzl
          have hF45 : w.heap.size + 2 ≤ w4.heap.size := by
            have := (Array.getElem?_eq_some_iff.1 HX43.out).1
            omega
          have hF5 : w.heap.size + 2 ≤ w5.heap.size := by
            have := (Array.getElem?_eq_some_iff.1 x53).1
            omega
          clear hry hlr x52 x53 hzl
          by_cases hbig : 20 < zs.length
          · go_wp2_with (first
              | (at_builtin; refine R.list_add R.elemI rfl _ _ rfl _ _ xs ys rfl rfl HR5.out HY5.out hF45 (fun g hg => (HLr.out g hg).2) (by omega) hF5 ?_; intro v6 w6 R6 g6 n6; rw [HZs.out] at R6; have x63 := R.blk_row HX53.out g6 (fun g hg => (by have := (HLr.out g hg).1; omega)); have d1 := R.at_box' (i := 1) x63 rfl; have e1 := R.free_box (i := 1) x63; obtain ⟨vo6, vc6, hv6⟩ := R.Row.slice R6; subst hv6; have HG6 : Hid (w.grownBy w6 (some cb)) := R.grown_row HG5.out g6 (fun g hg => (by have := (HLr.out g hg).1; omega)); clear R6 g6 n6 x63)
              | (go_at_call 23; refine (fail_any _ 5 q).mono ?_; unfold T.thrown; rintro e w7 ⟨rfl, rfl⟩))
            refine ⟨rfl, ?_⟩
            rw [← HN.out, R.itemsN, HQ.out, if_neg h124, HHc.out]
            simp only
            rw [if_pos (by have := HZl.out; omega)]
            exact ⟨rfl, R.grown_new HG6.out (R.grown_set _ _ _ _) (by omega)⟩
          · go_wp2_with (at_builtin; refine R.list_add R.elemI rfl _ _ rfl _ _ xs ys rfl rfl HR5.out HY5.out hF45 (fun g hg => (HLr.out g hg).2) (by omega) hF5 ?_; intro v6 w6 R6 g6 n6; rw [HZs.out] at R6; have x63 := R.blk_row HX53.out g6 (fun g hg => (by have := (HLr.out g hg).1; omega)); have x62 := R.blk_row HX52.out g6 (fun g hg => (by have := (HLr.out g hg).1; omega)); have d1 := R.at_box' (i := 1) x63 rfl; have e1 := R.free_box (i := 1) x63; obtain ⟨vo6, vc6, hv6⟩ := R.Row.slice R6; subst hv6; have HG6 : Hid (w.grownBy w6 (some cb)) := R.grown_row HG5.out g6 (fun g hg => (by have := (HLr.out g hg).1; omega)); have HR6 : Hid (R.RowI (w.heap.size + 2) w6 (.slice vo6 zs.length vc6) zs) := R6; have HC6 : Hid (T.Cur w6 cb tb cap ao l r) := HC5.out.row g6 (F := w.heap.size + 2) (fun g hg => (HLr.out g hg).1) (by omega) (fun h => (by have := HE2.out h; omega)); have HX63 : Hid (w6.heap[w.heap.size + 1]? = some (.cells #[.int .i64 p, .slice vo xs.length vc, .int .i64 c] 150)) := x63; have HX62 : Hid (w6.heap[w.heap.size]? = some (.cells #[.int .i64 0, .slice none 0 0, .int .i64 0] 150)) := x62; clear R6 g6 n6 x63 x62)
            have gS : w6.grownBy (w6.setCell ⟨w.heap.size + 1, 1, none⟩ (.slice vo6 zs.length vc6)) (some (w.heap.size + 1)) := R.grown_set _ _ _ _
            have C7 := HC6.out.apart gS n2 (fun h => by have := HE2.out h; omega)
            have X73 : (w6.setCell ⟨w.heap.size + 1, 1, none⟩ (.slice vo6 zs.length vc6)).heap[w.heap.size + 1]? = some (.cells #[.int .i64 p, .slice vo6 zs.length vc6, .int .i64 c] 150) := heap_setCell_same w6 (w.heap.size + 1) 1 _ 150 _ HX63.out
            have X72 := R.blk_grown HX62.out gS (by omega)
            have R7 := R.Row.cur HR6.out gS (show w.heap.size + 1 < w.heap.size + 2 by omega)
            have G7 := R.grown_new HG6.out gS (by omega)
            refine (between_any _ cb tb cap r ao l C7).mono ?_
            rintro e w8 ⟨rfl, C8, g8⟩
            have HC8 : Hid (T.Cur w8 cb tb cap ao l (R.gap l r)) := C8
            have HY : Hid _ := And.intro (R.blk_grown X73 g8 n2) (And.intro (R.blk_grown X72 g8 n1) (And.intro (R.Row.cur R7 g8 (show cb < w.heap.size + 2 by omega)) (S.grown_trans G7 g8)))
            have hge := R.gap_ge l r
            clear C7 X73 X72 R7 G7 gS C8 g8 d1 e1 a0 a1 a2
            go_wp2
            go_roundw
            case rel => exact ⟨r, _, f, zs, c, vo6, vc6, rfl, by have := HF.out; show _ < _; omega, by show _ = _; rw [← HN.out, R.itemsN, HQ.out, if_neg h124, HHc.out]; simp only; rw [if_neg (by have := HZl.out; omega), HZs.out], by omega, hc1, hc2, HY.out.1, HY.out.2.1, HY.out.2.2.1, HC8, HY.out.2.2.2⟩
            case measure =>
              rw [HC8.out.pos, HPos.out]
              have := HC8.out.le
              omega

end Go.Proofs.YtajbcgobfkaahaaGreatDoor
