/-
  vm.play told to Trace's row; vm.Trace.
-/
import Derived.Test.YtlmmjefplbcapaaGreatAlPlay
import Derived.Test.YtlmmjefplbcapaaGreatKRow
import Derived.Test.YtlmmjefplbcapaaGreatQBoxes
import Derived.Test.YtlmmjefplbcapaaGreatQFrame
import Derived.Lib.MinMax
import Derived.Shelf.Abstract
namespace Go.Proofs.YtlmmjefplbcapaaGreat
open Go.RowKit Go.Shelf
set_option maxRecDepth 20000
set_option linter.unusedSimpArgs false
set_option linter.unusedVariables false

theorem Al.idle {w : World} {r : Nat} {x y : Value} {ty : TypeId} (h : w.heap[r]? = some (.cells #[x, y] ty)) : Below w.heap.size w ((w.setCell ⟨r, 0, none⟩ x).setCell ⟨r, 1, none⟩ y) := by
  refine ⟨rfl, rfl, rfl, by simp, fun k hk => ?_⟩
  by_cases e : k = r
  · subst e
    rw [h]
    exact heap_setCell_same _ k 1 _ _ y (heap_setCell_same w k 0 _ _ x h)
  · rw [heap_setCell_other _ ⟨r, 1, none⟩ k y (by simpa using e), heap_setCell_other _ ⟨r, 0, none⟩ k x (by simpa using e)]

/-- what Trace answers -/
def Al.Trc (l : List K.Rule) (t : List Int) (sh : List (Int × Int)) (f1 f2 : Int) : Prop :=
  ∃ o : List J.Hd × Int × Int, Gm.Chk l t o ∧ ((o.2.1 ≠ 0 ∧ f1 = o.2.1 ∧ f2 = o.2.2) ∨ (o.2.1 = 0 ∧ (K.play l (8 * t.length + 40) [] t 0 0).1 = f1 ∧ f2 = 0)) ∧ sh = if f1 = 0 then Al.shots l (8 * t.length + 40) [] t else []

/-- Trace's row, when all has been told -/
def Al.Out (w' : World) (ob : Nat) (l : List K.Rule) (t : List Int) (f1 : Int) : Prop :=
  f1 = 0 → ∃ v', w'.heap[ob]? = some (.cells #[v'] 46) ∧ w'.ownsRow (ob + 1) 51 2 v' (Al.shots l (8 * t.length + 40) [] t).length (Al.scells (Al.shots l (8 * t.length + 40) [] t))
theorem Al.Out.below {w w' : World} {ob : Nat} {l : List K.Rule} {t : List Int} {f1 : Int} (h : Al.Out w ob l t f1) (hb : Below w.heap.size w w') : Al.Out w' ob l t f1 := fun hf => by
  obtain ⟨v', h1, h2⟩ := h hf
  exact ⟨v', K.blk_below h1 hb, L.owns_below h2 hb (Nat.le_refl _)⟩

/-- what play asks of Trace's function -/
theorem Al.told {b ob rb mb : Nat} {o : Obj} {wb : World} {g : Nat} {vr vh : Value} {l : List K.Rule} {c : List Int} {n : Nat} (hob : wb.heap.size ≤ ob) (hb : ob < b) (hmb : mb ≠ ob) (hrb : rb ≠ ob) (hrl : rb < b) (hn : n ≤ 4000) :
    ∀ W ms A Z (sh : List (Int × Int)) (at_ k : Int), Gm.Mx b (mb :: ms) mb wb W g vr vh l c A Z → Al.Tr b ob vh l c W ms sh ∧ (∀ q ∈ ms, b ≤ q) → W.heap[rb]? = some o → sh.length < 8 * n + 40 → Calls Tryz.prog 26 (#[.agg #[.int .i64 at_, .int .i64 k]] ++ #[.pointer (some ⟨ob, 0, none⟩)]) W fun e w' => e = .returned (.tuple #[]) ∧ w'.heap[rb]? = some o ∧ ∃ ns, Gm.Mx b (mb :: ns) mb wb w' g vr vh l c A Z ∧ Al.Tr b ob vh l c w' ns (sh ++ [(at_, k)]) ∧ (∀ q ∈ ns, b ≤ q) := by
  rintro W ms A Z sh at_ k M ⟨⟨⟨v, h1, h2, h3⟩, h4, h5⟩, h6⟩ hr hl
  have htop := M.top
  refine (xtell_any W b ob v sh at_ k h1 h2 hb htop (by omega)).mono ?_
  rintro e w' ⟨rfl, v', g1, g2, g3, g4, g5⟩
  have hne : ∀ j, j ∉ ms → v.ownBlock ≠ some j := fun j hj e => hj (h3 j e)
  have e5 : ∀ j, j < W.heap.size → j ≠ ob → j ∉ ms → w'.heap[j]? = W.heap[j]? := fun j hj h7 h8 => g5 j hj h7 (hne j h8)
  have hrm : rb ∉ ms := fun h => by have := h6 rb h; omega
  have hns : ∀ q ∈ v'.ownBlock.toList, v'.ownBlock = some q := fun q hq => by simpa using hq
  have hcs : ∀ q ∈ v'.ownBlock.toList, ∃ cs p, w'.heap[q]? = some (.cells cs 51 p) := fun q hq => (Al.block g2 (hns q hq)).2
  refine ⟨rfl, (e5 rb (lt_of_block hr) hrb hrm).trans hr, v'.ownBlock.toList, M.tells hb hmb h4 hcs g3 (M.bel.trans (g4 _ hob)) e5 h5 h6, ⟨⟨v', g1, by rw [List.length_append]; exact g2, fun q hq => by simp [hq]⟩, hcs, fun W2 e => h5 W2 fun j hj hne2 => (e j hj hne2).trans (e5 j (by omega) hne2 fun h => ?_)⟩, fun q hq => (Al.block g2 (hns q hq)).1⟩
  have := h6 j h
  omega

set_option maxHeartbeats 8000000 in
theorem xvmplayT_any (wb w : World) (v : Value) (l : List K.Rule) (hwb : Below wb.heap.size wb w) (R0 : V.Rus wb v l) (vt : Value) (t : List Int) (Rt : L.Rd w vt .i32 t) (ht : t.length ≤ 140737488355328) (ob : Nat) (hob : wb.heap.size ≤ ob) (hout : w.heap[ob]? = some (.cells #[.slice none 0 0] 46)) :
    Calls Tryz.prog 25 #[v, vt, .func (.func 26) #[] #[.pointer (some ⟨ob, 0, none⟩)]] w fun e w' => ∃ mp f1 f2, e = .returned (.tuple #[mp, .agg #[.int .i64 f1, .int .i64 f2]]) ∧ Below wb.heap.size wb w' ∧ Al.Trc l t (if f1 = 0 then Al.shots l (8 * t.length + 40) [] t else []) f1 f2 ∧ Al.Out w' ob l t f1 := by
  have eg : ∀ args w, (callFunc 26 args).run Tryz.prog w = .ok (.enter 26 args) w := enters_of Tryz.func26 (by kernel_rfl) rfl
  have hobl : ob < w.heap.size := lt_of_block hout
  have hsb := hwb.size
  have HA : Hid (∀ o, Below w.heap.size w (w.alloc o)) := fun o => (Below.refl _ w).alloc (Nat.le_refl _) o
  have HRe : Hid (∀ o, Calls Tryz.prog 37 #[v, vt] (w.alloc o) fun e w' => ∃ o', Gm.Chk l t o' ∧ Below (w.alloc o).heap.size (w.alloc o) w' ∧ ((o'.2.1 ≠ 0 ∧ e = .returned (.tuple #[.pointer none, .agg #[.int .i64 o'.2.1, .int .i64 o'.2.2]])) ∨ (o'.2.1 = 0 ∧ ∃ mb, e = .returned (.tuple #[.pointer (some ⟨mb, 0, none⟩), .agg #[.int .i64 0, .int .i64 0]]) ∧ Gm.Rdy wb (w.alloc o) w' v l t mb))) := fun o => xready_any wb (w.alloc o) v l (hwb.trans ((HA.out o).mono hsb)) R0 vt t (Rt.below (HA.out o) (Nat.le_refl _)) ht
  have HWB : Hid (Below wb.heap.size wb w) := hwb
  have HOut : Hid (w.heap[ob]? = some (.cells #[.slice none 0 0] 46)) := hout
  obtain ⟨va, vc, rfl⟩ := R0.len
  clear R0 Rt hwb hout
  go_enter Tryz.func25, Tryz.ntmps25
  go_wp2_with fail
  refine (HRe.out _).mono ?_
  rintro e w1 ⟨⟨hs, e1, e2⟩, hch, b1, ⟨hq, rfl⟩ | ⟨hq, mb, rfl, hrdy⟩⟩
  · obtain ⟨h1, B1, s1⟩ := K.one_box b1
    have HCh : Hid (Gm.Chk l t (hs, e1, e2)) := hch
    have HB2 : Hid (∀ o, Below w.heap.size w (w1.alloc o)) := fun o => B1.alloc (by omega) o
    obtain ⟨x0, x1, f0, f1⟩ := K.box2 h1
    have k0 : ∀ o, (w1.alloc o).cell? ⟨w.heap.size, 0, none⟩ = some (.int .i64 0) := fun o => K.alloc_cell x0 o
    have k1 : ∀ o, (w1.alloc o).cell? ⟨w.heap.size, 1, none⟩ = some (.int .i64 0) := fun o => K.alloc_cell x1 o
    have g0 : ∀ o, (w1.alloc o).frozen? ⟨w.heap.size, 0, none⟩ = false := fun o => K.alloc_free h1 o 0
    have g1 : ∀ o, (w1.alloc o).frozen? ⟨w.heap.size, 1, none⟩ = false := fun o => K.alloc_free h1 o 1
    have hq' : ¬ e1 = 0 := hq
    clear b1 B1 HRe x0 x1 f0 f1 h1 hch hq
    go_wp2
    go_region
    go_wp2
    refine bodyPost_ret (v := .tuple #[.pointer none, .agg #[.int .i64 e1, .int .i64 e2]]) (by simp [results, Tryz.results25, go_sem, *]) rfl ?_
    exact ⟨_, _, _, rfl, HWB.out.trans (((((HB2.out _).setCell (p := ⟨w.heap.size, 0, none⟩) (Nat.le_refl _) _).setCell (p := ⟨w.heap.size, 1, none⟩) (Nat.le_refl _) _).drew).mono hsb), ⟨_, HCh.out, .inl ⟨hq', rfl, rfl⟩, rfl⟩, fun h => absurd h hq'⟩
  · obtain ⟨h1, B1, s1⟩ := K.one_box b1
    have hq' : e1 = 0 := hq
    subst hq'
    have HCh : Hid (Gm.Chk l t (hs, 0, e2)) := hch
    obtain ⟨b, g, vh, c, hb1, hb2, hMx, hok, hall, hhd⟩ := hrdy
    have hsz : (w.alloc (.cells #[.int .i64 0, .int .i64 0] 27)).heap.size = w.heap.size + 1 := by simp
    have hbt := hMx.top
    have hmlt : mb < w1.heap.size := hMx.old mb (by simp)
    obtain ⟨⟨p1, p2, p3, p4⟩, hO⟩ : ∃ o, K.play l (8 * t.length + 40) [] t 0 0 = o := ⟨_, rfl⟩
    have HPl : Hid (∀ o, Calls Tryz.prog 38 #[.pointer (some ⟨mb, 0, none⟩), .func (.func 26) #[] #[.pointer (some ⟨ob, 0, none⟩)]] (w1.alloc o) fun e w' => e = .returned (.int .i64 p1) ∧ Below wb.heap.size wb w' ∧ w'.heap[w.heap.size]? = some (.cells #[.int .i64 0, .int .i64 0] 27) ∧ Al.Out w' ob l t p1) := fun o => by
      have hal : Below w1.heap.size w1 (w1.alloc o) := (Below.refl _ w1).alloc (Nat.le_refl _) o
      have hbo : (w1.alloc o).heap[ob]? = some (.cells #[.slice none 0 0] 46) := (hal.block ob (by omega)).trans ((B1.block ob hobl).trans HOut.out)
      have hbr : (w1.alloc o).heap[w.heap.size]? = some (.cells #[.int .i64 0, .int .i64 0] 27) := K.blk_below h1 hal
      refine (xplayT_any b mb wb (w1.alloc o) g _ vh l c t (hMx.below hal) hok hall (fun W => W.heap[w.heap.size]? = some (.cells #[.int .i64 0, .int .i64 0] 27)) hbr (fun W W' h hB => (hB.block _ (by omega)).trans h)
        (fun W ms sh => Al.Tr b ob vh l c W ms sh ∧ (∀ q ∈ ms, b ≤ q)) ⟨⟨⟨_, hbo, World.ownsRow_nil _ _ _ _, fun q hq => (by cases hq)⟩, fun q hq => (by cases hq), fun W' hW' => hhd W' fun j hj1 hj2 => ?_⟩, fun q hq => (by cases hq)⟩ (fun W W' ms sh h hB => ⟨h.1.keep (by omega) hB, h.2⟩) 26 #[.pointer (some ⟨ob, 0, none⟩)] eg (Al.told hob (by omega) (by omega) (by omega) (by omega) (HCh.out.ok).1) p1 p2 p3 p4 hO).mono ?_
      · rw [hW' j hj2 (by omega)]; exact hal.block j (by omega)
      · rintro e w' ⟨h1, h2, h3, h4⟩
        refine ⟨h1, h2, h3, fun h => ?_⟩
        obtain ⟨ms, ⟨⟨v', g1, g2, _⟩, _⟩, _⟩ := h4 h
        exact ⟨v', g1, L.owns_base g2 (by omega)⟩
    obtain ⟨ht4, _, rfl, _⟩ := HCh.out.ok
    have HO : Hid ((K.play l (8 * t.length + 40) [] t 0 0).1 = p1) := by show _ = _; rw [hO]
    have hobb : ob < b := by omega
    have hmo : mb ≠ ob := by omega
    have hss := b1.size
    clear b1 B1 HRe h1 hch hq hMx hok hall hhd hO HOut
    go_wp2_with fail
    go_at_call 38
    refine (HPl.out _).mono ?_
    rintro e w2 ⟨rfl, hB2, hbx, hfin⟩
    have HB2 : Hid (Below wb.heap.size wb w2) := hB2
    have HF : Hid (Al.Out w2 ob l t p1) := hfin
    obtain ⟨x0, x1, f0, f1⟩ := K.box2 hbx
    have HBx : Hid (w2.heap[w.heap.size]? = some (.cells #[.int .i64 0, .int .i64 0] 27)) := hbx
    clear HPl hB2 hfin hbx
    by_cases q : p1 = 0
    · subst q
      go_wp2
      refine bodyPost_ret (v := .tuple #[.pointer (some ⟨mb, 0, none⟩), .agg #[.int .i64 0, .int .i64 0]]) (by simp [results, Tryz.results25, go_sem, *]) rfl ?_
      have hid := Al.idle HBx.out
      exact ⟨_, _, _, rfl, HB2.out.trans (hid.mono (by have := HB2.out.size; omega)), ⟨_, HCh.out, .inr ⟨rfl, HO.out, rfl⟩, rfl⟩, HF.out.below hid⟩
    · clear HF
      go_wp2
      refine bodyPost_ret (v := .tuple #[.pointer none, .agg #[.int .i64 p1, .int .i64 0]]) (by simp [results, Tryz.results25, go_sem, *]) rfl ?_
      exact ⟨_, _, _, rfl, (HB2.out.setCell (p := ⟨w.heap.size, 0, none⟩) hsb _).setCell (p := ⟨w.heap.size, 1, none⟩) hsb _, ⟨_, HCh.out, .inr ⟨rfl, HO.out, rfl⟩, rfl⟩, fun h => absurd h q⟩

set_option maxHeartbeats 8000000 in
theorem xTrace_any (w : World) (v : Value) (l : List K.Rule) (R0 : V.Rus w v l) (vt : Value) (t : List Int) (Rt : L.Rd w vt .i32 t) (ht : t.length ≤ 140737488355328) :
    Calls Tryz.prog 14 #[v, vt] w fun e w' => ∃ (v' : Value) (sh : List (Int × Int)) (f1 f2 : Int), e = .returned (.tuple #[v', .agg #[.int .i64 f1, .int .i64 f2]]) ∧ Al.Trc l t sh f1 f2 ∧ w'.ownsRow w.heap.size 51 2 v' sh.length (Al.scells sh) ∧ Below w.heap.size w w' := by
  obtain ⟨wb, hwb⟩ : ∃ wb, wb = w.alloc (.cells #[.int .i64 0, .int .i64 0] 27) := ⟨_, rfl⟩
  have hBb : Below w.heap.size w wb := by rw [hwb]; exact (Below.refl _ w).alloc (Nat.le_refl _) _
  have hbs : wb.heap.size = w.heap.size + 1 := by rw [hwb]; simp
  have hx0 : wb.heap[w.heap.size]? = some (.cells #[.int .i64 0, .int .i64 0] 27) := by rw [hwb]; exact heap_alloc_new w _
  have HPl : Hid (∀ Y, Y = wb → Calls Tryz.prog 25 #[v, vt, .func (.func 26) #[] #[.pointer (some ⟨w.heap.size + 1, 0, none⟩)]] (Y.alloc (.cells #[.slice none 0 0] 46)) fun e w' => ∃ mp f1 f2, e = .returned (.tuple #[mp, .agg #[.int .i64 f1, .int .i64 f2]]) ∧ Below wb.heap.size wb w' ∧ Al.Trc l t (if f1 = 0 then Al.shots l (8 * t.length + 40) [] t else []) f1 f2 ∧ Al.Out w' (w.heap.size + 1) l t f1) := fun Y hY => by
    rw [hY]
    have hal : Below wb.heap.size wb (wb.alloc (.cells #[.slice none 0 0] 46)) := (Below.refl _ wb).alloc (Nat.le_refl _) _
    exact xvmplayT_any wb _ v l hal (R0.below hBb) vt t ((Rt.below hBb (Nat.le_refl _)).below hal (Nat.le_refl _)) ht (w.heap.size + 1) (by omega) (by rw [← hbs]; exact heap_alloc_new wb _)
  have HWB : Hid (wb = w.alloc (.cells #[.int .i64 0, .int .i64 0] 27)) := hwb
  have HBb : Hid (Below w.heap.size w wb) := hBb
  have HX : Hid (wb.heap[w.heap.size]? = some (.cells #[.int .i64 0, .int .i64 0] 27) ∧ wb.heap.size = w.heap.size + 1) := ⟨hx0, hbs⟩
  obtain ⟨va, vc, rfl⟩ := R0.len
  clear R0 Rt hwb hBb hbs hx0
  go_enter Tryz.func14, Tryz.ntmps14
  go_wp2_with fail
  go_at_call 25
  refine (HPl.out _ HWB.out.symm).mono ?_
  rintro e w1 ⟨mp, f1, f2, rfl, b1, hV, hO⟩
  have HV : Hid (Al.Trc l t (if f1 = 0 then Al.shots l (8 * t.length + 40) [] t else []) f1 f2) := hV
  have HB1 : Hid (Below w.heap.size w w1) := HBb.out.trans (b1.mono (by have := HX.out.2; omega))
  have h0 : w1.heap[w.heap.size]? = some (.cells #[.int .i64 0, .int .i64 0] 27) := K.blk_below HX.out.1 b1
  have hs1 : w.heap.size + 1 ≤ w1.heap.size := by have := b1.size; have := HX.out.2; omega
  have k0 : ∀ o, (w1.alloc o).cell? ⟨w.heap.size, 0, none⟩ = some (.int .i64 0) := fun o => K.alloc_cell (K.at_box h0 rfl) o
  have k1 : ∀ o, (w1.alloc o).cell? ⟨w.heap.size, 1, none⟩ = some (.int .i64 0) := fun o => K.alloc_cell (K.at_box h0 rfl) o
  have g0 : ∀ o i, (w1.alloc o).frozen? ⟨w.heap.size, i, none⟩ = false := fun o i => K.alloc_free h0 o i
  have HB2 : Hid (∀ o x y, Below w.heap.size w (((w1.alloc o).setCell ⟨w.heap.size, 0, none⟩ x).setCell ⟨w.heap.size, 1, none⟩ y)) := fun o x y => ((HB1.out.alloc HB1.out.size o).setCell (p := ⟨w.heap.size, 0, none⟩) (Nat.le_refl _) _).setCell (p := ⟨w.heap.size, 1, none⟩) (Nat.le_refl _) _
  by_cases q : f1 = 0
  · subst q
    obtain ⟨v', h1, own⟩ := hO rfl
    have k2 : ∀ o, (w1.alloc o).cell? ⟨w.heap.size + 1, 0, none⟩ = some v' := fun o => K.alloc_cell (K.at_box h1 rfl) o
    have HOw : Hid (∀ o x y, (((w1.alloc o).setCell ⟨w.heap.size, 0, none⟩ x).setCell ⟨w.heap.size, 1, none⟩ y).ownsRow w.heap.size 51 2 v' (Al.shots l (8 * t.length + 40) [] t).length (Al.scells (Al.shots l (8 * t.length + 40) [] t))) := fun o x y => by
      refine L.owns_base (Al.held (own.alloc o) fun q hq _ => ?_) (by omega : w.heap.size ≤ w.heap.size + 1 + 1)
      have := (Al.block own hq).1
      rw [heap_setCell_other _ ⟨w.heap.size, 1, none⟩ q y (by simp; omega), heap_setCell_other _ ⟨w.heap.size, 0, none⟩ q x (by simp; omega)]
    obtain ⟨wo, wc, rfl⟩ : ∃ wo wc, v' = .slice wo (Al.shots l (8 * t.length + 40) [] t).length wc := by
      rcases own.2 with ⟨hv, h0⟩ | ⟨g, cap, cur, hv, _⟩
      · exact ⟨none, 0, by rw [hv, h0]⟩
      · exact ⟨_, cap, hv⟩
    have HV2 : Hid (Al.Trc l t (Al.shots l (8 * t.length + 40) [] t) 0 f2) := by
      have := HV.out
      rw [if_pos rfl] at this
      exact this
    generalize Al.shots l (8 * t.length + 40) [] t = SH at *
    have hk1 : w.heap.size + 1 < w1.heap.size := lt_of_block h1
    clear hV hO h0 h1 own b1 HPl HWB HX HBb HV
    have hf2 : f2 = 0 := by
      obtain ⟨o, hc, h | ⟨_, _, h⟩, _⟩ := HV2.out
      · exact absurd h.2.1.symm h.1
      · exact h
    go_wp2
    refine bodyPost_ret (v := .tuple #[.slice wo SH.length wc, .agg #[.int .i64 0, .int .i64 0]]) (by simp [results, Tryz.results14, go_sem, *]) rfl ?_
    exact ⟨_, SH, 0, f2, by rw [hf2], HV2.out, HOw.out _ _ _, HB2.out _ _ _⟩
  · have HV2 : Hid (Al.Trc l t [] f1 f2) := by
      have := HV.out
      rw [if_neg q] at this
      exact this
    clear hV hO h0 b1 HPl HWB HX HBb HV
    go_wp2
    go_region
    go_wp2
    refine bodyPost_ret (v := .tuple #[.slice none 0 0, .agg #[.int .i64 f1, .int .i64 f2]]) (by simp [results, Tryz.results14, go_sem, *]) rfl ?_
    exact ⟨_, [], f1, f2, rfl, HV2.out, World.ownsRow_nil _ _ _ _, (HB2.out _ _ _).drew⟩

end Go.Proofs.YtlmmjefplbcapaaGreat

/-
  Whether a function says yes to one of many rules, or of many runes: slices.ContainsFunc.
-/
namespace Go.Proofs.YtlmmjefplbcapaaGreat
open Go.RowKit
set_option maxRecDepth 20000
set_option linter.unusedSimpArgs false
set_option linter.unusedVariables false

theorem any_take {α : Type} {l : List α} {P : α → Bool} {k : Nat} {x : α} (h : l[k]? = some x) : (l.take (k + 1)).any P = ((l.take k).any P || P x) := by
  rw [List.take_add_one, h, List.any_append]; simp

set_option maxHeartbeats 2000000 in
theorem ruIndex_any (w : World) (v : Value) (l : List K.Rule) (R0 : V.Rus w v l) (g : Nat) (cb : Array Value) (P : K.Rule → Bool) (eg : ∀ args w, (callFunc g args).run Tryz.prog w = .ok (.enter g args) w)
    (hh : ∀ W r u, Below w.heap.size w W → r ∈ l → K.RuIs W u r → Calls Tryz.prog g (#[u] ++ cb) W fun e w' => e = .returned (.bool (P r)) ∧ Below W.heap.size W w') :
    Calls Tryz.prog 39 #[v, .func (.func g) #[] cb] w fun e w' => ∃ i : Int, e = .returned (.int .i64 i) ∧ decide (0 ≤ i) = l.any P ∧ Below w.heap.size w w' := by
  have HR : Hid (V.Rus w v l) := R0
  have HH : Hid (∀ W r u, Below w.heap.size w W → r ∈ l → K.RuIs W u r → Calls Tryz.prog g (#[u] ++ cb) W fun e w' => e = .returned (.bool (P r)) ∧ Below W.heap.size W w') := hh
  have hl := R0.few
  obtain ⟨lao, lcap, rfl⟩ := R0.len
  clear R0 hh
  go_enter Tryz.func39, Tryz.ntmps39
  go_wp2
  go_loopw [8] (fun i wr => ∃ j : Nat, j ≤ l.length ∧ i = .int .i64 j ∧ Hid ((l.take j).any P = false) ∧ Hid (Below w.heap.size w wr)) (fun i _ => l.length - (intOf i).toNat)
  case atStart => exact ⟨0, Nat.zero_le _, rfl, by show (l.take 0).any P = false; simp, Below.refl _ w⟩
  case round =>
    obtain ⟨j, hj, rfl, HW, HB⟩ := hrel
    by_cases hlt : j < l.length
    · obtain ⟨p, hp⟩ : ∃ x, l[j]? = some x := ⟨l[j], by simp [hlt]⟩
      obtain ⟨ao', cap', e', _, hcs⟩ := HR.out.below HB.out
      cases e'
      obtain ⟨b, off, rfl, hcell⟩ := hcs (by intro h; subst h; simp at hlt)
      obtain ⟨bo, bc, so, sc, ao, ac, tgo, tc, a0, a1, a2, a3, a4, a5, a6, hP⟩ := hcell j p hp
      have HE2 : Hid ((l.take (j + 1)).any P = P p ∧ (P p = true → l.any P = true)) := ⟨by rw [any_take hp, HW.out, Bool.false_or], fun h => List.any_eq_true.2 ⟨p, List.mem_of_getElem? hp, h⟩⟩
      have hsz := HB.out.size
      have HW2 : Hid (Calls Tryz.prog g (#[.agg #[.bool p.start, .bool p.fin, .slice bo p.before.length bc, .slice so p.source.length sc, .slice ao p.after.length ac, .slice tgo p.target.length tc, .int .i64 p.cursor]] ++ cb) wr fun e w' => e = .returned (.bool (P p)) ∧ Below wr.heap.size wr w') := HH.out wr p _ HB.out (List.mem_of_getElem? hp) hP
      generalize P p = z at HW2 HE2
      clear hp hcell hcs hP
      obtain ⟨st, fi, be, sou, af, ta, cu⟩ := p
      simp only at a0 a1 a2 a3 a4 a5 a6 HW2
      go_wp2_with fail
      refine HW2.out.mono ?_
      rintro e w1 ⟨rfl, B1⟩
      have HB1 : Hid (Below w.heap.size w w1) := HB.out.trans (B1.mono hsz)
      clear B1
      cases z with
      | false =>
        have HT : Hid ((l.take (j + 1)).any P = false) := HE2.out.1
        clear HE2
        go_wp2
        go_roundw
        case rel => exact ⟨j + 1, by omega, by go_num, HT, HB1⟩
        case measure => simp [intOf]; omega
      | true =>
        have HT : Hid (l.any P = true) := HE2.out.2 rfl
        clear HE2
        go_wp2
        go_ret
        exact ⟨j, rfl, by rw [HT.out]; simp, HB1.out⟩
    · have hkl : j = l.length := by omega
      subst hkl
      go_wp2
      go_ret
      exact ⟨-1, rfl, by have := HW.out; rw [List.take_length] at this; rw [this]; rfl, HB.out⟩

set_option maxHeartbeats 1000000 in
theorem ruAny_any (w : World) (v : Value) (l : List K.Rule) (R0 : V.Rus w v l) (g : Nat) (cb : Array Value) (P : K.Rule → Bool) (eg : ∀ args w, (callFunc g args).run Tryz.prog w = .ok (.enter g args) w)
    (hh : ∀ W r u, Below w.heap.size w W → r ∈ l → K.RuIs W u r → Calls Tryz.prog g (#[u] ++ cb) W fun e w' => e = .returned (.bool (P r)) ∧ Below W.heap.size W w') :
    Calls Tryz.prog 27 #[v, .func (.func g) #[] cb] w fun e w' => e = .returned (.bool (l.any P)) ∧ Below w.heap.size w w' := by
  have h := ruIndex_any w v l R0 g cb P eg hh
  obtain ⟨aa, ca, rfl⟩ := R0.len
  clear R0 hh
  go_enter Tryz.func27, Tryz.ntmps27
  go_wp2_with fail
  refine h.mono ?_
  rintro e w1 ⟨i, rfl, hi, hb⟩
  have HI : Hid _ := hi
  clear hi
  go_wp2
  go_ret
  exact ⟨L.ret_bool HI.out, hb⟩

set_option maxHeartbeats 2000000 in
theorem rnIndex_any (w : World) (v : Value) (l : List Int) (R0 : L.Rd w v .i32 l) (hl : l.length ≤ 140737488355328) (g : Nat) (cb : Array Value) (P : Int → Bool) (eg : ∀ args w, (callFunc g args).run Tryz.prog w = .ok (.enter g args) w)
    (hh : ∀ W r, Below w.heap.size w W → r ∈ l → Calls Tryz.prog g (#[.int .i32 r] ++ cb) W fun e w' => e = .returned (.bool (P r)) ∧ Below W.heap.size W w') :
    Calls Tryz.prog 53 #[v, .func (.func g) #[] cb] w fun e w' => ∃ i : Int, e = .returned (.int .i64 i) ∧ decide (0 ≤ i) = l.any P ∧ Below w.heap.size w w' := by
  have HH : Hid (∀ W r, Below w.heap.size w W → r ∈ l → Calls Tryz.prog g (#[.int .i32 r] ++ cb) W fun e w' => e = .returned (.bool (P r)) ∧ Below W.heap.size W w') := hh
  obtain ⟨lao, lcap, rfl, _, hcs⟩ := R0
  have HC : Hid (l ≠ [] → ∃ b off, lao = some ⟨b, off, none⟩ ∧ ∀ j z, l[j]? = some z → w.cell? ⟨b, off + j, none⟩ = some (.int .i32 z)) := hcs
  clear hh hcs
  go_enter Tryz.func53, Tryz.ntmps53
  go_wp2
  go_loopw [8] (fun i wr => ∃ j : Nat, j ≤ l.length ∧ i = .int .i64 j ∧ Hid ((l.take j).any P = false) ∧ Hid (Below w.heap.size w wr)) (fun i _ => l.length - (intOf i).toNat)
  case atStart => exact ⟨0, Nat.zero_le _, rfl, by show (l.take 0).any P = false; simp, Below.refl _ w⟩
  case round =>
    obtain ⟨j, hj, rfl, HW, HB⟩ := hrel
    by_cases hlt : j < l.length
    · obtain ⟨p, hp⟩ : ∃ x, l[j]? = some x := ⟨l[j], by simp [hlt]⟩
      obtain ⟨b, off, rfl, hcell⟩ := HC.out (by intro h; subst h; simp at hlt)
      have c0 := hcell j p hp
      rw [← HB.out.cell (p := ⟨b, off + j, none⟩) (L.block_lt c0)] at c0
      have HE2 : Hid ((l.take (j + 1)).any P = P p ∧ (P p = true → l.any P = true)) := ⟨by rw [any_take hp, HW.out, Bool.false_or], fun h => List.any_eq_true.2 ⟨p, List.mem_of_getElem? hp, h⟩⟩
      have hsz := HB.out.size
      have HW2 : Hid (Calls Tryz.prog g (#[.int .i32 p] ++ cb) wr fun e w' => e = .returned (.bool (P p)) ∧ Below wr.heap.size wr w') := HH.out wr p HB.out (List.mem_of_getElem? hp)
      generalize P p = z at HW2 HE2
      clear hp hcell
      go_wp2_with fail
      refine HW2.out.mono ?_
      rintro e w1 ⟨rfl, B1⟩
      have HB1 : Hid (Below w.heap.size w w1) := HB.out.trans (B1.mono hsz)
      clear B1
      cases z with
      | false =>
        have HT : Hid ((l.take (j + 1)).any P = false) := HE2.out.1
        clear HE2
        go_wp2
        go_roundw
        case rel => exact ⟨j + 1, by omega, by go_num, HT, HB1⟩
        case measure => simp [intOf]; omega
      | true =>
        have HT : Hid (l.any P = true) := HE2.out.2 rfl
        clear HE2
        go_wp2
        go_ret
        exact ⟨j, rfl, by rw [HT.out]; simp, HB1.out⟩
    · have hkl : j = l.length := by omega
      subst hkl
      go_wp2
      go_ret
      exact ⟨-1, rfl, by have := HW.out; rw [List.take_length] at this; rw [this]; rfl, HB.out⟩

set_option maxHeartbeats 1000000 in
theorem rnAny_any (w : World) (v : Value) (l : List Int) (R0 : L.Rd w v .i32 l) (hl : l.length ≤ 140737488355328) (g : Nat) (cb : Array Value) (P : Int → Bool) (eg : ∀ args w, (callFunc g args).run Tryz.prog w = .ok (.enter g args) w)
    (hh : ∀ W r, Below w.heap.size w W → r ∈ l → Calls Tryz.prog g (#[.int .i32 r] ++ cb) W fun e w' => e = .returned (.bool (P r)) ∧ Below W.heap.size W w') :
    Calls Tryz.prog 40 #[v, .func (.func g) #[] cb] w fun e w' => e = .returned (.bool (l.any P)) ∧ Below w.heap.size w w' := by
  have h := rnIndex_any w v l R0 hl g cb P eg hh
  obtain ⟨aa, ca, rfl, _⟩ := R0
  clear hh
  go_enter Tryz.func40, Tryz.ntmps40
  go_wp2_with fail
  refine h.mono ?_
  rintro e w1 ⟨i, rfl, hi, hb⟩
  have HI : Hid _ := hi
  clear hi
  go_wp2
  go_ret
  exact ⟨L.ret_bool HI.out, hb⟩

end Go.Proofs.YtlmmjefplbcapaaGreat

/-
  Whether rules always go on, and how far they look: analyse.Sure, analyse.Reach.
-/
namespace Go.Proofs.YtlmmjefplbcapaaGreat
open Go.RowKit Go.Shelf
set_option maxRecDepth 20000
set_option linter.unusedSimpArgs false
set_option linter.unusedVariables false

set_option maxHeartbeats 1000000 in
theorem sure1_any (w : World) (v : Value) (r : K.Rule) (R : K.RuIs w v r) :
    Calls Tryz.prog 28 #[v] w fun e w' => e = .returned (.bool (!K.goesB r)) ∧ Below w.heap.size w w' := by
  obtain ⟨bo, bc, so, sc, ao, ac, tgo, tc, rfl, _, _, _, _, h5, hI⟩ := R
  have hI1 : -9223372036854775808 ≤ r.cursor := hI.1
  have hI2 : r.cursor ≤ 9223372036854775807 := hI.2
  unfold K.goesB
  obtain ⟨st, fi, be, sou, af, ta, cu⟩ := r
  simp only at h5 hI1 hI2 ⊢
  clear hI
  by_cases hc : cu = ta.length
  · go_enter Tryz.func28, Tryz.ntmps28
    go_wp2
    go_ret
    exact ⟨by simp [hc], (Below.refl _ w).alloc (Nat.le_refl _) _⟩
  · go_enter Tryz.func28, Tryz.ntmps28
    go_wp2
    go_ret
    exact ⟨by simp [hc], (Below.refl _ w).alloc (Nat.le_refl _) _⟩

set_option maxHeartbeats 1000000 in
theorem ySure_any (w : World) (v : Value) (l : List K.Rule) (R0 : V.Rus w v l) :
    Calls Tryz.prog 15 #[v] w fun e w' => e = .returned (.bool (K.sureB l)) ∧ Below w.heap.size w w' := by
  have h := ruAny_any w v l R0 28 #[] (fun r => !K.goesB r) (enters_of Tryz.func28 (by kernel_rfl) rfl) (fun W r u hW _ hu => by simpa using sure1_any W u r hu)
  have e : K.sureB l = !(l.any fun r => !K.goesB r) := by unfold K.sureB; rw [List.not_any_eq_all_not]; simp
  rw [e]
  generalize (l.any fun r => !K.goesB r) = z at *
  obtain ⟨aa, ca, rfl⟩ := R0.len
  clear R0 e
  go_enter Tryz.func15, Tryz.ntmps15
  go_wp2_with fail
  refine h.mono ?_
  rintro e w1 ⟨rfl, b1⟩
  have HB1 : Hid (Below w.heap.size w w1) := b1
  clear b1 h
  cases z with
  | false => go_wp2; go_ret; exact ⟨rfl, HB1.out⟩
  | true => go_wp2; go_ret; exact ⟨rfl, HB1.out⟩

end Go.Proofs.YtlmmjefplbcapaaGreat
