/-
 scripttop.TopAligned returns true (its law, and the tied card upto).
-/
import Derived.Test.YtmcljejgbikbhabGreatDoorMath
import Derived.Test.YtmcljejgbikbhabGreatDoorTClass4
import Derived.Test.YtmcljejgbikbhabGreatDoorVBadB
import Derived.Test.YtmcljejgbikbhabGreatDoorSSubP
import Derived.Test.YtmcljejgbikbhabGreatDoorTpAlP
namespace Go.Proofs.YtmcljejgbikbhabGreatDoor
open Go.RowKit Go.Lib
set_option maxRecDepth 20000
set_option linter.unusedSimpArgs false
set_option linter.unusedVariables false

theorem Al.slice_mid (xo : Option Addr) (N xc i j : Nat) (h : i ≤ j) (hj : j ≤ xc) (w' : World) : (Instr.slice 26 (.slice xo N xc) (some (.int .i64 (i : Int))) (some (.int .i64 (j : Int))) none).run Tryz.prog w' = .ok (.slice (if xc = i then xo else Option.map (fun x => x.add i) xo) (j - i) (xc - i)) w' := by
  have a1 : (i : Int) ≤ j := by omega
  have a2 : (j : Int) ≤ xc := by omega
  have a0 : (0 : Int) ≤ i := by omega
  have a3 : (0 : Int) ≤ j := by omega
  go_simp
theorem Al.rd_win {w : World} {xo : Option Addr} {xc : Nat} {t : List Int} (h : L.Rd w (.slice xo t.length xc) .i32 t) {a b : Nat} (hab : a ≤ b) (hb : b ≤ t.length) (hxc : t.length ≤ xc) : L.Rd w (.slice (if xc = a then xo else Option.map (fun p => p.add a) xo) (b - a) (xc - a)) .i32 ((t.drop a).take (b - a)) := by
  have h1 := K.ziw h hb
  have e : (t.take b).length = b := by rw [List.length_take]; omega
  have h2 := K.zgo (t := t.take b) (xo := xo) (xc := xc) (w := w) (by rw [e]; exact h1) (d := a) (by omega) (by omega)
  rw [e, List.drop_take] at h2
  exact h2
theorem Al.ans_ok {l : List K.Rule} {t : List Int} {o : List J.Hd × Int × Int} (h : (Al.ans l t o).2.1 = 0) : o.2.1 = 0 ∧ (K.play l (8 * t.length + 40) [] t 0 0).1 = 0 ∧ K.sureB l = true ∧ Al.ans l t o = (Al.links l 0 (Al.shots l (8 * t.length + 40) [] t), 0, 0) := by
  unfold Al.ans at h ⊢
  by_cases h1 : o.2.1 ≠ 0
  · rw [if_pos h1] at h; exact absurd h h1
  · rw [if_neg h1] at h ⊢
    by_cases h2 : (K.play l (8 * t.length + 40) [] t 0 0).1 ≠ 0
    · rw [if_pos h2] at h; exact absurd h h2
    · rw [if_neg h2] at h ⊢
      by_cases h3 : K.sureB l = true
      · rw [if_pos h3] at h ⊢; exact ⟨by simpa using h1, by simpa using h2, h3, rfl⟩
      · rw [if_neg h3] at h; exact absurd (show (8 : Int) = 0 from h) (by decide)
theorem Al.chk_rules {l : List K.Rule} {t : List Int} {hs : List J.Hd} {e2 : Int} (h : Gm.Chk l t (hs, 0, e2)) : (K.rulesF l).1 = 0 := by
  rcases h with ⟨g, g2⟩ | ⟨g, _⟩ | ⟨g, _⟩
  · exfalso; apply g; rw [← (Prod.mk.inj g2).2]
  · exact g
  · exact g
/-- what comes together of a text's pieces -/
theorem Al.prefix_len {f : Al.Lk → List Int} {ls : List Al.Lk} {k : Nat} : ((ls.take k).flatMap f).length ≤ (ls.flatMap f).length := by
  conv => rhs; rw [← List.take_append_drop k ls, List.flatMap_append, List.length_append]
  omega
theorem Tp.idle2 {w : World} {r : Nat} {x y : Value} {ty : TypeId} (h : w.heap[r]? = some (.cells #[x, y] ty)) : Below w.heap.size w ((w.setCell ⟨r, 0, none⟩ x).setCell ⟨r, 1, none⟩ y) := by
  refine ⟨rfl, rfl, rfl, by simp, fun k hk => ?_⟩
  by_cases e : k = r
  · subst e
    rw [h]
    exact heap_setCell_same _ k 1 _ _ y (heap_setCell_same w k 0 _ _ x h)
  · rw [heap_setCell_other _ ⟨r, 1, none⟩ k y (by simpa using e), heap_setCell_other _ ⟨r, 0, none⟩ k x (by simpa using e)]
theorem Al.one_is {w : World} {va : Option Addr} {vc : Nat} {l : List K.Rule} (R0 : V.Rus w (.slice va l.length vc) l) : V.ScIs (w.alloc (.cells #[.string ⟨#[]⟩, .slice va l.length vc] 42)) (.agg #[.bool false, .slice none 0 0, .slice (some ⟨w.heap.size, 0, none⟩) 1 1]) (Cn.oneS l) := by
  have hn := heap_alloc_new w (.cells #[.string ⟨#[]⟩, .slice va l.length vc] 42)
  refine ⟨none, 0, some ⟨w.heap.size, 0, none⟩, 1, rfl, S.Rd.nil _, by simp [Cn.oneS], some ⟨w.heap.size, 0, none⟩, 1, rfl, by simp [Cn.oneS], fun _ => ⟨w.heap.size, 0, rfl, fun j p hj => ?_⟩⟩
  match j, hj with
  | 0, hj =>
    have e : p = ⟨⟨#[]⟩, l⟩ := by simp [Cn.oneS] at hj; exact hj.symm
    subst e
    exact ⟨K.zaf (i := 0) hn rfl, by show (0 : Nat) ≤ _; omega, va, vc, K.zaf (i := 1) hn rfl, R0.below (Cn.al _ _)⟩
  | j + 1, hj => simp [Cn.oneS] at hj

set_option maxHeartbeats 16000000 in
theorem topAligned_any (hK : T.ClassOk) (w : World) (fs ts : ByteArray) (hfs : fs.size ≤ 1099511627776) (hts : ts.size ≤ 1099511627776) :
    Calls Tryz.prog 3 #[.string fs, .string ts] w fun e w' => e = .returned (.bool true) ∧ Below w.heap.size w w' := by
  obtain ⟨pl, hpl⟩ := Cn.zoc
  have HSi : Hid (∀ X, Calls Tryz.prog 5 #[.string fs] X fun e w' => ∃ v1 v2, e = .returned (.tuple #[v1, v2, .bool (Tp.singleF (M.rn fs)).2.2]) ∧ V.Rus w' v1 (Tp.singleF (M.rn fs)).1 ∧ V.Rus w' v2 (Tp.singleF (M.rn fs)).2.1 ∧ Below X.heap.size X w') := fun X => zio hK fs hfs X
  obtain ⟨⟨l, lb, ok⟩, hsi⟩ : ∃ o, Tp.singleF (M.rn fs) = o := ⟨_, rfl⟩
  rw [hsi] at HSi
  simp only at HSi
  have HDe : Hid (∀ X, Calls Tryz.prog 6 #[.string ts] X fun e w' => ∃ xo xc, e = .returned (.slice xo (M.rn ts).length xc) ∧ L.Rd w' (.slice xo (M.rn ts).length xc) .i32 (M.rn ts) ∧ (M.rn ts).length ≤ xc ∧ Below X.heap.size X w') := fun X => Tp.decode ts hts X
  have hrl : (M.rn ts).length ≤ 140737488355328 := by have := M.zn3 ts; omega
  generalize M.rn ts = t at *
  clear hsi
  go_enter Tryz.func3, Tryz.ntmps3
  go_wp2_with fail
  refine (zlh hK w).mono ?_
  rintro e w1 ⟨rfl, b1⟩
  have HB1 : Hid (Below w.heap.size w w1) := b1
  clear b1
  go_wp2_with fail
  refine (HSi.out _).mono ?_
  rintro e w2 ⟨v1, v2, rfl, hR, hRb, b2⟩
  have HB2 : Hid (Below w.heap.size w w2) := HB1.out.trans (b2.mono HB1.out.size)
  have HR2 : Hid (V.Rus w2 v1 l) := hR
  obtain ⟨va, vc, rfl⟩ := hR.len
  obtain ⟨vb, vd, rfl⟩ := hRb.len
  have hlf := hR.few
  clear b2 HSi HB1 hR hRb
  cases ok with
  | false =>
    clear HDe
    go_wp2
    go_ret
    exact ⟨rfl, HB2.out⟩
  | true =>
    go_wp2_with fail
    go_at_call 6
    refine (HDe.out _).mono ?_
    rintro e w3 ⟨xo, xc, rfl, d3, hxc, b3⟩
    have HB3 : Hid (Below w.heap.size w w3) := HB2.out.trans (b3.mono HB2.out.size)
    have hR3 := HR2.out.below b3
    have hLk := zjx w3 _ l hR3 _ t d3 hrl
    have HR3 : Hid (V.Rus w3 (.slice va l.length vc) l) := hR3
    have HD3 : Hid (L.Rd w3 (.slice xo t.length xc) .i32 t) := d3
    clear HDe b3 d3 hR3 HR2 HB2
    go_wp2_with fail
    go_at_call 7
    refine hLk.mono ?_
    rintro e w4 ⟨v4, o, rfl, hch, own4, b4⟩
    have HCh : Hid (Gm.Chk l t o) := hch
    have HOk : Hid ((Al.ans l t o).2.1 = 0 → o.2.1 = 0 ∧ (K.play l (8 * t.length + 40) [] t 0 0).1 = 0 ∧ K.sureB l = true ∧ Al.ans l t o = (Al.links l 0 (Al.shots l (8 * t.length + 40) [] t), 0, 0)) := Al.ans_ok
    generalize Al.ans l t o = an at *
    obtain ⟨Lk, f1, f2⟩ := an
    simp only at own4 HOk
    obtain ⟨p1, pc1, rfl, hc1⟩ := Al.lies own4
    have HOw : Hid (0 < Lk.length → ∃ g, p1 = some ⟨g, 0, none⟩ ∧ g < w4.heap.size ∧ ∀ j u, (Al.lcells Lk)[j]? = some u → w4.cell? ⟨g, j, none⟩ = some u) := hc1
    have HB4 : Hid (Below w3.heap.size w3 w4) := b4
    have HE4 : Hid (∀ o, Below w.heap.size w (w4.alloc o)) := fun o => by
      have h1 := HB3.out.trans (b4.mono HB3.out.size)
      exact h1.alloc h1.size o
    clear hLk hch own4 b4 hc1
    by_cases q : f1 = 0
    · subst q
      obtain ⟨h0, hp, hS, hz⟩ := HOk.out rfl
      simp only [Prod.mk.injEq, true_and] at hz
      obtain ⟨hLkE, rfl⟩ := hz
      obtain ⟨hs', o1, o2⟩ := o
      cases h0
      obtain ⟨ht4, hall, _, c, hok, _⟩ := HCh.out.ok
      have hE := hok.right
      have hl200 := hok.few
      obtain ⟨⟨p0, px, ps, pp⟩, hpl0⟩ : ∃ z, K.play l (8 * t.length + 40) [] t 0 0 = z := ⟨_, rfl⟩
      rw [hpl0] at hp
      have hp' : p0 = 0 := hp
      subst hp'
      have hW := Al.whole (t := t) hS hE (8 * t.length + 40) [] 0 0 0 (Nat.zero_le _) (by rw [List.drop_zero, hpl0])
      rw [List.drop_zero, hpl0, List.nil_append] at hW
      simp only at hW
      have hLl : Lk.length ≤ 32040 := by
        rw [hLkE, Al.zov]
        have := Al.zhd (l := l) (left := 8 * t.length + 40) (A := []) (Z := t)
        omega
      have hpx : px.length ≤ 4000 := by
        have h1 : (K.play l (8 * t.length + 40) [] t 0 0).2.1.length ≤ 4000 := K.zkf (by simpa using ht4)
        rw [hpl0] at h1
        exact h1
      have hW1 : px = Lk.flatMap (Al.cameOf l t) := by rw [hLkE]; exact hW.1
      have hW2 : ∀ x ∈ Lk, Al.Fits l t x := by rw [hLkE]; exact hW.2
      have HW1 : Hid (px = Lk.flatMap (Al.cameOf l t)) := hW1
      have HW2 : Hid (∀ x ∈ Lk, Al.Fits l t x) := hW2
      have HPre : Hid (∀ k, ((Lk.take k).flatMap (Al.cameOf l t)).length ≤ 4000) := fun k => by
        have := Al.prefix_len (f := Al.cameOf l t) (ls := Lk) (k := k)
        rw [← hW1] at this
        omega
      have HGo : Hid (∀ X, Below w3.heap.size w3 X → Calls Tryz.prog 8 #[.agg #[.bool false, .slice none 0 0, .slice (some ⟨X.heap.size, 0, none⟩) 1 1], .slice xo t.length xc] (X.alloc (.cells #[.string ⟨#[]⟩, .slice va l.length vc] 42)) fun e w' => ∃ v', e = .returned (.tuple #[v', .agg #[.int .i64 0, .int .i64 0]]) ∧ L.Rd w' v' .i32 px ∧ Below (X.alloc (.cells #[.string ⟨#[]⟩, .slice va l.length vc] 42)).heap.size (X.alloc (.cells #[.string ⟨#[]⟩, .slice va l.length vc] 42)) w') := fun X hX => by
        have h := zpo pl hpl _ _ (Cn.oneS l) (Al.one_is (HR3.out.below hX)) (fun x hx => by simp [Cn.oneS] at hx) xo xc t ((HD3.out.below hX (Nat.le_refl _)).below (Cn.al _ _) (Nat.le_refl _)) hxc hrl
        rw [Cn.ztj hpl (Al.chk_rules HCh.out) ⟨ht4, hall⟩ HCh.out rfl hpl0] at h
        exact h
      obtain ⟨W, hWd⟩ : ∃ W, W = w4.alloc (.cells #[.int .i64 0, .int .i64 0] 31) := ⟨_, rfl⟩
      have hWb : Below w4.heap.size w4 W := by rw [hWd]; exact Cn.al _ _
      have HW : Hid (Below w3.heap.size w3 W ∧ W.heap[w4.heap.size]? = some (.cells #[.int .i64 0, .int .i64 0] 31) ∧ Below w4.heap.size w4 W) := ⟨HB4.out.trans (hWb.mono HB4.out.size), by rw [hWd]; exact heap_alloc_new w4 _, hWb⟩
      have HEr : Hid (∀ r ∈ l, K.ruleE r = 0) := hE
      clear HOk hp hLkE hok hE hpl0 hW hW1 hW2 hWb hS hall HE4 HCh
      go_wp2
      try rw [← hWd]
      clear hWd
      go_loopw [11, 38] (fun i11 i38 wr => ∃ (k : Nat) (z : List Int) (zo : Option Addr) (zc : Nat), k ≤ Lk.length ∧ i38 = .int .i64 k ∧ i11 = .slice zo z.length zc ∧ z.length ≤ 4000 ∧ Hid (z = (Lk.take k).flatMap (Al.cameOf l t)) ∧ Hid (wr.ownsRow W.heap.size 21 1 (.slice zo z.length zc) z.length (K.ints z) ∧ Below W.heap.size W wr)) (fun _ i38 _ => Lk.length - (RowKit.intOf i38).toNat)
      case atStart => exact ⟨0, [], none, 0, Nat.zero_le _, rfl, rfl, by simp, by show _ = _; simp, World.ownsRow_nil _ _ _ _, Below.refl _ _⟩
      case round =>
        obtain ⟨k, z, zo, zc, hk, rfl, rfl, hzl, HZ, HI⟩ := hrel
        have hB4 : Below w4.heap.size w4 wr := HW.out.2.2.trans (HI.out.2.mono HW.out.2.2.size)
        have hB3 : Below w3.heap.size w3 wr := HW.out.1.trans (HI.out.2.mono HW.out.1.size)
        by_cases hlt : k < Lk.length
        · obtain ⟨x, hx⟩ : ∃ x, Lk[k]? = some x := ⟨Lk[k], by simp [hlt]⟩
          obtain ⟨g, rfl, hg, hc⟩ := HOw.out (by omega)
          obtain ⟨a0, a1, a2, a3, a4⟩ := Al.zow hx
          have c0 : wr.cell? ⟨g, k * 5, none⟩ = _ := (hB4.cell (p := ⟨g, _, none⟩) hg).trans (hc _ _ a0)
          have c1 : wr.cell? ⟨g, k * 5 + 1, none⟩ = _ := (hB4.cell (p := ⟨g, _, none⟩) hg).trans (hc _ _ a1)
          have c2 : wr.cell? ⟨g, k * 5 + 2, none⟩ = _ := (hB4.cell (p := ⟨g, _, none⟩) hg).trans (hc _ _ a2)
          have c3 : wr.cell? ⟨g, k * 5 + 3, none⟩ = _ := (hB4.cell (p := ⟨g, _, none⟩) hg).trans (hc _ _ a3)
          have c4 : wr.cell? ⟨g, k * 5 + 4, none⟩ = _ := (hB4.cell (p := ⟨g, _, none⟩) hg).trans (hc _ _ a4)
          obtain ⟨e1, e2, e3, e4⟩ := HW2.out x (List.mem_of_getElem? hx)
          have hnx : (Lk.take (k + 1)).flatMap (Al.cameOf l t) = z ++ Al.cameOf l t x := by
            rw [List.take_add_one, hx, List.flatMap_append, ← HZ.out]; simp
          have hln := HPre.out (k + 1)
          rw [hnx] at hln
          obtain ⟨q1, q2, q3, q4, q5⟩ := x
          simp only at c0 c1 c2 c3 c4 e1 e2 e3 e4
          obtain ⟨X, hX⟩ : ∃ X, X = wr.alloc (.cells #[.int .i64 q1, .int .i64 q2, .int .i64 q3, .int .i64 q4, .int .i64 q5] 35) := ⟨_, rfl⟩
          have hXb : Below wr.heap.size wr X := by rw [hX]; exact Cn.al _ _
          have ownX : X.ownsRow W.heap.size 21 1 (.slice zo z.length zc) z.length (K.ints z) := by rw [hX]; exact HI.out.1.alloc _
          have hXs : W.heap.size ≤ X.heap.size := by have := HI.out.2.size; have := hXb.size; omega
          obtain ⟨ia, hia⟩ : ∃ a : Nat, q1 = a := ⟨q1.toNat, by omega⟩
          obtain ⟨ib, hib⟩ : ∃ b : Nat, q2 = b := ⟨q2.toNat, by omega⟩
          subst hia hib
          have u1 : ¬ (ia : Int) < 0 := by omega
          have u2 : ¬ (t.length : Int) < ib := by omega
          have u3 : ¬ (ib : Int) < ia := by omega
          rcases e4 with e4 | ⟨j, r, e4, hj⟩
          · subst e4
            have u0 : ¬ ((l.length : Nat) : Int) ≤ -1 := by omega
            have hcm : Al.cameOf l t ⟨ia, ib, q3, q4, -1⟩ = (t.drop ia).take (ib - ia) := by
              unfold Al.cameOf
              rw [if_pos (show ((-1 : Int)) < 0 by decide)]
              simp
            rw [hcm] at hnx hln
            obtain ⟨ap, hap⟩ : ∃ ap, ap = (if xc = ia then xo else Option.map (fun x => x.add ia) xo) := ⟨_, rfl⟩
            have hsl : ∀ w', (Instr.slice 26 (.slice xo t.length xc) (some (.int .i64 (ia : Int))) (some (.int .i64 (ib : Int))) none).run Tryz.prog w' = .ok (.slice ap (ib - ia) (xc - ia)) w' := fun w' => by rw [hap]; exact Al.slice_mid xo t.length xc ia ib (by omega) (by omega) w'
            have hrw := Al.rd_win (HD3.out.below (hB3.trans (hXb.mono hB3.size)) (Nat.le_refl _)) (a := ia) (b := ib) (by omega) (by omega) hxc
            rw [← hap] at hrw
            have hlw : ((t.drop ia).take (ib - ia)).length = ib - ia := by rw [List.length_take, List.length_drop]; omega
            obtain ⟨v8, w8, run8, own8, gr8, _⟩ := K.zpq X W.heap.size _ z ownX (.slice ap (ib - ia) (xc - ia)) ((t.drop ia).take (ib - ia)) hrw (by rw [List.length_append] at hln; omega) hXs
            obtain ⟨zo8, zc8, rfl, _⟩ := Al.lies own8
            rw [hX] at run8
            have HN : Hid (z ++ (t.drop ia).take (ib - ia) = (Lk.take (k + 1)).flatMap (Al.cameOf l t) ∧ w8.ownsRow W.heap.size 21 1 (.slice zo8 (z ++ (t.drop ia).take (ib - ia)).length zc8) (z ++ (t.drop ia).take (ib - ia)).length (K.ints (z ++ (t.drop ia).take (ib - ia))) ∧ Below W.heap.size W w8 ∧ (z ++ (t.drop ia).take (ib - ia)).length ≤ 4000) := ⟨hnx.symm, own8, (HI.out.2.trans (hXb.mono HI.out.2.size)).grown gr8 (by omega) fun k' hk' => (ownX.lt k' hk').1, hln⟩
            generalize z ++ (t.drop ia).take (ib - ia) = z2 at *
            clear hcm hnx hln hrw hlw hap ownX own8 gr8 hXb hx hc a0 a1 a2 a3 a4 hX
            go_wp2_with (at_builtin; refine Lib.wpList_append_run _ rfl _ _ _ _ rfl _ _ rfl rfl _ _ (run8 _) ?_; clear run8)
            go_roundw
            case rel => exact ⟨k + 1, z2, zo8, zc8, by omega, by go_num, rfl, HN.out.2.2.2, HN.out.1, HN.out.2.1, HN.out.2.2.1⟩
            case measure => simp [RowKit.intOf]; omega
          · subst e4
            have hjl := (List.getElem?_eq_some_iff.1 hj).1
            have hcm : Al.cameOf l t ⟨ia, ib, q3, q4, j⟩ = r.target := by
              unfold Al.cameOf Al.ruleAt
              rw [if_neg (show ¬ (j : Int) < 0 by omega)]
              show ((l[(j : Int).toNat]?).getD K.noRule).target = _
              rw [Int.toNat_natCast, hj]; rfl
            rw [hcm] at hnx hln
            obtain ⟨ba, oa, bo, bc, so, sc, ao2, ac, tt, tc, hva, r0, r1, r2, r3, r4, r5, r6, hP⟩ := K.Rus.rule (HR3.out.below hB3) hj
            cases hva
            have hba : ba < wr.heap.size := L.block_lt r0
            have hnb : ba ≠ wr.heap.size := by omega
            have hPt : L.Rd wr (.slice tt r.target.length tc) .i32 r.target := by
              obtain ⟨_, _, _, _, _, _, _, _, he, _, _, _, h5, _⟩ := hP
              simp at he
              obtain ⟨_, _, _, ⟨q1', q2'⟩⟩ := he
              subst q1' q2'
              exact h5
            obtain ⟨v8, w8, run8, own8, gr8, _⟩ := K.zpq X W.heap.size _ z ownX (.slice tt r.target.length tc) r.target (hPt.below hXb (Nat.le_refl _)) (by rw [List.length_append] at hln; omega) hXs
            obtain ⟨zo8, zc8, rfl, _⟩ := Al.lies own8
            rw [hX] at run8
            have HN : Hid (z ++ r.target = (Lk.take (k + 1)).flatMap (Al.cameOf l t) ∧ w8.ownsRow W.heap.size 21 1 (.slice zo8 (z ++ r.target).length zc8) (z ++ r.target).length (K.ints (z ++ r.target)) ∧ Below W.heap.size W w8 ∧ (z ++ r.target).length ≤ 4000) := ⟨hnx.symm, own8, (HI.out.2.trans (hXb.mono HI.out.2.size)).grown gr8 (by omega) fun k' hk' => (ownX.lt k' hk').1, hln⟩
            generalize z ++ r.target = z2 at *
            have hj0 : (0 : Int) ≤ j := by omega
            have hjl2 : (j : Int) < l.length := by omega
            have u0 : ¬ ((l.length : Nat) : Int) ≤ j := by omega
            clear hcm hnx hln hPt hP ownX own8 gr8 hXb hx hc a0 a1 a2 a3 a4 hX hj
            go_wp2_with (at_builtin; refine Lib.wpList_append_run _ rfl _ _ _ _ rfl _ _ rfl rfl _ _ (run8 _) ?_; clear run8)
            go_roundw
            case rel => exact ⟨k + 1, z2, zo8, zc8, by omega, by go_num, rfl, HN.out.2.2.2, HN.out.1, HN.out.2.1, HN.out.2.2.1⟩
            case measure => simp [RowKit.intOf]; omega
        · have hke : k = Lk.length := by omega
          have hzx : px = z := by rw [HW1.out, HZ.out, hke, List.take_length]
          have hgo := HGo.out wr hB3
          have hbx := K.zae HW.out.2.1 HI.out.2
          have hEn : Below w.heap.size w wr := HB3.out.trans (hB3.mono HB3.out.size)
          have HZr : Hid (L.Rd wr (.slice zo z.length zc) .i32 z) := L.Rd.za3 HI.out.1
          have HBx : Hid (wr.heap[w4.heap.size]? = some (.cells #[.int .i64 0, .int .i64 0] 31)) := hbx
          have HEn : Hid (Below w.heap.size w wr) := hEn
          have HZx : Hid (px = z) := hzx
          clear hke hzx hbx hEn hB3 hB4 HGo
          go_wp2_with fail
          go_at_call 8
          refine hgo.mono ?_
          rintro e w7 ⟨v7, rfl, d7, b7⟩
          obtain ⟨wa, wcc, rfl⟩ : ∃ a c, v7 = .slice a px.length c := by obtain ⟨a, c, h, _⟩ := d7; exact ⟨a, c, h⟩
          have hal := Cn.al wr (.cells #[.string ⟨#[]⟩, .slice va l.length vc] 42)
          have hb7 : Below wr.heap.size wr w7 := hal.trans (b7.mono hal.size)
          have hbx7 := K.zae HBx.out hb7
          have hid := Tp.idle2 hbx7
          obtain ⟨y0, y1, ff0, ff1⟩ := V.box2 hbx7
          obtain ⟨W7, hW7⟩ : ∃ W7, W7 = (w7.setCell ⟨w4.heap.size, 0, none⟩ (.int .i64 0)).setCell ⟨w4.heap.size, 1, none⟩ (.int .i64 0) := ⟨_, rfl⟩
          rw [← hW7] at hid
          have t0 : W7.cell? ⟨w4.heap.size, 0, none⟩ = some (.int .i64 0) := K.zaf (K.zae hbx7 hid) rfl
          have hE7 : Below w.heap.size w W7 := (HEn.out.trans (hb7.mono HEn.out.size)).trans (hid.mono (by have := HEn.out.size; have := hb7.size; omega))
          have HSm : Hid (Calls Tryz.prog 9 #[.slice wa px.length wcc, .slice zo z.length zc] W7 fun e w' => e = .returned (.bool true) ∧ Below w.heap.size w w') := by
            show Calls _ _ _ _ _
            have hzx := HZx.out
            have hzr := HZr.out
            subst hzx
            refine (zn2 W7 _ _ px px (d7.below hid (Nat.le_refl _)) ((hzr.below hb7 (Nat.le_refl _)).below hid (Nat.le_refl _)) (by omega) (by omega)).mono ?_
            rintro e w' ⟨rfl, h⟩
            exact ⟨by simp, hE7.trans (h.mono hE7.size)⟩
          clear hgo d7 b7 hb7 hbx7 hid hE7 HZx hal
          go_upto_region 21 with fail
          rw [← hW7]
          clear hW7 y0 y1 ff0 ff1
          go_wp2_with fail
          refine HSm.out.mono ?_
          rintro e w8 ⟨rfl, b8⟩
          have HE8 : Hid (Below w.heap.size w w8) := b8
          clear b8 HSm
          go_wp2
          go_ret
          exact ⟨rfl, HE8.out⟩
    · clear HOk HOw
      go_wp2
      go_ret
      exact ⟨rfl, HE4.out _⟩

end Go.Proofs.YtmcljejgbikbhabGreatDoor
namespace Go.Proofs.YtmcljejgbikbhabGreatDoor
open Go.ChangeShapes Go.WideShapes Go.ChangeAt Go.RowKit
open Go.ChangeMaps (open_string shut_string)
set_option linter.unusedVariables false
set_option linter.unusedSimpArgs false
set_option maxRecDepth 100000 in
theorem topAlignedArgs {H:Type}{enc:TypeId×Value->H}{W:World}{base:Nat}{args:Array Value}{ds gs:List (DataW H)}{p:List MemPlace}
  (hval:∀(j:Nat) t v,Tryz.f3.params[j]?=some t->args[j]?=some v->Value.okWide Tryz.prog W .any base t v)
  (hA:DataW.TrodAll enc Tryz.prog W 0 (fun _=>true) true Tryz.f3.params.toList args.toList ds p) (hk:Rows.uptoSmall H (ds++gs)=true) :
  Calls Tryz.prog 3 args W fun e W'=>e= .returned (.bool true)/\Below W.heap.size W W':=by
 rw[Tryz.params3] at hA hval;obtain⟨v0,vs0,d0,ds0,p0,q0,hargs,rfl,rfl,h0,r0⟩:=trodAll_cons hA;obtain⟨v1,vs1,d1,ds1,p1,q1,rfl,rfl,rfl,h1,r1⟩:=trodAll_cons r0;obtain⟨rfl,rfl,rfl⟩:=trodAll_nil r1;obtain rfl:args=#[v0,v1]:=by cases args;simp_all
 obtain⟨a0,rfl,rfl,rfl,w0⟩:=open_string Tryz.underlying9 (hval 0 9 v0 rfl rfl) h0;obtain⟨a1,rfl,rfl,rfl,w1⟩:=open_string Tryz.underlying9 (hval 1 9 v1 rfl rfl) h1;have hb:=zs2 hk;simp only[zkx,Rows.uptoBulkAll,zjt] at hb;exact topAligned_any zrj W a0 a1 (by omega) (by omega)
set_option maxRecDepth 100000 in
theorem topAlignedContract (H:Type)(enc:TypeId×Value->H)(F:Stop.Interp)(W:World)(base:Nat)(args:Array Value)(ds gs:List (DataW H))(before:List MemPlace)
  (hval:∀(j:Nat) t v,Tryz.f3.params[j]?=some t->args[j]?=some v->Value.okWide Tryz.prog W .any base t v)
  (hW:DataW.Whole enc Tryz.prog Tryz.f3.params.toList (Rows.OpenSpec.upto Rows.topAlignedSpec).vars false W args.toList ds gs before) (hk:∀k,(Rows.OpenSpec.upto Rows.topAlignedSpec).cond=some k->k H (ds++gs)=true) (hL:laidMetH Tryz.prog Rows.topAlignedUptoRow.laid W) :
  Calls Tryz.prog 3 args W fun e W'=>∃v,e= .returned v/\((Rows.OpenSpec.upto Rows.topAlignedSpec).at F).post enc Tryz.prog Tryz.f3 false true false false W args v W':=by
 have hW':=hW;obtain⟨p,q,hA0,hV,rfl,hfz,hnd⟩:=hW;have hA:DataW.TrodAll enc Tryz.prog W 0 (fun _=>true) true Tryz.f3.params.toList args.toList ds p:=hA0;obtain⟨rfl,rfl⟩:=trodVars_none hV;refine(topAlignedArgs hval hA (hk Rows.uptoSmall rfl)).mono fun e W' ⟨he,bel⟩=> ?_
 subst he;have hA':=zc6 Tryz.laidOut bel _ _ _ _ (by kernel_rfl) hA
 obtain⟨x0,x1,rfl⟩:∃x0 x1,ds= [x0,x1]:=by
  rw[Tryz.params3] at hA;obtain⟨v0,vs0,d0,ds0,p0,q0,hargs,rfl,rfl,h0,r0⟩:=trodAll_cons hA;obtain⟨v1,vs1,d1,ds1,p1,q1,rfl,rfl,rfl,h1,r1⟩:=trodAll_cons r0;obtain⟨rfl,rfl,rfl⟩:=trodAll_nil r1;exact⟨_,_,rfl⟩
 exact⟨_,rfl,_,_,_,[],p,[],hW',trodAll_mk1 (shut_bool Tryz.underlying4 _),hA',rfl,bel.frame _,fun h=>by cases h⟩
noncomputable def topAlignedLow:Nat:=(World.holding Tryz.prog default ⟨#[],#[],[]⟩).heap.size
noncomputable def topAlignedWorld (os:Os):World :=
 let w0:=World.holding Tryz.prog os ⟨#[.cells #[.string ⟨#[105,110,118,97,108,105,100,32,115,121,110,116,97,120]⟩] 272,.cells #[.string ⟨#[118,97,108,117,101,32,111,117,116,32,111,102,32,114,97,110,103,101]⟩] 272],#[],[]⟩
 { w0 with heap:=((((w0.heap.modify 3 (relay pow10Cells)).modify 4 (relay tab32Cells)).modify 5 (relay tab64Cells)).modify 1 (relay #[.iface 270 (.pointer (some ⟨topAlignedLow,0,none⟩))])).modify 2 (relay #[.iface 270 (.pointer (some ⟨topAlignedLow+1,0,none⟩))]) }
theorem topAlignedMet (os:Os):laidMet Tryz.prog Rows.topAlignedUptoRow.laid ((topAlignedWorld os).forCall (fun _ _=>0) ⟨#[],#[.string .empty,.string .empty],[]⟩).memory :=
 laidMet_of_run' 8 (by kernel_rfl) (by kernel_rfl)
theorem topAlignedReads (os:Os){H:Type}(enc:TypeId×Value->H):∃places,DataW.whole enc Tryz.prog ((topAlignedWorld os).forCall (fun _ _=>0) ⟨#[],#[.string .empty,.string .empty],[]⟩).memory Tryz.f3.params.toList (Rows.OpenSpec.upto Rows.topAlignedSpec).vars false (#[.string .empty,.string .empty]:Array Value).toList 8=some ([.lit (.string []),.lit (.string [])],[],places) :=
 ⟨[],by kernel_rfl⟩
set_option maxRecDepth 100000 in
theorem topAlignedLifted (os:Os)(started:os.Started)(H:Type)(enc:TypeId×Value->H)(F:Stop.Interp) :
  ReturnsInHanded {} Tryz.checked os 3 .any ((Rows.OpenSpec.upto Rows.topAlignedSpec).preRow enc Tryz.prog Tryz.f3 Rows.topAlignedUptoRow.domain false Rows.topAlignedUptoRow.laid) (((Rows.OpenSpec.upto Rows.topAlignedSpec).at F).post enc Tryz.prog Tryz.f3 false true false false):=by
 obtain⟨places,hx⟩:=topAlignedReads os enc
 refine returnsInHanded_of_row (C:=Tryz.checked) (s:=(Rows.OpenSpec.upto Rows.topAlignedSpec)) Tryz.own started (by kernel_rfl) Tryz.func3
  (witness_row_at (enc:=enc) (C:=Tryz.checked) false (topAlignedWorld os) #[.string .empty,.string .empty] rfl (by kernel_rfl) (by kernel_rfl) (by kernel_rfl)
   (OpenSpec.preRow_of_cond 8 hx (by kernel_rfl) (fun k hk=>by cases hk;kernel_rfl) (by kernel_rfl) (topAlignedMet os))) ?_
 intro W base args ds gs before hval hW _ hk _ hL _ _;exact topAlignedContract H enc F W base args ds gs before hval hW hk hL
theorem topAlignedC0:(Rows.topAlignedUptoRow.inPlace==Tryz.pinned.checked.prog.inPlace 3)=true:=by kernel_rfl
theorem topAlignedC1:(Rows.topAlignedUptoRow.unfollowed==Tryz.pinned.checked.prog.unfollowed 3)=true:=by kernel_rfl
theorem topAlignedC2:(Rows.topAlignedUptoRow.recurses==Tryz.pinned.checked.prog.recurses 3)=true:=by kernel_rfl
theorem topAlignedC3:(Rows.topAlignedUptoRow.named==Tryz.pinned.checked.prog.varsNamed 3)=true:=by kernel_rfl
theorem topAlignedClosed:joinedFacts Tryz.pinned.checked.prog 3 Tryz.f3 (Rows.OpenSpec.upto Rows.topAlignedSpec).bare Rows.topAlignedUptoRow=true:=by
 unfold joinedFacts;rw[topAlignedC0,topAlignedC1,topAlignedC2,topAlignedC3]
 kernel_rfl
theorem topAlignedNamed:Tryz.pinned.checked.prog.funcNamed Rows.topAlignedUptoRow.func=some 3:=by kernel_rfl
theorem topAlignedSaid:Rows.TopAlignedUptoSaid :=
 OpenClaim.holds_of_cond 3 Tryz.f3 rfl rfl rfl rfl rfl rfl rfl ⟨rfl,rfl,rfl,rfl,rfl⟩ rfl rfl rfl rfl rfl topAlignedNamed Tryz.func3 topAlignedClosed
  (of_decide_eq_true (by kernel_rfl)) (by unfold Func.isWrapper;first | (rw[if_pos (by decide +kernel)];kernel_rfl) | (rw[if_neg (by decide +kernel)];exact⟨rfl,rfl⟩))
  (fun os started H enc _ F=>by rw[OpenClaim.pre_eq_preRow];exact topAlignedLifted os started H enc F)
theorem topAlignedPlain (f:FuncId)(fn:Func)(hf:Tryz.pinned.checked.prog.funcNamed "scriptshift/scripttop.TopAligned"=some f)(hfn:Tryz.pinned.checked.prog.funcs[f]?=some fn) :
  true=Tryz.pinned.checked.prog.looks []/\∀(j:Nat) t,fn.params[j]?=some t->Tryz.pinned.checked.prog.wantsStandIn t=false:=by
 obtain rfl:f=3:=Option.some.inj ((show Tryz.prog.funcNamed "scriptshift/scripttop.TopAligned"=some 3 by kernel_rfl).symm.trans hf) |>.symm
 obtain rfl:fn=Tryz.f3:=(Option.some.inj (Tryz.func3.symm.trans hfn)).symm;refine⟨by kernel_rfl,fun j t ht=> ?_⟩;rw[Tryz.params3] at ht;have hm:=Array.mem_of_getElem? ht;have hm2:t=9:=by simpa using hm
 subst hm2;exact(show Tryz.prog.wantsStandIn 9=false by kernel_rfl)
theorem topAligned_card:Rows.TopAlignedUptoCardSaid :=
 Claim7.holds_tied_plain_at .later [] _ _ _ _ topAlignedSaid (fun _ h=>by cases h) (by kernel_rfl) (fun _ h=>by cases h) topAlignedUpto_row_tie rfl ⟨rfl,rfl⟩ (by kernel_rfl) rfl topAlignedPlain (by kernel_rfl)
#print axioms topAligned_card
end Go.Proofs.YtmcljejgbikbhabGreatDoor
