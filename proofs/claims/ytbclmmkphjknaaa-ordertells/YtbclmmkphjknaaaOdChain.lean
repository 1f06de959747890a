/-
  Two texts held against each other: the document's answer.
-/
import Derived.Test.YtbclmmkphjknaaaOdRefOrd
import Derived.Deep.RegionHeld3
import Derived.Test.YtbclmmkphjknaaaOdApp
import Derived.Test.YtbclmmkphjknaaaNmPairs
namespace Go.Proofs.Ytbclmmkphjknaaa
open Go.RowKit
set_option maxRecDepth 20000
set_option linter.unusedSimpArgs false
set_option linter.unusedVariables false

theorem Od.Bx.below {W W' : World} {g : Nat} {a b c : Value} (h : Od.Bx W g a b c) (hb : Below W.heap.size W W') : Od.Bx W' g a b c := K.blk_below h hb

set_option maxHeartbeats 8000000 in
theorem odRefCmp_any (w : World) (va vb : Value) (a b : List Int) (Ra : L.Rd w va .i32 a) (Rb : L.Rd w vb .i32 b) (ha : a.length ≤ 140737488355328) (hb : b.length ≤ 140737488355328) :
    Calls Try.prog 20 #[va, vb] w fun e w' => e = .returned (.tuple #[.int .i64 (Od.cmpF a b).1, .int .i64 (Od.cmpF a b).2]) ∧ Below w.heap.size w w' := by
  have h1 := odRefRows_any w va a Ra ha
  have HR2 : Hid (∀ X, Below w.heap.size w X → Calls Try.prog 17 #[vb] X fun e w' => ∃ a b' c, e = .returned (.tuple #[.agg #[a, b', c], .int .i64 (Od.keyF b).2]) ∧ Od.Tri w' X.heap.size a b' c (Od.keyF b).1 ∧ Below X.heap.size X w') := fun X hX => odRefRows_any X vb b (Rb.below hX (Nat.le_refl _)) hb
  have ln1 := Od.key_len a (Nm.apart_len a)
  have ln2 := Od.key_len b (Nm.apart_len b)
  obtain ⟨q, hq⟩ : ∃ q, q = Od.cmpF a b := ⟨_, rfl⟩
  rw [← hq]
  unfold Od.cmpF at hq
  obtain ⟨⟨⟨x1, y1, z1⟩, e1⟩, he1⟩ : ∃ p, p = Od.keyF a := ⟨_, rfl⟩
  obtain ⟨⟨⟨x2, y2, z2⟩, e2⟩, he2⟩ : ∃ p, p = Od.keyF b := ⟨_, rfl⟩
  rw [← he1] at h1 hq ln1
  rw [← he2] at HR2 hq ln2
  simp only at h1 HR2 hq ln1 ln2
  obtain ⟨ao, ac, rfl, _, _⟩ := Ra
  obtain ⟨bo, bc, rfl, _, _⟩ := Rb
  have HQ : Hid (q = if e1 ≠ 0 then (0, e1) else if e2 ≠ 0 then (0, e2) else (Od.cmpK (x1, y1, z1) (x2, y2, z2), 0)) := hq
  clear he1 he2 hq ha hb
  go_enter Try.func20, Try.ntmps20
  go_wp2_with fail
  refine h1.mono ?_
  clear h1
  rintro e w1 ⟨a1, b1, c1, rfl, t1, bl1⟩
  obtain ⟨pa1, na1, da1, hv⟩ := t1.o1.sl
  subst hv
  obtain ⟨pb1, nb1, db1, hv⟩ := t1.o2.sl
  subst hv
  obtain ⟨pc1, nc1, dc1, hv⟩ := t1.o3.sl
  subst hv
  by_cases h1 : e1 = 0
  · subst h1
    obtain ⟨X1, hX1⟩ : ∃ X1, X1 = w1.alloc (.cells #[.slice pa1 na1 da1, .slice pb1 nb1 db1, .slice pc1 nc1 dc1] 37) := ⟨_, rfl⟩
    have bX1 : Below w1.heap.size w1 X1 := by rw [hX1]; exact (Below.refl _ w1).alloc (Nat.le_refl _) _
    have hx1 : Od.Bx X1 w1.heap.size (.slice pa1 na1 da1) (.slice pb1 nb1 db1) (.slice pc1 nc1 dc1) := by rw [hX1]; exact heap_alloc_new w1 _
    have hB1 : Below w.heap.size w X1 := bl1.trans (bX1.mono bl1.size)
    have h2 := HR2.out X1 hB1
    have HX1 : Hid (X1 = w1.alloc (.cells #[.slice pa1 na1 da1, .slice pb1 nb1 db1, .slice pc1 nc1 dc1] 37)) := hX1
    have HT1 : Hid (Od.Tri X1 w.heap.size (.slice pa1 na1 da1) (.slice pb1 nb1 db1) (.slice pc1 nc1 dc1) (x1, y1, z1) ∧ Od.Bx X1 w1.heap.size (.slice pa1 na1 da1) (.slice pb1 nb1 db1) (.slice pc1 nc1 dc1) ∧ Below w.heap.size w X1) := ⟨t1.below bX1, hx1, hB1⟩
    clear bX1 hx1 hB1 HR2 hX1 t1 bl1
    go_wp2_with fail
    rw [← HX1.out]
    refine h2.mono ?_
    clear h2 HX1
    rintro e w2 ⟨a2, b2, c2, rfl, t2, bl2⟩
    obtain ⟨pa2, na2, da2, hv⟩ := t2.o1.sl
    subst hv
    obtain ⟨pb2, nb2, db2, hv⟩ := t2.o2.sl
    subst hv
    obtain ⟨pc2, nc2, dc2, hv⟩ := t2.o3.sl
    subst hv
    by_cases h2 : e2 = 0
    · subst h2
      obtain ⟨X2, hX2⟩ : ∃ X2, X2 = w2.alloc (.cells #[.slice pa2 na2 da2, .slice pb2 nb2 db2, .slice pc2 nc2 dc2] 37) := ⟨_, rfl⟩
      have bX2 : Below w2.heap.size w2 X2 := by rw [hX2]; exact (Below.refl _ w2).alloc (Nat.le_refl _) _
      have hx2 : Od.Bx X2 w2.heap.size (.slice pa2 na2 da2) (.slice pb2 nb2 db2) (.slice pc2 nc2 dc2) := by rw [hX2]; exact heap_alloc_new w2 _
      have bX12 : Below X1.heap.size X1 X2 := bl2.trans (bX2.mono bl2.size)
      have hx1 := HT1.out.2.1.below bX12
      have HB : Hid (Below w.heap.size w X2) := HT1.out.2.2.trans (bX12.mono HT1.out.2.2.size)
      have tt1 := HT1.out.1.below bX12
      have tt2 := t2.below bX2
      have HXc : Hid (∀ W, Below X2.heap.size X2 W → Od.Bx W w1.heap.size (.slice pa1 na1 da1) (.slice pb1 nb1 db1) (.slice pc1 nc1 dc1) ∧ Od.Bx W w2.heap.size (.slice pa2 na2 da2) (.slice pb2 nb2 db2) (.slice pc2 nc2 dc2)) := fun W hW => ⟨hx1.below hW, hx2.below hW⟩
      have HC1 : Hid (∀ X, Below X2.heap.size X2 X → Calls Try.prog 42 #[.slice pa1 na1 da1, .slice pa2 na2 da2] X fun e w' => e = .returned (.int .i64 (Od.cmpL x1 x2)) ∧ Below X.heap.size X w') := fun X hX => odRefOrd_any X _ _ _ _ (tt1.o1.rd.below hX (Nat.le_refl _)) (tt2.o1.rd.below hX (Nat.le_refl _)) (by omega) (by omega)
      have HC2 : Hid (∀ X, Below X2.heap.size X2 X → Calls Try.prog 42 #[.slice pb1 nb1 db1, .slice pb2 nb2 db2] X fun e w' => e = .returned (.int .i64 (Od.cmpL y1 y2)) ∧ Below X.heap.size X w') := fun X hX => odRefOrd_any X _ _ _ _ (tt1.o2.rd.below hX (Nat.le_refl _)) (tt2.o2.rd.below hX (Nat.le_refl _)) (by omega) (by omega)
      have HC3 : Hid (∀ X, Below X2.heap.size X2 X → Calls Try.prog 42 #[.slice pc1 nc1 dc1, .slice pc2 nc2 dc2] X fun e w' => e = .returned (.int .i64 (Od.cmpL z1 z2)) ∧ Below X.heap.size X w') := fun X hX => odRefOrd_any X _ _ _ _ (tt1.o3.rd.below hX (Nat.le_refl _)) (tt2.o3.rd.below hX (Nat.le_refl _)) (by omega) (by omega)
      have hqq : q = (Od.cmpK (x1, y1, z1) (x2, y2, z2), 0) := by rw [HQ.out, if_neg (by simp), if_neg (by simp)]
      obtain ⟨o, q2⟩ := q
      obtain ⟨ho, hq2⟩ := Prod.mk.inj hqq
      subst hq2
      unfold Od.cmpK at ho
      simp only at ho
      generalize Od.cmpL x1 x2 = k1 at HC1 ho
      generalize Od.cmpL y1 y2 = k2 at HC2 ho
      generalize Od.cmpL z1 z2 = k3 at HC3 ho
      have HO : Hid (o = if k1 ≠ 0 then k1 else if k2 ≠ 0 then k2 else k3) := ho
      have HX2 : Hid (X2 = w2.alloc (.cells #[.slice pa2 na2 da2, .slice pb2 nb2 db2, .slice pc2 nc2 dc2] 37)) := hX2
      clear ho hqq HQ tt1 tt2 hx1 hx2 bX12 bX2 hX2 t2 bl2 HT1 ln1 ln2
      go_wp2
      rw [← HX2.out]
      clear HX2
      go_loopw [9] (fun vk wr => ∃ k : Nat, vk = .int .i64 k ∧ k ≤ 3 ∧ Hid (Below X2.heap.size X2 wr) ∧ Hid ((0 < k → k1 = 0) ∧ (1 < k → k2 = 0) ∧ (2 < k → k3 = 0))) (fun vk _ => 3 - (intOf vk).toNat)
      case atStart => exact ⟨0, rfl, by omega, Below.refl _ _, fun h => by omega, fun h => by omega, fun h => by omega⟩
      case round =>
       obtain ⟨k, rfl, hk, HW, HD⟩ := hrel
       have hk4 : k = 0 ∨ k = 1 ∨ k = 2 ∨ k = 3 := by omega
       rcases hk4 with rfl | rfl | rfl | rfl
       · have hC := HC1.out wr.drew HW.out.drew
         have q0 : Hid (wr.drew.cell? ⟨w1.heap.size, 0, none⟩ = some (.slice pa1 na1 da1) ∧ wr.drew.cell? ⟨w2.heap.size, 0, none⟩ = some (.slice pa2 na2 da2)) := ⟨(HXc.out wr.drew HW.out.drew).1.at.1, (HXc.out wr.drew HW.out.drew).2.at.1⟩
         have HXw : Hid (∀ W, Below wr.drew.heap.size wr.drew W → W.cell? ⟨w1.heap.size, 0, none⟩ = some (.slice pa1 na1 da1) ∧ W.cell? ⟨w2.heap.size, 0, none⟩ = some (.slice pa2 na2 da2)) := fun W hW => by
           have h := HXc.out W (HW.out.drew.trans (hW.mono HW.out.size))
           exact ⟨h.1.at.1, h.2.at.1⟩
         have hHC : Hid (Calls Try.prog 42 #[(.slice pa1 na1 da1), (.slice pa2 na2 da2)] wr.drew fun e w' => e = .returned (.int .i64 k1) ∧ Below wr.drew.heap.size wr.drew w') := hC
         have hws : X2.heap.size ≤ wr.drew.heap.size := HW.out.size
         clear hC HC1 HC2 HC3
         by_cases hz : k1 = 0
         · subst hz
           have HE := HD.out
           clear HD
           go_wp2_with fail
           go_region_held3 (fun w' => w'.cell? ⟨w1.heap.size, 0, none⟩ = some (.slice pa1 na1 da1) ∧ w'.cell? ⟨w2.heap.size, 0, none⟩ = some (.slice pa2 na2 da2)) (first | with_reducible exact q0.out | with_reducible exact q1 | fail)
             (first
               | (go_at_call 42; with_reducible refine hHC.out.mono ?_; rintro e wd1 ⟨rfl, bd1⟩; have q1 := HXw.out wd1 bd1)
               | fail)
           have HBn : Hid (Below X2.heap.size X2 wd1) := HW.out.drew.trans (bd1.mono hws)
           go_wp2
           go_roundw
           case rel => exact ⟨1, by go_num, by omega, HBn, by simp, fun h => by omega, fun h => by omega⟩
           case measure => simp [intOf]
         · have he : o = k1 := by
             have HE := HD.out
             rw [HO.out]
             rw [if_pos hz]
           clear HD HO
           subst he
           go_wp2_with fail
           go_region_held3 (fun w' => w'.cell? ⟨w1.heap.size, 0, none⟩ = some (.slice pa1 na1 da1) ∧ w'.cell? ⟨w2.heap.size, 0, none⟩ = some (.slice pa2 na2 da2)) (first | with_reducible exact q0.out | with_reducible exact q1 | fail)
             (first
               | (go_at_call 42; with_reducible refine hHC.out.mono ?_; rintro e wd1 ⟨rfl, bd1⟩; have q1 := HXw.out wd1 bd1)
               | fail)
           have HBn : Hid (Below w.heap.size w wd1) := HB.out.trans ((HW.out.drew.trans (bd1.mono hws)).mono HB.out.size)
           go_wp2
           refine bodyPost_ret (v := .tuple #[.int .i64 o, .int .i64 0]) (by simp [results, Try.results20, go_sem, *]) rfl ?_
           exact ⟨rfl, HBn.out⟩
       · have hC := HC2.out wr.drew HW.out.drew
         have q0 : Hid (wr.drew.cell? ⟨w1.heap.size, 1, none⟩ = some (.slice pb1 nb1 db1) ∧ wr.drew.cell? ⟨w2.heap.size, 1, none⟩ = some (.slice pb2 nb2 db2)) := ⟨(HXc.out wr.drew HW.out.drew).1.at.2.1, (HXc.out wr.drew HW.out.drew).2.at.2.1⟩
         have HXw : Hid (∀ W, Below wr.drew.heap.size wr.drew W → W.cell? ⟨w1.heap.size, 1, none⟩ = some (.slice pb1 nb1 db1) ∧ W.cell? ⟨w2.heap.size, 1, none⟩ = some (.slice pb2 nb2 db2)) := fun W hW => by
           have h := HXc.out W (HW.out.drew.trans (hW.mono HW.out.size))
           exact ⟨h.1.at.2.1, h.2.at.2.1⟩
         have hHC : Hid (Calls Try.prog 42 #[(.slice pb1 nb1 db1), (.slice pb2 nb2 db2)] wr.drew fun e w' => e = .returned (.int .i64 k2) ∧ Below wr.drew.heap.size wr.drew w') := hC
         have hws : X2.heap.size ≤ wr.drew.heap.size := HW.out.size
         clear hC HC1 HC2 HC3
         by_cases hz : k2 = 0
         · subst hz
           have HE := HD.out
           clear HD
           go_wp2_with fail
           go_region_held3 (fun w' => w'.cell? ⟨w1.heap.size, 1, none⟩ = some (.slice pb1 nb1 db1) ∧ w'.cell? ⟨w2.heap.size, 1, none⟩ = some (.slice pb2 nb2 db2)) (first | with_reducible exact q0.out | with_reducible exact q1 | fail)
             (first
               | (go_at_call 42; with_reducible refine hHC.out.mono ?_; rintro e wd1 ⟨rfl, bd1⟩; have q1 := HXw.out wd1 bd1)
               | fail)
           have HBn : Hid (Below X2.heap.size X2 wd1) := HW.out.drew.trans (bd1.mono hws)
           go_wp2
           go_roundw
           case rel => exact ⟨2, by go_num, by omega, HBn, fun _ => HE.1 (by omega), by simp, fun h => by omega⟩
           case measure => simp [intOf]
         · have he : o = k2 := by
             have HE := HD.out
             rw [HO.out]
             rw [if_neg (by rw [HE.1 (by omega)]; simp)]
             rw [if_pos hz]
           clear HD HO
           subst he
           go_wp2_with fail
           go_region_held3 (fun w' => w'.cell? ⟨w1.heap.size, 1, none⟩ = some (.slice pb1 nb1 db1) ∧ w'.cell? ⟨w2.heap.size, 1, none⟩ = some (.slice pb2 nb2 db2)) (first | with_reducible exact q0.out | with_reducible exact q1 | fail)
             (first
               | (go_at_call 42; with_reducible refine hHC.out.mono ?_; rintro e wd1 ⟨rfl, bd1⟩; have q1 := HXw.out wd1 bd1)
               | fail)
           have HBn : Hid (Below w.heap.size w wd1) := HB.out.trans ((HW.out.drew.trans (bd1.mono hws)).mono HB.out.size)
           go_wp2
           refine bodyPost_ret (v := .tuple #[.int .i64 o, .int .i64 0]) (by simp [results, Try.results20, go_sem, *]) rfl ?_
           exact ⟨rfl, HBn.out⟩
       · have hC := HC3.out wr.drew HW.out.drew
         have q0 : Hid (wr.drew.cell? ⟨w1.heap.size, 2, none⟩ = some (.slice pc1 nc1 dc1) ∧ wr.drew.cell? ⟨w2.heap.size, 2, none⟩ = some (.slice pc2 nc2 dc2)) := ⟨(HXc.out wr.drew HW.out.drew).1.at.2.2, (HXc.out wr.drew HW.out.drew).2.at.2.2⟩
         have HXw : Hid (∀ W, Below wr.drew.heap.size wr.drew W → W.cell? ⟨w1.heap.size, 2, none⟩ = some (.slice pc1 nc1 dc1) ∧ W.cell? ⟨w2.heap.size, 2, none⟩ = some (.slice pc2 nc2 dc2)) := fun W hW => by
           have h := HXc.out W (HW.out.drew.trans (hW.mono HW.out.size))
           exact ⟨h.1.at.2.2, h.2.at.2.2⟩
         have hHC : Hid (Calls Try.prog 42 #[(.slice pc1 nc1 dc1), (.slice pc2 nc2 dc2)] wr.drew fun e w' => e = .returned (.int .i64 k3) ∧ Below wr.drew.heap.size wr.drew w') := hC
         have hws : X2.heap.size ≤ wr.drew.heap.size := HW.out.size
         clear hC HC1 HC2 HC3
         by_cases hz : k3 = 0
         · subst hz
           have HE := HD.out
           clear HD
           go_wp2_with fail
           go_region_held3 (fun w' => w'.cell? ⟨w1.heap.size, 2, none⟩ = some (.slice pc1 nc1 dc1) ∧ w'.cell? ⟨w2.heap.size, 2, none⟩ = some (.slice pc2 nc2 dc2)) (first | with_reducible exact q0.out | with_reducible exact q1 | fail)
             (first
               | (go_at_call 42; with_reducible refine hHC.out.mono ?_; rintro e wd1 ⟨rfl, bd1⟩; have q1 := HXw.out wd1 bd1)
               | fail)
           have HBn : Hid (Below X2.heap.size X2 wd1) := HW.out.drew.trans (bd1.mono hws)
           go_wp2
           go_roundw
           case rel => exact ⟨3, by go_num, by omega, HBn, fun _ => HE.1 (by omega), fun _ => HE.2.1 (by omega), by simp⟩
           case measure => simp [intOf]
         · have he : o = k3 := by
             have HE := HD.out
             rw [HO.out]
             rw [if_neg (by rw [HE.1 (by omega)]; simp)]
             rw [if_neg (by rw [HE.2.1 (by omega)]; simp)]
           clear HD HO
           subst he
           go_wp2_with fail
           go_region_held3 (fun w' => w'.cell? ⟨w1.heap.size, 2, none⟩ = some (.slice pc1 nc1 dc1) ∧ w'.cell? ⟨w2.heap.size, 2, none⟩ = some (.slice pc2 nc2 dc2)) (first | with_reducible exact q0.out | with_reducible exact q1 | fail)
             (first
               | (go_at_call 42; with_reducible refine hHC.out.mono ?_; rintro e wd1 ⟨rfl, bd1⟩; have q1 := HXw.out wd1 bd1)
               | fail)
           have HBn : Hid (Below w.heap.size w wd1) := HB.out.trans ((HW.out.drew.trans (bd1.mono hws)).mono HB.out.size)
           go_wp2
           refine bodyPost_ret (v := .tuple #[.int .i64 o, .int .i64 0]) (by simp [results, Try.results20, go_sem, *]) rfl ?_
           exact ⟨rfl, HBn.out⟩
       · have he : o = 0 := by
           obtain ⟨h1, h2, h3⟩ := HD.out
           rw [HO.out, h1 (by omega), h2 (by omega), h3 (by omega)]
           rfl
         have HBn : Hid (Below w.heap.size w wr) := HB.out.trans (HW.out.mono HB.out.size)
         clear HC1 HC2 HC3 HD HO
         subst he
         go_wp2
         refine bodyPost_ret (v := .tuple #[.int .i64 0, .int .i64 0]) (by simp [results, Try.results20, go_sem, *]) rfl ?_
         exact ⟨rfl, HBn.out⟩
    · have hqq : q = (0, e2) := by rw [HQ.out, if_neg (by simp), if_pos h2]
      subst hqq
      have HBn : Hid (Below w.heap.size w w2) := HT1.out.2.2.trans (bl2.mono HT1.out.2.2.size)
      clear t2 bl2 HT1 HQ ln1 ln2
      go_wp2
      refine bodyPost_ret (v := .tuple #[.int .i64 0, .int .i64 e2]) (by simp [results, Try.results20, go_sem, *]) rfl ?_
      exact ⟨rfl, HBn.out.alloc HBn.out.size _⟩
  · have hqq : q = (0, e1) := by rw [HQ.out, if_pos h1]
    subst hqq
    have HBn : Hid (Below w.heap.size w w1) := bl1
    clear t1 bl1 HQ ln1 ln2
    go_wp2
    refine bodyPost_ret (v := .tuple #[.int .i64 0, .int .i64 e1]) (by simp [results, Try.results20, go_sem, *]) rfl ?_
    exact ⟨rfl, HBn.out.alloc HBn.out.size _⟩

end Go.Proofs.Ytbclmmkphjknaaa

/-
  append(append(append([]int{}, out[:k]...), x), out[k:]...), in each order that Go may take.
-/
namespace Go.Proofs.Ytbclmmkphjknaaa.Od
open Go.RowKit
set_option linter.unusedSimpArgs false
set_option linter.unusedVariables false

theorem longs_length (t : List Int) : (longs t).length = t.length := by simp [longs]
theorem longs_one (t : List Int) : ∀ v ∈ longs t, v.oneCell' = true := fun v hv => by obtain ⟨z, _, rfl⟩ := List.mem_map.1 hv; rfl
theorem longs_get {t : List Int} {j : Nat} {v : Value} (h : (longs t)[j]? = some v) : ∃ z, t[j]? = some z ∧ v = .int .i64 z := by
  unfold longs at h
  rw [List.getElem?_map] at h
  cases hz : t[j]? with
  | none => rw [hz] at h; cases h
  | some z => rw [hz] at h; cases h; exact ⟨z, rfl, rfl⟩
theorem app_rd (w : World) (B : Nat) (v : Value) (t : List Int) (own : w.ownsRow B 3 1 v t.length (longs t)) (vx : Value) (zs : List Int) (hx : L.Rd w vx .i64 zs) (hl : t.length + zs.length ≤ 100000000) (hB : B ≤ w.heap.size) :
    ∃ v' w', (∀ ty, (Builtin.append_ #[34, 34] ty #[v, vx]).run Try.prog w = .ok v' w') ∧ w'.ownsRow B 3 1 v' (t ++ zs).length (longs (t ++ zs)) ∧ w.grownBy w' v.ownBlock ∧ (v'.ownBlock = v.ownBlock ∨ ∃ k, v'.ownBlock = some k ∧ w.heap.size ≤ k) := by
  obtain ⟨i0, hi, hz0, hz1, hz2⟩ := info_parts Try.infoInt
  have he : longs (t ++ zs) = longs t ++ longs zs := by unfold longs; rw [List.map_append]
  have hle : (t ++ zs).length = t.length + zs.length := List.length_append
  by_cases h0 : zs = []
  · subst h0
    obtain ⟨ao, cx, rfl, hn, hc⟩ := hx
    obtain ⟨vo, vc, rfl, hvc⟩ : ∃ vo vc, v = .slice vo t.length vc ∧ t.length ≤ vc := by
      rcases own.2 with ⟨h, h1⟩ | ⟨g, cap, cur, h, _, _, h1, _⟩
      · exact ⟨none, 0, by rw [h, h1], by omega⟩
      · exact ⟨_, cap, h, h1⟩
    refine ⟨_, w, fun ty => ?_, by simpa using own, ⟨rfl, rfl, rfl, Nat.le_refl _, fun _ _ _ => rfl⟩, .inl rfl⟩
    refine Go.run_append_nothing (P := Try.prog) w _ _ ty 3 i0 Try.underlying34 hi vo t.length vc hvc _ ?_
    cases ao with
    | none => exact Go.Src.ofNil w Try.underlying34 cx
    | some ad => exact Go.Src.ofSlice w Try.underlying34 ad 0 cx [] (by simp) (fun j u h => by simp at h) (fun u h => by simp at h)
  · obtain ⟨ao, cx, rfl, _, hcx⟩ := hx
    obtain ⟨bx, offx, rfl, hcellx⟩ := hcx h0
    have hp := List.length_pos_iff.2 h0
    have hnews : ∀ j u, (longs zs)[j]? = some u → w.cell? ((⟨bx, offx, none⟩ : Addr).add j) = some u := fun j u hj => by
      obtain ⟨z, hz, rfl⟩ := longs_get hj
      rw [L.addr_add]; exact hcellx j z hz
    have blk : ∀ (v' : Value) (w' : World), w'.ownsRow w.heap.size 3 1 v' (t.length + zs.length) (longs t ++ longs zs) → ∃ k, v'.ownBlock = some k ∧ w.heap.size ≤ k := fun v' w' h => by
      rcases h.2 with ⟨_, h1⟩ | ⟨g, cap, cur, h, hg, _⟩
      · omega
      · exact ⟨g, by rw [h]; rfl, hg⟩
    rw [he, hle]
    rcases own.2 with ⟨hv, h1⟩ | ⟨g, cap, cur, hv, hBg, hg, hnc, hcm, hcs, htk⟩
    · have ht : t = [] := List.eq_nil_of_length_eq_zero h1
      subst ht hv
      obtain ⟨v', w', hrun, r1, r2, _⟩ := run_append_own (P := Try.prog) w w.heap.size 34 0 3 i0 (.int .i64 0) 1 8 Try.underlying34 hi hz0 hz1 hz2 rfl (by decide) (.slice none 0 0) 0 [] (World.ownsRow_nil w _ _ _) ⟨bx, offx, none⟩ zs.length cx (longs zs) (by rw [longs_length]; omega) hnews (longs_one zs) (by unfold maxLen; simp at hl; omega) (by simp at hl; omega) (Nat.le_refl _)
      exact ⟨v', w', fun ty => hrun, L.owns_base r1 hB, r2, .inr (blk v' w' r1)⟩
    · subst hv
      by_cases hf : t.length + zs.length ≤ cap
      · obtain ⟨w', hrun, r1, r2⟩ := run_append_fits (P := Try.prog) w B 34 0 3 i0 1 Try.underlying34 hi hz1 g t.length cap (longs t) own ⟨bx, offx, none⟩ zs.length cx (longs zs) (by rw [longs_length]; omega) hnews (longs_one zs) hf
        exact ⟨_, w', fun ty => hrun, r1, r2, .inl rfl⟩
      · obtain ⟨v', w', hrun, r1, r2⟩ := run_append_arg_grows (P := Try.prog) w 34 0 3 i0 (.int .i64 0) 1 8 Try.underlying34 hi hz0 hz1 hz2 rfl (by decide) ⟨g, 0, none⟩ t.length cap (longs t) (by rw [longs_length]; omega) (fun j u hj => World.ownsRow.cells own (g := g) rfl j u hj) ⟨bx, offx, none⟩ zs.length cx (longs zs) (by rw [longs_length]; omega) hnews (by omega) (by unfold maxLen; omega) (by omega)
        exact ⟨v', w', fun ty => hrun, L.owns_base r1 hB, ⟨r2.os, r2.tape, r2.output, r2.size, fun k hk _ => r2.block k hk (by simp)⟩, .inr (blk v' w' r1)⟩

theorem app1x {w : World} {B : Nat} {vo : Value} {o : List Int} (own : w.ownsRow B 3 1 vo o.length (Od.longs o)) (hB : B ≤ w.heap.size) (hl : o.length ≤ 100000) (z : Int) :
    ∃ v' w', (∀ ty, (Builtin.append_ #[34, 34] ty #[vo, .slice (some ⟨w.heap.size, 0, none⟩) 1 1]).run Try.prog (w.alloc (.cells #[.int .i64 z] 3)) = .ok v' w') ∧ w'.ownsRow B 3 1 v' (o ++ [z]).length (Od.longs (o ++ [z])) ∧ (∀ b, b < w.heap.size → vo.ownBlock ≠ some b → w'.heap[b]? = w.heap[b]?) ∧ w.heap.size ≤ w'.heap.size ∧ Below B w w' ∧ (v'.ownBlock = vo.ownBlock ∨ ∃ k, v'.ownBlock = some k ∧ w.heap.size ≤ k) := by
  obtain ⟨ao, cap, w', run, own', kp, sz, be, nw⟩ := app (sl := 34) Try.underlying34 Try.infoInt rfl (by decide) (by decide) own hB (by omega) [.int .i64 z] rfl (fun u hu => by simp at hu; subst hu; rfl)
  refine ⟨_, w', run, ?_, kp, sz, be, nw⟩
  unfold longs
  rw [List.map_append, List.length_append]
  exact own'
theorem rd1 {W : World} {g : Nat} {z : Int} (h : W.cell? ⟨g, 0, none⟩ = some (.int .i64 z)) : L.Rd W (.slice (some ⟨g, 0, none⟩) 1 1) .i64 [z] :=
  ⟨_, _, rfl, fun e => by (cases e), fun _ => ⟨_, 0, rfl, fun j y hj => by
    match j, hj with
    | 0, hj => cases hj; exact h
    | n + 1, hj => simp at hj⟩⟩
/-- one append -/
theorem ap {W : World} {F : Nat} {v : Value} {t : List Int} (own : W.ownsRow F 3 1 v t.length (Od.longs t)) {vx : Value} {zs : List Int} (hx : L.Rd W vx .i64 zs) (hl : t.length + zs.length ≤ 1000000) (hF : F ≤ W.heap.size) :
    ∃ v' w', (∀ ty, (Builtin.append_ #[34, 34] ty #[v, vx]).run Try.prog W = .ok v' w') ∧ w'.ownsRow F 3 1 v' (t ++ zs).length (Od.longs (t ++ zs)) ∧ (∀ b, b < W.heap.size → v.ownBlock ≠ some b → w'.heap[b]? = W.heap[b]?) ∧ W.heap.size ≤ w'.heap.size ∧ Below F W w' ∧ (v'.ownBlock = v.ownBlock ∨ ∃ k, v'.ownBlock = some k ∧ W.heap.size ≤ k) := by
  obtain ⟨v', w', run, own', gr, hn⟩ := app_rd W F v t own vx zs hx (by omega) hF
  exact ⟨v', w', run, own', Nm.kept_of gr, gr.size, (Below.refl _ W).grown gr hF fun k hk => (own.lt k hk).1, hn⟩
/-- the parts of a row of one's own, as slices of it -/
def sB (xo : Option Addr) (N xc k : Nat) : Value := .slice (if xc = k then xo else Option.map (fun x : Addr => x.add k) xo) (N - k) (xc - k)
theorem parts {W : World} {F N xc : Nat} {xo : Option Addr} {A B : List Int} (h : W.ownsRow F 3 1 (.slice xo N xc) N (Od.longs (A ++ B))) :
    L.Rd W (.slice xo A.length xc) .i64 A ∧ L.Rd W (sB xo N xc A.length) .i64 B := by
  have hN : N = A.length + B.length := by
    have := h.1
    simp [Od.longs] at this
    omega
  rcases h.2 with ⟨e, h0⟩ | ⟨g, cap, cur, e, hg, hb, hn, hm, hs, ht⟩
  · have e1 := e
    simp only [Value.slice.injEq] at e1
    obtain ⟨rfl, -, rfl⟩ := e1
    have hA : A = [] := List.eq_nil_of_length_eq_zero (by omega)
    have hB : B = [] := List.eq_nil_of_length_eq_zero (by omega)
    subst hA hB
    exact ⟨⟨none, 0, rfl, fun _ => rfl, fun h => absurd rfl h⟩, ⟨none, 0, by unfold sB; simp [h0], fun _ => rfl, fun h => absurd rfl h⟩⟩
  · have e1 := e
    simp only [Value.slice.injEq] at e1
    obtain ⟨rfl, -, rfl⟩ := e1
    have hc : ∀ j z, (A ++ B)[j]? = some z → W.cell? ⟨g, j, none⟩ = some (.int .i64 z) := fun j z hj => by
      have := h.cells (g := g) rfl j (.int .i64 z) (by unfold Od.longs; rw [List.getElem?_map, hj]; rfl)
      rwa [L.addr_add, Nat.zero_add] at this
    refine ⟨⟨_, _, rfl, fun e => by (cases e), fun _ => ⟨g, 0, rfl, fun j z hj => by
      rw [Nat.zero_add]
      exact hc j z (by rw [List.getElem?_append_left (List.getElem?_eq_some_iff.1 hj).1]; exact hj)⟩⟩, ?_⟩
    unfold sB
    by_cases hk : xc = A.length
    · have hB : B = [] := List.eq_nil_of_length_eq_zero (by omega)
      subst hB
      rw [if_pos hk]
      exact ⟨_, _, by rw [show N - A.length = ([] : List Int).length by simp at hN ⊢; omega], fun e => by (cases e), fun h => absurd rfl h⟩
    · rw [if_neg hk, Option.map_some, L.addr_add, Nat.zero_add]
      exact ⟨_, _, by rw [show N - A.length = B.length by omega], fun e => by (cases e), fun _ => ⟨g, A.length, rfl, fun j z hj => hc _ z (by rw [List.getElem?_append_right (by omega), Nat.add_sub_cancel_left]; exact hj)⟩⟩
/-- where the empty slice is laid ahead of the first append, the rune's too -/
theorem chain {W : World} {F G N xc eb xb : Nat} {xo : Option Addr} {A B : List Int} {x : Int} (hO : W.ownsRow G 3 1 (.slice xo N xc) N (Od.longs (A ++ B))) (hE : W.ownsRow F 3 1 (.slice (some ⟨eb, 0, none⟩) 0 0) ([] : List Int).length (Od.longs []))
    (hx : W.cell? ⟨xb, 0, none⟩ = some (.int .i64 x)) (hne : xb ≠ eb) (ho : ∀ b, (Value.slice xo N xc).ownBlock = some b → b < W.heap.size ∧ b ≠ eb) (hF : F ≤ W.heap.size) (hl : N ≤ 100000) :
    ∃ v1 w1 v2 w2 v3 w3, (∀ ty, (Builtin.append_ #[34, 34] ty #[.slice (some ⟨eb, 0, none⟩) 0 0, .slice xo A.length xc]).run Try.prog W = .ok v1 w1) ∧ (∀ ty, (Builtin.append_ #[34, 34] ty #[v1, .slice (some ⟨xb, 0, none⟩) 1 1]).run Try.prog w1 = .ok v2 w2) ∧ (∀ ty, (Builtin.append_ #[34, 34] ty #[v2, sB xo N xc A.length]).run Try.prog w2 = .ok v3 w3) ∧ w3.ownsRow F 3 1 v3 (A ++ x :: B).length (Od.longs (A ++ x :: B)) ∧ Below F W w3 := by
  have hN : N = A.length + B.length := by
    have := hO.1
    simp [Od.longs] at this
    omega
  have hxl := L.block_lt hx
  obtain ⟨v1, w1, r1, o1, k1, s1, b1, n1⟩ := ap hE (parts hO).1 (by simp; omega) hF
  rw [List.nil_append] at o1
  have hv0 : (Value.slice (some ⟨eb, 0, none⟩) 0 0).ownBlock = some eb := rfl
  have hx1 : w1.cell? ⟨xb, 0, none⟩ = some (.int .i64 x) := (Nm.cell_eq (k1 xb hxl (by rw [hv0]; exact fun e => hne (Option.some.inj e).symm))).trans hx
  have hO1 : w1.ownsRow G 3 1 (.slice xo N xc) N (Od.longs (A ++ B)) := Al.held hO fun q hq hlt => k1 q hlt (by rw [hv0]; exact fun e => (ho q hq).2 (Option.some.inj e).symm)
  obtain ⟨v2, w2, r2, o2, k2, s2, b2, n2⟩ := ap o1 (rd1 hx1) (by simp; omega) (Nat.le_trans hF s1)
  have hnb : ∀ q, (Value.slice xo N xc).ownBlock = some q → q < w1.heap.size ∧ v1.ownBlock ≠ some q := fun q hq => by
    obtain ⟨h1, h2⟩ := ho q hq
    refine ⟨by omega, fun e => ?_⟩
    rcases n1 with n1 | ⟨k, n1, h3⟩
    · rw [n1, hv0] at e; exact h2 (Option.some.inj e).symm
    · rw [n1] at e; have := Option.some.inj e; omega
  have hO2 : w2.ownsRow G 3 1 (.slice xo N xc) N (Od.longs (A ++ B)) := Al.held hO1 fun q hq hlt => k2 q hlt (hnb q hq).2
  obtain ⟨v3, w3, r3, o3, k3, s3, b3, n3⟩ := ap o2 (parts hO2).2 (by simp; omega) (Nat.le_trans hF (Nat.le_trans s1 s2))
  refine ⟨v1, w1, v2, w2, v3, w3, r1, r2, r3, ?_, b1.trans (b2.trans b3)⟩
  have e : A ++ x :: B = A ++ [x] ++ B := by simp
  rw [e]; exact o3
/-- where the rune's slice is laid behind the first append -/
theorem chain3 {W : World} {F G N xc eb : Nat} {xo : Option Addr} {A B : List Int} {x : Int} (hO : W.ownsRow G 3 1 (.slice xo N xc) N (Od.longs (A ++ B))) (hE : W.ownsRow F 3 1 (.slice (some ⟨eb, 0, none⟩) 0 0) ([] : List Int).length (Od.longs []))
    (ho : ∀ b, (Value.slice xo N xc).ownBlock = some b → b < W.heap.size ∧ b ≠ eb) (hF : F ≤ W.heap.size) (hl : N ≤ 100000) :
    ∃ v1 w1 v2 w2 v3 w3, (∀ ty, (Builtin.append_ #[34, 34] ty #[.slice (some ⟨eb, 0, none⟩) 0 0, .slice xo A.length xc]).run Try.prog W = .ok v1 w1) ∧ (∀ ty, (Builtin.append_ #[34, 34] ty #[v1, .slice (some ⟨w1.heap.size, 0, none⟩) 1 1]).run Try.prog (w1.alloc (.cells #[.int .i64 x] 3)) = .ok v2 w2) ∧ (∀ ty, (Builtin.append_ #[34, 34] ty #[v2, sB xo N xc A.length]).run Try.prog w2 = .ok v3 w3) ∧ w3.ownsRow F 3 1 v3 (A ++ x :: B).length (Od.longs (A ++ x :: B)) ∧ Below F W w3 := by
  have hN : N = A.length + B.length := by
    have := hO.1
    simp [Od.longs] at this
    omega
  obtain ⟨v1, w1, r1, o1, k1, s1, b1, n1⟩ := ap hE (parts hO).1 (by simp; omega) hF
  rw [List.nil_append] at o1
  have hv0 : (Value.slice (some ⟨eb, 0, none⟩) 0 0).ownBlock = some eb := rfl
  have hO1 : w1.ownsRow G 3 1 (.slice xo N xc) N (Od.longs (A ++ B)) := Al.held hO fun q hq hlt => k1 q hlt (by rw [hv0]; exact fun e => (ho q hq).2 (Option.some.inj e).symm)
  obtain ⟨v2, w2, r2, o2, k2, s2, b2, n2⟩ := app1x o1 (Nat.le_trans hF s1) (by omega) x
  have hnb : ∀ q, (Value.slice xo N xc).ownBlock = some q → q < w1.heap.size ∧ v1.ownBlock ≠ some q := fun q hq => by
    obtain ⟨h1, h2⟩ := ho q hq
    refine ⟨by omega, fun e => ?_⟩
    rcases n1 with n1 | ⟨k, n1, h3⟩
    · rw [n1, hv0] at e; exact h2 (Option.some.inj e).symm
    · rw [n1] at e; have := Option.some.inj e; omega
  have hO2 : w2.ownsRow G 3 1 (.slice xo N xc) N (Od.longs (A ++ B)) := Al.held hO1 fun q hq hlt => k2 q hlt (hnb q hq).2
  obtain ⟨v3, w3, r3, o3, k3, s3, b3, n3⟩ := ap o2 (parts hO2).2 (by simp; omega) (Nat.le_trans hF (Nat.le_trans s1 s2))
  refine ⟨v1, w1, v2, w2, v3, w3, r1, r2, r3, ?_, b1.trans (b2.trans b3)⟩
  have e : A ++ x :: B = A ++ [x] ++ B := by simp
  rw [e]; exact o3
end Go.Proofs.Ytbclmmkphjknaaa.Od
