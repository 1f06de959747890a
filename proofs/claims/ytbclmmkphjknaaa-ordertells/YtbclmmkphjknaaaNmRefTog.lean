/-
  Many texts in order: order.Sort.
-/
import Derived.Test.YtbclmmkphjknaaaOdSwp
import Derived.Test.YtbclmmkphjknaaaOdSub
import Derived.Test.YtbclmmkphjknaaaKSet
import Derived.Laws.OwnMore
import Derived.OwnWalk
import Derived.Test.YtbclmmkphjknaaaNmRefBare
import Derived.Test.YtbclmmkphjknaaaCnLet
import Derived.Test.YtbclmmkphjknaaaNmRefP
namespace Go.Proofs.Ytbclmmkphjknaaa
open Go.RowKit
set_option maxRecDepth 20000
set_option linter.unusedSimpArgs false
set_option linter.unusedVariables false

namespace Od
theorem fill_step {n j : Nat} {L : List Int} (hL : L.length = n) (hj : j < n) (h : L.take j = places j) : (L.set j (j : Int)).take (j + 1) = places (j + 1) := by
  rw [places_succ, ← h, List.take_add_one, List.take_set_of_le (Nat.le_refl _)]
  simp [hL, hj]
theorem longs_set (L : List Int) (j : Nat) (z : Int) : (longs L).set j (.int .i64 z) = longs (L.set j z) := by unfold longs; rw [List.map_set]
/-- the sorted row -/
theorem sorted (w : World) (g n kb : Nat) (ks : List K3) (F0 : Nat) (hn : ks.length = n) (hl : n ≤ 100) (own : w.ownsRow F0 3 1 (.slice (some ⟨g, 0, none⟩) n n) n (longs (places n)))
    (hcon : @Con (ckOf ks kb) w g) :
    Calls Try.prog 43 #[.slice (some ⟨g, 0, none⟩) n n, .func (.func 54) #[] #[.pointer (some ⟨kb, 0, none⟩)]] w fun e w' => e = .returned (.tuple #[]) ∧ w'.ownsRow F0 3 1 (.slice (some ⟨g, 0, none⟩) n n) n (longs (sortF ks)) ∧ Below F0 w w' := by
  letI : Ck := ckOf ks kb
  have hp := places_len n
  obtain ⟨h1, h2⟩ := own_sub (D := []) (M := places n) (R := []) (w := w) (F0 := F0) (g := g) (n := n) (cap := n) (by simpa using own)
  refine (odSort_any w g 0 n n (places n) hcon (fun x hx => by
    have := places_mem hx
    exact ⟨this.1, by rw [hn]; exact this.2⟩) h1 hp (by omega)).mono ?_
  rintro e w' ⟨rfl, S, s1, s2, s3⟩
  have hS : S = sortF ks := sort_uniq s1 (by rw [hn]; exact s2)
  have h3 := h2 w' S (by rw [hp]; exact s3.2.2.1)
  rw [hS] at h3
  exact ⟨rfl, by simpa using h3.1, h3.2⟩
theorem bad_zero : ∀ (l : List (List Int)) (k : Nat), (badN k l).1 = 0 → badN k l = (0, 0)
  | [], k, _ => rfl
  | t :: r, k, h => by
    rw [badN] at h ⊢
    split
    · rename_i h1
      rw [if_pos h1] at h
      exact absurd h h1
    · rename_i h1
      rw [if_neg h1] at h
      exact bad_zero r (k + 1) h
theorem con_of {X Y : World} {g kb : Nat} {v : Value} {ks : List K3} (hk : Ks X v ks) (hX : ∀ a : Addr, a.block < X.heap.size → Y.cell? a = X.cell? a) (hg : X.heap.size ≤ g) (hb : Y.cell? ⟨kb, 0, none⟩ = some v) (hne : kb ≠ g) (hl : ∀ k ∈ ks, k.1.length ≤ 4000 ∧ k.2.1.length ≤ 4000 ∧ k.2.2.length ≤ 4000) (hn : ks.length ≤ 100) : @Con (ckOf ks kb) Y g := by
  letI : Ck := ckOf ks kb
  intro Z x y hZ hx hy
  obtain ⟨hx0, hx1⟩ : 0 ≤ x ∧ x < ks.length := hx
  obtain ⟨hy0, hy1⟩ : 0 ≤ y ∧ y < ks.length := hy
  obtain ⟨i, rfl⟩ : ∃ i : Nat, x = i := ⟨x.toNat, by omega⟩
  obtain ⟨j, rfl⟩ : ∃ j : Nat, y = j := ⟨y.toNat, by omega⟩
  have hi : i < ks.length := by omega
  have hj : j < ks.length := by omega
  have h := odRank1_any Z kb v ks (hk.move fun a ha => (hZ a (by omega)).trans (hX a ha)) ((hZ _ hne).trans hb) hl i j ks[i] ks[j] (by simp [hi]) (by simp [hj]) hn
  have e : cmp (i : Int) (j : Int) = cmpK ks[i] ks[j] := ck_cmp (by simp [hi]) (by simp [hj])
  rw [e]
  exact h
theorem sortF_len (ks : List K3) : (sortF ks).length = ks.length := sortC_len _ _
end Od

set_option maxHeartbeats 8000000 in
theorem odSort2_any (w : World) (v : Value) (l : List (List Int)) (R : Ws.Rd w v l) (hl : ∀ c ∈ l, c.length ≤ 140737488355328) (hn : l.length ≤ 140737488355328) :
    Calls Try.prog 21 #[v] w fun e w' => ∃ v', e = .returned (.tuple #[v', .agg #[.int .i64 (Od.wrongS l).1, .int .i64 (Od.wrongS l).2]]) ∧ L.Rd w' v' .i64 (Od.outS l) ∧ Below w.heap.size w w' := by
  obtain ⟨ao, cap, hv, _, _⟩ := id R
  subst hv
  obtain ⟨W0, hW0⟩ : ∃ W0, W0 = w.alloc (.cells #[.int .i64 0, .int .i64 0] 44) := ⟨_, rfl⟩
  have hb0 : Below w.heap.size w W0 := by rw [hW0]; exact (Below.refl _ w).alloc (Nat.le_refl _) _
  have hx0 : W0.heap[w.heap.size]? = some (.cells #[.int .i64 0, .int .i64 0] 44) := by rw [hW0]; exact heap_alloc_new w _
  have HX : Hid (Below w.heap.size w W0 ∧ W0.heap[w.heap.size]? = some (.cells #[.int .i64 0, .int .i64 0] 44)) := ⟨hb0, hx0⟩
  obtain ⟨y0, y1, g0, g1⟩ := K.box2 hx0
  have hl0 : w.heap.size < W0.heap.size := lt_of_block hx0
  by_cases hm : 100 < l.length
  · have hw : Od.wrongS l = (5, 0) := by unfold Od.wrongS; rw [if_pos hm]
    have ho : Od.outS l = [] := by unfold Od.outS; rw [if_neg (by rw [hw]; simp)]
    rw [hw, ho]
    clear hw ho R hl hb0 hx0
    go_enter Try.func21, Try.ntmps21
    go_wp2
    refine bodyPost_ret (v := .tuple #[.slice none 0 0, .agg #[.int .i64 5, .int .i64 0]]) (by simp [results, Try.results21, go_sem, *]) rfl ?_
    refine ⟨_, rfl, ⟨none, 0, rfl, fun _ => rfl, fun h => absurd rfl h⟩, ?_⟩
    exact (Below.refl _ w).alloc (Nat.le_refl _) _
  · have hK := odKeysOf_any W0 _ l (R.below hb0) hl (by omega)
    have hw : Od.wrongS l = Od.badN 0 l := by unfold Od.wrongS; rw [if_neg hm]
    obtain ⟨os, hos⟩ : ∃ os, os = Od.outS l := ⟨_, rfl⟩
    have HOu : Hid (os = if (Od.badN 0 l).1 = 0 then Od.sortF (Od.keysL l) else []) := by show _ = _; rw [hos, ← hw]; rfl
    rw [← hos]
    clear hos
    rw [hw]
    obtain ⟨⟨e1, e2⟩, he⟩ : ∃ c, c = Od.badN 0 l := ⟨_, rfl⟩
    rw [← he] at hK HOu ⊢
    simp only at hK HOu
    have HZr : Hid (e1 = 0 → e2 = 0) := fun h => by
      have := Od.bad_zero l 0 (by rw [← he]; exact h)
      rw [← he] at this
      exact (Prod.mk.inj this).2
    have HKl : Hid ((Od.keysL l).length = l.length) := Od.keysL_len l
    have HKs : Hid (∀ k ∈ Od.keysL l, k.1.length ≤ 4000 ∧ k.2.1.length ≤ 4000 ∧ k.2.2.length ≤ 4000) := Od.keys_len l
    have hm' : l.length ≤ 100 := by omega
    generalize Od.keysL l = ks at hK HOu HKl HKs
    clear hw R hl hb0 hx0 he hn
    go_enter Try.func21, Try.ntmps21
    go_wp2_with fail
    rw [← hW0]
    refine hK.mono ?_
    clear hK hW0
    rintro e w2 ⟨vk, rfl, hks, b2⟩
    have HB2 : Hid (Below w.heap.size w w2) := HX.out.1.trans (b2.mono HX.out.1.size)
    have HX2 : Hid (w2.heap[w.heap.size]? = some (.cells #[.int .i64 0, .int .i64 0] 44)) := K.blk_below HX.out.2 b2
    clear y0 y1 g0 g1 hl0 b2
    by_cases h0 : e1 = 0
    · subst h0
      obtain rfl := HZr.out rfl
      have hk := hks rfl
      obtain ⟨ko, kc, rfl, _⟩ := id hk
      obtain ⟨X, hX⟩ : ∃ X, X = w2.alloc (.cells #[.int .i64 0, .int .i64 0] 44) := ⟨_, rfl⟩
      have hbX : Below w2.heap.size w2 X := by rw [hX]; exact (Below.refl _ w2).alloc (Nat.le_refl _) _
      have HkX : Hid (Od.Ks X (.slice ko ks.length kc) ks) := hk.move fun a ha => hbX.cell ha
      have HX3 : Hid (X.heap[w.heap.size]? = some (.cells #[.int .i64 0, .int .i64 0] 44) ∧ Below w.heap.size w X) := ⟨K.blk_below HX2.out hbX, HB2.out.trans (hbX.mono HB2.out.size)⟩
      have HOu2 : Hid (os = Od.sortF ks) := by show _ = _; rw [HOu.out, if_pos rfl]
      obtain ⟨i0, hi, hz0, hz1, hz2⟩ := info_parts Try.infoInt
      have HXe : Hid (X = w2.alloc (.cells #[.int .i64 0, .int .i64 0] 44)) := hX
      have HW2 : Hid (w.heap.size < w2.heap.size) := lt_of_block HX2.out
      clear hks hk hbX hX HOu HB2 HX2 hm HZr
      have hHK := HKl.out
      go_wp2_with (at_make; refine wpList_make_full _ rfl _ _ 34 rfl w2.heap.size 3 i0 (.int .i64 0) 1 Try.underlying34 hi hz0 hz1 .i64 .i64 _ _ l.length rfl rfl rfl rfl (by rw [hz2]; omega) (by unfold maxLen; omega) (by simp) ?_; intro w4 own4 gr4)
      have e0 : (madeCells (Value.cells (.int .i64 0)) (l.length * 1)).toList = Od.longs (List.replicate l.length 0) := by
        rw [Nat.mul_one]
        exact (toList_madeCells_one _ _).trans (by simp [Od.longs])
      rw [e0] at own4
      rw [← HXe.out] at own4 gr4
      have hXs : X.heap.size = w2.heap.size + 1 := by rw [HXe.out]; simp
      rw [hXs] at own4
      obtain ⟨g, hg⟩ : ∃ g, g = w2.heap.size + 1 := ⟨_, rfl⟩
      have HG : Hid (g = X.heap.size ∧ w2.heap.size < g) := ⟨by rw [hXs, hg], by omega⟩
      rw [← hg] at own4 ⊢
      have HO4 : Hid (w4.ownsRow w2.heap.size 3 1 (.slice (some ⟨g, 0, none⟩) l.length l.length) l.length (Od.longs (List.replicate l.length 0)) ∧ Below g X w4) := ⟨own4, by rw [HG.out.1]; exact (Below.refl _ X).grown gr4 (Nat.le_refl _) fun k hk => by cases hk⟩
      have HKc : Hid (Od.Ks X (.slice ko l.length kc) ks) := by have := HkX.out; rw [HKl.out] at this; exact this
      clear e0 own4 gr4 HXe hi hz0 hz1 hz2 hXs hg HkX hHK
      go_loopw [26] (fun vi wr => ∃ (j : Nat) (M : List Int), vi = .int .i64 j ∧ j ≤ l.length ∧ Hid (M.length = l.length ∧ M.take j = Od.places j) ∧ Hid (wr.ownsRow w2.heap.size 3 1 (.slice (some ⟨g, 0, none⟩) l.length l.length) l.length (Od.longs M) ∧ Below g X wr)) (fun vi _ => l.length - (intOf vi).toNat)
      case atStart => exact ⟨0, List.replicate l.length 0, rfl, Nat.zero_le _, ⟨by simp, rfl⟩, HO4.out⟩
      case round =>
        obtain ⟨j, M, rfl, hj, HM, HO⟩ := hrel
        clear HO4
        by_cases hlt : j < l.length
        · obtain ⟨x, hx⟩ : ∃ x, M[j]? = some x := ⟨M[j]'(by rw [HM.out.1]; exact hlt), by simp [HM.out.1, hlt]⟩
          have ch : wr.cell? ⟨g, j, none⟩ = some (.int .i64 x) := by
            have := HO.out.1.cells (g := g) rfl j (.int .i64 x) (by rw [List.getElem?_map, hx]; rfl)
            rwa [L.addr_add, Nat.zero_add] at this
          have fz : wr.frozen? ⟨g, j, none⟩ = false := K.own_free HO.out.1 j
          have hbl := L.block_lt ch
          obtain ⟨s1, s2⟩ := K.own_set HO.out.1 j (.int .i64 (j : Int))
          rw [Od.longs_set] at s1
          have HN : Hid ((wr.setCell ⟨g, j, none⟩ (.int .i64 (j : Int))).ownsRow w2.heap.size 3 1 (.slice (some ⟨g, 0, none⟩) l.length l.length) l.length (Od.longs (M.set j (j : Int))) ∧ Below g X (wr.setCell ⟨g, j, none⟩ (.int .i64 (j : Int)))) := ⟨s1, HO.out.2.grown s2 (by rw [HG.out.1]; exact HO.out.2.size) (fun k hk => by cases hk; exact Nat.le_refl _)⟩
          have HM2 : Hid ((M.set j (j : Int)).length = l.length ∧ (M.set j (j : Int)).take (j + 1) = Od.places (j + 1)) := ⟨by rw [List.length_set]; exact HM.out.1, Od.fill_step HM.out.1 hlt HM.out.2⟩
          clear hx s1 s2 HO HM
          go_wp2
          go_roundw
          case rel => exact ⟨j + 1, M.set j (j : Int), by go_num, by omega, HM2, HN⟩
          case measure => simp [intOf]; omega
        · have e : j = l.length := by omega
          have hM : M = Od.places l.length := by
            have h := HM.out.2
            rw [e, List.take_of_length_le (by rw [HM.out.1]; exact Nat.le_refl _)] at h
            exact h
          rw [hM] at HO
          have hs := HO.out.2.size
          have hgl : g < wr.heap.size := by
            rcases HO.out.1.2 with ⟨h, _⟩ | ⟨g', cap', cur, h, _, hb, _⟩
            · cases h
            · cases h; exact lt_of_block hb
          have hRk := odRanking_any wr ko l.length kc
          obtain ⟨Y, hY⟩ : ∃ Y, Y = wr.alloc (.cells #[.slice ko l.length kc] 68) := ⟨_, rfl⟩
          have hbY : Below wr.heap.size wr Y := by rw [hY]; exact (Below.refl _ wr).alloc (Nat.le_refl _) _
          have hcY : Y.cell? ⟨wr.heap.size, 0, none⟩ = some (.slice ko l.length kc) := by rw [hY]; exact K.at_box (i := 0) (heap_alloc_new wr _) rfl
          have hBX : Below g X Y := HO.out.2.trans (hbY.mono (Nat.le_of_lt hgl))
          have hcon := Od.con_of (Y := Y) (g := g) (kb := wr.heap.size) HKc.out (fun a ha => hBX.cell (by rw [HG.out.1]; exact ha)) (by rw [HG.out.1]; exact Nat.le_refl _) hcY (by omega) HKs.out (by rw [HKl.out]; exact hm')
          have hSt := Od.sorted Y g l.length wr.heap.size ks w2.heap.size HKl.out hm' (L.owns_below HO.out.1 hbY (Nat.le_refl _)) hcon
          have HBY : Hid (Below w.heap.size w Y ∧ Y.heap[w.heap.size]? = some (.cells #[.int .i64 0, .int .i64 0] 44)) := ⟨HX3.out.2.trans (hBX.mono (by have := HG.out.1; have := HX3.out.2.size; omega)), (hBX.block _ (by have := HG.out.1; have := lt_of_block HX3.out.1; omega)).trans HX3.out.1⟩
          have hw2 := HW2.out
          have hgw := HG.out.2
          rw [← hY] at hRk
          clear hcY hBX hcon hbY HO HM hM hY HX3 HKc HG hs HKs
          go_wp2_with fail
          refine hRk.mono ?_
          clear hRk
          rintro e w5 ⟨rfl, h5⟩
          obtain rfl := h5.symm
          clear h5
          go_wp2_with fail
          refine hSt.mono ?_
          clear hSt
          rintro e w6 ⟨rfl, own6, b6⟩
          have hx6 : w6.heap[w.heap.size]? = some (.cells #[.int .i64 0, .int .i64 0] 44) := (b6.block _ hw2).trans HBY.out.2
          obtain ⟨y0, y1, g0, g1⟩ := K.box2 hx6
          have hl6 : w.heap.size < w6.heap.size := lt_of_block hx6
          have HF : Hid (w6.ownsRow w2.heap.size 3 1 (.slice (some ⟨g, 0, none⟩) l.length l.length) l.length (Od.longs (Od.sortF ks)) ∧ Below w.heap.size w w6) := ⟨own6, HBY.out.1.trans (b6.mono (Nat.le_of_lt hw2))⟩
          have hos := HOu2.out
          subst hos
          clear own6 b6 hx6 HBY
          go_wp2
          refine bodyPost_ret (v := .tuple #[.slice (some ⟨g, 0, none⟩) l.length l.length, .agg #[.int .i64 0, .int .i64 0]]) (by simp [results, Try.results21, go_sem, *]) rfl ?_
          have hlen : (Od.sortF ks).length = l.length := by rw [Od.sortF_len]; exact HKl.out
          refine ⟨_, rfl, ?_, (HF.out.2.setCell (p := ⟨w.heap.size, 0, none⟩) (Nat.le_refl _) _).setCell (p := ⟨w.heap.size, 1, none⟩) (Nat.le_refl _) _⟩
          have hr : L.Rd w6 (.slice (some ⟨g, 0, none⟩) l.length l.length) .i64 (Od.sortF ks) := by
            have h := HF.out.1
            rw [← hlen] at h ⊢
            exact L.Rd.of_owns h
          exact Od.rd_cells (fun b => b ≠ w.heap.size) hr (fun a ha => Od.set_two _ _ ha) fun b off c n e _ => by
            cases e
            omega
    · have hou : os = [] := by rw [HOu.out, if_neg h0]
      subst hou
      have hx2 := HX2.out
      obtain ⟨y0, y1, g0, g1⟩ := K.box2 hx2
      have hl2 : w.heap.size < w2.heap.size := lt_of_block hx2
      have k0 : ∀ o, (w2.alloc o).cell? ⟨w.heap.size, 0, none⟩ = some (.int .i64 0) := fun o => K.alloc_cell y0 o
      have k1 : ∀ o, (w2.alloc o).cell? ⟨w.heap.size, 1, none⟩ = some (.int .i64 0) := fun o => K.alloc_cell y1 o
      have f0 : ∀ o, (w2.alloc o).frozen? ⟨w.heap.size, 0, none⟩ = false := fun o => K.alloc_free hx2 o 0
      have f1 : ∀ o, (w2.alloc o).frozen? ⟨w.heap.size, 1, none⟩ = false := fun o => K.alloc_free hx2 o 1
      clear hks HOu HZr HKl HKs hx2
      go_wp2
      go_region
      go_wp2
      refine bodyPost_ret (v := .tuple #[.slice none 0 0, .agg #[.int .i64 e1, .int .i64 e2]]) (by simp [results, Try.results21, go_sem, *]) rfl ?_
      exact ⟨_, rfl, ⟨none, 0, rfl, fun _ => rfl, fun h => absurd rfl h⟩, (((HB2.out.setCell (p := ⟨w.heap.size, 0, none⟩) (Nat.le_refl _) _).setCell (p := ⟨w.heap.size, 1, none⟩) (Nat.le_refl _) _).alloc (by simp; omega) _).drew⟩

end Go.Proofs.Ytbclmmkphjknaaa

/-
  A text put together: the document's answer.
-/
namespace Go.Proofs.Ytbclmmkphjknaaa
open Go.RowKit
set_option maxRecDepth 20000
set_option linter.unusedSimpArgs false
set_option linter.unusedVariables false

namespace Nm
/-- a row of one's own whose block stays reads as it did -/
theorem rd_kept {w w' : World} {F : Nat} {v : Value} {l : List Int} (own : w.ownsRow F 21 1 v l.length (K.ints l)) (hk : ∀ b, v.ownBlock = some b → w'.heap[b]? = w.heap[b]?) : L.Rd w' v .i32 l := by
  obtain ⟨ao, cap, rfl, hz, hc⟩ := K.rd_owns own
  refine ⟨ao, cap, rfl, hz, fun hne => ?_⟩
  obtain ⟨b, off, rfl, hcell⟩ := hc hne
  exact ⟨b, off, rfl, fun j z hj => (cell_eq (hk b rfl)).trans (hcell j z hj)⟩
theorem lead_mark {R : List Int} {k : Nat} (h : k < lead R) : ∃ m, R[k]? = some m ∧ 0 < cls m := by
  have hl := lead_le R
  refine ⟨R[k]'(by omega), by simp, ?_⟩
  have h1 : R[k]'(by omega) ∈ R.take (lead R) := by
    rw [List.mem_take_iff_getElem]
    exact ⟨k, by omega, rfl⟩
  rw [lead_take] at h1
  exact isM_pos.1 (take_marks R _ h1)
end Nm

set_option maxHeartbeats 8000000 in
theorem nmRefTog_any (w : World) (v : Value) (l : List Int) (R : L.Rd w v .i32 l) (hl : l.length ≤ 140737488355328) :
    Calls Try.prog 13 #[v] w fun e w' => ∃ v', e = .returned (.tuple #[v', .int .i64 (Nm.togF l).2]) ∧ w'.ownsRow w.heap.size 21 1 v' (Nm.togF l).1.length (K.ints (Nm.togF l).1) ∧ Below w.heap.size w w' := by
  have HT := nmRefApart_any w v l R hl
  obtain ⟨q, hq⟩ : ∃ q, q = Nm.togF l := ⟨_, rfl⟩
  have HQ : Hid (q = Nm.togF l) := hq
  rw [← hq]
  obtain ⟨ao, cap, rfl, _, _⟩ := R
  clear hq
  obtain ⟨q1, q2⟩ := q
  have hn := Nm.apart_len l
  have hbd := Nm.apart_bd l
  unfold Nm.togF at HQ
  obtain ⟨⟨t, te⟩, ht⟩ : ∃ p, p = Nm.apartF l := ⟨_, rfl⟩
  rw [← ht] at HT HQ hn hbd
  simp only at HT HQ hn hbd
  clear ht
  have HCl : Hid (∀ r X, Calls Try.prog 8 #[.int .i32 r] X fun e w' => e = .returned (.int .i64 (Nm.cls r)) ∧ w' = X) := fun r X => nmRefClass_any r X
  have HJd : Hid (∀ X a b, Calls Try.prog 34 #[.int .i32 a, .int .i32 b] X fun e w' => e = .returned (.int .i32 (Nm.jw a b)) ∧ Below X.heap.size X w') := fun X a b => nmJoined_any X a b
  go_enter Try.func13, Try.ntmps13
  go_wp2_with fail
  refine HT.mono ?_
  clear HT
  rintro e w1 ⟨vt, rfl, own1, b1⟩
  obtain ⟨xo, xc, rfl, hxc, hxm⟩ := K.own_slice own1
  have HB1 : Hid (Below w.heap.size w w1) := b1
  by_cases he : te = 0
  · have hQ : (q1, q2) = (Nm.tog t, 0) := by rw [HQ.out, if_neg (by simp [he])]
    have h1 := (Prod.mk.inj hQ).1
    obtain rfl := (Prod.mk.inj hQ).2
    subst he
    have HQ1 : Hid (q1 = Nm.tog t) := h1
    have HS1 : Hid (L.Rd w1 (.slice xo t.length xc) .i32 t) := K.rd_owns own1
    have HBd : Hid (∀ r ∈ t, 0 ≤ r ∧ r ≤ 1114111) := hbd
    clear HQ hQ own1 h1 hbd b1
    go_wp2
    go_loopw [6, 7] (fun vo vi wr => ∃ (i : Nat) (acc : List Int), vi = .int .i64 i ∧ i ≤ t.length ∧ acc.length ≤ i ∧ Hid (acc ++ Nm.tog (t.drop i) = Nm.tog t) ∧ Hid (wr.ownsRow w1.heap.size 21 1 vo acc.length (K.ints acc) ∧ Below w1.heap.size w1 wr)) (fun _ vi _ => t.length - (intOf vi).toNat)
    case atStart => exact ⟨0, [], rfl, Nat.zero_le _, Nat.zero_le _, rfl, World.ownsRow_nil _ _ _ _, Below.refl _ _⟩
    case round =>
      obtain ⟨i, acc, rfl, hi, hai, HA, HO⟩ := hrel
      by_cases hlt : i < t.length
      · obtain ⟨h, hh⟩ : ∃ h, t[i]? = some h := ⟨t[i], by simp [hlt]⟩
        obtain ⟨_, _, e', _, hc⟩ := HS1.out
        obtain ⟨rfl, -, rfl⟩ := Value.slice.inj e'
        obtain ⟨b, off, rfl, hcell⟩ := hc (by intro h; subst h; simp at hlt)
        have HCe : Hid (∀ W, Below w1.heap.size w1 W → ∀ (j : Nat) z, t[j]? = some z → W.cell? ⟨b, off + j, none⟩ = some (.int .i32 z)) := fun W hW j z hj => (hW.cell (p := ⟨b, off + j, none⟩) (L.block_lt (hcell j z hj))).trans (hcell j z hj)
        have c0 := HCe.out wr HO.out.2 i h hh
        have hdr : t.drop i = h :: t.drop (i + 1) := by
          rw [List.drop_eq_getElem_cons hlt]
          congr 1
          rw [List.getElem?_eq_getElem hlt] at hh
          exact Option.some.inj hh
        have hC := HCl.out h
        have hhb := HBd.out h (List.mem_of_getElem? hh)
        have hcp := Nm.cls_pos h
        clear hc hcell e'
        by_cases hM : 0 < Nm.cls h
        · obtain ⟨v3, w3, run3, own3, kp3, sz3, be3, nw3⟩ := Nm.app1x (w := wr) (B := w1.heap.size) (o := acc) HO.out.1 HO.out.2.size (by omega) h
          have HN : Hid (w3.ownsRow w1.heap.size 21 1 v3 (acc ++ [h]).length (K.ints (acc ++ [h])) ∧ Below w1.heap.size w1 w3) := ⟨own3, HO.out.2.trans be3⟩
          have HA2 : Hid ((acc ++ [h]) ++ Nm.tog (t.drop (i + 1)) = Nm.tog t) := by
            show _ = _
            rw [← HA.out, hdr, Nm.tog_mark _ (Nm.isM_pos.2 hM)]
            simp
          clear own3 kp3 sz3 be3 nw3 HO HA hdr hh
          go_wp2_with fail
          refine (hC _).mono ?_
          rintro e w4 ⟨rfl, rfl⟩
          go_wp2_with (at_builtin; first | refine Lib.wpList_append_run _ rfl _ _ _ _ rfl _ _ rfl rfl _ _ (run3 _) ?_)
          go_roundw
          case rel => exact ⟨i + 1, acc ++ [h], by go_num, by omega, by simp; omega, HA2, HN⟩
          case measure => simp [intOf]; omega
        · have hm0 : Nm.isM h = false := by
            cases hb : Nm.isM h with
            | false => rfl
            | true => exact absurd (Nm.isM_pos.1 hb) hM
          have hR1 : Hid (∀ (k : Nat), (t.drop (i + 1))[k]? = t[i + 1 + k]?) := fun k => by rw [List.getElem?_drop]
          have hRl : (t.drop (i + 1)).length = t.length - (i + 1) := List.length_drop
          have HA2 : Hid (acc ++ (Nm.jn h ((t.drop (i + 1)).take (Nm.lead (t.drop (i + 1)))) ++ Nm.tog ((t.drop (i + 1)).drop (Nm.lead (t.drop (i + 1))))) = Nm.tog t) := by
            show _ = _
            rw [← HA.out, hdr, Nm.tog_step _ hm0]
          obtain ⟨R1, hR⟩ : ∃ R1, R1 = t.drop (i + 1) := ⟨_, rfl⟩
          have HRe : Hid (R1 = t.drop (i + 1)) := hR
          rw [← hR] at hR1 hRl HA2
          have hll := Nm.lead_le R1
          obtain ⟨ld, hld⟩ : ∃ ld, ld = Nm.lead R1 := ⟨_, rfl⟩
          have HLm : Hid (∀ k, k < ld → ∃ m, R1[k]? = some m ∧ 0 < Nm.cls m) := fun k hk => Nm.lead_mark (by omega)
          have HLe : Hid (i + 1 + ld = t.length ∨ ∃ z, t[i + 1 + ld]? = some z ∧ Nm.cls z = 0) := by
            show _ ∨ _
            rcases Nm.lead_first R1 with h1 | ⟨z, R2, h1, h2⟩
            · have := congrArg List.length h1
              rw [List.length_drop, ← hld] at this
              simp at this
              exact .inl (by omega)
            · refine .inr ⟨z, ?_, ?_⟩
              · rw [← hR1.out, hld]
                have h3 : (R1.drop (Nm.lead R1))[0]? = some z := by rw [h1]; rfl
                rw [List.getElem?_drop] at h3
                exact h3
              · have h3 := Nm.cls_pos z
                by_cases h4 : 0 < Nm.cls z
                · rw [Nm.isM_pos.2 h4] at h2; cases h2
                · omega
          rw [← hld] at HA2 hll
          clear hld hdr hh HA hm0
          have hlt2 : i + 1 + ld ≤ t.length := by omega
          go_wp2_with fail
          refine (hC _).mono ?_
          rintro e w4 ⟨rfl, rfl⟩
          go_wp2
          go_loopw [7, 8, 9, 10] (fun vi vh vl vg wz => ∃ (k : Nat) (hd high : Int) (left : List Int), vi = .int .i64 ((i + 1 + k : Nat) : Int) ∧ k ≤ ld ∧ vh = .int .i32 hd ∧ vg = .int .i64 high ∧ Hid ((R1.take k).foldl Nm.js (h, [], 0) = (hd, left, high)) ∧ Hid (wz.ownsRow w4.heap.size 21 1 vl left.length (K.ints left) ∧ Below w4.heap.size w4 wz)) (fun vi _ _ _ _ => t.length - (intOf vi).toNat)
          case atStart => exact ⟨0, h, 0, [], by go_num, Nat.zero_le _, rfl, rfl, rfl, World.ownsRow_nil _ _ _ _, Below.refl _ _⟩
          case round =>
            obtain ⟨k, hd, high, left, rfl, hk, rfl, rfl, HF, HL⟩ := hrel
            have hbd := Nm.jf_bd (R1.take k) (h, [], 0) hhb
            have hln := Nm.jf_len (R1.take k) (h, [], 0)
            rw [HF.out] at hbd hln
            simp only [List.length_nil, Nat.zero_add, List.length_take] at hbd hln
            have hll4 : left.length ≤ 4000 := by omega
            have HBz : Hid (Below w1.heap.size w1 wr) := HO.out.2.trans (HL.out.2.mono HO.out.2.size)
            obtain ⟨i1, hi1⟩ : ∃ i1, i1 = i + 1 + k := ⟨_, rfl⟩
            have HI1 : Hid (i1 = i + 1 + k) := hi1
            rw [← hi1]
            by_cases hkl : k < ld
            · obtain ⟨m, hm, hmc⟩ := HLm.out k hkl
              have hmt : t[i1]? = some m := by rw [hi1, ← hR1.out]; exact hm
              have cm := HCe.out wr HBz.out i1 m hmt
              have hi1t : i1 < t.length := by omega
              have hCm := HCl.out m
              have hst : (R1.take (k + 1)).foldl Nm.js (h, [], 0) = Nm.js (hd, left, high) m := by rw [List.take_add_one, hm, List.foldl_append, HF.out]; rfl
              obtain ⟨x3, hx3⟩ : ∃ x3, x3 = Nm.jw hd m := ⟨_, rfl⟩
              have hJm := HJd.out wr hd m
              have hx3b := Nm.jw_bd hd m
              rw [← hx3] at hJm hx3b
              unfold Nm.js at hst
              simp only [← hx3] at hst
              have HMt : Hid (t[i1]? = some m) := hmt
              clear hx3 hm hmt HF hln hi1
              go_wp2_with fail
              refine (hCm _).mono ?_
              rintro e w5 ⟨rfl, rfl⟩
              go_wp2_with fail
              refine hJm.mono ?_
              clear hJm
              rintro e w6 ⟨rfl, b6⟩
              have HL6 : Hid (w6.ownsRow w4.heap.size 21 1 _ left.length (K.ints left) ∧ Below w4.heap.size w4 w6) := ⟨L.owns_below HL.out.1 b6 (Nat.le_refl _), HL.out.2.trans (b6.mono HL.out.2.size)⟩
              rw [← b6.cell (p := ⟨b, off + i1, none⟩) (L.block_lt cm)] at cm
              clear b6 HL HBz
              by_cases hx : 0 ≤ x3
              · by_cases hcl : high < Nm.cls m
                · rw [if_pos ⟨hx, hcl⟩] at hst
                  have HS2 : Hid ((R1.take (k + 1)).foldl Nm.js (h, [], 0) = (x3, left, high)) := hst
                  clear hst
                  go_wp2_with fail
                  refine (hCm _).mono ?_
                  rintro e w5 ⟨rfl, rfl⟩
                  go_wp2
                  go_roundw
                  case rel => exact ⟨k + 1, x3, high, left, by rw [HI1.out]; go_num, by omega, rfl, rfl, HS2, HL6⟩
                  case measure => simp [intOf]; omega
                · rw [if_neg (fun h => hcl h.2)] at hst
                  have HS2 : Hid ((R1.take (k + 1)).foldl Nm.js (h, [], 0) = (hd, left ++ [m], Nm.cls m)) := hst
                  clear hst
                  go_wp2_with fail
                  refine (hCm _).mono ?_
                  rintro e w5 ⟨rfl, rfl⟩
                  obtain ⟨v7, w7, run7, own7, kp7, sz7, be7, nw7⟩ := Nm.app1x HL6.out.1 HL6.out.2.size (by omega) m
                  have HL7 : Hid (w7.ownsRow w4.heap.size 21 1 v7 (left ++ [m]).length (K.ints (left ++ [m])) ∧ Below w4.heap.size w4 w7) := ⟨own7, HL6.out.2.trans be7⟩
                  have cm7 := HCe.out w7 (HO.out.2.trans (HL7.out.2.mono HO.out.2.size)) i1 m HMt.out
                  clear own7 kp7 sz7 be7 nw7 HL6
                  go_wp2_with (at_builtin; first | refine Lib.wpList_append_run _ rfl _ _ _ _ rfl _ _ rfl rfl _ _ (run7 _) ?_)
                  refine (hCm _).mono ?_
                  rintro e w5 ⟨rfl, rfl⟩
                  go_wp2
                  go_roundw
                  case rel => exact ⟨k + 1, hd, Nm.cls m, left ++ [m], by rw [HI1.out]; go_num, by omega, rfl, rfl, HS2, HL7⟩
                  case measure => simp [intOf]; omega
              · rw [if_neg (fun h => hx h.1)] at hst
                have HS2 : Hid ((R1.take (k + 1)).foldl Nm.js (h, [], 0) = (hd, left ++ [m], Nm.cls m)) := hst
                clear hst
                obtain ⟨v7, w7, run7, own7, kp7, sz7, be7, nw7⟩ := Nm.app1x HL6.out.1 HL6.out.2.size (by omega) m
                have HL7 : Hid (w7.ownsRow w4.heap.size 21 1 v7 (left ++ [m]).length (K.ints (left ++ [m])) ∧ Below w4.heap.size w4 w7) := ⟨own7, HL6.out.2.trans be7⟩
                have cm7 := HCe.out w7 (HO.out.2.trans (HL7.out.2.mono HO.out.2.size)) i1 m HMt.out
                clear own7 kp7 sz7 be7 nw7 HL6
                go_wp2_with (at_builtin; first | refine Lib.wpList_append_run _ rfl _ _ _ _ rfl _ _ rfl rfl _ _ (run7 _) ?_)
                refine (hCm _).mono ?_
                rintro e w5 ⟨rfl, rfl⟩
                go_wp2
                go_roundw
                case rel => exact ⟨k + 1, hd, Nm.cls m, left ++ [m], by rw [HI1.out]; go_num, by omega, rfl, rfl, HS2, HL7⟩
                case measure => simp [intOf]; omega
            · have e : k = ld := by omega
              subst e
              have HJn : Hid (Nm.jn h (R1.take k) = hd :: left) := by
                show _ = _
                unfold Nm.jn
                rw [HF.out]
              rw [HJn.out] at HA2
              have hal : acc.length ≤ 4000 := by omega
              have O1 := L.owns_below HO.out.1 HL.out.2 (Nat.le_refl _)
              have hsz := Nat.le_trans HO.out.2.size HL.out.2.size
              obtain ⟨v7, w7, run7, own7, kp7, sz7, be7, nw7⟩ := Nm.app1x O1 hsz (by omega) hd
              have hR7 := Nm.rd_kept HL.out.1 (w' := w7) fun b hb => kp7 b (HL.out.1.lt b hb).2 fun e => by
                have h1 := (HO.out.1.lt b e).2
                have h2 := (HL.out.1.lt b hb).1
                omega
              obtain ⟨v8, w8, run8, own8, gr8, nw8⟩ := K.app_rd w7 w1.heap.size v7 (acc ++ [hd]) own7 _ left hR7 (by simp; omega) (Nat.le_trans hsz sz7)
              have HN : Hid (w8.ownsRow w1.heap.size 21 1 v8 (acc ++ (hd :: left)).length (K.ints (acc ++ (hd :: left))) ∧ Below w1.heap.size w1 w8) := by
                have e : acc ++ (hd :: left) = acc ++ [hd] ++ left := by simp
                rw [e]
                exact ⟨own8, HBz.out.trans (be7.trans ((Below.refl _ w7).grown gr8 (Nat.le_trans hsz sz7) fun k hk => (own7.lt k hk).1))⟩
              have HA3 : Hid (acc ++ (hd :: left) ++ Nm.tog (t.drop i1) = Nm.tog t) := by
                show _ = _
                rw [← HA2.out, HRe.out, List.drop_drop, hi1, List.append_assoc]
              have hln2 : left.length ≤ k := by omega
              have hik : i < i1 := by omega
              have hi1t : i1 ≤ t.length := by omega
              have hlen : (acc ++ (hd :: left)).length ≤ i1 := by simp; omega
              have HLn : Hid ((acc ++ (hd :: left)).length ≤ i1) := hlen
              have hLe := HLe.out
              rw [← hi1] at hLe
              clear own7 kp7 be7 nw7 own8 gr8 nw8 hR7 HJn HA2 HF hln O1 hsz sz7 HLe HLm hlen hi1 hal
              rcases hLe with h1 | ⟨z, h1, h2⟩
              · clear HL HBz
                have h3 : ¬ i1 < t.length := by omega
                go_wp2_with (at_builtin; first | refine Lib.wpList_append_run _ rfl _ _ _ _ rfl _ _ rfl rfl _ _ (run7 _) ?_ | refine Lib.wpList_append_run _ rfl _ _ _ _ rfl _ _ rfl rfl _ _ (run8 _) ?_)
                go_roundw
                case rel => exact ⟨i1, acc ++ (hd :: left), by rw [h1], hi1t, HLn.out, HA3, HN⟩
                case measure => simp [intOf]; omega
              · have h3 : i1 < t.length := (List.getElem?_eq_some_iff.1 h1).1
                have cz := HCe.out wr HBz.out i1 z h1
                have hCz := HCl.out z
                rw [h2] at hCz
                clear HL HBz h1
                go_wp2_with fail
                refine (hCz _).mono ?_
                rintro e w5 ⟨rfl, rfl⟩
                go_wp2_with (at_builtin; first | refine Lib.wpList_append_run _ rfl _ _ _ _ rfl _ _ rfl rfl _ _ (run7 _) ?_ | refine Lib.wpList_append_run _ rfl _ _ _ _ rfl _ _ rfl rfl _ _ (run8 _) ?_)
                go_roundw
                case rel => exact ⟨i1, acc ++ (hd :: left), rfl, hi1t, HLn.out, HA3, HN⟩
                case measure => simp [intOf]; omega
      · have e : i = t.length := by omega
        have hqe : q1 = acc := by
          have := HA.out
          rw [e, List.drop_length, Nm.tog_nil, List.append_nil] at this
          rw [HQ1.out, this]
        subst hqe
        obtain ⟨oo, oc, rfl, hoc, _⟩ := K.own_slice HO.out.1
        have HF : Hid (wr.ownsRow w.heap.size 21 1 (.slice oo q1.length oc) q1.length (K.ints q1) ∧ Below w.heap.size w wr) := ⟨L.owns_base HO.out.1 HB1.out.size, HB1.out.trans (HO.out.2.mono HB1.out.size)⟩
        clear HO HA HQ1
        go_wp2
        refine bodyPost_ret (v := .tuple #[.slice oo q1.length oc, .int .i64 0]) (by simp [results, Try.results13, go_sem, *]) rfl ?_
        exact ⟨_, rfl, HF.out⟩
  · have hQ : (q1, q2) = ([], te) := by rw [HQ.out, if_pos he]
    obtain ⟨rfl, rfl⟩ := Prod.mk.inj hQ
    clear hQ
    clear HQ own1 b1 hbd
    go_wp2
    refine bodyPost_ret (v := .tuple #[.slice none 0 0, .int .i64 q2]) (by simp [results, Try.results13, go_sem, *]) rfl ?_
    exact ⟨_, rfl, World.ownsRow_nil _ _ _ _, HB1.out⟩

end Go.Proofs.Ytbclmmkphjknaaa
