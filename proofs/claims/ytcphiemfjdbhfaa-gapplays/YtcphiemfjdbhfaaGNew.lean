/-
  What gap.New and gap.Play do.
-/
import Derived.Test.YtcphiemfjdbhfaaGPlay
namespace Go.Proofs.Ytcphiemfjdbhfaa
open Go.RowKit

namespace G
theorem Tx.new (w : World) : Tx w.heap.size w.heap.size none [] [] [] (w.alloc (.cells #[.slice none 0 0, .int .i64 0, .int .i64 0] 40)) :=
  ⟨Nat.le_refl _, Go.heap_alloc_new w _, .inl ⟨rfl, rfl⟩, (fun r h => by cases h), Nat.le_refl 0, Nat.zero_le _, Nat.zero_le _, rfl, rfl⟩
/-- edits that lie in a slice -/
def RdE (w : World) (v : Value) (l : List Ed) : Prop :=
  ∃ ao cap, v = .slice ao l.length cap ∧ l.length ≤ 140737488355328 ∧ (l ≠ [] → ∃ b off, ao = some ⟨b, off, none⟩ ∧ ∀ j e, l[j]? = some e → w.cell? ⟨b, off + j * 3, none⟩ = some (.int .i64 e.kind) ∧ w.cell? ⟨b, off + j * 3 + 1, none⟩ = some (.int .i64 e.n) ∧ ∃ sp c, w.cell? ⟨b, off + j * 3 + 2, none⟩ = some (.slice sp e.runes.length c) ∧ L.Rd w (.slice sp e.runes.length c) .i32 e.runes ∧ e.runes.length ≤ 140737488355328 ∧ I64 e.kind ∧ I64 e.n)
/-- what Play answers: the fault, the text, the cursor -/
def res (R : List Int) (l : List Ed) : (Int × Nat) × List Int × Nat :=
  if 4000 < R.length then ((4, 0), [], 0) else
    if (play 0 l ([], R)).1 = 0 then ((0, 0), (play 0 l ([], R)).2.2.1 ++ (play 0 l ([], R)).2.2.2, (play 0 l ([], R)).2.2.1.length) else (((play 0 l ([], R)).1, (play 0 l ([], R)).2.1), [], 0)
/-- Play has answered so -/
def Plays (w : World) (R : List Int) (l : List Ed) (en : Ending) (w' : World) : Prop :=
  ∃ v, en = .returned (.tuple #[v, .int .i64 (res R l).2.2, .agg #[.int .i64 (res R l).1.1, .int .i64 (res R l).1.2]]) ∧ L.Rd w' v .i32 (res R l).2.1 ∧ Below w.heap.size w w'
theorem Plays.of {w w' : World} {R : List Int} {l : List Ed} {v : Value} {x : Int} {k : Nat} {zs : List Int} {c : Nat} (hr : res R l = ((x, k), zs, c)) (hv : L.Rd w' v .i32 zs) (hb : Below w.heap.size w w') : Plays w R l (.returned (.tuple #[v, .int .i64 c, .agg #[.int .i64 x, .int .i64 k]])) w' :=
  ⟨v, by rw [hr], by rw [hr]; exact hv, hb⟩
end G

theorem rd_nil (w : World) (k : IntKind) : L.Rd w (.slice none 0 0) k [] := ⟨none, 0, rfl, fun _ => rfl, fun h => absurd rfl h⟩

set_option maxHeartbeats 4000000 in
theorem new_bad (w : World) (sp : Option Addr) (n c : Nat) (hn : n ≤ maxLen) (h4 : 4000 < n) :
    Calls Try.prog 7 #[.slice sp n c] w fun e w' => e = .returned (.tuple #[.pointer none, .int .i64 4]) ∧ Below w.heap.size w w' := by
  obtain ⟨w1, hw1⟩ : ∃ w1, w1 = w.alloc (.cells #[.slice none 0 0, .int .i64 0, .int .i64 0] 40) := ⟨_, rfl⟩
  have HX : Hid (G.Tx w.heap.size w.heap.size none [] [] [] w1) := by rw [hw1]; exact G.Tx.new w
  have HB : Hid (Below w.heap.size w w1) := by rw [hw1]; exact (Below.refl _ w).alloc (Nat.le_refl _) _
  have HW : Hid (w1 = w.alloc (.cells #[.slice none 0 0, .int .i64 0, .int .i64 0] 40)) := hw1
  clear hw1
  go_enter Try.func7, Try.ntmps7
  go_wp2_with (go_at_call 11; rw [← HW.out]; refine (put_bad _ _ _ none [] [] [] HX.out sp n c hn (by simpa using h4)).mono ?_; rintro e w' ⟨rfl, ht⟩)
  go_ret2
  exact ⟨rfl, HB.out.trans ht.2⟩

set_option maxHeartbeats 4000000 in
theorem new_ok (w : World) (v : Value) (R : List Int) (hv : L.Rd w v .i32 R) (h4 : R.length ≤ 4000) :
    Calls Try.prog 7 #[v] w fun e w' => e = .returned (.tuple #[.pointer (some ⟨w.heap.size, 0, none⟩), .int .i64 0]) ∧ G.Told w.heap.size w.heap.size w [] R w' := by
  have HV : Hid (L.Rd w v .i32 R) := hv
  obtain ⟨sp, c, rfl, _⟩ := hv
  obtain ⟨w1, hw1⟩ : ∃ w1, w1 = w.alloc (.cells #[.slice none 0 0, .int .i64 0, .int .i64 0] 40) := ⟨_, rfl⟩
  have HX : Hid (G.Tx w.heap.size w.heap.size none [] [] [] w1) := by rw [hw1]; exact G.Tx.new w
  have HB : Hid (Below w.heap.size w w1) := by rw [hw1]; exact (Below.refl _ w).alloc (Nat.le_refl _) _
  have HW : Hid (w1 = w.alloc (.cells #[.slice none 0 0, .int .i64 0, .int .i64 0] 40)) := hw1
  clear hw1
  go_enter Try.func7, Try.ntmps7
  go_wp2_with fail
  rw [← HW.out]
  refine (put_ok _ _ _ none [] [] [] HX.out _ R (fun w' hb => HV.out.below (HB.out.trans hb) (Nat.le_refl _)) (by simpa using h4)).mono ?_
  rintro e w2 ⟨rfl, ⟨ao2, cur2, hx2⟩, hb2⟩
  have HX2 : Hid (G.Tx w.heap.size w.heap.size ao2 cur2 ([] ++ R) [] w2) := hx2
  have HB2 : Hid (Below w.heap.size w w2) := HB.out.trans hb2
  clear hx2 hb2 HW
  go_wp2_with fail
  refine (move_ok _ _ _ ao2 cur2 ([] ++ R) [] HX2.out 0 (Nat.zero_le _)).mono ?_
  rintro e w3 ⟨rfl, ht⟩
  have HE : Hid (G.Told w.heap.size w.heap.size w [] R w3) := by
    have := ht.from HB2.out
    show G.Told _ _ _ _ _ _
    simpa using this
  clear ht
  go_wp2
  go_ret2
  exact ⟨rfl, HE.out⟩

set_option maxHeartbeats 8000000 in
theorem gplay_any (w : World) (v : Value) (R : List Int) (vl : Value) (l : List G.Ed) (hv : L.Rd w v .i32 R) (hl : G.RdE w vl l) (hR : R.length ≤ maxLen) :
    Calls Try.prog 4 #[v, vl] w (G.Plays w R l) := by
  have HV : Hid (L.Rd w v .i32 R) := hv
  obtain ⟨sp, c, rfl, _⟩ := hv
  have HL : Hid (G.RdE w vl l) := hl
  obtain ⟨ao, cap, rfl, hl63, hc⟩ := hl
  obtain ⟨w1, hw1⟩ : ∃ w1, w1 = w.alloc (.cells #[.int .i64 0, .int .i64 0] 26) := ⟨_, rfl⟩
  have HB : Hid (Below w.heap.size w w1) := by rw [hw1]; exact (Below.refl _ w).alloc (Nat.le_refl _) _
  have c0 : w1.cell? ⟨w.heap.size, 0, none⟩ = some (.int .i64 0) := by rw [hw1]; exact World.cell?_alloc_at _ _ _ _ (by simp)
  have c1 : w1.cell? ⟨w.heap.size, 1, none⟩ = some (.int .i64 0) := by rw [hw1]; exact World.cell?_alloc_at _ _ _ _ (by simp)
  have hb1 : w1.heap[w.heap.size]? = some (.cells #[.int .i64 0, .int .i64 0] 26 (0, 0)) := by rw [hw1]; exact Go.heap_alloc_new w _
  have HBl : Hid (w1.heap[w.heap.size]? = some (.cells #[.int .i64 0, .int .i64 0] 26 (0, 0))) := hb1
  have hs1 : w1.heap.size = w.heap.size + 1 := by rw [hw1]; simp
  have HS1 : Hid (w1.heap.size = w.heap.size + 1) := hs1
  have f0 := frozen_of_row w1 _ 0 _ _ hb1
  have f1 := frozen_of_row w1 _ 1 _ _ hb1
  have HW : Hid (w1 = w.alloc (.cells #[.int .i64 0, .int .i64 0] 26)) := hw1
  clear hw1 hb1 hs1
  by_cases h4 : 4000 < R.length
  · have HR : Hid (G.res R l = ((4, 0), [], 0)) := by show _ = _; unfold G.res; rw [if_pos h4]
    go_enter Try.func4, Try.ntmps4
    go_wp2_with fail
    rw [← HW.out]
    refine (new_bad _ sp R.length c hR h4).mono ?_
    rintro e w2 ⟨rfl, hb2⟩
    have d0 : w2.cell? ⟨w.heap.size, 0, none⟩ = some (.int .i64 0) := by rw [hb2.cell (p := ⟨w.heap.size, 0, none⟩) (by have := HS1.out; show w.heap.size < _; omega)]; exact c0
    have d1 : w2.cell? ⟨w.heap.size, 1, none⟩ = some (.int .i64 0) := by rw [hb2.cell (p := ⟨w.heap.size, 1, none⟩) (by have := HS1.out; show w.heap.size < _; omega)]; exact c1
    have hbl2 : w2.heap[w.heap.size]? = some (.cells #[.int .i64 0, .int .i64 0] 26 (0, 0)) := (hb2.block _ (by have := HS1.out; omega)).trans HBl.out
    have g0 := frozen_of_row w2 _ 0 _ _ hbl2
    have g1 := frozen_of_row w2 _ 1 _ _ hbl2
    have HB2 : Hid (Below w.heap.size w w2) := HB.out.trans (hb2.mono (by have := HS1.out; omega))
    clear hb2 hbl2 c0 c1 f0 f1 hc
    go_wp2
    refine bodyPost_ret (v := .tuple #[.slice none 0 0, .int .i64 0, .agg #[.int .i64 4, .int .i64 0]]) (by simp [results, Try.results4, go_sem, *]) rfl ?_
    exact G.Plays.of (k := 0) (c := 0) HR.out (rd_nil _ _) (G.below_set (G.below_set HB2.out (Nat.le_refl _) _) (Nat.le_refl _) _)
  · obtain ⟨g, hg⟩ : ∃ g, g = w1.heap.size := ⟨_, rfl⟩
    have HG : Hid (g = w.heap.size + 1) := hg.trans HS1.out
    have hwg : w.heap.size < g := by have := HG.out; omega
    go_enter Try.func4, Try.ntmps4
    go_wp2_with fail
    rw [← HW.out]
    refine (new_ok _ _ R (HV.out.below HB.out (Nat.le_refl _)) (by omega)).mono ?_
    rw [← hg]
    rintro e w2 ⟨rfl, ⟨ao2, cur2, hx2⟩, hb2⟩
    have HX2 : Hid (∃ ao cur, G.Tx g g ao cur [] R w2) := ⟨ao2, cur2, hx2⟩
    have HB2 : Hid (Below g w1 w2) := hb2
    clear hx2 hb2 HW c0 c1 f0 f1 hg
    go_wp2
    go_loopw [23] (fun i wr => ∃ (k : Nat) (A Z : List Int), k ≤ l.length ∧ i = .int .i64 k ∧ Hid (∃ ao cur, G.Tx g g ao cur A Z wr) ∧ Hid (Below g w1 wr) ∧ Hid (G.play k (l.drop k) (A, Z) = G.play 0 l ([], R))) (fun i _ => l.length - (intOf i).toNat)
    case atStart => exact ⟨0, [], R, Nat.zero_le _, rfl, HX2, HB2, by show _ = _; rw [List.drop_zero]⟩
    case round =>
      obtain ⟨k, A, Z, hk, rfl, HX, HBw1, HP⟩ := hrel
      clear HX2 HB2
      obtain ⟨aoX, curX, hxX⟩ := HX.out
      have hsg : g < wr.heap.size := hxX.box.lt
      have HXX : Hid (G.Tx g g aoX curX A Z wr) := hxX
      have HBw : Hid (Below w.heap.size w wr) := HB.out.trans (HBw1.out.mono (by omega))
      have hbl : wr.heap[w.heap.size]? = some (.cells #[.int .i64 0, .int .i64 0] 26 (0, 0)) := (HBw1.out.block _ hwg).trans HBl.out
      have HBL : Hid (wr.heap[w.heap.size]? = some (.cells #[.int .i64 0, .int .i64 0] 26 (0, 0))) := hbl
      clear HX hxX hbl
      by_cases hlt : k < l.length
      · obtain ⟨b, off, rfl, hcell⟩ := hc (by intro h; subst h; simp at hlt)
        obtain ⟨e, he⟩ : ∃ e, l[k]? = some e := ⟨l[k], by simp [hlt]⟩
        obtain ⟨q0, q1, sp2, cp2, q2, rd2, len2, hk64, hn64⟩ := hcell k e he
        have hb := L.block_lt q0
        rw [← HBw.out.cell (p := ⟨b, _, none⟩) hb] at q0 q1 q2
        have HPS : Hid (G.play k (l.drop k) (A, Z) = if (G.step e (A, Z)).1 = 0 then G.play (k + 1) (l.drop (k + 1)) (G.step e (A, Z)).2 else ((G.step e (A, Z)).1, k, (A, Z))) := G.play_step k l (A, Z) e he
        have HXa : Hid (∀ o, G.Tx g g aoX curX A Z (wr.alloc o)) := fun o => HXX.out.kept fun k hk => Below.heap_alloc wr o k hk
        have HBa : Hid (∀ o, Below g w1 (wr.alloc o)) := fun o => HBw1.out.alloc (by omega) o
        have HRd : Hid (∀ o w', Below g (wr.alloc o) w' → L.Rd w' (.slice sp2 e.runes.length cp2) .i32 e.runes) := fun o w' hb' => by
          refine rd2.below ((HBw.out.alloc (by omega) o).trans (hb'.mono (by omega))) (Nat.le_refl _)
        obtain ⟨x, A', Z', hst⟩ : ∃ x A' Z', G.step e (A, Z) = (x, A', Z') := ⟨_, _, _, rfl⟩
        have HPl : Hid (∀ o, Calls Try.prog 8 #[.pointer (some ⟨g, 0, none⟩), .agg #[.int .i64 e.kind, .int .i64 e.n, .slice sp2 e.runes.length cp2]] (wr.alloc o) fun en w' => en = .returned (.int .i64 x) ∧ G.Told g g (wr.alloc o) A' Z' w') := fun o => by
          have := play_any _ g g aoX curX A Z (HXa.out o) e sp2 cp2 (HRd.out o) (by unfold maxLen; omega) hk64 hn64
          refine this.mono fun en w' hd => ?_
          unfold G.Does at hd
          rw [hst] at hd
          exact hd
        have HPS' : Hid (G.play k (l.drop k) (A, Z) = if x = 0 then G.play (k + 1) (l.drop (k + 1)) (A', Z') else (x, k, (A, Z))) := by have := HPS.out; rw [hst] at this; exact this
        have hx : x = 0 ∨ x = 1 ∨ x = 3 ∨ x = 4 := by have := G.step_err e (A, Z); rw [hst] at this; exact this
        clear hcell he rd2 hc hst HPS hk64 hn64
        go_wp2_with fail
        refine (HPl.out _).mono ?_
        rintro en w3 ⟨rfl, ⟨ao3, cur3, hx3⟩, hb3⟩
        have HX3 : Hid (∃ ao cur, G.Tx g g ao cur A' Z' w3) := ⟨ao3, cur3, hx3⟩
        have HB3 : Hid (Below g w1 w3) := (HBa.out _).trans hb3
        have hbl3 : w3.heap[w.heap.size]? = some (.cells #[.int .i64 0, .int .i64 0] 26 (0, 0)) := (HB3.out.block _ hwg).trans HBl.out
        have g0 := frozen_of_row w3 _ 0 _ _ hbl3
        have g1 := frozen_of_row w3 _ 1 _ _ hbl3
        have d0 : w3.cell? ⟨w.heap.size, 0, none⟩ = some (.int .i64 0) := by simp [World.cell?, hbl3]
        have d1 : w3.cell? ⟨w.heap.size, 1, none⟩ = some (.int .i64 0) := by simp [World.cell?, hbl3]
        have HBf : Hid (Below w.heap.size w w3) := HB.out.trans (HB3.out.mono (by omega))
        clear hx3 hb3 hbl3 HPl
        by_cases hx0 : x = 0
        · subst hx0
          have HPn : Hid (G.play (k + 1) (l.drop (k + 1)) (A', Z') = G.play 0 l ([], R)) := by
            have := HPS'.out
            rw [if_pos rfl, HP.out] at this
            exact this.symm
          go_wp2
          go_roundw
          case rel => exact ⟨k + 1, A', Z', by omega, by go_num, HX3, HB3, HPn⟩
          case measure => simp [intOf]; omega
        · have HR : Hid (G.res R l = ((x, k), [], 0)) := by
            have h1 := HPS'.out
            rw [if_neg hx0, HP.out] at h1
            show _ = _
            unfold G.res
            rw [if_neg h4, h1]
            simp only [if_neg hx0]
          go_wp2
          refine bodyPost_ret (v := .tuple #[.slice none 0 0, .int .i64 0, .agg #[.int .i64 x, .int .i64 k]]) (by simp [results, Try.results4, go_sem, *]) rfl ?_
          exact G.Plays.of (c := 0) HR.out (rd_nil _ _) (G.below_set (G.below_set HBf.out (Nat.le_refl _) _) (Nat.le_refl _) _)
      · have hkl : k = l.length := by omega
        have HPe : Hid (G.res R l = ((0, 0), A ++ Z, A.length)) := by
          have h1 := HP.out
          rw [G.play_end k l (A, Z) (by omega)] at h1
          show _ = _
          unfold G.res
          rw [if_neg h4, ← h1]
          rfl
        go_wp2_with fail
        refine (runes_any _ g g aoX curX A Z HXX.out).mono ?_
        rintro en w3 ⟨v, rfl, hv3, hb3⟩
        have HV3 : Hid (w3.ownsRow wr.heap.size 21 1 v (A ++ Z).length ((A ++ Z).map (Value.int .i32))) := hv3
        have HX3 : Hid (G.Tx g g aoX curX A Z w3) := HXX.out.kept fun k hk => hb3.block k hk
        have hbl3 : w3.heap[w.heap.size]? = some (.cells #[.int .i64 0, .int .i64 0] 26 (0, 0)) := (hb3.block _ (by omega)).trans HBL.out
        have g0 := frozen_of_row w3 _ 0 _ _ hbl3
        have g1 := frozen_of_row w3 _ 1 _ _ hbl3
        have d0 : w3.cell? ⟨w.heap.size, 0, none⟩ = some (.int .i64 0) := by simp [World.cell?, hbl3]
        have d1 : w3.cell? ⟨w.heap.size, 1, none⟩ = some (.int .i64 0) := by simp [World.cell?, hbl3]
        have HBf : Hid (Below w.heap.size w w3) := HBw.out.trans (hb3.mono (by omega))
        have hwr : w.heap.size < wr.heap.size := by omega
        clear hv3 hb3 hbl3 hc
        go_wp2_with (go_at_call 10; refine (cursor_any _ g _ _ _ HX3.out.box).mono ?_; rintro e w' ⟨rfl, rfl⟩)
        refine bodyPost_ret (v := .tuple #[v, .int .i64 A.length, .agg #[.int .i64 0, .int .i64 0]]) (by simp [results, Try.results4, go_sem, *]) rfl ?_
        refine G.Plays.of (k := 0) HPe.out (L.Rd.of_owns (B := wr.heap.size) (e := 21) ?_) (G.below_set (G.below_set HBf.out (Nat.le_refl _) _) (Nat.le_refl _) _)
        exact ownsRow_setCell_below (ownsRow_setCell_below HV3.out (a := ⟨w.heap.size, 0, none⟩) hwr _) (a := ⟨w.heap.size, 1, none⟩) hwr _

end Go.Proofs.Ytcphiemfjdbhfaa
