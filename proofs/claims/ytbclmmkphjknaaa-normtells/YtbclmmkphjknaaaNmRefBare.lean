/-
  A text without its marks: the document's answer.
-/
import Derived.Test.YtbclmmkphjknaaaNmRefApart
namespace Go.Proofs.Ytbclmmkphjknaaa
open Go.RowKit
set_option maxRecDepth 20000
set_option linter.unusedSimpArgs false
set_option linter.unusedVariables false

namespace Nm
/-- a text without its marks, and what is wrong -/
def bareF (l : List Int) : List Int × Int := if (apartF l).2 ≠ 0 then ([], (apartF l).2) else ((apartF l).1.filter fun r => !isM r, 0)
theorem apart_len (l : List Int) : (apartF l).1.length ≤ 4000 := by
  unfold apartF
  split
  · simp
  · split
    · simp
    · rw [fold_len, List.length_nil]; omega
end Nm

set_option maxHeartbeats 8000000 in
theorem nmRefBare_any (w : World) (v : Value) (l : List Int) (R : L.Rd w v .i32 l) (hl : l.length ≤ 140737488355328) :
    Calls Try.prog 15 #[v] w fun e w' => ∃ v', e = .returned (.tuple #[v', .int .i64 (Nm.bareF l).2]) ∧ w'.ownsRow w.heap.size 21 1 v' (Nm.bareF l).1.length (K.ints (Nm.bareF l).1) ∧ Below w.heap.size w w' := by
  have HT := nmRefApart_any w v l R hl
  obtain ⟨q, hq⟩ : ∃ q, q = Nm.bareF l := ⟨_, rfl⟩
  have HQ : Hid (q = Nm.bareF l) := hq
  rw [← hq]
  obtain ⟨ao, cap, rfl, _, _⟩ := R
  clear hq
  obtain ⟨q1, q2⟩ := q
  have hn := Nm.apart_len l
  unfold Nm.bareF at HQ
  obtain ⟨⟨t, te⟩, ht⟩ : ∃ p, p = Nm.apartF l := ⟨_, rfl⟩
  rw [← ht] at HT HQ hn
  simp only at HT HQ hn
  clear ht
  have HCl : Hid (∀ r X, Calls Try.prog 8 #[.int .i32 r] X fun e w' => e = .returned (.int .i64 (Nm.cls r)) ∧ w' = X) := fun r X => nmRefClass_any r X
  go_enter Try.func15, Try.ntmps15
  go_wp2_with fail
  refine HT.mono ?_
  clear HT
  rintro e w1 ⟨vt, rfl, own1, b1⟩
  obtain ⟨to_, tc, rfl, _, _⟩ := K.own_slice own1
  have HB1 : Hid (Below w.heap.size w w1) := b1
  have HO1 : Hid (w1.ownsRow w.heap.size 21 1 (.slice to_ t.length tc) t.length (K.ints t)) := own1
  clear b1 own1
  by_cases he : te = 0
  · have hQ : (q1, q2) = (t.filter fun r => !Nm.isM r, 0) := by rw [HQ.out, if_neg (by simp [he])]
    obtain ⟨hq1, rfl⟩ := Prod.mk.inj hQ
    have HQ1 : Hid (q1 = t.filter fun r => !Nm.isM r) := hq1
    subst he
    clear HQ hQ hq1
    go_wp2
    go_loopw [6, 19] (fun vt vi wr => ∃ (j : Nat) (xo : Option Addr) (xc : Nat) (acc : List Int), vt = .slice xo acc.length xc ∧ vi = .int .i64 j ∧ j ≤ t.length ∧ Hid (acc = (t.take j).filter fun r => !Nm.isM r) ∧ Hid (wr.ownsRow w1.heap.size 21 1 (.slice xo acc.length xc) acc.length (K.ints acc) ∧ Below w1.heap.size w1 wr)) (fun _ vi _ => t.length - (intOf vi).toNat)
    case atStart => exact ⟨0, none, 0, [], rfl, rfl, Nat.zero_le _, rfl, World.ownsRow_nil _ _ _ _, Below.refl _ _⟩
    case round =>
      obtain ⟨j, xo, xc, acc, rfl, rfl, hj, HA, HO⟩ := hrel
      have hal : acc.length ≤ j := by
        rw [HA.out]
        refine Nat.le_trans (List.length_filter_le _ _) ?_
        rw [List.length_take]; omega
      by_cases hlt : j < t.length
      · obtain ⟨r, hr⟩ : ∃ r, t[j]? = some r := ⟨t[j], by simp [hlt]⟩
        obtain ⟨_, _, e1, l1⟩ := Al.lies HO1.out
        obtain ⟨rfl, -, rfl⟩ := Value.slice.inj e1
        obtain ⟨g1, rfl, _, d1⟩ := l1 (by omega)
        have c0 : w1.cell? ⟨g1, j, none⟩ = some (.int .i32 r) := d1 j _ (by unfold K.ints; rw [List.getElem?_map, hr]; rfl)
        rw [← HO.out.2.cell (p := ⟨g1, j, none⟩) (L.block_lt c0)] at c0
        have hC := HCl.out r
        have hstep : ((t.take (j + 1)).filter fun r => !Nm.isM r) = acc ++ (if Nm.cls r = 0 then [r] else []) := by
          rw [List.take_add_one, hr, List.filter_append, ← HA.out]
          congr 1
          by_cases h : Nm.cls r = 0
          · have : Nm.isM r = false := by rw [Bool.eq_false_iff]; intro h2; have := Nm.isM_pos.1 h2; omega
            simp [h, this]
          · have : Nm.isM r = true := Nm.isM_pos.2 (by have := Nm.cls_pos r; omega)
            simp [h, this]
        have HS : Hid (((t.take (j + 1)).filter fun r => !Nm.isM r) = acc ++ (if Nm.cls r = 0 then [r] else [])) := hstep
        obtain ⟨N, hN⟩ : ∃ N, N = acc.length := ⟨_, rfl⟩
        have HNe : Hid (N = acc.length) := hN
        by_cases hz : Nm.cls r = 0
        · have hd : wr.ownsRow w1.heap.size 21 1 (.slice xo acc.length xc) acc.length (K.ints acc) := HO.out.1
          obtain ⟨v3, w3, run3, own3, _, _, b3, _⟩ := Nm.app1x hd HO.out.2.size (by omega) r
          have hrun : ∀ ty, (Builtin.append_ #[22, 22] ty #[.slice xo acc.length xc, .slice (some ⟨wr.heap.size, 0, none⟩) 1 1]).run Try.prog (wr.alloc (.cells #[.int .i32 r] 21)) = .ok v3 w3 := run3
          have hS2 : ((t.take (j + 1)).filter fun r => !Nm.isM r) = acc ++ [r] := by rw [HS.out, if_pos hz]
          have HG : Hid (acc ++ [r] = (t.take (j + 1)).filter fun r => !Nm.isM r) := hS2.symm
          obtain ⟨p3, c3, rfl, _, _⟩ := K.own_slice own3
          have HN : Hid (w3.ownsRow w1.heap.size 21 1 (.slice p3 (acc ++ [r]).length c3) (acc ++ [r]).length (K.ints (acc ++ [r])) ∧ Below w1.heap.size w1 w3) := ⟨own3, HO.out.2.trans b3⟩
          rw [hz] at hC
          rw [← hN] at hrun ⊢
          clear hstep HS hr HA e1 l1 d1 hN hz own3 b3 hd run3 hS2 HO
          generalize acc ++ [r] = ac2 at HG HN hrun
          go_wp2_with fail
          refine (hC _).mono ?_
          rintro e wa ⟨rfl, rfl⟩
          go_wp2_with (at_builtin; refine Lib.wpList_append_run _ rfl _ _ _ _ rfl _ _ rfl rfl _ _ (hrun _) ?_; clear hrun)
          go_roundw
          case rel => exact ⟨j + 1, p3, c3, ac2, rfl, by go_num, by omega, HG, HN⟩
          case measure => simp [intOf]; omega
        · have HS2 : Hid (acc = (t.take (j + 1)).filter fun r => !Nm.isM r) := by show _ = _; rw [HS.out, if_neg hz, List.append_nil]
          obtain ⟨c, hc⟩ : ∃ c, c = Nm.cls r := ⟨_, rfl⟩
          rw [← hc] at hC hz
          clear hstep HS hr HA e1 l1 d1 hN HNe hc
          go_wp2_with fail
          refine (hC _).mono ?_
          rintro e wa ⟨rfl, rfl⟩
          go_wp2
          go_roundw
          case rel => exact ⟨j + 1, xo, xc, acc, rfl, by go_num, by omega, HS2, HO⟩
          case measure => simp [intOf]; omega
      · have e : j = t.length := by omega
        subst e
        have ha : acc = q1 := by rw [HA.out, List.take_length, HQ1.out]
        subst ha
        have HF : Hid (wr.ownsRow w.heap.size 21 1 (.slice xo acc.length xc) acc.length (K.ints acc) ∧ Below w.heap.size w wr) := ⟨L.owns_base HO.out.1 HB1.out.size, HB1.out.trans (HO.out.2.mono HB1.out.size)⟩
        clear HA HO HQ1 HO1 HB1 HCl
        go_wp2
        refine bodyPost_ret (v := .tuple #[.slice xo acc.length xc, .int .i64 0]) (by simp [results, Try.results15, go_sem, *]) rfl ?_
        exact ⟨_, rfl, HF.out⟩
  · have hQ : (q1, q2) = ([], te) := by rw [HQ.out, if_pos he]
    obtain ⟨rfl, rfl⟩ := Prod.mk.inj hQ
    clear hQ
    clear HQ HO1
    go_wp2
    refine bodyPost_ret (v := .tuple #[.slice none 0 0, .int .i64 q2]) (by simp [results, Try.results15, go_sem, *]) rfl ?_
    exact ⟨_, rfl, World.ownsRow_nil _ _ _ _, HB1.out⟩

end Go.Proofs.Ytbclmmkphjknaaa
