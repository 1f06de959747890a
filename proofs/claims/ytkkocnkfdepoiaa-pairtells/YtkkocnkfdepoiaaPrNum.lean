/-
  What sets.Count tells.
-/
import Derived.Test.YtkkocnkfdepoiaaSSize
import Derived.Test.YtkkocnkfdepoiaaSAlg
import Derived.Test.YtkkocnkfdepoiaaMCut
namespace Go.Proofs.Ytkkocnkfdepoiaa
open Go.RowKit

theorem total_append (l m : List S.Sp) : S.total (l ++ m) = S.total l + S.total m := by
  induction l with
  | nil => simp [S.total]
  | cons x l ih => simp only [List.cons_append, S.total, ih]; omega
theorem total_take {l : List S.Sp} {k : Nat} {x : S.Sp} (hx : l[k]? = some x) : S.total (l.take (k + 1)) = S.total (l.take k) + (x.2 - x.1 + 1) := by
  rw [List.take_add_one, hx, total_append]; simp [S.total]
theorem total_le {b : Int} {l : List S.Sp} (h : S.Nf b l) (hb : 0 ≤ b) : S.total l ≤ 1114112 := by
  rw [S.total_cnt h hb]; have := S.cnt_le (S.memb l) 1114112; omega
theorem rd_take {w : World} {ao : Option Addr} {n c : Nat} {l : List S.Sp} (R : S.Rd w (.slice ao n c) l) (k : Nat) (hk : k ≤ l.length) : S.Rd w (.slice ao k c) (l.take k) := by
  obtain ⟨ao', cap', he, hn, hc⟩ := R
  simp only [Value.slice.injEq] at he
  obtain ⟨rfl, rfl, rfl⟩ := he
  refine ⟨ao, c, by rw [List.length_take, Nat.min_eq_left hk], hn, fun h => ?_⟩
  obtain ⟨b, off, e, hcell⟩ := hc (by intro h0; subst h0; simp at h)
  refine ⟨b, off, e, fun j x hj => hcell j x ?_⟩
  rw [List.getElem?_take] at hj
  split at hj
  · exact hj
  · cases hj

def cntF (l : List S.Sp) : Int := if S.wrongE l = 0 then S.total l else 0

set_option maxHeartbeats 1000000 in
theorem count_any (w : World) (v : Value) (l : List S.Sp) (R : S.Rd w v l) (F : S.Fit l) :
    Calls Try.prog 13 #[v] w fun e w' => e = .returned (.tuple #[.int .i64 (cntF l), .int .i64 (S.wrongE l)]) ∧ Below w.heap.size w w' := by
  have hw := wrong_any w v l R F
  obtain ⟨ao, cap, rfl, hn, hc⟩ := R
  unfold cntF
  by_cases hz : S.wrongE l = 0
  · obtain ⟨hl, N⟩ := S.wrongE_zero.1 hz
    rw [if_pos hz]
    rw [hz] at hw ⊢
    clear hz
    have HN : Hid (S.Nf 0 l) := N
    clear N
    go_enter Try.func13, Try.ntmps13
    go_wp2_with fail
    refine hw.mono ?_
    clear hw
    rintro e w1 ⟨rfl, b1⟩
    have BW1 : Hid (Below w.heap.size w w1) := b1
    clear b1
    go_wp2
    go_loopw [5, 15] (fun s i wr => ∃ (k : Nat) (acc : Int), k ≤ l.length ∧ i = .int .i64 k ∧ s = .int .i64 acc ∧ 0 ≤ acc ∧ acc ≤ 1114112 ∧ Hid (acc = S.total (l.take k)) ∧ Hid (Below w.heap.size w wr)) (fun _ i _ => l.length - (intOf i).toNat)
    case atStart => exact ⟨0, 0, Nat.zero_le _, rfl, rfl, by omega, by omega, by show _ = _; simp [S.total], BW1⟩
    case round =>
      obtain ⟨k, acc, hk, rfl, rfl, h0, h1, HT, HB⟩ := hrel
      have hsz := HB.out.size
      by_cases hlt : k < l.length
      · obtain ⟨b, off, rfl, hcell⟩ := hc (by intro h; subst h; simp at hlt)
        obtain ⟨x, hx⟩ : ∃ x, l[k]? = some x := ⟨l[k], by simp [hlt]⟩
        have c0 := hcell k x hx
        have hb := L.block_lt c0.1
        have c1 := c0.1
        have c2 := c0.2
        rw [← HB.out.cell (p := ⟨b, _, none⟩) hb] at c1 c2
        have hxo := HN.out.mem (List.mem_of_getElem? hx)
        have hT2 := total_take hx
        rw [← HT.out] at hT2
        have hle := total_le (HN.out.take (k + 1)) (by omega)
        rw [hT2] at hle
        obtain ⟨x1, x2⟩ := x
        simp only at c1 c2 hxo hle hT2
        have HT2 : Hid _ := hT2
        have HBa : Hid (∀ o, Below w.heap.size w (wr.alloc o)) := fun o => HB.out.alloc hsz o
        have hsi := size_any (wr.alloc (.cells #[.int .i32 x1, .int .i32 x2] 57)) x1 x2 hxo.1 hxo.2.1 hxo.2.2
        clear c0 hx hcell hc hT2
        go_wp2_with fail
        refine hsi.mono ?_
        clear hsi
        rintro e w2 ⟨rfl, b2⟩
        have HB2 : Hid (Below w.heap.size w w2) := (HBa.out _).trans (b2.mono (by simp; omega))
        clear b2
        go_wp2
        go_roundw
        case rel => exact ⟨k + 1, acc + (x2 - x1 + 1), by omega, by go_num, rfl, by omega, by omega, HT2.out.symm, HB2⟩
        case measure => simp [intOf]; omega
      · go_wp2
        go_ret2
        refine ⟨?_, HB.out⟩
        rw [HT.out, List.take_of_length_le (by omega)]; rfl
  · rw [if_neg hz]
    generalize S.wrongE l = we at *
    go_enter Try.func13, Try.ntmps13
    go_wp2_with fail
    refine hw.mono ?_
    clear hw
    rintro e w1 ⟨rfl, b1⟩
    go_wp2
    go_ret2
    exact ⟨rfl, b1⟩

end Go.Proofs.Ytkkocnkfdepoiaa

/-
  All numbers of a set that has few: pair.numbers.
-/
namespace Go.Proofs.Ytkkocnkfdepoiaa
open Go.RowKit Go.Shelf
set_option maxRecDepth 20000
set_option linter.unusedSimpArgs false
set_option linter.unusedVariables false

namespace Pr
theorem upFrom_succ (a : Int) (n : Nat) : upFrom a (n + 1) = upFrom a n ++ [a + n] := by
  unfold upFrom; rw [List.range_succ, List.map_append]; rfl
theorem upFrom_len (a : Int) (n : Nat) : (upFrom a n).length = n := by unfold upFrom; simp
theorem numbers_take {s : List S.Sp} {k : Nat} {x : S.Sp} (h : s[k]? = some x) : numbers (s.take (k + 1)) = numbers (s.take k) ++ upFrom x.1 (x.2 - x.1 + 1).toNat := by
  unfold numbers; rw [List.take_add_one, h, List.flatMap_append]; simp
theorem numbers_len {s : List S.Sp} (h : ∀ x ∈ s, x.1 ≤ x.2) : ((numbers s).length : Int) = S.total s := by
  induction s with
  | nil => rfl
  | cons x s ih =>
    have h1 := h x (List.mem_cons_self ..)
    have h2 := ih fun y hy => h y (List.mem_cons_of_mem _ hy)
    have e : numbers (x :: s) = upFrom x.1 (x.2 - x.1 + 1).toNat ++ numbers s := by simp [numbers]
    rw [e, List.length_append, upFrom_len, S.total]
    omega
theorem total_mono {s : List S.Sp} (h : ∀ x ∈ s, x.1 ≤ x.2) (k : Nat) : S.total (s.take k) ≤ S.total s := by
  have e := total_append (s.take k) (s.drop k)
  rw [List.take_append_drop] at e
  have := numbers_len (s := s.drop k) fun x hx => h x (List.mem_of_mem_drop hx)
  omega
theorem part_len {s : List S.Sp} (N : S.Nf 0 s) (hT : S.total s ≤ 40) {k j : Nat} {x : S.Sp} (hx : s[k]? = some x) (hj : j ≤ (x.2 - x.1 + 1).toNat) : (numbers (s.take k) ++ upFrom x.1 j).length ≤ 40 := by
  have hr : ∀ x ∈ s, x.1 ≤ x.2 := fun y hy => (N.mem hy).2.1
  have h1 := numbers_len (s := s.take (k + 1)) fun y hy => hr y (List.mem_of_mem_take hy)
  have h2 := total_mono hr (k + 1)
  rw [numbers_take hx, List.length_append, upFrom_len] at h1
  rw [List.length_append, upFrom_len]
  omega
theorem row_ne {w : World} {B : Nat} {v : Value} {n : Nat} {xs : List Value} {b : Nat} {c : Array Value} (h : w.ownsRow B 21 1 v n xs) (hb : w.heap[b]? = some (.cells c 57)) : v.ownBlock ≠ some b := by
  intro e
  rcases h.2 with ⟨rfl, _⟩ | ⟨g, cap, cur, rfl, _, hg, _⟩
  · cases e
  · cases e
    rw [hg] at hb
    simp at hb
end Pr

set_option maxHeartbeats 4000000 in
theorem numbers_any (w : World) (v : Value) (s : List S.Sp) (R : S.Rd w v s) (N : S.Nf 0 s) (hl : s.length ≤ 200) (hT : S.total s ≤ 40) :
    Calls Try.prog 15 #[v] w fun e w' => ∃ v', e = .returned v' ∧ L.Rd w' v' .i32 (Pr.numbers s) ∧ Below w.heap.size w w' := by
  obtain ⟨ao, cap, rfl, hn, hc⟩ := R
  have HN : Hid (S.Nf 0 s ∧ S.total s ≤ 40) := ⟨N, hT⟩
  clear N hT
  go_enter Try.func15, Try.ntmps15
  go_wp2
  go_loopw [3, 9] (fun i3 i wr => ∃ (k : Nat) (o : List Int) (vo : Option Addr) (vc : Nat), k ≤ s.length ∧ i = .int .i64 k ∧ i3 = .slice vo o.length vc ∧ o.length ≤ 40 ∧ Hid (o = Pr.numbers (s.take k) ∧ wr.ownsRow w.heap.size 21 1 (.slice vo o.length vc) o.length (K.ints o) ∧ Below w.heap.size w wr)) (fun _ i _ => s.length - (intOf i).toNat)
  case atStart => exact ⟨0, [], none, 0, Nat.zero_le _, rfl, rfl, by simp, ⟨by simp [Pr.numbers], World.ownsRow_nil _ _ _ _, Below.refl _ w⟩⟩
  case round =>
    obtain ⟨k, o, vo, vc, hk, rfl, rfl, hol, HI⟩ := hrel
    obtain ⟨wo, hwo⟩ : ∃ wo, wo = wr := ⟨_, rfl⟩
    subst hwo
    by_cases hlt : k < s.length
    · obtain ⟨b, off, rfl, hcell⟩ := hc (by intro h; subst h; simp at hlt)
      obtain ⟨x, hx⟩ : ∃ x, s[k]? = some x := ⟨s[k], by simp [hlt]⟩
      have c0 := hcell k x hx
      have hb := L.block_lt c0.1
      have c1 := c0.1
      have c2 := c0.2
      rw [← HI.out.2.2.cell (p := ⟨b, _, none⟩) hb] at c1 c2
      have hxo := HN.out.1.mem (List.mem_of_getElem? hx)
      have HP : Hid (∀ j : Nat, j ≤ (x.2 - x.1 + 1).toNat → (o ++ Pr.upFrom x.1 j).length ≤ 40) := fun j hj => by rw [HI.out.1]; exact Pr.part_len HN.out.1 HN.out.2 hx hj
      have HT : Hid (Pr.numbers (s.take (k + 1)) = o ++ Pr.upFrom x.1 (x.2 - x.1 + 1).toNat) := by rw [HI.out.1]; exact Pr.numbers_take hx
      obtain ⟨x1, x2⟩ := x
      simp only at c1 c2 hxo HP HT
      obtain ⟨X, hX⟩ : ∃ X, X = wo.alloc (.cells #[.int .i32 x1, .int .i32 x2] 57) := ⟨_, rfl⟩
      have HX : Hid (o = o ++ Pr.upFrom x1 0 ∧ X.ownsRow w.heap.size 21 1 (.slice vo o.length vc) o.length (K.ints o) ∧ Below w.heap.size w X ∧ X.heap[wo.heap.size]? = some (.cells #[.int .i32 x1, .int .i32 x2] 57)) := ⟨by simp [Pr.upFrom], by rw [hX]; exact HI.out.2.1.alloc _, by rw [hX]; exact HI.out.2.2.alloc HI.out.2.2.size _, by rw [hX]; exact heap_alloc_new wo _⟩
      have hwz := HI.out.2.2.size
      clear c0 hx hcell hc
      go_wp2
      rw [← hX]
      clear c1 c2
      go_loopw [3, 6] (fun i3 i6 wr => ∃ (j : Nat) (q : List Int) (qo : Option Addr) (qc : Nat), j ≤ (x2 - x1 + 1).toNat ∧ i6 = .int .i32 (x1 + j) ∧ i3 = .slice qo q.length qc ∧ q.length ≤ 40 ∧ Hid (q = o ++ Pr.upFrom x1 j ∧ wr.ownsRow w.heap.size 21 1 (.slice qo q.length qc) q.length (K.ints q) ∧ Below w.heap.size w wr ∧ wr.heap[wo.heap.size]? = some (.cells #[.int .i32 x1, .int .i32 x2] 57))) (fun _ i6 _ => (x2 + 1 - intOf i6).toNat)
      case atStart => exact ⟨0, o, vo, vc, Nat.zero_le _, by simp, rfl, hol, HX⟩
      case round =>
        obtain ⟨j, q, qo, qc, hj, rfl, rfl, hql, HQ⟩ := hrel
        have y0 := K.at_box (i := 0) HQ.out.2.2.2 rfl
        have y1 := K.at_box (i := 1) HQ.out.2.2.2 rfl
        have hbz : wo.heap.size + 1 ≤ wr.heap.size := lt_of_block HQ.out.2.2.2
        by_cases hjx : x1 + (j : Int) ≤ x2
        · obtain ⟨ao1, vc1, w1, run1, own1, kp1, sz1, be1⟩ := Cn.app1 HQ.out.2.1 (by omega) (by omega) (x1 + (j : Int))
          have HR : Hid (q ++ [x1 + (j : Int)] = o ++ Pr.upFrom x1 (j + 1) ∧ w1.ownsRow w.heap.size 21 1 (.slice ao1 (q.length + 1) vc1) (q ++ [x1 + (j : Int)]).length (K.ints (q ++ [x1 + (j : Int)])) ∧ Below w.heap.size w w1 ∧ w1.heap[wo.heap.size]? = some (.cells #[.int .i32 x1, .int .i32 x2] 57) ∧ (q ++ [x1 + (j : Int)]).length = q.length + 1 ∧ (q ++ [x1 + (j : Int)]).length ≤ 40) := by
            refine ⟨by rw [Pr.upFrom_succ, HQ.out.1, List.append_assoc], own1, HQ.out.2.2.1.trans be1, ?_, by simp, ?_⟩
            · rw [kp1 _ (by omega) (Pr.row_ne HQ.out.2.1 HQ.out.2.2.2)]; exact HQ.out.2.2.2
            · have := HP.out (j + 1) (by omega)
              rw [Pr.upFrom_succ, ← List.append_assoc, ← HQ.out.1] at this
              exact this
          clear own1 kp1 be1 HX
          go_wp2_with (at_builtin; refine Lib.wpList_append_run _ rfl _ _ _ _ rfl _ _ rfl rfl _ _ (run1 _) ?_; clear run1)
          go_roundw
          case rel => exact ⟨j + 1, q ++ [x1 + (j : Int)], ao1, vc1, by omega, by go_num, by rw [HR.out.2.2.2.2.1], HR.out.2.2.2.2.2, ⟨HR.out.1, by rw [HR.out.2.2.2.2.1]; have := HR.out.2.1; rw [HR.out.2.2.2.2.1] at this; exact this, HR.out.2.2.1, HR.out.2.2.2.1⟩⟩
          case measure => simp [intOf]; omega
        · have hje : j = (x2 - x1 + 1).toNat := by omega
          have HE : Hid (q = Pr.numbers (s.take (k + 1)) ∧ wr.ownsRow w.heap.size 21 1 (.slice qo q.length qc) q.length (K.ints q) ∧ Below w.heap.size w wr) := ⟨by rw [HT.out, HQ.out.1, hje], HQ.out.2.1, HQ.out.2.2.1⟩
          clear HX hje
          go_wp2
          go_roundw
          case rel => exact ⟨k + 1, q, qo, qc, by omega, by go_num, rfl, hql, HE⟩
          case measure => simp [intOf]; omega
    · have hkl : k = s.length := by omega
      subst hkl
      go_wp2
      go_ret
      have h := HI.out
      rw [List.take_length] at h
      refine ⟨_, rfl, ?_, h.2.2⟩
      rw [← h.1]
      exact L.Rd.of_owns h.2.1

end Go.Proofs.Ytkkocnkfdepoiaa
