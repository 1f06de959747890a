/-
  What the closure that sets.stretches makes answers of a number: whether the set has it, and up to which one that stays so.
-/
import Derived.Test.YtajbcgobfkaahaaGreatDoorSWrong
import Derived.RegionTactic
import Derived.Laws.OwnMore
import Derived.Lib.MinMax
namespace Go.Proofs.YtajbcgobfkaahaaGreatDoor
open Go.RowKit
set_option maxRecDepth 20000

theorem grown_set (W : World) (b : Nat) (v : Value) : W.grownBy (W.setCell ⟨b, 0, none⟩ v) (some b) := ⟨rfl, rfl, rfl, by simp, fun k _ hk => heap_setCell_other W ⟨b, 0, none⟩ k v (fun e => hk (by simp [e]))⟩

set_option maxHeartbeats 1000000 in
theorem stretch_any (W : World) (bn bs : Nat) (v : Value) (l : List S.Sp) (j : Nat) (r : Int) (hne : bn ≠ bs) (hv : l ≠ [] → v.ownBlock ≠ some bn) (R : S.Rd W v l) (N : S.Nf 0 l) (hj : j ≤ l.length) (hl : l.length ≤ 200)
    (X : S.Bx W bn 3 (.int .i64 j)) (Y : S.Bx W bs 37 v) (hp : S.Past l j r) (h1 : r ≤ 1114111) :
    Calls Tryz.prog 150 #[.int .i32 r, .pointer (some ⟨bn, 0, none⟩), .pointer (some ⟨bs, 0, none⟩)] W fun e w' =>
      ∃ (last : Int) (j' : Nat), e = .returned (.tuple #[.bool (S.memb l r), .int .i32 last]) ∧ r ≤ last ∧ last ≤ 1114111 ∧ (∀ q, r ≤ q → q ≤ last → S.memb l q = S.memb l r) ∧ j' ≤ l.length ∧ S.Bx w' bn 3 (.int .i64 j') ∧ S.Past l j' r ∧ W.grownBy w' (some bn) := by
  obtain ⟨ao, cap, rfl, hn, hc⟩ := R
  have HC : Hid _ := hc
  have HX : Hid (S.Bx W bn 3 (.int .i64 j)) := X
  have HY : Hid (S.Bx W bs 37 (.slice ao l.length cap)) := Y
  clear hc X Y
  go_enter Tryz.func150, Tryz.ntmps150
  go_wp2
  go_loopw [] (fun wr => ∃ k : Nat, k ≤ l.length ∧ Hid (S.Bx wr bn 3 (.int .i64 k)) ∧ Hid (S.Past l k r) ∧ Hid (W.grownBy wr (some bn))) (fun wr => l.length - S.num wr bn)
  case atStart => exact ⟨j, hj, HX, hp, S.grown_refl _ _⟩
  case round =>
    obtain ⟨k, hk, HB, HP, HG⟩ := hrel
    have e1 := HB.out.cell
    have e2 := HB.out.free
    have e3 := (HY.out.grown HG.out (by simp; omega)).cell
    have hnum := HB.out.num
    by_cases hlt : k < l.length
    · obtain ⟨b, off, rfl, hcell⟩ := HC.out (by intro h; subst h; simp at hlt)
      obtain ⟨x, hx⟩ : ∃ x, l[k]? = some x := ⟨l[k], by simp [hlt]⟩
      have hb : b ≠ bn := fun e => hv (by intro h; subst h; simp at hlt) (by simp [Value.ownBlock, e])
      have cc : ∀ o u, W.cell? ⟨b, o, none⟩ = some u → wr.cell? ⟨b, o, none⟩ = some u := fun o u hu => by
        rw [World.cell?_of_block (a := ⟨b, o, none⟩) (HG.out.block b (L.block_lt hu) (by simpa using hb))]; exact hu
      have c1 := cc _ _ (hcell k x hx).1
      have c2 := cc _ _ (hcell k x hx).2
      have hm := N.mem (List.mem_of_getElem? hx)
      have HX : Hid (l[k]? = some x) := hx
      obtain ⟨x1, x2⟩ := x
      simp only at c1 c2 hm
      clear hcell hx cc
      by_cases hlow : x2 < r
      · have HB2 : Hid (S.Bx (wr.setCell ⟨bn, 0, none⟩ (.int .i64 ((k : Int) + 1))) bn 3 (.int .i64 (k + 1 : Nat))) := HB.out.set _
        have HG2 : Hid (W.grownBy (wr.setCell ⟨bn, 0, none⟩ (.int .i64 ((k : Int) + 1))) (some bn)) := S.grown_trans HG.out (grown_set _ _ _)
        go_wp2
        go_roundw
        case rel => exact ⟨k + 1, by omega, HB2, HP.out.step HX.out hlow, HG2⟩
        case measure => rw [HB2.out.num, hnum]; omega
      · by_cases hr : r < x1
        · have HM : Hid (S.memb l r = false) := S.gap_out N HP.out HX.out (Int.le_refl _) hr
          go_wp2
          go_quiet (fail)
          go_wp2
          go_ret2
          refine ⟨x1 - 1, k, by rw [HM.out]; rfl, by omega, by omega, fun q h2 h3 => ?_, hk, HB.out, HP.out, S.grown_trans HG.out (S.grown_below (below_drewN (Below.refl _ _) _))⟩
          rw [HM.out]
          exact S.gap_out N HP.out HX.out h2 (by simp only; omega)
        · have HM : Hid (S.memb l r = true) := S.memb_iff.2 ⟨_, List.mem_of_getElem? HX.out, by simp only; omega, by simp only; omega⟩
          go_wp2
          go_quiet (fail)
          go_wp2
          go_ret2
          refine ⟨x2, k, by rw [HM.out]; rfl, by omega, by omega, fun q h2 h3 => ?_, hk, HB.out, HP.out, S.grown_trans HG.out (S.grown_below (below_drewN (Below.refl _ _) _))⟩
          rw [HM.out]
          exact S.memb_iff.2 ⟨_, List.mem_of_getElem? HX.out, by simp only; omega, by simp only; omega⟩
    · have HM : Hid (∀ q, r ≤ q → S.memb l q = false) := fun q hq => S.end_out (by omega) HP.out hq
      have hkl : (k : Int) = l.length := by omega
      go_wp2
      go_ret2
      refine ⟨1114111, k, by rw [HM.out r (Int.le_refl _)]; rfl, by omega, by omega, fun q h2 h3 => ?_, hk, HB.out, HP.out, HG.out⟩
      rw [HM.out q h2, HM.out r (Int.le_refl _)]

/-- what sets.stretches makes: two boxes, and a closure over them -/
theorem stretches_any (w : World) (ao : Option Addr) (n c : Nat) :
    Calls Tryz.prog 140 #[.slice ao n c] w fun e w' => e = .returned (.func (.func 150) #[] #[.pointer (some ⟨w.heap.size + 1, 0, none⟩), .pointer (some ⟨w.heap.size, 0, none⟩)]) ∧ Below w.heap.size w w' ∧ w'.heap.size = w.heap.size + 2 ∧ S.Bx w' (w.heap.size + 1) 3 (.int .i64 0) ∧ S.Bx w' w.heap.size 37 (.slice ao n c) := by
  go_enter Tryz.func140, Tryz.ntmps140
  go_wp2
  go_ret
  have h1 : Below w.heap.size w (w.alloc (.cells #[.slice ao n c] 37)) := (Below.refl _ w).alloc (Nat.le_refl _) _
  refine ⟨rfl, h1.alloc (by simp) _, by simp, ?_, ?_⟩
  · have := S.Bx.new (w.alloc (.cells #[.slice ao n c] 37)) 3 (.int .i64 0)
    simpa using this
  · exact (S.Bx.new w 37 (.slice ao n c)).below (B := w.heap.size + 1) ((Below.refl _ _).alloc (by simp) _) (by omega)

set_option maxHeartbeats 400000 in
/-- cmp.Or of two errors: the first one that is one -/
theorem cmpor_any (w : World) (b : Nat) (e1 e2 : Int) (c1 : w.cell? ⟨b, 0, none⟩ = some (.int .i64 e1)) (c2 : w.cell? ⟨b, 1, none⟩ = some (.int .i64 e2)) :
    Calls Tryz.prog 139 #[.slice (some ⟨b, 0, none⟩) 2 2] w fun e w' => e = .returned (.int .i64 (if e1 ≠ 0 then e1 else e2)) ∧ w' = w := by
  by_cases h1 : e1 = 0
  · subst h1
    simp only [ne_eq, not_true_eq_false, if_false]
    by_cases h2 : e2 = 0
    · subst h2
      go_enter Tryz.func139, Tryz.ntmps139
      go_wp2
      refine wp_loop_rounds 3 ?_
      rw [rounds_succ]; go_wp2
      rw [rounds_succ]; go_wp2
      rw [rounds_succ]; go_wp2
      go_ret
      exact ⟨rfl, rfl⟩
    · go_enter Tryz.func139, Tryz.ntmps139
      go_wp2
      refine wp_loop_rounds 3 ?_
      rw [rounds_succ]; go_wp2
      rw [rounds_succ]; go_wp2
      go_ret
      exact ⟨rfl, rfl⟩
  · rw [if_pos h1]
    go_enter Tryz.func139, Tryz.ntmps139
    go_wp2
    refine wp_loop_rounds 3 ?_
    rw [rounds_succ]; go_wp2
    go_ret
    exact ⟨rfl, rfl⟩

end Go.Proofs.YtajbcgobfkaahaaGreatDoor
