/-
  What widen of gap.Text does.
-/
import Derived.Test.YtlmmjefplbcapaaGreatXMove
import Derived.Laws.OwnMore
import Derived.Deep.QuietTactic
import Derived.BigQuiet
namespace Go.Proofs.YtlmmjefplbcapaaGreat
open Go.RowKit

attribute [local go_sem ↓] Go.wp_at_zero Go.wp_at_succ

namespace Gm
/-- the gap is wide enough for n runes -/
def Wide (B : Gm.Bs) (g : Nat) (w : World) (A Z : List Int) (n : Nat) (w' : World) : Prop := (∃ ao cur, Tx B g ao cur A Z w' ∧ A.length + n + Z.length ≤ cur.length) ∧ Gm.Fr B w w'

/-- a new array of zeros -/
theorem make_run (w : World) (n : Nat) (hn : n ≤ 8000) : ∃ W, (∀ kl kc, (Instr.makeSlice 23 (.int kl (n : Int)) (.int kc (n : Int))).run Tryz.prog w = .ok (.slice (some ⟨w.heap.size, 0, none⟩) n n) W) ∧ W.heap[w.heap.size]? = some (.cells ((List.replicate n (0 : Int)).map (Value.int .i32)).toArray 21 (0, 0)) ∧ Below w.heap.size w W ∧ W.heap.size = w.heap.size + 1 := by
  obtain ⟨i0, hi, hz0, hz1, hz2⟩ := info_parts Tryz.infoI32
  have hr := fun kl kc => run_make (P := Tryz.prog) w 23 21 i0 (.int .i32 0) Tryz.underlying23 hi hz0 kl kc n n (by omega) (Int.le_refl _) (by rw [hz2]; omega) (by omega)
  simp only [Int.toNat_natCast] at hr
  refine ⟨_, hr, ?_, (Below.refl _ w).alloc (Nat.le_refl _) _, by simp⟩
  have h1 := Go.heap_alloc_new w (.cells (madeCells (Value.int .i32 0).cells (n * i0.size)) 21)
  rw [h1, hz1, Nat.mul_one]
  have e : madeCells (Value.int .i32 0).cells n = ((List.replicate n (0 : Int)).map (Value.int .i32)).toArray := by
    have := toList_madeCells_one (Value.int .i32 0) n
    rw [List.map_replicate, ← this]
    simp [Value.cells]
  rw [e]
theorem wide_cast {B : Gm.Bs} {g n N x y : Nat} {w W : World} {A Z : List Int} {v : Value} (h : Wide B g w A Z n ((W.setCell ⟨g, 0, none⟩ (.slice (some ⟨N, 0, none⟩) y y)).setCell ⟨g, 2, none⟩ v)) (e : x = y) : Wide B g w A Z n ((W.setCell ⟨g, 0, none⟩ (.slice (some ⟨N, 0, none⟩) x x)).setCell ⟨g, 2, none⟩ v) := e ▸ h
/-- a text stays where another block is changed -/
theorem Tx.apart {B : Gm.Bs} {g N : Nat} {ao : Option Addr} {cur A Z : List Int} {w w' : World} (h : Tx B g ao cur A Z w) (e : ∀ k, k < w.heap.size → k ≠ N → w'.heap[k]? = w.heap[k]?) (hg : g ≠ N) (hr : ∀ r, ao = some ⟨r, 0, none⟩ → r ≠ N) : Tx B g ao cur A Z w' :=
  ⟨h.hB, h.box.block (e g h.box.lt hg), h.room.block fun r h' => e r (h.room.lt r h').2 (hr r h'), h.ne, h.fit, h.most, h.few, h.ahead, h.behind⟩
theorem Bx3.toT {w : World} {g T n : Nat} {v0 v1 : Value} (h : Bx3 w g v0 v1 (.int .i64 n)) (e : T = n) : Bx3 w g v0 v1 (.int .i64 T) := e ▸ h
theorem Tx.cellsA {B : Gm.Bs} {g : Nat} {ao : Option Addr} {cur A Z : List Int} {w : World} (h : Tx B g ao cur A Z w) : 0 < A.length → ∃ b so, ao = some ⟨b, so, none⟩ ∧ ∀ j z, A[j]? = some z → w.drew.cell? ⟨b, so + j, none⟩ = some (.int .i32 z) := fun h0 => by
  obtain ⟨r, hr⟩ := h.room.some (by have := h.fit; omega)
  refine ⟨r, 0, hr, fun j z hj => ?_⟩
  rw [Nat.zero_add]
  have h1 := (List.getElem?_eq_some_iff.1 hj).1
  have h2 : A[j]? = (cur.take A.length)[j]? := congrArg (fun l => l[j]?) h.ahead
  rw [h2, List.getElem?_take, if_pos h1] at hj
  exact h.room.cell hr hj
theorem Tx.cellsZ {B : Gm.Bs} {g : Nat} {ao : Option Addr} {cur A Z : List Int} {w : World} (h : Tx B g ao cur A Z w) {T : Nat} (hT : T = cur.length - Z.length) : 0 < Z.length → ∃ r, ao = some ⟨r, 0, none⟩ ∧ ∀ j z, Z[j]? = some z → w.drew.cell? ⟨r, T + j, none⟩ = some (.int .i32 z) := fun h0 => by
  obtain ⟨r, hr⟩ := h.room.some (by have := h.fit; omega)
  refine ⟨r, hr, fun j z hj => ?_⟩
  have h2 : Z[j]? = (cur.drop (cur.length - Z.length))[j]? := congrArg (fun l => l[j]?) h.behind
  rw [h2, List.getElem?_drop, ← hT] at hj
  exact h.room.cell hr hj
/-- the text in its new array -/
theorem Tx.wide {B : Gm.Bs} {g N S : Nat} {ao : Option Addr} {cur A Z : List Int} {w w2 : World} {v0 v2 : Value} (h : Tx B g ao cur A Z w) (hS : A.length + Z.length ≤ S) (hS8 : S ≤ 8000) (hN : B.ok N) (hNg : N ≠ g)
    (hR : Room ⟨0, []⟩ w2 (some ⟨N, 0, none⟩) (splice (splice (List.replicate S 0) 0 A) (S - Z.length) Z)) (hX : Bx3 w2 g v0 (.int .i64 A.length) v2) :
    Tx B g (some ⟨N, 0, none⟩) (splice (splice (List.replicate S 0) 0 A) (S - Z.length) Z) A Z ((w2.setCell ⟨g, 0, none⟩ (.slice (some ⟨N, 0, none⟩) S S)).setCell ⟨g, 2, none⟩ (.int .i64 (S - Z.length : Nat))) := by
  have h0 : (splice (List.replicate S (0 : Int)) 0 A).length = S := by rw [length_splice _ _ _ (by rw [List.length_replicate]; omega), List.length_replicate]
  have hl : (splice (splice (List.replicate S (0 : Int)) 0 A) (S - Z.length) Z).length = S := by rw [length_splice _ _ _ (by omega)]; exact h0
  refine ⟨h.hB, ?_, ?_, fun r hr => by cases hr; exact hNg, by omega, by omega, h.few, ?_, ?_⟩
  · rw [hl]; exact (hX.set0 _).set2 _
  · rcases hR with ⟨hh, _⟩ | ⟨r, hr, hB, hb⟩
    · cases hh
    · cases hr
      exact .inr ⟨N, rfl, hN, by rw [heap_setCell_other _ _ _ _ hNg, heap_setCell_other _ _ _ _ hNg]; exact hb⟩
  · rw [splice_take (by omega) (by omega)]
    have := splice_to (L := List.replicate S (0 : Int)) (cs := A) (off := 0) (by omega)
    simpa using this.symm
  · rw [hl, splice_from (by omega), List.drop_eq_nil_of_le (by omega), List.append_nil]
end Gm

set_option maxHeartbeats 4000000 in
theorem widen_not (w : World) (B : Gm.Bs) (g : Nat) (ao : Option Addr) (cur A Z : List Int) (h : Gm.Tx B g ao cur A Z w) (n : Nat) (hn : A.length + n + Z.length ≤ cur.length) :
    Calls Tryz.prog 71 #[.pointer (some ⟨g, 0, none⟩), .int .i64 n] w fun e w' => e = .returned (.tuple #[]) ∧ Gm.Wide B g w A Z n w' := by
  have hf := h.fit
  have hm := h.most
  have c1 := h.box.c1
  have c2 := h.box.c2
  have H : Hid (Gm.Tx B g ao cur A Z w) := h
  clear h
  go_enter Tryz.func71, Tryz.ntmps71
  go_wp2
  go_quiet (fail)
  go_wp2
  (try simp only [Exit.inBlock, Exit.then])
  refine bodyPost_ret (results_none rfl _ _ _) rfl ?_
  exact ⟨rfl, ⟨ao, cur, H.out.drew _, hn⟩, Gm.Fr.drewN (Gm.Fr.refl _ _) _⟩

set_option maxHeartbeats 4000000 in
theorem widen_new (w : World) (B : Gm.Bs) (g : Nat) (ao : Option Addr) (cur A Z : List Int) (h : Gm.Tx B g ao cur A Z w) (n : Nat) (hn : ¬ A.length + n + Z.length ≤ cur.length) (h4 : A.length + Z.length + n ≤ 4000) (hmB : ∀ j ∈ B.m, j < w.heap.size) :
    Calls Tryz.prog 71 #[.pointer (some ⟨g, 0, none⟩), .int .i64 n] w fun e w' => e = .returned (.tuple #[]) ∧ Gm.Wide B g w A Z n w' := by
  have hf := h.fit
  have hm := h.most
  have hw := h.few
  have c1 := h.box.c1
  have c2 := h.box.c2
  have H : Hid (Gm.Tx B g ao cur A Z w) := h
  obtain ⟨T, hT⟩ : ∃ T : Nat, T = cur.length - Z.length := ⟨_, rfl⟩
  have HT : Hid (T = cur.length - Z.length) := hT
  rw [← hT] at c2
  have HL : Hid (A.length + (cur.length - (cur.length - Z.length)) = A.length + Z.length) := by show _ = _; omega
  have HZ : Hid (cur.length - (cur.length - Z.length) = Z.length) := by show _ = _; omega
  obtain ⟨S, hS⟩ : ∃ S : Nat, S = 2 * (A.length + Z.length + n) := ⟨_, rfl⟩
  have HS : Hid (S = 2 * (A.length + Z.length + n)) := hS
  have e1 : (2 : Int) * (↑A.length + ↑Z.length + ↑n) = (S : Int) := by omega
  have hT1 : ¬ (n : Int) ≤ T - A.length := by omega
  have hAT : A.length ≤ T := by omega
  have hTc : T ≤ cur.length := by omega
  have hS8 : S ≤ 8000 := by omega
  clear h hT hS
  go_enter Tryz.func71, Tryz.ntmps71
  go_wp2
  go_quiet (fail)
  go_wp2_with fail
  refine (len_any _ g ao _ _ _ (H.out.drew nq).box hm (by omega) (by omega)).mono ?_
  rintro e w' ⟨rfl, q, rfl⟩
  rw [HL.out]
  have HX1 : Hid (Gm.Tx B g ao cur A Z ((w.drewN nq).drewN q)) := (H.out.drew nq).drew q
  have HB1 : Hid (Gm.Fr B w ((w.drewN nq).drewN q)) := Gm.Fr.drewN (Gm.Fr.drewN (Gm.Fr.refl _ _) _) _
  generalize ((w.drewN nq).drewN q) = w1 at *
  obtain ⟨W, hmk, hblk, hbW, hsW⟩ := Gm.make_run w1 S hS8
  have HBW : Hid (Gm.Fr B w W) := HB1.out.trans (Gm.Fr.of_below hbW (by have := HX1.out.hB.1; have := HX1.out.box.lt; omega))
  have hmw1 : ∀ j ∈ B.m, j < w1.heap.size := fun j hj => by have := HB1.out.size; have := hmB j hj; omega
  obtain ⟨N, hN⟩ : ∃ N, N = w1.heap.size := ⟨_, rfl⟩
  rw [← hN] at hmk hblk hbW hsW hmw1
  have hgN : g < N := by rw [hN]; exact HX1.out.box.lt
  have HXW : Hid (Gm.Tx B g ao cur A Z W) := HX1.out.kept fun k hk => hbW.block k (by omega)
  have hBN : B.ok N := ⟨by have := HX1.out.hB.1; omega, fun h => by have := hmw1 N h; omega⟩
  clear hmw1
  have hBNb : B.b ≤ N := hBN.1
  have HRW : Hid (Gm.Room ⟨0, []⟩ W (some ⟨N, 0, none⟩) (List.replicate S 0)) := .inr ⟨N, rfl, ⟨Nat.zero_le _, by simp⟩, hblk⟩
  have HrN : Hid (∀ r, ao = some ⟨r, 0, none⟩ → r < N) := fun r hr => by rw [hN]; exact (HX1.out.room.lt r hr).2
  have d0 := HXW.out.box.c0
  have d1 := HXW.out.box.c1
  have d2 := HXW.out.box.c2
  rw [← HT.out] at d2
  have hNW : N < W.heap.size := by omega
  clear hblk hbW hsW hN c1 c2 HX1 HB1 H
  have hA0 : (0 : Int) ≤ A.length := by omega
  have hA1 : (A.length : Int) ≤ cur.length := by omega
  have HA : Hid (A.length = Nat.min A.length S) := by show _ = min _ _; have := HS.out; omega
  have HFA : Hid (0 + A.length ≤ (List.replicate S (0 : Int)).length) := by show _ ≤ _; rw [List.length_replicate]; have := HS.out; omega
  have HSA : Hid (0 < A.length → ∃ b so, ao = some ⟨b, so, none⟩ ∧ ∀ j z, A[j]? = some z → W.drew.cell? ⟨b, so + j, none⟩ = some (.int .i32 z)) := HXW.out.cellsA
  go_wp2
  clear hmk
  go_region_held3 (fun w' => (w'.cell? ⟨g, 0, none⟩ = some (.slice ao cur.length cur.length) ∧ w'.cell? ⟨g, 1, none⟩ = some (.int .i64 A.length)) ∧ w'.cell? ⟨g, 2, none⟩ = some (.int .i64 T)) (first | exact Gm.keep3 (Gm.Bx3.toT HXW.out.box HT.out) hg3 (Nat.ne_of_gt hgN) | go_keep) ((refine Gm.step_copy_room (by rfl) (.tmp 23) (.tmp 32) 23 23 (by rfl) 21 Tryz.underlying23 Tryz.sizeI32 _ _ _ _ _ _ (by rfl) (by rfl) ⟨0, []⟩ (some ⟨N, 0, none⟩) (List.replicate S 0) (HRW.out.block fun _ _ => rfl) 0 A HA.out (fun h0 r' hr' => by cases hr'; exact ⟨rfl, HSA.out h0⟩) HFA.out ?_; intro w3 hR3 hg3))
  have HX3 : Hid (Gm.Tx B g ao cur A Z w3) := HXW.out.apart (fun k hk hne => hg3.block k hk (fun e => hne (by cases e; rfl))) (Nat.ne_of_lt hgN) (fun r hr => Nat.ne_of_lt (HrN.out r hr))
  have HB3 : Hid (Gm.Fr B w w3) := HBW.out.drew.grown hg3 (by show B.b ≤ W.heap.size; omega) fun j e => by cases e; exact hBN
  have HR3 : Hid (Gm.Room ⟨0, []⟩ w3 (some ⟨N, 0, none⟩) (splice (List.replicate S 0) 0 A)) := hR3
  have hs3 : N < w3.heap.size := by have := hg3.size; have : W.drew.heap.size = W.heap.size := rfl; omega
  clear hR3 hg3 d0 d1 d2 HXW HBW HRW HA HFA HSA hNW
  go_wp2_with fail
  refine (behind_any _ g ao _ _ _ HX3.out.box hm (by omega)).mono ?_
  rintro e w' ⟨rfl, q, rfl⟩
  rw [HZ.out]
  have HX4 : Hid (Gm.Tx B g ao cur A Z (w3.drewN q)) := HX3.out.drew q
  have HB4 : Hid (Gm.Fr B w (w3.drewN q)) := Gm.Fr.drewN HB3.out _
  have HR4 : Hid (Gm.Room ⟨0, []⟩ (w3.drewN q) (some ⟨N, 0, none⟩) (splice (List.replicate S 0) 0 A)) := HR3.out.block fun _ _ => rfl
  have hs4 : N < (w3.drewN q).heap.size := hs3
  generalize w3.drewN q = w4 at *
  have d0 := HX4.out.box.c0
  have d1 := HX4.out.box.c1
  have d2 := HX4.out.box.c2
  rw [← HT.out] at d2
  obtain ⟨T', hT'⟩ : ∃ T' : Nat, T' = S - Z.length := ⟨_, rfl⟩
  have HT' : Hid (T' = S - Z.length) := hT'
  have e3 : (S : Int) - Z.length = (T' : Int) := by have := HS.out; omega
  have hT'0 : (0 : Int) ≤ T' := by omega
  have hT'1 : (T' : Int) ≤ S := by omega
  have hT0 : (0 : Int) ≤ T := by omega
  have hTc' : (T : Int) ≤ cur.length := by omega
  have HZm : Hid (Z.length = Nat.min (cur.length - T) (S - T')) := by show _ = min _ _; have := HT.out; have := HS.out; omega
  have HFZ : Hid (T' + Z.length ≤ (splice (List.replicate S (0 : Int)) 0 A).length) := by
    show _ ≤ _
    have := HS.out
    rw [length_splice _ _ _ (by rw [List.length_replicate]; omega), List.length_replicate]; omega
  have HSZ : Hid (0 < Z.length → ∃ r, ao = some ⟨r, 0, none⟩ ∧ ∀ j z, Z[j]? = some z → w4.drew.cell? ⟨r, T + j, none⟩ = some (.int .i32 z)) := HX4.out.cellsZ HT.out
  have HTT : Hid ((0 < Z.length → ¬ S = T') ∧ (0 < Z.length → ¬ cur.length = T)) := by have := HT.out; have := HS.out; exact ⟨fun _ => by omega, fun _ => by omega⟩
  clear hT' HX3 HB3 HR3 hs3
  go_wp2
  go_region_held3 (fun w' => (w'.cell? ⟨g, 0, none⟩ = some (.slice ao cur.length cur.length) ∧ w'.cell? ⟨g, 1, none⟩ = some (.int .i64 A.length)) ∧ w'.cell? ⟨g, 2, none⟩ = some (.int .i64 T)) (first | exact Gm.keep3 (Gm.Bx3.toT HX4.out.box HT.out) hg5 (Nat.ne_of_gt hgN) | go_keep) ((refine Gm.step_copy_room (by rfl) (.tmp 41) (.tmp 50) 23 23 (by rfl) 21 Tryz.underlying23 Tryz.sizeI32 _ _ _ _ _ _ (by rfl) (by rfl) ⟨0, []⟩ (some ⟨N, 0, none⟩) (splice (List.replicate S 0) 0 A) (HR4.out.block fun _ _ => rfl) T' Z HZm.out (fun h0 r' hr' => by cases hr'; obtain ⟨r1, hr1, hc1⟩ := HSZ.out h0; rw [if_neg (HTT.out.1 h0), if_neg (HTT.out.2 h0), hr1]; exact ⟨rfl, r1, T, by rw [Option.map_some, L.addr_add, Nat.zero_add], hc1⟩) HFZ.out ?_; intro w5 hR5 hg5))
  have HX5 : Hid (Gm.Tx B g ao cur A Z w5) := HX4.out.apart (fun k hk hne => hg5.block k hk (fun e => hne (by cases e; rfl))) (Nat.ne_of_lt hgN) (fun r hr => Nat.ne_of_lt (HrN.out r hr))
  have HB5 : Hid (Gm.Fr B w w5) := HB4.out.drew.grown hg5 (by show B.b ≤ w4.heap.size; omega) fun j e => by cases e; exact hBN
  have HR5 : Hid (Gm.Room ⟨0, []⟩ w5 (some ⟨N, 0, none⟩) (splice (splice (List.replicate S 0) 0 A) (S - Z.length) Z)) := by have := hR5; rw [HT'.out] at this; exact this
  have HE : Hid (Gm.Wide B g w A Z n ((w5.setCell ⟨g, 0, none⟩ (.slice (some ⟨N, 0, none⟩) S S)).setCell ⟨g, 2, none⟩ (.int .i64 T'))) := by
    have hs := HS.out
    have hX := HX5.out.wide (N := N) (S := S) (by omega) hS8 hBN (Nat.ne_of_gt hgN) HR5.out HX5.out.box
    rw [HT'.out]
    refine ⟨⟨_, _, hX, ?_⟩, Gm.below_set (Gm.below_set HB5.out HX5.out.hB _) HX5.out.hB _⟩
    rw [length_splice _ _ _ (by rw [length_splice _ _ _ (by rw [List.length_replicate]; omega), List.length_replicate]; omega), length_splice _ _ _ (by rw [List.length_replicate]; omega), List.length_replicate]
    omega
  have f0 := HX5.out.box.free 0
  have f2 := HX5.out.box.free 2
  have k0 := HX5.out.box.c0
  have k2 := HX5.out.box.c2
  clear hR5 hg5 d0 d1 d2 HX4 HB4 HR4 HZm HFZ HSZ HTT
  go_wp2
  all_goals
    (try simp only [Exit.inBlock, Exit.then])
    first
      | refine bodyPost_end (results_none rfl _ _ _) rfl ?_
      | refine bodyPost_ret (results_none rfl _ _ _) rfl ?_
    exact ⟨rfl, Gm.wide_cast HE.out (by omega)⟩

theorem widen_any (w : World) (B : Gm.Bs) (g : Nat) (ao : Option Addr) (cur A Z : List Int) (h : Gm.Tx B g ao cur A Z w) (n : Nat) (h4 : A.length + Z.length + n ≤ 4000) (hmB : ∀ j ∈ B.m, j < w.heap.size) :
    Calls Tryz.prog 71 #[.pointer (some ⟨g, 0, none⟩), .int .i64 n] w fun e w' => e = .returned (.tuple #[]) ∧ Gm.Wide B g w A Z n w' := by
  by_cases hn : A.length + n + Z.length ≤ cur.length
  · exact widen_not w B g ao cur A Z h n hn
  · exact widen_new w B g ao cur A Z h n hn h4 hmB

end Go.Proofs.YtlmmjefplbcapaaGreat

/-
  What Put of gap.Text does.
-/
namespace Go.Proofs.YtlmmjefplbcapaaGreat
open Go.RowKit

attribute [local go_sem ↓] Go.wp_at_zero Go.wp_at_succ

namespace Gm
theorem copy00 (dp sp : Option Addr) (dl c1 c2 : Nat) (ty : TypeId) (w : World) : (Builtin.copy_ #[23, 23] ty #[.slice dp dl c1, .slice sp 0 c2]).run Tryz.prog w = .ok (goInt 0) w :=
  run_copy_none w _ _ _ 21 _ _ _ _ _ _ Tryz.underlying23 Tryz.sizeI32 (by simp)
theorem Told.drew {B : Gm.Bs} {g : Nat} {w W : World} {A Z : List Int} (h : Told B g w A Z W) : Told B g w A Z W.drew := ⟨h.1.imp fun _ ⟨cur, hX⟩ => ⟨cur, hX.kept fun _ _ => rfl⟩, h.2.drew⟩
theorem Tx.put {B : Gm.Bs} {g : Nat} {ao : Option Addr} {cur A Z R : List Int} {w w2 : World} (h : Tx B g ao cur A Z w) (hn : A.length + R.length + Z.length ≤ cur.length) (h4 : A.length + Z.length + R.length ≤ 4000)
    (hR : Room B w2 ao (splice cur A.length R)) (hX : Bx3 w2 g (.slice ao cur.length cur.length) (.int .i64 A.length) (.int .i64 (cur.length - Z.length : Nat))) :
    Tx B g ao (splice cur A.length R) (A ++ R) Z (w2.setCell ⟨g, 1, none⟩ (.int .i64 (A.length + R.length : Nat))) := by
  have hf := h.fit
  have hmo := h.most
  have hl : (splice cur A.length R).length = cur.length := length_splice _ _ _ (by omega)
  have ha : (A ++ R).length = A.length + R.length := List.length_append
  refine ⟨h.hB, ?_, hR.block fun r' hr => heap_setCell_other _ _ _ _ (h.ne r' hr), h.ne, by omega, by omega, by omega, ?_, ?_⟩
  · rw [hl, ha]; exact hX.set1 _
  · rw [ha, splice_to (by omega), ← h.ahead]
  · rw [hl, splice_drop (by omega) (by omega)]; exact h.behind
end Gm

set_option maxHeartbeats 400000 in
theorem put_bad (w : World) (B : Gm.Bs) (g : Nat) (ao : Option Addr) (cur A Z : List Int) (h : Gm.Tx B g ao cur A Z w) (sp : Option Addr) (n c : Nat) (hn : n ≤ maxLen) (h4 : 4000 < A.length + Z.length + n) :
    Calls Tryz.prog 57 #[.pointer (some ⟨g, 0, none⟩), .slice sp n c] w fun e w' => e = .returned (.int .i64 4) ∧ Gm.Told B g w A Z w' := by
  unfold maxLen at hn
  have hf := h.fit
  have hm := h.most
  have hw := h.few
  have H : Hid (Gm.Tx B g ao cur A Z w) := h
  have HL : Hid (A.length + (cur.length - (cur.length - Z.length)) = A.length + Z.length) := by show _ = _; omega
  clear h
  go_enter Tryz.func57, Tryz.ntmps57
  go_wp2_with (go_at_call 49; refine (len_any _ g ao _ _ _ H.out.box hm (by omega) (by omega)).mono ?_; rintro e w' ⟨rfl, q, rfl⟩; rw [HL.out])
  go_ret
  exact ⟨rfl, H.out.same q⟩

set_option maxHeartbeats 8000000 in
theorem put_ok (w : World) (B : Gm.Bs) (g : Nat) (ao : Option Addr) (cur A Z : List Int) (h : Gm.Tx B g ao cur A Z w) (v : Value) (R : List Int) (hv : ∀ w', Gm.Fr B w w' → L.Rd w' v .i32 R) (h4 : A.length + Z.length + R.length ≤ 4000) (hmB : ∀ j ∈ B.m, j < w.heap.size) :
    Calls Tryz.prog 57 #[.pointer (some ⟨g, 0, none⟩), v] w fun e w' => e = .returned (.int .i64 0) ∧ Gm.Told B g w (A ++ R) Z w' := by
  obtain ⟨sp, c, rfl, _⟩ := hv w (Gm.Fr.refl _ _)
  have hf := h.fit
  have hm := h.most
  have hw := h.few
  have H : Hid (Gm.Tx B g ao cur A Z w) := h
  have HL : Hid (A.length + (cur.length - (cur.length - Z.length)) = A.length + Z.length) := by show _ = _; omega
  have HV : Hid (∀ w', Gm.Fr B w w' → L.Rd w' (.slice sp R.length c) .i32 R) := hv
  clear h hv
  go_enter Tryz.func57, Tryz.ntmps57
  go_wp2_with fail
  refine (len_any _ g ao _ _ _ H.out.box hm (by omega) (by omega)).mono ?_
  rintro e w' ⟨rfl, q, rfl⟩
  rw [HL.out]
  go_wp2_with fail
  refine (widen_any _ B g ao cur A Z (H.out.drew q) R.length h4 hmB).mono ?_
  rintro e w1 ⟨rfl, ⟨ao1, cur1, X1, hn1⟩, b1⟩
  have HX : Hid (Gm.Tx B g ao1 cur1 A Z w1) := X1
  have HB : Hid (Gm.Fr B w w1) := (Gm.Fr.drewN (Gm.Fr.refl _ _) _).trans b1
  have hf1 := X1.fit
  have hm1 := X1.most
  have c0 := X1.box.c0
  have c1 := X1.box.c1
  have c2 := X1.box.c2
  have f1 := X1.box.free 1
  obtain ⟨T, hT⟩ : ∃ T : Nat, T = cur1.length - Z.length := ⟨_, rfl⟩
  have HT : Hid (T = cur1.length - Z.length) := hT
  rw [← hT] at c2
  have hT0 : (A.length : Int) ≤ T := by omega
  have hT1 : (T : Int) ≤ cur1.length := by omega
  have hA0 : (0 : Int) ≤ A.length := by omega
  clear b1 X1 H hT
  by_cases h0 : R = []
  · subst h0
    have hcopy := Gm.copy00
    have e1 : IntKind.i64.wrap (A.length : Int) = A.length := by rw [IntKind.wrap_i64]; omega
    obtain ⟨W2, hW2⟩ : ∃ W2, W2 = (w1.setCell ⟨g, 1, none⟩ (.int .i64 A.length)).drew := ⟨_, rfl⟩
    have HE : Hid (Gm.Told B g w (A ++ []) Z W2) := by
      rw [hW2]
      have hX := HX.out.put (R := []) (by rw [List.length_nil]; omega) (by rw [List.length_nil]; omega) (by simpa [splice] using HX.out.room) HX.out.box
      exact (hX.told (Gm.below_set HB.out HX.out.hB _)).drew
    have HW2 : Hid (W2 = (w1.setCell ⟨g, 1, none⟩ (.int .i64 A.length)).drew) := hW2
    clear hW2
    go_wp2
    go_region
    rw [← HW2.out]
    clear HW2 hcopy
    go_wp2
    all_goals
      go_ret
      exact ⟨rfl, by have := HE.out; rw [List.append_nil] at this; exact this⟩
  · obtain ⟨r, hr⟩ := HX.out.room.some (by have := List.length_pos_iff.2 h0; omega)
    subst hr
    have hne : r ≠ g := HX.out.ne r rfl
    have hp := List.length_pos_iff.2 h0
    obtain ⟨sp', c', hsl, _, hce⟩ := HV.out w1 HB.out
    cases hsl
    obtain ⟨b, off, rfl, hcell⟩ := hce h0
    obtain ⟨F, hF⟩ : ∃ F : Nat, F = A.length + R.length := ⟨_, rfl⟩
    have HF : Hid (F = A.length + R.length) := hF
    have e1 : IntKind.i64.wrap (↑A.length + ↑R.length) = (F : Int) := by rw [IntKind.wrap_i64]; omega
    have hA4 : ¬ cur1.length = A.length := by omega
    obtain ⟨W3, hcopy, hR3, hg3⟩ := Gm.copy_run w1 B r HX.out.room A.length R ⟨b, off, none⟩ R.length c (T - A.length) (cur1.length - A.length) (by have := HT.out; show _ = min _ _; omega) (fun j z hj => by rw [L.addr_add]; exact hcell j z hj) (by omega)
    have X3 : Gm.Bx3 W3 g (.slice (some ⟨r, 0, none⟩) cur1.length cur1.length) (.int .i64 A.length) (.int .i64 (cur1.length - Z.length : Nat)) := HX.out.box.block (hg3.block g HX.out.box.lt (fun e => hne (by cases e; rfl)))
    have HB3 : Hid (Gm.Fr B w W3) := HB.out.drew.grown hg3 (by have := HX.out.box.lt; have := HX.out.hB.1; show B.b ≤ w1.heap.size; omega) fun j e => by cases e; exact (HX.out.room.lt r rfl).1
    have HE : Hid (Gm.Told B g w (A ++ R) Z (W3.setCell ⟨g, 1, none⟩ (.int .i64 F))) := by
      rw [HF.out]
      exact (HX.out.put hn1 h4 hR3 X3).told (Gm.below_set HB3.out HX.out.hB _)
    have d0 := X3.c0
    have d1 := X3.c1
    have d2 := X3.c2
    have g1 := X3.free 1
    rw [← HT.out] at d2
    clear X3 hR3 hg3 hF hcell hce
    go_wp2
    go_region
    clear hcopy
    go_wp2
    all_goals
      go_ret
      exact ⟨rfl, HE.out⟩

end Go.Proofs.YtlmmjefplbcapaaGreat

/-
  The rune at a place of a text with a gap: (*gap.Text).At.
-/
namespace Go.Proofs.YtlmmjefplbcapaaGreat
open Go.RowKit
set_option maxRecDepth 20000
set_option linter.unusedSimpArgs false
set_option linter.unusedVariables false

set_option maxHeartbeats 2000000 in
theorem xat_any (w : World) (B : Gm.Bs) (g : Nat) (ao : Option Addr) (cur A Z : List Int) (h : Gm.Tx B g ao cur A Z w) (k : Nat) (hk : k < A.length + Z.length) :
    Calls Tryz.prog 61 #[.pointer (some ⟨g, 0, none⟩), .int .i64 k] w fun e w' => e = .returned (.int .i32 ((A ++ Z).getD k 0)) ∧ ∃ q, w' = w.drewN q := by
  have hf := h.fit
  have hm := h.most
  have hw := h.few
  obtain ⟨r, rfl⟩ := h.room.some (by omega)
  obtain ⟨T, hT⟩ : ∃ T : Nat, T = cur.length - Z.length := ⟨_, rfl⟩
  have HT : Hid (T = cur.length - Z.length) := hT
  have hTc : T + Z.length = cur.length := by omega
  obtain ⟨x, hx⟩ : ∃ x, x = (A ++ Z).getD k 0 := ⟨_, rfl⟩
  rw [← hx]
  have H : Hid (Gm.Tx B g (some ⟨r, 0, none⟩) cur A Z w) := h
  have HLn : Hid (∀ q, Calls Tryz.prog 49 #[.pointer (some ⟨g, 0, none⟩)] (w.drewN q) fun e w' => e = .returned (.int .i64 ((A.length + Z.length : Nat) : Int)) ∧ ∃ m, w' = (w.drewN q).drewN m) := fun q => by
    have h2 := len_any (w.drewN q) g (some ⟨r, 0, none⟩) _ _ _ (h.drew q).box hm (by omega) (by omega)
    rw [show A.length + (cur.length - (cur.length - Z.length)) = A.length + Z.length by omega] at h2
    exact h2
  have HA : Hid (k < A.length → ∀ q, (w.drewN q).cell? ⟨r, k, none⟩ = some (.int .i32 x)) := fun hka q => by
    refine (h.drew q).room.cell rfl ?_
    have h1 : A[k]? = some x := by rw [hx]; simp [List.getD, List.getElem?_append, hka]
    have h2 := congrArg (fun z : List Int => z[k]?) h.ahead
    simp only [List.getElem?_take_of_lt hka] at h2
    rw [← h2]
    exact h1
  have HZ : Hid (¬ k < A.length → ∀ q, (w.drewN q).cell? ⟨r, T + k - A.length, none⟩ = some (.int .i32 x)) := fun hka q => by
    refine (h.drew q).room.cell rfl ?_
    have h1 : Z[k - A.length]? = some x := by rw [hx]; simp [List.getD, List.getElem?_append, hka, show k - A.length < Z.length by omega]
    have h2 := congrArg (fun z : List Int => z[k - A.length]?) h.behind
    simp only [List.getElem?_drop, ← hT] at h2
    rw [h2, show T + (k - A.length) = T + k - A.length by omega] at h1
    exact h1
  have HC : Hid (∀ q, (w.drewN q).cell? ⟨g, 0, none⟩ = some (.slice (some ⟨r, 0, none⟩) cur.length cur.length) ∧ (w.drewN q).cell? ⟨g, 1, none⟩ = some (.int .i64 A.length) ∧ (w.drewN q).cell? ⟨g, 2, none⟩ = some (.int .i64 T)) := fun q => by
    have hb := (h.drew q).box
    rw [← hT] at hb
    exact ⟨hb.c0, hb.c1, hb.c2⟩
  clear h hx hT
  go_enter Tryz.func61, Tryz.ntmps61
  go_wp2_with fail
  go_at_call 49
  refine (HLn.out 0).mono ?_
  rintro e w1 ⟨rfl, m, hw1⟩
  have HW1 : Hid (w1 = w.drewN m) := by show _ = _; rw [hw1, World.drewN_drewN, Nat.zero_add]
  clear hw1 HLn
  obtain ⟨c0, c1, c2⟩ := HC.out m
  rw [← HW1.out] at c0 c1 c2
  by_cases hka : k < A.length
  · have cx := HA.out hka m
    rw [← HW1.out] at cx
    go_wp2
    go_ret
    exact ⟨rfl, m, HW1.out⟩
  · have cx := HZ.out hka m
    rw [← HW1.out] at cx
    go_wp2
    go_quiet (fail)
    go_wp2
    go_ret
    exact ⟨rfl, _, by rw [HW1.out, World.drewN_drewN]⟩

end Go.Proofs.YtlmmjefplbcapaaGreat
