/-
  A text that is read: its cursor, and the small steps.
-/
import Derived.Test.YtbepnmmcdllklaaDoorTMath
import Derived.Test.YtbepnmmcdllklaaDoorSWrong
import Derived.RegionTactic
namespace Go.Proofs.YtbepnmmcdllklaaDoor
open Go.RowKit

/-- the cursor in block cb stands at place p of the text l -/
structure T.Cur (w : World) (cb tb cap : Nat) (ao : Option Addr) (l : List Int) (p : Nat) : Prop where
  blk : ∃ ty, w.heap[cb]? = some (.cells #[.slice ao l.length cap, .int .i64 p] ty)
  txt : l ≠ [] → ao = some ⟨tb, 0, none⟩
  rd : ∀ j z, l[j]? = some z → w.cell? ⟨tb, j, none⟩ = some (.int .i32 z)
  ne : tb ≠ cb
  le : p ≤ l.length
  len : l.length ≤ 16000
  cp : l.length ≤ cap
  rt : ∀ z ∈ l, M.right z = true

namespace T.Cur
variable {w w' : World} {cb tb cap p : Nat} {ao : Option Addr} {l : List Int}

theorem cell0 (h : T.Cur w cb tb cap ao l p) : w.cell? ⟨cb, 0, none⟩ = some (.slice ao l.length cap) := by obtain ⟨_, hb⟩ := h.blk; rw [World.cell?]; simp [hb]
theorem cell1 (h : T.Cur w cb tb cap ao l p) : w.cell? ⟨cb, 1, none⟩ = some (.int .i64 p) := by obtain ⟨_, hb⟩ := h.blk; rw [World.cell?]; simp [hb]
theorem frz1 (h : T.Cur w cb tb cap ao l p) : w.frozen? ⟨cb, 1, none⟩ = false := by obtain ⟨_, hb⟩ := h.blk; rw [World.frozen?]; simp [hb]
theorem lt (h : T.Cur w cb tb cap ao l p) : cb < w.heap.size := by obtain ⟨_, hb⟩ := h.blk; exact (Array.getElem?_eq_some_iff.1 hb).1
theorem drewN (h : T.Cur w cb tb cap ao l p) (k : Nat) : T.Cur (w.drewN k) cb tb cap ao l p := ⟨h.blk, h.txt, h.rd, h.ne, h.le, h.len, h.cp, h.rt⟩
theorem kept (h : T.Cur w cb tb cap ao l p) (hg : w.grownBy w' none) : T.Cur w' cb tb cap ao l p :=
  ⟨by obtain ⟨t, hb⟩ := h.blk; exact ⟨t, by rw [hg.block cb h.lt (by simp)]; exact hb⟩, h.txt, fun j z hj => by
    have h1 := h.rd j z hj
    rw [World.cell?_of_block (a := ⟨tb, j, none⟩) (hg.block tb (L.block_lt h1) (by simp))]; exact h1, h.ne, h.le, h.len, h.cp, h.rt⟩
theorem below (h : T.Cur w cb tb cap ao l p) (hb : Below w.heap.size w w') : T.Cur w' cb tb cap ao l p := h.kept (S.grown_below hb)
theorem set (h : T.Cur w cb tb cap ao l p) {q : Nat} (hq : q ≤ l.length) : T.Cur (w.setCell ⟨cb, 1, none⟩ (.int .i64 q)) cb tb cap ao l q := by
  refine ⟨?_, h.txt, fun j z hj => ?_, h.ne, hq, h.len, h.cp, h.rt⟩
  · obtain ⟨t, hb⟩ := h.blk; exact ⟨t, by simp [World.setCell, Array.getElem?_modify, hb]⟩
  · rw [World.cell?_setCell_other _ _ _ _ (by simp [Ne.symm h.ne])]; exact h.rd j z hj
theorem see_right (h : T.Cur w cb tb cap ao l p) (q : Nat) : T.see l q = -1 ∨ M.right (T.see l q) = true := by
  by_cases hq : q < l.length
  · exact .inr (h.rt _ (List.mem_of_getElem? (T.see_lt hq)))
  · exact .inl (T.see_ge (by omega))
theorem inside (_ : T.Cur w cb tb cap ao l p) (hs : T.see l p ≠ -1) : p < l.length := by
  apply Classical.byContradiction
  intro hn
  exact hs (T.see_ge (by omega))
end T.Cur

/-- where the cursor stands -/
def T.pos (w : World) (b : Nat) : Nat := (intOf ((w.cell? ⟨b, 1, none⟩).getD undef)).toNat
theorem T.Cur.pos {w : World} {cb tb cap p : Nat} {ao : Option Addr} {l : List Int} (h : T.Cur w cb tb cap ao l p) : T.pos w cb = p := by
  unfold T.pos; rw [h.cell1]; simp [intOf]

theorem fr_set (w : World) (b : Nat) (j : Nat) (v : Value) : w.grownBy (w.setCell ⟨b, j, none⟩ v) (some b) :=
  ⟨rfl, rfl, rfl, by simp, fun k _ hk => heap_setCell_other w ⟨b, j, none⟩ k v (fun e => hk (by simp [e]))⟩
theorem fr_drewN (w : World) (k : Nat) (r : Option Nat) : w.grownBy (w.drewN k) r := ⟨rfl, rfl, rfl, Nat.le_refl _, fun _ _ _ => rfl⟩

set_option maxHeartbeats 1000000 in
theorem ahead_any (w : World) (cb tb cap p n : Nat) (ao : Option Addr) (l : List Int) (C : T.Cur w cb tb cap ao l p) (hn : n ≤ 1) :
    Calls Tryd.prog 74 #[.pointer (some ⟨cb, 0, none⟩), .int .i64 n] w fun e w' => e = .returned (.int .i32 (T.see l (p + n))) ∧ Below w.heap.size w w' := by
  have c0 := C.cell0
  have c1 := C.cell1
  have hle := C.le
  have hlen := C.len
  have hcp := C.cp
  by_cases hlt : p + n < l.length
  · have hs := T.see_lt hlt
    have hcz := C.rd _ _ hs
    have hao := C.txt (by intro h; subst h; simp at hlt)
    subst hao
    generalize T.see l (p + n) = z at hcz
    clear C hs
    have g1 : ¬ ((l.length : Int) - (p : Int) ≤ (n : Int)) := by omega
    have g3 : (0 : Int) ≤ (p : Int) + (n : Int) := by omega
    have g4 : (p : Int) + (n : Int) < (l.length : Int) := by omega
    have g5 : ((p : Int) + (n : Int)).toNat = p + n := by omega
    go_enter Tryd.func74, Tryd.ntmps74
    go_wp2
    go_quiet (fail)
    go_wp2
    go_quiet (fail)
    go_wp2
    go_ret
    exact ⟨rfl, below_drewN (below_drewN (Below.refl _ _) _) _⟩
  · rw [T.see_ge (by omega)]
    clear C
    have g1 : ((l.length : Int) - (p : Int) ≤ (n : Int)) := by omega
    go_enter Tryd.func74, Tryd.ntmps74
    go_wp2
    go_quiet (fail)
    go_wp2
    go_ret
    exact ⟨rfl, below_drewN (Below.refl _ _) _⟩

theorem is_any (w : World) (cb tb cap p : Nat) (ao : Option Addr) (l : List Int) (r : Int) (C : T.Cur w cb tb cap ao l p) :
    Calls Tryd.prog 103 #[.pointer (some ⟨cb, 0, none⟩), .int .i32 r] w fun e w' => e = .returned (.bool (decide (T.see l p = r))) ∧ Below w.heap.size w w' := by
  go_enter Tryd.func103, Tryd.ntmps103
  go_wp2_with (go_at_call 74; refine (ahead_any _ cb tb cap p 0 ao l C (by omega)).mono ?_; rintro e w1 ⟨rfl, b1⟩)
  go_ret
  exact ⟨rfl, b1⟩

theorem done_any (w : World) (cb tb cap p : Nat) (ao : Option Addr) (l : List Int) (C : T.Cur w cb tb cap ao l p) :
    Calls Tryd.prog 53 #[.pointer (some ⟨cb, 0, none⟩)] w fun e w' => e = .returned (.bool (decide (T.see l p = -1))) ∧ Below w.heap.size w w' := by
  go_enter Tryd.func53, Tryd.ntmps53
  go_wp2_with (go_at_call 74; refine (ahead_any _ cb tb cap p 0 ao l C (by omega)).mono ?_; rintro e w1 ⟨rfl, b1⟩)
  go_ret
  exact ⟨rfl, b1⟩

/-- a fault, thrown -/
def T.thrown (e : Int) (p : Nat) : Ending := .panicked [{ v := .iface 29 (.agg #[.int .i64 e, .int .i64 p]), recovered := false }]

theorem fail_any {a : Value} (w : World) (e : Int) (p : Nat) :
    Calls Tryd.prog 30 #[a, .int .i64 e, .int .i64 p] w fun e' w' => e' = T.thrown e p ∧ w' = w := by
  go_enter Tryd.func30, Tryd.ntmps30
  go_wp2
  exact ⟨rfl, rfl, rfl⟩

set_option maxHeartbeats 1000000 in
theorem take_any (w : World) (cb tb cap p : Nat) (ao : Option Addr) (l : List Int) (C : T.Cur w cb tb cap ao l p) (hp : p < l.length) :
    Calls Tryd.prog 119 #[.pointer (some ⟨cb, 0, none⟩)] w fun e w' => e = .returned (.int .i32 (T.see l p)) ∧ T.Cur w' cb tb cap ao l (p + 1) ∧ w.grownBy w' (some cb) := by
  go_enter Tryd.func119, Tryd.ntmps119
  go_wp2_with (go_at_call 74; refine (ahead_any _ cb tb cap p 0 ao l C (by omega)).mono ?_; rintro e w1 ⟨rfl, b1⟩; have C1 := C.below b1; have c1 := C1.cell1; have f1 := C1.frz1; have hlen := C1.len; have HC : Hid (T.Cur w1 cb tb cap ao l p) := C1; clear C1)
  go_ret
  exact ⟨rfl, HC.out.set (q := p + 1) (by omega), S.grown_trans (S.grown_below b1) (fr_set _ _ _ _)⟩

set_option maxHeartbeats 1000000 in
theorem skip_any (w : World) (cb tb cap p : Nat) (ao : Option Addr) (l : List Int) (r : Int) (hr : r ≠ -1) (C : T.Cur w cb tb cap ao l p) :
    Calls Tryd.prog 89 #[.pointer (some ⟨cb, 0, none⟩), .int .i32 r] w fun e w' => e = .returned (.bool (decide (T.see l p = r))) ∧ T.Cur w' cb tb cap ao l (if T.see l p = r then p + 1 else p) ∧ w.grownBy w' (some cb) := by
  by_cases h : T.see l p = r
  · have hp : p < l.length := by
      apply Classical.byContradiction
      intro hn
      rw [T.see_ge (by omega)] at h
      exact hr h.symm
    rw [if_pos h]
    go_enter Tryd.func89, Tryd.ntmps89
    go_wp2_with (go_at_call 103; refine (is_any _ cb tb cap p ao l r C).mono ?_; rintro e w1 ⟨rfl, b1⟩; have C1 := C.below b1; have c1 := C1.cell1; have f1 := C1.frz1; have hlen := C1.len; have HC : Hid (T.Cur w1 cb tb cap ao l p) := C1; clear C1)
    go_ret
    exact ⟨L.ret_bool (by simp [h]), HC.out.set (q := p + 1) (by omega), S.grown_trans (S.grown_below b1) (fr_set _ _ _ _)⟩
  · rw [if_neg h]
    go_enter Tryd.func89, Tryd.ntmps89
    go_wp2_with (go_at_call 103; refine (is_any _ cb tb cap p ao l r C).mono ?_; rintro e w1 ⟨rfl, b1⟩)
    go_ret
    exact ⟨L.ret_bool (by simp [h]), C.below b1, S.grown_below b1⟩

theorem need_yes (w : World) (cb tb cap p : Nat) (ao : Option Addr) (l : List Int) (r : Int) (hr : r ≠ -1) (C : T.Cur w cb tb cap ao l p) (h : T.see l p = r) :
    Calls Tryd.prog 88 #[.pointer (some ⟨cb, 0, none⟩), .int .i32 r] w fun e w' => e = .returned (.tuple #[]) ∧ T.Cur w' cb tb cap ao l (p + 1) ∧ w.grownBy w' (some cb) := by
  go_enter Tryd.func88, Tryd.ntmps88
  go_wp2_with (go_at_call 89; refine (skip_any _ cb tb cap p ao l r hr C).mono ?_; rintro e w1 ⟨rfl, C1, g1⟩; rw [if_pos h] at C1)
  go_end0
  exact ⟨rfl, C1, g1⟩
theorem need_no (w : World) (cb tb cap p : Nat) (ao : Option Addr) (l : List Int) (r : Int) (hr : r ≠ -1) (C : T.Cur w cb tb cap ao l p) (h : T.see l p ≠ r) :
    Calls Tryd.prog 88 #[.pointer (some ⟨cb, 0, none⟩), .int .i32 r] w fun e w' => e = T.thrown 2 p ∧ w.grownBy w' (some cb) := by
  go_enter Tryd.func88, Tryd.ntmps88
  go_wp2_with (first
    | (go_at_call 89; refine (skip_any _ cb tb cap p ao l r hr C).mono ?_; rintro e w1 ⟨rfl, C1, g1⟩; rw [if_neg h] at C1; have c1 := C1.cell1)
    | (go_at_call 30; refine (fail_any _ 2 p).mono ?_; rintro e w2 ⟨rfl, rfl⟩; unfold T.thrown))
  exact ⟨rfl, rfl, g1⟩

end Go.Proofs.YtbepnmmcdllklaaDoor
