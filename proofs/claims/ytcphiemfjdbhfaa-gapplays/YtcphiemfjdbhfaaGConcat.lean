/-
  What slices.Concat makes of two slices of runes, and Runes of a text.
-/
import Derived.Test.YtcphiemfjdbhfaaGPut
import Derived.Lib.AppendZerosOnto
import Derived.Lib.Walk
namespace Go.Proofs.Ytcphiemfjdbhfaa
open Go.RowKit Go.Lib

attribute [local go_sem ↓] Go.wp_at_zero Go.wp_at_succ

set_option maxHeartbeats 2000000 in
theorem grow_any (w : World) (n : Nat) (hn : n ≤ 8000) :
    Calls Try.prog 19 #[.slice none 0 0, .int .i64 n] w fun e w' => ∃ v, e = .returned v ∧ w'.ownsRow w.heap.size 21 1 v 0 [] ∧ Below w.heap.size w w' := by
  by_cases h0 : n = 0
  · subst h0
    go_enter Try.func19, Try.ntmps19
    go_wp2
    go_ret
    exact ⟨_, rfl, World.ownsRow_nil _ _ _ _, Below.refl _ _⟩
  · obtain ⟨i0, hi, hz0, hz1, hz2⟩ := info_parts Try.infoI32
    have hG : n ≤ grownCap w n 0 21 := grownCap_ge w _ _ _
    have hG63 := grownCap_le_maxLen w n 0 21 (by unfold maxLen; omega)
    have hrz : ∀ ty, (Builtin.append_ #[22, 3] ty #[.slice none 0 0, .int .i64 (n : Int)]).run Try.prog w =
        .ok (.slice (some ⟨w.heap.size, 0, none⟩) n (grownCap w n 0 21)) (w.drew.alloc (.cells (([] : List Value).toArray ++ Builtin.zeroCells (Value.int .i32 0).cells n ++ Builtin.zeroCells (Value.int .i32 0).cells (grownCap w n 0 21 - n)) 21)) := fun ty => by
      have h := Lib.run_append_grow_zeros w 22 3 ty 21 i0 (.int .i32 0) .i64 .i64 Try.underlying22 Try.underlying3 hi hz0 none 0 0 [] (run_firstCells_none w.drew i0.size 0 0 0) n (by omega) (by omega) (by omega) (by omega)
        (by rw [hz2]; omega) (by rw [hz2]; exact growslice_fits (by omega) (by omega))
      simpa using h
    obtain ⟨Gc, hGc⟩ : ∃ Gc, Gc = grownCap w n 0 21 := ⟨_, rfl⟩
    rw [← hGc] at hrz hG hG63
    have HO : Hid ((w.drew.alloc (.cells (([] : List Value).toArray ++ Builtin.zeroCells (Value.int .i32 0).cells n ++ Builtin.zeroCells (Value.int .i32 0).cells (Gc - n)) 21)).ownsRow w.heap.size 21 1 (.slice (some ⟨w.heap.size, 0, none⟩) 0 Gc) 0 []) :=
      World.ownsRow_made w.drew _ Gc (Nat.le_refl _) hG63 (by simp [Builtin.zeroCells, Value.cells]; omega)
    have HB : Hid (Below w.heap.size w (w.drew.alloc (.cells (([] : List Value).toArray ++ Builtin.zeroCells (Value.int .i32 0).cells n ++ Builtin.zeroCells (Value.int .i32 0).cells (Gc - n)) 21))) := (Below.refl _ w).drew.alloc (Nat.le_refl _) _
    generalize (w.drew.alloc (.cells (([] : List Value).toArray ++ Builtin.zeroCells (Value.int .i32 0).cells n ++ Builtin.zeroCells (Value.int .i32 0).cells (Gc - n)) 21)) = W at *
    unfold maxLen at hG63
    clear hGc
    go_enter Try.func19, Try.ntmps19
    go_wp2_with (at_builtin; refine Lib.wpList_append_run _ rfl _ _ _ _ rfl _ _ rfl rfl _ _ (hrz _) ?_)
    all_goals
      go_ret
      exact ⟨_, rfl, HO.out, HB.out⟩

set_option maxHeartbeats 4000000 in
theorem concat_any (w : World) (b : Nat) (v1 v2 : Value) (z1 z2 : List Int) (c1 : w.cell? ⟨b, 0, none⟩ = some v1) (c2 : w.cell? ⟨b, 1, none⟩ = some v2) (R1 : L.Rd w v1 .i32 z1) (R2 : L.Rd w v2 .i32 z2) (hl : z1.length + z2.length ≤ 4000) :
    Calls Try.prog 15 #[.slice (some ⟨b, 0, none⟩) 2 2] w fun e w' => ∃ v, e = .returned v ∧ w'.ownsRow w.heap.size 21 1 v (z1 ++ z2).length ((z1 ++ z2).map (Value.int .i32)) ∧ Below w.heap.size w w' := by
  obtain ⟨i0, hi, hz0, hz1, hz2⟩ := info_parts Try.infoI32
  have HR1 : Hid (L.Rd w v1 .i32 z1) := R1
  have HR2 : Hid (L.Rd w v2 .i32 z2) := R2
  obtain ⟨a1, k1, rfl, _⟩ := R1
  obtain ⟨a2, k2, rfl, _⟩ := R2
  have hb := L.block_lt c1
  go_enter Try.func15, Try.ntmps15
  go_wp2
  refine wp_loop_rounds 3 ?_
  rw [rounds_succ]; go_wp2
  rw [rounds_succ]; go_wp2
  rw [rounds_succ]; go_wp2_with fail
  have hgr := grow_any w (z1.length + z2.length) (by omega)
  rw [Int.natCast_add] at hgr
  refine hgr.mono ?_
  clear hgr
  rintro e W ⟨v, rfl, own, hbl⟩
  have HO : Hid (W.ownsRow w.heap.size 21 1 v 0 []) := own
  have HB : Hid (Below w.heap.size w W) := hbl
  have d1 : W.cell? ⟨b, 0, none⟩ = some (.slice a1 z1.length k1) := by rw [hbl.cell (p := ⟨b, 0, none⟩) hb]; exact c1
  have d2 : W.cell? ⟨b, 1, none⟩ = some (.slice a2 z2.length k2) := by rw [hbl.cell (p := ⟨b, 1, none⟩) hb]; exact c2
  have HC2 : Hid (w.cell? ⟨b, 1, none⟩ = some (.slice a2 z2.length k2)) := c2
  clear own hbl c1 c2
  go_wp2
  refine wp_loop_rounds 3 ?_
  rw [rounds_succ]
  go_wp2_with (at_builtin; go_must (refine L.wpList_append_rd rfl _ _ 22 rfl w.heap.size 21 i0 .i32 4 Try.underlying22 hi hz0 hz1 hz2 _ _ _ rfl HO.out _ z1 rfl (HR1.out.below HB.out (Nat.le_refl _)) (by unfold maxLen; omega) (by omega) HB.out.size ?_; intro v' W1 own1 grown1))
  have HO1 : Hid (W1.ownsRow w.heap.size 21 1 v' (0 + z1.length) ([] ++ z1.map (Value.int .i32))) := own1
  have HB1 : Hid (Below w.heap.size w W1) := HB.out.grown grown1 HB.out.size fun k hk => (HO.out.lt k hk).1
  have f2 : W1.cell? ⟨b, 1, none⟩ = some (.slice a2 z2.length k2) := by rw [HB1.out.cell (p := ⟨b, 1, none⟩) hb]; exact HC2.out
  clear own1 grown1 d1 d2
  rw [rounds_succ]
  go_wp2_with (at_builtin; go_must (refine L.wpList_append_rd rfl _ _ 22 rfl w.heap.size 21 i0 .i32 4 Try.underlying22 hi hz0 hz1 hz2 _ _ _ rfl HO1.out _ z2 rfl (HR2.out.below HB1.out (Nat.le_refl _)) (by unfold maxLen; omega) (by omega) HB1.out.size ?_; intro v'' W2 own2 grown2))
  have HO2 : Hid (W2.ownsRow w.heap.size 21 1 v'' (0 + z1.length + z2.length) ([] ++ z1.map (Value.int .i32) ++ z2.map (Value.int .i32))) := own2
  have HB2 : Hid (Below w.heap.size w W2) := HB1.out.grown grown2 HB1.out.size fun k hk => (HO1.out.lt k hk).1
  clear own2 grown2 f2
  rw [rounds_succ]
  go_wp2
  go_ret
  refine ⟨_, rfl, ?_, HB2.out⟩
  have h := HO2.out
  rw [show 0 + z1.length + z2.length = (z1 ++ z2).length by simp, show [] ++ z1.map (Value.int .i32) ++ z2.map (Value.int .i32) = (z1 ++ z2).map (Value.int .i32) by simp] at h
  exact h

namespace G
theorem Tx.rdA {B g : Nat} {ao : Option Addr} {cur A Z : List Int} {w : World} (h : Tx B g ao cur A Z w) (c : Nat) (hc : ao = none → c = 0) : L.Rd w (.slice ao A.length c) .i32 A :=
  ⟨ao, c, rfl, hc, fun hz => by
    obtain ⟨b, so, hao, hcell⟩ := h.cellsA (List.length_pos_iff.2 hz)
    exact ⟨b, so, hao, fun j z hj => hcell j z hj⟩⟩
theorem Tx.rdZ {B g : Nat} {ao : Option Addr} {cur A Z : List Int} {w : World} (h : Tx B g ao cur A Z w) {T : Nat} (hT : T = cur.length - Z.length) : L.Rd w (.slice (if cur.length = T then ao else Option.map (fun x => x.add T) ao) (cur.length - T) (cur.length - T)) .i32 Z := by
  have hf := h.fit
  have hl : cur.length - T = Z.length := by omega
  refine ⟨_, _, by rw [hl], fun e => ?_, fun hz => ?_⟩
  · rcases h.room with ⟨_, hc⟩ | ⟨r, hr, _⟩
    · have : cur.length = 0 := by rw [hc]; rfl
      omega
    · rw [hr] at e; split at e <;> cases e
  · obtain ⟨r, hr, hc⟩ := h.cellsZ hT (List.length_pos_iff.2 hz)
    have := List.length_pos_iff.2 hz
    rw [if_neg (by omega), hr]
    exact ⟨r, T, by rw [Option.map_some, L.addr_add, Nat.zero_add], fun j z hj => hc j z hj⟩
theorem keep3b {w w' : World} {o : Obj} {g : Nat} {v0 v1 v2 : Value} (h : Bx3 w g v0 v1 v2) (hb : Below (w.alloc o).drew.heap.size (w.alloc o).drew w') : (w'.cell? ⟨g, 0, none⟩ = some v0 ∧ w'.cell? ⟨g, 1, none⟩ = some v1) ∧ w'.cell? ⟨g, 2, none⟩ = some v2 :=
  have hb' : Bx3 w' g v0 v1 v2 := h.block ((hb.block g (by have := h.lt; show g < (w.alloc o).heap.size; simp; omega)).trans (Below.heap_alloc w o g h.lt))
  ⟨⟨hb'.c0, hb'.c1⟩, hb'.c2⟩
end G

set_option maxHeartbeats 4000000 in
theorem runes_any (w : World) (B g : Nat) (ao : Option Addr) (cur A Z : List Int) (h : G.Tx B g ao cur A Z w) :
    Calls Try.prog 9 #[.pointer (some ⟨g, 0, none⟩)] w fun e w' => ∃ v, e = .returned v ∧ w'.ownsRow w.heap.size 21 1 v (A ++ Z).length ((A ++ Z).map (Value.int .i32)) ∧ Below w.heap.size w w' := by
  have hf := h.fit
  have hm := h.most
  have hw := h.few
  have c0 := h.box.c0
  have c1 := h.box.c1
  have c2 := h.box.c2
  have H : Hid (G.Tx B g ao cur A Z w) := h
  have hgl := h.box.lt
  obtain ⟨T, hT⟩ : ∃ T : Nat, T = cur.length - Z.length := ⟨_, rfl⟩
  have HT : Hid (T = cur.length - Z.length) := hT
  rw [← hT] at c2
  have hT0 : (0 : Int) ≤ T := by omega
  have hT1 : (T : Int) ≤ cur.length := by omega
  have hA0 : (0 : Int) ≤ A.length := by omega
  have hA1 : (A.length : Int) ≤ cur.length := by omega
  have n0 := World.new_ne w _ c0
  have n1 := World.new_ne w _ c1
  have n2 := World.new_ne w _ c2
  have HC : Hid (∀ v2, (∀ o, L.Rd (w.alloc o).drew v2 .i32 Z) → Calls Try.prog 15 #[.slice (some ⟨w.heap.size, 0, none⟩) 2 2] (w.alloc (.cells #[.slice ao A.length cur.length, v2] 22)).drew fun e w' => ∃ v, e = .returned v ∧ w'.ownsRow w.heap.size 21 1 v (A ++ Z).length ((A ++ Z).map (Value.int .i32)) ∧ Below (w.alloc (.cells #[.slice ao A.length cur.length, v2] 22)).drew.heap.size (w.alloc (.cells #[.slice ao A.length cur.length, v2] 22)).drew w') := by
    intro v2 h2
    have hx : ∀ o, G.Tx B g ao cur A Z (w.alloc o).drew := fun o => h.kept fun k hk => Below.heap_alloc w o k hk
    refine (concat_any _ _ (.slice ao A.length cur.length) v2 _ _ ?_ ?_ ((hx _).rdA cur.length fun e => ?_) (h2 _) hw).mono fun e w' ⟨v, he, ho, hb⟩ => ⟨v, he, L.owns_base ho (by show w.heap.size ≤ (w.alloc _).heap.size; simp), hb⟩
    · exact World.cell?_alloc_at _ _ _ _ (by simp)
    · exact World.cell?_alloc_at _ _ _ _ (by simp)
    · rcases h.room with ⟨_, hc⟩ | ⟨r, hr, _⟩
      · rw [hc]; rfl
      · rw [e] at hr; cases hr
  have HZ : Hid (∀ o, L.Rd (w.alloc o).drew (.slice (if cur.length = T then ao else Option.map (fun x => x.add T) ao) (cur.length - T) (cur.length - T)) .i32 Z) := fun o =>
    have hx : G.Tx B g ao cur A Z (w.alloc o).drew := h.kept fun k hk => Below.heap_alloc w o k hk
    hx.rdZ hT
  clear h hT
  obtain ⟨m, hmT⟩ : ∃ m : Nat, m = cur.length - T := ⟨_, rfl⟩
  obtain ⟨ap, hap⟩ : ∃ ap, ap = (if cur.length = T then ao else Option.map (fun x => x.add T) ao) := ⟨_, rfl⟩
  rw [← hmT, ← hap] at HZ
  have hsl : ∀ w', (Instr.slice 22 (.slice ao cur.length cur.length) (some (.int .i64 (T : Int))) none none).run Try.prog w' = .ok (.slice ap m m) w' := fun w' => by
    rw [hmT, hap]
    go_simp
  clear hmT hap
  go_enter Try.func9, Try.ntmps9
  go_wp2
  go_region_held3 (fun w' => (w'.cell? ⟨g, 0, none⟩ = some (.slice ao cur.length cur.length) ∧ w'.cell? ⟨g, 1, none⟩ = some (.int .i64 A.length)) ∧ w'.cell? ⟨g, 2, none⟩ = some (.int .i64 T)) (first | exact G.keep3b (G.Bx3.toT H.out.box HT.out) bw | go_keep) (first | (go_at_call 15; refine (HC.out _ HZ.out).mono ?_; rintro e w' ⟨v, rfl, rv, bw⟩))
  have HV : Hid (w'.ownsRow w.heap.size 21 1 v (A ++ Z).length ((A ++ Z).map (Value.int .i32))) := rv
  have HB : Hid (Below w.heap.size w w') := ((Below.refl _ w).alloc (Nat.le_refl _) _).drew.trans (bw.mono (by show w.heap.size ≤ (w.alloc _).heap.size; simp))
  clear rv bw HC
  go_wp2
  all_goals
    go_ret
    exact ⟨_, rfl, HV.out, HB.out⟩

end Go.Proofs.Ytcphiemfjdbhfaa
