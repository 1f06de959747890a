/-
  A letter and its marks, joined: norm.joining's function.
-/
import Derived.Test.YtbclmmkphjknaaaNmKey2
import Derived.Test.YtbclmmkphjknaaaNmJoinP
import Derived.Test.YtbclmmkphjknaaaKSet
import Derived.Deep.QuietTactic
import Derived.Test.YtbclmmkphjknaaaNmParting
namespace Go.Proofs.Ytbclmmkphjknaaa
open Go.RowKit Go.Maps Go.Shelf
set_option maxRecDepth 40000
set_option linter.unusedSimpArgs false
set_option linter.unusedVariables false

namespace Nm
/-- the function's box, and its map -/
def Jo (W : World) (bj B : Nat) : Prop := W.heap[bj]? = some (.cells #[.map (some B)] 80) ∧ MapJ W B 74 fun p => (join tab p.1 p.2).map fun q => .int .i32 q.2.2
theorem Jo.block {W W' : World} {bj B : Nat} (h : Jo W bj B) (h1 : W'.heap[bj]? = W.heap[bj]?) (h3 : W'.heap[B]? = W.heap[B]?) : Jo W' bj B := ⟨h1.trans h.1, h.2.block h3⟩
theorem Jo.lt {W : World} {bj B : Nat} (h : Jo W bj B) : bj < W.heap.size ∧ B < W.heap.size := ⟨lt_of_block h.1, h.2.lt⟩
theorem Jo.below {W W' : World} {bj B : Nat} (h : Jo W bj B) (hb : Below W.heap.size W W') : Jo W' bj B := h.block (hb.block _ h.lt.1) (hb.block _ h.lt.2)
end Nm

set_option maxHeartbeats 4000000 in
theorem nmJoin1_any (W : World) (bj B : Nat) (h : Int) (vm : Value) (ms : List Int) (hJ : Nm.Jo W bj B) (hh : 0 ≤ h ∧ h ≤ 1114111) (R : L.Rd W vm .i32 ms) (hm : ∀ m ∈ ms, 0 ≤ m ∧ m ≤ 1114111) (hl : ms.length ≤ 4000) :
    Calls Try.prog 50 #[.int .i32 h, vm, .pointer (some ⟨bj, 0, none⟩)] W fun e w' => ∃ v', e = .returned v' ∧ w'.ownsRow W.heap.size 21 1 v' (Nm.jn h ms).length (K.ints (Nm.jn h ms)) ∧ Below W.heap.size W w' := by
  have HR : Hid (L.Rd W vm .i32 ms) := R
  have HM : Hid (∀ m ∈ ms, 0 ≤ m ∧ m ≤ 1114111) := hm
  have HJ : Hid (Nm.Jo W bj B) := hJ
  have HC : Hid (∀ r X, Calls Try.prog 7 #[.int .i32 r] X fun e w' => e = .returned (.int .i64 (Nm.cls r)) ∧ w' = X) := fun r X => nmClass_any r X
  obtain ⟨o, ho⟩ : ∃ o, o = Nm.jn h ms := ⟨_, rfl⟩
  have HO : Hid (o = Nm.jn h ms) := ho
  rw [← ho]
  obtain ⟨ao, mc, rfl, _, _⟩ := R
  clear hm hJ ho
  go_enter Try.func50, Try.ntmps50
  go_wp2_with fail
  have own0 : (W.alloc (.cells #[.int .i32 h] 21)).ownsRow W.heap.size 21 1 (.slice (some ⟨W.heap.size, 0, none⟩) 1 1) [h].length (K.ints [h]) := K.own_lit W _ _
  have b0 : Below W.heap.size W (W.alloc (.cells #[.int .i32 h] 21)) := (Below.refl _ W).alloc (Nat.le_refl _) _
  go_loopw [6, 7, 16] (fun vo vl vi wr => ∃ (j : Nat) (hd : Int) (left : List Int) (high : Int), vi = .int .i64 j ∧ j ≤ ms.length ∧ vl = .int .i64 high ∧ Hid ((ms.take j).foldl Nm.js (h, [], 0) = (hd, left, high)) ∧ Hid (wr.ownsRow W.heap.size 21 1 vo (hd :: left).length (K.ints (hd :: left)) ∧ Below W.heap.size W wr)) (fun _ _ vi _ => ms.length - (intOf vi).toNat)
  case atStart => exact ⟨0, h, [], 0, rfl, Nat.zero_le _, rfl, rfl, own0, b0⟩
  case round =>
    clear own0 b0
    obtain ⟨j, hd, left, high, rfl, hj, rfl, HS, HW⟩ := hrel
    obtain ⟨g, oc, rfl, hg, hoc, hocm, hgl⟩ := K.own_at HW.out.1 (by simp)
    have hbd := Nm.jf_bd (ms.take j) (h, [], 0) hh
    have hln := Nm.jf_len (ms.take j) (h, [], 0)
    rw [HS.out] at hbd hln
    simp only [List.length_nil, Nat.zero_add, List.length_take] at hbd hln
    have hll : left.length ≤ 4000 := by omega
    have hBJ : Nm.Jo wr bj B := HJ.out.below HW.out.2
    have cj : wr.cell? ⟨bj, 0, none⟩ = some (.map (some B)) := K.at_box (i := 0) hBJ.1 rfl
    have ch : wr.cell? ⟨g, 0, none⟩ = some (.int .i32 hd) := by
      have := HW.out.1.cells (g := g) rfl 0 (.int .i32 hd) (by simp [K.ints])
      rwa [L.addr_add] at this
    have fz : wr.frozen? ⟨g, 0, none⟩ = false := K.own_free HW.out.1 0
    by_cases hlt : j < ms.length
    · obtain ⟨m, hmj⟩ : ∃ m, ms[j]? = some m := ⟨ms[j], by simp [hlt]⟩
      obtain ⟨_, _, e', _, hc⟩ := HR.out
      obtain ⟨rfl, -, rfl⟩ := Value.slice.inj e'
      obtain ⟨b, off, rfl, hcell⟩ := hc (by intro h; subst h; simp at hlt)
      have c0 := hcell j m hmj
      rw [← HW.out.2.cell (p := ⟨b, off + j, none⟩) (L.block_lt c0)] at c0
      have hmb := HM.out m (List.mem_of_getElem? hmj)
      have hok : Nm.ok2 (hd, m) := ⟨by unfold Nm.okI; omega, by unfold Nm.okI; omega⟩
      have hlk := (hBJ.2.block (w' := wr.drew) rfl).look_ok (t := 80) (e := 21) Nm.keyed2 Try.underlying80 Nm.zeroR (hd, m) hok (.agg #[.int .i32 hd, .int .i32 m]) (Nm.key2 hok)
      have hst : (ms.take (j + 1)).foldl Nm.js (h, [], 0) = Nm.js (hd, left, high) m := by rw [List.take_add_one, hmj, List.foldl_append, HS.out]; rfl
      have hCm := HC.out m
      cases hjn : Nm.join Nm.tab hd m with
      | none =>
        rw [hjn] at hlk
        simp only [Option.map_none, Option.getD_none, Option.isSome_none] at hlk
        have hj2 : Nm.js (hd, left, high) m = (hd, left ++ [m], Nm.cls m) := by unfold Nm.js; rw [if_neg (by simp only [Nm.jw_none hjn]; omega)]
        rw [hj2] at hst
        have HS2 : Hid ((ms.take (j + 1)).foldl Nm.js (h, [], 0) = (hd, left ++ [m], Nm.cls m)) := hst
        clear hst hj2 hjn hok hmj hc hcell hbd hln hBJ e'
        go_wp2_with fail
        go_region
        obtain ⟨v3, w3, run3, own3, kp3, sz3, be3, nw3⟩ := Nm.app1x (w := wr.drew) (B := W.heap.size) (o := hd :: left) HW.out.1 HW.out.2.size (by simp only [List.length_cons]; omega) m
        have HN : Hid (w3.ownsRow W.heap.size 21 1 v3 (hd :: (left ++ [m])).length (K.ints (hd :: (left ++ [m]))) ∧ Below W.heap.size W w3) := ⟨own3, (Nm.below_drew HW.out.2).trans be3⟩
        clear own3 kp3 sz3 be3 nw3 HW
        go_wp2_with (at_builtin; first | refine Lib.wpList_append_run _ rfl _ _ _ _ rfl _ _ rfl rfl _ _ (run3 _) ?_)
        refine (hCm _).mono ?_
        rintro e w4 ⟨rfl, rfl⟩
        go_wp2
        go_roundw
        case rel => exact ⟨j + 1, hd, left ++ [m], Nm.cls m, by go_num, by omega, rfl, HS2, HN⟩
        case measure => simp [intOf]; omega
      | some p =>
        obtain ⟨x1, x2, x3⟩ := p
        rw [hjn] at hlk
        simp only [Option.map_some, Option.getD_some, Option.isSome_some] at hlk
        obtain ⟨hj1, hj2, hj3⟩ := Nm.jw_some hjn
        simp only at hj1 hj2 hj3
        by_cases hcl : high < Nm.cls m
        · have hj4 : Nm.js (hd, left, high) m = (x3, left, high) := by unfold Nm.js; rw [if_pos (by simp only [hj1]; exact ⟨hj2, hcl⟩), hj1]
          rw [hj4] at hst
          have HS2 : Hid ((ms.take (j + 1)).foldl Nm.js (h, [], 0) = (x3, left, high)) := hst
          obtain ⟨s1, s2⟩ := K.own_set HW.out.1 0 (.int .i32 x3)
          have HN : Hid ((wr.setCell ⟨g, 0, none⟩ (.int .i32 x3)).ownsRow W.heap.size 21 1 (.slice (some ⟨g, 0, none⟩) (x3 :: left).length oc) (x3 :: left).length (K.ints (x3 :: left)) ∧ Below W.heap.size W (wr.setCell ⟨g, 0, none⟩ (.int .i32 x3))) := ⟨s1, HW.out.2.grown s2 HW.out.2.size (fun k hk => by cases hk; exact hg)⟩
          clear hst hj4 hjn hok hmj hc hcell hbd hln hBJ e' s1 s2 hj1 hj2 hj3
          go_wp2_with fail
          go_region
          go_wp2_with fail
          refine (hCm _).mono ?_
          rintro e w4 ⟨rfl, rfl⟩
          have fz' : wr.drew.frozen? ⟨g, 0, none⟩ = false := fz
          have ch' : wr.drew.cell? ⟨g, 0, none⟩ = some (.int .i32 hd) := ch
          clear fz ch
          go_wp2
          go_roundw
          case rel => exact ⟨j + 1, x3, left, high, by go_num, by omega, rfl, HS2, HN.out.1, Nm.below_drew HN.out.2⟩
          case measure => simp [intOf]; omega
        · have hj4 : Nm.js (hd, left, high) m = (hd, left ++ [m], Nm.cls m) := by unfold Nm.js; rw [if_neg (fun h => hcl h.2)]
          rw [hj4] at hst
          have HS2 : Hid ((ms.take (j + 1)).foldl Nm.js (h, [], 0) = (hd, left ++ [m], Nm.cls m)) := hst
          clear hst hj4 hjn hok hmj hc hcell hbd hln hBJ e' hj1 hj2 hj3
          go_wp2_with fail
          go_region
          go_wp2_with fail
          refine (hCm _).mono ?_
          rintro e w4 ⟨rfl, rfl⟩
          obtain ⟨v3, w3, run3, own3, kp3, sz3, be3, nw3⟩ := Nm.app1x (w := wr.drew) (B := W.heap.size) (o := hd :: left) HW.out.1 HW.out.2.size (by simp only [List.length_cons]; omega) m
          have HN : Hid (w3.ownsRow W.heap.size 21 1 v3 (hd :: (left ++ [m])).length (K.ints (hd :: (left ++ [m]))) ∧ Below W.heap.size W w3) := ⟨own3, (Nm.below_drew HW.out.2).trans be3⟩
          clear own3 kp3 sz3 be3 nw3 HW
          go_wp2_with (at_builtin; first | refine Lib.wpList_append_run _ rfl _ _ _ _ rfl _ _ rfl rfl _ _ (run3 _) ?_)
          refine (hCm _).mono ?_
          rintro e w4 ⟨rfl, rfl⟩
          go_wp2
          go_roundw
          case rel => exact ⟨j + 1, hd, left ++ [m], Nm.cls m, by go_num, by omega, rfl, HS2, HN⟩
          case measure => simp [intOf]; omega
    · have e : j = ms.length := by omega
      subst e
      have hoe : o = hd :: left := by
        have := HS.out
        rw [List.take_length] at this
        rw [HO.out]
        unfold Nm.jn
        rw [this]
      subst hoe
      go_wp2
      go_ret
      exact ⟨_, rfl, HW.out⟩

end Go.Proofs.Ytbclmmkphjknaaa

/-
  norm.joining: the function that joins a letter and its marks, made.
-/
namespace Go.Proofs.Ytbclmmkphjknaaa
open Go.RowKit Go.Maps Go.Shelf
set_option maxRecDepth 40000
set_option linter.unusedSimpArgs false
set_option linter.unusedVariables false

namespace Nm
abbrev fj (bj : Nat) : Value := .func (.func 50) #[] #[.pointer (some ⟨bj, 0, none⟩)]
/-- what is kept in the loop: the map's box, the map with the first j pairs, all pairs -/
def Lj (w wr : World) (g cap j : Nat) : Prop := wr.heap[w.heap.size + 1]? = some (.cells #[.map (some w.heap.size)] 80) ∧ MapJ wr w.heap.size j (fun p => (join (tab.take j).reverse p.1 p.2).map fun q => .int .i32 q.2.2) ∧ Prs wr (.slice (some ⟨g, 0, none⟩) 74 cap) tab ∧ Below w.heap.size w wr
theorem Lj.step {w wr : World} {g cap j : Nat} (h : Lj w wr g cap j) (hj : j < 74) {x1 x2 x3 : Int} (hx : tab[j]? = some (x1, x2, x3)) (o : Obj) :
    ∃ w3, (Instr.mapUpdate 80 (.map (some w.heap.size)) (.agg #[.int .i32 x1, .int .i32 x2]) (.int .i32 x3)).run Try.prog (wr.alloc o) = .ok () w3 ∧ Lj w w3 g cap (j + 1) := by
  obtain ⟨h1, h2, h3, h4⟩ := h
  have hb := tab_bd _ (List.mem_of_getElem? hx)
  simp only at hb
  have hal : Below wr.heap.size wr (wr.alloc o) := (Below.refl _ wr).alloc (Nat.le_refl _) o
  obtain ⟨b, cap', e', hc⟩ := id h3
  cases e'
  have hgl : g < wr.heap.size := L.block_lt (hc j _ hx).1
  have h2' : MapJ (wr.alloc o) w.heap.size j (fun p => (join (tab.take j).reverse p.1 p.2).map fun q => .int .i32 q.2.2) := h2.below hal h2.lt
  have h1' : (wr.alloc o).heap[w.heap.size + 1]? = some (.cells #[.map (some w.heap.size)] 80) := (hal.block _ (lt_of_block h1)).trans h1
  have hok : ok2 (x1, x2) := ⟨by unfold okI; omega, by unfold okI; omega⟩
  obtain ⟨w3, hrun, r1, r2⟩ := h2'.put (t := 80) (e := 21) keyed2 Try.underlying80 (by omega) (x1, x2) hok (.agg #[.int .i32 x1, .int .i32 x2]) (key2 hok) kl2_key kl2_inj (.int .i32 x3)
  have hgB : g ≠ w.heap.size := by
    intro e
    obtain ⟨D, ⟨es, clock, hbk, _⟩, _⟩ := h2
    have := (hc j _ hx).1
    rw [e, World.cell?] at this
    simp [hbk] at this
  refine ⟨w3, hrun, ?_, ?_, h3.move ?_, ?_⟩
  · rw [r2.block _ (lt_of_block h1') (by simp)]; exact h1'
  · have e : (fun x : Int × Int => if x = (x1, x2) then some (Value.int .i32 x3) else (join (tab.take j).reverse x.1 x.2).map fun q : Pr => Value.int .i32 q.2.2) = fun p => (join (tab.take (j + 1)).reverse p.1 p.2).map fun q : Pr => Value.int .i32 q.2.2 := by
      funext r
      obtain ⟨a, b⟩ := r
      rw [List.take_add_one, hx]
      show _ = (join ((tab.take j ++ [(x1, x2, x3)]).reverse) a b).map _
      rw [List.reverse_append]
      unfold join
      simp only [List.reverse_cons, List.reverse_nil, List.nil_append, List.singleton_append, List.find?_cons]
      by_cases h : (a, b) = (x1, x2)
      · cases h; simp
      · have : (x1 == a && x2 == b) = false := by
          rw [Bool.eq_false_iff]
          intro h2
          simp at h2
          exact h (by rw [h2.1, h2.2])
        rw [if_neg h, this]
    rw [e] at r1
    exact r1
  · rw [r2.block _ (by have := hal.size; omega) (by simp; exact fun e => hgB e)]
    exact hal.block _ hgl
  · exact Below.grown (h4.trans (hal.mono h4.size)) r2 (Nat.le_trans h4.size hal.size) (fun k hk => by cases hk; exact Nat.le_refl _)
end Nm

set_option maxHeartbeats 4000000 in
theorem nmJoining_any (w : World) : Calls Try.prog 31 #[] w fun e w' => ∃ bj B, e = .returned (Nm.fj bj) ∧ Nm.Jo w' bj B ∧ Below w.heap.size w w' := by
  have hmm := @run_makeMap Try.prog
  obtain ⟨W0, hW0⟩ : ∃ W0, W0 = (w.alloc (.map #[] 0)).alloc (.cells #[.map (some w.heap.size)] 80) := ⟨_, rfl⟩
  have HL0 : Hid (W0.heap[w.heap.size + 1]? = some (.cells #[.map (some w.heap.size)] 80) ∧ Nm.MapJ W0 w.heap.size 0 (fun _ => none) ∧ Below w.heap.size w W0) := by
    have ha : Below w.heap.size w (w.alloc (.map #[] 0)) := (Below.refl _ w).alloc (Nat.le_refl _) _
    have hb : Below (w.alloc (.map #[] 0)).heap.size (w.alloc (.map #[] 0)) W0 := by rw [hW0]; exact (Below.refl _ _).alloc (Nat.le_refl _) _
    refine ⟨?_, (Nm.MapG.made w).below hb (by simp), ha.trans (hb.mono (by simp))⟩
    rw [hW0]
    have := heap_alloc_new (w.alloc (.map #[] 0)) (.cells #[.map (some w.heap.size)] 80)
    simpa using this
  go_enter Try.func31, Try.ntmps31
  go_wp2_with fail
  rw [← hW0]
  refine (nmPairs_any W0).mono ?_
  rintro e w1 ⟨v, rfl, hP, b1⟩
  obtain ⟨g, cap, rfl, hc⟩ := id hP
  have HL : Hid (Nm.Lj w w1 g cap 0) := ⟨K.blk_below HL0.out.1 b1, HL0.out.2.1.below b1 HL0.out.2.1.lt, hP, HL0.out.2.2.trans (b1.mono HL0.out.2.2.size)⟩
  rw [show Nm.tab.length = 74 from rfl]
  clear hc hP b1 HL0 hW0 hmm
  go_wp2
  go_loopw [7] (fun vi wr => ∃ j : Nat, vi = .int .i64 j ∧ j ≤ 74 ∧ Hid (Nm.Lj w wr g cap j)) (fun vi _ => 74 - (intOf vi).toNat)
  case atStart => exact ⟨0, rfl, by omega, HL⟩
  case round =>
    obtain ⟨j, rfl, hj, HD⟩ := hrel
    clear HL
    by_cases hlt : j < 74
    · obtain ⟨⟨x1, x2, x3⟩, hx⟩ : ∃ x, Nm.tab[j]? = some x := ⟨Nm.tab[j]'(show j < Nm.tab.length from hlt), by simp⟩
      obtain ⟨d1, d2, d3, d4⟩ := HD.out
      obtain ⟨b, cap', e', hc⟩ := d3
      cases e'
      obtain ⟨c0, c1, c2⟩ := hc j _ hx
      have k0 : wr.cell? ⟨w.heap.size + 1, 0, none⟩ = some (.map (some w.heap.size)) := K.at_box (i := 0) d1 rfl
      obtain ⟨w3, hrun, hL3⟩ := HD.out.step hlt hx (.cells #[.int .i32 x1, .int .i32 x2, .int .i32 x3] 27)
      have HL3 : Hid (Nm.Lj w w3 g cap (j + 1)) := hL3
      have hbl := lt_of_block d1
      have k1 : (wr.alloc (.cells #[.int .i32 x1, .int .i32 x2, .int .i32 x3] 27)).cell? ⟨w.heap.size + 1, 0, none⟩ = some (.map (some w.heap.size)) := K.alloc_cell k0 _
      simp only at c0 c1 c2
      clear hc d1 d4 hL3 hx HD
      clear d2
      go_wp2
      go_roundw
      case rel => exact ⟨j + 1, by go_num, by omega, HL3⟩
      case measure => simp [intOf]; omega
    · have e : j = 74 := by omega
      subst e
      have hlf : (fun p : Int × Int => (Nm.join (Nm.tab.take 74).reverse p.1 p.2).map fun q : Nm.Pr => Value.int .i32 q.2.2) = fun p => (Nm.join Nm.tab p.1 p.2).map fun q : Nm.Pr => Value.int .i32 q.2.2 := by
        funext r
        rw [show Nm.tab.take 74 = Nm.tab from rfl, Nm.join_rev]
      have HE : Hid (Nm.Jo wr (w.heap.size + 1) w.heap.size ∧ Below w.heap.size w wr) := ⟨⟨HD.out.1, by rw [← hlf]; exact HD.out.2.1⟩, HD.out.2.2.2⟩
      clear hlf HD
      go_wp2
      go_ret
      exact ⟨w.heap.size + 1, w.heap.size, rfl, HE.out.1, HE.out.2⟩

end Go.Proofs.Ytbclmmkphjknaaa
