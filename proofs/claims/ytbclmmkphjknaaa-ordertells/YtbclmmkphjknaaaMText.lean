/-
  norm.parting: the function that takes a rune apart, made.
-/
import Derived.Test.YtbclmmkphjknaaaNmPairs
import Derived.RegionTactic
import Derived.Laws.EntriesVeiled
import Derived.Test.YtbclmmkphjknaaaRows
import Derived.Test.YtbclmmkphjknaaaKRight
import Derived.Test.YtbclmmkphjknaaaFrame
import Derived.Shelf.Abstract
namespace Go.Proofs.Ytbclmmkphjknaaa
open Go.RowKit Go.Maps Go.Shelf
set_option maxRecDepth 40000
set_option linter.unusedSimpArgs false
set_option linter.unusedVariables false

namespace Nm
theorem Prs.move {W W' : World} {g cap n : Nat} {l : List Pr} (h : Prs W (.slice (some ⟨g, 0, none⟩) n cap) l) (e : W'.heap[g]? = W.heap[g]?) : Prs W' (.slice (some ⟨g, 0, none⟩) n cap) l := by
  obtain ⟨b, cap', e', hc⟩ := h
  cases e'
  exact ⟨g, cap, rfl, fun j x hj => by rw [cell_eq e, cell_eq e, cell_eq e]; exact hc j x hj⟩
theorem MapI.not_cells {W : World} {B n g : Nat} {f : Int → Option Value} (h : MapI W B n f) {c : Array Value} {t : TypeId} {p : Nat × Nat} (hg : W.heap[g]? = some (.cells c t p)) : g ≠ B := fun e => by
  obtain ⟨D, ⟨es, clock, hb, _⟩, _⟩ := h
  rw [e, hb] at hg
  cases hg
/-- what is kept in the loop: the map's box, the map with the first j pairs, all pairs -/
def Ld (w wr : World) (g cap j : Nat) : Prop := wr.heap[w.heap.size + 1]? = some (.cells #[.map (some w.heap.size)] 76) ∧ MapI wr w.heap.size j (fun r => (look (tab.take j).reverse r).map pv) ∧ Prs wr (.slice (some ⟨g, 0, none⟩) 74 cap) tab ∧ Below w.heap.size w wr
theorem Ld.step {w wr : World} {g cap j : Nat} (h : Ld w wr g cap j) (hj : j < 74) {x1 x2 x3 : Int} (hx : tab[j]? = some (x1, x2, x3)) (o : Obj) :
    ∃ w3, (Instr.mapUpdate 76 (.map (some w.heap.size)) (.int .i32 x3) (.agg #[.int .i32 x1, .int .i32 x2, .int .i32 x3])).run Try.prog (wr.alloc o) = .ok () w3 ∧ Ld w w3 g cap (j + 1) := by
  obtain ⟨h1, h2, h3, h4⟩ := h
  have hb := tab_bd _ (List.mem_of_getElem? hx)
  simp only at hb
  have hal : Below wr.heap.size wr (wr.alloc o) := (Below.refl _ wr).alloc (Nat.le_refl _) o
  obtain ⟨b, cap', e', hc⟩ := id h3
  cases e'
  have hgl : g < wr.heap.size := L.block_lt (hc j _ hx).1
  have h2' : MapI (wr.alloc o) w.heap.size j (fun r => (look (tab.take j).reverse r).map pv) := h2.below hal h2.lt
  have h1' : (wr.alloc o).heap[w.heap.size + 1]? = some (.cells #[.map (some w.heap.size)] 76) := (hal.block _ (lt_of_block h1)).trans h1
  obtain ⟨w3, hrun, r1, r2⟩ := h2'.put (t := 76) (e := 27) keyedI Try.underlying76 (by omega) x3 (by unfold okI; omega) (.int .i32 x3) (keyI (by unfold okI; omega)) (fun s _ => trivial) (fun a b _ _ h => by unfold klI at h; simpa using h) (.agg #[.int .i32 x1, .int .i32 x2, .int .i32 x3])
  have hgB : g ≠ w.heap.size := by
    intro e
    obtain ⟨D, ⟨es, clock, hbk, _⟩, _⟩ := h2
    have := (hc j _ hx).1
    rw [e, World.cell?] at this
    simp [hbk] at this
  refine ⟨w3, hrun, ?_, ?_, h3.move ?_, ?_⟩
  · rw [r2.block _ (lt_of_block h1') (by simp)]; exact h1'
  · have e : (fun x => if x = x3 then some (Value.agg #[.int .i32 x1, .int .i32 x2, .int .i32 x3]) else (look (tab.take j).reverse x).map pv) = fun r => (look (tab.take (j + 1)).reverse r).map pv := by
      funext r
      rw [List.take_add_one, hx]
      show _ = (look ((tab.take j ++ [(x1, x2, x3)]).reverse) r).map pv
      rw [List.reverse_append]
      unfold look
      simp only [List.reverse_cons, List.reverse_nil, List.nil_append, List.singleton_append, List.find?_cons]
      by_cases h : r = x3
      · subst h; simp [pv]
      · have : (x3 == r) = false := by simp; exact fun e => h e.symm
        rw [if_neg h, this]
    rw [e] at r1
    exact r1
  · rw [r2.block _ (by have := hal.size; omega) (by simp; exact fun e => hgB e)]
    exact hal.block _ hgl
  · exact Below.grown (h4.trans (hal.mono h4.size)) r2 (Nat.le_trans h4.size hal.size) (fun k hk => by cases hk; exact Nat.le_refl _)
end Nm

set_option maxHeartbeats 4000000 in
theorem nmParting_any (w : World) : Calls Try.prog 27 #[] w fun e w' => ∃ bm bf B, e = .returned (Nm.fv bm bf) ∧ Nm.Part w' bm bf B ∧ Below w.heap.size w w' := by
  have hmm := @run_makeMap Try.prog
  obtain ⟨W0, hW0⟩ : ∃ W0, W0 = (w.alloc (.map #[] 0)).alloc (.cells #[.map (some w.heap.size)] 76) := ⟨_, rfl⟩
  have HL0 : Hid (W0.heap[w.heap.size + 1]? = some (.cells #[.map (some w.heap.size)] 76) ∧ Nm.MapI W0 w.heap.size 0 (fun _ => none) ∧ Below w.heap.size w W0) := by
    have ha : Below w.heap.size w (w.alloc (.map #[] 0)) := (Below.refl _ w).alloc (Nat.le_refl _) _
    have hb : Below (w.alloc (.map #[] 0)).heap.size (w.alloc (.map #[] 0)) W0 := by rw [hW0]; exact (Below.refl _ _).alloc (Nat.le_refl _) _
    refine ⟨?_, (Nm.MapG.made w).below hb (by simp), ha.trans (hb.mono (by simp))⟩
    rw [hW0]
    have := heap_alloc_new (w.alloc (.map #[] 0)) (.cells #[.map (some w.heap.size)] 76)
    simpa using this
  go_enter Try.func27, Try.ntmps27
  go_wp2_with fail
  rw [← hW0]
  refine (nmPairs_any W0).mono ?_
  rintro e w1 ⟨v, rfl, hP, b1⟩
  obtain ⟨g, cap, rfl, hc⟩ := id hP
  have HL : Hid (Nm.Ld w w1 g cap 0) := ⟨K.blk_below HL0.out.1 b1, HL0.out.2.1.below b1 HL0.out.2.1.lt, hP, HL0.out.2.2.trans (b1.mono HL0.out.2.2.size)⟩
  rw [show Nm.tab.length = 74 from rfl]
  clear hc hP b1 HL0 hW0 hmm
  obtain ⟨N, hN⟩ : ∃ N, N = w.heap.size := ⟨_, rfl⟩
  go_wp2
  go_loopw [8] (fun vi wr => ∃ j : Nat, vi = .int .i64 j ∧ j ≤ 74 ∧ Hid (Nm.Ld w wr g cap j)) (fun vi _ => 74 - (intOf vi).toNat)
  case atStart => exact ⟨0, rfl, by omega, HL⟩
  case round =>
    obtain ⟨j, rfl, hj, HD⟩ := hrel
    clear HL
    by_cases hlt : j < 74
    · obtain ⟨⟨x1, x2, x3⟩, hx⟩ : ∃ x, Nm.tab[j]? = some x := ⟨Nm.tab[j]'(show j < Nm.tab.length from hlt), by simp⟩
      obtain ⟨d1, d2, d3, d4⟩ := HD.out
      obtain ⟨b, cap', e', hc⟩ := d3
      cases e'
      obtain ⟨c0, c1, c2⟩ := hc j _ hx
      have k0 : wr.cell? ⟨w.heap.size + 1, 0, none⟩ = some (.map (some w.heap.size)) := K.at_box (i := 0) d1 rfl
      obtain ⟨w3, hrun, hL3⟩ := HD.out.step hlt hx (.cells #[.int .i32 x1, .int .i32 x2, .int .i32 x3] 27)
      have HL3 : Hid (Nm.Ld w w3 g cap (j + 1)) := hL3
      have hbl := lt_of_block d1
      have k1 : (wr.alloc (.cells #[.int .i32 x1, .int .i32 x2, .int .i32 x3] 27)).cell? ⟨w.heap.size + 1, 0, none⟩ = some (.map (some w.heap.size)) := K.alloc_cell k0 _
      simp only at c0 c1 c2
      clear hc d1 d4 hL3 hx HD
      clear d2
      go_wp2
      go_roundw
      case rel => exact ⟨j + 1, by go_num, by omega, HL3⟩
      case measure => simp [intOf]; omega
    · have e : j = 74 := by omega
      subst e
      have hlf : (fun r => (Nm.look (Nm.tab.take 74).reverse r).map Nm.pv) = fun r => (Nm.look Nm.tab r).map Nm.pv := by
        funext r
        rw [show Nm.tab.take 74 = Nm.tab from rfl, Nm.look_rev]
      have HE : Hid (wr.heap[w.heap.size + 1]? = some (.cells #[.map (some w.heap.size)] 76) ∧ Nm.MapI wr w.heap.size 74 (fun r => (Nm.look Nm.tab r).map Nm.pv) ∧ Below w.heap.size w wr) := ⟨HD.out.1, by rw [← hlf]; exact HD.out.2.1, HD.out.2.2.2⟩
      clear hlf HD
      go_wp2
      go_ret
      exact ⟨w.heap.size + 1, wr.heap.size, w.heap.size, rfl, ⟨(Below.heap_alloc wr _ _ (lt_of_block HE.out.1)).trans HE.out.1, heap_alloc_new wr _, HE.out.2.1.block (Below.heap_alloc wr _ _ HE.out.2.1.lt)⟩, HE.out.2.2.alloc HE.out.2.2.size _⟩

end Go.Proofs.Ytbclmmkphjknaaa

/-
  What is wrong with a text: what the program answers.
-/
namespace Go.Proofs.Ytbclmmkphjknaaa
open Go.RowKit Go.Shelf
set_option maxRecDepth 20000
set_option linter.unusedSimpArgs false
set_option linter.unusedVariables false

set_option maxHeartbeats 400000 in
theorem mright_any (r : Int) (w : World) :
    Calls Try.prog 59 #[.int .i32 r] w fun e w' => e = .returned (.bool (M.right r)) ∧ w' = w := by
  go_enter Try.func59, Try.ntmps59
  go_wp2
  all_goals go_ret
  all_goals refine ⟨L.ret_bool ?_, rfl⟩
  all_goals (unfold M.right; rw [Bool.eq_iff_iff]; simp; try omega)

set_option maxHeartbeats 400000 in
theorem mright1_any (r : Int) (w : World) :
    Calls Try.prog 58 #[.int .i32 r] w fun e w' => e = .returned (.bool (!M.right r)) ∧ w' = w := by
  go_enter Try.func58, Try.ntmps58
  go_wp2_with (go_at_call 59; refine (mright_any r _).mono ?_; rintro e w' ⟨rfl, rfl⟩)
  go_ret
  exact ⟨rfl, rfl⟩

set_option maxHeartbeats 1000000 in
theorem mindex_any (w : World) (v : Value) (l : List Int) (R : L.Rd w v .i32 l) (hl : l.length ≤ 4000) :
    Calls Try.prog 51 #[v, .func (.func 58) #[] #[]] w fun e w' => ∃ i : Int, e = .returned (.int .i64 i) ∧ decide (0 ≤ i) = !K.allR l ∧ Below w.heap.size w w' := by
  obtain ⟨ao, cap, rfl, hn, hc⟩ := R
  have eg : ∀ args w, (callFunc 58 args).run Try.prog w = .ok (.enter 58 args) w := enters_of Try.func58 (by kernel_rfl) rfl
  go_enter Try.func51, Try.ntmps51
  go_wp2
  go_loopw [8] (fun i wr => ∃ k : Nat, k ≤ l.length ∧ i = .int .i64 k ∧ Hid (K.allR (l.take k) = true) ∧ Hid (Below w.heap.size w wr)) (fun i _ => l.length - (intOf i).toNat)
  case atStart => exact ⟨0, Nat.zero_le _, rfl, by show K.allR (l.take 0) = true; simp [K.allR], Below.refl _ w⟩
  case round =>
    obtain ⟨k, hk, rfl, HW, HB⟩ := hrel
    by_cases hlt : k < l.length
    · obtain ⟨b, off, rfl, hcell⟩ := hc (by intro h; subst h; simp at hlt)
      obtain ⟨x, hx⟩ : ∃ x, l[k]? = some x := ⟨l[k], by simp [hlt]⟩
      have c1 := hcell k x hx
      have hb := L.block_lt c1
      rw [← HB.out.cell (p := ⟨b, _, none⟩) hb] at c1
      have HX : Hid (l[k]? = some x) := hx
      have hsz := HB.out.size
      have hob := mright1_any x wr
      clear hx hcell hc
      cases hbad : M.right x with
      | false =>
        rw [hbad] at hob
        have HR : Hid (M.right x = false) := hbad
        clear hbad
        go_wp2_with fail
        refine hob.mono ?_
        rintro e w1 ⟨rfl, rfl⟩
        go_wp2
        go_ret
        refine ⟨k, rfl, ?_, HB.out⟩
        have : K.allR l = false := List.all_eq_false.2 ⟨_, List.mem_of_getElem? HX.out, by rw [HR.out]; simp⟩
        rw [this]; simp
      | true =>
        rw [hbad] at hob
        have HR : Hid (M.right x = true) := hbad
        clear hbad
        go_wp2_with fail
        refine hob.mono ?_
        rintro e w1 ⟨rfl, rfl⟩
        go_wp2
        go_roundw
        case rel =>
          refine ⟨k + 1, by omega, by go_num, ?_, HB.out⟩
          show K.allR (l.take (k + 1)) = true
          have h := HW.out
          unfold K.allR at h ⊢
          rw [List.take_add_one, HX.out, List.all_append, h]
          simp [HR.out]
        case measure => simp [intOf]; omega
    · go_wp2
      go_ret
      refine ⟨-1, rfl, ?_, HB.out⟩
      have h := HW.out
      rw [List.take_of_length_le (by omega)] at h
      rw [h]
      rfl

set_option maxHeartbeats 400000 in
theorem mcontains_any (w : World) (v : Value) (l : List Int) (R : L.Rd w v .i32 l) (hl : l.length ≤ 4000) :
    Calls Try.prog 57 #[v, .func (.func 58) #[] #[]] w fun e w' => e = .returned (.bool (!K.allR l)) ∧ Below w.heap.size w w' := by
  have h := mindex_any w v l R hl
  obtain ⟨ao, cap, rfl, hn, hc⟩ := R
  clear hc
  go_enter Try.func57, Try.ntmps57
  go_wp2_with fail
  refine h.mono ?_
  rintro e w1 ⟨i, rfl, hi, hb⟩
  have HI : Hid _ := hi
  clear hi
  go_wp2
  go_ret
  exact ⟨L.ret_bool HI.out, hb⟩

set_option maxHeartbeats 400000 in
theorem mallRight_any (w : World) (v : Value) (l : List Int) (R : L.Rd w v .i32 l) (hl : l.length ≤ 4000) :
    Calls Try.prog 44 #[v] w fun e w' => e = .returned (.bool (K.allR l)) ∧ Below w.heap.size w w' := by
  have h := mcontains_any w v l R hl
  obtain ⟨ao, cap, rfl, hn, hc⟩ := R
  clear hc
  go_enter Try.func44, Try.ntmps44
  go_wp2_with fail
  refine h.mono ?_
  rintro e w1 ⟨rfl, hb⟩
  go_wp2
  go_ret
  exact ⟨by simp, hb⟩

set_option maxHeartbeats 400000 in
theorem mText_any (w : World) (v : Value) (l : List Int) (R : L.Rd w v .i32 l) (hl : l.length ≤ 140737488355328) :
    Calls Try.prog 26 #[v] w fun e w' => e = .returned (.int .i64 (K.textE l)) ∧ Below w.heap.size w w' := by
  have h := mallRight_any w v l R
  obtain ⟨ao, cap, rfl, hn, hc⟩ := R
  clear hc
  unfold K.textE
  by_cases h4 : 4000 < l.length
  · rw [if_pos h4]
    go_enter Try.func26, Try.ntmps26
    go_wp2
    go_ret
    exact ⟨rfl, Below.refl _ w⟩
  · rw [if_neg h4]
    have h' := h (by omega)
    clear h
    generalize K.allR l = bb at h' ⊢
    cases bb with
    | true =>
      go_enter Try.func26, Try.ntmps26
      go_wp2_with fail
      refine h'.mono ?_
      rintro e w1 ⟨rfl, hb⟩
      go_wp2
      go_ret
      exact ⟨rfl, hb⟩
    | false =>
      go_enter Try.func26, Try.ntmps26
      go_wp2_with fail
      refine h'.mono ?_
      rintro e w1 ⟨rfl, hb⟩
      go_wp2
      go_ret
      exact ⟨rfl, hb⟩


end Go.Proofs.Ytbclmmkphjknaaa
