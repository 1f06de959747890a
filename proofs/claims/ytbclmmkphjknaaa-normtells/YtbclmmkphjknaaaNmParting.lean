/-
  norm.parting: the function that takes a rune apart, made.
-/
import Derived.Test.YtbclmmkphjknaaaNmPart
import Derived.Test.YtbclmmkphjknaaaNmPairs
import Derived.RegionTactic
import Derived.Laws.EntriesVeiled
namespace Go.Proofs.Ytbclmmkphjknaaa
open Go.RowKit Go.Maps Go.Shelf
set_option maxRecDepth 40000
set_option linter.unusedSimpArgs false
set_option linter.unusedVariables false

namespace Nm
theorem Prs.move {W W' : World} {g cap n : Nat} {l : List Pr} (h : Prs W (.slice (some ⟨g, 0, none⟩) n cap) l) (e : W'.heap[g]? = W.heap[g]?) : Prs W' (.slice (some ⟨g, 0, none⟩) n cap) l := by
  obtain ⟨b, cap', e', hc⟩ := h
  cases e'
  exact ⟨g, cap, rfl, fun j x hj => by rw [cell_eq e, cell_eq e, cell_eq e]; exact hc j x hj⟩
theorem MapI.not_cells {W : World} {B n g : Nat} {f : Int → Option Value} (h : MapI W B n f) {c : Array Value} {t : TypeId} {p : Nat × Nat} (hg : W.heap[g]? = some (.cells c t p)) : g ≠ B := fun e => by
  obtain ⟨D, ⟨es, clock, hb, _⟩, _⟩ := h
  rw [e, hb] at hg
  cases hg
/-- what is kept in the loop: the map's box, the map with the first j pairs, all pairs -/
def Ld (w wr : World) (g cap j : Nat) : Prop := wr.heap[w.heap.size + 1]? = some (.cells #[.map (some w.heap.size)] 76) ∧ MapI wr w.heap.size j (fun r => (look (tab.take j).reverse r).map pv) ∧ Prs wr (.slice (some ⟨g, 0, none⟩) 74 cap) tab ∧ Below w.heap.size w wr
theorem Ld.step {w wr : World} {g cap j : Nat} (h : Ld w wr g cap j) (hj : j < 74) {x1 x2 x3 : Int} (hx : tab[j]? = some (x1, x2, x3)) (o : Obj) :
    ∃ w3, (Instr.mapUpdate 76 (.map (some w.heap.size)) (.int .i32 x3) (.agg #[.int .i32 x1, .int .i32 x2, .int .i32 x3])).run Try.prog (wr.alloc o) = .ok () w3 ∧ Ld w w3 g cap (j + 1) := by
  obtain ⟨h1, h2, h3, h4⟩ := h
  have hb := tab_bd _ (List.mem_of_getElem? hx)
  simp only at hb
  have hal : Below wr.heap.size wr (wr.alloc o) := (Below.refl _ wr).alloc (Nat.le_refl _) o
  obtain ⟨b, cap', e', hc⟩ := id h3
  cases e'
  have hgl : g < wr.heap.size := L.block_lt (hc j _ hx).1
  have h2' : MapI (wr.alloc o) w.heap.size j (fun r => (look (tab.take j).reverse r).map pv) := h2.below hal h2.lt
  have h1' : (wr.alloc o).heap[w.heap.size + 1]? = some (.cells #[.map (some w.heap.size)] 76) := (hal.block _ (lt_of_block h1)).trans h1
  obtain ⟨w3, hrun, r1, r2⟩ := h2'.put (t := 76) (e := 27) keyedI Try.underlying76 (by omega) x3 (by unfold okI; omega) (.int .i32 x3) (keyI (by unfold okI; omega)) (fun s _ => trivial) (fun a b _ _ h => by unfold klI at h; simpa using h) (.agg #[.int .i32 x1, .int .i32 x2, .int .i32 x3])
  have hgB : g ≠ w.heap.size := by
    intro e
    obtain ⟨D, ⟨es, clock, hbk, _⟩, _⟩ := h2
    have := (hc j _ hx).1
    rw [e, World.cell?] at this
    simp [hbk] at this
  refine ⟨w3, hrun, ?_, ?_, h3.move ?_, ?_⟩
  · rw [r2.block _ (lt_of_block h1') (by simp)]; exact h1'
  · have e : (fun x => if x = x3 then some (Value.agg #[.int .i32 x1, .int .i32 x2, .int .i32 x3]) else (look (tab.take j).reverse x).map pv) = fun r => (look (tab.take (j + 1)).reverse r).map pv := by
      funext r
      rw [List.take_add_one, hx]
      show _ = (look ((tab.take j ++ [(x1, x2, x3)]).reverse) r).map pv
      rw [List.reverse_append]
      unfold look
      simp only [List.reverse_cons, List.reverse_nil, List.nil_append, List.singleton_append, List.find?_cons]
      by_cases h : r = x3
      · subst h; simp [pv]
      · have : (x3 == r) = false := by simp; exact fun e => h e.symm
        rw [if_neg h, this]
    rw [e] at r1
    exact r1
  · rw [r2.block _ (by have := hal.size; omega) (by simp; exact fun e => hgB e)]
    exact hal.block _ hgl
  · exact Below.grown (h4.trans (hal.mono h4.size)) r2 (Nat.le_trans h4.size hal.size) (fun k hk => by cases hk; exact Nat.le_refl _)
end Nm

set_option maxHeartbeats 4000000 in
theorem nmParting_any (w : World) : Calls Try.prog 27 #[] w fun e w' => ∃ bm bf B, e = .returned (Nm.fv bm bf) ∧ Nm.Part w' bm bf B ∧ Below w.heap.size w w' := by
  have hmm := @run_makeMap Try.prog
  obtain ⟨W0, hW0⟩ : ∃ W0, W0 = (w.alloc (.map #[] 0)).alloc (.cells #[.map (some w.heap.size)] 76) := ⟨_, rfl⟩
  have HL0 : Hid (W0.heap[w.heap.size + 1]? = some (.cells #[.map (some w.heap.size)] 76) ∧ Nm.MapI W0 w.heap.size 0 (fun _ => none) ∧ Below w.heap.size w W0) := by
    have ha : Below w.heap.size w (w.alloc (.map #[] 0)) := (Below.refl _ w).alloc (Nat.le_refl _) _
    have hb : Below (w.alloc (.map #[] 0)).heap.size (w.alloc (.map #[] 0)) W0 := by rw [hW0]; exact (Below.refl _ _).alloc (Nat.le_refl _) _
    refine ⟨?_, (Nm.MapG.made w).below hb (by simp), ha.trans (hb.mono (by simp))⟩
    rw [hW0]
    have := heap_alloc_new (w.alloc (.map #[] 0)) (.cells #[.map (some w.heap.size)] 76)
    simpa using this
  go_enter Try.func27, Try.ntmps27
  go_wp2_with fail
  rw [← hW0]
  refine (nmPairs_any W0).mono ?_
  rintro e w1 ⟨v, rfl, hP, b1⟩
  obtain ⟨g, cap, rfl, hc⟩ := id hP
  have HL : Hid (Nm.Ld w w1 g cap 0) := ⟨K.blk_below HL0.out.1 b1, HL0.out.2.1.below b1 HL0.out.2.1.lt, hP, HL0.out.2.2.trans (b1.mono HL0.out.2.2.size)⟩
  rw [show Nm.tab.length = 74 from rfl]
  clear hc hP b1 HL0 hW0 hmm
  obtain ⟨N, hN⟩ : ∃ N, N = w.heap.size := ⟨_, rfl⟩
  go_wp2
  go_loopw [8] (fun vi wr => ∃ j : Nat, vi = .int .i64 j ∧ j ≤ 74 ∧ Hid (Nm.Ld w wr g cap j)) (fun vi _ => 74 - (intOf vi).toNat)
  case atStart => exact ⟨0, rfl, by omega, HL⟩
  case round =>
    obtain ⟨j, rfl, hj, HD⟩ := hrel
    clear HL
    by_cases hlt : j < 74
    · obtain ⟨⟨x1, x2, x3⟩, hx⟩ : ∃ x, Nm.tab[j]? = some x := ⟨Nm.tab[j]'(show j < Nm.tab.length from hlt), by simp⟩
      obtain ⟨d1, d2, d3, d4⟩ := HD.out
      obtain ⟨b, cap', e', hc⟩ := d3
      cases e'
      obtain ⟨c0, c1, c2⟩ := hc j _ hx
      have k0 : wr.cell? ⟨w.heap.size + 1, 0, none⟩ = some (.map (some w.heap.size)) := K.at_box (i := 0) d1 rfl
      obtain ⟨w3, hrun, hL3⟩ := HD.out.step hlt hx (.cells #[.int .i32 x1, .int .i32 x2, .int .i32 x3] 27)
      have HL3 : Hid (Nm.Ld w w3 g cap (j + 1)) := hL3
      have hbl := lt_of_block d1
      have k1 : (wr.alloc (.cells #[.int .i32 x1, .int .i32 x2, .int .i32 x3] 27)).cell? ⟨w.heap.size + 1, 0, none⟩ = some (.map (some w.heap.size)) := K.alloc_cell k0 _
      simp only at c0 c1 c2
      clear hc d1 d4 hL3 hx HD
      clear d2
      go_wp2
      go_roundw
      case rel => exact ⟨j + 1, by go_num, by omega, HL3⟩
      case measure => simp [intOf]; omega
    · have e : j = 74 := by omega
      subst e
      have hlf : (fun r => (Nm.look (Nm.tab.take 74).reverse r).map Nm.pv) = fun r => (Nm.look Nm.tab r).map Nm.pv := by
        funext r
        rw [show Nm.tab.take 74 = Nm.tab from rfl, Nm.look_rev]
      have HE : Hid (wr.heap[w.heap.size + 1]? = some (.cells #[.map (some w.heap.size)] 76) ∧ Nm.MapI wr w.heap.size 74 (fun r => (Nm.look Nm.tab r).map Nm.pv) ∧ Below w.heap.size w wr) := ⟨HD.out.1, by rw [← hlf]; exact HD.out.2.1, HD.out.2.2.2⟩
      clear hlf HD
      go_wp2
      go_ret
      exact ⟨w.heap.size + 1, wr.heap.size, w.heap.size, rfl, ⟨(Below.heap_alloc wr _ _ (lt_of_block HE.out.1)).trans HE.out.1, heap_alloc_new wr _, HE.out.2.1.block (Below.heap_alloc wr _ _ HE.out.2.1.lt)⟩, HE.out.2.2.alloc HE.out.2.2.size _⟩

end Go.Proofs.Ytbclmmkphjknaaa
