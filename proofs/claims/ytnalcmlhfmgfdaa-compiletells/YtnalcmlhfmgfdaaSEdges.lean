/-
  The closure within the document's Edges: one number is put into a rising list.
-/
import Derived.Test.YtnalcmlhfmgfdaaSEdgeN
import Derived.Test.YtnalcmlhfmgfdaaSEdgeA
import Derived.Test.YtnalcmlhfmgfdaaSEdgeB
import Derived.Test.YtnalcmlhfmgfdaaSEdgeC
import Derived.Test.YtnalcmlhfmgfdaaSEdgesP
import Derived.Shelf.Abstract
namespace Go.Proofs.Ytnalcmlhfmgfdaa
open Go.RowKit

theorem put_any (W : World) (B bo g cap : Nat) (zs : List Int) (r : Int) (X : S.Bx W bo 23 (.slice (some ⟨g, 0, none⟩) zs.length cap)) (own : W.ownsRow B 21 1 (.slice (some ⟨g, 0, none⟩) zs.length cap) zs.length (zs.map (Value.int .i32))) (hbo : bo < W.heap.size) (hB : B ≤ W.heap.size)
    (hl : zs.length ≤ 1099511627776) :
    Calls Try.prog 40 #[.int .i32 r, .pointer (some ⟨bo, 0, none⟩)] W fun e w' => e = .returned (.tuple #[]) ∧ ∃ g' cap', S.Bx w' bo 23 (.slice (some ⟨g', 0, none⟩) (S.insF zs r).length cap') ∧ w'.ownsRow B 21 1 (.slice (some ⟨g', 0, none⟩) (S.insF zs r).length cap') (S.insF zs r).length ((S.insF zs r).map (Value.int .i32)) ∧ W.grownBy w' (some bo) := by
  by_cases h : 1114111 < r ∨ zs[S.lowF zs r]? = some r
  · exact put_no W B bo g cap zs r X own hbo hB hl h
  · by_cases h1 : S.lowF zs r < zs.length
    · exact put_mid W B bo g cap zs r X own hbo hB hl ⟨h, h1⟩
    · have h2 : S.lowF zs r = zs.length := by have := S.lowF_le zs r; omega
      by_cases h3 : cap = zs.length
      · exact put_full W B bo g cap zs r X own hbo hB hl ⟨h, h2, h3⟩
      · exact put_room W B bo g cap zs r X own hbo hB hl ⟨h, h2, h3⟩

end Go.Proofs.Ytnalcmlhfmgfdaa

/-
  What the document's Edges answers of slices of spans, walked.
-/
namespace Go.Proofs.Ytnalcmlhfmgfdaa
open Go.RowKit

/-- the box of the edges, with what it holds -/
structure Holds (w wr : World) (bo : Nat) (D : List Int) : Prop where
  box : ∃ g cap, S.Bx wr bo 23 (.slice (some ⟨g, 0, none⟩) (D.foldl S.insF [0]).length cap) ∧ wr.ownsRow w.heap.size 21 1 (.slice (some ⟨g, 0, none⟩) (D.foldl S.insF [0]).length cap) (D.foldl S.insF [0]).length ((D.foldl S.insF [0]).map (Value.int .i32))
  below : Below w.heap.size w wr
  lt : bo < wr.heap.size

theorem Holds.alloc {w wr : World} {bo : Nat} {D : List Int} (h : Holds w wr bo D) (o : Obj) : Holds w (wr.alloc o) bo D := by
  obtain ⟨g, cap, x, own⟩ := h.box
  have hb : Below wr.heap.size wr (wr.alloc o) := (Below.refl _ wr).alloc (Nat.le_refl _) _
  exact ⟨⟨g, cap, x.below hb h.lt, own.alloc o⟩, h.below.alloc h.below.size o, by have := h.lt; simp; omega⟩

theorem Holds.len {w wr : World} {bo : Nat} {D : List Int} (_ : Holds w wr bo D) : (D.foldl S.insF [0]).length ≤ 1 + D.length := by
  have := (S.fold_spec D [0] (by simp)).2.2
  simpa using this

theorem put_holds {w wr : World} {bo : Nat} {D : List Int} (h : Holds w wr bo D) (hbo : w.heap.size ≤ bo) (hl : ∀ d ∈ D, 0 ≤ d) (r : Int) :
    Calls Try.prog 40 #[.int .i32 r, .pointer (some ⟨bo, 0, none⟩)] wr fun e w' => e = .returned (.tuple #[]) ∧ Holds w w' bo (D ++ [r]) ∧ wr.grownBy w' (some bo) := by
  obtain ⟨g, cap, x, own⟩ := h.box
  have hlen := S.fold_len D hl
  refine (put_any wr w.heap.size bo g cap _ r x own h.lt h.below.size (by omega)).mono ?_
  rintro e w' ⟨rfl, g', cap', x', own', hg⟩
  have e : (D ++ [r]).foldl S.insF [0] = S.insF (D.foldl S.insF [0]) r := by rw [List.foldl_append]; rfl
  refine ⟨rfl, ⟨⟨g', cap', by rw [e]; exact x', by rw [e]; exact own'⟩, Below.grown h.below hg h.below.size (fun k hk => by cases hk; exact hbo), Nat.lt_of_lt_of_le h.lt hg.size⟩, hg⟩

theorem edgesOf_take {l : List S.Sp} {j : Nat} {x : S.Sp} (hx : l[j]? = some x) : S.edgesOf (l.take (j + 1)) = S.edgesOf (l.take j) ++ [x.1] ++ [x.2 + 1] := by
  unfold S.edgesOf
  rw [List.take_add_one, hx, List.flatMap_append]
  simp
theorem edges_take {ls : List (List S.Sp)} {i : Nat} {l : List S.Sp} (hl : ls[i]? = some l) : (ls.take (i + 1)).flatMap S.edgesOf = (ls.take i).flatMap S.edgesOf ++ S.edgesOf l := by
  rw [List.take_add_one, hl, List.flatMap_append]; simp
theorem edgesOf_len (l : List S.Sp) : (S.edgesOf l).length = 2 * l.length := by
  unfold S.edgesOf
  induction l with
  | nil => rfl
  | cons x l ih => simp only [List.flatMap_cons, List.length_append, ih, List.length_cons]; simp; omega

set_option maxHeartbeats 2000000 in
theorem edges_all (w : World) (ao : Option Addr) (cp b : Nat) (vs : List Value) (hao : vs ≠ [] → ao = some ⟨b, 0, none⟩) (ls : List (List S.Sp)) (hlen : vs.length = ls.length) (hl : ls.length ≤ 1000) (hv : ∀ (i : Nat) v, vs[i]? = some v → w.cell? ⟨b, i, none⟩ = some v)
    (hR : ∀ (i : Nat) v l, vs[i]? = some v → ls[i]? = some l → S.Rd w v l) (hb : ∀ l ∈ ls, l.any S.bad = false) (hsz : ∀ l ∈ ls, l.length ≤ 17592186043904) :
    Calls Try.prog 24 #[.slice ao vs.length cp] w fun e w' => ∃ v, e = .returned v ∧ L.Rd w' v .i32 (S.edgesF ls) ∧ Below w.heap.size w w' := by
  have HR : Hid _ := hR
  have HV : Hid _ := hv
  have HLen : Hid (vs.length = ls.length) := hlen
  have HBad : Hid (∀ l ∈ ls, l.any S.bad = false) := hb
  have HSz : Hid (∀ l ∈ ls, l.length ≤ 17592186043904) := hsz
  have hl3 : vs.length ≤ 1000 := by omega
  clear hR hv hlen hb hsz
  have e55 : ∀ args w, (callFunc 40 args).run Try.prog w = .ok (.enter 40 args) w := enters_of Try.func40 (by kernel_rfl) rfl
  go_enter Try.func24, Try.ntmps24
  go_wp2
  have HH0 : Hid (Holds w ((w.alloc (.cells #[.int .i32 0] 21)).alloc (.cells #[.slice (some ⟨w.heap.size, 0, none⟩) 1 1] 23)) (w.heap.size + 1) []) := by
    have x := S.Bx.new (w.alloc (.cells #[.int .i32 0] 21)) 23 (.slice (some ⟨w.heap.size, 0, none⟩) 1 1)
    rw [World.size_alloc] at x
    have own := (World.ownsRow_lit (base := w.heap.size) (e := 21) (size := 1) w #[.int .i32 0] 1 (Nat.le_refl _) (by decide) rfl).alloc (.cells #[.slice (some ⟨w.heap.size, 0, none⟩) 1 1] 23)
    exact ⟨⟨w.heap.size, 1, x, by simpa using own⟩, ((Below.refl _ w).alloc (Nat.le_refl _) _).alloc (by simp) _, by simp⟩
  have hs0 : ((w.alloc (.cells #[.int .i32 0] 21)).alloc (.cells #[.slice (some ⟨w.heap.size, 0, none⟩) 1 1] 23)).heap.size = w.heap.size + 2 := by simp
  have HBW0 : Hid (Below w.heap.size w ((w.alloc (.cells #[.int .i32 0] 21)).alloc (.cells #[.slice (some ⟨w.heap.size, 0, none⟩) 1 1] 23))) := HH0.out.below
  clear hs0
  go_loopw [13] (fun iv wr => ∃ i : Nat, i ≤ vs.length ∧ iv = .int .i64 i ∧ Hid (Holds w wr (w.heap.size + 1) ((ls.take i).flatMap S.edgesOf))) (fun iv _ => vs.length - (intOf iv).toNat)
  case atStart => exact ⟨0, Nat.zero_le _, rfl, by simpa using HH0⟩
  case round =>
    obtain ⟨i, hi, rfl, HI⟩ := hrel
    by_cases hlt : i < vs.length
    · obtain rfl := hao (by intro h; rw [h] at hlt; simp at hlt)
      obtain ⟨v, hv⟩ : ∃ v, vs[i]? = some v := ⟨vs[i], by simp [hlt]⟩
      obtain ⟨l, hl'⟩ : ∃ l, ls[i]? = some l := ⟨ls[i]'(by rw [← HLen.out]; exact hlt), by simp [show i < ls.length by rw [← HLen.out]; exact hlt]⟩
      have c1 := HV.out i v hv
      have hbl := L.block_lt c1
      rw [← HI.out.below.cell (p := ⟨b, i, none⟩) hbl] at c1
      have R := HR.out i v l hv hl'
      have hlb := HSz.out l (List.mem_of_getElem? hl')
      have hbad := HBad.out l (List.mem_of_getElem? hl')
      have HBl : Hid (l.any S.bad = false) := hbad
      have HL : Hid (ls[i]? = some l) := hl'
      have hD : Hid (∀ d ∈ (ls.take i).flatMap S.edgesOf, 0 ≤ d) := fun d hd => by
        obtain ⟨m, hm, hd⟩ := List.mem_flatMap.1 hd
        exact S.edges_pos (HBad.out m (List.mem_of_mem_take hm)) d hd
      generalize hDD : (ls.take i).flatMap S.edgesOf = D at *
      have HD : Hid ((ls.take i).flatMap S.edgesOf = D) := hDD
      obtain ⟨ao, cap, rfl, hn, hc⟩ := R
      clear hv hl' hDD hn hbad
      go_wp2
      go_loopw [19] (fun jv wr2 => ∃ j : Nat, j ≤ l.length ∧ jv = .int .i64 j ∧ Hid (Holds w wr2 (w.heap.size + 1) (D ++ S.edgesOf (l.take j)))) (fun jv _ => l.length - (intOf jv).toNat)
      case atStart => exact ⟨0, Nat.zero_le _, rfl, by simpa [S.edgesOf] using HI⟩
      case round =>
        obtain ⟨j, hj, rfl, HJ⟩ := hrel
        by_cases hltj : j < l.length
        · obtain ⟨bb, off, rfl, hcell⟩ := hc (by intro h; subst h; simp at hltj)
          obtain ⟨x, hx⟩ : ∃ x, l[j]? = some x := ⟨l[j], by simp [hltj]⟩
          have c0 := hcell j x hx
          have hb := L.block_lt c0.1
          have d1 := c0.1
          have d2 := c0.2
          rw [← HJ.out.below.cell (p := ⟨bb, _, none⟩) hb] at d1 d2
          have hok := S.bad_false.1 (by simpa using (List.any_eq_false.1 HBl.out) x (List.mem_of_getElem? hx))
          have HT : Hid _ := edgesOf_take hx
          have hE : Hid (∀ d ∈ D ++ S.edgesOf (l.take j), 0 ≤ d) := fun d hd => by
            rcases List.mem_append.1 hd with hd | hd
            · exact hD.out d hd
            · refine S.edges_pos (l := l.take j) (List.any_eq_false.2 fun y hy => (List.any_eq_false.1 HBl.out) y (List.mem_of_mem_take hy)) d hd
          generalize hEE : D ++ S.edgesOf (l.take j) = E at *
          have HEE : Hid (D ++ S.edgesOf (l.take j) = E) := hEE
          have HJa : Hid (∀ o, Holds w (World.alloc _ o) (w.heap.size + 1) E) := fun o => HJ.out.alloc o
          have hlt3 := HJ.out.lt
          obtain ⟨x1, x2⟩ := x
          simp only at d1 d2 hok HT
          clear c0 hx hcell hEE
          have hp1 := put_holds (HJa.out (.cells #[.int .i32 x1, .int .i32 x2] 70)) (by omega) hE.out x1
          go_wp2_with fail
          refine hp1.mono ?_
          clear hp1
          rintro e w3 ⟨rfl, H3, G3⟩
          have HQ := S.boxed (wr := wr) (t := 70) (a := .int .i32 x1) (b := .int .i32 x2) (Below.refl _ _)
          have f2 := HQ.1.2
          have hlt4 := HQ.2.2.1
          have f3 := f2
          rw [← World.cell?_of_block (w' := w3) (G3.block _ hlt4 (by simp; omega))] at f3
          have HH3 : Hid (Holds w w3 (w.heap.size + 1) (E ++ [x1])) := H3
          clear HQ f2 H3 G3
          have hp2 := put_holds HH3.out (by omega) (fun d hd => by rcases List.mem_append.1 hd with hd | hd; exact hE.out d hd; simp at hd; omega) (x2 + 1)
          go_wp2_with fail
          refine hp2.mono ?_
          clear hp2
          rintro e w4 ⟨rfl, H4, G4⟩
          have HH4 : Hid (Holds w w4 (w.heap.size + 1) (E ++ [x1] ++ [x2 + 1])) := H4
          clear H4 G4
          go_wp2
          go_roundw
          case rel =>
            refine ⟨j + 1, by omega, by go_num, ?_⟩
            show Holds _ _ _ _
            rw [HT.out, ← List.append_assoc, ← List.append_assoc, HEE.out]
            exact HH4.out
          case measure => simp [intOf]; omega
        · have hje : l.take j = l := List.take_of_length_le (by omega)
          have HN : Hid (Holds w wr (w.heap.size + 1) ((ls.take (i + 1)).flatMap S.edgesOf)) := by
            have h := HJ.out
            rw [hje] at h
            show Holds _ _ _ _
            rw [edges_take HL.out, HD.out]
            exact h
          clear hje
          go_wp2
          go_roundw
          case rel => exact ⟨i + 1, by omega, by go_num, HN⟩
          case measure => simp [intOf]; omega
    · have hie : ls.take i = ls := List.take_of_length_le (by rw [← HLen.out]; omega)
      have h := HI.out
      rw [hie] at h
      obtain ⟨g, cap, x, own⟩ := h.box
      have cx := x.cell
      have HO : Hid _ := own
      have HBl : Hid (Below w.heap.size w wr) := h.below
      clear own x h hie
      go_wp2
      go_ret
      exact ⟨_, rfl, L.Rd.of_owns HO.out, HBl.out⟩

theorem edges_any (w : World) (b : Nat) (vs : List Value) (ls : List (List S.Sp)) (hlen : vs.length = ls.length) (hl : ls.length ≤ 3) (hv : ∀ (i : Nat) v, vs[i]? = some v → w.cell? ⟨b, i, none⟩ = some v)
    (hR : ∀ (i : Nat) v l, vs[i]? = some v → ls[i]? = some l → S.Rd w v l) (hb : ∀ l ∈ ls, l.any S.bad = false) (hsz : ∀ l ∈ ls, l.length ≤ 17592186043904) :
    Calls Try.prog 24 #[.slice (some ⟨b, 0, none⟩) vs.length vs.length] w fun e w' => ∃ v, e = .returned v ∧ L.Rd w' v .i32 (S.edgesF ls) ∧ Below w.heap.size w w' :=
  edges_all w _ _ b vs (fun _ => rfl) ls hlen (by omega) hv hR hb hsz

end Go.Proofs.Ytnalcmlhfmgfdaa
