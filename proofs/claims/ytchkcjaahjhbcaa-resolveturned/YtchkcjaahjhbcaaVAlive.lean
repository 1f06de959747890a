/-
  The closed fact of the statements of chapter 6 holds.
-/
import Derived.Test.YtchkcjaahjhbcaaVBack
namespace Go.Proofs.Ytchkcjaahjhbcaa
open Go.RowKit Go.Lib
set_option maxRecDepth 20000
set_option linter.unusedSimpArgs false
set_option linter.unusedVariables false

namespace V
def aItem (r : Int) : R.Item := ⟨1, r, [], ⟨#[]⟩⟩
def aSide (r : Int) : R.Side := ⟨false, false, [], [aItem r], [], -1⟩
def aPart : R.Part := ⟨2, ⟨#[]⟩, [], 3, aSide 97, aSide 98⟩
def aRule (r q : Int) : K.Rule := ⟨false, false, [], [[(r, r)]], [], [q], 1⟩
theorem aForth : forthF [aPart] = (⟨false, [], [⟨⟨#[]⟩, [aRule 97 98]⟩]⟩, 0, 0) := by kernel_rfl
theorem aBack : backF [aPart] = (⟨false, [], [⟨⟨#[]⟩, [aRule 98 97]⟩]⟩, 0, 0) := by kernel_rfl
theorem its_nil (w : World) : R.Its w (.slice none 0 0) [] := ⟨none, 0, rfl, fun h => absurd rfl h⟩
theorem its_one {w : World} {b : Nat} {r : Int} (h : w.heap[b]? = some (.cells #[.int .i64 1, .int .i32 r, .slice none 0 0, .string ⟨#[]⟩] 56)) : R.Its w (.slice (some ⟨b, 0, none⟩) 1 1) [aItem r] :=
  ⟨_, 1, rfl, fun _ => ⟨b, 0, rfl, fun j x hj => by
    match j, hj with
    | 0, hj => simp at hj; subst hj; exact ⟨K.at_box (i := 0) h rfl, K.at_box (i := 1) h rfl, K.at_box (i := 3) h rfl, ⟨none, 0, K.at_box (i := 2) h rfl, S.Rd.nil w⟩, fun y hy => (by cases hy), by show (⟨#[]⟩ : ByteArray).size ≤ _; decide⟩
    | j + 1, hj => simp at hj⟩⟩
theorem aSide_is {w : World} {b : Nat} {r : Int} (h : w.heap[b]? = some (.cells #[.int .i64 1, .int .i32 r, .slice none 0 0, .string ⟨#[]⟩] 56)) : R.SdIs w (.agg #[.bool false, .bool false, .slice none 0 0, .slice (some ⟨b, 0, none⟩) 1 1, .slice none 0 0, .int .i64 (-1)]) (aSide r) :=
  ⟨none, 0, some ⟨b, 0, none⟩, 1, none, 0, rfl, its_nil w, its_one h, its_nil w, by show (-9223372036854775808 : Int) ≤ -1; decide, by show (-1 : Int) ≤ 9223372036854775807; decide⟩
theorem aPts {w : World} {b b1 b2 : Nat} (h1 : w.heap[b1]? = some (.cells #[.int .i64 1, .int .i32 97, .slice none 0 0, .string ⟨#[]⟩] 56)) (h2 : w.heap[b2]? = some (.cells #[.int .i64 1, .int .i32 98, .slice none 0 0, .string ⟨#[]⟩] 56))
    (h : w.heap[b]? = some (.cells #[.int .i64 2, .string ⟨#[]⟩, .slice none 0 0, .int .i64 3, .bool false, .bool false, .slice none 0 0, .slice (some ⟨b1, 0, none⟩) 1 1, .slice none 0 0, .int .i64 (-1), .bool false, .bool false, .slice none 0 0, .slice (some ⟨b2, 0, none⟩) 1 1, .slice none 0 0, .int .i64 (-1)] 53)) :
    R.Pts w (.slice (some ⟨b, 0, none⟩) 1 1) [aPart] := by
  refine cells_pts (l := [aPart]) (cs := [[.int .i64 2, .string ⟨#[]⟩, .slice none 0 0, .int .i64 3, .bool false, .bool false, .slice none 0 0, .slice (some ⟨b1, 0, none⟩) 1 1, .slice none 0 0, .int .i64 (-1), .bool false, .bool false, .slice none 0 0, .slice (some ⟨b2, 0, none⟩) 1 1, .slice none 0 0, .int .i64 (-1)]]) ⟨rfl, fun c hc => ?_, fun j p c hp hc => ?_⟩ fun j c q u hc hu => ?_
  · rw [List.mem_singleton.1 hc]
    refine ⟨rfl, fun u hu => ?_⟩
    simp only [List.mem_cons, List.not_mem_nil, or_false] at hu
    rcases hu with rfl | rfl | rfl | rfl | rfl | rfl | rfl | rfl | rfl | rfl | rfl | rfl | rfl | rfl | rfl | rfl <;> rfl
  · match j, hp, hc with
    | 0, hp, hc =>
      simp at hp hc
      subst hp; subst hc
      exact ⟨none, 0, _, _, _, _, _, _, _, _, _, _, _, _, rfl, S.Rd.nil w, fun y hy => (by cases hy), aSide_is h1, aSide_is h2, by decide, by decide, by decide⟩
    | j + 1, hp, hc => simp at hp
  · match j, hc with
    | 0, hc =>
      simp at hc
      subst hc
      rw [Nat.zero_mul, Nat.zero_add]
      exact K.at_box h (by simpa using hu)
    | j + 1, hc => simp at hc
/-- the one rule of a script, its target -/
theorem aCells {w : World} {v : Value} {r q : Int} (h : ScIs w v ⟨false, [], [⟨⟨#[]⟩, [aRule r q]⟩]⟩) : ∃ oo oc pb po pc rb ro rc tb to' tc, v = .agg #[.bool false, .slice oo 0 oc, .slice (some ⟨pb, po, none⟩) 1 pc] ∧ w.cell? ⟨pb, po + 1, none⟩ = some (.slice (some ⟨rb, ro, none⟩) 1 rc) ∧ w.cell? ⟨rb, ro + 5, none⟩ = some (.slice (some ⟨tb, to', none⟩) 1 tc) ∧ w.cell? ⟨tb, to', none⟩ = some (.int .i32 q) := by
  obtain ⟨oo, oc, po, pc, rfl, _, _, pao, pcap, pe, _, hp⟩ := h
  obtain ⟨rfl, -, rfl⟩ := Value.slice.inj pe
  obtain ⟨pb, poff, rfl, hp2⟩ := hp (by simp)
  obtain ⟨_, _, ro, rc, hrc, rao, rcap, re, _, hr⟩ := hp2 0 ⟨⟨#[]⟩, [aRule r q]⟩ rfl
  obtain ⟨rfl, -, rfl⟩ := Value.slice.inj re
  obtain ⟨rb, roff, rfl, hr2⟩ := hr (by simp)
  obtain ⟨bo, bc, so, sc, ao, ac, to', tc, _, _, _, _, _, ht, _, hru⟩ := hr2 0 (aRule r q) rfl
  obtain ⟨_, _, _, _, _, _, to2, tc2, hru2, _, _, _, hT, _⟩ := hru
  have he := Value.agg.inj hru2
  simp only [Array.mk.injEq, List.cons.injEq, Value.slice.injEq, and_true, true_and] at he
  obtain ⟨tao, tcap, te, _, hT⟩ := hT
  obtain ⟨e1, -, e3⟩ := Value.slice.inj te
  obtain ⟨tb, toff, e4, hT2⟩ := hT (by simp [aRule])
  have h0 := hT2 0 q rfl
  have et : to' = some ⟨tb, toff, none⟩ := by
    rw [← e4, ← e1]
    simp_all
  subst et
  exact ⟨oo, oc, pb, poff, pc, rb, roff, rc, tb, toff, tc, rfl, by simpa using hrc, by simpa [aRule] using ht, by simpa using h0⟩
end V

set_option maxHeartbeats 400000 in
theorem aIt_any (w : World) (r : Int) : Calls Try.prog 44 #[.int .i32 r] w fun e w' => e = .returned (.slice (some ⟨w.heap.size, 0, none⟩) 1 1) ∧ w' = w.alloc (.cells #[.int .i64 1, .int .i32 r, .slice none 0 0, .string ⟨#[]⟩] 56) := by
  go_enter Try.func44, Try.ntmps44
  go_wp2
  go_ret
  exact ⟨rfl, rfl⟩

set_option maxHeartbeats 8000000 in
theorem vAlive_any (w : World) : Calls Try.prog 20 #[] w fun e w' => e = .returned (.bool true) ∧ Below w.heap.size w w' := by
  go_enter Try.func20, Try.ntmps20
  go_wp2_with fail
  refine (aIt_any w 97).mono ?_
  rintro e w1 ⟨rfl, hw1⟩
  have i1 : w1.heap[w.heap.size]? = some (.cells #[.int .i64 1, .int .i32 97, .slice none 0 0, .string ⟨#[]⟩] 56) := by rw [hw1]; exact heap_alloc_new w _
  have b1 : Below w.heap.size w w1 := by rw [hw1]; exact (Below.refl _ w).alloc (Nat.le_refl _) _
  have s1 : w.heap.size < w1.heap.size := by rw [hw1]; simp
  have H1 : Hid (w1.heap[w.heap.size]? = some (.cells #[.int .i64 1, .int .i32 97, .slice none 0 0, .string ⟨#[]⟩] 56) ∧ Below w.heap.size w w1) := ⟨i1, b1⟩
  clear hw1 i1 b1
  go_wp2_with fail
  refine (aIt_any w1 98).mono ?_
  rintro e w2 ⟨rfl, hw2⟩
  have i2 : w2.heap[w1.heap.size]? = some (.cells #[.int .i64 1, .int .i32 98, .slice none 0 0, .string ⟨#[]⟩] 56) := by rw [hw2]; exact heap_alloc_new w1 _
  have b2 : Below w1.heap.size w1 w2 := by rw [hw2]; exact (Below.refl _ w1).alloc (Nat.le_refl _) _
  have s2 : w1.heap.size < w2.heap.size := by rw [hw2]; simp
  have H2 : Hid (w2.heap[w1.heap.size]? = some (.cells #[.int .i64 1, .int .i32 98, .slice none 0 0, .string ⟨#[]⟩] 56) ∧ Below w1.heap.size w1 w2) := ⟨i2, b2⟩
  clear hw2 i2 b2
  obtain ⟨w3, hw3⟩ : ∃ w3, w3 = w2.alloc (.cells #[.int .i64 2, .string ⟨#[]⟩, .slice none 0 0, .int .i64 3, .bool false, .bool false, .slice none 0 0, .slice (some ⟨w.heap.size, 0, none⟩) 1 1, .slice none 0 0, .int .i64 (-1), .bool false, .bool false, .slice none 0 0, .slice (some ⟨w1.heap.size, 0, none⟩) 1 1, .slice none 0 0, .int .i64 (-1)] 53) := ⟨_, rfl⟩
  have b3 : Below w2.heap.size w2 w3 := by rw [hw3]; exact (Below.refl _ w2).alloc (Nat.le_refl _) _
  have s3 : w2.heap.size < w3.heap.size := by rw [hw3]; simp
  have hp3 : R.Pts w3 (.slice (some ⟨w2.heap.size, 0, none⟩) 1 1) [V.aPart] := V.aPts ((b3.block _ (by omega)).trans ((H2.out.2.block _ s1).trans H1.out.1)) ((b3.block _ s2).trans H2.out.1) (by rw [hw3]; exact heap_alloc_new w2 _)
  have hB3 : Below w.heap.size w w3 := (H1.out.2.trans (H2.out.2.mono (by omega))).trans (b3.mono (by omega))
  have hF := forth_any w3 _ _ hp3
  rw [V.aForth] at hF
  have HF : Hid (Calls Try.prog 16 #[.slice (some ⟨w2.heap.size, 0, none⟩) 1 1] w3 fun e w' => ∃ v', e = .returned (.tuple #[v', .agg #[.int .i64 0, .int .i64 0]]) ∧ V.ScIs w' v' ⟨false, [], [⟨⟨#[]⟩, [V.aRule 97 98]⟩]⟩ ∧ Below w3.heap.size w3 w') := hF
  have HP3 : Hid (R.Pts w3 (.slice (some ⟨w2.heap.size, 0, none⟩) 1 1) [V.aPart] ∧ Below w.heap.size w w3) := ⟨hp3, hB3⟩
  clear H1 H2 b3 hp3 hB3 hF
  go_wp2_with fail
  rw [← hw3]
  refine HF.out.mono ?_
  rintro e w4 ⟨v4, rfl, hv4, b4⟩
  obtain ⟨oo, oc, pb, po, pc, rb, ro, rc, tb, to', tc, rfl, x1, x2, x3⟩ := V.aCells hv4
  clear hw3 HF hv4
  have s4 := b4.size
  obtain ⟨w5, hw5⟩ : ∃ w5, w5 = (w4.alloc (.cells #[.bool false, .slice oo 0 oc, .slice (some ⟨pb, po, none⟩) 1 pc] 43)).alloc (.cells #[.int .i64 0, .int .i64 0] 26) := ⟨_, rfl⟩
  have hbx := K.two_boxes (w := w4) (o1 := .cells #[.bool false, .slice oo 0 oc, .slice (some ⟨pb, po, none⟩) 1 pc] 43) (o2 := .cells #[.int .i64 0, .int .i64 0] 26) (w1 := w5) (by rw [hw5]; exact Below.refl _ _)
  obtain ⟨y1, y2, y3, y4⟩ := hbx
  have hB5 : Below w.heap.size w w5 := (HP3.out.2.trans (b4.mono (by omega))).trans (y3.mono (by omega))
  have hb35 : Below w3.heap.size w3 w5 := b4.trans (y3.mono (by omega))
  have hk := back_any w5 _ _ (HP3.out.1.below hb35)
  rw [V.aBack] at hk
  have HK : Hid (Calls Try.prog 19 #[.slice (some ⟨w2.heap.size, 0, none⟩) 1 1] w5 fun e w' => ∃ v', e = .returned (.tuple #[v', .agg #[.int .i64 0, .int .i64 0]]) ∧ V.ScIs w' v' ⟨false, [], [⟨⟨#[]⟩, [V.aRule 98 97]⟩]⟩ ∧ Below w5.heap.size w5 w') := hk
  have HB5 : Hid (Below w.heap.size w w5) := hB5
  have l1 := L.block_lt x1
  have l2 := L.block_lt x2
  have l3 := L.block_lt x3
  have z1 := (y3.cell (p := ⟨pb, po + 1, none⟩) l1).trans x1
  have z2 := (y3.cell (p := ⟨rb, ro + 5, none⟩) l2).trans x2
  have z3 := (y3.cell (p := ⟨tb, to', none⟩) l3).trans x3
  have HZ : Hid (w5.heap[w4.heap.size]? = some (.cells #[.bool false, .slice oo 0 oc, .slice (some ⟨pb, po, none⟩) 1 pc] 43) ∧ w5.heap[w4.heap.size + 1]? = some (.cells #[.int .i64 0, .int .i64 0] 26) ∧ w5.cell? ⟨pb, po + 1, none⟩ = some (.slice (some ⟨rb, ro, none⟩) 1 rc) ∧ w5.cell? ⟨rb, ro + 5, none⟩ = some (.slice (some ⟨tb, to', none⟩) 1 tc) ∧ w5.cell? ⟨tb, to', none⟩ = some (.int .i32 98)) := ⟨y1, y2, z1, z2, z3⟩
  clear HP3 b4 x1 x2 x3 y1 y2 y3 z1 z2 z3 l1 l2 l3 hb35 hk hB5
  go_wp2_with fail
  rw [← hw5]
  refine HK.out.mono ?_
  rintro e w6 ⟨v6, rfl, hv6, b6⟩
  obtain ⟨oo2, oc2, pb2, po2, pc2, rb2, ro2, rc2, tb2, to2, tc2, rfl, x1, x2, x3⟩ := V.aCells hv6
  clear hw5 HK hv6
  obtain ⟨w7, hw7⟩ : ∃ w7, w7 = (w6.alloc (.cells #[.bool false, .slice oo2 0 oc2, .slice (some ⟨pb2, po2, none⟩) 1 pc2] 43)).alloc (.cells #[.int .i64 0, .int .i64 0] 26) := ⟨_, rfl⟩
  have hbx := K.two_boxes (w := w6) (o1 := .cells #[.bool false, .slice oo2 0 oc2, .slice (some ⟨pb2, po2, none⟩) 1 pc2] 43) (o2 := .cells #[.int .i64 0, .int .i64 0] 26) (w1 := w7) (by rw [hw7]; exact Below.refl _ _)
  obtain ⟨y1, y2, y3, y4⟩ := hbx
  have s6 := b6.size
  have HB7 : Hid (Below w.heap.size w w7) := (HB5.out.trans (b6.mono (by have := HB5.out.size; omega))).trans (y3.mono (by have := HB5.out.size; omega))
  have b57 : Below w5.heap.size w5 w7 := b6.trans (y3.mono (by omega))
  obtain ⟨q1, q2, q3, q4, q5⟩ := HZ.out
  have l1 := L.block_lt x1
  have l2 := L.block_lt x2
  have l3 := L.block_lt x3
  have z1 := (y3.cell (p := ⟨pb2, po2 + 1, none⟩) l1).trans x1
  have z2 := (y3.cell (p := ⟨rb2, ro2 + 5, none⟩) l2).trans x2
  have z3 := (y3.cell (p := ⟨tb2, to2, none⟩) l3).trans x3
  have m1 := (b57.block _ (by omega)).trans q1
  have m2 := (b57.block _ (by omega)).trans q2
  have m3 := (b57.cell (p := ⟨pb, po + 1, none⟩) (L.block_lt q3)).trans q3
  have m4 := (b57.cell (p := ⟨rb, ro + 5, none⟩) (L.block_lt q4)).trans q4
  have m5 := (b57.cell (p := ⟨tb, to', none⟩) (L.block_lt q5)).trans q5
  obtain ⟨r0, r1, r2, _, _, _⟩ := V.box3 m1
  obtain ⟨u0, u1, _, _⟩ := V.box2 m2
  obtain ⟨t0, t1, t2, _, _, _⟩ := V.box3 y1
  obtain ⟨v0, v1, _, _⟩ := V.box2 y2
  clear HZ HB5 b6 b57 x1 x2 x3 y1 y2 y3 l1 l2 l3 q1 q2 q3 q4 q5 m1 m2
  subst hw7
  go_wp2
  go_ret
  exact ⟨by simp, HB7.out⟩

end Go.Proofs.Ytchkcjaahjhbcaa
