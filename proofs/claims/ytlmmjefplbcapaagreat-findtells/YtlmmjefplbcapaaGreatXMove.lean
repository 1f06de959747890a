/-
  What Move of gap.Text does.
-/
import Derived.Test.YtlmmjefplbcapaaGreatXDel
import Derived.BigRegion
namespace Go.Proofs.YtlmmjefplbcapaaGreat
open Go.RowKit

attribute [local go_sem ↓] Go.wp_at_zero Go.wp_at_succ

namespace Gm
theorem splice_take {L cs : List Int} {off k : Nat} (hl : off ≤ L.length) (h : k ≤ off) : (splice L off cs).take k = L.take k := by
  unfold splice
  rw [List.take_append_of_le_length (by rw [List.length_take]; omega), List.take_take]
  congr 1; omega
theorem splice_drop {L cs : List Int} {off k : Nat} (hl : off ≤ L.length) (h : off + cs.length ≤ k) : (splice L off cs).drop k = L.drop k := by
  unfold splice
  rw [List.drop_append, List.drop_append, List.drop_drop, List.length_take, List.drop_eq_nil_of_le (by rw [List.length_take]; omega), List.drop_eq_nil_of_le (by omega)]
  simp only [List.nil_append]
  congr 1; omega
theorem splice_from {L cs : List Int} {off : Nat} (hl : off ≤ L.length) : (splice L off cs).drop off = cs ++ L.drop (off + cs.length) := by
  unfold splice
  rw [List.drop_append, List.length_take, List.drop_eq_nil_of_le (by rw [List.length_take]; omega), show off - min off L.length = 0 by omega]
  simp
theorem splice_to {L cs : List Int} {off : Nat} (hl : off ≤ L.length) : (splice L off cs).take (off + cs.length) = L.take off ++ cs := by
  unfold splice
  rw [List.take_append, List.length_take, List.take_of_length_le (by rw [List.length_take]; omega), show off + cs.length - min off L.length = cs.length by omega]
  simp

theorem below_drew {B : Gm.Bs} {w0 w : World} (b : Gm.Fr B w0 w) : Gm.Fr B w0 w.drew := b.drew
/-- copy into the array of a text, as a run -/
theorem copy_run (w : World) (B : Gm.Bs) (r : Nat) {cur : List Int} (hR : Room B w (some ⟨r, 0, none⟩) cur) (off : Nat) (zs : List Int) (ad : Addr) (sLen sCap dLen dCap : Nat) (hn : zs.length = Nat.min sLen dLen)
    (hc : ∀ j z, zs[j]? = some z → w.cell? (ad.add j) = some (.int .i32 z)) (hfit : off + zs.length ≤ cur.length) :
    ∃ W, (∀ ty, (Builtin.copy_ #[23, 23] ty #[.slice (some ⟨r, off, none⟩) dLen dCap, .slice (some ad) sLen sCap]).run Tryz.prog w.drew = .ok (goInt zs.length) W) ∧ Room B W (some ⟨r, 0, none⟩) (splice cur off zs) ∧ w.drew.grownBy W (some r) := by
  rcases hR with ⟨h, _⟩ | ⟨r', hr, hBr, hg⟩
  · cases h
  cases hr
  have hg' : w.drew.heap[r]? = some (.cells (cur.map (Value.int .i32)).toArray 21 (0, 0)) := hg
  have hrun := fun ty => run_copy_row (P := Tryz.prog) w.drew 23 23 ty 21 r off dLen dCap ad sLen sCap _ _ (zs.map (Value.int .i32)) Tryz.underlying23 Tryz.sizeI32 hg' (by simpa using hn) (fun j v hj => by
    rw [List.getElem?_map] at hj
    cases hz : zs[j]? with
    | none => rw [hz] at hj; simp at hj
    | some z => rw [hz] at hj; simp at hj; subst hj; exact hc j z hz) (by simpa using hfit) (fun v hv => by obtain ⟨z, _, rfl⟩ := List.mem_map.1 hv; rfl)
  obtain ⟨W, hW⟩ : ∃ W, W = w.drew.setRow r ((cur.map (Value.int .i32)).toArray.toList.take off ++ zs.map (Value.int .i32) ++ (cur.map (Value.int .i32)).toArray.toList.drop (off + zs.length)).toArray := ⟨_, rfl⟩
  refine ⟨W, fun ty => ?_, .inr ⟨r, rfl, hBr, ?_⟩, ?_⟩
  · have := hrun ty
    rw [List.length_map, ← hW] at this
    exact this
  · have := setRow_heap w.drew r _ ((cur.map (Value.int .i32)).toArray.toList.take off ++ zs.map (Value.int .i32) ++ (cur.map (Value.int .i32)).toArray.toList.drop (off + zs.length)).toArray _ _ hg'
    rw [← hW] at this
    simpa [splice, List.map_take, List.map_drop] using this
  · rw [hW]
    exact ⟨rfl, rfl, rfl, by simp [World.setRow], fun k _ hk => setRow_other _ r k _ (fun e => hk (by rw [e]))⟩
theorem told_cast {B : Gm.Bs} {g : Nat} {w W : World} {A Z : List Int} {x y : Int} (h : Told B g w A Z (W.setCell ⟨g, 1, none⟩ (.int .i64 y))) (e : x = y) : Told B g w A Z (W.setCell ⟨g, 1, none⟩ (.int .i64 x)) := e ▸ h
theorem Tx.stay {B : Gm.Bs} {g : Nat} {ao : Option Addr} {cur A Z : List Int} {w w2 : World} (h : Tx B g ao cur A Z w) (hX : Bx3 w2 g (.slice ao cur.length cur.length) (.int .i64 A.length) (.int .i64 (cur.length - Z.length : Nat))) (hR : Room B w2 ao cur) :
    Tx B g ao cur A Z (w2.setCell ⟨g, 1, none⟩ (.int .i64 A.length)) :=
  ⟨h.hB, hX.set1 _, hR.block fun r' hr => heap_setCell_other _ _ _ _ (h.ne r' hr), h.ne, h.fit, h.most, h.few, h.ahead, h.behind⟩
theorem keep3 {w w' : World} {g r : Nat} {v0 v1 v2 : Value} (h : Bx3 w g v0 v1 v2) (hg : w.drew.grownBy w' (some r)) (hne : r ≠ g) : (w'.cell? ⟨g, 0, none⟩ = some v0 ∧ w'.cell? ⟨g, 1, none⟩ = some v1) ∧ w'.cell? ⟨g, 2, none⟩ = some v2 :=
  have hb : Bx3 w' g v0 v1 v2 := h.block (hg.block g h.lt (fun e => hne (by cases e; rfl)))
  ⟨⟨hb.c0, hb.c1⟩, hb.c2⟩
theorem keep_set {w : World} {g i j : Nat} {u v : Value} (hij : i ≠ j) (h : w.cell? ⟨g, i, none⟩ = some u) : (w.setCell ⟨g, j, none⟩ v).drew.cell? ⟨g, i, none⟩ = some u :=
  (World.cell?_setCell_other (w := w) (a := ⟨g, j, none⟩) (b := ⟨g, i, none⟩) (v := v) (fun e => hij (by cases e; rfl))).trans h
end Gm

set_option maxHeartbeats 400000 in
theorem move_bad (w : World) (B : Gm.Bs) (g : Nat) (ao : Option Addr) (cur A Z : List Int) (h : Gm.Tx B g ao cur A Z w) (n : Int) (hn : n < 0 ∨ (A.length + Z.length : Int) < n) :
    Calls Tryz.prog 58 #[.pointer (some ⟨g, 0, none⟩), .int .i64 n] w fun e w' => e = .returned (.int .i64 3) ∧ Gm.Told B g w A Z w' := by
  have hf := h.fit
  have hm := h.most
  have hw := h.few
  have H : Hid _ := h
  clear h
  by_cases h0 : n < 0
  · go_enter Tryz.func58, Tryz.ntmps58
    go_wp2
    go_ret
    exact ⟨rfl, H.out.same 0⟩
  · have h1 : (A.length + Z.length : Int) < n := by omega
    go_enter Tryz.func58, Tryz.ntmps58
    go_wp2_with (go_at_call 49; refine (len_any _ g ao _ _ _ H.out.box hm (by omega) (by omega)).mono ?_; rintro e w' ⟨rfl, q, rfl⟩; rw [show (A.length + (cur.length - (cur.length - Z.length))) = A.length + Z.length by omega])
    go_ret
    exact ⟨rfl, H.out.same q⟩

namespace Gm
/-- the text behind a move to the left, of its parts -/
theorem Tx.left {B : Gm.Bs} {g r : Nat} {cur A Z : List Int} {w w2 : World} {k T : Nat} (h : Tx B g (some ⟨r, 0, none⟩) cur A Z w) (hk : k < A.length) (hT : T + A.length + Z.length = cur.length + k)
    (hR : Room B w2 (some ⟨r, 0, none⟩) (splice cur T (A.drop k))) (hX : Bx3 w2 g (.slice (some ⟨r, 0, none⟩) cur.length cur.length) (.int .i64 A.length) (.int .i64 T)) :
    Tx B g (some ⟨r, 0, none⟩) (splice cur T (A.drop k)) (A.take k) (A.drop k ++ Z) (w2.setCell ⟨g, 1, none⟩ (.int .i64 k)) := by
  have hf := h.fit
  have hm := h.most
  have hw := h.few
  have hd : (A.drop k).length = A.length - k := by simp
  have ht : (A.take k).length = k := by rw [List.length_take]; omega
  have hl : (splice cur T (A.drop k)).length = cur.length := length_splice _ _ _ (by omega)
  have hz : cur.length - (A.drop k ++ Z).length = T := by rw [List.length_append, hd]; omega
  refine ⟨h.hB, ?_, hR.block fun r' hr => heap_setCell_other _ _ _ _ (h.ne r' hr), h.ne, by rw [hl, ht, List.length_append]; omega, by omega, by rw [ht, List.length_append]; omega, ?_, ?_⟩
  · rw [hl, ht, hz]; exact hX.set1 _
  · rw [ht, splice_take (by omega) (by omega)]
    have := congrArg (List.take k) h.ahead
    rw [List.take_take] at this
    rw [this]; congr 1; omega
  · rw [hl, hz, splice_from (by omega), hd]
    congr 1
    have := h.behind
    rw [this]
    have e : (cur.drop (cur.length - Z.length)).length = Z.length := by rw [← this]
    rw [show T + (A.length - k) = cur.length - Z.length by omega]
end Gm

set_option maxHeartbeats 4000000 in
theorem move_left (w : World) (B : Gm.Bs) (g r : Nat) (cur A Z : List Int) (h : Gm.Tx B g (some ⟨r, 0, none⟩) cur A Z w) (k : Nat) (hk : k < A.length) :
    Calls Tryz.prog 58 #[.pointer (some ⟨g, 0, none⟩), .int .i64 k] w fun e w' => e = .returned (.int .i64 0) ∧ Gm.Told B g w (A.take k) (A.drop k ++ Z) w' := by
  have hf := h.fit
  have hm := h.most
  have hw := h.few
  have H : Hid _ := h
  obtain ⟨T, hT⟩ : ∃ T : Nat, T = cur.length - Z.length - (A.length - k) := ⟨_, rfl⟩
  have e1 : IntKind.i64.wrap (↑A.length - ↑k) = ↑A.length - ↑k := by rw [IntKind.wrap_i64]; omega
  have e2 : IntKind.i64.wrap (↑(cur.length - Z.length) - (↑A.length - ↑k)) = (T : Int) := by rw [IntKind.wrap_i64]; omega
  have HT : Hid (T + A.length + Z.length = cur.length + k) := by show _ = _; omega
  have hT1 : T < cur.length := by omega
  have hT2 : (0 : Int) ≤ T := by omega
  have hT3 : (T : Int) ≤ cur.length := by omega
  have hT4 : ¬ cur.length = T := by omega
  have hk1 : ¬ cur.length = k := by omega
  have hk2 : (0 : Int) ≤ k := by omega
  have hk3 : (k : Int) ≤ A.length := by omega
  have hk4 : (A.length : Int) ≤ cur.length := by omega
  clear h hT
  go_enter Tryz.func58, Tryz.ntmps58
  go_wp2_with (go_at_call 49; refine (len_any _ g _ _ _ _ H.out.box hm (by omega) (by omega)).mono ?_; rintro e w' ⟨rfl, q, rfl⟩; rw [show (A.length + (cur.length - (cur.length - Z.length))) = A.length + Z.length by omega]; have X := H.out.drew q; have c0 := X.box.c0; have c1 := X.box.c1; have c2 := X.box.c2; have f2 := X.box.free 2; have f1 := X.box.free 1; have HX : Hid _ := X; clear X; have HB : Hid (Gm.Fr B w (w.drewN q)) := (Gm.Fr.drewN (Gm.Fr.refl _ _) _); generalize w.drewN q = w1 at *)
  obtain ⟨W2, hW2⟩ : ∃ W2, W2 = (w1.setCell ⟨g, 2, none⟩ (.int .i64 T)).drew := ⟨_, rfl⟩
  have X2 : Gm.Bx3 W2 g (.slice (some ⟨r, 0, none⟩) cur.length cur.length) (.int .i64 A.length) (.int .i64 T) := by rw [hW2]; exact HX.out.box.set2 _
  have HR2 : Hid (Gm.Room B W2 (some ⟨r, 0, none⟩) cur) := by rw [hW2]; exact HX.out.room.block fun r' hr => heap_setCell_other _ _ _ _ (HX.out.ne r' hr)
  have HB2 : Hid (Gm.Fr B w W2) := by rw [hW2]; exact Gm.below_drew (Gm.below_set HB.out HX.out.hB _)
  have HW2 : Hid (W2 = (w1.setCell ⟨g, 2, none⟩ (.int .i64 T)).drew) := hW2
  clear hW2
  go_region
  rw [← HW2.out]
  have d0 := X2.c0
  have d1 := X2.c1
  have d2 := X2.c2
  have g1 := X2.free 1
  have HX2 : Hid (Gm.Bx3 W2 g (.slice (some ⟨r, 0, none⟩) cur.length cur.length) (.int .i64 A.length) (.int .i64 T)) := X2
  have hne : r ≠ g := HX.out.ne r rfl
  have hlA : (A.drop k).length = A.length - k := by simp
  have HG : Hid (∀ j z, (A.drop k)[j]? = some z → W2.cell? ⟨r, k + j, none⟩ = some (.int .i32 z)) := fun j z hj => by
    refine HR2.out.cell rfl ?_
    rw [List.getElem?_drop] at hj
    have h1 := (List.getElem?_eq_some_iff.1 hj).1
    have h2 : A[k + j]? = (cur.take A.length)[k + j]? := congrArg (fun l => l[k + j]?) HX.out.ahead
    rw [h2, List.getElem?_take] at hj
    simpa [h1] using hj
  have HN : Hid ((A.drop k).length = Nat.min (A.length - k) (cur.length - T)) := by show _ = min _ _; have := HT.out; omega
  have HF : Hid (T + (A.drop k).length ≤ cur.length) := by show _ ≤ _; have := HT.out; omega
  clear HW2 c0 c1 c2 f2 f1 X2 hlA
  go_wp2
  go_region_held3 (fun w' => (w'.cell? ⟨g, 0, none⟩ = some (.slice (some ⟨r, 0, none⟩) cur.length cur.length) ∧ w'.cell? ⟨g, 1, none⟩ = some (.int .i64 A.length)) ∧ w'.cell? ⟨g, 2, none⟩ = some (.int .i64 T)) (first | exact Gm.keep3 HX2.out hg3 hne | go_keep) ((refine Gm.step_copy_room (by rfl) (.tmp 40) (.tmp 50) 23 23 (by rfl) 21 Tryz.underlying23 Tryz.sizeI32 _ _ _ _ _ _ (by rfl) (by rfl) B (some ⟨r, 0, none⟩) cur (HR2.out.block fun _ _ => rfl) T (A.drop k) HN.out (fun _ r' hr' => by cases hr'; exact ⟨rfl, r, k, rfl, fun j z hj => HG.out j z hj⟩) HF.out ?_; intro w3 hR3 hg3))
  have X3 : Gm.Bx3 w3 g (.slice (some ⟨r, 0, none⟩) cur.length cur.length) (.int .i64 A.length) (.int .i64 T) := HX2.out.block (hg3.block g HX2.out.lt (fun e => hne (by cases e; rfl)))
  have HB3 : Hid (Gm.Fr B w w3) := HB2.out.drew.grown hg3 (by have := HX2.out.lt; have := HX.out.hB.1; show B.b ≤ W2.heap.size; omega) fun j e => by cases e; exact (HR2.out.lt r rfl).1
  have HX3 : Hid (Gm.Bx3 w3 g (.slice (some ⟨r, 0, none⟩) cur.length cur.length) (.int .i64 A.length) (.int .i64 T)) := X3
  have HR3 : Hid (Gm.Room B w3 (some ⟨r, 0, none⟩) (splice cur T (A.drop k))) := hR3
  have g1' := X3.free 1
  have d1' := X3.c1
  clear X3 hR3 hg3 d0 d1 d2 g1
  go_wp2
  go_ret
  exact ⟨rfl, (HX.out.left hk HT.out HR3.out HX3.out).told (Gm.below_set HB3.out HX.out.hB _)⟩

namespace Gm
/-- the text behind a move to the right, of its parts -/
theorem Tx.right {B : Gm.Bs} {g : Nat} {ao : Option Addr} {cur A Z : List Int} {w w2 : World} {k m : Nat} (h : Tx B g ao cur A Z w) (hk : k = A.length + m) (hm : m ≤ Z.length)
    (hR : Room B w2 ao (splice cur A.length (Z.take m))) (hX : Bx3 w2 g (.slice ao cur.length cur.length) (.int .i64 A.length) (.int .i64 (cur.length - Z.length + m : Nat))) :
    Tx B g ao (splice cur A.length (Z.take m)) (A ++ Z.take m) (Z.drop m) (w2.setCell ⟨g, 1, none⟩ (.int .i64 k)) := by
  have hf := h.fit
  have hmo := h.most
  have hw := h.few
  have ht : (Z.take m).length = m := by rw [List.length_take]; omega
  have hd : (Z.drop m).length = Z.length - m := by simp
  have hl : (splice cur A.length (Z.take m)).length = cur.length := length_splice _ _ _ (by omega)
  have ha : (A ++ Z.take m).length = k := by rw [List.length_append, ht]; omega
  have hz : cur.length - (Z.drop m).length = cur.length - Z.length + m := by omega
  refine ⟨h.hB, ?_, hR.block fun r' hr => heap_setCell_other _ _ _ _ (h.ne r' hr), h.ne, by omega, by omega, by omega, ?_, ?_⟩
  · rw [hl, ha, hz]; exact hX.set1 _
  · have e := splice_to (L := cur) (cs := Z.take m) (off := A.length) (by omega)
    rw [ht, ← hk] at e
    rw [ha, e, ← h.ahead]
  · rw [hl, hz, splice_drop (by omega) (by omega), ← List.drop_drop]
    exact congrArg (List.drop m) h.behind
end Gm

/-- the cursor goes nowhere -/
theorem copy0 (dp sp : Option Addr) (c1 sl c2 : Nat) (ty : TypeId) (w : World) : (Builtin.copy_ #[23, 23] ty #[.slice dp 0 c1, .slice sp sl c2]).run Tryz.prog w = .ok (goInt 0) w :=
  run_copy_none w _ _ _ 21 _ _ _ _ _ _ Tryz.underlying23 Tryz.sizeI32 (by simp)

set_option maxHeartbeats 4000000 in
theorem move_stay (w : World) (B : Gm.Bs) (g : Nat) (ao : Option Addr) (cur A Z : List Int) (h : Gm.Tx B g ao cur A Z w) :
    Calls Tryz.prog 58 #[.pointer (some ⟨g, 0, none⟩), .int .i64 A.length] w fun e w' => e = .returned (.int .i64 0) ∧ Gm.Told B g w A Z w' := by
  have hf := h.fit
  have hm := h.most
  have hw := h.few
  have H : Hid (Gm.Tx B g ao cur A Z w) := h
  obtain ⟨T, hT⟩ : ∃ T : Nat, T = cur.length - Z.length := ⟨_, rfl⟩
  have HT : Hid (T = cur.length - Z.length) := hT
  have e2 : IntKind.i64.wrap (T : Int) = (T : Int) := by rw [IntKind.wrap_i64]; omega
  have hT2 : (0 : Int) ≤ T := by omega
  have hT3 : (T : Int) ≤ cur.length := by omega
  have hA2 : (0 : Int) ≤ A.length := by omega
  have hk4 : (A.length : Int) ≤ cur.length := by omega
  have hk5 : ¬ (A.length + Z.length : Int) < A.length := by omega
  have HL : Hid (A.length + (cur.length - (cur.length - Z.length)) = A.length + Z.length) := by show _ = _; omega
  have hcopy := copy0
  clear h hT
  go_enter Tryz.func58, Tryz.ntmps58
  go_wp2_with (go_at_call 49; refine (len_any _ g ao _ _ _ H.out.box hm (by omega) (by omega)).mono ?_; rintro e w' ⟨rfl, q, rfl⟩; rw [HL.out]; have X := H.out.drew q; have c0 := X.box.c0; have c1 := X.box.c1; have c2 := X.box.c2; have f2 := X.box.free 2; have f1 := X.box.free 1; rw [← HT.out] at c2; have HX : Hid (Gm.Tx B g ao cur A Z (w.drewN q)) := X; clear X; have HB : Hid (Gm.Fr B w (w.drewN q)) := (Gm.Fr.drewN (Gm.Fr.refl _ _) _); generalize w.drewN q = w1 at *)
  obtain ⟨W2, hW2⟩ : ∃ W2, W2 = (w1.setCell ⟨g, 2, none⟩ (.int .i64 T)).drew := ⟨_, rfl⟩
  have X2 : Gm.Bx3 W2 g (.slice ao cur.length cur.length) (.int .i64 A.length) (.int .i64 T) := by rw [hW2]; exact HX.out.box.set2 _
  have HX2 : Hid (Gm.Bx3 W2 g (.slice ao cur.length cur.length) (.int .i64 A.length) (.int .i64 T)) := X2
  have HR2 : Hid (Gm.Room B W2 ao cur) := by rw [hW2]; exact HX.out.room.block fun r' hr => heap_setCell_other _ _ _ _ (HX.out.ne r' hr)
  have HB2 : Hid (Gm.Fr B w W2) := by rw [hW2]; exact (Gm.below_set HB.out HX.out.hB _).drew
  have HW2 : Hid (W2 = (w1.setCell ⟨g, 2, none⟩ (.int .i64 T)).drew) := hW2
  clear hW2
  go_region
  rw [← HW2.out]
  have d1 := X2.c1
  have g1 := X2.free 1
  clear HW2 c0 c1 c2 f2 f1 X2
  have HE : Hid (Gm.Told B g w A Z (W2.setCell ⟨g, 1, none⟩ (.int .i64 A.length))) := (HX.out.stay (by have := HX2.out; rw [HT.out] at this; exact this) HR2.out).told (Gm.below_set HB2.out HX.out.hB _)
  go_wp2
  all_goals
    go_ret
    exact ⟨rfl, Gm.told_cast HE.out (by omega)⟩

set_option maxHeartbeats 8000000 in
theorem move_right (w : World) (B : Gm.Bs) (g r : Nat) (cur A Z : List Int) (h : Gm.Tx B g (some ⟨r, 0, none⟩) cur A Z w) (k m : Nat) (hk : k = A.length + m) (hmz : m ≤ Z.length) (hm0 : 0 < m) :
    Calls Tryz.prog 58 #[.pointer (some ⟨g, 0, none⟩), .int .i64 k] w fun e w' => e = .returned (.int .i64 0) ∧ Gm.Told B g w (A ++ Z.take m) (Z.drop m) w' := by
  have hf := h.fit
  have hm := h.most
  have hw := h.few
  have H : Hid (Gm.Tx B g (some ⟨r, 0, none⟩) cur A Z w) := h
  obtain ⟨T, hT⟩ : ∃ T : Nat, T = cur.length - Z.length := ⟨_, rfl⟩
  have HT : Hid (T = cur.length - Z.length) := hT
  have HK : Hid (k = A.length + m) := hk
  obtain ⟨T', hT'⟩ : ∃ T' : Nat, T' = T + m := ⟨_, rfl⟩
  have HT' : Hid (T' = T + m) := hT'
  have e2 : IntKind.i64.wrap (↑T + ↑m) = (T' : Int) := by rw [IntKind.wrap_i64]; omega
  have hT2 : (0 : Int) ≤ T := by omega
  have hT3 : (T : Int) ≤ cur.length := by omega
  have hT4 : ¬ cur.length = T := by omega
  have hA2 : (0 : Int) ≤ A.length := by omega
  have hA4 : ¬ cur.length = A.length := by omega
  have hk2 : (0 : Int) ≤ k := by omega
  have hk3 : (A.length : Int) ≤ k := by omega
  have hk4 : (k : Int) ≤ cur.length := by omega
  have hk5 : ¬ (A.length + Z.length : Int) < k := by omega
  have hk6 : ¬ (k : Int) < A.length := by omega
  have HL : Hid (A.length + (cur.length - (cur.length - Z.length)) = A.length + Z.length) := by show _ = _; omega
  have hne : r ≠ g := h.ne r rfl
  have HT5 : Hid ((Z.take m).length = m ∧ m = Nat.min (cur.length - T) (k - A.length) ∧ A.length + m ≤ cur.length) := by
    refine ⟨?_, ?_, by omega⟩
    · rw [List.length_take]; omega
    · show _ = min _ _; omega
  clear h hT hk hT'
  go_enter Tryz.func58, Tryz.ntmps58
  go_wp2_with (go_at_call 49; refine (len_any _ g _ _ _ _ H.out.box hm (by omega) (by omega)).mono ?_; rintro e w' ⟨rfl, q, rfl⟩; rw [HL.out]; have X := H.out.drew q; have c0 := X.box.c0; have c1 := X.box.c1; have c2 := X.box.c2; have f2 := X.box.free 2; have f1 := X.box.free 1; rw [← HT.out] at c2; have HX : Hid (Gm.Tx B g (some ⟨r, 0, none⟩) cur A Z (w.drewN q)) := X; clear X; have HB : Hid (Gm.Fr B w (w.drewN q)) := (Gm.Fr.drewN (Gm.Fr.refl _ _) _); generalize w.drewN q = w1 at *)
  have HG : ∀ j z, (Z.take m)[j]? = some z → w1.cell? ⟨r, T + j, none⟩ = some (.int .i32 z) := fun j z hj => by
    refine HX.out.room.cell rfl ?_
    rw [List.getElem?_take] at hj
    split at hj
    · have h2 : Z[j]? = (cur.drop (cur.length - Z.length))[j]? := congrArg (fun l => l[j]?) HX.out.behind
      rw [h2, List.getElem?_drop, ← HT.out] at hj
      exact hj
    · cases hj
  obtain ⟨W3, hcopy, hR3, hg3⟩ := Gm.copy_run w1 B r (HX.out.room) A.length (Z.take m) ⟨r, T, none⟩ (cur.length - T) (cur.length - T) (k - A.length) (cur.length - A.length) (by rw [HT5.out.1]; exact HT5.out.2.1) (fun j z hj => by rw [L.addr_add]; exact HG j z hj) (by rw [HT5.out.1]; exact HT5.out.2.2)
  rw [HT5.out.1] at hcopy
  have X3 : Gm.Bx3 W3 g (.slice (some ⟨r, 0, none⟩) cur.length cur.length) (.int .i64 A.length) (.int .i64 (cur.length - Z.length : Nat)) := HX.out.box.block (hg3.block g HX.out.box.lt (fun e => hne (by cases e; rfl)))
  have HB3 : Hid (Gm.Fr B w W3) := HB.out.drew.grown hg3 (by have := HX.out.box.lt; have := HX.out.hB.1; show B.b ≤ w1.heap.size; omega) fun j e => by cases e; exact (HX.out.room.lt r rfl).1
  have HR3 : Hid (Gm.Room B W3 (some ⟨r, 0, none⟩) (splice cur A.length (Z.take m))) := hR3
  have d0 := X3.c0
  have d1 := X3.c1
  have d2 := X3.c2
  have h2 := X3.free 2
  rw [← HT.out] at d2
  obtain ⟨W2, hW2⟩ : ∃ W2, W2 = (W3.setCell ⟨g, 2, none⟩ (.int .i64 T')) := ⟨_, rfl⟩
  have X2 : Gm.Bx3 W2 g (.slice (some ⟨r, 0, none⟩) cur.length cur.length) (.int .i64 A.length) (.int .i64 T') := by rw [hW2]; exact X3.set2 _
  have HX2 : Hid (Gm.Bx3 W2 g (.slice (some ⟨r, 0, none⟩) cur.length cur.length) (.int .i64 A.length) (.int .i64 T')) := X2
  have HR2 : Hid (Gm.Room B W2 (some ⟨r, 0, none⟩) (splice cur A.length (Z.take m))) := by rw [hW2]; exact HR3.out.block fun r' hr => heap_setCell_other _ _ _ _ (HX.out.ne r' hr)
  have HB2 : Hid (Gm.Fr B w W2) := by rw [hW2]; exact (Gm.below_set HB3.out HX.out.hB _)
  have HW2 : Hid (W2 = (W3.setCell ⟨g, 2, none⟩ (.int .i64 T'))) := hW2
  clear hW2 X3 hR3 hg3 HG
  go_region
  rw [← HW2.out]
  have k1 := X2.c1
  have g1 := X2.free 1
  clear HW2 c0 c1 c2 f2 f1 X2 d0 d1 d2 h2 hcopy
  go_wp2
  go_ret
  exact ⟨rfl, (HX.out.right HK.out hmz HR2.out (by have := HX2.out; rw [HT'.out, HT.out] at this; exact this)).told (Gm.below_set HB2.out HX.out.hB _)⟩

end Go.Proofs.YtlmmjefplbcapaaGreat
