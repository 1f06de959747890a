/-
  A text with a gap, as it lies in memory.
-/
import Derived.Test.YtlmmjefplbcapaaGreatGMath
import Derived.Test.YtlmmjefplbcapaaGreatKI32
import Derived.Test.YtlmmjefplbcapaaGreatSFrame
import Derived.Test.YtlmmjefplbcapaaGreatRows
import Derived.Laws.CopyOwn
import Derived.Deep.QuietTactic
import Derived.BigQuiet
import Derived.Deep.RegionHeld3
import Derived.Deep.DrawnRows
namespace Go.Proofs.YtlmmjefplbcapaaGreat
theorem Tryz.sizeI32 : (Tryz.prog.info? 21).map (·.size) = some 1 := by kernel_rfl
end Go.Proofs.YtlmmjefplbcapaaGreat
namespace Go.Proofs.YtlmmjefplbcapaaGreat.Gm
open Go.RowKit

/-- what stays: all below b, and the blocks m -/
structure Bs where
  b : Nat
  m : List Nat
def Bs.ok (B : Bs) (k : Nat) : Prop := B.b ≤ k ∧ k ∉ B.m
def Fr (B : Bs) (w w' : World) : Prop := Below B.b w w' ∧ (∀ j ∈ B.m, j < w.heap.size → w'.heap[j]? = w.heap[j]?)
theorem Fr.refl (B : Bs) (w : World) : Fr B w w := ⟨Below.refl _ _, fun _ _ _ => rfl⟩
theorem Fr.trans {B : Bs} {w w1 w2 : World} (h : Fr B w w1) (h' : Fr B w1 w2) : Fr B w w2 := ⟨h.1.trans h'.1, fun j hj hm => (h'.2 j hj (by have := h.1.size; omega)).trans (h.2 j hj hm)⟩
theorem Fr.drew {B : Bs} {w w1 : World} (h : Fr B w w1) : Fr B w w1.drew := ⟨h.1.drew, h.2⟩
theorem Fr.drewN {B : Bs} {w w1 : World} (h : Fr B w w1) (q : Nat) : Fr B w (w1.drewN q) := ⟨below_drewN h.1 q, h.2⟩
theorem Fr.setCell {B : Bs} {w w1 : World} {p : Addr} (h : Fr B w w1) (hB : B.ok p.block) (v : Value) : Fr B w (w1.setCell p v) := ⟨h.1.setCell hB.1 v, fun j hj hm => (heap_setCell_other w1 p j v (fun e => hB.2 (e ▸ hj))).trans (h.2 j hj hm)⟩
theorem Fr.of_below {B : Bs} {w w1 : World} (h : Below w.heap.size w w1) (hb : B.b ≤ w.heap.size) : Fr B w w1 := ⟨h.mono hb, fun _ _ hm => h.block _ hm⟩
theorem Fr.grown {B : Bs} {w w1 w2 : World} {r : Option Nat} (h : Fr B w w1) (hg : w1.grownBy w2 r) (hs : B.b ≤ w1.heap.size) (hr : ∀ k, r = some k → B.ok k) : Fr B w w2 :=
  ⟨h.1.grown hg hs fun k hk => (hr k hk).1, fun j hj hm => (hg.block j (by have := h.1.size; omega) (fun e => (hr j e.symm).2 hj)).trans (h.2 j hj hm)⟩
theorem Fr.size {B : Bs} {w w1 : World} (h : Fr B w w1) : w.heap.size ≤ w1.heap.size := h.1.size
theorem Fr.below {B : Bs} {w w1 : World} (h : Fr B w w1) : Below B.b w w1 := h.1

/-- the array of a text: none, or a block that holds just these runes -/
def Room (B : Gm.Bs) (w : World) (ao : Option Addr) (cur : List Int) : Prop :=
  (ao = none ∧ cur = []) ∨ ∃ r, ao = some ⟨r, 0, none⟩ ∧ B.ok r ∧ w.heap[r]? = some (.cells (cur.map (Value.int .i32)).toArray 21 (0, 0))

/-- three cells -/
def Bx3 (w : World) (g : Nat) (v0 v1 v2 : Value) : Prop := w.heap[g]? = some (.cells #[v0, v1, v2] 101 (0, 0))

theorem Bx3.c0 {w : World} {g : Nat} {v0 v1 v2 : Value} (h : Bx3 w g v0 v1 v2) : w.cell? ⟨g, 0, none⟩ = some v0 := by simp [World.cell?, Bx3] at h ⊢; rw [h]; rfl
theorem Bx3.c1 {w : World} {g : Nat} {v0 v1 v2 : Value} (h : Bx3 w g v0 v1 v2) : w.cell? ⟨g, 1, none⟩ = some v1 := by simp [World.cell?, Bx3] at h ⊢; rw [h]; rfl
theorem Bx3.c2 {w : World} {g : Nat} {v0 v1 v2 : Value} (h : Bx3 w g v0 v1 v2) : w.cell? ⟨g, 2, none⟩ = some v2 := by simp [World.cell?, Bx3] at h ⊢; rw [h]; rfl
theorem Bx3.free {w : World} {g : Nat} {v0 v1 v2 : Value} (h : Bx3 w g v0 v1 v2) (i : Nat) : w.frozen? ⟨g, i, none⟩ = false := frozen_of_row w g i _ _ h
theorem Bx3.set0 {w : World} {g : Nat} {v0 v1 v2 : Value} (h : Bx3 w g v0 v1 v2) (u : Value) : Bx3 (w.setCell ⟨g, 0, none⟩ u) g u v1 v2 := heap_setCell_same w g 0 _ _ u h
theorem Bx3.set1 {w : World} {g : Nat} {v0 v1 v2 : Value} (h : Bx3 w g v0 v1 v2) (u : Value) : Bx3 (w.setCell ⟨g, 1, none⟩ u) g v0 u v2 := heap_setCell_same w g 1 _ _ u h
theorem Bx3.set2 {w : World} {g : Nat} {v0 v1 v2 : Value} (h : Bx3 w g v0 v1 v2) (u : Value) : Bx3 (w.setCell ⟨g, 2, none⟩ u) g v0 v1 u := heap_setCell_same w g 2 _ _ u h
theorem Bx3.block {w w' : World} {g : Nat} {v0 v1 v2 : Value} (h : Bx3 w g v0 v1 v2) (e : w'.heap[g]? = w.heap[g]?) : Bx3 w' g v0 v1 v2 := e.trans h
theorem Bx3.lt {w : World} {g : Nat} {v0 v1 v2 : Value} (h : Bx3 w g v0 v1 v2) : g < w.heap.size := lt_of_block h

/-- a text: what is ahead of its cursor, what is behind it -/
structure Tx (B : Gm.Bs) (g : Nat) (ao : Option Addr) (cur A Z : List Int) (w : World) : Prop where
  hB : B.ok g
  box : Bx3 w g (.slice ao cur.length cur.length) (.int .i64 A.length) (.int .i64 (cur.length - Z.length : Nat))
  room : Room B w ao cur
  ne : ∀ r, ao = some ⟨r, 0, none⟩ → r ≠ g
  fit : A.length + Z.length ≤ cur.length
  most : cur.length ≤ 8000
  few : A.length + Z.length ≤ 4000
  ahead : A = cur.take A.length
  behind : Z = cur.drop (cur.length - Z.length)

theorem Room.block {B : Gm.Bs} {w w' : World} {ao : Option Addr} {cur : List Int} (h : Room B w ao cur) (e : ∀ r, ao = some ⟨r, 0, none⟩ → w'.heap[r]? = w.heap[r]?) : Room B w' ao cur := by
  rcases h with h | ⟨r, h1, h2, h3⟩
  · exact .inl h
  · exact .inr ⟨r, h1, h2, (e r h1).trans h3⟩
theorem Room.lt {B : Gm.Bs} {w : World} {ao : Option Addr} {cur : List Int} (h : Room B w ao cur) (r : Nat) (e : ao = some ⟨r, 0, none⟩) : B.ok r ∧ r < w.heap.size := by
  rcases h with h | ⟨r', h1, h2, h3⟩
  · rw [h.1] at e; cases e
  · rw [h1] at e; cases e; exact ⟨h2, lt_of_block h3⟩
theorem Room.cell {B : Gm.Bs} {w : World} {ao : Option Addr} {cur : List Int} (h : Room B w ao cur) {r j : Nat} {z : Int} (e : ao = some ⟨r, 0, none⟩) (hj : cur[j]? = some z) : w.cell? ⟨r, j, none⟩ = some (.int .i32 z) := by
  rcases h with h | ⟨r', h1, h2, h3⟩
  · rw [h.1] at e; cases e
  · rw [h1] at e; cases e
    simp [World.cell?, h3, hj]
theorem Room.some {B : Gm.Bs} {w : World} {ao : Option Addr} {cur : List Int} (h : Room B w ao cur) (h0 : 0 < cur.length) : ∃ r, ao = some ⟨r, 0, none⟩ := by
  rcases h with h | ⟨r, h1, _⟩
  · rw [h.2] at h0; simp at h0
  · exact ⟨r, h1⟩

/-- a text stays where neither of its blocks is changed -/
theorem Tx.kept {B : Gm.Bs} {g : Nat} {ao : Option Addr} {cur A Z : List Int} {w w' : World} (h : Tx B g ao cur A Z w) (e : ∀ k, k < w.heap.size → w'.heap[k]? = w.heap[k]?) : Tx B g ao cur A Z w' :=
  ⟨h.hB, h.box.block (e g h.box.lt), h.room.block fun r hr => e r (h.room.lt r hr).2, h.ne, h.fit, h.most, h.few, h.ahead, h.behind⟩

theorem below_set {B : Gm.Bs} {g i : Nat} {w0 w : World} (hb : Gm.Fr B w0 w) (hB : B.ok g) (v : Value) : Gm.Fr B w0 (w.setCell ⟨g, i, none⟩ v) := hb.setCell hB v

/-- copy, at a step of a region that draws its order: into the array of a text -/
theorem step_copy_room {P : Program} {ops : Array Oper} {o : Oper} {a : Act} {w : World} {K : Act → World → Prop} {Q : Exit → Act → World → Prop} {E : Prop} (hgd : o.guard = none) (d s : Operand) (dT sT : TypeId)
    (ho : o.op = .call { callee := .builtin .copy, args := #[d, s], argTypes := #[dT, sT] }) (elem : TypeId) (hu : P.underlying dT = some (.slice elem)) (hsz : (P.info? elem).map (·.size) = some 1)
    (dp sp : Option Addr) (dLen dCap sLen sCap : Nat) (hd : a.eval d = .slice dp dLen dCap) (hs : a.eval s = .slice sp sLen sCap)
    (B : Gm.Bs) (ao : Option Addr) (cur : List Int) (hR : Room B w ao cur) (off : Nat) (zs : List Int) (hn : zs.length = Nat.min sLen dLen)
    (hpos : 0 < zs.length → ∀ r, ao = some ⟨r, 0, none⟩ → dp = some ⟨r, off, none⟩ ∧ ∃ b so, sp = some ⟨b, so, none⟩ ∧ ∀ j z, zs[j]? = some z → w.cell? ⟨b, so + j, none⟩ = some (.int .i32 z))
    (hfit : off + zs.length ≤ cur.length)
    (h : ∀ w', Room B w' ao (splice cur off zs) → w.grownBy w' (Value.slice ao 0 0).ownBlock → K (a.put o.dst (goInt zs.length)) w') :
    if Region.wanted o (yielded ops a.tmps) = true then Oper.wp P o a w K Q else E := by
  have hw : Region.wanted o (yielded ops a.tmps) = true := by simp [Region.wanted, hgd]
  rw [if_pos hw]
  by_cases h0 : zs.length = 0
  · obtain rfl : zs = [] := List.eq_nil_of_length_eq_zero h0
    have hrun := run_copy_none (P := P) w dT sT o.type elem dp sp dLen dCap sLen sCap hu hsz (by simpa using hn.symm)
    unfold Oper.wp
    simp [execOp, ho, resolve, invoke, builtin, hd, hs, hrun, Result.andThen]
    exact h w (by simpa [splice] using hR) ⟨rfl, rfl, rfl, Nat.le_refl _, fun _ _ _ => rfl⟩
  · rcases hR with ⟨_, rfl⟩ | ⟨r, hr, hBr, hg⟩
    · rw [List.length_nil] at hfit; omega
    obtain ⟨rfl, b, so, rfl, hc⟩ := hpos (by omega) r hr
    have hrun := run_copy_row (P := P) w dT sT o.type elem r off dLen dCap ⟨b, so, none⟩ sLen sCap _ _ (zs.map (Value.int .i32)) hu hsz hg (by simpa using hn) (fun j v hj => by
      rw [List.getElem?_map] at hj
      cases hz : zs[j]? with
      | none => rw [hz] at hj; simp at hj
      | some z => rw [hz] at hj; simp at hj; subst hj; rw [L.addr_add]; exact hc j z hz) (by simpa using hfit) (fun v hv => by obtain ⟨z, _, rfl⟩ := List.mem_map.1 hv; rfl)
    unfold Oper.wp
    simp [execOp, ho, resolve, invoke, builtin, hd, hs, hrun, Result.andThen]
    refine h _ (.inr ⟨r, hr, hBr, ?_⟩) ⟨rfl, rfl, rfl, by simp [World.setRow], fun k _ hk => setRow_other w r k _ (fun e => hk (by rw [e, hr]; rfl))⟩
    have := setRow_heap w r _ ((((cur.map (Value.int .i32)).toArray.toList.take off) ++ ((zs.map (Value.int .i32)) ++ (cur.map (Value.int .i32)).toArray.toList.drop (off + (zs.map (Value.int .i32)).length)))).toArray _ _ hg
    simpa [splice, List.map_take, List.map_drop] using this


end Go.Proofs.YtlmmjefplbcapaaGreat.Gm

/-
  What the methods of gap.Text do that change no rune.
-/
namespace Go.Proofs.YtlmmjefplbcapaaGreat
open Go.RowKit

set_option maxHeartbeats 400000 in
theorem behind_any (w : World) (g : Nat) (ao : Option Addr) (n t : Nat) (v1 : Value) (h : Gm.Bx3 w g (.slice ao n n) v1 (.int .i64 t)) (hn : n ≤ 8000) (ht : t ≤ n) :
    Calls Tryz.prog 59 #[.pointer (some ⟨g, 0, none⟩)] w fun e w' => e = .returned (.int .i64 (n - t : Nat)) ∧ ∃ q, w' = w.drewN q := by
  have c0 := h.c0
  have c2 := h.c2
  go_enter Tryz.func59, Tryz.ntmps59
  go_wp2
  go_quiet (fail)
  go_wp2
  go_ret
  exact ⟨L.ret_int (by omega), _, rfl⟩

set_option maxHeartbeats 400000 in
theorem len_any (w : World) (g : Nat) (ao : Option Addr) (n f t : Nat) (h : Gm.Bx3 w g (.slice ao n n) (.int .i64 f) (.int .i64 t)) (hn : n ≤ 8000) (ht : t ≤ n) (hf : f ≤ n) :
    Calls Tryz.prog 49 #[.pointer (some ⟨g, 0, none⟩)] w fun e w' => e = .returned (.int .i64 (f + (n - t) : Nat)) ∧ ∃ q, w' = w.drewN q := by
  have c1 := h.c1
  have H : Hid _ := h
  clear h
  go_enter Tryz.func49, Tryz.ntmps49
  go_wp2
  go_quiet ((go_at_call 59; exact Calls.quiet_of (behind_any _ g ao n t _ H.out hn ht)))
  go_wp2
  go_ret
  exact ⟨L.ret_int (by omega), _, rfl⟩

set_option maxHeartbeats 400000 in
theorem cursor_any (w : World) (g f : Nat) (v0 v2 : Value) (h : Gm.Bx3 w g v0 (.int .i64 f) v2) :
    Calls Tryz.prog 50 #[.pointer (some ⟨g, 0, none⟩)] w fun e w' => e = .returned (.int .i64 f) ∧ w' = w := by
  have c1 := h.c1
  go_enter Tryz.func50, Tryz.ntmps50
  go_wp2
  go_ret
  exact ⟨rfl, rfl⟩

end Go.Proofs.YtlmmjefplbcapaaGreat

/-
  What Del, Back and Move of gap.Text do.
-/
namespace Go.Proofs.YtlmmjefplbcapaaGreat
open Go.RowKit

namespace Gm
/-- the text is this one behind the call, and nothing below B was changed -/
def Told (B : Gm.Bs) (g : Nat) (w : World) (A Z : List Int) (w' : World) : Prop := (∃ ao cur, Tx B g ao cur A Z w') ∧ Gm.Fr B w w'

theorem Tx.size {B : Gm.Bs} {g : Nat} {ao : Option Addr} {cur A Z : List Int} {w : World} (h : Tx B g ao cur A Z w) : B.b ≤ w.heap.size := by have := h.box.lt; have := h.hB.1; omega
theorem Tx.drew {B : Gm.Bs} {g : Nat} {ao : Option Addr} {cur A Z : List Int} {w : World} (h : Tx B g ao cur A Z w) (q : Nat) : Tx B g ao cur A Z (w.drewN q) := h.kept fun _ _ => rfl
theorem Tx.told {B : Gm.Bs} {g : Nat} {ao : Option Addr} {cur A Z : List Int} {w w' : World} (h : Tx B g ao cur A Z w') (hb : Gm.Fr B w w') : Told B g w A Z w' := ⟨⟨ao, cur, h⟩, hb⟩
theorem Tx.same {B : Gm.Bs} {g : Nat} {ao : Option Addr} {cur A Z : List Int} {w : World} (h : Tx B g ao cur A Z w) (q : Nat) : Told B g w A Z (w.drewN q) := (h.drew q).told (Gm.Fr.drewN (Gm.Fr.refl _ _) _)
theorem Tx.del {B : Gm.Bs} {g : Nat} {ao : Option Addr} {cur A Z : List Int} {w : World} (h : Tx B g ao cur A Z w) (k : Nat) (hk : k ≤ Z.length) : Tx B g ao cur A (Z.drop k) (w.setCell ⟨g, 2, none⟩ (.int .i64 ((cur.length - Z.length : Nat) + k : Int))) := by
  have hf := h.fit
  have hm := h.most
  have hw := h.few
  have hl : (Z.drop k).length = Z.length - k := by simp
  refine ⟨h.hB, ?_, h.room.block fun r hr => heap_setCell_other _ _ _ _ (h.ne r hr), h.ne, by omega, h.most, by omega, h.ahead, ?_⟩
  · have := h.box.set2 (.int .i64 ((cur.length - Z.length : Nat) + k : Int))
    rw [hl]
    have e : ((cur.length - Z.length : Nat) + k : Int) = (cur.length - (Z.length - k) : Nat) := by omega
    rw [e] at this ⊢
    exact this
  · rw [hl]
    have := h.behind
    conv => lhs; rw [this]
    rw [List.drop_drop]
    congr 1; omega
theorem Tx.back {B : Gm.Bs} {g : Nat} {ao : Option Addr} {cur A Z : List Int} {w : World} (h : Tx B g ao cur A Z w) (k : Nat) (hk : k ≤ A.length) : Tx B g ao cur (A.take (A.length - k)) Z (w.setCell ⟨g, 1, none⟩ (.int .i64 ((A.length : Int) - k))) := by
  have hf := h.fit
  have hm := h.most
  have hw := h.few
  have hl : (A.take (A.length - k)).length = A.length - k := by simp
  refine ⟨h.hB, ?_, h.room.block fun r hr => heap_setCell_other _ _ _ _ (h.ne r hr), h.ne, by omega, h.most, by omega, ?_, h.behind⟩
  · have := h.box.set1 (.int .i64 ((A.length : Int) - k))
    rw [hl]
    have e : ((A.length : Int) - k) = (A.length - k : Nat) := by omega
    rw [e] at this ⊢
    exact this
  · rw [hl]
    exact (congrArg (List.take (A.length - k)) h.ahead).trans (by rw [List.take_take]; congr 1; omega)
end Gm

set_option maxHeartbeats 400000 in
theorem del_bad (w : World) (B : Gm.Bs) (g : Nat) (ao : Option Addr) (cur A Z : List Int) (h : Gm.Tx B g ao cur A Z w) (n : Int) (hn : n < 0 ∨ (Z.length : Int) < n) :
    Calls Tryz.prog 76 #[.pointer (some ⟨g, 0, none⟩), .int .i64 n] w fun e w' => e = .returned (.int .i64 3) ∧ Gm.Told B g w A Z w' := by
  have hf := h.fit
  have hm := h.most
  have H : Hid _ := h
  clear h
  by_cases h0 : n < 0
  · go_enter Tryz.func76, Tryz.ntmps76
    go_wp2
    go_ret
    exact ⟨rfl, H.out.same 0⟩
  · have h1 : (Z.length : Int) < n := by omega
    go_enter Tryz.func76, Tryz.ntmps76
    go_wp2_with (go_at_call 59; refine (behind_any _ g ao _ _ _ H.out.box hm (by omega)).mono ?_; rintro e w' ⟨rfl, q, rfl⟩; rw [show cur.length - (cur.length - Z.length) = Z.length by omega])
    go_ret
    exact ⟨rfl, H.out.same q⟩

set_option maxHeartbeats 400000 in
theorem del_ok (w : World) (B : Gm.Bs) (g : Nat) (ao : Option Addr) (cur A Z : List Int) (h : Gm.Tx B g ao cur A Z w) (k : Nat) (hn : k ≤ Z.length) :
    Calls Tryz.prog 76 #[.pointer (some ⟨g, 0, none⟩), .int .i64 k] w fun e w' => e = .returned (.int .i64 0) ∧ Gm.Told B g w A (Z.drop k) w' := by
  have hf := h.fit
  have hm := h.most
  have H : Hid _ := h
  clear h
  go_enter Tryz.func76, Tryz.ntmps76
  go_wp2_with (go_at_call 59; refine (behind_any _ g ao _ _ _ H.out.box hm (by omega)).mono ?_; rintro e w' ⟨rfl, q, rfl⟩; rw [show cur.length - (cur.length - Z.length) = Z.length by omega]; have X := H.out.drew q; have c2 := X.box.c2; have f2 := X.box.free 2; have HX : Hid _ := X; clear X; have HB : Hid (Gm.Fr B w (w.drewN q)) := (Gm.Fr.drewN (Gm.Fr.refl _ _) _); generalize w.drewN q = w1 at *)
  go_ret
  exact ⟨rfl, (HX.out.del k hn).told (Gm.below_set HB.out HX.out.hB _)⟩

end Go.Proofs.YtlmmjefplbcapaaGreat
