/-
  A text with a gap, as it lies in memory.
-/
import Derived.Test.YtcphiemfjdbhfaaGMath
import Derived.Test.YtcphiemfjdbhfaaLib
import Derived.Test.YtcphiemfjdbhfaaRows
import Derived.Laws.CopyOwn
namespace Go.Proofs.Ytcphiemfjdbhfaa
theorem Try.infoI32 : (Try.prog.info? 21).map (fun i => (i.zero, i.size, i.bytes)) = some (some (.int .i32 0), 1, 4) := by kernel_rfl
theorem Try.sizeI32 : (Try.prog.info? 21).map (·.size) = some 1 := by kernel_rfl
end Go.Proofs.Ytcphiemfjdbhfaa
namespace Go.Proofs.Ytcphiemfjdbhfaa.G
open Go.RowKit

/-- the array of a text: none, or a block that holds just these runes -/
def Room (B : Nat) (w : World) (ao : Option Addr) (cur : List Int) : Prop :=
  (ao = none ∧ cur = []) ∨ ∃ r, ao = some ⟨r, 0, none⟩ ∧ B ≤ r ∧ w.heap[r]? = some (.cells (cur.map (Value.int .i32)).toArray 21 (0, 0))

/-- three cells -/
def Bx3 (w : World) (g : Nat) (v0 v1 v2 : Value) : Prop := w.heap[g]? = some (.cells #[v0, v1, v2] 40 (0, 0))

theorem Bx3.c0 {w : World} {g : Nat} {v0 v1 v2 : Value} (h : Bx3 w g v0 v1 v2) : w.cell? ⟨g, 0, none⟩ = some v0 := by simp [World.cell?, Bx3] at h ⊢; rw [h]; rfl
theorem Bx3.c1 {w : World} {g : Nat} {v0 v1 v2 : Value} (h : Bx3 w g v0 v1 v2) : w.cell? ⟨g, 1, none⟩ = some v1 := by simp [World.cell?, Bx3] at h ⊢; rw [h]; rfl
theorem Bx3.c2 {w : World} {g : Nat} {v0 v1 v2 : Value} (h : Bx3 w g v0 v1 v2) : w.cell? ⟨g, 2, none⟩ = some v2 := by simp [World.cell?, Bx3] at h ⊢; rw [h]; rfl
theorem Bx3.free {w : World} {g : Nat} {v0 v1 v2 : Value} (h : Bx3 w g v0 v1 v2) (i : Nat) : w.frozen? ⟨g, i, none⟩ = false := frozen_of_row w g i _ _ h
theorem Bx3.set0 {w : World} {g : Nat} {v0 v1 v2 : Value} (h : Bx3 w g v0 v1 v2) (u : Value) : Bx3 (w.setCell ⟨g, 0, none⟩ u) g u v1 v2 := heap_setCell_same w g 0 _ _ u h
theorem Bx3.set1 {w : World} {g : Nat} {v0 v1 v2 : Value} (h : Bx3 w g v0 v1 v2) (u : Value) : Bx3 (w.setCell ⟨g, 1, none⟩ u) g v0 u v2 := heap_setCell_same w g 1 _ _ u h
theorem Bx3.set2 {w : World} {g : Nat} {v0 v1 v2 : Value} (h : Bx3 w g v0 v1 v2) (u : Value) : Bx3 (w.setCell ⟨g, 2, none⟩ u) g v0 v1 u := heap_setCell_same w g 2 _ _ u h
theorem Bx3.block {w w' : World} {g : Nat} {v0 v1 v2 : Value} (h : Bx3 w g v0 v1 v2) (e : w'.heap[g]? = w.heap[g]?) : Bx3 w' g v0 v1 v2 := e.trans h
theorem Bx3.lt {w : World} {g : Nat} {v0 v1 v2 : Value} (h : Bx3 w g v0 v1 v2) : g < w.heap.size := lt_of_block h

/-- a text: what is ahead of its cursor, what is behind it -/
structure Tx (B g : Nat) (ao : Option Addr) (cur A Z : List Int) (w : World) : Prop where
  hB : B ≤ g
  box : Bx3 w g (.slice ao cur.length cur.length) (.int .i64 A.length) (.int .i64 (cur.length - Z.length : Nat))
  room : Room B w ao cur
  ne : ∀ r, ao = some ⟨r, 0, none⟩ → r ≠ g
  fit : A.length + Z.length ≤ cur.length
  most : cur.length ≤ 8000
  few : A.length + Z.length ≤ 4000
  ahead : A = cur.take A.length
  behind : Z = cur.drop (cur.length - Z.length)

theorem Room.block {B : Nat} {w w' : World} {ao : Option Addr} {cur : List Int} (h : Room B w ao cur) (e : ∀ r, ao = some ⟨r, 0, none⟩ → w'.heap[r]? = w.heap[r]?) : Room B w' ao cur := by
  rcases h with h | ⟨r, h1, h2, h3⟩
  · exact .inl h
  · exact .inr ⟨r, h1, h2, (e r h1).trans h3⟩
theorem Room.lt {B : Nat} {w : World} {ao : Option Addr} {cur : List Int} (h : Room B w ao cur) (r : Nat) (e : ao = some ⟨r, 0, none⟩) : B ≤ r ∧ r < w.heap.size := by
  rcases h with h | ⟨r', h1, h2, h3⟩
  · rw [h.1] at e; cases e
  · rw [h1] at e; cases e; exact ⟨h2, lt_of_block h3⟩
theorem Room.cell {B : Nat} {w : World} {ao : Option Addr} {cur : List Int} (h : Room B w ao cur) {r j : Nat} {z : Int} (e : ao = some ⟨r, 0, none⟩) (hj : cur[j]? = some z) : w.cell? ⟨r, j, none⟩ = some (.int .i32 z) := by
  rcases h with h | ⟨r', h1, h2, h3⟩
  · rw [h.1] at e; cases e
  · rw [h1] at e; cases e
    simp [World.cell?, h3, hj]
theorem Room.some {B : Nat} {w : World} {ao : Option Addr} {cur : List Int} (h : Room B w ao cur) (h0 : 0 < cur.length) : ∃ r, ao = some ⟨r, 0, none⟩ := by
  rcases h with h | ⟨r, h1, _⟩
  · rw [h.2] at h0; simp at h0
  · exact ⟨r, h1⟩

/-- a text stays where neither of its blocks is changed -/
theorem Tx.kept {B g : Nat} {ao : Option Addr} {cur A Z : List Int} {w w' : World} (h : Tx B g ao cur A Z w) (e : ∀ k, k < w.heap.size → w'.heap[k]? = w.heap[k]?) : Tx B g ao cur A Z w' :=
  ⟨h.hB, h.box.block (e g h.box.lt), h.room.block fun r hr => e r (h.room.lt r hr).2, h.ne, h.fit, h.most, h.few, h.ahead, h.behind⟩

theorem below_set {B g i : Nat} {w0 w : World} (hb : Below B w0 w) (hB : B ≤ g) (v : Value) : Below B w0 (w.setCell ⟨g, i, none⟩ v) := hb.setCell hB v

/-- copy, at a step of a region that draws its order: into the array of a text -/
theorem step_copy_room {P : Program} {ops : Array Oper} {o : Oper} {a : Act} {w : World} {K : Act → World → Prop} {Q : Exit → Act → World → Prop} {E : Prop} (hgd : o.guard = none) (d s : Operand) (dT sT : TypeId)
    (ho : o.op = .call { callee := .builtin .copy, args := #[d, s], argTypes := #[dT, sT] }) (elem : TypeId) (hu : P.underlying dT = some (.slice elem)) (hsz : (P.info? elem).map (·.size) = some 1)
    (dp sp : Option Addr) (dLen dCap sLen sCap : Nat) (hd : a.eval d = .slice dp dLen dCap) (hs : a.eval s = .slice sp sLen sCap)
    (B : Nat) (ao : Option Addr) (cur : List Int) (hR : Room B w ao cur) (off : Nat) (zs : List Int) (hn : zs.length = Nat.min sLen dLen)
    (hpos : 0 < zs.length → ∀ r, ao = some ⟨r, 0, none⟩ → dp = some ⟨r, off, none⟩ ∧ ∃ b so, sp = some ⟨b, so, none⟩ ∧ ∀ j z, zs[j]? = some z → w.cell? ⟨b, so + j, none⟩ = some (.int .i32 z))
    (hfit : off + zs.length ≤ cur.length)
    (h : ∀ w', Room B w' ao (splice cur off zs) → w.grownBy w' (Value.slice ao 0 0).ownBlock → K (a.put o.dst (goInt zs.length)) w') :
    if Region.wanted o (yielded ops a.tmps) = true then Oper.wp P o a w K Q else E := by
  have hw : Region.wanted o (yielded ops a.tmps) = true := by simp [Region.wanted, hgd]
  rw [if_pos hw]
  by_cases h0 : zs.length = 0
  · obtain rfl : zs = [] := List.eq_nil_of_length_eq_zero h0
    have hrun := run_copy_none (P := P) w dT sT o.type elem dp sp dLen dCap sLen sCap hu hsz (by simpa using hn.symm)
    unfold Oper.wp
    simp [execOp, ho, resolve, invoke, builtin, hd, hs, hrun, Result.andThen]
    exact h w (by simpa [splice] using hR) ⟨rfl, rfl, rfl, Nat.le_refl _, fun _ _ _ => rfl⟩
  · rcases hR with ⟨_, rfl⟩ | ⟨r, hr, hBr, hg⟩
    · rw [List.length_nil] at hfit; omega
    obtain ⟨rfl, b, so, rfl, hc⟩ := hpos (by omega) r hr
    have hrun := run_copy_row (P := P) w dT sT o.type elem r off dLen dCap ⟨b, so, none⟩ sLen sCap _ _ (zs.map (Value.int .i32)) hu hsz hg (by simpa using hn) (fun j v hj => by
      rw [List.getElem?_map] at hj
      cases hz : zs[j]? with
      | none => rw [hz] at hj; simp at hj
      | some z => rw [hz] at hj; simp at hj; subst hj; rw [L.addr_add]; exact hc j z hz) (by simpa using hfit) (fun v hv => by obtain ⟨z, _, rfl⟩ := List.mem_map.1 hv; rfl)
    unfold Oper.wp
    simp [execOp, ho, resolve, invoke, builtin, hd, hs, hrun, Result.andThen]
    refine h _ (.inr ⟨r, hr, hBr, ?_⟩) ⟨rfl, rfl, rfl, by simp [World.setRow], fun k _ hk => setRow_other w r k _ (fun e => hk (by rw [e, hr]; rfl))⟩
    have := setRow_heap w r _ ((((cur.map (Value.int .i32)).toArray.toList.take off) ++ ((zs.map (Value.int .i32)) ++ (cur.map (Value.int .i32)).toArray.toList.drop (off + (zs.map (Value.int .i32)).length)))).toArray _ _ hg
    simpa [splice, List.map_take, List.map_drop] using this


end Go.Proofs.Ytcphiemfjdbhfaa.G
