/-
  A file that is read: one item.
-/
import Derived.Test.YtajbcgobfkaahaaGreatDoorRRd1
namespace Go.Proofs.YtajbcgobfkaahaaGreatDoor
open Go.RowKit
set_option maxRecDepth 20000
set_option linter.unusedSimpArgs false

/-! a box that is the call's own -/
theorem R.ret_cell {fn : Func} {p : Tmp} {ty : TypeId} {fs : Array Field} (h : fn.results = #[.cell p ty]) (tmps : Array Value) (w : World) (g : Nat) (cs : Array Value) (hg : w.heap[g]? = some (.cells cs ty)) (hu : Tryz.prog.underlying ty = some (.struct fs))
    (hi : (Tryz.prog.info? ty).map (·.size) = some cs.size)
    (hp : tmps.getD p undef = .pointer (some ⟨g, 0, none⟩)) : (results fn tmps).run Tryz.prog w = .ok (.agg cs) w := by
  have hl := run_loadVar_row (P := Tryz.prog) w g ty ty cs (0, 0) _ hg hu rfl hi
  have e : (results fn tmps).run Tryz.prog w = ((asAddr (tmps.getD p undef)).run Tryz.prog w).andThen fun a w₁ => (loadVar ty a).run Tryz.prog w₁ := by
    simp only [results, h]
    simp [Sem.run_bind, Result.andThen]
  rw [e, hp]
  simp [asAddr, Result.andThen, hl]
theorem R.grown_new {w0 w9 w' : World} {cb g : Nat} (h : w0.grownBy w9 (some cb)) (hp : w9.grownBy w' (some g)) (hg : w0.heap.size ≤ g) : w0.grownBy w' (some cb) :=
  ⟨hp.os.trans h.os, hp.tape.trans h.tape, hp.output.trans h.output, Nat.le_trans h.size hp.size, fun k hk hne => by
    rw [hp.block k (Nat.lt_of_lt_of_le hk h.size) (by simp; omega)]; exact h.block k hk hne⟩
theorem T.Cur.apart {w w' : World} {cb tb cap p g : Nat} {ao : Option Addr} {l : List Int} (C : T.Cur w cb tb cap ao l p) (hp : w.grownBy w' (some g)) (hne : g ≠ cb) (ht : l ≠ [] → g ≠ tb) : T.Cur w' cb tb cap ao l p := by
  refine ⟨?_, C.txt, fun j z hj => ?_, C.ne, C.le, C.len, C.cp, C.rt⟩
  · obtain ⟨t, hb⟩ := C.blk
    exact ⟨t, by rw [hp.block cb C.lt (by simpa using Ne.symm hne)]; exact hb⟩
  · have hn : g ≠ tb := ht (by intro h; subst h; simp at hj)
    have h1 := C.rd j z hj
    rw [World.cell?_of_block (a := ⟨tb, j, none⟩) (hp.block tb (L.block_lt h1) (by simpa using Ne.symm hn))]
    exact h1
theorem R.Stays.apart {F g : Nat} {X : Option Nat} {w w' : World} {Q : World → Prop} (h : R.Stays F X w Q) (hp : w.grownBy w' (some g)) (hg : g < F) : R.Stays F X w' Q := h.cur hp hg
/-- the cursor is elder than what is made now -/
theorem T.Cur.elder {w : World} {cb tb cap p : Nat} {ao : Option Addr} {l : List Int} (C : T.Cur w cb tb cap ao l p) : cb < w.heap.size ∧ (l ≠ [] → tb < w.heap.size) := ⟨C.lt, C.txt_lt⟩

/-- the cells of an item -/
def R.ItEl (x : R.Item) (c : List Value) (w : World) : Prop :=
  ∃ so sc, c = [.int .i64 x.kind, .int .i32 x.rune, .slice so x.set.length sc, .string x.name] ∧ S.Rd w (.slice so x.set.length sc) x.set ∧ S.Fit x.set ∧ x.name.size ≤ 140737488355328
def R.RowI (F : Nat) (w : World) (v : Value) (xs : List R.Item) : Prop := R.Row 76 4 R.ItEl F w v xs
theorem R.elemI : R.Elem 45 76 4 := ⟨Tryz.underlying45, ⟨.agg #[.int .i64 0, .int .i32 0, .slice none 0 0, .string ⟨#[]⟩], 56, by kernel_rfl, by decide, rfl⟩, by decide⟩
theorem R.RowI.its {F : Nat} {w : World} {v : Value} {xs : List R.Item} (h : R.RowI F w v xs) : R.Stays F none w fun w' => R.Its w' v xs := fun w' hk => by
  obtain ⟨ao, cap, hv⟩ := R.Row.slice h
  refine ⟨ao, cap, hv, fun hz => ?_⟩
  cases xs with
  | nil => exact absurd rfl hz
  | cons x0 xs =>
    obtain ⟨g, c, hob, ⟨cap', hv'⟩, _, _⟩ := R.Row.at h (j := 0) (x := x0) rfl
    refine ⟨g, 0, by rw [hv] at hv'; cases hv'; rfl, fun j x hj => ?_⟩
    obtain ⟨g2, c2, hob2, _, _, hst⟩ := R.Row.at h hj
    have hg : g2 = g := by rw [hob] at hob2; exact (Option.some.inj hob2).symm
    subst hg
    obtain ⟨hcells, so, sc, rfl, h1, h2, h3⟩ := hst w' hk
    exact ⟨hcells 0 _ rfl, hcells 1 _ rfl, hcells 3 _ rfl, ⟨so, sc, hcells 2 _ rfl, h1⟩, h2, h3⟩
/-- a row of one item, just laid -/
theorem R.RowI.one {F : Nat} {w : World} (k r : Int) (so : Option Addr) (sc : Nat) (st : List S.Sp) (nm : ByteArray) (hs : R.Stays F none w fun w' => S.Rd w' (.slice so st.length sc) st) (hf : S.Fit st) (hn : nm.size ≤ 140737488355328) (hF : F ≤ w.heap.size) :
    R.RowI F (w.alloc (.cells #[.int .i64 k, .int .i32 r, .slice so st.length sc, .string nm] 76)) (.slice (some ⟨w.heap.size, 0, none⟩) 1 1) [⟨k, r, st, nm⟩] :=
  R.Row.one [.int .i64 k, .int .i32 r, .slice so st.length sc, .string nm] rfl (fun u hu => by
    simp only [List.mem_cons, List.not_mem_nil, or_false] at hu
    rcases hu with rfl | rfl | rfl | rfl <;> rfl) (hs.imp fun w' h => ⟨so, sc, rfl, h, hf, hn⟩) hF
theorem rd_nil_stays (F : Nat) (w : World) : R.Stays F none w fun w' => S.Rd w' (.slice none ([] : List S.Sp).length 0) [] := fun w' _ => S.Rd.nil w'

/-- one character -/
def R.oneAt (l : List Int) (p : Nat) : T.Out Int :=
  match T.chr l p with
  | .bad e q => .bad e q
  | .ok c q => if M.right c = true then .ok c q else .bad 3 p
def R.isOne (c : Int) (v : Value) (_ : World) : Prop := v = .agg #[.int .i64 1, .int .i32 c, .slice none 0 0, .string ⟨#[]⟩]

set_option maxHeartbeats 4000000 in
theorem single_any (w : World) (cb tb cap p : Nat) (ao : Option Addr) (l : List Int) (C : T.Cur w cb tb cap ao l p) :
    Calls Tryz.prog 144 #[.pointer (some ⟨cb, 0, none⟩)] w (T.Ends w cb tb cap ao l (R.oneAt l p) R.isOne) := by
  have hlen := C.len
  have c1 := C.cell1
  obtain ⟨he1, he2⟩ := C.elder
  have HE2 : Hid (l ≠ [] → tb < w.heap.size) := he2
  have HC : Hid (T.Cur w cb tb cap ao l p) := C
  clear C he2
  obtain ⟨o, HO⟩ : ∃ o, Hid (R.oneAt l p = o) := ⟨_, rfl⟩
  rw [HO.out]
  have n1 : ¬ w.heap.size = cb := by omega
  go_enter Tryz.func144, Tryz.ntmps144
  go_wp2_with fail
  have bW := (Below.refl _ w).alloc (Nat.le_refl _) (.cells #[.int .i64 0, .int .i32 0, .slice none 0 0, .string ⟨#[]⟩] 76)
  have hxW : (w.alloc (.cells #[.int .i64 0, .int .i32 0, .slice none 0 0, .string ⟨#[]⟩] 76)).heap[w.heap.size]? = some (.cells #[.int .i64 0, .int .i32 0, .slice none 0 0, .string ⟨#[]⟩] 76) := heap_alloc_new w _
  have CW := HC.out.below bW
  have GW : w.grownBy _ (some cb) := S.grown_below bW
  refine (chr_any _ cb tb cap p ao l CW).mono ?_
  generalize w.alloc (.cells #[.int .i64 0, .int .i32 0, .slice none 0 0, .string ⟨#[]⟩] 76) = W0 at bW hxW CW GW
  clear bW CW c1
  intro e w1 h
  cases hc : T.chr l p with
  | bad er q =>
    rw [hc] at h
    obtain ⟨rfl, g1⟩ := h
    unfold T.thrown
    go_wp2
    refine ⟨rfl, ?_⟩
    rw [← HO.out]; unfold R.oneAt; rw [hc]
    exact ⟨rfl, S.grown_trans GW g1⟩
  | ok c q =>
    rw [hc] at h
    obtain ⟨v, rfl, rfl, C1, g1⟩ := h
    have x1 := R.blk_grown hxW g1 (by omega)
    have a0 := R.at_box' (i := 0) x1 rfl
    have a1 := R.at_box' (i := 1) x1 rfl
    have a2 := R.at_box' (i := 2) x1 rfl
    have a3 := R.at_box' (i := 3) x1 rfl
    have z0 := R.free_box (i := 0) x1
    have z1 := R.free_box (i := 1) x1
    have z2 := R.free_box (i := 2) x1
    have z3 := R.free_box (i := 3) x1
    have HX1 : Hid (w1.heap[w.heap.size]? = some (.cells #[.int .i64 0, .int .i32 0, .slice none 0 0, .string ⟨#[]⟩] 76)) := x1
    have HG1 : Hid (w.grownBy w1 (some cb)) := S.grown_trans GW g1
    have HC1 : Hid (T.Cur w1 cb tb cap ao l q) := C1
    have HHc : Hid _ := hc
    clear hc g1 GW hxW C1 x1
    go_wp2_with fail
    refine (right_any c _).mono ?_
    rintro e w2 ⟨rfl, rfl⟩
    by_cases hr : M.right c = true
    · go_wp2
      obtain ⟨hbx, hgr⟩ := R.put4 HX1.out (.int .i64 1) (.int .i32 c) (.slice none 0 0) (.string ⟨#[]⟩)
      refine bodyPost_ret (R.ret_cell rfl _ _ w.heap.size #[.int .i64 1, .int .i32 c, .slice none 0 0, .string ⟨#[]⟩] hbx Tryz.underlying76 (by kernel_rfl) rfl) rfl ?_
      rw [← HO.out]; unfold R.oneAt; rw [HHc.out]; simp only; rw [if_pos hr]
      exact ⟨_, rfl, rfl, HC1.out.apart hgr n1 (fun h => by have := HE2.out h; omega), R.grown_new HG1.out hgr (Nat.le_refl _)⟩
    · go_wp2_with (go_at_call 23; refine (fail_any _ 3 p).mono ?_; unfold T.thrown; rintro e w3 ⟨rfl, rfl⟩)
      refine ⟨rfl, ?_⟩
      rw [← HO.out]; unfold R.oneAt; rw [HHc.out]; simp only; rw [if_neg hr]
      exact ⟨rfl, HG1.out⟩

end Go.Proofs.YtajbcgobfkaahaaGreatDoor
