/-
 Part after part: what resolve.order's function says of each, and what it keeps.
-/
import Derived.Test.YtmlnanbpbbpekaaGreatDoorVHas
import Derived.Test.YtmlnanbpbbpekaaGreatDoorTBack
import Derived.Laws.EntriesVeiled
namespace Go.Proofs.YtmlnanbpbbpekaaGreatDoor
open Go.RowKit Go.Lib
set_option maxRecDepth 20000
set_option linter.unusedSimpArgs false
set_option linter.unusedVariables false
def V.Env (w : World) (bm bf bu B n : Nat) (f : ByteArray -> Option Value) (flt : Bool) : Prop :=
 w.cell? ⟨bm, 0, none⟩ = some (.map (some B)) /\ w.heap[bf]? = some (.cells #[.bool flt] 4) /\ w.cell? ⟨bu, 0, none⟩ = some (.func (.func 124) #[] #[.pointer (some ⟨bm, 0, none⟩)]) /\ V.MapIs w B n f /\ bm ≠ bf /\ bu ≠ bf /\ bm ≠ B /\ bu ≠ B /\ bf ≠ B
theorem V.Env.below {w w' : World} {bm bf bu B n : Nat} {f : ByteArray -> Option Value} {flt : Bool} (h : V.Env w bm bf bu B n f flt) (hb : Below w.heap.size w w') : V.Env w' bm bf bu B n f flt := by
 obtain ⟨h1, h2, h3, h4, h5⟩ := h
 refine ⟨?_, K.blk_below h2 hb, ?_, h4.below hb h4.lt, h5⟩
 ·rw [hb.cell (p := ⟨bm, 0, none⟩) (L.block_lt h1)]; exact h1
 ·rw [hb.cell (p := ⟨bu, 0, none⟩) (L.block_lt h3)]; exact h3
theorem V.Env.put {w w' : World} {bm bf bu B n : Nat} {f g : ByteArray -> Option Value} {flt : Bool} (h : V.Env w bm bf bu B n f flt) (hg : w.grownBy w' (some B)) (hm : V.MapIs w' B (n + 1) g) : V.Env w' bm bf bu B (n + 1) g flt := by
 obtain ⟨h1, h2, h3, h4, h5, h6, h7, h8, h9⟩ := h
 refine ⟨?_, ?_, ?_, hm, h5, h6, h7, h8, h9⟩
 ·rw [World.cell?_of_block (a := ⟨bm, 0, none⟩) (hg.block bm (L.block_lt h1) (by simpa using h7))]; exact h1
 ·rw [hg.block bf (Array.getElem?_eq_some_iff.1 h2).1 (by simpa using h9)]; exact h2
 ·rw [World.cell?_of_block (a := ⟨bu, 0, none⟩) (hg.block bu (L.block_lt h3) (by simpa using h8))]; exact h3
set_option maxHeartbeats 4000000 in
def V.setVal : Value -> Value
 | .agg cs => (cs[2]?).getD undef
 | _ => undef
theorem next_var (w : World) (v : Value) (p : R.Part) (bm bf bu B n : Nat) (f : ByteArray -> Option Value) (flt : Bool) (HE : V.Env w bm bf bu B n f flt) (RR : R.PtIs w v p) (hk : p.kind = 1) (hn : n <= 140737488355327) (F : Nat) (hF : F <= B /\ F <= w.heap.size) :
  Calls Tryz.prog 125 #[v, .pointer (some ⟨bm, 0, none⟩), .pointer (some ⟨bf, 0, none⟩), .pointer (some ⟨bu, 0, none⟩)] w fun e w' =>
   (((f p.name).isSome = true /\ e = .returned (.int .i64 7) /\ V.Env w' bm bf bu B n f flt) ∨ ((f p.name).isSome = false /\ e = .returned (.int .i64 0) /\ ∃ so sc, V.setVal v = .slice so p.set.length sc /\ S.Rd w (.slice so p.set.length sc) p.set /\ V.Env w' bm bf bu B (n + 1) (fun t => if t = p.name then some (.slice so p.set.length sc) else f t) flt)) /\ Below F w w' := by
 obtain ⟨so, sc, lbo, lbc, lso, lsc, lao, lac, rbo, rbc, rso, rsc, rao, rac, rfl, RS, _, _, _, hnm, _⟩ := RR.open
 obtain ⟨pk, pn, ps, pd, ⟨lst, lfi, lbe, lsr, laf, lcu⟩, ⟨rst, rfi, rbe, rsr, raf, rcu⟩⟩ := p
 simp only at hk hnm RS ⊢
 subst hk
 have bA : Below w.heap.size w (w.alloc (.cells #[.int .i64 1, .string pn, .slice so ps.length sc, .int .i64 pd, .bool lst, .bool lfi, .slice lbo lbe.length lbc, .slice lso lsr.length lsc, .slice lao laf.length lac, .int .i64 lcu, .bool rst, .bool rfi, .slice rbo rbe.length rbc, .slice rso rsr.length rsc, .slice rao raf.length rac, .int .i64 rcu] 106)) := (Below.refl _ w).alloc (Nat.le_refl _) _
 have HE0 : Hid (V.Env (w.alloc (.cells #[.int .i64 1, .string pn, .slice so ps.length sc, .int .i64 pd, .bool lst, .bool lfi, .slice lbo lbe.length lbc, .slice lso lsr.length lsc, .slice lao laf.length lac, .int .i64 lcu, .bool rst, .bool rfi, .slice rbo rbe.length rbc, .slice rso rsr.length rsc, .slice rao raf.length rac, .int .i64 rcu] 106)) bm bf bu B n f flt /\ Below w.heap.size w (w.alloc (.cells #[.int .i64 1, .string pn, .slice so ps.length sc, .int .i64 pd, .bool lst, .bool lfi, .slice lbo lbe.length lbc, .slice lso lsr.length lsc, .slice lao laf.length lac, .int .i64 lcu, .bool rst, .bool rfi, .slice rbo rbe.length rbc, .slice rso rsr.length rsc, .slice rao raf.length rac, .int .i64 rcu] 106))) := ⟨HE.below bA, bA⟩
 have hcm := HE.1
 have hbm : bm < w.heap.size := L.block_lt hcm
 have hlook := HE0.out.1.2.2.2.1.look_ok pn hnm
 obtain ⟨W1, hrun, hM1, hg1⟩ := HE0.out.1.2.2.2.1.put pn hnm (by omega) (.slice so ps.length sc)
 have HM1 : Hid (V.MapIs W1 B (n + 1) (fun t => if t = pn then some (.slice so ps.length sc) else f t) /\ (w.alloc (.cells #[.int .i64 1, .string pn, .slice so ps.length sc, .int .i64 pd, .bool lst, .bool lfi, .slice lbo lbe.length lbc, .slice lso lsr.length lsc, .slice lao laf.length lac, .int .i64 lcu, .bool rst, .bool rfi, .slice rbo rbe.length rbc, .slice rso rsr.length rsc, .slice rao raf.length rac, .int .i64 rcu] 106)).grownBy W1 (some B)) := ⟨hM1, hg1⟩
 have HRS : Hid (S.Rd w (.slice so ps.length sc) ps) := RS
 clear bA RS hM1 hg1 RR HE
 generalize (f pn).getD (.slice none 0 0) = gv at hlook
 cases hfs : (f pn).isSome with
 | true =>
  rw [hfs] at hlook
  have HF : Hid ((f pn).isSome = true) := hfs
  clear hrun hfs
  go_enter Tryz.func125, Tryz.ntmps125
  go_wp2
  go_ret
  exact ⟨⟨rfl, HE0.out.1⟩, HE0.out.2.mono hF.2⟩
 | false =>
  rw [hfs] at hlook
  have HF : Hid ((f pn).isSome = false) := hfs
  clear hfs
  go_enter Tryz.func125, Tryz.ntmps125
  go_wp2
  go_ret
  exact ⟨⟨rfl, so, sc, rfl, HRS.out, HE0.out.1.put HM1.out.2 HM1.out.1⟩, Below.grown (HE0.out.2.mono hF.2) HM1.out.2 (Nat.le_trans hF.2 HE0.out.2.size) (fun j hj => by have h2 : B = j := Option.some.inj hj; omega)⟩
theorem V.Env.set {w : World} {bm bf bu B n : Nat} {f : ByteArray -> Option Value} {flt : Bool} (h : V.Env w bm bf bu B n f flt) (b : Bool) : V.Env (w.setCell ⟨bf, 0, none⟩ (.bool b)) bm bf bu B n f b /\ w.grownBy (w.setCell ⟨bf, 0, none⟩ (.bool b)) (some bf) := by
 obtain ⟨h1, h2, h3, h4, h5, h6, h7, h8, h9⟩ := h
 have hg := R.grown_set w bf 0 (.bool b)
 refine ⟨⟨?_, heap_setCell_same w bf 0 _ _ _ h2, ?_, h4.block (hg.block B h4.lt (by simpa using Ne.symm h9)), h5, h6, h7, h8, h9⟩, hg⟩
 ·rw [World.cell?_of_block (a := ⟨bm, 0, none⟩) (hg.block bm (L.block_lt h1) (by simpa using h5))]; exact h1
 ·rw [World.cell?_of_block (a := ⟨bu, 0, none⟩) (hg.block bu (L.block_lt h3) (by simpa using h6))]; exact h3
set_option maxHeartbeats 4000000 in
theorem next_filter (w : World) (v : Value) (p : R.Part) (bm bf bu B n : Nat) (f : ByteArray -> Option Value) (flt : Bool) (HE : V.Env w bm bf bu B n f flt) (RR : R.PtIs w v p) (hk : p.kind = 3) (F : Nat) (hF : F <= bf /\ F <= w.heap.size) :
  Calls Tryz.prog 125 #[v, .pointer (some ⟨bm, 0, none⟩), .pointer (some ⟨bf, 0, none⟩), .pointer (some ⟨bu, 0, none⟩)] w fun e w' =>
   e = .returned (.int .i64 (if flt = true then 5 else 0)) /\ V.Env w' bm bf bu B n f true /\ Below F w w' := by
 obtain ⟨so, sc, lbo, lbc, lso, lsc, lao, lac, rbo, rbc, rso, rsc, rao, rac, rfl, RS, _, hL, hR, hnm, _⟩ := RR.open
 obtain ⟨pk, pn, ps, pd, ⟨lst, lfi, lbe, lsr, laf, lcu⟩, ⟨rst, rfi, rbe, rsr, raf, rcu⟩⟩ := p
 simp only at hk
 subst hk
 have bA : Below w.heap.size w (w.alloc (.cells #[.int .i64 3, .string pn, .slice so ps.length sc, .int .i64 pd, .bool lst, .bool lfi, .slice lbo lbe.length lbc, .slice lso lsr.length lsc, .slice lao laf.length lac, .int .i64 lcu, .bool rst, .bool rfi, .slice rbo rbe.length rbc, .slice rso rsr.length rsc, .slice rao raf.length rac, .int .i64 rcu] 106)) := (Below.refl _ w).alloc (Nat.le_refl _) _
 have HE0 : Hid (V.Env (w.alloc (.cells #[.int .i64 3, .string pn, .slice so ps.length sc, .int .i64 pd, .bool lst, .bool lfi, .slice lbo lbe.length lbc, .slice lso lsr.length lsc, .slice lao laf.length lac, .int .i64 lcu, .bool rst, .bool rfi, .slice rbo rbe.length rbc, .slice rso rsr.length rsc, .slice rao raf.length rac, .int .i64 rcu] 106)) bm bf bu B n f flt /\ Below w.heap.size w (w.alloc (.cells #[.int .i64 3, .string pn, .slice so ps.length sc, .int .i64 pd, .bool lst, .bool lfi, .slice lbo lbe.length lbc, .slice lso lsr.length lsc, .slice lao laf.length lac, .int .i64 lcu, .bool rst, .bool rfi, .slice rbo rbe.length rbc, .slice rso rsr.length rsc, .slice rao raf.length rac, .int .i64 rcu] 106))) := ⟨HE.below bA, bA⟩
 have hcf : w.cell? ⟨bf, 0, none⟩ = some (.bool flt) := R.at_box' HE.2.1 rfl
 have hff : w.frozen? ⟨bf, 0, none⟩ = false := R.free_box HE.2.1
 have hbf : bf < w.heap.size := L.block_lt hcf
 have HEw : Hid (V.Env w bm bf bu B n f flt) := HE
 clear bA RS RR HE hL hR
 cases flt
 ·go_enter Tryz.func125, Tryz.ntmps125
  go_wp2
  go_ret
  have h := HEw.out.set true
  have hb := Below.grown (Below.refl F w) h.2 hF.2 (fun j hj => by have h2 : bf = j := Option.some.inj hj; omega)
  exact ⟨rfl, h.1.below ((Below.refl _ _).alloc (Nat.le_refl _) _), hb.alloc (Nat.le_trans hF.2 h.2.size) _⟩
 ·go_enter Tryz.func125, Tryz.ntmps125
  go_wp2
  go_ret
  exact ⟨rfl, HE0.out.1, HE0.out.2.mono hF.2⟩
set_option maxHeartbeats 4000000 in
theorem next_else (w : World) (v : Value) (p : R.Part) (bm bf bu B n : Nat) (f : ByteArray -> Option Value) (flt : Bool) (HE : V.Env w bm bf bu B n f flt) (RR : R.PtIs w v p) (hk : p.kind ≠ 1 /\ p.kind ≠ 2 /\ p.kind ≠ 3) :
  Calls Tryz.prog 125 #[v, .pointer (some ⟨bm, 0, none⟩), .pointer (some ⟨bf, 0, none⟩), .pointer (some ⟨bu, 0, none⟩)] w fun e w' =>
   e = .returned (.int .i64 0) /\ V.Env w' bm bf bu B n f flt /\ Below w.heap.size w w' := by
 obtain ⟨so, sc, lbo, lbc, lso, lsc, lao, lac, rbo, rbc, rso, rsc, rao, rac, rfl, RS, _, hL, hR, hnm, _⟩ := RR.open
 obtain ⟨pk, pn, ps, pd, ⟨lst, lfi, lbe, lsr, laf, lcu⟩, ⟨rst, rfi, rbe, rsr, raf, rcu⟩⟩ := p
 simp only at hk
 obtain ⟨k1, k2, k3⟩ := hk
 have bA : Below w.heap.size w (w.alloc (.cells #[.int .i64 pk, .string pn, .slice so ps.length sc, .int .i64 pd, .bool lst, .bool lfi, .slice lbo lbe.length lbc, .slice lso lsr.length lsc, .slice lao laf.length lac, .int .i64 lcu, .bool rst, .bool rfi, .slice rbo rbe.length rbc, .slice rso rsr.length rsc, .slice rao raf.length rac, .int .i64 rcu] 106)) := (Below.refl _ w).alloc (Nat.le_refl _) _
 have HE0 : Hid (V.Env (w.alloc (.cells #[.int .i64 pk, .string pn, .slice so ps.length sc, .int .i64 pd, .bool lst, .bool lfi, .slice lbo lbe.length lbc, .slice lso lsr.length lsc, .slice lao laf.length lac, .int .i64 lcu, .bool rst, .bool rfi, .slice rbo rbe.length rbc, .slice rso rsr.length rsc, .slice rao raf.length rac, .int .i64 rcu] 106)) bm bf bu B n f flt /\ Below w.heap.size w (w.alloc (.cells #[.int .i64 pk, .string pn, .slice so ps.length sc, .int .i64 pd, .bool lst, .bool lfi, .slice lbo lbe.length lbc, .slice lso lsr.length lsc, .slice lao laf.length lac, .int .i64 lcu, .bool rst, .bool rfi, .slice rbo rbe.length rbc, .slice rso rsr.length rsc, .slice rao raf.length rac, .int .i64 rcu] 106))) := ⟨HE.below bA, bA⟩
 clear bA RS RR HE hL hR
 go_enter Tryz.func125, Tryz.ntmps125
 go_wp2
 go_ret
 exact ⟨rfl, HE0.out.1, HE0.out.2⟩
def V.Few (s : R.Side) : Prop := s.before.length <= 140737488355328 /\ s.source.length <= 140737488355328 /\ s.after.length <= 140737488355328
set_option maxHeartbeats 4000000 in
theorem next_rule (w : World) (v : Value) (p : R.Part) (bm bf bu B n : Nat) (f : ByteArray -> Option Value) (flt : Bool) (HE : V.Env w bm bf bu B n f flt) (RR : R.PtIs w v p) (hk : p.kind = 2) (hl : V.Few p.left /\ V.Few p.right) :
  Calls Tryz.prog 125 #[v, .pointer (some ⟨bm, 0, none⟩), .pointer (some ⟨bf, 0, none⟩), .pointer (some ⟨bu, 0, none⟩)] w fun e w' =>
   e = .returned (.int .i64 (if (V.unkS f p.left || V.unkS f p.right) = true then 7 else 0)) /\ V.Env w' bm bf bu B n f flt /\ Below w.heap.size w w' := by
 obtain ⟨so, sc, lbo, lbc, lso, lsc, lao, lac, rbo, rbc, rso, rsc, rao, rac, rfl, RS, _, hL, hR, hnm, _⟩ := RR.open
 have H1 : Hid (∀ W, Below w.heap.size w W -> Calls Tryz.prog 126 #[.agg #[.bool p.left.start, .bool p.left.fin, .slice lbo p.left.before.length lbc, .slice lso p.left.source.length lsc, .slice lao p.left.after.length lac, .int .i64 p.left.cursor], .func (.func 124) #[] #[.pointer (some ⟨bm, 0, none⟩)]] W fun e w' => e = .returned (.bool (V.unkS f p.left)) /\ Below W.heap.size W w') := fun W hW => hasItem_any W _ p.left bm f (V.MapBox.below ⟨B, n, HE.1, HE.2.2.2.1⟩ hW) (hL.below hW) hl.1
 have H2 : Hid (∀ W, Below w.heap.size w W -> Calls Tryz.prog 126 #[.agg #[.bool p.right.start, .bool p.right.fin, .slice rbo p.right.before.length rbc, .slice rso p.right.source.length rsc, .slice rao p.right.after.length rac, .int .i64 p.right.cursor], .func (.func 124) #[] #[.pointer (some ⟨bm, 0, none⟩)]] W fun e w' => e = .returned (.bool (V.unkS f p.right)) /\ Below W.heap.size W w') := fun W hW => hasItem_any W _ p.right bm f (V.MapBox.below ⟨B, n, HE.1, HE.2.2.2.1⟩ hW) (hR.below hW) hl.2
 generalize V.unkS f p.left = u1 at *
 generalize V.unkS f p.right = u2 at *
 obtain ⟨pk, pn, ps, pd, ⟨lst, lfi, lbe, lsr, laf, lcu⟩, ⟨rst, rfi, rbe, rsr, raf, rcu⟩⟩ := p
 simp only at hk H1 H2
 subst hk
 have bA : Below w.heap.size w (w.alloc (.cells #[.int .i64 2, .string pn, .slice so ps.length sc, .int .i64 pd, .bool lst, .bool lfi, .slice lbo lbe.length lbc, .slice lso lsr.length lsc, .slice lao laf.length lac, .int .i64 lcu, .bool rst, .bool rfi, .slice rbo rbe.length rbc, .slice rso rsr.length rsc, .slice rao raf.length rac, .int .i64 rcu] 106)) := (Below.refl _ w).alloc (Nat.le_refl _) _
 have HX : Hid ((w.alloc (.cells #[.int .i64 2, .string pn, .slice so ps.length sc, .int .i64 pd, .bool lst, .bool lfi, .slice lbo lbe.length lbc, .slice lso lsr.length lsc, .slice lao laf.length lac, .int .i64 lcu, .bool rst, .bool rfi, .slice rbo rbe.length rbc, .slice rso rsr.length rsc, .slice rao raf.length rac, .int .i64 rcu] 106)).heap[w.heap.size]? = some (.cells #[.int .i64 2, .string pn, .slice so ps.length sc, .int .i64 pd, .bool lst, .bool lfi, .slice lbo lbe.length lbc, .slice lso lsr.length lsc, .slice lao laf.length lac, .int .i64 lcu, .bool rst, .bool rfi, .slice rbo rbe.length rbc, .slice rso rsr.length rsc, .slice rao raf.length rac, .int .i64 rcu] 106) /\ Below w.heap.size w (w.alloc (.cells #[.int .i64 2, .string pn, .slice so ps.length sc, .int .i64 pd, .bool lst, .bool lfi, .slice lbo lbe.length lbc, .slice lso lsr.length lsc, .slice lao laf.length lac, .int .i64 lcu, .bool rst, .bool rfi, .slice rbo rbe.length rbc, .slice rso rsr.length rsc, .slice rao raf.length rac, .int .i64 rcu] 106))) := ⟨heap_alloc_new w _, bA⟩
 have HEw : Hid (V.Env w bm bf bu B n f flt) := HE
 have hcu := HE.2.2.1
 have hbu : bu < w.heap.size := L.block_lt hcu
 clear bA RS RR HE hL hR hl
 go_enter Tryz.func125, Tryz.ntmps125
 go_wp2_with fail
 refine (H1.out _ HX.out.2).mono ?_
 rintro e w1 ⟨rfl, b1⟩
 have y1 := K.blk_below HX.out.1 b1
 have B1 := HX.out.2.trans (b1.mono HX.out.2.size)
 have p10 := K.at_box (i := 10) y1 rfl
 have p11 := K.at_box (i := 11) y1 rfl
 have p12 := K.at_box (i := 12) y1 rfl
 have p13 := K.at_box (i := 13) y1 rfl
 have p14 := K.at_box (i := 14) y1 rfl
 have p15 := K.at_box (i := 15) y1 rfl
 have hcu1 : w1.cell? ⟨bu, 0, none⟩ = some (.func (.func 124) #[] #[.pointer (some ⟨bm, 0, none⟩)]) := by rw [B1.cell (p := ⟨bu, 0, none⟩) hbu]; exact hcu
 have HB1 : Hid (Below w.heap.size w w1) := B1
 clear y1 b1 B1 hcu HX
 cases u1
 ·go_wp2_with fail
  refine (H2.out _ HB1.out).mono ?_
  rintro e w2 ⟨rfl, b2⟩
  have HB2 : Hid (Below w.heap.size w w2) := HB1.out.trans (b2.mono HB1.out.size)
  clear b2 p10 p11 p12 p13 p14 p15 hcu1
  cases u2
  ·go_wp2
   go_ret
   exact ⟨rfl, HEw.out.below HB2.out, HB2.out⟩
  ·go_wp2
   go_ret
   exact ⟨rfl, HEw.out.below HB2.out, HB2.out⟩
 ·clear p10 p11 p12 p13 p14 p15 hcu1
  go_wp2
  go_ret
  exact ⟨rfl, HEw.out.below HB1.out, HB1.out⟩
set_option maxHeartbeats 400000 in
theorem lookup_any (w : World) (B : Nat) : Calls Tryz.prog 93 #[.map (some B)] w fun e w' => e = .returned (.func (.func 127) #[] #[.pointer (some ⟨w.heap.size, 0, none⟩)]) /\ w' = w.alloc (.cells #[.map (some B)] 123) := by
 go_enter Tryz.func93, Tryz.ntmps93
 go_wp2
 go_ret
 exact ⟨rfl, rfl⟩
set_option maxHeartbeats 1000000 in
theorem order_any (w : World) (B n : Nat) (f : ByteArray -> Option Value) (HM : V.MapIs w B n f) :
  Calls Tryz.prog 92 #[.map (some B)] w fun e w' => e = .returned (.func (.func 125) #[] #[.pointer (some ⟨w.heap.size, 0, none⟩), .pointer (some ⟨w.heap.size + 1, 0, none⟩), .pointer (some ⟨w.heap.size + 2, 0, none⟩)]) /\
   V.Env w' w.heap.size (w.heap.size + 1) (w.heap.size + 2) B n f false /\ Below w.heap.size w w' /\ w'.heap.size = w.heap.size + 3 := by
 have HMs : Hid (V.MapIs w B n f) := HM
 clear HM
 go_enter Tryz.func92, Tryz.ntmps92
 go_wp2
 go_ret
 have hlt := HMs.out.lt
 have b1 : Below w.heap.size w (w.alloc (.cells #[.map (some B)] 123)) := (Below.refl _ w).alloc (Nat.le_refl _) _
 have x := K.two_boxes (Below.refl _ (((w.alloc (.cells #[.map (some B)] 123)).alloc (.cells #[.bool false] 4)).alloc (.cells #[.func (.func 124) #[] #[.pointer (some ⟨w.heap.size, 0, none⟩)]] 196)))
 have hs1 : (w.alloc (.cells #[.map (some B)] 123)).heap.size = w.heap.size + 1 := by simp
 rw [hs1] at x
 have hbb : Below w.heap.size w (((w.alloc (.cells #[.map (some B)] 123)).alloc (.cells #[.bool false] 4)).alloc (.cells #[.func (.func 124) #[] #[.pointer (some ⟨w.heap.size, 0, none⟩)]] 196)) := b1.trans (x.2.2.1.mono (by omega))
 have h0 := (x.2.2.1.block w.heap.size (by omega)).trans (heap_alloc_new w (.cells #[.map (some B)] 123))
 refine ⟨rfl, ⟨K.at_box (i := 0) h0 rfl, x.1, K.at_box (i := 0) x.2.1 rfl, HMs.out.below hbb hlt, by omega, by omega, by omega, by omega, by omega⟩, hbb, by simp⟩
end Go.Proofs.YtmlnanbpbbpekaaGreatDoor
