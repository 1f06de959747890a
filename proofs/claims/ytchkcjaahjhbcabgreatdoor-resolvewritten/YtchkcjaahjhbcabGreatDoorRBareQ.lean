/-
  A file that is read: all its parts.
-/
import Derived.Test.YtchkcjaahjhbcabGreatDoorRRd8
import Derived.Test.YtchkcjaahjhbcabGreatDoorSWrong
import Derived.Test.YtchkcjaahjhbcabGreatDoorRRd6
import Derived.Laws.Rows
import Derived.Laws.Tables
namespace Go.Proofs.YtchkcjaahjhbcabGreatDoor
open Go.RowKit
set_option maxRecDepth 20000
set_option linter.unusedSimpArgs false
set_option linter.unusedVariables false

/-- the cells of a part -/
def R.PtEl (x : R.Part) (c : List Value) (w : World) : Prop := R.PtIs w (.agg c.toArray) x
def R.RowP (F : Nat) (w : World) (v : Value) (xs : List R.Part) : Prop := R.Row 47 16 R.PtEl F w v xs
theorem R.elemP : R.Elem 22 47 16 := ⟨Tryz.underlying22, ⟨.agg #[.int .i64 0, .string ⟨#[]⟩, .slice none 0 0, .int .i64 0, .bool false, .bool false, .slice none 0 0, .slice none 0 0, .slice none 0 0, .int .i64 0, .bool false, .bool false, .slice none 0 0, .slice none 0 0, .slice none 0 0, .int .i64 0], 232, by kernel_rfl, by decide, rfl⟩, by decide⟩
theorem R.RowP.pts {F : Nat} {w : World} {v : Value} {xs : List R.Part} (h : R.RowP F w v xs) : R.Stays F none w fun w' => R.Pts w' v xs := fun w' hk => by
  obtain ⟨ao, cap, hv⟩ := R.Row.slice h
  refine ⟨ao, cap, hv, fun hz => ?_⟩
  cases xs with
  | nil => exact absurd rfl hz
  | cons x0 xs =>
    obtain ⟨g, c, hob, ⟨cap', hv'⟩, _, _⟩ := R.Row.at h (j := 0) (x := x0) rfl
    refine ⟨g, 0, by rw [hv] at hv'; cases hv'; rfl, fun j x hj => ?_⟩
    obtain ⟨g2, c2, hob2, _, _, hst⟩ := R.Row.at h hj
    have hg : g2 = g := by rw [hob] at hob2; exact (Option.some.inj hob2).symm
    subst hg
    obtain ⟨hcells, hpt⟩ := hst w' hk
    have hpt' : R.PtIs w' (.agg c2.toArray) x := hpt
    obtain ⟨so, sc, lbo, lbc, lso, lsc, lao, lac, rbo, rbc, rso, rsc, rao, rac, he, _⟩ := hpt'.open
    have hc2 : c2 = [.int .i64 x.kind, .string x.name, .slice so x.set.length sc, .int .i64 x.dir, .bool x.left.start, .bool x.left.fin, .slice lbo x.left.before.length lbc, .slice lso x.left.source.length lsc, .slice lao x.left.after.length lac, .int .i64 x.left.cursor, .bool x.right.start, .bool x.right.fin, .slice rbo x.right.before.length rbc, .slice rso x.right.source.length rsc, .slice rao x.right.after.length rac, .int .i64 x.right.cursor] := by
      have := congrArg (fun v => match v with | .agg a => a.toList | _ => []) he
      simpa using this
    subst hc2
    exact ⟨so, sc, lbo, lbc, lso, lsc, lao, lac, rbo, rbc, rso, rsc, rao, rac, hcells 0 _ rfl, hcells 1 _ rfl, hcells 2 _ rfl, hcells 3 _ rfl, hcells 4 _ rfl, hcells 5 _ rfl, hcells 6 _ rfl, hcells 7 _ rfl, hcells 8 _ rfl, hcells 9 _ rfl, hcells 10 _ rfl, hcells 11 _ rfl, hcells 12 _ rfl, hcells 13 _ rfl, hcells 14 _ rfl, hcells 15 _ rfl, hpt'⟩

def R.lenV : Value → Nat
  | .slice _ n _ => n
  | _ => 0

set_option maxHeartbeats 16000000 in
theorem parts_at (hK : T.ClassOk) (w : World) (cb tb cap : Nat) (ao : Option Addr) (l : List Int) (C : T.Cur w cb tb cap ao l 0) :
    Calls Tryz.prog 21 #[.pointer (some ⟨cb, 0, none⟩)] w (T.Ends w cb tb cap ao l (R.parts l) fun xs v w' => R.RowP w.heap.size w' v xs ∧ xs.length ≤ 200) := by
  obtain ⟨he1, he2⟩ := C.elder
  have HE2 : Hid (l ≠ [] → tb < w.heap.size) := he2
  have HK : Hid T.ClassOk := hK
  have HC : Hid (T.Cur w cb tb cap ao l 0) := C
  clear C he2 hK
  obtain ⟨o, HO⟩ : ∃ o, Hid (R.parts l = o) := ⟨_, rfl⟩
  rw [HO.out]
  go_enter Tryz.func21, Tryz.ntmps21
  go_wp2_with fail
  refine (between_any _ cb tb cap 0 ao l HC.out).mono ?_
  rintro e w1 ⟨rfl, C1, g1⟩
  have HC1 : Hid (T.Cur w1 cb tb cap ao l (R.gap l 0)) := C1
  have HG1 : Hid (w.grownBy w1 (some cb)) := g1
  clear C1 g1
  go_wp2
  go_loopw [3] (fun sv wr => ∃ (q : Nat) (xs : List R.Part) (vo : Option Addr) (vc : Nat), sv = .slice vo xs.length vc ∧ xs.length ≤ 200 ∧ Hid (R.partsN (202 - xs.length) l xs q = o) ∧ Hid (R.RowP w.heap.size wr (.slice vo xs.length vc) xs) ∧ Hid (T.Cur wr cb tb cap ao l q) ∧ Hid (w.grownBy wr (some cb))) (fun sv _ => 202 - R.lenV sv)
  case atStart => exact ⟨R.gap l 0, [], none, 0, rfl, by simp, HO, R.Row.nil _ _, HC1, HG1⟩
  case round =>
    obtain ⟨q, xs, vo, vc, rfl, hxl, HN, HR, HCq, HG⟩ := hrel
    have cq := HCq.out.cell1
    have hql := HCq.out.le
    have hlen := HCq.out.len
    obtain ⟨f, hf⟩ : ∃ f, 202 - xs.length = f + 1 := ⟨201 - xs.length, by omega⟩
    have HN2 : Hid (R.partsN (f + 1) l xs q = o) := by show _ = _; rw [← hf]; exact HN.out
    clear HN
    go_wp2_with fail
    refine (done_any _ cb tb cap q ao l HCq.out).mono ?_
    rintro e w2 ⟨rfl, b2⟩
    have C2 := HCq.out.below b2
    have c2 := C2.cell1
    have HC2 : Hid (T.Cur w2 cb tb cap ao l q) := C2
    have HG2 : Hid (w.grownBy w2 (some cb)) := S.grown_trans HG.out (S.grown_below b2)
    have HR2 : Hid (R.RowP w.heap.size w2 (.slice vo xs.length vc) xs) := R.Row.below HR.out b2
    clear C2 b2 cq
    by_cases hd : T.see l q = -1
    · clear c2
      go_wp2
      go_ret
      rw [← HN2.out, R.partsN, if_pos hd]
      exact ⟨_, rfl, ⟨HR2.out, hxl⟩, HC2.out, HG2.out⟩
    · by_cases h200 : xs.length = 200
      · have h200' : (xs.length : Int) = 200 := by omega
        go_wp2
        go_region_dies
        all_goals refine (fail_any _ 5 q).mono ?_
        all_goals unfold T.thrown
        all_goals rintro e w3 ⟨rfl, rfl⟩
        all_goals refine ⟨rfl, ?_⟩
        all_goals rw [← HN2.out, R.partsN, if_neg hd, if_pos h200]
        all_goals exact ⟨rfl, S.grown_trans HG2.out (fr_drewN _ 1 _)⟩
      · have h200' : ¬ (xs.length : Int) = 200 := by omega
        have h200b : ((xs.length : Int) == 200) = false := by simp; omega
        clear c2
        go_wp2_with fail
        refine (ended_at HK.out _ cb tb cap q ao l HC2.out).mono ?_
        intro e w3 h
        cases hc : R.ended l q with
        | bad er r =>
          rw [hc] at h
          obtain ⟨rfl, g3⟩ := h
          unfold T.thrown
          go_wp2
          refine ⟨rfl, ?_⟩
          rw [← HN2.out, R.partsN, if_neg hd, if_neg h200, hc]
          exact ⟨rfl, S.grown_trans HG2.out g3⟩
        | ok x r =>
          rw [hc] at h
          obtain ⟨v3, rfl, ⟨⟨so, sc, lbo, lbc, lso, lsc, lao, lac, rbo, rbc, rso, rsc, rao, rac, hv3⟩, s3⟩, C3, g3⟩ := h
          subst hv3
          have HHc : Hid _ := hc
          have HG3 : Hid (w.grownBy w3 (some cb)) := S.grown_trans HG2.out g3
          have hs3 : w2.heap.size ≤ w3.heap.size := g3.size
          have hs2 : w.heap.size ≤ w2.heap.size := HG2.out.size
          have HLt : Hid _ := R.Row.lt HR2.out
          have R3 := R.Row.cur HR2.out g3 he1
          have bA := (Below.refl _ w3).alloc (Nat.le_refl _) (.cells #[.int .i64 x.kind, .string x.name, .slice so x.set.length sc, .int .i64 x.dir, .bool x.left.start, .bool x.left.fin, .slice lbo x.left.before.length lbc, .slice lso x.left.source.length lsc, .slice lao x.left.after.length lac, .int .i64 x.left.cursor, .bool x.right.start, .bool x.right.fin, .slice rbo x.right.before.length rbc, .slice rso x.right.source.length rsc, .slice rao x.right.after.length rac, .int .i64 x.right.cursor] 47)
          have HR4 : Hid (R.RowP w.heap.size _ (.slice vo xs.length vc) xs) := R.Row.below R3 bA
          have HO4 : Hid (R.RowP w2.heap.size (w3.alloc (.cells #[.int .i64 x.kind, .string x.name, .slice so x.set.length sc, .int .i64 x.dir, .bool x.left.start, .bool x.left.fin, .slice lbo x.left.before.length lbc, .slice lso x.left.source.length lsc, .slice lao x.left.after.length lac, .int .i64 x.left.cursor, .bool x.right.start, .bool x.right.fin, .slice rbo x.right.before.length rbc, .slice rso x.right.source.length rsc, .slice rao x.right.after.length rac, .int .i64 x.right.cursor] 47)) (.slice (some ⟨w3.heap.size, 0, none⟩) 1 1) [x]) :=
            R.Row.one [.int .i64 x.kind, .string x.name, .slice so x.set.length sc, .int .i64 x.dir, .bool x.left.start, .bool x.left.fin, .slice lbo x.left.before.length lbc, .slice lso x.left.source.length lsc, .slice lao x.left.after.length lac, .int .i64 x.left.cursor, .bool x.right.start, .bool x.right.fin, .slice rbo x.right.before.length rbc, .slice rso x.right.source.length rsc, .slice rao x.right.after.length rac, .int .i64 x.right.cursor] rfl (fun u hu => by
              simp only [List.mem_cons, List.not_mem_nil, or_false] at hu
              rcases hu with rfl | rfl | rfl | rfl | rfl | rfl | rfl | rfl | rfl | rfl | rfl | rfl | rfl | rfl | rfl | rfl <;> rfl) s3 hs3
          have HC4 : Hid (T.Cur _ cb tb cap ao l r) := C3.below bA
          have HG4 : Hid (w.grownBy _ (some cb)) := S.grown_trans HG3.out (S.grown_below bA)
          have hF4 : w.heap.size ≤ (w3.alloc (.cells #[.int .i64 x.kind, .string x.name, .slice so x.set.length sc, .int .i64 x.dir, .bool x.left.start, .bool x.left.fin, .slice lbo x.left.before.length lbc, .slice lso x.left.source.length lsc, .slice lao x.left.after.length lac, .int .i64 x.left.cursor, .bool x.right.start, .bool x.right.fin, .slice rbo x.right.before.length rbc, .slice rso x.right.source.length rsc, .slice rao x.right.after.length rac, .int .i64 x.right.cursor] 47)).heap.size := by simp; omega
          obtain ⟨zs, HZs⟩ : ∃ zs, Hid (xs ++ [x] = zs) := ⟨_, rfl⟩
          have HZl : Hid (zs.length = xs.length + 1) := by show _ = _; rw [← HZs.out]; simp
          clear hc s3 C3 g3 R3 bA
          go_wp2_with (at_builtin; refine R.list_add R.elemP rfl _ _ rfl _ _ xs [x] rfl rfl HR4.out HO4.out hs2 (fun g hg => (HLt.out g hg).2) (by simp; omega) hF4 ?_; intro v5 w5 R5 g5 n5; rw [HZs.out] at R5; obtain ⟨vo5, vc5, hv5⟩ := R.Row.slice R5; subst hv5; have HR5 : Hid (R.RowP w.heap.size w5 (.slice vo5 zs.length vc5) zs) := R5; have HC5 : Hid (T.Cur w5 cb tb cap ao l r) := HC4.out.row g5 (fun g hg => (HLt.out g hg).1) he1 HE2.out; have HG5 : Hid (w.grownBy w5 (some cb)) := R.grown_row HG4.out g5 (fun g hg => (HLt.out g hg).1); clear R5 g5 n5)
          refine (between_any _ cb tb cap r ao l HC5.out).mono ?_
          rintro e w6 ⟨rfl, C6, g6⟩
          have HC6 : Hid (T.Cur w6 cb tb cap ao l (R.gap l r)) := C6
          have HG6 : Hid (w.grownBy w6 (some cb)) := S.grown_trans HG5.out g6
          have HR6 : Hid (R.RowP w.heap.size w6 (.slice vo5 zs.length vc5) zs) := R.Row.cur HR5.out g6 he1
          clear C6 g6
          go_wp2
          go_roundw
          case rel => exact ⟨R.gap l r, zs, vo5, vc5, rfl, by have := HZl.out; omega, by show _ = _; rw [show 202 - zs.length = f by have := HZl.out; omega, ← HN2.out, R.partsN, if_neg hd, if_neg h200, HHc.out]; simp only; rw [HZs.out], HR6, HC6, HG6⟩
          case measure => have := HZl.out; simp [R.lenV]; omega

end Go.Proofs.YtchkcjaahjhbcabGreatDoor

/-
  Files of rules: what Print writes Read reads: sides, parts, files.
-/
namespace Go.Proofs.YtchkcjaahjhbcabGreatDoor.R
open S (Sp)
open T (Out see skipW cut sits_see sits_next sits_len sits_head sits_tail sits_lt skipW_sits skipW_here)

theorem drop_pos {l m r : List Int} {p : Nat} {a : Int} (h : l.drop p = m ++ a :: r) : p < l.length := by
  apply Classical.byContradiction
  intro hn
  rw [List.drop_eq_nil_of_le (by omega)] at h
  cases m <;> cases h

/-- what stands behind a side -/
def sideEnd (a : Int) : Prop := a = 62 ∨ a = 60 ∨ a = 59
theorem sideEnd.stops {a : Int} (h : sideEnd a) (r : List Int) : stops a r := by
  rcases h with h | h | h
  · exact .inr (.inr (.inl h))
  · exact .inr (.inr (.inr (.inl h)))
  · exact .inr (.inr (.inr (.inr (.inl h))))

def tailR (s : Side) : List Int := (if s.fin = true ∨ 0 < s.after.length then [125, 32] else []) ++ itemsR s.after (-1) ++ (if s.fin = true then [36, 32] else [])
theorem tail_head (s : Side) {a : Int} {r : List Int} (h : sideEnd a) : ∃ b t, tailR s ++ a :: r = b :: t ∧ stops b t ∧ b ≠ 123 ∧ (b = 125 ↔ (s.fin = true ∨ 0 < s.after.length)) := by
  unfold tailR
  by_cases hc : s.fin = true ∨ 0 < s.after.length
  · rw [if_pos hc]
    exact ⟨125, _, rfl, .inr (.inl rfl), by decide, by simp [hc]⟩
  · rw [if_neg hc]
    have h1 : s.after = [] := by
      cases hh : s.after with
      | nil => rfl
      | cons x xs => exact absurd (.inr (by rw [hh]; simp)) hc
    have h2 : ¬ s.fin = true := fun h => hc (.inl h)
    rw [h1, if_neg h2, itemsR, if_neg (by decide)]
    refine ⟨a, r, rfl, h.stops r, ?_, ?_⟩
    · rcases h with rfl | rfl | rfl <;> decide
    · have : a ≠ 125 := by rcases h with rfl | rfl | rfl <;> decide
      simp [this, h2]

theorem tail_read {l r : List Int} {a : Int} {q : Nat} (s : Side) (x y : List Item) (c : Int) (st : Bool) (he : sideEnd a) (h : l.drop q = tailR s ++ a :: r) (ha : itemsE s.after = 0) :
    ∃ q' bs, sideTail l ⟨st, false, x, y, [], c⟩ q = .ok ⟨st, s.fin, x, y, s.after.map bareI, c⟩ q' ∧ l.drop q' = bs ++ a :: r ∧ bl bs := by
  by_cases hc : s.fin = true ∨ 0 < s.after.length
  · unfold tailR at h
    rw [if_pos hc] at h
    have h1 : l.drop q = 125 :: (32 :: (itemsR s.after (-1) ++ (if s.fin = true then [36, 32] else []) ++ a :: r)) := by rw [h]; simp
    have t1 := sits_tail h1
    unfold sideTail
    rw [sits_head h1, if_pos rfl]
    by_cases hf : s.fin = true
    · rw [if_pos hf] at t1
      obtain ⟨q', hi, hd⟩ := items_read (a := 36) (r := 32 :: a :: r) (bs := [32]) (.inr (.inr (.inr (.inr (.inr ⟨rfl, _, rfl⟩))))) (p := q + 1) (l := l) (ys := s.after) (k := -1) (by rw [t1]; simp) bl32 ha (by omega) (by omega)
      rw [hi]
      simp only
      rw [if_neg (by omega), sits_head hd, if_pos rfl, hf]
      exact ⟨q' + 1, [32], rfl, by rw [sits_tail hd]; rfl, bl32⟩
    · rw [if_neg hf] at t1
      obtain ⟨q', hi, hd⟩ := items_read (a := a) (r := r) (bs := [32]) (he.stops r) (p := q + 1) (l := l) (ys := s.after) (k := -1) (by rw [t1]; simp) bl32 ha (by omega) (by omega)
      rw [hi]
      simp only
      have h36 : a ≠ 36 := by rcases he with rfl | rfl | rfl <;> decide
      rw [if_neg (by omega), sits_head hd, if_neg h36]
      have hf' : s.fin = false := by simpa using hf
      rw [hf']
      exact ⟨q', [], rfl, by rw [hd]; rfl, bl_nil⟩
  · obtain ⟨b, t, hb, _, _, h125⟩ := tail_head s (r := r) he
    have h1 : s.after = [] := by
      cases hh : s.after with
      | nil => rfl
      | cons x xs => exact absurd (.inr (by rw [hh]; simp)) hc
    have h2 : s.fin = false := by cases hh : s.fin with
      | false => rfl
      | true => exact absurd (.inl hh) hc
    have hn : ¬ b = 125 := fun e => hc (h125.1 e)
    unfold sideTail
    rw [sits_head (by rw [h, hb]), if_neg hn, h1, h2]
    refine ⟨q, [], rfl, ?_, bl_nil⟩
    rw [h]
    unfold tailR
    rw [h1, h2]
    simp [itemsR]

theorem sideR_eq (s : Side) : sideR s = (if s.start = true then [94, 32] else []) ++ (itemsR s.before (-1) ++ ((if s.start = true ∨ 0 < s.before.length then [123, 32] else []) ++ (itemsR s.source s.cursor ++ tailR s))) := by
  unfold sideR tailR
  simp

theorem side_read {l r bs : List Int} {a : Int} {p : Nat} {s : Side} {m : Bool} (he : sideEnd a) (h : l.drop p = bs ++ (sideR s ++ a :: r)) (hb : bl bs) (hs : sideE s m = 0) :
    ∃ q bs', side l p = .ok (bareS s) q ∧ l.drop q = bs' ++ a :: r ∧ bl bs' := by
  obtain ⟨zb, zs, za, zc, zd⟩ := sideE_zero hs
  obtain ⟨tb, tt, htl, hst, hn123, _⟩ := tail_head s (r := r) he
  rw [sideR_eq] at h
  by_cases hc : s.start = true ∨ 0 < s.before.length
  · rw [if_pos hc] at h
    -- where the items of Before begin
    obtain ⟨b, bs1, hg, hb1, hst1, hd1⟩ : ∃ (b : Nat) (bs1 : List Int), (if decide (see l (gap l p) = 94) = true then gap l p + 1 else gap l p) = b ∧ bl bs1 ∧ decide (see l (gap l p) = 94) = s.start ∧ l.drop b = bs1 ++ (itemsR s.before (-1) ++ 123 :: (32 :: (itemsR s.source s.cursor ++ tailR s ++ a :: r))) := by
      by_cases hs1 : s.start = true
      · rw [if_pos hs1] at h
        have h1 : l.drop p = bs ++ 94 :: (32 :: (itemsR s.before (-1) ++ 123 :: (32 :: (itemsR s.source s.cursor ++ tailR s ++ a :: r)))) := by rw [h]; simp
        have g := gap_at h1 hb (by decide) (by decide)
        have n1 := sits_next h1
        rw [g, sits_head n1]
        exact ⟨_, [32], rfl, bl32, by rw [hs1]; rfl, by simp only [decide_true, if_true]; rw [sits_tail n1]; rfl⟩
      · rw [if_neg hs1] at h
        have h1 : l.drop p = bs ++ (itemsR s.before (-1) ++ 123 :: (32 :: (itemsR s.source s.cursor ++ tailR s ++ a :: r))) := by rw [h]; simp
        obtain ⟨b, t, hbt, n35, _, _, n94, nb⟩ := itemsR_head (ys := s.before) (k := -1) (a := 123) (r := 32 :: (itemsR s.source s.cursor ++ tailR s ++ a :: r)) (itemsE_zero.1 zb).2 (.inl rfl)
        have g := gap_at (m := bs) (a := b) (r := t) (l := l) (p := p) (by rw [h1, hbt]) hb nb n35
        have n1 := sits_next h1
        have hh := sits_head (a := b) (r := t) (by rw [n1, hbt])
        have hs0 : s.start = false := by simpa using hs1
        rw [g, hh, hs0, decide_eq_false n94]
        exact ⟨_, [], rfl, bl_nil, rfl, by simp only [Bool.false_eq_true, if_false]; rw [n1]; rfl⟩
    obtain ⟨q, hi, hdq⟩ := items_read (.inl rfl) hd1 hb1 zb (by omega) (by omega)
    have t1 := sits_tail hdq
    obtain ⟨q2, hi2, hdq2⟩ := items_read (a := tb) (r := tt) (bs := [32]) hst (p := q + 1) (l := l) (ys := s.source) (k := s.cursor) (by rw [t1, ← htl]; simp) bl32 zs zc zd
    obtain ⟨q3, bs3, ht, hd3, hb3⟩ := tail_read s (s.before.map bareI) (s.source.map bareI) s.cursor s.start he (by rw [hdq2, htl]) za
    refine ⟨q3, bs3, ?_, hd3, hb3⟩
    unfold side
    simp only
    rw [hg, hst1, hi]
    simp only
    rw [if_pos (.inr (sits_head hdq)), if_neg (by omega), sits_head hdq, if_neg (by simp), hi2]
    simp only
    rw [ht]
    rfl
  · have hs0 : s.start = false := by cases hh : s.start with
      | false => rfl
      | true => exact absurd (.inl hh) hc
    have hb0 : s.before = [] := by
      cases hh : s.before with
      | nil => rfl
      | cons x xs => exact absurd (.inr (by rw [hh]; simp)) hc
    rw [if_neg hc, if_neg (by rw [hs0]; simp), hb0] at h
    have h1 : l.drop p = bs ++ (itemsR s.source s.cursor ++ tb :: tt) := by rw [h, ← htl]; simp [itemsR]
    obtain ⟨b, t, hbt, n35, _, _, n94, nb⟩ := itemsR_head (ys := s.source) (k := s.cursor) (itemsE_zero.1 zs).2 hst
    have g := gap_at (m := bs) (a := b) (r := t) (l := l) (p := p) (by rw [h1, hbt]) hb nb n35
    have n1 := sits_next h1
    have hh := sits_head (a := b) (r := t) (by rw [n1, hbt])
    obtain ⟨q, hi, hdq⟩ := items_read (bs := []) hst (p := p + bs.length) (l := l) (ys := s.source) (k := s.cursor) (by rw [n1]; rfl) bl_nil zs zc zd
    obtain ⟨q3, bs3, ht, hd3, hb3⟩ := tail_read s [] (s.source.map bareI) s.cursor s.start he (by rw [hdq, htl]) za
    refine ⟨q3, bs3, ?_, hd3, hb3⟩
    unfold side
    simp only
    rw [g, hh, decide_eq_false n94]
    simp only [Bool.false_eq_true, if_false, false_or]
    rw [hi]
    simp only
    rw [if_neg (by rw [sits_head hdq]; exact hn123)]
    rw [hs0] at ht
    rw [ht]
    unfold bareS
    rw [hs0, hb0]
    rfl

theorem dir_read {l r bs : List Int} {p : Nat} {d : Int} (hd : d = 1 ∨ d = 2 ∨ d = 3) (h : l.drop p = bs ++ (arrowR d ++ 32 :: r)) (hb : bl bs) : ∃ q, dirAt l p = .ok d q ∧ l.drop q = 32 :: r := by
  rcases hd with rfl | rfl | rfl
  · have h1 : l.drop p = bs ++ 62 :: (32 :: r) := by rw [h]; rfl
    have g := gap_at h1 hb (by decide) (by decide)
    have n1 := sits_next h1
    refine ⟨_, ?_, sits_tail n1⟩
    unfold dirAt
    simp only
    rw [g, sits_head n1, if_pos rfl]
  · have h1 : l.drop p = bs ++ 60 :: (32 :: r) := by rw [h]; rfl
    have g := gap_at h1 hb (by decide) (by decide)
    have n1 := sits_next h1
    refine ⟨_, ?_, sits_tail n1⟩
    unfold dirAt
    simp only
    rw [g, sits_head n1, if_neg (by decide), if_neg (by simp), sits_head (sits_tail n1), if_neg (by decide)]
  · have h1 : l.drop p = bs ++ 60 :: (62 :: 32 :: r) := by rw [h]; rfl
    have g := gap_at h1 hb (by decide) (by decide)
    have n1 := sits_next h1
    refine ⟨_, ?_, sits_tail (sits_tail n1)⟩
    unfold dirAt
    simp only
    rw [g, sits_head n1, if_neg (by decide), if_neg (by simp), sits_head (sits_tail n1), if_pos rfl]

theorem arrow_head {d : Int} (hd : d = 1 ∨ d = 2 ∨ d = 3) (r : List Int) : ∃ a t, arrowR d ++ 32 :: r = a :: t ∧ sideEnd a := by
  rcases hd with rfl | rfl | rfl
  · exact ⟨62, _, rfl, .inl rfl⟩
  · exact ⟨60, _, rfl, .inr (.inl rfl)⟩
  · exact ⟨60, _, rfl, .inr (.inl rfl)⟩

theorem rule_read {l r : List Int} {p : Nat} {x : Part} (h : l.drop p = sideR x.left ++ (arrowR x.dir ++ [32]) ++ sideR x.right ++ 59 :: r) (hx : ruleE x = 0) :
    ∃ q bs', rule l p = .ok ⟨2, ⟨#[]⟩, [], x.dir, bareS x.left, bareS x.right⟩ q ∧ l.drop q = bs' ++ 59 :: r ∧ bl bs' := by
  obtain ⟨hd, hl, hr, _⟩ := ruleE_zero hx
  obtain ⟨a, t, hat, hae⟩ := arrow_head hd (sideR x.right ++ 59 :: r)
  obtain ⟨q1, b1, e1, d1, hb1⟩ := side_read (bs := []) hae (l := l) (p := p) (s := x.left) (r := t) (by rw [h, ← hat]; simp) bl_nil hl
  obtain ⟨q2, e2, d2⟩ := dir_read hd (l := l) (p := q1) (bs := b1) (r := sideR x.right ++ 59 :: r) (by rw [d1, hat]) hb1
  obtain ⟨q3, b3, e3, d3, hb3⟩ := side_read (bs := [32]) (.inr (.inr rfl)) (l := l) (p := q2) (s := x.right) (r := r) (by rw [d2]; rfl) bl32 hr
  refine ⟨q3, b3, ?_, d3, hb3⟩
  unfold rule
  rw [e1]
  simp only
  rw [e2]
  simp only
  rw [e3]

/-- where a rule begins nothing else does -/
theorem items_first {l r : List Int} {a : Int} (hs : stops a r) {ys : List Item} {k : Int} {p : Nat} (hy : ∀ x ∈ ys, itemE x = 0) (h : l.drop p = itemsR ys k ++ a :: r) :
    see l p ≠ 58 ∧ (varNext l p = true → ∃ n q, varAt l p = .ok n q ∧ see l (gap l q) ≠ 61) := by
  obtain ⟨b, t, hbt, _, _, n58, _, _⟩ := itemsR_head (k := k) hy hs
  have hh := sits_head (a := b) (r := t) (by rw [h, hbt])
  refine ⟨by rw [hh]; exact n58, fun hv => ?_⟩
  have hv36 : b = 36 := by unfold varNext at hv; rw [hh, Bool.and_eq_true] at hv; exact of_decide_eq_true hv.1
  subst hv36
  cases ys with
  | nil =>
    rw [itemsR] at hbt h
    by_cases hk : k = 0
    · rw [if_pos hk] at hbt; cases hbt
    · rw [if_neg hk] at hbt h
      have := (item_stop (l := l) (p := p) (a := a) (r := r) (by rw [h]; rfl) hs).1
      have e : a = 36 := by cases hbt; rfl
      rcases hs with rfl | rfl | rfl | rfl | rfl | ⟨rfl, r', rfl⟩
      · cases e
      · cases e
      · cases e
      · cases e
      · cases e
      · have h2 := sits_head (a := 32) (r := r') (sits_tail (a := 36) (by rw [h]; rfl))
        unfold varNext at hv
        rw [h2, Bool.and_eq_true] at hv
        exact absurd hv.2 (by decide)
  | cons x ys =>
    rw [itemsR] at hbt h
    by_cases hk : k = 0
    · rw [if_pos hk] at hbt; cases hbt
    · rw [if_neg hk] at hbt h
      rcases itemE_cases (hy x (by simp)) with ⟨h1, h2⟩ | ⟨h1, h2⟩ | ⟨h1, h2⟩
      · have e : itemR x = T.quoR x.rune := by unfold itemR; rw [if_neg (by omega), if_neg (by omega)]
        obtain ⟨c, u, hc, hf⟩ := T.quoR_cons (r := x.rune)
        rw [e, hc] at hbt
        have : c = 36 := by cases hbt; rfl
        rcases hf with hf | hf
        · omega
        · have := T.plain_cases hf; omega
      · have e : itemR x = T.prtR x.set := by unfold itemR; rw [if_pos h1]
        obtain ⟨c, u, hc, _⟩ := T.prtR_head x.set
        rw [e, hc] at hbt
        cases hbt
      · have e : itemR x = 36 :: nameR x.name := by unfold itemR; rw [if_neg (by omega), if_pos h1]
        have h3 : l.drop p = 36 :: nameR x.name ++ 32 :: (itemsR ys (k - 1) ++ a :: r) := by rw [h, e]; simp
        obtain ⟨_, hva⟩ := varAt_named h3 h2
        refine ⟨_, _, hva, ?_⟩
        have hn : l.drop (p + 1 + (nameR x.name).length) = 32 :: (itemsR ys (k - 1) ++ a :: r) := sits_next (sits_tail (a := 36) (by simpa using h3))
        obtain ⟨c, u, hcu, m35, m61, _, _, mb⟩ := itemsR_head (ys := ys) (k := k - 1) (fun y hy' => hy y (List.mem_cons_of_mem _ hy')) hs
        have g := gap_at (m := [32]) (a := c) (r := u) (l := l) (p := p + 1 + (nameR x.name).length) (by rw [hn, hcu]; rfl) bl32 mb m35
        have n1 := sits_head (a := c) (r := u) (by rw [sits_tail hn, hcu])
        rw [g, List.length_singleton, n1]
        exact m61

theorem rule_first {l r : List Int} {p : Nat} {x : Part} (h : l.drop p = sideR x.left ++ (arrowR x.dir ++ [32]) ++ sideR x.right ++ 59 :: r) (hx : ruleE x = 0) :
    see l p ≠ 58 ∧ (varNext l p = true → ∃ n q, varAt l p = .ok n q ∧ see l (gap l q) ≠ 61) := by
  obtain ⟨hd, hl, hr, _⟩ := ruleE_zero hx
  obtain ⟨a, t, hat, hae⟩ := arrow_head hd (sideR x.right ++ 59 :: r)
  obtain ⟨zb, zs, za, zc, zd⟩ := sideE_zero hl
  have h' : l.drop p = sideR x.left ++ a :: t := by rw [h, ← hat]; simp
  obtain ⟨tb, tt, htl, hst, _, _⟩ := tail_head x.left (r := t) hae
  rw [sideR_eq] at h'
  by_cases hs1 : x.left.start = true
  · rw [if_pos hs1] at h'
    have hh := sits_head (a := 94) (l := l) (p := p) (by rw [h']; rfl)
    refine ⟨by rw [hh]; decide, fun hv => ?_⟩
    unfold varNext at hv
    rw [hh] at hv
    exact absurd hv (by simp)
  · rw [if_neg hs1] at h'
    by_cases hb : 0 < x.left.before.length
    · rw [if_pos (.inr hb)] at h'
      exact items_first (a := 123) (r := 32 :: (itemsR x.left.source x.left.cursor ++ tailR x.left ++ a :: t)) (.inl rfl) (ys := x.left.before) (k := -1) (itemsE_zero.1 zb).2 (by rw [h']; simp)
    · have hb0 : x.left.before = [] := by
        cases hh : x.left.before with
        | nil => rfl
        | cons y ys => exact absurd (by rw [hh]; simp) hb
      rw [if_neg (by simp [hs1, hb0]), hb0] at h'
      exact items_first hst (ys := x.left.source) (k := x.left.cursor) (itemsE_zero.1 zs).2 (by rw [h', ← htl]; simp [itemsR])

theorem set_read {l rest : List Int} {p : Nat} {s : List Sp} (h : l.drop p = T.prtR s ++ rest) (hw : S.wrongE s = 0) : see l p = 91 ∧ T.setN 20 l p = .ok s (p + (T.prtR s).length) := by
  obtain ⟨hl, hn⟩ := S.wrongE_zero.1 hw
  obtain ⟨a, t, ha, _⟩ := T.prtR_head s
  have hs := sits_head (a := 91) (r := a :: t ++ rest) (by rw [h, ha]; rfl)
  have hlt := sits_lt (a := 91) (r := a :: t ++ rest) (by rw [h, ha]; rfl)
  have hlong := T.prt_long s
  have hlen := sits_len h (by omega)
  have hsz : (T.prtR s).length = (T.innerR s).length + 2 := by simp [T.prtR]
  exact ⟨hs, T.set_prt (n := 19) h hn hl (by omega)⟩

theorem part_read {l r : List Int} {p : Nat} {x : Part} (h : l.drop p = wordsR x ++ 59 :: r) (hx : partE x = 0) :
    ∃ q bs', part l p = .ok (bareP x) q ∧ l.drop q = bs' ++ 59 :: r ∧ bl bs' := by
  rcases partE_cases hx with ⟨h1, h2, h3⟩ | ⟨h1, h3⟩ | ⟨h1, h2⟩ | ⟨h1, h2⟩
  · unfold wordsR at h
    rw [if_pos h1] at h
    have hA : l.drop p = 36 :: nameR x.name ++ 32 :: (61 :: 32 :: (T.prtR x.set ++ 32 :: 59 :: r)) := by rw [h]; simp
    obtain ⟨hv, hva⟩ := varAt_named hA h2
    have h36 := sits_head (a := 36) (l := l) (p := p) (by rw [hA]; rfl)
    have n1 : l.drop (p + 1 + (nameR x.name).length) = 32 :: (61 :: 32 :: (T.prtR x.set ++ 32 :: 59 :: r)) := sits_next (sits_tail (a := 36) (by simpa using hA))
    have g1 := gap_at (m := [32]) (a := 61) (l := l) (p := p + 1 + (nameR x.name).length) (by rw [n1]; rfl) bl32 (by decide) (by decide)
    have t1 := sits_tail n1
    have t2 := sits_tail t1
    have t3 := sits_tail t2
    obtain ⟨h91, hset⟩ := set_read t3 h3
    obtain ⟨a, t, ha, _⟩ := T.prtR_head x.set
    have g2 := gap_at (m := [32]) (a := 91) (r := a :: t ++ 32 :: 59 :: r) (l := l) (p := p + 1 + (nameR x.name).length + 1 + 1) (by rw [t2, ha]; rfl) bl32 (by decide) (by decide)
    refine ⟨_, [32], ?_, by rw [sits_next t3]; rfl, bl32⟩
    unfold part
    rw [h36, if_neg (by decide), hv, if_pos rfl, hva]
    simp only
    rw [g1, List.length_singleton, sits_head t1, if_pos rfl, g2, List.length_singleton, hset]
    simp only
    unfold bareP
    simp [h1]
  · unfold wordsR at h
    rw [if_neg (by omega), if_pos h1] at h
    have hA : l.drop p = 58 :: 58 :: 32 :: (T.prtR x.set ++ 32 :: 59 :: r) := by rw [h]; simp
    have t1 := sits_tail hA
    have t2 := sits_tail t1
    have t3 := sits_tail t2
    obtain ⟨h91, hset⟩ := set_read t3 h3
    obtain ⟨a, t, ha, _⟩ := T.prtR_head x.set
    have g2 := gap_at (m := [32]) (a := 91) (r := a :: t ++ 32 :: 59 :: r) (l := l) (p := p + 1 + 1) (by rw [t2, ha]; rfl) bl32 (by decide) (by decide)
    refine ⟨_, [32], ?_, by rw [sits_next t3]; rfl, bl32⟩
    unfold part
    rw [sits_head hA, if_pos rfl, sits_head t1, if_neg (by simp), show p + 2 = p + 1 + 1 from rfl, g2, List.length_singleton]
    unfold wholeAt
    rw [h91, if_pos rfl, hset]
    simp only
    unfold bareP
    simp [h1]
  · unfold wordsR at h
    rw [if_neg (by omega), if_neg (by omega), if_pos h1] at h
    have hA : l.drop p = 58 :: 58 :: 32 :: (nameR x.name ++ 32 :: 59 :: r) := by rw [h]; simp
    have t1 := sits_tail hA
    have t2 := sits_tail t1
    have t3 := sits_tail t2
    obtain ⟨hall, hf⟩ := passes_named h2
    obtain ⟨e1, e2⟩ := word_at t3 hall hf
    rw [bytes_nameR] at e2
    obtain ⟨a, t, ha, hla⟩ := hf
    have hh := sits_head (a := a) (r := t ++ 32 :: 59 :: r) (by rw [t3, ha]; rfl)
    have hw := wordy_small (letter_wordy hla)
    have hl2 : 95 ≤ a := by
      unfold letter at hla
      simp only [Bool.or_eq_true, Bool.and_eq_true, decide_eq_true_eq] at hla
      omega
    have hbk : T.blank a = false := by
      have hb : T.blank a = false ↔ ¬ (a = 32 ∨ a = 9 ∨ a = 10) := by simp [T.blank, T.blanks]
      rw [hb]; omega
    have g2 := gap_at (m := [32]) (a := a) (r := t ++ 32 :: 59 :: r) (l := l) (p := p + 1 + 1) (by rw [t2, ha]; rfl) bl32 hbk (by omega)
    refine ⟨_, [32], ?_, by rw [sits_next t3]; rfl, bl32⟩
    unfold part
    rw [sits_head hA, if_pos rfl, sits_head t1, if_neg (by simp), show p + 2 = p + 1 + 1 from rfl, g2, List.length_singleton]
    unfold wholeAt
    rw [hh, if_neg (by omega), e2, if_pos h2, e1]
    unfold bareP
    simp [h1]
  · unfold wordsR at h
    rw [if_neg (by omega), if_neg (by omega), if_neg (by omega), if_pos h1] at h
    obtain ⟨f58, fv⟩ := rule_first h h2
    obtain ⟨q, bs', hr, hd, hb⟩ := rule_read h h2
    refine ⟨q, bs', ?_, hd, hb⟩
    have hbare : bareP x = ⟨2, ⟨#[]⟩, [], x.dir, bareS x.left, bareS x.right⟩ := by unfold bareP; simp [h1]
    rw [hbare]
    unfold part
    rw [if_neg f58]
    by_cases hv : varNext l p = true
    · obtain ⟨n, q', hva, h61⟩ := fv hv
      rw [if_pos hv, hva]
      simp only
      rw [if_neg h61, hr]
    · rw [if_neg hv, hr]

/-! what is bare is right if it was -/
theorem bareI_ok {x : Item} (h : itemE x = 0) : itemE (bareI x) = 0 ∧ (bareI x).kind = x.kind := by
  rcases itemE_cases h with ⟨h1, h2⟩ | ⟨h1, h2⟩ | ⟨h1, h2⟩
  · unfold bareI; rw [if_pos h1]; exact ⟨by simp [itemE, runeI, h2], by rw [h1]; rfl⟩
  · unfold bareI; rw [if_neg (by omega), if_pos h1]; exact ⟨by simp [itemE, setI, h2], by rw [h1]; rfl⟩
  · unfold bareI; rw [if_neg (by omega), if_neg (by omega), if_pos h1]; exact ⟨by simp [itemE, varI, h2], by rw [h1]; rfl⟩
theorem bareItems_ok {l : List Item} (h : itemsE l = 0) : itemsE (l.map bareI) = 0 := by
  obtain ⟨h1, h2⟩ := itemsE_zero.1 h
  refine itemsE_zero.2 ⟨by simpa using h1, fun x hx => ?_⟩
  obtain ⟨y, hy, rfl⟩ := List.mem_map.1 hx
  exact (bareI_ok (h2 y hy)).1
theorem bareS_ok {s : Side} {m : Bool} (h : sideE s m = 0) : sideE (bareS s) m = 0 := by
  obtain ⟨zb, zs, za, zc, zd⟩ := sideE_zero h
  unfold sideE at h ⊢
  have e1 : (bareS s).before = s.before.map bareI := rfl
  have e2 : (bareS s).source = s.source.map bareI := rfl
  have e3 : (bareS s).after = s.after.map bareI := rfl
  have e4 : (bareS s).cursor = s.cursor := rfl
  rw [zb, zs, za] at h
  rw [e1, e2, e3, e4, bareItems_ok zb, bareItems_ok zs, bareItems_ok za, List.length_map]
  exact h
theorem bare_gives {s : Side} (h : itemsE s.source = 0) : gives (bareS s) = gives s := by
  obtain ⟨_, h2⟩ := itemsE_zero.1 h
  unfold gives
  show (s.source.map bareI).all _ = _
  rw [List.all_map]
  generalize s.source = l at h2
  induction l with
  | nil => rfl
  | cons x l ih =>
    simp only [List.all_cons, Function.comp]
    rw [(bareI_ok (h2 x (by simp))).2]
    have := ih fun y hy => h2 y (List.mem_cons_of_mem _ hy)
    exact congrArg _ this
theorem bare_around (s : Side) : around (bareS s) = around s := by
  unfold around
  simp [bareS]
theorem bareP_ok {x : Part} (h : partE x = 0) : partE (bareP x) = 0 := by
  rcases partE_cases h with ⟨h1, h2, h3⟩ | ⟨h1, h3⟩ | ⟨h1, h2⟩ | ⟨h1, h2⟩
  · unfold partE bareP; simp [h1, h2, h3]
  · unfold partE bareP; simp [h1, h3]
  · unfold partE bareP; simp [h1, h2]
  · have hbare : bareP x = ⟨2, ⟨#[]⟩, [], x.dir, bareS x.left, bareS x.right⟩ := by unfold bareP; simp [h1]
    obtain ⟨hd, hl, hr, hf⟩ := ruleE_zero h2
    have zl := sideE_zero hl
    have zr := sideE_zero hr
    have hf' : fits (bareP x) = true := by
      rw [← hf, hbare]
      unfold fits
      simp only
      rw [bare_gives zl.2.1, bare_gives zr.2.1, bare_around, bare_around]
      rfl
    rw [hbare] at hf' ⊢
    unfold partE
    simp only
    rw [if_neg (by decide), if_neg (by decide), if_neg (by decide), if_pos trivial]
    unfold ruleE
    simp only
    rw [if_neg (by omega), if_neg (by rw [bareS_ok hl]; simp), if_neg (by rw [bareS_ok hr]; simp), if_pos hf']

theorem ended_read {l r : List Int} {p : Nat} {x : Part} (h : l.drop p = partR x ++ r) (hx : partE x = 0) : ∃ q, ended l p = .ok (bareP x) q ∧ l.drop q = 10 :: r := by
  have h' : l.drop p = wordsR x ++ 59 :: 10 :: r := by rw [h]; simp [partR]
  obtain ⟨q, bs, hp, hd, hb⟩ := part_read h' hx
  have g := gap_at hd hb (by decide) (by decide)
  have n1 := sits_next hd
  refine ⟨_, ?_, sits_tail n1⟩
  unfold ended
  rw [hp]
  simp only
  rw [g, sits_head n1, if_neg (by simp), bareP_ok hx, if_neg (by simp)]

theorem partR_head {x : Part} (hx : partE x = 0) (r : List Int) : ∃ b t, partR x ++ r = b :: t ∧ b ≠ 35 ∧ b ≠ -1 ∧ T.blank b = false := by
  rcases partE_cases hx with ⟨h1, h2, h3⟩ | ⟨h1, h3⟩ | ⟨h1, h2⟩ | ⟨h1, h2⟩
  · unfold partR wordsR; rw [if_pos h1]; exact ⟨36, _, rfl, by decide⟩
  · unfold partR wordsR; rw [if_neg (by omega), if_pos h1]; exact ⟨58, _, rfl, by decide⟩
  · unfold partR wordsR; rw [if_neg (by omega), if_neg (by omega), if_pos h1]; exact ⟨58, _, rfl, by decide⟩
  · unfold partR wordsR
    rw [if_neg (by omega), if_neg (by omega), if_neg (by omega), if_pos h1]
    obtain ⟨hd, hl, hr, _⟩ := ruleE_zero h2
    obtain ⟨a, t, hat, hae⟩ := arrow_head hd (sideR x.right ++ 59 :: 10 :: r)
    obtain ⟨zb, zs, za, zc, zd⟩ := sideE_zero hl
    obtain ⟨tb, tt, htl, hst, _, _⟩ := tail_head x.left (r := t) hae
    have e : sideR x.left ++ (arrowR x.dir ++ [32]) ++ sideR x.right ++ [59, 10] ++ r = sideR x.left ++ a :: t := by rw [← hat]; simp
    rw [e, sideR_eq]
    have fin : ∀ {b : Int}, b ≠ 35 → T.blank b = false → b ≠ 61 → b ≠ 58 → b ≠ 94 → b ≠ -1 ∨ b = -1 := fun _ _ _ _ _ => by omega
    by_cases hs1 : x.left.start = true
    · rw [if_pos hs1]; exact ⟨94, _, rfl, by decide⟩
    · rw [if_neg hs1]
      by_cases hb : 0 < x.left.before.length
      · rw [if_pos (.inr hb)]
        cases hh : x.left.before with
        | nil => rw [hh] at hb; simp at hb
        | cons y ys =>
          obtain ⟨b, u, hbu, hf⟩ := itemR_head ((itemsE_zero.1 zb).2 y (by rw [hh]; simp))
          have hn := itemR_not hf
          rw [itemsR, if_neg (by decide), hbu]
          refine ⟨b, _, rfl, hn.2.1, ?_, hn.2.2.2.2.2.2.2⟩
          rcases hf with rfl | hf | rfl | rfl
          · decide
          · have := T.plain_cases hf; omega
          · decide
          · decide
      · have hb0 : x.left.before = [] := by
          cases hh : x.left.before with
          | nil => rfl
          | cons y ys => exact absurd (by rw [hh]; simp) hb
        rw [if_neg (by simp [hs1, hb0]), hb0]
        have e2 : ([] : List Int) ++ (itemsR [] (-1) ++ ([] ++ (itemsR x.left.source x.left.cursor ++ tailR x.left))) ++ a :: t = itemsR x.left.source x.left.cursor ++ tb :: tt := by rw [← htl]; simp [itemsR]
        rw [e2]
        cases hh : x.left.source with
        | nil =>
          rw [itemsR]
          by_cases hk : x.left.cursor = 0
          · rw [if_pos hk]; exact ⟨124, _, rfl, by decide⟩
          · rw [if_neg hk]
            refine ⟨tb, tt, rfl, ?_⟩
            rcases hst with rfl | rfl | rfl | rfl | rfl | ⟨rfl, _⟩ <;> decide
        | cons y ys =>
          rw [itemsR]
          by_cases hk : x.left.cursor = 0
          · rw [if_pos hk]; exact ⟨124, _, rfl, by decide⟩
          · obtain ⟨b, u, hbu, hf⟩ := itemR_head ((itemsE_zero.1 zs).2 y (by rw [hh]; simp))
            have hn := itemR_not hf
            rw [if_neg hk, hbu]
            refine ⟨b, _, rfl, hn.2.1, ?_, hn.2.2.2.2.2.2.2⟩
            rcases hf with rfl | hf | rfl | rfl
            · decide
            · have := T.plain_cases hf; omega
            · decide
            · decide

theorem parts_go {l : List Int} : ∀ (ys xs : List Part) (f p : Nat) (bs : List Int), l.drop p = bs ++ printR ys → p ≤ l.length → bl bs → (∀ x ∈ ys, partE x = 0) → xs.length + ys.length ≤ 200 → ys.length < f →
    ∃ q, partsN f l xs (gap l p) = .ok (xs ++ ys.map bareP) q := by
  intro ys
  induction ys with
  | nil =>
    intro xs f p bs h hp hb _ _ hf
    obtain ⟨f, rfl⟩ : ∃ g, f = g + 1 := ⟨f - 1, by simp at hf; omega⟩
    have g := gap_end (m := bs) (l := l) (p := p) (by rw [h]; simp [printR]) hp hb
    rw [g, partsN, T.see_ge (Nat.le_refl _), if_pos rfl]
    exact ⟨l.length, by simp⟩
  | cons y ys ih =>
    intro xs f p bs h hp hb hy hl hf
    obtain ⟨f, rfl⟩ : ∃ g, f = g + 1 := ⟨f - 1, by simp at hf; omega⟩
    have e : printR (y :: ys) = partR y ++ printR ys := by simp [printR]
    rw [e] at h
    obtain ⟨b, t, hbt, n35, nm, nb⟩ := partR_head (hy y (by simp)) (printR ys)
    have g := gap_at (m := bs) (a := b) (r := t) (l := l) (p := p) (by rw [h, hbt]) hb nb n35
    have n1 := sits_next h
    have hh := sits_head (a := b) (r := t) (by rw [n1, hbt])
    obtain ⟨q, hq, hdq⟩ := ended_read n1 (hy y (by simp))
    simp only [List.length_cons] at hl hf
    obtain ⟨q', hq'⟩ := ih (xs ++ [bareP y]) f q [10] (by rw [hdq]; rfl) (Nat.le_of_lt (sits_lt hdq)) bl10 (fun x hx => hy x (List.mem_cons_of_mem _ hx)) (by simp; omega) (by omega)
    refine ⟨q', ?_⟩
    rw [g, partsN, hh, if_neg nm, if_neg (by omega), hq]
    simp only
    rw [hq']
    simp

/-- what is written is read -/
theorem read_print {ys : List Part} (hy : ∀ x ∈ ys, partE x = 0) (h200 : ys.length ≤ 200) (hl : (printR ys).length ≤ 16000) : ∃ q, read (printR ys) = .ok (ys.map bareP) q := by
  obtain ⟨q, hq⟩ := parts_go ys [] 202 0 [] (l := printR ys) rfl (Nat.zero_le _) bl_nil hy (by simpa using h200) (by omega)
  refine ⟨q, ?_⟩
  unfold read parts
  rw [if_neg (by omega), hq]
  rfl

end Go.Proofs.YtchkcjaahjhbcabGreatDoor.R

/-
  Rows of sixteen cells: read, laid, and thirteen of them laid anew.
-/
namespace Go.Proofs.YtchkcjaahjhbcabGreatDoor
open Go.RowKit
set_option maxRecDepth 20000
set_option linter.unusedSimpArgs false
set_option linter.unusedVariables false

theorem R.cells13 {w : World} {b : Nat} {v0 v1 v2 v3 v4 v5 v6 v7 v8 v9 v10 v11 v12 v13 v14 v15 : Value} {t : TypeId} (h : w.heap[b]? = some (.cells #[v0, v1, v2, v3, v4, v5, v6, v7, v8, v9, v10, v11, v12, v13, v14, v15] t)) :
    w.cell? ⟨b, 3, none⟩ = some v3 ∧ w.cell? ⟨b, 4, none⟩ = some v4 ∧ w.cell? ⟨b, 5, none⟩ = some v5 ∧ w.cell? ⟨b, 6, none⟩ = some v6 ∧ w.cell? ⟨b, 7, none⟩ = some v7 ∧ w.cell? ⟨b, 8, none⟩ = some v8 ∧ w.cell? ⟨b, 9, none⟩ = some v9 ∧ w.cell? ⟨b, 10, none⟩ = some v10 ∧ w.cell? ⟨b, 11, none⟩ = some v11 ∧ w.cell? ⟨b, 12, none⟩ = some v12 ∧ w.cell? ⟨b, 13, none⟩ = some v13 ∧ w.cell? ⟨b, 14, none⟩ = some v14 ∧ w.cell? ⟨b, 15, none⟩ = some v15 :=
  ⟨R.at_box' (i := 3) h rfl, R.at_box' (i := 4) h rfl, R.at_box' (i := 5) h rfl, R.at_box' (i := 6) h rfl, R.at_box' (i := 7) h rfl, R.at_box' (i := 8) h rfl, R.at_box' (i := 9) h rfl, R.at_box' (i := 10) h rfl, R.at_box' (i := 11) h rfl, R.at_box' (i := 12) h rfl, R.at_box' (i := 13) h rfl, R.at_box' (i := 14) h rfl, R.at_box' (i := 15) h rfl⟩
theorem R.set_other {b g : Nat} (hne : ¬ b = g) (w : World) (i : Nat) (v : Value) : (w.setCell ⟨g, i, none⟩ v).heap[b]? = w.heap[b]? := heap_setCell_other w ⟨g, i, none⟩ b v hne
theorem R.keep13 {w w' : World} {b : Nat} {v0 v1 v2 v3 v4 v5 v6 v7 v8 v9 v10 v11 v12 v13 v14 v15 : Value} {t : TypeId} (h : w.heap[b]? = some (.cells #[v0, v1, v2, v3, v4, v5, v6, v7, v8, v9, v10, v11, v12, v13, v14, v15] t)) (hk : w'.heap[b]? = w.heap[b]?) :
    w'.cell? ⟨b, 3, none⟩ = some v3 ∧ w'.cell? ⟨b, 4, none⟩ = some v4 ∧ w'.cell? ⟨b, 5, none⟩ = some v5 ∧ w'.cell? ⟨b, 6, none⟩ = some v6 ∧ w'.cell? ⟨b, 7, none⟩ = some v7 ∧ w'.cell? ⟨b, 8, none⟩ = some v8 ∧ w'.cell? ⟨b, 9, none⟩ = some v9 ∧ w'.cell? ⟨b, 10, none⟩ = some v10 ∧ w'.cell? ⟨b, 11, none⟩ = some v11 ∧ w'.cell? ⟨b, 12, none⟩ = some v12 ∧ w'.cell? ⟨b, 13, none⟩ = some v13 ∧ w'.cell? ⟨b, 14, none⟩ = some v14 ∧ w'.cell? ⟨b, 15, none⟩ = some v15 :=
  R.cells13 (hk.trans h)
theorem R.free13 {w : World} {b : Nat} {c : Array Value} {t : TypeId} (h : w.heap[b]? = some (.cells c t)) :
    w.frozen? ⟨b, 3, none⟩ = false ∧ w.frozen? ⟨b, 4, none⟩ = false ∧ w.frozen? ⟨b, 5, none⟩ = false ∧ w.frozen? ⟨b, 6, none⟩ = false ∧ w.frozen? ⟨b, 7, none⟩ = false ∧ w.frozen? ⟨b, 8, none⟩ = false ∧ w.frozen? ⟨b, 9, none⟩ = false ∧ w.frozen? ⟨b, 10, none⟩ = false ∧ w.frozen? ⟨b, 11, none⟩ = false ∧ w.frozen? ⟨b, 12, none⟩ = false ∧ w.frozen? ⟨b, 13, none⟩ = false ∧ w.frozen? ⟨b, 14, none⟩ = false ∧ w.frozen? ⟨b, 15, none⟩ = false :=
  ⟨R.free_box (i := 3) h, R.free_box (i := 4) h, R.free_box (i := 5) h, R.free_box (i := 6) h, R.free_box (i := 7) h, R.free_box (i := 8) h, R.free_box (i := 9) h, R.free_box (i := 10) h, R.free_box (i := 11) h, R.free_box (i := 12) h, R.free_box (i := 13) h, R.free_box (i := 14) h, R.free_box (i := 15) h⟩
set_option maxHeartbeats 4000000 in
theorem R.put13 {w : World} {g : Nat} {v0 v1 v2 v3 v4 v5 v6 v7 v8 v9 v10 v11 v12 v13 v14 v15 : Value} {t : TypeId} (h : w.heap[g]? = some (.cells #[v0, v1, v2, v3, v4, v5, v6, v7, v8, v9, v10, v11, v12, v13, v14, v15] t)) (a3 a4 a5 a6 a7 a8 a9 a10 a11 a12 a13 a14 a15 : Value) :
    (((((((((((((w.setCell ⟨g, 3, none⟩ a3).setCell ⟨g, 4, none⟩ a4).setCell ⟨g, 5, none⟩ a5).setCell ⟨g, 6, none⟩ a6).setCell ⟨g, 7, none⟩ a7).setCell ⟨g, 8, none⟩ a8).setCell ⟨g, 9, none⟩ a9).setCell ⟨g, 10, none⟩ a10).setCell ⟨g, 11, none⟩ a11).setCell ⟨g, 12, none⟩ a12).setCell ⟨g, 13, none⟩ a13).setCell ⟨g, 14, none⟩ a14).setCell ⟨g, 15, none⟩ a15).heap[g]? = some (.cells #[v0, v1, v2, a3, a4, a5, a6, a7, a8, a9, a10, a11, a12, a13, a14, a15] t) ∧ w.grownBy (((((((((((((w.setCell ⟨g, 3, none⟩ a3).setCell ⟨g, 4, none⟩ a4).setCell ⟨g, 5, none⟩ a5).setCell ⟨g, 6, none⟩ a6).setCell ⟨g, 7, none⟩ a7).setCell ⟨g, 8, none⟩ a8).setCell ⟨g, 9, none⟩ a9).setCell ⟨g, 10, none⟩ a10).setCell ⟨g, 11, none⟩ a11).setCell ⟨g, 12, none⟩ a12).setCell ⟨g, 13, none⟩ a13).setCell ⟨g, 14, none⟩ a14).setCell ⟨g, 15, none⟩ a15) (some g) := by
  have h3 : (w.setCell ⟨g, 3, none⟩ a3).heap[g]? = some (.cells #[v0, v1, v2, a3, v4, v5, v6, v7, v8, v9, v10, v11, v12, v13, v14, v15] t) := heap_setCell_same _ g 3 _ t a3 h
  have h4 : ((w.setCell ⟨g, 3, none⟩ a3).setCell ⟨g, 4, none⟩ a4).heap[g]? = some (.cells #[v0, v1, v2, a3, a4, v5, v6, v7, v8, v9, v10, v11, v12, v13, v14, v15] t) := heap_setCell_same _ g 4 _ t a4 h3
  have h5 : (((w.setCell ⟨g, 3, none⟩ a3).setCell ⟨g, 4, none⟩ a4).setCell ⟨g, 5, none⟩ a5).heap[g]? = some (.cells #[v0, v1, v2, a3, a4, a5, v6, v7, v8, v9, v10, v11, v12, v13, v14, v15] t) := heap_setCell_same _ g 5 _ t a5 h4
  have h6 : ((((w.setCell ⟨g, 3, none⟩ a3).setCell ⟨g, 4, none⟩ a4).setCell ⟨g, 5, none⟩ a5).setCell ⟨g, 6, none⟩ a6).heap[g]? = some (.cells #[v0, v1, v2, a3, a4, a5, a6, v7, v8, v9, v10, v11, v12, v13, v14, v15] t) := heap_setCell_same _ g 6 _ t a6 h5
  have h7 : (((((w.setCell ⟨g, 3, none⟩ a3).setCell ⟨g, 4, none⟩ a4).setCell ⟨g, 5, none⟩ a5).setCell ⟨g, 6, none⟩ a6).setCell ⟨g, 7, none⟩ a7).heap[g]? = some (.cells #[v0, v1, v2, a3, a4, a5, a6, a7, v8, v9, v10, v11, v12, v13, v14, v15] t) := heap_setCell_same _ g 7 _ t a7 h6
  have h8 : ((((((w.setCell ⟨g, 3, none⟩ a3).setCell ⟨g, 4, none⟩ a4).setCell ⟨g, 5, none⟩ a5).setCell ⟨g, 6, none⟩ a6).setCell ⟨g, 7, none⟩ a7).setCell ⟨g, 8, none⟩ a8).heap[g]? = some (.cells #[v0, v1, v2, a3, a4, a5, a6, a7, a8, v9, v10, v11, v12, v13, v14, v15] t) := heap_setCell_same _ g 8 _ t a8 h7
  have h9 : (((((((w.setCell ⟨g, 3, none⟩ a3).setCell ⟨g, 4, none⟩ a4).setCell ⟨g, 5, none⟩ a5).setCell ⟨g, 6, none⟩ a6).setCell ⟨g, 7, none⟩ a7).setCell ⟨g, 8, none⟩ a8).setCell ⟨g, 9, none⟩ a9).heap[g]? = some (.cells #[v0, v1, v2, a3, a4, a5, a6, a7, a8, a9, v10, v11, v12, v13, v14, v15] t) := heap_setCell_same _ g 9 _ t a9 h8
  have h10 : ((((((((w.setCell ⟨g, 3, none⟩ a3).setCell ⟨g, 4, none⟩ a4).setCell ⟨g, 5, none⟩ a5).setCell ⟨g, 6, none⟩ a6).setCell ⟨g, 7, none⟩ a7).setCell ⟨g, 8, none⟩ a8).setCell ⟨g, 9, none⟩ a9).setCell ⟨g, 10, none⟩ a10).heap[g]? = some (.cells #[v0, v1, v2, a3, a4, a5, a6, a7, a8, a9, a10, v11, v12, v13, v14, v15] t) := heap_setCell_same _ g 10 _ t a10 h9
  have h11 : (((((((((w.setCell ⟨g, 3, none⟩ a3).setCell ⟨g, 4, none⟩ a4).setCell ⟨g, 5, none⟩ a5).setCell ⟨g, 6, none⟩ a6).setCell ⟨g, 7, none⟩ a7).setCell ⟨g, 8, none⟩ a8).setCell ⟨g, 9, none⟩ a9).setCell ⟨g, 10, none⟩ a10).setCell ⟨g, 11, none⟩ a11).heap[g]? = some (.cells #[v0, v1, v2, a3, a4, a5, a6, a7, a8, a9, a10, a11, v12, v13, v14, v15] t) := heap_setCell_same _ g 11 _ t a11 h10
  have h12 : ((((((((((w.setCell ⟨g, 3, none⟩ a3).setCell ⟨g, 4, none⟩ a4).setCell ⟨g, 5, none⟩ a5).setCell ⟨g, 6, none⟩ a6).setCell ⟨g, 7, none⟩ a7).setCell ⟨g, 8, none⟩ a8).setCell ⟨g, 9, none⟩ a9).setCell ⟨g, 10, none⟩ a10).setCell ⟨g, 11, none⟩ a11).setCell ⟨g, 12, none⟩ a12).heap[g]? = some (.cells #[v0, v1, v2, a3, a4, a5, a6, a7, a8, a9, a10, a11, a12, v13, v14, v15] t) := heap_setCell_same _ g 12 _ t a12 h11
  have h13 : (((((((((((w.setCell ⟨g, 3, none⟩ a3).setCell ⟨g, 4, none⟩ a4).setCell ⟨g, 5, none⟩ a5).setCell ⟨g, 6, none⟩ a6).setCell ⟨g, 7, none⟩ a7).setCell ⟨g, 8, none⟩ a8).setCell ⟨g, 9, none⟩ a9).setCell ⟨g, 10, none⟩ a10).setCell ⟨g, 11, none⟩ a11).setCell ⟨g, 12, none⟩ a12).setCell ⟨g, 13, none⟩ a13).heap[g]? = some (.cells #[v0, v1, v2, a3, a4, a5, a6, a7, a8, a9, a10, a11, a12, a13, v14, v15] t) := heap_setCell_same _ g 13 _ t a13 h12
  have h14 : ((((((((((((w.setCell ⟨g, 3, none⟩ a3).setCell ⟨g, 4, none⟩ a4).setCell ⟨g, 5, none⟩ a5).setCell ⟨g, 6, none⟩ a6).setCell ⟨g, 7, none⟩ a7).setCell ⟨g, 8, none⟩ a8).setCell ⟨g, 9, none⟩ a9).setCell ⟨g, 10, none⟩ a10).setCell ⟨g, 11, none⟩ a11).setCell ⟨g, 12, none⟩ a12).setCell ⟨g, 13, none⟩ a13).setCell ⟨g, 14, none⟩ a14).heap[g]? = some (.cells #[v0, v1, v2, a3, a4, a5, a6, a7, a8, a9, a10, a11, a12, a13, a14, v15] t) := heap_setCell_same _ g 14 _ t a14 h13
  have h15 : (((((((((((((w.setCell ⟨g, 3, none⟩ a3).setCell ⟨g, 4, none⟩ a4).setCell ⟨g, 5, none⟩ a5).setCell ⟨g, 6, none⟩ a6).setCell ⟨g, 7, none⟩ a7).setCell ⟨g, 8, none⟩ a8).setCell ⟨g, 9, none⟩ a9).setCell ⟨g, 10, none⟩ a10).setCell ⟨g, 11, none⟩ a11).setCell ⟨g, 12, none⟩ a12).setCell ⟨g, 13, none⟩ a13).setCell ⟨g, 14, none⟩ a14).setCell ⟨g, 15, none⟩ a15).heap[g]? = some (.cells #[v0, v1, v2, a3, a4, a5, a6, a7, a8, a9, a10, a11, a12, a13, a14, a15] t) := heap_setCell_same _ g 15 _ t a15 h14
  exact ⟨h15, (S.grown_trans (S.grown_trans (S.grown_trans (S.grown_trans (S.grown_trans (S.grown_trans (S.grown_trans (S.grown_trans (S.grown_trans (S.grown_trans (S.grown_trans (S.grown_trans (R.grown_set _ _ _ _) (R.grown_set _ _ _ _)) (R.grown_set _ _ _ _)) (R.grown_set _ _ _ _)) (R.grown_set _ _ _ _)) (R.grown_set _ _ _ _)) (R.grown_set _ _ _ _)) (R.grown_set _ _ _ _)) (R.grown_set _ _ _ _)) (R.grown_set _ _ _ _)) (R.grown_set _ _ _ _)) (R.grown_set _ _ _ _)) (R.grown_set _ _ _ _))⟩
set_option maxHeartbeats 4000000 in
theorem R.lay6 {w : World} {g : Nat} {v0 v1 v2 v3 v4 v5 v6 v7 v8 v9 v10 v11 v12 v13 v14 v15 : Value} {t : TypeId} (h : w.heap[g]? = some (.cells #[v0, v1, v2, v3, v4, v5, v6, v7, v8, v9, v10, v11, v12, v13, v14, v15] t)) (a4 a5 a6 a7 a8 a9 : Value) :
    ((((((w.setCell ⟨g, 4, none⟩ a4).setCell ⟨g, 5, none⟩ a5).setCell ⟨g, 6, none⟩ a6).setCell ⟨g, 7, none⟩ a7).setCell ⟨g, 8, none⟩ a8).setCell ⟨g, 9, none⟩ a9).heap[g]? = some (.cells #[v0, v1, v2, v3, a4, a5, a6, a7, a8, a9, v10, v11, v12, v13, v14, v15] t) := by
  have h4 : (w.setCell ⟨g, 4, none⟩ a4).heap[g]? = some (.cells #[v0, v1, v2, v3, a4, v5, v6, v7, v8, v9, v10, v11, v12, v13, v14, v15] t) := heap_setCell_same _ g 4 _ t a4 h
  have h5 : ((w.setCell ⟨g, 4, none⟩ a4).setCell ⟨g, 5, none⟩ a5).heap[g]? = some (.cells #[v0, v1, v2, v3, a4, a5, v6, v7, v8, v9, v10, v11, v12, v13, v14, v15] t) := heap_setCell_same _ g 5 _ t a5 h4
  have h6 : (((w.setCell ⟨g, 4, none⟩ a4).setCell ⟨g, 5, none⟩ a5).setCell ⟨g, 6, none⟩ a6).heap[g]? = some (.cells #[v0, v1, v2, v3, a4, a5, a6, v7, v8, v9, v10, v11, v12, v13, v14, v15] t) := heap_setCell_same _ g 6 _ t a6 h5
  have h7 : ((((w.setCell ⟨g, 4, none⟩ a4).setCell ⟨g, 5, none⟩ a5).setCell ⟨g, 6, none⟩ a6).setCell ⟨g, 7, none⟩ a7).heap[g]? = some (.cells #[v0, v1, v2, v3, a4, a5, a6, a7, v8, v9, v10, v11, v12, v13, v14, v15] t) := heap_setCell_same _ g 7 _ t a7 h6
  have h8 : (((((w.setCell ⟨g, 4, none⟩ a4).setCell ⟨g, 5, none⟩ a5).setCell ⟨g, 6, none⟩ a6).setCell ⟨g, 7, none⟩ a7).setCell ⟨g, 8, none⟩ a8).heap[g]? = some (.cells #[v0, v1, v2, v3, a4, a5, a6, a7, a8, v9, v10, v11, v12, v13, v14, v15] t) := heap_setCell_same _ g 8 _ t a8 h7
  have h9 : ((((((w.setCell ⟨g, 4, none⟩ a4).setCell ⟨g, 5, none⟩ a5).setCell ⟨g, 6, none⟩ a6).setCell ⟨g, 7, none⟩ a7).setCell ⟨g, 8, none⟩ a8).setCell ⟨g, 9, none⟩ a9).heap[g]? = some (.cells #[v0, v1, v2, v3, a4, a5, a6, a7, a8, a9, v10, v11, v12, v13, v14, v15] t) := heap_setCell_same _ g 9 _ t a9 h8
  exact h9

theorem R.row_lay {w : World} {g : Nat} {t : TypeId} {old : Array Value} (h : w.heap[g]? = some (.cells old t)) (new : Array Value) : (w.setRow g new).heap[g]? = some (.cells new t) ∧ w.grownBy (w.setRow g new) (some g) :=
  ⟨setRow_heap w g old new t _ h, rfl, rfl, rfl, by simp, fun k _ hk => setRow_other w g k _ (fun e => hk (by simp [e]))⟩
theorem R.k_set {w : World} {b g i : Nat} {v : Value} {o : Obj} (h : w.heap[b]? = some o) (hne : ¬ b = g) : (w.setCell ⟨g, i, none⟩ v).heap[b]? = some o := by
  rw [heap_setCell_other w ⟨g, i, none⟩ b v hne]; exact h
theorem R.run_load_at {P : Program} (w : World) (b off : Nat) (ty : TypeId) (cs : Array Value) (d : TypeDesc) (hc : ∀ (j : Nat) v, cs[j]? = some v → w.cell? ⟨b, off + j, none⟩ = some v)
    (hu : P.underlying ty = some d) (hd : (match d with | .struct _ | .array _ _ => true | _ => false) = true) (hi : (P.info? ty).map (·.size) = some cs.size) :
    (loadVar ty ⟨b, off, none⟩).run P w = .ok (.agg cs) w := by
  have hl : (loadCells ⟨b, off, none⟩ cs.toList.length).run P w = .ok cs.toList.toArray w :=
    run_loadCells_list (P := P) w ⟨b, off, none⟩ cs.toList (fun j v hv => by
      rw [L.addr_add]
      exact hc j v (by simpa using hv))
  cases hq : P.info? ty with
  | none => simp [hq] at hi
  | some i =>
    have hs : i.size = cs.size := by simpa [hq] using hi
    have hagg : (isAgg ty).run P w = .ok true w := by
      unfold isAgg
      rw [Sem.run_bind, run_underlying hu w]
      cases d <;> simp_all
    simp only [Array.length_toList, Array.toArray_toList] at hl
    simp [loadVar, Sem.run_bind, hagg, sizeOf, typeInfo, hq, hs, hl]
theorem R.list_load {P : Program} {ops : Array Oper} {rest : List Oper} {o : Oper} {a : Act} {w : World} {Q : Exit → Act → World → Prop} (hgd : o.guard = none) (ty : TypeId) (x : Operand) (ho : o.op = .load ty x)
    (ad : Addr) (v : Value) (hx : a.eval x = .pointer (some ad)) (hrun : (loadVar ty ad).run P w = .ok v w) (h : wpList P ops Q rest (a.put o.dst v) w) : wpList P ops Q (o :: rest) a w :=
  wpList_plain hgd fun K hK => by
    have h' := hK _ _ h
    unfold Oper.wp execOp
    simp only [ho, hx, Instr.loadAt, Instr.sureAddr, Sem.run_bind, Sem.run_pure, Result.andThen_ok, hrun]
    exact h'
theorem R.list_bs {P : Program} {ops : Array Oper} {rest : List Oper} {o : Oper} {a : Act} {w w' : World} {Q : Exit → Act → World → Prop} (hgd : o.guard = none) (t : TypeId) (n : Nat) (x : Operand) (ho : o.op = .buildSlice t n #[(0, x)])
    (u : Value) (hx : a.eval x = u) (v : Value) (hrun : (Instr.buildSlice t n #[(0, u)]).run P w = .ok v w') (h : wpList P ops Q rest (a.put o.dst v) w') : wpList P ops Q (o :: rest) a w :=
  wpList_plain hgd fun K hK => by
    have h' := hK _ _ h
    have hp : ((#[(0, x)] : Array (Nat × Operand)).map fun (i, x) => (i, a.eval x)) = #[(0, u)] := by simp [hx]
    unfold Oper.wp execOp
    simp only [ho, hp, Sem.run_bind, Sem.run_pure, Result.andThen_ok, hrun]
    exact h'


theorem R.step_store {P : Program} {ops : Array Oper} {o : Oper} {a : Act} {w : World} {K : Act → World → Prop} {Q : Exit → Act → World → Prop} {E : Prop} (hgd : o.guard = none) (ty : TypeId) (x y : Operand)
    (ho : o.op = .store ty x y) (ad : Addr) (v : Value) (w' : World) (hx : a.eval x = .pointer (some ad)) (hy : a.eval y = v)
    (hrun : (storeVar ty ad v).run P w = .ok () w') (h : K (a.put o.dst undef) w') :
    if Region.wanted o (yielded ops a.tmps) = true then Oper.wp P o a w K Q else E := by
  have hw : Region.wanted o (yielded ops a.tmps) = true := by simp [Region.wanted, hgd]
  rw [if_pos hw]
  unfold Oper.wp execOp
  simp only [ho, hx, hy, Instr.storeAt, Instr.sureAddr, Sem.run_bind, Sem.run_pure, Result.andThen_ok, hrun]
  exact h

set_option maxHeartbeats 4000000 in
theorem R.st3 {w : World} {g : Nat} {v0 v1 v2 v3 v4 v5 v6 v7 v8 v9 v10 v11 v12 v13 v14 v15 : Value} (h : w.heap[g]? = some (.cells #[v0, v1, v2, v3, v4, v5, v6, v7, v8, v9, v10, v11, v12, v13, v14, v15] 47)) (d : Int) : (storeVar 3 ⟨g, 3, none⟩ (.int .i64 d)).run Tryz.prog w = .ok () (w.setCell ⟨g, 3, none⟩ (.int .i64 d)) := by
  have c := R.at_box' (i := 3) h rfl
  have f := R.free_box (i := 3) h
  go_simp
set_option maxHeartbeats 4000000 in
theorem R.st4 {w : World} {g : Nat} {v0 v1 v2 v3 v4 v5 v6 v7 v8 v9 v10 v11 v12 v13 v14 v15 : Value} (h : w.heap[g]? = some (.cells #[v0, v1, v2, v3, v4, v5, v6, v7, v8, v9, v10, v11, v12, v13, v14, v15] 47)) (xb1 xb2 : Bool) (xo1 xo2 xo3 : Option Addr) (xn1 xn2 xn3 xc1 xc2 xc3 : Nat) (xi : Int) : (storeVar 45 ⟨g, 4, none⟩ (.agg #[.bool xb1, .bool xb2, .slice xo1 xn1 xc1, .slice xo2 xn2 xc2, .slice xo3 xn3 xc3, .int .i64 xi])).run Tryz.prog w = .ok () ((((((w.setCell ⟨g, 4, none⟩ (.bool xb1)).setCell ⟨g, 5, none⟩ (.bool xb2)).setCell ⟨g, 6, none⟩ (.slice xo1 xn1 xc1)).setCell ⟨g, 7, none⟩ (.slice xo2 xn2 xc2)).setCell ⟨g, 8, none⟩ (.slice xo3 xn3 xc3)).setCell ⟨g, 9, none⟩ (.int .i64 xi)) := by
  have c0 : w.cell? ⟨g, 4, none⟩ = some v4 := R.at_box' (i := 4) h rfl
  have f0 := R.free_box (i := 4) h
  have c1 : w.cell? ⟨g, 5, none⟩ = some v5 := R.at_box' (i := 5) h rfl
  have f1 := R.free_box (i := 5) h
  have c2 : w.cell? ⟨g, 6, none⟩ = some v6 := R.at_box' (i := 6) h rfl
  have f2 := R.free_box (i := 6) h
  have c3 : w.cell? ⟨g, 7, none⟩ = some v7 := R.at_box' (i := 7) h rfl
  have f3 := R.free_box (i := 7) h
  have c4 : w.cell? ⟨g, 8, none⟩ = some v8 := R.at_box' (i := 8) h rfl
  have f4 := R.free_box (i := 8) h
  have c5 : w.cell? ⟨g, 9, none⟩ = some v9 := R.at_box' (i := 9) h rfl
  have f5 := R.free_box (i := 9) h
  go_simp
set_option maxHeartbeats 4000000 in
theorem R.st10 {w : World} {g : Nat} {v0 v1 v2 v3 v4 v5 v6 v7 v8 v9 v10 v11 v12 v13 v14 v15 : Value} (h : w.heap[g]? = some (.cells #[v0, v1, v2, v3, v4, v5, v6, v7, v8, v9, v10, v11, v12, v13, v14, v15] 47)) (xb1 xb2 : Bool) (xo1 xo2 xo3 : Option Addr) (xn1 xn2 xn3 xc1 xc2 xc3 : Nat) (xi : Int) : (storeVar 45 ⟨g, 10, none⟩ (.agg #[.bool xb1, .bool xb2, .slice xo1 xn1 xc1, .slice xo2 xn2 xc2, .slice xo3 xn3 xc3, .int .i64 xi])).run Tryz.prog w = .ok () ((((((w.setCell ⟨g, 10, none⟩ (.bool xb1)).setCell ⟨g, 11, none⟩ (.bool xb2)).setCell ⟨g, 12, none⟩ (.slice xo1 xn1 xc1)).setCell ⟨g, 13, none⟩ (.slice xo2 xn2 xc2)).setCell ⟨g, 14, none⟩ (.slice xo3 xn3 xc3)).setCell ⟨g, 15, none⟩ (.int .i64 xi)) := by
  have c0 : w.cell? ⟨g, 10, none⟩ = some v10 := R.at_box' (i := 10) h rfl
  have f0 := R.free_box (i := 10) h
  have c1 : w.cell? ⟨g, 11, none⟩ = some v11 := R.at_box' (i := 11) h rfl
  have f1 := R.free_box (i := 11) h
  have c2 : w.cell? ⟨g, 12, none⟩ = some v12 := R.at_box' (i := 12) h rfl
  have f2 := R.free_box (i := 12) h
  have c3 : w.cell? ⟨g, 13, none⟩ = some v13 := R.at_box' (i := 13) h rfl
  have f3 := R.free_box (i := 13) h
  have c4 : w.cell? ⟨g, 14, none⟩ = some v14 := R.at_box' (i := 14) h rfl
  have f4 := R.free_box (i := 14) h
  have c5 : w.cell? ⟨g, 15, none⟩ = some v15 := R.at_box' (i := 15) h rfl
  have f5 := R.free_box (i := 15) h
  go_simp
set_option maxHeartbeats 4000000 in
theorem R.stores {w : World} {g : Nat} {v0 v1 v2 v3 v4 v5 v6 v7 v8 v9 v10 v11 v12 v13 v14 v15 : Value} (h : w.heap[g]? = some (.cells #[v0, v1, v2, v3, v4, v5, v6, v7, v8, v9, v10, v11, v12, v13, v14, v15] 47)) (d : Int) (xb1 xb2 : Bool) (xo1 xo2 xo3 : Option Addr) (xn1 xn2 xn3 xc1 xc2 xc3 : Nat) (xi : Int) (yb1 yb2 : Bool) (yo1 yo2 yo3 : Option Addr) (yn1 yn2 yn3 yc1 yc2 yc3 : Nat) (yi : Int) :
    ∃ X3 X4 X5, (storeVar 3 ⟨g, 3, none⟩ (.int .i64 d)).run Tryz.prog w = .ok () X3 ∧ (storeVar 45 ⟨g, 4, none⟩ (.agg #[.bool xb1, .bool xb2, .slice xo1 xn1 xc1, .slice xo2 xn2 xc2, .slice xo3 xn3 xc3, .int .i64 xi])).run Tryz.prog X3 = .ok () X4 ∧ (storeVar 45 ⟨g, 10, none⟩ (.agg #[.bool yb1, .bool yb2, .slice yo1 yn1 yc1, .slice yo2 yn2 yc2, .slice yo3 yn3 yc3, .int .i64 yi])).run Tryz.prog X4 = .ok () X5 ∧ X5.heap[g]? = some (.cells #[v0, v1, v2, .int .i64 d, .bool xb1, .bool xb2, .slice xo1 xn1 xc1, .slice xo2 xn2 xc2, .slice xo3 xn3 xc3, .int .i64 xi, .bool yb1, .bool yb2, .slice yo1 yn1 yc1, .slice yo2 yn2 yc2, .slice yo3 yn3 yc3, .int .i64 yi] 47) ∧ w.grownBy X3 (some g) ∧ w.grownBy X4 (some g) ∧ w.grownBy X5 (some g) := by
  have x3 : (w.setCell ⟨g, 3, none⟩ (.int .i64 d)).heap[g]? = some (.cells #[v0, v1, v2, .int .i64 d, v4, v5, v6, v7, v8, v9, v10, v11, v12, v13, v14, v15] 47) := heap_setCell_same _ _ 3 _ _ _ h
  have x4 : (((((((w.setCell ⟨g, 3, none⟩ (.int .i64 d)).setCell ⟨g, 4, none⟩ (.bool xb1)).setCell ⟨g, 5, none⟩ (.bool xb2)).setCell ⟨g, 6, none⟩ (.slice xo1 xn1 xc1)).setCell ⟨g, 7, none⟩ (.slice xo2 xn2 xc2)).setCell ⟨g, 8, none⟩ (.slice xo3 xn3 xc3)).setCell ⟨g, 9, none⟩ (.int .i64 xi)).heap[g]? = some (.cells #[v0, v1, v2, .int .i64 d, .bool xb1, .bool xb2, .slice xo1 xn1 xc1, .slice xo2 xn2 xc2, .slice xo3 xn3 xc3, .int .i64 xi, v10, v11, v12, v13, v14, v15] 47) := R.lay6 x3 (.bool xb1) (.bool xb2) (.slice xo1 xn1 xc1) (.slice xo2 xn2 xc2) (.slice xo3 xn3 xc3) (.int .i64 xi)
  have p5 := R.put13 h (.int .i64 d) (.bool xb1) (.bool xb2) (.slice xo1 xn1 xc1) (.slice xo2 xn2 xc2) (.slice xo3 xn3 xc3) (.int .i64 xi) (.bool yb1) (.bool yb2) (.slice yo1 yn1 yc1) (.slice yo2 yn2 yc2) (.slice yo3 yn3 yc3) (.int .i64 yi)
  exact ⟨_, _, _, R.st3 h d, R.st4 x3 xb1 xb2 xo1 xo2 xo3 xn1 xn2 xn3 xc1 xc2 xc3 xi, R.st10 x4 yb1 yb2 yo1 yo2 yo3 yn1 yn2 yn3 yc1 yc2 yc3 yi, p5.1, R.grown_set _ _ _ _, (S.grown_trans (S.grown_trans (S.grown_trans (S.grown_trans (S.grown_trans (S.grown_trans (R.grown_set _ _ _ _) (R.grown_set _ _ _ _)) (R.grown_set _ _ _ _)) (R.grown_set _ _ _ _)) (R.grown_set _ _ _ _)) (R.grown_set _ _ _ _)) (R.grown_set _ _ _ _)), p5.2⟩
set_option maxHeartbeats 4000000 in
theorem R.bs_run (w : World) (v0 v1 v2 v3 v4 v5 v6 v7 v8 v9 v10 v11 v12 v13 v14 v15 : Value)  : (Instr.buildSlice 22 1 #[(0, .agg #[v0, v1, v2, v3, v4, v5, v6, v7, v8, v9, v10, v11, v12, v13, v14, v15])]).run Tryz.prog w = .ok (.slice (some ⟨w.heap.size, 0, none⟩) 1 1) (w.alloc (.cells #[v0, v1, v2, v3, v4, v5, v6, v7, v8, v9, v10, v11, v12, v13, v14, v15] 47)) := by
  first | kernel_rfl | go_simp
end Go.Proofs.YtchkcjaahjhbcabGreatDoor
