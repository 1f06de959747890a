/-
  A file that is read: all its parts.
-/
import Derived.Test.YtajbcgobfkaahaaGreatDoorRRd8
namespace Go.Proofs.YtajbcgobfkaahaaGreatDoor
open Go.RowKit
set_option maxRecDepth 20000
set_option linter.unusedSimpArgs false
set_option linter.unusedVariables false

/-- the cells of a part -/
def R.PtEl (x : R.Part) (c : List Value) (w : World) : Prop := R.PtIs w (.agg c.toArray) x
def R.RowP (F : Nat) (w : World) (v : Value) (xs : List R.Part) : Prop := R.Row 49 16 R.PtEl F w v xs
theorem R.elemP : R.Elem 22 49 16 := ⟨Tryz.underlying22, ⟨.agg #[.int .i64 0, .string ⟨#[]⟩, .slice none 0 0, .int .i64 0, .bool false, .bool false, .slice none 0 0, .slice none 0 0, .slice none 0 0, .int .i64 0, .bool false, .bool false, .slice none 0 0, .slice none 0 0, .slice none 0 0, .int .i64 0], 232, by kernel_rfl, by decide, rfl⟩, by decide⟩
theorem R.RowP.pts {F : Nat} {w : World} {v : Value} {xs : List R.Part} (h : R.RowP F w v xs) : R.Stays F none w fun w' => R.Pts w' v xs := fun w' hk => by
  obtain ⟨ao, cap, hv⟩ := R.Row.slice h
  refine ⟨ao, cap, hv, fun hz => ?_⟩
  cases xs with
  | nil => exact absurd rfl hz
  | cons x0 xs =>
    obtain ⟨g, c, hob, ⟨cap', hv'⟩, _, _⟩ := R.Row.at h (j := 0) (x := x0) rfl
    refine ⟨g, 0, by rw [hv] at hv'; cases hv'; rfl, fun j x hj => ?_⟩
    obtain ⟨g2, c2, hob2, _, _, hst⟩ := R.Row.at h hj
    have hg : g2 = g := by rw [hob] at hob2; exact (Option.some.inj hob2).symm
    subst hg
    obtain ⟨hcells, hpt⟩ := hst w' hk
    have hpt' : R.PtIs w' (.agg c2.toArray) x := hpt
    obtain ⟨so, sc, lbo, lbc, lso, lsc, lao, lac, rbo, rbc, rso, rsc, rao, rac, he, _⟩ := hpt'.open
    have hc2 : c2 = [.int .i64 x.kind, .string x.name, .slice so x.set.length sc, .int .i64 x.dir, .bool x.left.start, .bool x.left.fin, .slice lbo x.left.before.length lbc, .slice lso x.left.source.length lsc, .slice lao x.left.after.length lac, .int .i64 x.left.cursor, .bool x.right.start, .bool x.right.fin, .slice rbo x.right.before.length rbc, .slice rso x.right.source.length rsc, .slice rao x.right.after.length rac, .int .i64 x.right.cursor] := by
      have := congrArg (fun v => match v with | .agg a => a.toList | _ => []) he
      simpa using this
    subst hc2
    exact ⟨so, sc, lbo, lbc, lso, lsc, lao, lac, rbo, rbc, rso, rsc, rao, rac, hcells 0 _ rfl, hcells 1 _ rfl, hcells 2 _ rfl, hcells 3 _ rfl, hcells 4 _ rfl, hcells 5 _ rfl, hcells 6 _ rfl, hcells 7 _ rfl, hcells 8 _ rfl, hcells 9 _ rfl, hcells 10 _ rfl, hcells 11 _ rfl, hcells 12 _ rfl, hcells 13 _ rfl, hcells 14 _ rfl, hcells 15 _ rfl, hpt'⟩

def R.lenV : Value → Nat
  | .slice _ n _ => n
  | _ => 0

set_option maxHeartbeats 16000000 in
theorem parts_at (hK : T.ClassOk) (w : World) (cb tb cap : Nat) (ao : Option Addr) (l : List Int) (C : T.Cur w cb tb cap ao l 0) :
    Calls Tryz.prog 24 #[.pointer (some ⟨cb, 0, none⟩)] w (T.Ends w cb tb cap ao l (R.parts l) fun xs v w' => R.RowP w.heap.size w' v xs ∧ xs.length ≤ 200) := by
  obtain ⟨he1, he2⟩ := C.elder
  have HE2 : Hid (l ≠ [] → tb < w.heap.size) := he2
  have HK : Hid T.ClassOk := hK
  have HC : Hid (T.Cur w cb tb cap ao l 0) := C
  clear C he2 hK
  obtain ⟨o, HO⟩ : ∃ o, Hid (R.parts l = o) := ⟨_, rfl⟩
  rw [HO.out]
  go_enter Tryz.func24, Tryz.ntmps24
  go_wp2_with fail
  refine (between_any _ cb tb cap 0 ao l HC.out).mono ?_
  rintro e w1 ⟨rfl, C1, g1⟩
  have HC1 : Hid (T.Cur w1 cb tb cap ao l (R.gap l 0)) := C1
  have HG1 : Hid (w.grownBy w1 (some cb)) := g1
  clear C1 g1
  go_wp2
  go_loopw [3] (fun sv wr => ∃ (q : Nat) (xs : List R.Part) (vo : Option Addr) (vc : Nat), sv = .slice vo xs.length vc ∧ xs.length ≤ 200 ∧ Hid (R.partsN (202 - xs.length) l xs q = o) ∧ Hid (R.RowP w.heap.size wr (.slice vo xs.length vc) xs) ∧ Hid (T.Cur wr cb tb cap ao l q) ∧ Hid (w.grownBy wr (some cb))) (fun sv _ => 202 - R.lenV sv)
  case atStart => exact ⟨R.gap l 0, [], none, 0, rfl, by simp, HO, R.Row.nil _ _, HC1, HG1⟩
  case round =>
    obtain ⟨q, xs, vo, vc, rfl, hxl, HN, HR, HCq, HG⟩ := hrel
    have cq := HCq.out.cell1
    have hql := HCq.out.le
    have hlen := HCq.out.len
    obtain ⟨f, hf⟩ : ∃ f, 202 - xs.length = f + 1 := ⟨201 - xs.length, by omega⟩
    have HN2 : Hid (R.partsN (f + 1) l xs q = o) := by show _ = _; rw [← hf]; exact HN.out
    clear HN
    go_wp2_with fail
    refine (done_any _ cb tb cap q ao l HCq.out).mono ?_
    rintro e w2 ⟨rfl, b2⟩
    have C2 := HCq.out.below b2
    have c2 := C2.cell1
    have HC2 : Hid (T.Cur w2 cb tb cap ao l q) := C2
    have HG2 : Hid (w.grownBy w2 (some cb)) := S.grown_trans HG.out (S.grown_below b2)
    have HR2 : Hid (R.RowP w.heap.size w2 (.slice vo xs.length vc) xs) := R.Row.below HR.out b2
    clear C2 b2 cq
    by_cases hd : T.see l q = -1
    · clear c2
      go_wp2
      go_ret
      rw [← HN2.out, R.partsN, if_pos hd]
      exact ⟨_, rfl, ⟨HR2.out, hxl⟩, HC2.out, HG2.out⟩
    · by_cases h200 : xs.length = 200
      · have h200' : (xs.length : Int) = 200 := by omega
        go_wp2
        go_region_dies
        all_goals refine (fail_any _ 5 q).mono ?_
        all_goals unfold T.thrown
        all_goals rintro e w3 ⟨rfl, rfl⟩
        all_goals refine ⟨rfl, ?_⟩
        all_goals rw [← HN2.out, R.partsN, if_neg hd, if_pos h200]
        all_goals exact ⟨rfl, S.grown_trans HG2.out (fr_drewN _ 1 _)⟩
      · have h200' : ¬ (xs.length : Int) = 200 := by omega
        have h200b : ((xs.length : Int) == 200) = false := by simp; omega
        clear c2
        go_wp2_with fail
        refine (ended_at HK.out _ cb tb cap q ao l HC2.out).mono ?_
        intro e w3 h
        cases hc : R.ended l q with
        | bad er r =>
          rw [hc] at h
          obtain ⟨rfl, g3⟩ := h
          unfold T.thrown
          go_wp2
          refine ⟨rfl, ?_⟩
          rw [← HN2.out, R.partsN, if_neg hd, if_neg h200, hc]
          exact ⟨rfl, S.grown_trans HG2.out g3⟩
        | ok x r =>
          rw [hc] at h
          obtain ⟨v3, rfl, ⟨⟨so, sc, lbo, lbc, lso, lsc, lao, lac, rbo, rbc, rso, rsc, rao, rac, hv3⟩, s3⟩, C3, g3⟩ := h
          subst hv3
          have HHc : Hid _ := hc
          have HG3 : Hid (w.grownBy w3 (some cb)) := S.grown_trans HG2.out g3
          have hs3 : w2.heap.size ≤ w3.heap.size := g3.size
          have hs2 : w.heap.size ≤ w2.heap.size := HG2.out.size
          have HLt : Hid _ := R.Row.lt HR2.out
          have R3 := R.Row.cur HR2.out g3 he1
          have bA := (Below.refl _ w3).alloc (Nat.le_refl _) (.cells #[.int .i64 x.kind, .string x.name, .slice so x.set.length sc, .int .i64 x.dir, .bool x.left.start, .bool x.left.fin, .slice lbo x.left.before.length lbc, .slice lso x.left.source.length lsc, .slice lao x.left.after.length lac, .int .i64 x.left.cursor, .bool x.right.start, .bool x.right.fin, .slice rbo x.right.before.length rbc, .slice rso x.right.source.length rsc, .slice rao x.right.after.length rac, .int .i64 x.right.cursor] 49)
          have HR4 : Hid (R.RowP w.heap.size _ (.slice vo xs.length vc) xs) := R.Row.below R3 bA
          have HO4 : Hid (R.RowP w2.heap.size (w3.alloc (.cells #[.int .i64 x.kind, .string x.name, .slice so x.set.length sc, .int .i64 x.dir, .bool x.left.start, .bool x.left.fin, .slice lbo x.left.before.length lbc, .slice lso x.left.source.length lsc, .slice lao x.left.after.length lac, .int .i64 x.left.cursor, .bool x.right.start, .bool x.right.fin, .slice rbo x.right.before.length rbc, .slice rso x.right.source.length rsc, .slice rao x.right.after.length rac, .int .i64 x.right.cursor] 49)) (.slice (some ⟨w3.heap.size, 0, none⟩) 1 1) [x]) :=
            R.Row.one [.int .i64 x.kind, .string x.name, .slice so x.set.length sc, .int .i64 x.dir, .bool x.left.start, .bool x.left.fin, .slice lbo x.left.before.length lbc, .slice lso x.left.source.length lsc, .slice lao x.left.after.length lac, .int .i64 x.left.cursor, .bool x.right.start, .bool x.right.fin, .slice rbo x.right.before.length rbc, .slice rso x.right.source.length rsc, .slice rao x.right.after.length rac, .int .i64 x.right.cursor] rfl (fun u hu => by
              simp only [List.mem_cons, List.not_mem_nil, or_false] at hu
              rcases hu with rfl | rfl | rfl | rfl | rfl | rfl | rfl | rfl | rfl | rfl | rfl | rfl | rfl | rfl | rfl | rfl <;> rfl) s3 hs3
          have HC4 : Hid (T.Cur _ cb tb cap ao l r) := C3.below bA
          have HG4 : Hid (w.grownBy _ (some cb)) := S.grown_trans HG3.out (S.grown_below bA)
          have hF4 : w.heap.size ≤ (w3.alloc (.cells #[.int .i64 x.kind, .string x.name, .slice so x.set.length sc, .int .i64 x.dir, .bool x.left.start, .bool x.left.fin, .slice lbo x.left.before.length lbc, .slice lso x.left.source.length lsc, .slice lao x.left.after.length lac, .int .i64 x.left.cursor, .bool x.right.start, .bool x.right.fin, .slice rbo x.right.before.length rbc, .slice rso x.right.source.length rsc, .slice rao x.right.after.length rac, .int .i64 x.right.cursor] 49)).heap.size := by simp; omega
          obtain ⟨zs, HZs⟩ : ∃ zs, Hid (xs ++ [x] = zs) := ⟨_, rfl⟩
          have HZl : Hid (zs.length = xs.length + 1) := by show _ = _; rw [← HZs.out]; simp
          clear hc s3 C3 g3 R3 bA
          go_wp2_with (at_builtin; refine R.list_add R.elemP rfl _ _ rfl _ _ xs [x] rfl rfl HR4.out HO4.out hs2 (fun g hg => (HLt.out g hg).2) (by simp; omega) hF4 ?_; intro v5 w5 R5 g5 n5; rw [HZs.out] at R5; obtain ⟨vo5, vc5, hv5⟩ := R.Row.slice R5; subst hv5; have HR5 : Hid (R.RowP w.heap.size w5 (.slice vo5 zs.length vc5) zs) := R5; have HC5 : Hid (T.Cur w5 cb tb cap ao l r) := HC4.out.row g5 (fun g hg => (HLt.out g hg).1) he1 HE2.out; have HG5 : Hid (w.grownBy w5 (some cb)) := R.grown_row HG4.out g5 (fun g hg => (HLt.out g hg).1); clear R5 g5 n5)
          refine (between_any _ cb tb cap r ao l HC5.out).mono ?_
          rintro e w6 ⟨rfl, C6, g6⟩
          have HC6 : Hid (T.Cur w6 cb tb cap ao l (R.gap l r)) := C6
          have HG6 : Hid (w.grownBy w6 (some cb)) := S.grown_trans HG5.out g6
          have HR6 : Hid (R.RowP w.heap.size w6 (.slice vo5 zs.length vc5) zs) := R.Row.cur HR5.out g6 he1
          clear C6 g6
          go_wp2
          go_roundw
          case rel => exact ⟨R.gap l r, zs, vo5, vc5, rfl, by have := HZl.out; omega, by show _ = _; rw [show 202 - zs.length = f by have := HZl.out; omega, ← HN2.out, R.partsN, if_neg hd, if_neg h200, HHc.out]; simp only; rw [HZs.out], HR6, HC6, HG6⟩
          case measure => have := HZl.out; simp [R.lenV]; omega

end Go.Proofs.YtajbcgobfkaahaaGreatDoor
