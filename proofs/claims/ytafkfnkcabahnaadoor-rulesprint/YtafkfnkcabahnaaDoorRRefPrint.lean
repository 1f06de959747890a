/-
  How parts and files are written: the document's Print.
-/
import Derived.Test.YtafkfnkcabahnaaDoorRRefTell2
import Derived.Test.YtafkfnkcabahnaaDoorRRefWrong2
import Derived.Test.YtafkfnkcabahnaaDoorRPrint
import Derived.Deep.CutBlock
import Derived.BigRegion
namespace Go.Proofs.YtafkfnkcabahnaaDoor
open Go.RowKit
set_option maxRecDepth 20000
set_option linter.unusedSimpArgs false
set_option linter.unusedVariables false

/-- the words of a part -/
def R.partW (p : R.Part) : List (List UInt8) :=
  if p.kind = 1 then [36 :: p.name.data.toList, [61], R.setB p.set]
  else if p.kind = 3 then [[58, 58], R.setB p.set]
  else if p.kind = 4 then [[58, 58], p.name.data.toList]
  else R.sideW p.left ++ [R.arrowB p.dir] ++ R.sideW p.right
theorem R.tell_part {p : R.Part} (h : R.partE p = 0) : R.tell (R.partW p) = R.wordsB p := by
  rcases part_ok h with ⟨h1, _⟩ | ⟨h1, _⟩ | ⟨h1, _⟩ | ⟨h1, _⟩
  · simp [R.partW, R.wordsB, h1, R.tell]
  · simp [R.partW, R.wordsB, h1, R.tell]
  · simp [R.partW, R.wordsB, h1, R.tell]
  · have e1 : R.partW p = R.sideW p.left ++ [R.arrowB p.dir] ++ R.sideW p.right := by simp [R.partW, h1]
    have e2 : R.wordsB p = R.sideB p.left ++ (R.arrowB p.dir ++ [32]) ++ R.sideB p.right := by simp [R.wordsB, h1]
    rw [e1, e2, R.tell_app, R.tell_app, R.tell_side, R.tell_side]
    simp [R.tell]

/-- a slice that reads as a row of texts -/
def R.Wds (w : World) (v : Value) (ms : List (List UInt8)) : Prop :=
  ∃ ao c, v = .slice ao ms.length c ∧ (ms ≠ [] → ∃ g, ao = some ⟨g, 0, none⟩ ∧ ∀ j m, ms[j]? = some m → w.cell? ⟨g, j, none⟩ = some (R.str m))
theorem R.Own.wds {B : Nat} {w : World} {v : Value} {ms : List (List UInt8)} (h : R.Own B w v ms) : R.Wds w v ms := by
  obtain ⟨ao, c, rfl, hn, hs⟩ := h.slice
  refine ⟨ao, c, rfl, fun hne => ?_⟩
  cases ao with
  | none => exact absurd (hn rfl).1 hne
  | some ad =>
    obtain ⟨g, rfl, hc⟩ := hs ad rfl
    exact ⟨g, rfl, hc⟩
theorem R.Own.base {B B' : Nat} {w : World} {v : Value} {ms : List (List UInt8)} (h : R.Own B w v ms) (hB : B' ≤ B) : R.Own B' w v ms := L.owns_base h hB
theorem R.wds_new (w : World) (a : Array Value) (t : TypeId) (ms : List (List UInt8)) (h : ∀ (j : Nat) (m : List UInt8), ms[j]? = some m → a[j]? = some (R.str m)) : R.Wds (w.alloc (.cells a t)) (.slice (some ⟨w.heap.size, 0, none⟩) ms.length ms.length) ms :=
  ⟨_, _, rfl, fun _ => ⟨w.heap.size, rfl, fun j m hj => by rw [World.cell?_alloc_at _ _ _ _ (by simp)]; exact h j m hj⟩⟩

theorem R.tell_len (ws : List (List UInt8)) : ws.length ≤ (R.tell ws).length := by
  induction ws with
  | nil => simp
  | cons m ws ih =>
    have e : R.tell (m :: ws) = (m ++ [32]) ++ R.tell ws := by simp [R.tell]
    rw [e]
    simp only [List.length_append, List.length_cons, List.length_nil]
    omega

theorem R.app3 (a m c : List UInt8) : ((⟨a.toArray⟩ : ByteArray) ++ ⟨m.toArray⟩) ++ ⟨c.toArray⟩ = ⟨(a ++ (m ++ c)).toArray⟩ := by
  rw [str_app, str_app, List.append_assoc]

theorem sideW_len {s : R.Side} {m : Bool} (h : R.sideE s m = 0) : (R.sideW s).length ≤ 200 := by
  obtain ⟨zb, zs, za, _, _⟩ := R.sideE_zero h
  have h1 := R.itemsW_len (l := s.before) (c := -1)
  have h2 := R.itemsW_len (l := s.source) (c := s.cursor)
  have h3 := R.itemsW_len (l := s.after) (c := -1)
  have l1 := (items_ok zb).1
  have l2 := (items_ok zs).1
  have l3 := (items_ok za).1
  have i1 : ∀ {p : Prop} [Decidable p] {a : UInt8}, ((if p then [[a]] else []) : List (List UInt8)).length ≤ 1 := by intro p _ a; split <;> simp
  unfold R.sideW
  simp only [List.length_append]
  have j1 := i1 (p := s.start = true) (a := 94)
  have j2 := i1 (p := s.start = true ∨ 0 < s.before.length) (a := 123)
  have j3 := i1 (p := s.fin = true ∨ 0 < s.after.length) (a := 125)
  have j4 := i1 (p := s.fin = true) (a := 36)
  omega

theorem R.put_at {a : Act} {o : Oper} {v : Value} {d : Tmp} (h : o.dst = some d) : a.put o.dst v = { a with tmps := a.tmps.setIfInBounds d v } := by rw [h]; rfl
theorem R.new_at (w : World) (a : Array Value) (t : TypeId) (j : Nat) (x : Value) (h : a[j]? = some x) : (w.alloc (.cells a t)).cell? ⟨w.heap.size, j, none⟩ = some x := by
  rw [World.cell?_alloc_at _ _ _ _ (by simp)]; exact h
theorem R.new_cell2 (w : World) (o : Obj) (x : Value) (t : TypeId) : ((w.alloc o).alloc (.cells #[x] t)).cell? ⟨w.heap.size + 1, 0, none⟩ = some x := by
  have h := R.new_at (w.alloc o) #[x] t 0 x rfl
  have e : (w.alloc o).heap.size = w.heap.size + 1 := by simp
  rw [e] at h
  exact h

set_option maxHeartbeats 32000000 in
theorem rPrint_any (w : World) (v : Value) (l : List R.Part) (R0 : R.Pts w v l) :
    Calls Tryd.prog 5 #[v] w fun e w' => e = .returned (R.printV l) ∧ Below w.heap.size w w' := by
  have HR : Hid (R.Pts w v l) := R0
  obtain ⟨ao, cap, rfl⟩ := R0.len
  have HA : Hid (∀ o, Below w.heap.size w (w.alloc o)) := fun o => (Below.refl _ w).alloc (Nat.le_refl _) o
  have HW : Hid (∀ w1, Below w.heap.size w w1 → Calls Tryd.prog 7 #[.slice ao l.length cap] w1 fun e w' => e = .returned (.agg #[.int .i64 (R.wrong l).1, .int .i64 (R.wrong l).2]) ∧ Below w1.heap.size w1 w') := fun w1 hb => rWrong_any w1 _ l (R0.below hb)
  clear R0
  unfold R.printV
  obtain ⟨⟨z1, z2⟩, HZ⟩ : ∃ z, Hid (R.wrong l = z) := ⟨_, rfl⟩
  rw [HZ.out] at HW ⊢
  simp only at HW ⊢
  obtain ⟨tx, HTx⟩ : ∃ x, Hid ((⟨(if z1 = 0 then R.printB l else []).toArray⟩ : ByteArray) = x) := ⟨_, rfl⟩
  rw [HTx.out]
  go_enter Tryd.func5, Tryd.ntmps5
  go_wp2_with fail
  refine (HW.out _ (HA.out _)).mono ?_
  rintro e w1 ⟨rfl, b1⟩
  obtain ⟨hb1, B1, hl1⟩ := R.box_kept b1
  have HB1 : Hid (Below w.heap.size w w1) := B1
  have HX1 : Hid (w1.heap[w.heap.size]? = some (.cells #[.int .i64 0, .int .i64 0] 25)) := hb1
  clear b1 B1 hb1
  by_cases hz : z1 = 0
  · subst hz
    have hwz := R.wrong_zero (l := l) (by rw [HZ.out])
    have hz2 : z2 = 0 := by
      have := hwz.2.2
      rw [HZ.out] at this
      cases this; rfl
    subst hz2
    have hl200 := hwz.1
    have HOk : Hid (∀ p ∈ l, R.partE p = 0) := hwz.2.1
    clear hwz
    have HTx2 : Hid ((⟨(R.printB l).toArray⟩ : ByteArray) = tx) := by
      show _ = _
      rw [← HTx.out, if_pos rfl]
    have HPl : Hid (∀ k, (R.printB (l.take k)).length ≤ 504902 * 200) := fun k => by
      have h := printB_len (l := l.take k) fun p hp => HOk.out p (List.mem_of_mem_take hp)
      rw [List.length_take] at h
      omega
    have HBX : Hid (Below w1.heap.size w1 (w1.alloc (.cells #[.int .i64 0, .int .i64 0] 25))) := (Below.refl _ w1).alloc (Nat.le_refl _) _
    go_wp2
    go_loopw [5, 21] (fun vt vi wr => ∃ (k : Nat) (tx : ByteArray), k ≤ l.length ∧ vi = .int .i64 k ∧ vt = .string tx ∧ Hid (tx = ⟨(R.printB (l.take k)).toArray⟩) ∧ Hid (Below w1.heap.size w1 wr)) (fun _ vi _ => l.length - (intOf vi).toNat)
    case atStart => exact ⟨0, ⟨#[]⟩, Nat.zero_le _, rfl, rfl, rfl, HBX⟩
    case round =>
      obtain ⟨k, ty, hk, rfl, rfl, HTy, HB⟩ := hrel
      have HBw : Hid (Below w.heap.size w wr) := HB1.out.trans (HB.out.mono HB1.out.size)
      by_cases hlt : k < l.length
      · obtain ⟨p, hp⟩ : ∃ x, l[k]? = some x := ⟨l[k], by simp [hlt]⟩
        obtain ⟨ao', cap', e', hcs⟩ := HR.out
        cases e'
        obtain ⟨b, off, rfl, hcell⟩ := hcs (by intro h; subst h; simp at hlt)
        obtain ⟨so, sc, lbo, lbc, lso, lsc, lao, lac, rbo, rbc, rso, rsc, rao, rac, c0, c1, c2, c3, c4, c5, c6, c7, c8, c9, c10, c11, c12, c13, c14, c15, hP⟩ := hcell k p hp
        have kk := R.Keeps.of_below HBw.out (Nat.le_refl _)
        replace c0 := kk _ _ _ c0
        replace c1 := kk _ _ _ c1
        replace c2 := kk _ _ _ c2
        replace c3 := kk _ _ _ c3
        replace c4 := kk _ _ _ c4
        replace c5 := kk _ _ _ c5
        replace c6 := kk _ _ _ c6
        replace c7 := kk _ _ _ c7
        replace c8 := kk _ _ _ c8
        replace c9 := kk _ _ _ c9
        replace c10 := kk _ _ _ c10
        replace c11 := kk _ _ _ c11
        replace c12 := kk _ _ _ c12
        replace c13 := kk _ _ _ c13
        replace c14 := kk _ _ _ c14
        replace c15 := kk _ _ _ c15
        have hok := HOk.out p (List.mem_of_getElem? hp)
        have HTk : Hid (R.printB (l.take (k + 1)) = R.printB (l.take k) ++ R.wordsB p ++ [59, 10]) := printB_take hp
        have hlk := HPl.out (k + 1)
        obtain ⟨so', sc', lbo', lbc', lso', lsc', lao', lac', rbo', rbc', rso', rsc', rao', rac', hPe, hS, hf, hL, hR, _, _⟩ := hP.open
        simp only [Value.agg.injEq, Array.mk.injEq, List.cons.injEq, Value.slice.injEq, true_and, and_true] at hPe
        obtain ⟨⟨rfl, rfl⟩, ⟨rfl, rfl⟩, ⟨rfl, rfl⟩, ⟨rfl, rfl⟩, ⟨rfl, rfl⟩, ⟨rfl, rfl⟩, ⟨rfl, rfl⟩⟩ := hPe
        have HSet : Hid (∀ W, Below w.heap.size w W → Calls Tryd.prog 13 #[.slice so p.set.length sc] W fun e w' => e = .returned (.tuple #[.string ⟨(R.setB p.set).toArray⟩, .int .i64 (S.wrongE p.set)]) ∧ Below W.heap.size W w') := fun W hW => refprint_any W _ p.set (hS.below hW (Nat.le_refl _)) hf
        have HLs : Hid ((∃ m, R.sideE p.left m = 0) → ∀ W, Below w.heap.size w W → Calls Tryd.prog 14 #[.agg #[.bool p.left.start, .bool p.left.fin, .slice lbo p.left.before.length lbc, .slice lso p.left.source.length lsc, .slice lao p.left.after.length lac, .int .i64 p.left.cursor]] W fun e w' => ∃ v', e = .returned v' ∧ R.Own (W.heap.size + 1) w' v' (R.sideW p.left) ∧ Below W.heap.size W w') := fun hm W hW => rSideWords_any W _ p.left (hL.below hW) hm
        have HRs : Hid ((∃ m, R.sideE p.right m = 0) → ∀ W, Below w.heap.size w W → Calls Tryd.prog 14 #[.agg #[.bool p.right.start, .bool p.right.fin, .slice rbo p.right.before.length rbc, .slice rso p.right.source.length rsc, .slice rao p.right.after.length rac, .int .i64 p.right.cursor]] W fun e w' => ∃ v', e = .returned v' ∧ R.Own (W.heap.size + 1) w' v' (R.sideW p.right) ∧ Below W.heap.size W w') := fun hm W hW => rSideWords_any W _ p.right (hR.below hW) hm
        have hko := part_ok hok
        have htp := R.tell_part hok
        obtain ⟨ws, HWs⟩ : ∃ x, Hid (R.partW p = x) := ⟨_, rfl⟩
        rw [HWs.out] at htp
        have HTp : Hid (R.tell ws = R.wordsB p) := htp
        have HLk : Hid ((R.printB (l.take k)).length + (R.tell ws).length + 2 ≤ 100980400) := by
          rw [HTk.out, ← htp] at hlk
          simp only [List.length_append, List.length_cons, List.length_nil] at hlk
          show _ ≤ _
          omega
        rw [← htp] at HTk
        clear hp hcell hcs hP kk hlk hS hf hL hR hok htp
        obtain ⟨sb, HSb⟩ : ∃ x, Hid (R.setB p.set = x) := ⟨_, rfl⟩
        rw [HSb.out] at HSet
        obtain ⟨zz, HZz⟩ : ∃ x, Hid (S.wrongE p.set = x) := ⟨_, rfl⟩
        rw [HZz.out] at HSet
        have HAr : Hid (∀ o, Below wr.heap.size wr (wr.alloc o)) := fun o => (Below.refl _ wr).alloc (Nat.le_refl _) o
        have hszw := HBw.out.size
        obtain ⟨pk, pn, ps, pd, ⟨lst, lfi, lbe, lsr, laf, lcu⟩, ⟨rst, rfi, rbe, rsr, raf, rcu⟩⟩ := p
        simp only at c0 c1 c2 c3 c4 c5 c6 c7 c8 c9 c10 c11 c12 c13 c14 c15 HSet HLs HRs hko
        go_wp2_with fail
        refine (HSet.out _ (HBw.out.trans ((HAr.out _).mono hszw))).mono ?_
        rintro e w3 ⟨rfl, b3⟩
        obtain ⟨hb3, B3, hl3⟩ := R.box_kept b3
        have HX3 : Hid _ := hb3
        have HB3 : Hid (Below wr.heap.size wr w3) := B3
        have HBw3 : Hid (Below w.heap.size w w3) := HBw.out.trans (B3.mono hszw)
        have q0 : w3.cell? ⟨wr.heap.size, 0, none⟩ = some (.int .i64 pk) := R.at_box hb3 rfl
        have q1 : w3.cell? ⟨wr.heap.size, 1, none⟩ = some (.string pn) := R.at_box hb3 rfl
        have q2 : w3.cell? ⟨wr.heap.size, 2, none⟩ = some (.slice so ps.length sc) := R.at_box hb3 rfl
        have q3 : w3.cell? ⟨wr.heap.size, 3, none⟩ = some (.int .i64 pd) := R.at_box hb3 rfl
        have q4 : w3.cell? ⟨wr.heap.size, 4, none⟩ = some (.bool lst) := R.at_box hb3 rfl
        have q5 : w3.cell? ⟨wr.heap.size, 5, none⟩ = some (.bool lfi) := R.at_box hb3 rfl
        have q6 : w3.cell? ⟨wr.heap.size, 6, none⟩ = some (.slice lbo lbe.length lbc) := R.at_box hb3 rfl
        have q7 : w3.cell? ⟨wr.heap.size, 7, none⟩ = some (.slice lso lsr.length lsc) := R.at_box hb3 rfl
        have q8 : w3.cell? ⟨wr.heap.size, 8, none⟩ = some (.slice lao laf.length lac) := R.at_box hb3 rfl
        have q9 : w3.cell? ⟨wr.heap.size, 9, none⟩ = some (.int .i64 lcu) := R.at_box hb3 rfl
        have q10 : w3.cell? ⟨wr.heap.size, 10, none⟩ = some (.bool rst) := R.at_box hb3 rfl
        have q11 : w3.cell? ⟨wr.heap.size, 11, none⟩ = some (.bool rfi) := R.at_box hb3 rfl
        have q12 : w3.cell? ⟨wr.heap.size, 12, none⟩ = some (.slice rbo rbe.length rbc) := R.at_box hb3 rfl
        have q13 : w3.cell? ⟨wr.heap.size, 13, none⟩ = some (.slice rso rsr.length rsc) := R.at_box hb3 rfl
        have q14 : w3.cell? ⟨wr.heap.size, 14, none⟩ = some (.slice rao raf.length rac) := R.at_box hb3 rfl
        have q15 : w3.cell? ⟨wr.heap.size, 15, none⟩ = some (.int .i64 rcu) := R.at_box hb3 rfl
        clear b3 hb3 B3 c0 c1 c2 c3 c4 c5 c6 c7 c8 c9 c10 c11 c12 c13 c14 c15
        have hs3 := HBw3.out.size
        go_upto_block 2 with fail
        go_cut [8] (fun v8 wx => Hid (R.Wds wx v8 ws) ∧ Hid (Below wr.heap.size wr wx))
        case first =>
          rcases hko with ⟨rfl, hn, _⟩ | ⟨rfl, _⟩ | ⟨rfl, hn⟩ | ⟨rfl, hrl⟩
          · have hn2 := named_small hn
            have hws : ws = [36 :: pn.data.toList, [61], sb] := by rw [← HWs.out, ← HSb.out]; simp [R.partW]
            subst hws
            have g1 : ¬ 9223372036854775807 < 1 + pn.size := by omega
            go_wp2
            go_meet
            case rel => exact ⟨R.wds_new w3 _ _ [36 :: pn.data.toList, [61], sb] (fun j m hj => by match j, hj with | 0, hj => cases hj; simp [R.str, dollar] | 1, hj => cases hj; rfl | 2, hj => cases hj; rfl), HB3.out.alloc HB3.out.size _⟩
          · have hws : ws = [[58, 58], sb] := by rw [← HWs.out, ← HSb.out]; simp [R.partW]
            subst hws
            go_wp2
            go_meet
            case rel => exact ⟨R.wds_new w3 _ _ [[58, 58], sb] (fun j m hj => by match j, hj with | 0, hj => cases hj; rfl | 1, hj => cases hj; rfl), HB3.out.alloc HB3.out.size _⟩
          · have hws : ws = [[58, 58], pn.data.toList] := by rw [← HWs.out]; simp [R.partW]
            subst hws
            go_wp2
            go_meet
            case rel => exact ⟨R.wds_new w3 _ _ [[58, 58], pn.data.toList] (fun j m hj => by match j, hj with | 0, hj => cases hj; rfl | 1, hj => cases hj; exact congrArg (fun x => some (Value.string x)) (str_list pn)), HB3.out.alloc HB3.out.size _⟩
          · obtain ⟨hdir, hzl, hzr, _⟩ := R.ruleE_zero hrl
            simp only at hdir hzl hzr
            have hlq := sideW_len hzl
            have hlr := sideW_len hzr
            obtain ⟨QL, HQL⟩ : ∃ x, Hid (R.sideW ⟨lst, lfi, lbe, lsr, laf, lcu⟩ = x) := ⟨_, rfl⟩
            obtain ⟨QR, HQR⟩ : ∃ x, Hid (R.sideW ⟨rst, rfi, rbe, rsr, raf, rcu⟩ = x) := ⟨_, rfl⟩
            have hws : ws = QL ++ [R.arrowB pd] ++ QR := by rw [← HWs.out, ← HQL.out, ← HQR.out]; simp [R.partW]
            rw [HQL.out] at hlq
            rw [HQR.out] at hlr
            have HLq : Hid (QL.length ≤ 200) := hlq
            have HLr : Hid (QR.length ≤ 200) := hlr
            have HWs2 : Hid (ws = QL ++ [R.arrowB pd] ++ QR) := hws
            clear hws hlq hlr
            have HLs2 := HLs.out ⟨_, hzl⟩
            have HRs2 := HRs.out ⟨_, hzr⟩
            rw [HQL.out] at HLs2
            rw [HQR.out] at HRs2
            have HLs3 : Hid _ := HLs2
            have HRs3 : Hid _ := HRs2
            clear HLs2 HRs2 hzl hzr HLs HRs HWs
            have z0 : Hid (Below w3.heap.size w3 w3.drew) := (Below.refl _ w3).drew
            have z1 : Hid (∀ o, Below w3.heap.size w3 (w3.drew.alloc o)) := fun o => z0.out.alloc z0.out.size o
            have z2 : Hid (∀ o o', Below w3.heap.size w3 ((w3.drew.alloc o).alloc o')) := fun o o' => (z1.out o).alloc (z1.out o).size o'
            rcases hdir with rfl | rfl | rfl
            · have hws : ws = QL ++ [[62]] ++ QR := by rw [HWs2.out]; rfl
              have HWs4 : Hid (QL ++ [[62]] ++ QR = ws) := hws.symm
              clear hws HWs2
              have HLc : Hid (∀ Z, Below w3.heap.size w3 Z → Calls Tryd.prog 14 #[.agg #[.bool lst, .bool lfi, .slice lbo lbe.length lbc, .slice lso lsr.length lsc, .slice lao laf.length lac, .int .i64 lcu]] Z fun e W => ∃ v', e = .returned v' ∧ R.St wr W (.cells #[.int .i64 2, .string pn, .slice so ps.length sc, .int .i64 1, .bool lst, .bool lfi, .slice lbo lbe.length lbc, .slice lso lsr.length lsc, .slice lao laf.length lac, .int .i64 lcu, .bool rst, .bool rfi, .slice rbo rbe.length rbc, .slice rso rsr.length rsc, .slice rao raf.length rac, .int .i64 rcu] 45) v' QL ∧ ∀ b o, b < Z.heap.size → W.cell? ⟨b, o, none⟩ = Z.cell? ⟨b, o, none⟩) := fun Z hZ => by
                have St3 : R.St wr w3 (.cells #[.int .i64 2, .string pn, .slice so ps.length sc, .int .i64 1, .bool lst, .bool lfi, .slice lbo lbe.length lbc, .slice lso lsr.length lsc, .slice lao laf.length lac, .int .i64 lcu, .bool rst, .bool rfi, .slice rbo rbe.length rbc, .slice rso rsr.length rsc, .slice rao raf.length rac, .int .i64 rcu] 45) (.slice none 0 0) [] := ⟨R.Own.nil _ _, HX3.out, HB3.out⟩
                refine (HLs3.out Z (HBw3.out.trans (hZ.mono hs3))).mono ?_
                rintro e W ⟨v', rfl, ow, bw⟩
                have sZ := (St3.call hZ).call bw
                exact ⟨v', rfl, ⟨ow.base (by have := (St3.call hZ).lt; omega), sZ.box, sZ.bel⟩, fun b o hb => bw.cell (p := ⟨b, o, none⟩) hb⟩
              have HRc : Hid (∀ Z v ms, R.St wr Z (.cells #[.int .i64 2, .string pn, .slice so ps.length sc, .int .i64 1, .bool lst, .bool lfi, .slice lbo lbe.length lbc, .slice lso lsr.length lsc, .slice lao laf.length lac, .int .i64 lcu, .bool rst, .bool rfi, .slice rbo rbe.length rbc, .slice rso rsr.length rsc, .slice rao raf.length rac, .int .i64 rcu] 45) v ms → Calls Tryd.prog 14 #[.agg #[.bool rst, .bool rfi, .slice rbo rbe.length rbc, .slice rso rsr.length rsc, .slice rao raf.length rac, .int .i64 rcu]] Z fun e W => ∃ v' B2, e = .returned v' ∧ R.Own B2 W v' QR ∧ R.St wr W (.cells #[.int .i64 2, .string pn, .slice so ps.length sc, .int .i64 1, .bool lst, .bool lfi, .slice lbo lbe.length lbc, .slice lso lsr.length lsc, .slice lao laf.length lac, .int .i64 lcu, .bool rst, .bool rfi, .slice rbo rbe.length rbc, .slice rso rsr.length rsc, .slice rao raf.length rac, .int .i64 rcu] 45) v ms) := fun Z v ms hZ => by
                refine (HRs3.out Z (HBw.out.trans (hZ.bel.mono hszw))).mono ?_
                rintro e W ⟨v', rfl, ow, bw⟩
                exact ⟨v', _, rfl, ow, hZ.call bw⟩
              have kp0 : Hid (w3.cell? ⟨wr.heap.size, 3, none⟩ = some (.int .i64 1) ∧ w3.cell? ⟨wr.heap.size, 4, none⟩ = some (.bool lst) ∧ w3.cell? ⟨wr.heap.size, 5, none⟩ = some (.bool lfi) ∧ w3.cell? ⟨wr.heap.size, 6, none⟩ = some (.slice lbo lbe.length lbc) ∧ w3.cell? ⟨wr.heap.size, 7, none⟩ = some (.slice lso lsr.length lsc) ∧ w3.cell? ⟨wr.heap.size, 8, none⟩ = some (.slice lao laf.length lac) ∧ w3.cell? ⟨wr.heap.size, 9, none⟩ = some (.int .i64 lcu) ∧ w3.cell? ⟨wr.heap.size, 10, none⟩ = some (.bool rst) ∧ w3.cell? ⟨wr.heap.size, 11, none⟩ = some (.bool rfi) ∧ w3.cell? ⟨wr.heap.size, 12, none⟩ = some (.slice rbo rbe.length rbc) ∧ w3.cell? ⟨wr.heap.size, 13, none⟩ = some (.slice rso rsr.length rsc) ∧ w3.cell? ⟨wr.heap.size, 14, none⟩ = some (.slice rao raf.length rac) ∧ w3.cell? ⟨wr.heap.size, 15, none⟩ = some (.int .i64 rcu)) := ⟨R.at_box HX3.out rfl, R.at_box HX3.out rfl, R.at_box HX3.out rfl, R.at_box HX3.out rfl, R.at_box HX3.out rfl, R.at_box HX3.out rfl, R.at_box HX3.out rfl, R.at_box HX3.out rfl, R.at_box HX3.out rfl, R.at_box HX3.out rfl, R.at_box HX3.out rfl, R.at_box HX3.out rfl, R.at_box HX3.out rfl⟩
              have HK : Hid (∀ {Z W : World}, (Z.cell? ⟨wr.heap.size, 3, none⟩ = some (.int .i64 1) ∧ Z.cell? ⟨wr.heap.size, 4, none⟩ = some (.bool lst) ∧ Z.cell? ⟨wr.heap.size, 5, none⟩ = some (.bool lfi) ∧ Z.cell? ⟨wr.heap.size, 6, none⟩ = some (.slice lbo lbe.length lbc) ∧ Z.cell? ⟨wr.heap.size, 7, none⟩ = some (.slice lso lsr.length lsc) ∧ Z.cell? ⟨wr.heap.size, 8, none⟩ = some (.slice lao laf.length lac) ∧ Z.cell? ⟨wr.heap.size, 9, none⟩ = some (.int .i64 lcu) ∧ Z.cell? ⟨wr.heap.size, 10, none⟩ = some (.bool rst) ∧ Z.cell? ⟨wr.heap.size, 11, none⟩ = some (.bool rfi) ∧ Z.cell? ⟨wr.heap.size, 12, none⟩ = some (.slice rbo rbe.length rbc) ∧ Z.cell? ⟨wr.heap.size, 13, none⟩ = some (.slice rso rsr.length rsc) ∧ Z.cell? ⟨wr.heap.size, 14, none⟩ = some (.slice rao raf.length rac) ∧ Z.cell? ⟨wr.heap.size, 15, none⟩ = some (.int .i64 rcu)) → (∀ b o, b < Z.heap.size → W.cell? ⟨b, o, none⟩ = Z.cell? ⟨b, o, none⟩) → (W.cell? ⟨wr.heap.size, 3, none⟩ = some (.int .i64 1) ∧ W.cell? ⟨wr.heap.size, 4, none⟩ = some (.bool lst) ∧ W.cell? ⟨wr.heap.size, 5, none⟩ = some (.bool lfi) ∧ W.cell? ⟨wr.heap.size, 6, none⟩ = some (.slice lbo lbe.length lbc) ∧ W.cell? ⟨wr.heap.size, 7, none⟩ = some (.slice lso lsr.length lsc) ∧ W.cell? ⟨wr.heap.size, 8, none⟩ = some (.slice lao laf.length lac) ∧ W.cell? ⟨wr.heap.size, 9, none⟩ = some (.int .i64 lcu) ∧ W.cell? ⟨wr.heap.size, 10, none⟩ = some (.bool rst) ∧ W.cell? ⟨wr.heap.size, 11, none⟩ = some (.bool rfi) ∧ W.cell? ⟨wr.heap.size, 12, none⟩ = some (.slice rbo rbe.length rbc) ∧ W.cell? ⟨wr.heap.size, 13, none⟩ = some (.slice rso rsr.length rsc) ∧ W.cell? ⟨wr.heap.size, 14, none⟩ = some (.slice rao raf.length rac) ∧ W.cell? ⟨wr.heap.size, 15, none⟩ = some (.int .i64 rcu))) := fun {Z W} hZ hk => by
                obtain ⟨k3, k4, k5, k6, k7, k8, k9, k10, k11, k12, k13, k14, k15⟩ := hZ
                exact ⟨(hk _ _ (L.block_lt k3)).trans k3, (hk _ _ (L.block_lt k4)).trans k4, (hk _ _ (L.block_lt k5)).trans k5, (hk _ _ (L.block_lt k6)).trans k6, (hk _ _ (L.block_lt k7)).trans k7, (hk _ _ (L.block_lt k8)).trans k8, (hk _ _ (L.block_lt k9)).trans k9, (hk _ _ (L.block_lt k10)).trans k10, (hk _ _ (L.block_lt k11)).trans k11, (hk _ _ (L.block_lt k12)).trans k12, (hk _ _ (L.block_lt k13)).trans k13, (hk _ _ (L.block_lt k14)).trans k14, (hk _ _ (L.block_lt k15)).trans k15⟩
              have HKd : Hid (w3.drew.cell? ⟨wr.heap.size, 3, none⟩ = some (.int .i64 1) ∧ w3.drew.cell? ⟨wr.heap.size, 4, none⟩ = some (.bool lst) ∧ w3.drew.cell? ⟨wr.heap.size, 5, none⟩ = some (.bool lfi) ∧ w3.drew.cell? ⟨wr.heap.size, 6, none⟩ = some (.slice lbo lbe.length lbc) ∧ w3.drew.cell? ⟨wr.heap.size, 7, none⟩ = some (.slice lso lsr.length lsc) ∧ w3.drew.cell? ⟨wr.heap.size, 8, none⟩ = some (.slice lao laf.length lac) ∧ w3.drew.cell? ⟨wr.heap.size, 9, none⟩ = some (.int .i64 lcu) ∧ w3.drew.cell? ⟨wr.heap.size, 10, none⟩ = some (.bool rst) ∧ w3.drew.cell? ⟨wr.heap.size, 11, none⟩ = some (.bool rfi) ∧ w3.drew.cell? ⟨wr.heap.size, 12, none⟩ = some (.slice rbo rbe.length rbc) ∧ w3.drew.cell? ⟨wr.heap.size, 13, none⟩ = some (.slice rso rsr.length rsc) ∧ w3.drew.cell? ⟨wr.heap.size, 14, none⟩ = some (.slice rao raf.length rac) ∧ w3.drew.cell? ⟨wr.heap.size, 15, none⟩ = some (.int .i64 rcu)) := kp0.out
              have HKa : Hid (∀ (Z : World) (o : Obj), (Z.cell? ⟨wr.heap.size, 3, none⟩ = some (.int .i64 1) ∧ Z.cell? ⟨wr.heap.size, 4, none⟩ = some (.bool lst) ∧ Z.cell? ⟨wr.heap.size, 5, none⟩ = some (.bool lfi) ∧ Z.cell? ⟨wr.heap.size, 6, none⟩ = some (.slice lbo lbe.length lbc) ∧ Z.cell? ⟨wr.heap.size, 7, none⟩ = some (.slice lso lsr.length lsc) ∧ Z.cell? ⟨wr.heap.size, 8, none⟩ = some (.slice lao laf.length lac) ∧ Z.cell? ⟨wr.heap.size, 9, none⟩ = some (.int .i64 lcu) ∧ Z.cell? ⟨wr.heap.size, 10, none⟩ = some (.bool rst) ∧ Z.cell? ⟨wr.heap.size, 11, none⟩ = some (.bool rfi) ∧ Z.cell? ⟨wr.heap.size, 12, none⟩ = some (.slice rbo rbe.length rbc) ∧ Z.cell? ⟨wr.heap.size, 13, none⟩ = some (.slice rso rsr.length rsc) ∧ Z.cell? ⟨wr.heap.size, 14, none⟩ = some (.slice rao raf.length rac) ∧ Z.cell? ⟨wr.heap.size, 15, none⟩ = some (.int .i64 rcu)) → ((Z.alloc o).cell? ⟨wr.heap.size, 3, none⟩ = some (.int .i64 1) ∧ (Z.alloc o).cell? ⟨wr.heap.size, 4, none⟩ = some (.bool lst) ∧ (Z.alloc o).cell? ⟨wr.heap.size, 5, none⟩ = some (.bool lfi) ∧ (Z.alloc o).cell? ⟨wr.heap.size, 6, none⟩ = some (.slice lbo lbe.length lbc) ∧ (Z.alloc o).cell? ⟨wr.heap.size, 7, none⟩ = some (.slice lso lsr.length lsc) ∧ (Z.alloc o).cell? ⟨wr.heap.size, 8, none⟩ = some (.slice lao laf.length lac) ∧ (Z.alloc o).cell? ⟨wr.heap.size, 9, none⟩ = some (.int .i64 lcu) ∧ (Z.alloc o).cell? ⟨wr.heap.size, 10, none⟩ = some (.bool rst) ∧ (Z.alloc o).cell? ⟨wr.heap.size, 11, none⟩ = some (.bool rfi) ∧ (Z.alloc o).cell? ⟨wr.heap.size, 12, none⟩ = some (.slice rbo rbe.length rbc) ∧ (Z.alloc o).cell? ⟨wr.heap.size, 13, none⟩ = some (.slice rso rsr.length rsc) ∧ (Z.alloc o).cell? ⟨wr.heap.size, 14, none⟩ = some (.slice rao raf.length rac) ∧ (Z.alloc o).cell? ⟨wr.heap.size, 15, none⟩ = some (.int .i64 rcu))) := fun Z o hZ => HK.out hZ fun b o' hb => World.cell?_alloc_lt _ _ _ hb
              have hwr : IntKind.i64.wrap 0 = 0 := by decide
              go_wp2
              refine wp_region_held_drew (S := fun w' => w'.cell? ⟨wr.heap.size, 3, none⟩ = some (.int .i64 1) ∧ w'.cell? ⟨wr.heap.size, 4, none⟩ = some (.bool lst) ∧ w'.cell? ⟨wr.heap.size, 5, none⟩ = some (.bool lfi) ∧ w'.cell? ⟨wr.heap.size, 6, none⟩ = some (.slice lbo lbe.length lbc) ∧ w'.cell? ⟨wr.heap.size, 7, none⟩ = some (.slice lso lsr.length lsc) ∧ w'.cell? ⟨wr.heap.size, 8, none⟩ = some (.slice lao laf.length lac) ∧ w'.cell? ⟨wr.heap.size, 9, none⟩ = some (.int .i64 lcu) ∧ w'.cell? ⟨wr.heap.size, 10, none⟩ = some (.bool rst) ∧ w'.cell? ⟨wr.heap.size, 11, none⟩ = some (.bool rfi) ∧ w'.cell? ⟨wr.heap.size, 12, none⟩ = some (.slice rbo rbe.length rbc) ∧ w'.cell? ⟨wr.heap.size, 13, none⟩ = some (.slice rso rsr.length rsc) ∧ w'.cell? ⟨wr.heap.size, 14, none⟩ = some (.slice rao raf.length rac) ∧ w'.cell? ⟨wr.heap.size, 15, none⟩ = some (.int .i64 rcu)) (by kernel_rfl) HKd.out (fun hHeld => ?_)
              refine wpAnyH_take (i := 0) (v := ?v0_101) rfl (by kernel_rfl) (by kernel_rfl) (by kernel_rfl) (fun _ _ _ h => h) (Or.inl ⟨by rfl, ?hy0_101⟩) (by assumption) ?rest0_101
              case hy0_101 => (intro w hSw; (try dsimp only at hSw); go_simp; try (with_reducible rfl))
              try simp only [Act.put, List.setIfInBounds_toArray, List.set_cons_zero, List.set_cons_succ]
              refine wpAnyH_take (i := 1) (v := ?v1_102) rfl (by kernel_rfl) (by kernel_rfl) (by kernel_rfl) (fun _ _ _ h => h) (Or.inl ⟨by rfl, ?hy1_102⟩) (by assumption) ?rest1_102
              case hy1_102 => (intro w hSw; (try dsimp only at hSw); go_simp; try (with_reducible rfl))
              try simp only [Act.put, List.setIfInBounds_toArray, List.set_cons_zero, List.set_cons_succ]
              refine wpAnyH_take (i := 4) (v := ?v4_103) rfl (by kernel_rfl) (by kernel_rfl) (by kernel_rfl) (fun _ _ _ h => h) (Or.inl ⟨by rfl, ?hy4_103⟩) (by assumption) ?rest4_103
              case hy4_103 => (intro w hSw; (try dsimp only at hSw); go_simp; try (with_reducible rfl))
              try simp only [Act.put, List.setIfInBounds_toArray, List.set_cons_zero, List.set_cons_succ]
              refine wpAnyH_take (i := 5) (v := ?v5_104) rfl (by kernel_rfl) (by kernel_rfl) (by kernel_rfl) (fun _ _ _ h => h) (Or.inl ⟨by rfl, ?hy5_104⟩) (by assumption) ?rest5_104
              case hy5_104 => (intro w hSw; (try dsimp only at hSw); go_simp; try (with_reducible rfl))
              try simp only [Act.put, List.setIfInBounds_toArray, List.set_cons_zero, List.set_cons_succ]
              refine wpAnyH_take (i := 6) (v := ?v6_105) rfl (by kernel_rfl) (by kernel_rfl) (by kernel_rfl) (fun _ _ _ h => h) (Or.inl ⟨by rfl, ?hy6_105⟩) (by assumption) ?rest6_105
              case hy6_105 => (intro w hSw; (try dsimp only at hSw); go_simp; try (with_reducible rfl))
              try simp only [Act.put, List.setIfInBounds_toArray, List.set_cons_zero, List.set_cons_succ]
              refine wpAnyH_take (i := 11) (v := ?v11_106) rfl (by kernel_rfl) (by kernel_rfl) (by kernel_rfl) (fun _ _ _ h => h) (Or.inl ⟨by rfl, ?hy11_106⟩) (by assumption) ?rest11_106
              case hy11_106 => (intro w hSw; (try dsimp only at hSw); go_simp; try (with_reducible rfl))
              try simp only [Act.put, List.setIfInBounds_toArray, List.set_cons_zero, List.set_cons_succ]
              refine wpAnyH_take (i := 12) (v := ?v12_107) rfl (by kernel_rfl) (by kernel_rfl) (by kernel_rfl) (fun _ _ _ h => h) (Or.inl ⟨by rfl, ?hy12_107⟩) (by assumption) ?rest12_107
              case hy12_107 => (intro w hSw; (try dsimp only at hSw); go_simp; try (with_reducible rfl))
              try simp only [Act.put, List.setIfInBounds_toArray, List.set_cons_zero, List.set_cons_succ]
              refine wpAnyH_ready (rs := [2, 3]) (by kernel_rfl) (by simp) ?_
              refine AllReadyH.cons rfl (fun K hK => ?_) ?_
              · skip
                go_simp
                go_at_call 14; refine (HLc.out _ (z0.out)).mono ?_; rintro e W4 ⟨v4, rfl, S4, kc4⟩
                try go_wp2_with fail
                refine hK.out _ _ (⟨R.at_box S4.box rfl, R.at_box S4.box rfl, R.at_box S4.box rfl, R.at_box S4.box rfl, R.at_box S4.box rfl, R.at_box S4.box rfl, R.at_box S4.box rfl, R.at_box S4.box rfl, R.at_box S4.box rfl, R.at_box S4.box rfl, R.at_box S4.box rfl, R.at_box S4.box rfl, R.at_box S4.box rfl⟩) (fun hH4 => ?_)
                clear hK K
                try simp only [Act.put, List.setIfInBounds_toArray, List.set_cons_zero, List.set_cons_succ]
                refine wpAnyH_ready (rs := [3]) (by kernel_rfl) (by simp) ?_
                refine AllReadyH.cons rfl (fun K hK => ?_) AllReadyH.nil
                go_simp
                refine hK.out _ _ (HKa.out _ _ hH4) (fun hHb => ?_)
                clear hK K
                try simp only [Act.put, List.setIfInBounds_toArray, List.set_cons_zero, List.set_cons_succ]
                refine wpAnyH_take (i := 7) (v := ?v7_108) rfl (by kernel_rfl) (by kernel_rfl) (by kernel_rfl) (fun _ _ _ h => h) (Or.inl ⟨by rfl, ?hy7_108⟩) (by assumption) ?rest7_108
                case hy7_108 => (intro w hSw; (try dsimp only at hSw); go_simp; try (with_reducible rfl))
                try simp only [Act.put, List.setIfInBounds_toArray, List.set_cons_zero, List.set_cons_succ]
                refine wpAnyH_ready (rs := [8]) (by kernel_rfl) (by simp) ?_
                refine AllReadyH.cons rfl (fun K hK => ?_) AllReadyH.nil
                go_simp
                refine hK.out _ _ (hHb) (fun hHl => ?_)
                clear hK K
                try simp only [Act.put, List.setIfInBounds_toArray, List.set_cons_zero, List.set_cons_succ]
                refine wpAnyH_ready (rs := [9]) (by kernel_rfl) (by simp) ?_
                refine AllReadyH.cons rfl (fun K hK => ?_) AllReadyH.nil
                go_simp
                refine hK.out _ _ (HKa.out _ _ hHl) (fun hHc => ?_)
                clear hK K
                try simp only [Act.put, List.setIfInBounds_toArray, List.set_cons_zero, List.set_cons_succ]
                refine wpAnyH_ready (rs := [10]) (by kernel_rfl) (by simp) ?_
                refine AllReadyH.cons rfl (fun K hK => ?_) AllReadyH.nil
                refine R.step_one (by rfl) (.tmp 35) (.tmp 42) (by rfl) (wr.heap.size + 1) v4 QL (by rfl) ?o1_109 _ (by rfl) [62] ?o2_109 ?o3_109 ?o4_109 ?o5_109
                case o1_109 => exact (S4.own.alloc _).alloc _
                case o2_109 => exact R.new_cell2 _ _ _ _
                case o3_109 => (have := HLq.out; omega)
                case o4_109 => (have := S4.lt; first | omega | (simp; omega))
                intro v5 W5 own5 gr5
                have S5 : R.St wr W5 (.cells #[.int .i64 2, .string pn, .slice so ps.length sc, .int .i64 1, .bool lst, .bool lfi, .slice lbo lbe.length lbc, .slice lso lsr.length lsc, .slice lao laf.length lac, .int .i64 lcu, .bool rst, .bool rfi, .slice rbo rbe.length rbc, .slice rso rsr.length rsc, .slice rao raf.length rac, .int .i64 rcu] 45) v5 (QL ++ [[62]]) := ((S4.call ((Below.refl _ _).alloc (Nat.le_refl _) _)).call ((Below.refl _ _).alloc (Nat.le_refl _) _)).rows own5 gr5
                refine hK.out _ _ (⟨R.at_box S5.box rfl, R.at_box S5.box rfl, R.at_box S5.box rfl, R.at_box S5.box rfl, R.at_box S5.box rfl, R.at_box S5.box rfl, R.at_box S5.box rfl, R.at_box S5.box rfl, R.at_box S5.box rfl, R.at_box S5.box rfl, R.at_box S5.box rfl, R.at_box S5.box rfl, R.at_box S5.box rfl⟩) (fun hH5 => ?_)
                clear hK K
                try simp only [Act.put, List.setIfInBounds_toArray, List.set_cons_zero, List.set_cons_succ]
                refine wpAnyH_ready (rs := [13]) (by kernel_rfl) (by simp) ?_
                refine AllReadyH.cons rfl (fun K hK => ?_) ?_
                · go_simp
                  go_at_call 14; refine (HRc.out W5 v5 _ S5).mono ?_; rintro e W6 ⟨v6, B6, rfl, ow6, S6⟩
                  try go_wp2_with fail
                  refine hK.out _ _ (⟨R.at_box S6.box rfl, R.at_box S6.box rfl, R.at_box S6.box rfl, R.at_box S6.box rfl, R.at_box S6.box rfl, R.at_box S6.box rfl, R.at_box S6.box rfl, R.at_box S6.box rfl, R.at_box S6.box rfl, R.at_box S6.box rfl, R.at_box S6.box rfl, R.at_box S6.box rfl, R.at_box S6.box rfl⟩) (fun hH6 => ?_)
                  clear hK K
                  try simp only [Act.put, List.setIfInBounds_toArray, List.set_cons_zero, List.set_cons_succ]
                  refine wpAnyH_ready (rs := [14]) (by kernel_rfl) (by simp) ?_
                  refine AllReadyH.cons rfl (fun K hK => ?_) ?_
                  · refine R.step_rows (by rfl) (.tmp 43) (.tmp 46) (by rfl) (wr.heap.size + 1) v5 (QL ++ [[62]]) (by rfl) S6.own v6 (by rfl) B6 QR ow6 ?p1_110 ?p2_110 ?p3_110 ?p4_110
                    case p1_110 => (have := HLq.out; simp; omega)
                    case p2_110 => (have := HLr.out; omega)
                    case p3_110 => (have := S6.lt; omega)
                    intro v7 W7 own7 gr7
                    rw [HWs4.out] at own7
                    have S7 := S6.rows own7 gr7
                    refine hK.out _ _ (⟨R.at_box S7.box rfl, R.at_box S7.box rfl, R.at_box S7.box rfl, R.at_box S7.box rfl, R.at_box S7.box rfl, R.at_box S7.box rfl, R.at_box S7.box rfl, R.at_box S7.box rfl, R.at_box S7.box rfl, R.at_box S7.box rfl, R.at_box S7.box rfl, R.at_box S7.box rfl, R.at_box S7.box rfl⟩) (fun hH7 => ?_)
                    clear hK K
                    rw [R.put_at (d := 47) (h := ?hq_111)]
                    case hq_111 => rfl
                    try simp only [Act.put, List.setIfInBounds_toArray, List.set_cons_zero, List.set_cons_succ]
                    refine wpAnyH_take (i := 15) (v := v7) rfl (by kernel_rfl) (by kernel_rfl) (by kernel_rfl) (fun _ _ _ h => h) (Or.inl ⟨by rfl, ?hy_112⟩) (by assumption) ?rest_112
                    case hy_112 => (intro w hSw; (try dsimp only at hSw); go_simp; try (with_reducible rfl))
                    rw [R.put_at (d := 8) (h := ?hr_112)]
                    case hr_112 => rfl
                    try simp only [Act.put, List.setIfInBounds_toArray, List.set_cons_zero, List.set_cons_succ]
                    refine wpAnyH_done (by kernel_rfl) ?_ _
                    have HS9 : Hid (R.St wr W7 (.cells #[.int .i64 2, .string pn, .slice so ps.length sc, .int .i64 1, .bool lst, .bool lfi, .slice lbo lbe.length lbc, .slice lso lsr.length lsc, .slice lao laf.length lac, .int .i64 lcu, .bool rst, .bool rfi, .slice rbo rbe.length rbc, .slice rso rsr.length rsc, .slice rao raf.length rac, .int .i64 rcu] 45) v7 ws) := S7
                    clear S4 S5 S6 S7 ow6 own5 gr5 own7 gr7 kc4 hHeld hH4 hH5 hH6 hH7
                    go_wp2_with fail
                    go_meet
                    case rel => exact ⟨HS9.out.own.wds, HS9.out.bel⟩
                  · exact AllReadyH.nil
                · exact AllReadyH.nil
              refine AllReadyH.cons rfl (fun K hK => ?_) ?_
              · skip
                go_simp
                refine hK.out _ _ (HKa.out _ _ hHeld) (fun hHb => ?_)
                clear hK K
                try simp only [Act.put, List.setIfInBounds_toArray, List.set_cons_zero, List.set_cons_succ]
                refine wpAnyH_take (i := 7) (v := ?v7_113) rfl (by kernel_rfl) (by kernel_rfl) (by kernel_rfl) (fun _ _ _ h => h) (Or.inl ⟨by rfl, ?hy7_113⟩) (by assumption) ?rest7_113
                case hy7_113 => (intro w hSw; (try dsimp only at hSw); go_simp; try (with_reducible rfl))
                try simp only [Act.put, List.setIfInBounds_toArray, List.set_cons_zero, List.set_cons_succ]
                refine wpAnyH_ready (rs := [2, 8]) (by kernel_rfl) (by simp) ?_
                refine AllReadyH.cons rfl (fun K hK => ?_) ?_
                · skip
                  go_simp
                  go_at_call 14; refine (HLc.out _ (z1.out _)).mono ?_; rintro e W4 ⟨v4, rfl, S4, kc4⟩
                  try go_wp2_with fail
                  refine hK.out _ _ (⟨R.at_box S4.box rfl, R.at_box S4.box rfl, R.at_box S4.box rfl, R.at_box S4.box rfl, R.at_box S4.box rfl, R.at_box S4.box rfl, R.at_box S4.box rfl, R.at_box S4.box rfl, R.at_box S4.box rfl, R.at_box S4.box rfl, R.at_box S4.box rfl, R.at_box S4.box rfl, R.at_box S4.box rfl⟩) (fun hH4 => ?_)
                  clear hK K
                  try simp only [Act.put, List.setIfInBounds_toArray, List.set_cons_zero, List.set_cons_succ]
                  refine wpAnyH_ready (rs := [8]) (by kernel_rfl) (by simp) ?_
                  refine AllReadyH.cons rfl (fun K hK => ?_) AllReadyH.nil
                  have hkx : W4.cell? ⟨w3.heap.size, 0, none⟩ = some (.string ⟨#[62]⟩) := (kc4 w3.heap.size 0 (by simp)).trans (R.new_at w3.drew _ _ 0 _ rfl)
                  go_simp
                  refine hK.out _ _ (hH4) (fun hHl => ?_)
                  clear hK K
                  try simp only [Act.put, List.setIfInBounds_toArray, List.set_cons_zero, List.set_cons_succ]
                  refine wpAnyH_ready (rs := [9]) (by kernel_rfl) (by simp) ?_
                  refine AllReadyH.cons rfl (fun K hK => ?_) AllReadyH.nil
                  go_simp
                  refine hK.out _ _ (HKa.out _ _ hHl) (fun hHc => ?_)
                  clear hK K
                  try simp only [Act.put, List.setIfInBounds_toArray, List.set_cons_zero, List.set_cons_succ]
                  refine wpAnyH_ready (rs := [10]) (by kernel_rfl) (by simp) ?_
                  refine AllReadyH.cons rfl (fun K hK => ?_) AllReadyH.nil
                  refine R.step_one (by rfl) (.tmp 35) (.tmp 42) (by rfl) (wr.heap.size + 1) v4 QL (by rfl) ?o1_114 _ (by rfl) [62] ?o2_114 ?o3_114 ?o4_114 ?o5_114
                  case o1_114 => exact S4.own.alloc _
                  case o2_114 => exact R.new_cell _ _ _
                  case o3_114 => (have := HLq.out; omega)
                  case o4_114 => (have := S4.lt; first | omega | (simp; omega))
                  intro v5 W5 own5 gr5
                  have S5 : R.St wr W5 (.cells #[.int .i64 2, .string pn, .slice so ps.length sc, .int .i64 1, .bool lst, .bool lfi, .slice lbo lbe.length lbc, .slice lso lsr.length lsc, .slice lao laf.length lac, .int .i64 lcu, .bool rst, .bool rfi, .slice rbo rbe.length rbc, .slice rso rsr.length rsc, .slice rao raf.length rac, .int .i64 rcu] 45) v5 (QL ++ [[62]]) := (S4.call ((Below.refl _ _).alloc (Nat.le_refl _) _)).rows own5 gr5
                  refine hK.out _ _ (⟨R.at_box S5.box rfl, R.at_box S5.box rfl, R.at_box S5.box rfl, R.at_box S5.box rfl, R.at_box S5.box rfl, R.at_box S5.box rfl, R.at_box S5.box rfl, R.at_box S5.box rfl, R.at_box S5.box rfl, R.at_box S5.box rfl, R.at_box S5.box rfl, R.at_box S5.box rfl, R.at_box S5.box rfl⟩) (fun hH5 => ?_)
                  clear hK K
                  try simp only [Act.put, List.setIfInBounds_toArray, List.set_cons_zero, List.set_cons_succ]
                  refine wpAnyH_ready (rs := [13]) (by kernel_rfl) (by simp) ?_
                  refine AllReadyH.cons rfl (fun K hK => ?_) ?_
                  · go_simp
                    go_at_call 14; refine (HRc.out W5 v5 _ S5).mono ?_; rintro e W6 ⟨v6, B6, rfl, ow6, S6⟩
                    try go_wp2_with fail
                    refine hK.out _ _ (⟨R.at_box S6.box rfl, R.at_box S6.box rfl, R.at_box S6.box rfl, R.at_box S6.box rfl, R.at_box S6.box rfl, R.at_box S6.box rfl, R.at_box S6.box rfl, R.at_box S6.box rfl, R.at_box S6.box rfl, R.at_box S6.box rfl, R.at_box S6.box rfl, R.at_box S6.box rfl, R.at_box S6.box rfl⟩) (fun hH6 => ?_)
                    clear hK K
                    try simp only [Act.put, List.setIfInBounds_toArray, List.set_cons_zero, List.set_cons_succ]
                    refine wpAnyH_ready (rs := [14]) (by kernel_rfl) (by simp) ?_
                    refine AllReadyH.cons rfl (fun K hK => ?_) ?_
                    · refine R.step_rows (by rfl) (.tmp 43) (.tmp 46) (by rfl) (wr.heap.size + 1) v5 (QL ++ [[62]]) (by rfl) S6.own v6 (by rfl) B6 QR ow6 ?p1_115 ?p2_115 ?p3_115 ?p4_115
                      case p1_115 => (have := HLq.out; simp; omega)
                      case p2_115 => (have := HLr.out; omega)
                      case p3_115 => (have := S6.lt; omega)
                      intro v7 W7 own7 gr7
                      rw [HWs4.out] at own7
                      have S7 := S6.rows own7 gr7
                      refine hK.out _ _ (⟨R.at_box S7.box rfl, R.at_box S7.box rfl, R.at_box S7.box rfl, R.at_box S7.box rfl, R.at_box S7.box rfl, R.at_box S7.box rfl, R.at_box S7.box rfl, R.at_box S7.box rfl, R.at_box S7.box rfl, R.at_box S7.box rfl, R.at_box S7.box rfl, R.at_box S7.box rfl, R.at_box S7.box rfl⟩) (fun hH7 => ?_)
                      clear hK K
                      rw [R.put_at (d := 47) (h := ?hq_116)]
                      case hq_116 => rfl
                      try simp only [Act.put, List.setIfInBounds_toArray, List.set_cons_zero, List.set_cons_succ]
                      refine wpAnyH_take (i := 15) (v := v7) rfl (by kernel_rfl) (by kernel_rfl) (by kernel_rfl) (fun _ _ _ h => h) (Or.inl ⟨by rfl, ?hy_117⟩) (by assumption) ?rest_117
                      case hy_117 => (intro w hSw; (try dsimp only at hSw); go_simp; try (with_reducible rfl))
                      rw [R.put_at (d := 8) (h := ?hr_117)]
                      case hr_117 => rfl
                      try simp only [Act.put, List.setIfInBounds_toArray, List.set_cons_zero, List.set_cons_succ]
                      refine wpAnyH_done (by kernel_rfl) ?_ _
                      have HS9 : Hid (R.St wr W7 (.cells #[.int .i64 2, .string pn, .slice so ps.length sc, .int .i64 1, .bool lst, .bool lfi, .slice lbo lbe.length lbc, .slice lso lsr.length lsc, .slice lao laf.length lac, .int .i64 lcu, .bool rst, .bool rfi, .slice rbo rbe.length rbc, .slice rso rsr.length rsc, .slice rao raf.length rac, .int .i64 rcu] 45) v7 ws) := S7
                      clear S4 S5 S6 S7 ow6 own5 gr5 own7 gr7 kc4 hHeld hH4 hH5 hH6 hH7
                      go_wp2_with fail
                      go_meet
                      case rel => exact ⟨HS9.out.own.wds, HS9.out.bel⟩
                    · exact AllReadyH.nil
                  · exact AllReadyH.nil
                refine AllReadyH.cons rfl (fun K hK => ?_) ?_
                · skip
                  go_simp
                  refine hK.out _ _ (hHb) (fun hHl => ?_)
                  clear hK K
                  try simp only [Act.put, List.setIfInBounds_toArray, List.set_cons_zero, List.set_cons_succ]
                  refine wpAnyH_ready (rs := [2, 9]) (by kernel_rfl) (by simp) ?_
                  refine AllReadyH.cons rfl (fun K hK => ?_) ?_
                  · skip
                    go_simp
                    go_at_call 14; refine (HLc.out _ (z1.out _)).mono ?_; rintro e W4 ⟨v4, rfl, S4, kc4⟩
                    try go_wp2_with fail
                    refine hK.out _ _ (⟨R.at_box S4.box rfl, R.at_box S4.box rfl, R.at_box S4.box rfl, R.at_box S4.box rfl, R.at_box S4.box rfl, R.at_box S4.box rfl, R.at_box S4.box rfl, R.at_box S4.box rfl, R.at_box S4.box rfl, R.at_box S4.box rfl, R.at_box S4.box rfl, R.at_box S4.box rfl, R.at_box S4.box rfl⟩) (fun hH4 => ?_)
                    clear hK K
                    try simp only [Act.put, List.setIfInBounds_toArray, List.set_cons_zero, List.set_cons_succ]
                    refine wpAnyH_ready (rs := [9]) (by kernel_rfl) (by simp) ?_
                    refine AllReadyH.cons rfl (fun K hK => ?_) AllReadyH.nil
                    go_simp
                    refine hK.out _ _ (HKa.out _ _ hH4) (fun hHc => ?_)
                    clear hK K
                    try simp only [Act.put, List.setIfInBounds_toArray, List.set_cons_zero, List.set_cons_succ]
                    refine wpAnyH_ready (rs := [10]) (by kernel_rfl) (by simp) ?_
                    refine AllReadyH.cons rfl (fun K hK => ?_) AllReadyH.nil
                    refine R.step_one (by rfl) (.tmp 35) (.tmp 42) (by rfl) (wr.heap.size + 1) v4 QL (by rfl) ?o1_118 _ (by rfl) [62] ?o2_118 ?o3_118 ?o4_118 ?o5_118
                    case o1_118 => exact S4.own.alloc _
                    case o2_118 => exact R.new_cell _ _ _
                    case o3_118 => (have := HLq.out; omega)
                    case o4_118 => (have := S4.lt; first | omega | (simp; omega))
                    intro v5 W5 own5 gr5
                    have S5 : R.St wr W5 (.cells #[.int .i64 2, .string pn, .slice so ps.length sc, .int .i64 1, .bool lst, .bool lfi, .slice lbo lbe.length lbc, .slice lso lsr.length lsc, .slice lao laf.length lac, .int .i64 lcu, .bool rst, .bool rfi, .slice rbo rbe.length rbc, .slice rso rsr.length rsc, .slice rao raf.length rac, .int .i64 rcu] 45) v5 (QL ++ [[62]]) := (S4.call ((Below.refl _ _).alloc (Nat.le_refl _) _)).rows own5 gr5
                    refine hK.out _ _ (⟨R.at_box S5.box rfl, R.at_box S5.box rfl, R.at_box S5.box rfl, R.at_box S5.box rfl, R.at_box S5.box rfl, R.at_box S5.box rfl, R.at_box S5.box rfl, R.at_box S5.box rfl, R.at_box S5.box rfl, R.at_box S5.box rfl, R.at_box S5.box rfl, R.at_box S5.box rfl, R.at_box S5.box rfl⟩) (fun hH5 => ?_)
                    clear hK K
                    try simp only [Act.put, List.setIfInBounds_toArray, List.set_cons_zero, List.set_cons_succ]
                    refine wpAnyH_ready (rs := [13]) (by kernel_rfl) (by simp) ?_
                    refine AllReadyH.cons rfl (fun K hK => ?_) ?_
                    · go_simp
                      go_at_call 14; refine (HRc.out W5 v5 _ S5).mono ?_; rintro e W6 ⟨v6, B6, rfl, ow6, S6⟩
                      try go_wp2_with fail
                      refine hK.out _ _ (⟨R.at_box S6.box rfl, R.at_box S6.box rfl, R.at_box S6.box rfl, R.at_box S6.box rfl, R.at_box S6.box rfl, R.at_box S6.box rfl, R.at_box S6.box rfl, R.at_box S6.box rfl, R.at_box S6.box rfl, R.at_box S6.box rfl, R.at_box S6.box rfl, R.at_box S6.box rfl, R.at_box S6.box rfl⟩) (fun hH6 => ?_)
                      clear hK K
                      try simp only [Act.put, List.setIfInBounds_toArray, List.set_cons_zero, List.set_cons_succ]
                      refine wpAnyH_ready (rs := [14]) (by kernel_rfl) (by simp) ?_
                      refine AllReadyH.cons rfl (fun K hK => ?_) ?_
                      · refine R.step_rows (by rfl) (.tmp 43) (.tmp 46) (by rfl) (wr.heap.size + 1) v5 (QL ++ [[62]]) (by rfl) S6.own v6 (by rfl) B6 QR ow6 ?p1_119 ?p2_119 ?p3_119 ?p4_119
                        case p1_119 => (have := HLq.out; simp; omega)
                        case p2_119 => (have := HLr.out; omega)
                        case p3_119 => (have := S6.lt; omega)
                        intro v7 W7 own7 gr7
                        rw [HWs4.out] at own7
                        have S7 := S6.rows own7 gr7
                        refine hK.out _ _ (⟨R.at_box S7.box rfl, R.at_box S7.box rfl, R.at_box S7.box rfl, R.at_box S7.box rfl, R.at_box S7.box rfl, R.at_box S7.box rfl, R.at_box S7.box rfl, R.at_box S7.box rfl, R.at_box S7.box rfl, R.at_box S7.box rfl, R.at_box S7.box rfl, R.at_box S7.box rfl, R.at_box S7.box rfl⟩) (fun hH7 => ?_)
                        clear hK K
                        rw [R.put_at (d := 47) (h := ?hq_120)]
                        case hq_120 => rfl
                        try simp only [Act.put, List.setIfInBounds_toArray, List.set_cons_zero, List.set_cons_succ]
                        refine wpAnyH_take (i := 15) (v := v7) rfl (by kernel_rfl) (by kernel_rfl) (by kernel_rfl) (fun _ _ _ h => h) (Or.inl ⟨by rfl, ?hy_121⟩) (by assumption) ?rest_121
                        case hy_121 => (intro w hSw; (try dsimp only at hSw); go_simp; try (with_reducible rfl))
                        rw [R.put_at (d := 8) (h := ?hr_121)]
                        case hr_121 => rfl
                        try simp only [Act.put, List.setIfInBounds_toArray, List.set_cons_zero, List.set_cons_succ]
                        refine wpAnyH_done (by kernel_rfl) ?_ _
                        have HS9 : Hid (R.St wr W7 (.cells #[.int .i64 2, .string pn, .slice so ps.length sc, .int .i64 1, .bool lst, .bool lfi, .slice lbo lbe.length lbc, .slice lso lsr.length lsc, .slice lao laf.length lac, .int .i64 lcu, .bool rst, .bool rfi, .slice rbo rbe.length rbc, .slice rso rsr.length rsc, .slice rao raf.length rac, .int .i64 rcu] 45) v7 ws) := S7
                        clear S4 S5 S6 S7 ow6 own5 gr5 own7 gr7 kc4 hHeld hH4 hH5 hH6 hH7
                        go_wp2_with fail
                        go_meet
                        case rel => exact ⟨HS9.out.own.wds, HS9.out.bel⟩
                      · exact AllReadyH.nil
                    · exact AllReadyH.nil
                  refine AllReadyH.cons rfl (fun K hK => ?_) ?_
                  · skip
                    go_simp
                    refine hK.out _ _ (HKa.out _ _ hHl) (fun hHc => ?_)
                    clear hK K
                    try simp only [Act.put, List.setIfInBounds_toArray, List.set_cons_zero, List.set_cons_succ]
                    refine wpAnyH_ready (rs := [2]) (by kernel_rfl) (by simp) ?_
                    refine AllReadyH.cons rfl (fun K hK => ?_) AllReadyH.nil
                    go_simp
                    go_at_call 14; refine (HLc.out _ (z2.out _ _)).mono ?_; rintro e W4 ⟨v4, rfl, S4, kc4⟩
                    try go_wp2_with fail
                    refine hK.out _ _ (⟨R.at_box S4.box rfl, R.at_box S4.box rfl, R.at_box S4.box rfl, R.at_box S4.box rfl, R.at_box S4.box rfl, R.at_box S4.box rfl, R.at_box S4.box rfl, R.at_box S4.box rfl, R.at_box S4.box rfl, R.at_box S4.box rfl, R.at_box S4.box rfl, R.at_box S4.box rfl, R.at_box S4.box rfl⟩) (fun hH4 => ?_)
                    clear hK K
                    try simp only [Act.put, List.setIfInBounds_toArray, List.set_cons_zero, List.set_cons_succ]
                    refine wpAnyH_ready (rs := [10]) (by kernel_rfl) (by simp) ?_
                    refine AllReadyH.cons rfl (fun K hK => ?_) AllReadyH.nil
                    refine R.step_one (by rfl) (.tmp 35) (.tmp 42) (by rfl) (wr.heap.size + 1) v4 QL (by rfl) ?o1_122 _ (by rfl) [62] ?o2_122 ?o3_122 ?o4_122 ?o5_122
                    case o1_122 => exact S4.own
                    case o2_122 => exact (kc4 (w3.heap.size + 1) 0 (by simp)).trans (R.new_cell2 w3.drew _ _ _)
                    case o3_122 => (have := HLq.out; omega)
                    case o4_122 => (have := S4.lt; first | omega | (simp; omega))
                    intro v5 W5 own5 gr5
                    have S5 : R.St wr W5 (.cells #[.int .i64 2, .string pn, .slice so ps.length sc, .int .i64 1, .bool lst, .bool lfi, .slice lbo lbe.length lbc, .slice lso lsr.length lsc, .slice lao laf.length lac, .int .i64 lcu, .bool rst, .bool rfi, .slice rbo rbe.length rbc, .slice rso rsr.length rsc, .slice rao raf.length rac, .int .i64 rcu] 45) v5 (QL ++ [[62]]) := (S4).rows own5 gr5
                    refine hK.out _ _ (⟨R.at_box S5.box rfl, R.at_box S5.box rfl, R.at_box S5.box rfl, R.at_box S5.box rfl, R.at_box S5.box rfl, R.at_box S5.box rfl, R.at_box S5.box rfl, R.at_box S5.box rfl, R.at_box S5.box rfl, R.at_box S5.box rfl, R.at_box S5.box rfl, R.at_box S5.box rfl, R.at_box S5.box rfl⟩) (fun hH5 => ?_)
                    clear hK K
                    try simp only [Act.put, List.setIfInBounds_toArray, List.set_cons_zero, List.set_cons_succ]
                    refine wpAnyH_ready (rs := [13]) (by kernel_rfl) (by simp) ?_
                    refine AllReadyH.cons rfl (fun K hK => ?_) ?_
                    · go_simp
                      go_at_call 14; refine (HRc.out W5 v5 _ S5).mono ?_; rintro e W6 ⟨v6, B6, rfl, ow6, S6⟩
                      try go_wp2_with fail
                      refine hK.out _ _ (⟨R.at_box S6.box rfl, R.at_box S6.box rfl, R.at_box S6.box rfl, R.at_box S6.box rfl, R.at_box S6.box rfl, R.at_box S6.box rfl, R.at_box S6.box rfl, R.at_box S6.box rfl, R.at_box S6.box rfl, R.at_box S6.box rfl, R.at_box S6.box rfl, R.at_box S6.box rfl, R.at_box S6.box rfl⟩) (fun hH6 => ?_)
                      clear hK K
                      try simp only [Act.put, List.setIfInBounds_toArray, List.set_cons_zero, List.set_cons_succ]
                      refine wpAnyH_ready (rs := [14]) (by kernel_rfl) (by simp) ?_
                      refine AllReadyH.cons rfl (fun K hK => ?_) ?_
                      · refine R.step_rows (by rfl) (.tmp 43) (.tmp 46) (by rfl) (wr.heap.size + 1) v5 (QL ++ [[62]]) (by rfl) S6.own v6 (by rfl) B6 QR ow6 ?p1_123 ?p2_123 ?p3_123 ?p4_123
                        case p1_123 => (have := HLq.out; simp; omega)
                        case p2_123 => (have := HLr.out; omega)
                        case p3_123 => (have := S6.lt; omega)
                        intro v7 W7 own7 gr7
                        rw [HWs4.out] at own7
                        have S7 := S6.rows own7 gr7
                        refine hK.out _ _ (⟨R.at_box S7.box rfl, R.at_box S7.box rfl, R.at_box S7.box rfl, R.at_box S7.box rfl, R.at_box S7.box rfl, R.at_box S7.box rfl, R.at_box S7.box rfl, R.at_box S7.box rfl, R.at_box S7.box rfl, R.at_box S7.box rfl, R.at_box S7.box rfl, R.at_box S7.box rfl, R.at_box S7.box rfl⟩) (fun hH7 => ?_)
                        clear hK K
                        rw [R.put_at (d := 47) (h := ?hq_124)]
                        case hq_124 => rfl
                        try simp only [Act.put, List.setIfInBounds_toArray, List.set_cons_zero, List.set_cons_succ]
                        refine wpAnyH_take (i := 15) (v := v7) rfl (by kernel_rfl) (by kernel_rfl) (by kernel_rfl) (fun _ _ _ h => h) (Or.inl ⟨by rfl, ?hy_125⟩) (by assumption) ?rest_125
                        case hy_125 => (intro w hSw; (try dsimp only at hSw); go_simp; try (with_reducible rfl))
                        rw [R.put_at (d := 8) (h := ?hr_125)]
                        case hr_125 => rfl
                        try simp only [Act.put, List.setIfInBounds_toArray, List.set_cons_zero, List.set_cons_succ]
                        refine wpAnyH_done (by kernel_rfl) ?_ _
                        have HS9 : Hid (R.St wr W7 (.cells #[.int .i64 2, .string pn, .slice so ps.length sc, .int .i64 1, .bool lst, .bool lfi, .slice lbo lbe.length lbc, .slice lso lsr.length lsc, .slice lao laf.length lac, .int .i64 lcu, .bool rst, .bool rfi, .slice rbo rbe.length rbc, .slice rso rsr.length rsc, .slice rao raf.length rac, .int .i64 rcu] 45) v7 ws) := S7
                        clear S4 S5 S6 S7 ow6 own5 gr5 own7 gr7 kc4 hHeld hH4 hH5 hH6 hH7
                        go_wp2_with fail
                        go_meet
                        case rel => exact ⟨HS9.out.own.wds, HS9.out.bel⟩
                      · exact AllReadyH.nil
                    · exact AllReadyH.nil
                  exact AllReadyH.nil
                exact AllReadyH.nil
              exact AllReadyH.nil
            · have hws : ws = QL ++ [[60]] ++ QR := by rw [HWs2.out]; rfl
              have HWs4 : Hid (QL ++ [[60]] ++ QR = ws) := hws.symm
              clear hws HWs2
              have HLc : Hid (∀ Z, Below w3.heap.size w3 Z → Calls Tryd.prog 14 #[.agg #[.bool lst, .bool lfi, .slice lbo lbe.length lbc, .slice lso lsr.length lsc, .slice lao laf.length lac, .int .i64 lcu]] Z fun e W => ∃ v', e = .returned v' ∧ R.St wr W (.cells #[.int .i64 2, .string pn, .slice so ps.length sc, .int .i64 2, .bool lst, .bool lfi, .slice lbo lbe.length lbc, .slice lso lsr.length lsc, .slice lao laf.length lac, .int .i64 lcu, .bool rst, .bool rfi, .slice rbo rbe.length rbc, .slice rso rsr.length rsc, .slice rao raf.length rac, .int .i64 rcu] 45) v' QL ∧ ∀ b o, b < Z.heap.size → W.cell? ⟨b, o, none⟩ = Z.cell? ⟨b, o, none⟩) := fun Z hZ => by
                have St3 : R.St wr w3 (.cells #[.int .i64 2, .string pn, .slice so ps.length sc, .int .i64 2, .bool lst, .bool lfi, .slice lbo lbe.length lbc, .slice lso lsr.length lsc, .slice lao laf.length lac, .int .i64 lcu, .bool rst, .bool rfi, .slice rbo rbe.length rbc, .slice rso rsr.length rsc, .slice rao raf.length rac, .int .i64 rcu] 45) (.slice none 0 0) [] := ⟨R.Own.nil _ _, HX3.out, HB3.out⟩
                refine (HLs3.out Z (HBw3.out.trans (hZ.mono hs3))).mono ?_
                rintro e W ⟨v', rfl, ow, bw⟩
                have sZ := (St3.call hZ).call bw
                exact ⟨v', rfl, ⟨ow.base (by have := (St3.call hZ).lt; omega), sZ.box, sZ.bel⟩, fun b o hb => bw.cell (p := ⟨b, o, none⟩) hb⟩
              have HRc : Hid (∀ Z v ms, R.St wr Z (.cells #[.int .i64 2, .string pn, .slice so ps.length sc, .int .i64 2, .bool lst, .bool lfi, .slice lbo lbe.length lbc, .slice lso lsr.length lsc, .slice lao laf.length lac, .int .i64 lcu, .bool rst, .bool rfi, .slice rbo rbe.length rbc, .slice rso rsr.length rsc, .slice rao raf.length rac, .int .i64 rcu] 45) v ms → Calls Tryd.prog 14 #[.agg #[.bool rst, .bool rfi, .slice rbo rbe.length rbc, .slice rso rsr.length rsc, .slice rao raf.length rac, .int .i64 rcu]] Z fun e W => ∃ v' B2, e = .returned v' ∧ R.Own B2 W v' QR ∧ R.St wr W (.cells #[.int .i64 2, .string pn, .slice so ps.length sc, .int .i64 2, .bool lst, .bool lfi, .slice lbo lbe.length lbc, .slice lso lsr.length lsc, .slice lao laf.length lac, .int .i64 lcu, .bool rst, .bool rfi, .slice rbo rbe.length rbc, .slice rso rsr.length rsc, .slice rao raf.length rac, .int .i64 rcu] 45) v ms) := fun Z v ms hZ => by
                refine (HRs3.out Z (HBw.out.trans (hZ.bel.mono hszw))).mono ?_
                rintro e W ⟨v', rfl, ow, bw⟩
                exact ⟨v', _, rfl, ow, hZ.call bw⟩
              have kp0 : Hid (w3.cell? ⟨wr.heap.size, 3, none⟩ = some (.int .i64 2) ∧ w3.cell? ⟨wr.heap.size, 4, none⟩ = some (.bool lst) ∧ w3.cell? ⟨wr.heap.size, 5, none⟩ = some (.bool lfi) ∧ w3.cell? ⟨wr.heap.size, 6, none⟩ = some (.slice lbo lbe.length lbc) ∧ w3.cell? ⟨wr.heap.size, 7, none⟩ = some (.slice lso lsr.length lsc) ∧ w3.cell? ⟨wr.heap.size, 8, none⟩ = some (.slice lao laf.length lac) ∧ w3.cell? ⟨wr.heap.size, 9, none⟩ = some (.int .i64 lcu) ∧ w3.cell? ⟨wr.heap.size, 10, none⟩ = some (.bool rst) ∧ w3.cell? ⟨wr.heap.size, 11, none⟩ = some (.bool rfi) ∧ w3.cell? ⟨wr.heap.size, 12, none⟩ = some (.slice rbo rbe.length rbc) ∧ w3.cell? ⟨wr.heap.size, 13, none⟩ = some (.slice rso rsr.length rsc) ∧ w3.cell? ⟨wr.heap.size, 14, none⟩ = some (.slice rao raf.length rac) ∧ w3.cell? ⟨wr.heap.size, 15, none⟩ = some (.int .i64 rcu)) := ⟨R.at_box HX3.out rfl, R.at_box HX3.out rfl, R.at_box HX3.out rfl, R.at_box HX3.out rfl, R.at_box HX3.out rfl, R.at_box HX3.out rfl, R.at_box HX3.out rfl, R.at_box HX3.out rfl, R.at_box HX3.out rfl, R.at_box HX3.out rfl, R.at_box HX3.out rfl, R.at_box HX3.out rfl, R.at_box HX3.out rfl⟩
              have HK : Hid (∀ {Z W : World}, (Z.cell? ⟨wr.heap.size, 3, none⟩ = some (.int .i64 2) ∧ Z.cell? ⟨wr.heap.size, 4, none⟩ = some (.bool lst) ∧ Z.cell? ⟨wr.heap.size, 5, none⟩ = some (.bool lfi) ∧ Z.cell? ⟨wr.heap.size, 6, none⟩ = some (.slice lbo lbe.length lbc) ∧ Z.cell? ⟨wr.heap.size, 7, none⟩ = some (.slice lso lsr.length lsc) ∧ Z.cell? ⟨wr.heap.size, 8, none⟩ = some (.slice lao laf.length lac) ∧ Z.cell? ⟨wr.heap.size, 9, none⟩ = some (.int .i64 lcu) ∧ Z.cell? ⟨wr.heap.size, 10, none⟩ = some (.bool rst) ∧ Z.cell? ⟨wr.heap.size, 11, none⟩ = some (.bool rfi) ∧ Z.cell? ⟨wr.heap.size, 12, none⟩ = some (.slice rbo rbe.length rbc) ∧ Z.cell? ⟨wr.heap.size, 13, none⟩ = some (.slice rso rsr.length rsc) ∧ Z.cell? ⟨wr.heap.size, 14, none⟩ = some (.slice rao raf.length rac) ∧ Z.cell? ⟨wr.heap.size, 15, none⟩ = some (.int .i64 rcu)) → (∀ b o, b < Z.heap.size → W.cell? ⟨b, o, none⟩ = Z.cell? ⟨b, o, none⟩) → (W.cell? ⟨wr.heap.size, 3, none⟩ = some (.int .i64 2) ∧ W.cell? ⟨wr.heap.size, 4, none⟩ = some (.bool lst) ∧ W.cell? ⟨wr.heap.size, 5, none⟩ = some (.bool lfi) ∧ W.cell? ⟨wr.heap.size, 6, none⟩ = some (.slice lbo lbe.length lbc) ∧ W.cell? ⟨wr.heap.size, 7, none⟩ = some (.slice lso lsr.length lsc) ∧ W.cell? ⟨wr.heap.size, 8, none⟩ = some (.slice lao laf.length lac) ∧ W.cell? ⟨wr.heap.size, 9, none⟩ = some (.int .i64 lcu) ∧ W.cell? ⟨wr.heap.size, 10, none⟩ = some (.bool rst) ∧ W.cell? ⟨wr.heap.size, 11, none⟩ = some (.bool rfi) ∧ W.cell? ⟨wr.heap.size, 12, none⟩ = some (.slice rbo rbe.length rbc) ∧ W.cell? ⟨wr.heap.size, 13, none⟩ = some (.slice rso rsr.length rsc) ∧ W.cell? ⟨wr.heap.size, 14, none⟩ = some (.slice rao raf.length rac) ∧ W.cell? ⟨wr.heap.size, 15, none⟩ = some (.int .i64 rcu))) := fun {Z W} hZ hk => by
                obtain ⟨k3, k4, k5, k6, k7, k8, k9, k10, k11, k12, k13, k14, k15⟩ := hZ
                exact ⟨(hk _ _ (L.block_lt k3)).trans k3, (hk _ _ (L.block_lt k4)).trans k4, (hk _ _ (L.block_lt k5)).trans k5, (hk _ _ (L.block_lt k6)).trans k6, (hk _ _ (L.block_lt k7)).trans k7, (hk _ _ (L.block_lt k8)).trans k8, (hk _ _ (L.block_lt k9)).trans k9, (hk _ _ (L.block_lt k10)).trans k10, (hk _ _ (L.block_lt k11)).trans k11, (hk _ _ (L.block_lt k12)).trans k12, (hk _ _ (L.block_lt k13)).trans k13, (hk _ _ (L.block_lt k14)).trans k14, (hk _ _ (L.block_lt k15)).trans k15⟩
              have HKd : Hid (w3.drew.cell? ⟨wr.heap.size, 3, none⟩ = some (.int .i64 2) ∧ w3.drew.cell? ⟨wr.heap.size, 4, none⟩ = some (.bool lst) ∧ w3.drew.cell? ⟨wr.heap.size, 5, none⟩ = some (.bool lfi) ∧ w3.drew.cell? ⟨wr.heap.size, 6, none⟩ = some (.slice lbo lbe.length lbc) ∧ w3.drew.cell? ⟨wr.heap.size, 7, none⟩ = some (.slice lso lsr.length lsc) ∧ w3.drew.cell? ⟨wr.heap.size, 8, none⟩ = some (.slice lao laf.length lac) ∧ w3.drew.cell? ⟨wr.heap.size, 9, none⟩ = some (.int .i64 lcu) ∧ w3.drew.cell? ⟨wr.heap.size, 10, none⟩ = some (.bool rst) ∧ w3.drew.cell? ⟨wr.heap.size, 11, none⟩ = some (.bool rfi) ∧ w3.drew.cell? ⟨wr.heap.size, 12, none⟩ = some (.slice rbo rbe.length rbc) ∧ w3.drew.cell? ⟨wr.heap.size, 13, none⟩ = some (.slice rso rsr.length rsc) ∧ w3.drew.cell? ⟨wr.heap.size, 14, none⟩ = some (.slice rao raf.length rac) ∧ w3.drew.cell? ⟨wr.heap.size, 15, none⟩ = some (.int .i64 rcu)) := kp0.out
              have HKa : Hid (∀ (Z : World) (o : Obj), (Z.cell? ⟨wr.heap.size, 3, none⟩ = some (.int .i64 2) ∧ Z.cell? ⟨wr.heap.size, 4, none⟩ = some (.bool lst) ∧ Z.cell? ⟨wr.heap.size, 5, none⟩ = some (.bool lfi) ∧ Z.cell? ⟨wr.heap.size, 6, none⟩ = some (.slice lbo lbe.length lbc) ∧ Z.cell? ⟨wr.heap.size, 7, none⟩ = some (.slice lso lsr.length lsc) ∧ Z.cell? ⟨wr.heap.size, 8, none⟩ = some (.slice lao laf.length lac) ∧ Z.cell? ⟨wr.heap.size, 9, none⟩ = some (.int .i64 lcu) ∧ Z.cell? ⟨wr.heap.size, 10, none⟩ = some (.bool rst) ∧ Z.cell? ⟨wr.heap.size, 11, none⟩ = some (.bool rfi) ∧ Z.cell? ⟨wr.heap.size, 12, none⟩ = some (.slice rbo rbe.length rbc) ∧ Z.cell? ⟨wr.heap.size, 13, none⟩ = some (.slice rso rsr.length rsc) ∧ Z.cell? ⟨wr.heap.size, 14, none⟩ = some (.slice rao raf.length rac) ∧ Z.cell? ⟨wr.heap.size, 15, none⟩ = some (.int .i64 rcu)) → ((Z.alloc o).cell? ⟨wr.heap.size, 3, none⟩ = some (.int .i64 2) ∧ (Z.alloc o).cell? ⟨wr.heap.size, 4, none⟩ = some (.bool lst) ∧ (Z.alloc o).cell? ⟨wr.heap.size, 5, none⟩ = some (.bool lfi) ∧ (Z.alloc o).cell? ⟨wr.heap.size, 6, none⟩ = some (.slice lbo lbe.length lbc) ∧ (Z.alloc o).cell? ⟨wr.heap.size, 7, none⟩ = some (.slice lso lsr.length lsc) ∧ (Z.alloc o).cell? ⟨wr.heap.size, 8, none⟩ = some (.slice lao laf.length lac) ∧ (Z.alloc o).cell? ⟨wr.heap.size, 9, none⟩ = some (.int .i64 lcu) ∧ (Z.alloc o).cell? ⟨wr.heap.size, 10, none⟩ = some (.bool rst) ∧ (Z.alloc o).cell? ⟨wr.heap.size, 11, none⟩ = some (.bool rfi) ∧ (Z.alloc o).cell? ⟨wr.heap.size, 12, none⟩ = some (.slice rbo rbe.length rbc) ∧ (Z.alloc o).cell? ⟨wr.heap.size, 13, none⟩ = some (.slice rso rsr.length rsc) ∧ (Z.alloc o).cell? ⟨wr.heap.size, 14, none⟩ = some (.slice rao raf.length rac) ∧ (Z.alloc o).cell? ⟨wr.heap.size, 15, none⟩ = some (.int .i64 rcu))) := fun Z o hZ => HK.out hZ fun b o' hb => World.cell?_alloc_lt _ _ _ hb
              have hwr : IntKind.i64.wrap 1 = 1 := by decide
              go_wp2
              refine wp_region_held_drew (S := fun w' => w'.cell? ⟨wr.heap.size, 3, none⟩ = some (.int .i64 2) ∧ w'.cell? ⟨wr.heap.size, 4, none⟩ = some (.bool lst) ∧ w'.cell? ⟨wr.heap.size, 5, none⟩ = some (.bool lfi) ∧ w'.cell? ⟨wr.heap.size, 6, none⟩ = some (.slice lbo lbe.length lbc) ∧ w'.cell? ⟨wr.heap.size, 7, none⟩ = some (.slice lso lsr.length lsc) ∧ w'.cell? ⟨wr.heap.size, 8, none⟩ = some (.slice lao laf.length lac) ∧ w'.cell? ⟨wr.heap.size, 9, none⟩ = some (.int .i64 lcu) ∧ w'.cell? ⟨wr.heap.size, 10, none⟩ = some (.bool rst) ∧ w'.cell? ⟨wr.heap.size, 11, none⟩ = some (.bool rfi) ∧ w'.cell? ⟨wr.heap.size, 12, none⟩ = some (.slice rbo rbe.length rbc) ∧ w'.cell? ⟨wr.heap.size, 13, none⟩ = some (.slice rso rsr.length rsc) ∧ w'.cell? ⟨wr.heap.size, 14, none⟩ = some (.slice rao raf.length rac) ∧ w'.cell? ⟨wr.heap.size, 15, none⟩ = some (.int .i64 rcu)) (by kernel_rfl) HKd.out (fun hHeld => ?_)
              refine wpAnyH_take (i := 0) (v := ?v0_201) rfl (by kernel_rfl) (by kernel_rfl) (by kernel_rfl) (fun _ _ _ h => h) (Or.inl ⟨by rfl, ?hy0_201⟩) (by assumption) ?rest0_201
              case hy0_201 => (intro w hSw; (try dsimp only at hSw); go_simp; try (with_reducible rfl))
              try simp only [Act.put, List.setIfInBounds_toArray, List.set_cons_zero, List.set_cons_succ]
              refine wpAnyH_take (i := 1) (v := ?v1_202) rfl (by kernel_rfl) (by kernel_rfl) (by kernel_rfl) (fun _ _ _ h => h) (Or.inl ⟨by rfl, ?hy1_202⟩) (by assumption) ?rest1_202
              case hy1_202 => (intro w hSw; (try dsimp only at hSw); go_simp; try (with_reducible rfl))
              try simp only [Act.put, List.setIfInBounds_toArray, List.set_cons_zero, List.set_cons_succ]
              refine wpAnyH_take (i := 4) (v := ?v4_203) rfl (by kernel_rfl) (by kernel_rfl) (by kernel_rfl) (fun _ _ _ h => h) (Or.inl ⟨by rfl, ?hy4_203⟩) (by assumption) ?rest4_203
              case hy4_203 => (intro w hSw; (try dsimp only at hSw); go_simp; try (with_reducible rfl))
              try simp only [Act.put, List.setIfInBounds_toArray, List.set_cons_zero, List.set_cons_succ]
              refine wpAnyH_take (i := 5) (v := ?v5_204) rfl (by kernel_rfl) (by kernel_rfl) (by kernel_rfl) (fun _ _ _ h => h) (Or.inl ⟨by rfl, ?hy5_204⟩) (by assumption) ?rest5_204
              case hy5_204 => (intro w hSw; (try dsimp only at hSw); go_simp; try (with_reducible rfl))
              try simp only [Act.put, List.setIfInBounds_toArray, List.set_cons_zero, List.set_cons_succ]
              refine wpAnyH_take (i := 6) (v := ?v6_205) rfl (by kernel_rfl) (by kernel_rfl) (by kernel_rfl) (fun _ _ _ h => h) (Or.inl ⟨by rfl, ?hy6_205⟩) (by assumption) ?rest6_205
              case hy6_205 => (intro w hSw; (try dsimp only at hSw); go_simp; try (with_reducible rfl))
              try simp only [Act.put, List.setIfInBounds_toArray, List.set_cons_zero, List.set_cons_succ]
              refine wpAnyH_take (i := 11) (v := ?v11_206) rfl (by kernel_rfl) (by kernel_rfl) (by kernel_rfl) (fun _ _ _ h => h) (Or.inl ⟨by rfl, ?hy11_206⟩) (by assumption) ?rest11_206
              case hy11_206 => (intro w hSw; (try dsimp only at hSw); go_simp; try (with_reducible rfl))
              try simp only [Act.put, List.setIfInBounds_toArray, List.set_cons_zero, List.set_cons_succ]
              refine wpAnyH_take (i := 12) (v := ?v12_207) rfl (by kernel_rfl) (by kernel_rfl) (by kernel_rfl) (fun _ _ _ h => h) (Or.inl ⟨by rfl, ?hy12_207⟩) (by assumption) ?rest12_207
              case hy12_207 => (intro w hSw; (try dsimp only at hSw); go_simp; try (with_reducible rfl))
              try simp only [Act.put, List.setIfInBounds_toArray, List.set_cons_zero, List.set_cons_succ]
              refine wpAnyH_ready (rs := [2, 3]) (by kernel_rfl) (by simp) ?_
              refine AllReadyH.cons rfl (fun K hK => ?_) ?_
              · skip
                go_simp
                go_at_call 14; refine (HLc.out _ (z0.out)).mono ?_; rintro e W4 ⟨v4, rfl, S4, kc4⟩
                try go_wp2_with fail
                refine hK.out _ _ (⟨R.at_box S4.box rfl, R.at_box S4.box rfl, R.at_box S4.box rfl, R.at_box S4.box rfl, R.at_box S4.box rfl, R.at_box S4.box rfl, R.at_box S4.box rfl, R.at_box S4.box rfl, R.at_box S4.box rfl, R.at_box S4.box rfl, R.at_box S4.box rfl, R.at_box S4.box rfl, R.at_box S4.box rfl⟩) (fun hH4 => ?_)
                clear hK K
                try simp only [Act.put, List.setIfInBounds_toArray, List.set_cons_zero, List.set_cons_succ]
                refine wpAnyH_ready (rs := [3]) (by kernel_rfl) (by simp) ?_
                refine AllReadyH.cons rfl (fun K hK => ?_) AllReadyH.nil
                go_simp
                refine hK.out _ _ (HKa.out _ _ hH4) (fun hHb => ?_)
                clear hK K
                try simp only [Act.put, List.setIfInBounds_toArray, List.set_cons_zero, List.set_cons_succ]
                refine wpAnyH_take (i := 7) (v := ?v7_208) rfl (by kernel_rfl) (by kernel_rfl) (by kernel_rfl) (fun _ _ _ h => h) (Or.inl ⟨by rfl, ?hy7_208⟩) (by assumption) ?rest7_208
                case hy7_208 => (intro w hSw; (try dsimp only at hSw); go_simp; try (with_reducible rfl))
                try simp only [Act.put, List.setIfInBounds_toArray, List.set_cons_zero, List.set_cons_succ]
                refine wpAnyH_ready (rs := [8]) (by kernel_rfl) (by simp) ?_
                refine AllReadyH.cons rfl (fun K hK => ?_) AllReadyH.nil
                go_simp
                refine hK.out _ _ (hHb) (fun hHl => ?_)
                clear hK K
                try simp only [Act.put, List.setIfInBounds_toArray, List.set_cons_zero, List.set_cons_succ]
                refine wpAnyH_ready (rs := [9]) (by kernel_rfl) (by simp) ?_
                refine AllReadyH.cons rfl (fun K hK => ?_) AllReadyH.nil
                go_simp
                refine hK.out _ _ (HKa.out _ _ hHl) (fun hHc => ?_)
                clear hK K
                try simp only [Act.put, List.setIfInBounds_toArray, List.set_cons_zero, List.set_cons_succ]
                refine wpAnyH_ready (rs := [10]) (by kernel_rfl) (by simp) ?_
                refine AllReadyH.cons rfl (fun K hK => ?_) AllReadyH.nil
                refine R.step_one (by rfl) (.tmp 35) (.tmp 42) (by rfl) (wr.heap.size + 1) v4 QL (by rfl) ?o1_209 _ (by rfl) [60] ?o2_209 ?o3_209 ?o4_209 ?o5_209
                case o1_209 => exact (S4.own.alloc _).alloc _
                case o2_209 => exact R.new_cell2 _ _ _ _
                case o3_209 => (have := HLq.out; omega)
                case o4_209 => (have := S4.lt; first | omega | (simp; omega))
                intro v5 W5 own5 gr5
                have S5 : R.St wr W5 (.cells #[.int .i64 2, .string pn, .slice so ps.length sc, .int .i64 2, .bool lst, .bool lfi, .slice lbo lbe.length lbc, .slice lso lsr.length lsc, .slice lao laf.length lac, .int .i64 lcu, .bool rst, .bool rfi, .slice rbo rbe.length rbc, .slice rso rsr.length rsc, .slice rao raf.length rac, .int .i64 rcu] 45) v5 (QL ++ [[60]]) := ((S4.call ((Below.refl _ _).alloc (Nat.le_refl _) _)).call ((Below.refl _ _).alloc (Nat.le_refl _) _)).rows own5 gr5
                refine hK.out _ _ (⟨R.at_box S5.box rfl, R.at_box S5.box rfl, R.at_box S5.box rfl, R.at_box S5.box rfl, R.at_box S5.box rfl, R.at_box S5.box rfl, R.at_box S5.box rfl, R.at_box S5.box rfl, R.at_box S5.box rfl, R.at_box S5.box rfl, R.at_box S5.box rfl, R.at_box S5.box rfl, R.at_box S5.box rfl⟩) (fun hH5 => ?_)
                clear hK K
                try simp only [Act.put, List.setIfInBounds_toArray, List.set_cons_zero, List.set_cons_succ]
                refine wpAnyH_ready (rs := [13]) (by kernel_rfl) (by simp) ?_
                refine AllReadyH.cons rfl (fun K hK => ?_) ?_
                · go_simp
                  go_at_call 14; refine (HRc.out W5 v5 _ S5).mono ?_; rintro e W6 ⟨v6, B6, rfl, ow6, S6⟩
                  try go_wp2_with fail
                  refine hK.out _ _ (⟨R.at_box S6.box rfl, R.at_box S6.box rfl, R.at_box S6.box rfl, R.at_box S6.box rfl, R.at_box S6.box rfl, R.at_box S6.box rfl, R.at_box S6.box rfl, R.at_box S6.box rfl, R.at_box S6.box rfl, R.at_box S6.box rfl, R.at_box S6.box rfl, R.at_box S6.box rfl, R.at_box S6.box rfl⟩) (fun hH6 => ?_)
                  clear hK K
                  try simp only [Act.put, List.setIfInBounds_toArray, List.set_cons_zero, List.set_cons_succ]
                  refine wpAnyH_ready (rs := [14]) (by kernel_rfl) (by simp) ?_
                  refine AllReadyH.cons rfl (fun K hK => ?_) ?_
                  · refine R.step_rows (by rfl) (.tmp 43) (.tmp 46) (by rfl) (wr.heap.size + 1) v5 (QL ++ [[60]]) (by rfl) S6.own v6 (by rfl) B6 QR ow6 ?p1_210 ?p2_210 ?p3_210 ?p4_210
                    case p1_210 => (have := HLq.out; simp; omega)
                    case p2_210 => (have := HLr.out; omega)
                    case p3_210 => (have := S6.lt; omega)
                    intro v7 W7 own7 gr7
                    rw [HWs4.out] at own7
                    have S7 := S6.rows own7 gr7
                    refine hK.out _ _ (⟨R.at_box S7.box rfl, R.at_box S7.box rfl, R.at_box S7.box rfl, R.at_box S7.box rfl, R.at_box S7.box rfl, R.at_box S7.box rfl, R.at_box S7.box rfl, R.at_box S7.box rfl, R.at_box S7.box rfl, R.at_box S7.box rfl, R.at_box S7.box rfl, R.at_box S7.box rfl, R.at_box S7.box rfl⟩) (fun hH7 => ?_)
                    clear hK K
                    rw [R.put_at (d := 47) (h := ?hq_211)]
                    case hq_211 => rfl
                    try simp only [Act.put, List.setIfInBounds_toArray, List.set_cons_zero, List.set_cons_succ]
                    refine wpAnyH_take (i := 15) (v := v7) rfl (by kernel_rfl) (by kernel_rfl) (by kernel_rfl) (fun _ _ _ h => h) (Or.inl ⟨by rfl, ?hy_212⟩) (by assumption) ?rest_212
                    case hy_212 => (intro w hSw; (try dsimp only at hSw); go_simp; try (with_reducible rfl))
                    rw [R.put_at (d := 8) (h := ?hr_212)]
                    case hr_212 => rfl
                    try simp only [Act.put, List.setIfInBounds_toArray, List.set_cons_zero, List.set_cons_succ]
                    refine wpAnyH_done (by kernel_rfl) ?_ _
                    have HS9 : Hid (R.St wr W7 (.cells #[.int .i64 2, .string pn, .slice so ps.length sc, .int .i64 2, .bool lst, .bool lfi, .slice lbo lbe.length lbc, .slice lso lsr.length lsc, .slice lao laf.length lac, .int .i64 lcu, .bool rst, .bool rfi, .slice rbo rbe.length rbc, .slice rso rsr.length rsc, .slice rao raf.length rac, .int .i64 rcu] 45) v7 ws) := S7
                    clear S4 S5 S6 S7 ow6 own5 gr5 own7 gr7 kc4 hHeld hH4 hH5 hH6 hH7
                    go_wp2_with fail
                    go_meet
                    case rel => exact ⟨HS9.out.own.wds, HS9.out.bel⟩
                  · exact AllReadyH.nil
                · exact AllReadyH.nil
              refine AllReadyH.cons rfl (fun K hK => ?_) ?_
              · skip
                go_simp
                refine hK.out _ _ (HKa.out _ _ hHeld) (fun hHb => ?_)
                clear hK K
                try simp only [Act.put, List.setIfInBounds_toArray, List.set_cons_zero, List.set_cons_succ]
                refine wpAnyH_take (i := 7) (v := ?v7_213) rfl (by kernel_rfl) (by kernel_rfl) (by kernel_rfl) (fun _ _ _ h => h) (Or.inl ⟨by rfl, ?hy7_213⟩) (by assumption) ?rest7_213
                case hy7_213 => (intro w hSw; (try dsimp only at hSw); go_simp; try (with_reducible rfl))
                try simp only [Act.put, List.setIfInBounds_toArray, List.set_cons_zero, List.set_cons_succ]
                refine wpAnyH_ready (rs := [2, 8]) (by kernel_rfl) (by simp) ?_
                refine AllReadyH.cons rfl (fun K hK => ?_) ?_
                · skip
                  go_simp
                  go_at_call 14; refine (HLc.out _ (z1.out _)).mono ?_; rintro e W4 ⟨v4, rfl, S4, kc4⟩
                  try go_wp2_with fail
                  refine hK.out _ _ (⟨R.at_box S4.box rfl, R.at_box S4.box rfl, R.at_box S4.box rfl, R.at_box S4.box rfl, R.at_box S4.box rfl, R.at_box S4.box rfl, R.at_box S4.box rfl, R.at_box S4.box rfl, R.at_box S4.box rfl, R.at_box S4.box rfl, R.at_box S4.box rfl, R.at_box S4.box rfl, R.at_box S4.box rfl⟩) (fun hH4 => ?_)
                  clear hK K
                  try simp only [Act.put, List.setIfInBounds_toArray, List.set_cons_zero, List.set_cons_succ]
                  refine wpAnyH_ready (rs := [8]) (by kernel_rfl) (by simp) ?_
                  refine AllReadyH.cons rfl (fun K hK => ?_) AllReadyH.nil
                  have hkx : W4.cell? ⟨w3.heap.size, 1, none⟩ = some (.string ⟨#[60]⟩) := (kc4 w3.heap.size 1 (by simp)).trans (R.new_at w3.drew _ _ 1 _ rfl)
                  go_simp
                  refine hK.out _ _ (hH4) (fun hHl => ?_)
                  clear hK K
                  try simp only [Act.put, List.setIfInBounds_toArray, List.set_cons_zero, List.set_cons_succ]
                  refine wpAnyH_ready (rs := [9]) (by kernel_rfl) (by simp) ?_
                  refine AllReadyH.cons rfl (fun K hK => ?_) AllReadyH.nil
                  go_simp
                  refine hK.out _ _ (HKa.out _ _ hHl) (fun hHc => ?_)
                  clear hK K
                  try simp only [Act.put, List.setIfInBounds_toArray, List.set_cons_zero, List.set_cons_succ]
                  refine wpAnyH_ready (rs := [10]) (by kernel_rfl) (by simp) ?_
                  refine AllReadyH.cons rfl (fun K hK => ?_) AllReadyH.nil
                  refine R.step_one (by rfl) (.tmp 35) (.tmp 42) (by rfl) (wr.heap.size + 1) v4 QL (by rfl) ?o1_214 _ (by rfl) [60] ?o2_214 ?o3_214 ?o4_214 ?o5_214
                  case o1_214 => exact S4.own.alloc _
                  case o2_214 => exact R.new_cell _ _ _
                  case o3_214 => (have := HLq.out; omega)
                  case o4_214 => (have := S4.lt; first | omega | (simp; omega))
                  intro v5 W5 own5 gr5
                  have S5 : R.St wr W5 (.cells #[.int .i64 2, .string pn, .slice so ps.length sc, .int .i64 2, .bool lst, .bool lfi, .slice lbo lbe.length lbc, .slice lso lsr.length lsc, .slice lao laf.length lac, .int .i64 lcu, .bool rst, .bool rfi, .slice rbo rbe.length rbc, .slice rso rsr.length rsc, .slice rao raf.length rac, .int .i64 rcu] 45) v5 (QL ++ [[60]]) := (S4.call ((Below.refl _ _).alloc (Nat.le_refl _) _)).rows own5 gr5
                  refine hK.out _ _ (⟨R.at_box S5.box rfl, R.at_box S5.box rfl, R.at_box S5.box rfl, R.at_box S5.box rfl, R.at_box S5.box rfl, R.at_box S5.box rfl, R.at_box S5.box rfl, R.at_box S5.box rfl, R.at_box S5.box rfl, R.at_box S5.box rfl, R.at_box S5.box rfl, R.at_box S5.box rfl, R.at_box S5.box rfl⟩) (fun hH5 => ?_)
                  clear hK K
                  try simp only [Act.put, List.setIfInBounds_toArray, List.set_cons_zero, List.set_cons_succ]
                  refine wpAnyH_ready (rs := [13]) (by kernel_rfl) (by simp) ?_
                  refine AllReadyH.cons rfl (fun K hK => ?_) ?_
                  · go_simp
                    go_at_call 14; refine (HRc.out W5 v5 _ S5).mono ?_; rintro e W6 ⟨v6, B6, rfl, ow6, S6⟩
                    try go_wp2_with fail
                    refine hK.out _ _ (⟨R.at_box S6.box rfl, R.at_box S6.box rfl, R.at_box S6.box rfl, R.at_box S6.box rfl, R.at_box S6.box rfl, R.at_box S6.box rfl, R.at_box S6.box rfl, R.at_box S6.box rfl, R.at_box S6.box rfl, R.at_box S6.box rfl, R.at_box S6.box rfl, R.at_box S6.box rfl, R.at_box S6.box rfl⟩) (fun hH6 => ?_)
                    clear hK K
                    try simp only [Act.put, List.setIfInBounds_toArray, List.set_cons_zero, List.set_cons_succ]
                    refine wpAnyH_ready (rs := [14]) (by kernel_rfl) (by simp) ?_
                    refine AllReadyH.cons rfl (fun K hK => ?_) ?_
                    · refine R.step_rows (by rfl) (.tmp 43) (.tmp 46) (by rfl) (wr.heap.size + 1) v5 (QL ++ [[60]]) (by rfl) S6.own v6 (by rfl) B6 QR ow6 ?p1_215 ?p2_215 ?p3_215 ?p4_215
                      case p1_215 => (have := HLq.out; simp; omega)
                      case p2_215 => (have := HLr.out; omega)
                      case p3_215 => (have := S6.lt; omega)
                      intro v7 W7 own7 gr7
                      rw [HWs4.out] at own7
                      have S7 := S6.rows own7 gr7
                      refine hK.out _ _ (⟨R.at_box S7.box rfl, R.at_box S7.box rfl, R.at_box S7.box rfl, R.at_box S7.box rfl, R.at_box S7.box rfl, R.at_box S7.box rfl, R.at_box S7.box rfl, R.at_box S7.box rfl, R.at_box S7.box rfl, R.at_box S7.box rfl, R.at_box S7.box rfl, R.at_box S7.box rfl, R.at_box S7.box rfl⟩) (fun hH7 => ?_)
                      clear hK K
                      rw [R.put_at (d := 47) (h := ?hq_216)]
                      case hq_216 => rfl
                      try simp only [Act.put, List.setIfInBounds_toArray, List.set_cons_zero, List.set_cons_succ]
                      refine wpAnyH_take (i := 15) (v := v7) rfl (by kernel_rfl) (by kernel_rfl) (by kernel_rfl) (fun _ _ _ h => h) (Or.inl ⟨by rfl, ?hy_217⟩) (by assumption) ?rest_217
                      case hy_217 => (intro w hSw; (try dsimp only at hSw); go_simp; try (with_reducible rfl))
                      rw [R.put_at (d := 8) (h := ?hr_217)]
                      case hr_217 => rfl
                      try simp only [Act.put, List.setIfInBounds_toArray, List.set_cons_zero, List.set_cons_succ]
                      refine wpAnyH_done (by kernel_rfl) ?_ _
                      have HS9 : Hid (R.St wr W7 (.cells #[.int .i64 2, .string pn, .slice so ps.length sc, .int .i64 2, .bool lst, .bool lfi, .slice lbo lbe.length lbc, .slice lso lsr.length lsc, .slice lao laf.length lac, .int .i64 lcu, .bool rst, .bool rfi, .slice rbo rbe.length rbc, .slice rso rsr.length rsc, .slice rao raf.length rac, .int .i64 rcu] 45) v7 ws) := S7
                      clear S4 S5 S6 S7 ow6 own5 gr5 own7 gr7 kc4 hHeld hH4 hH5 hH6 hH7
                      go_wp2_with fail
                      go_meet
                      case rel => exact ⟨HS9.out.own.wds, HS9.out.bel⟩
                    · exact AllReadyH.nil
                  · exact AllReadyH.nil
                refine AllReadyH.cons rfl (fun K hK => ?_) ?_
                · skip
                  go_simp
                  refine hK.out _ _ (hHb) (fun hHl => ?_)
                  clear hK K
                  try simp only [Act.put, List.setIfInBounds_toArray, List.set_cons_zero, List.set_cons_succ]
                  refine wpAnyH_ready (rs := [2, 9]) (by kernel_rfl) (by simp) ?_
                  refine AllReadyH.cons rfl (fun K hK => ?_) ?_
                  · skip
                    go_simp
                    go_at_call 14; refine (HLc.out _ (z1.out _)).mono ?_; rintro e W4 ⟨v4, rfl, S4, kc4⟩
                    try go_wp2_with fail
                    refine hK.out _ _ (⟨R.at_box S4.box rfl, R.at_box S4.box rfl, R.at_box S4.box rfl, R.at_box S4.box rfl, R.at_box S4.box rfl, R.at_box S4.box rfl, R.at_box S4.box rfl, R.at_box S4.box rfl, R.at_box S4.box rfl, R.at_box S4.box rfl, R.at_box S4.box rfl, R.at_box S4.box rfl, R.at_box S4.box rfl⟩) (fun hH4 => ?_)
                    clear hK K
                    try simp only [Act.put, List.setIfInBounds_toArray, List.set_cons_zero, List.set_cons_succ]
                    refine wpAnyH_ready (rs := [9]) (by kernel_rfl) (by simp) ?_
                    refine AllReadyH.cons rfl (fun K hK => ?_) AllReadyH.nil
                    go_simp
                    refine hK.out _ _ (HKa.out _ _ hH4) (fun hHc => ?_)
                    clear hK K
                    try simp only [Act.put, List.setIfInBounds_toArray, List.set_cons_zero, List.set_cons_succ]
                    refine wpAnyH_ready (rs := [10]) (by kernel_rfl) (by simp) ?_
                    refine AllReadyH.cons rfl (fun K hK => ?_) AllReadyH.nil
                    refine R.step_one (by rfl) (.tmp 35) (.tmp 42) (by rfl) (wr.heap.size + 1) v4 QL (by rfl) ?o1_218 _ (by rfl) [60] ?o2_218 ?o3_218 ?o4_218 ?o5_218
                    case o1_218 => exact S4.own.alloc _
                    case o2_218 => exact R.new_cell _ _ _
                    case o3_218 => (have := HLq.out; omega)
                    case o4_218 => (have := S4.lt; first | omega | (simp; omega))
                    intro v5 W5 own5 gr5
                    have S5 : R.St wr W5 (.cells #[.int .i64 2, .string pn, .slice so ps.length sc, .int .i64 2, .bool lst, .bool lfi, .slice lbo lbe.length lbc, .slice lso lsr.length lsc, .slice lao laf.length lac, .int .i64 lcu, .bool rst, .bool rfi, .slice rbo rbe.length rbc, .slice rso rsr.length rsc, .slice rao raf.length rac, .int .i64 rcu] 45) v5 (QL ++ [[60]]) := (S4.call ((Below.refl _ _).alloc (Nat.le_refl _) _)).rows own5 gr5
                    refine hK.out _ _ (⟨R.at_box S5.box rfl, R.at_box S5.box rfl, R.at_box S5.box rfl, R.at_box S5.box rfl, R.at_box S5.box rfl, R.at_box S5.box rfl, R.at_box S5.box rfl, R.at_box S5.box rfl, R.at_box S5.box rfl, R.at_box S5.box rfl, R.at_box S5.box rfl, R.at_box S5.box rfl, R.at_box S5.box rfl⟩) (fun hH5 => ?_)
                    clear hK K
                    try simp only [Act.put, List.setIfInBounds_toArray, List.set_cons_zero, List.set_cons_succ]
                    refine wpAnyH_ready (rs := [13]) (by kernel_rfl) (by simp) ?_
                    refine AllReadyH.cons rfl (fun K hK => ?_) ?_
                    · go_simp
                      go_at_call 14; refine (HRc.out W5 v5 _ S5).mono ?_; rintro e W6 ⟨v6, B6, rfl, ow6, S6⟩
                      try go_wp2_with fail
                      refine hK.out _ _ (⟨R.at_box S6.box rfl, R.at_box S6.box rfl, R.at_box S6.box rfl, R.at_box S6.box rfl, R.at_box S6.box rfl, R.at_box S6.box rfl, R.at_box S6.box rfl, R.at_box S6.box rfl, R.at_box S6.box rfl, R.at_box S6.box rfl, R.at_box S6.box rfl, R.at_box S6.box rfl, R.at_box S6.box rfl⟩) (fun hH6 => ?_)
                      clear hK K
                      try simp only [Act.put, List.setIfInBounds_toArray, List.set_cons_zero, List.set_cons_succ]
                      refine wpAnyH_ready (rs := [14]) (by kernel_rfl) (by simp) ?_
                      refine AllReadyH.cons rfl (fun K hK => ?_) ?_
                      · refine R.step_rows (by rfl) (.tmp 43) (.tmp 46) (by rfl) (wr.heap.size + 1) v5 (QL ++ [[60]]) (by rfl) S6.own v6 (by rfl) B6 QR ow6 ?p1_219 ?p2_219 ?p3_219 ?p4_219
                        case p1_219 => (have := HLq.out; simp; omega)
                        case p2_219 => (have := HLr.out; omega)
                        case p3_219 => (have := S6.lt; omega)
                        intro v7 W7 own7 gr7
                        rw [HWs4.out] at own7
                        have S7 := S6.rows own7 gr7
                        refine hK.out _ _ (⟨R.at_box S7.box rfl, R.at_box S7.box rfl, R.at_box S7.box rfl, R.at_box S7.box rfl, R.at_box S7.box rfl, R.at_box S7.box rfl, R.at_box S7.box rfl, R.at_box S7.box rfl, R.at_box S7.box rfl, R.at_box S7.box rfl, R.at_box S7.box rfl, R.at_box S7.box rfl, R.at_box S7.box rfl⟩) (fun hH7 => ?_)
                        clear hK K
                        rw [R.put_at (d := 47) (h := ?hq_220)]
                        case hq_220 => rfl
                        try simp only [Act.put, List.setIfInBounds_toArray, List.set_cons_zero, List.set_cons_succ]
                        refine wpAnyH_take (i := 15) (v := v7) rfl (by kernel_rfl) (by kernel_rfl) (by kernel_rfl) (fun _ _ _ h => h) (Or.inl ⟨by rfl, ?hy_221⟩) (by assumption) ?rest_221
                        case hy_221 => (intro w hSw; (try dsimp only at hSw); go_simp; try (with_reducible rfl))
                        rw [R.put_at (d := 8) (h := ?hr_221)]
                        case hr_221 => rfl
                        try simp only [Act.put, List.setIfInBounds_toArray, List.set_cons_zero, List.set_cons_succ]
                        refine wpAnyH_done (by kernel_rfl) ?_ _
                        have HS9 : Hid (R.St wr W7 (.cells #[.int .i64 2, .string pn, .slice so ps.length sc, .int .i64 2, .bool lst, .bool lfi, .slice lbo lbe.length lbc, .slice lso lsr.length lsc, .slice lao laf.length lac, .int .i64 lcu, .bool rst, .bool rfi, .slice rbo rbe.length rbc, .slice rso rsr.length rsc, .slice rao raf.length rac, .int .i64 rcu] 45) v7 ws) := S7
                        clear S4 S5 S6 S7 ow6 own5 gr5 own7 gr7 kc4 hHeld hH4 hH5 hH6 hH7
                        go_wp2_with fail
                        go_meet
                        case rel => exact ⟨HS9.out.own.wds, HS9.out.bel⟩
                      · exact AllReadyH.nil
                    · exact AllReadyH.nil
                  refine AllReadyH.cons rfl (fun K hK => ?_) ?_
                  · skip
                    go_simp
                    refine hK.out _ _ (HKa.out _ _ hHl) (fun hHc => ?_)
                    clear hK K
                    try simp only [Act.put, List.setIfInBounds_toArray, List.set_cons_zero, List.set_cons_succ]
                    refine wpAnyH_ready (rs := [2]) (by kernel_rfl) (by simp) ?_
                    refine AllReadyH.cons rfl (fun K hK => ?_) AllReadyH.nil
                    go_simp
                    go_at_call 14; refine (HLc.out _ (z2.out _ _)).mono ?_; rintro e W4 ⟨v4, rfl, S4, kc4⟩
                    try go_wp2_with fail
                    refine hK.out _ _ (⟨R.at_box S4.box rfl, R.at_box S4.box rfl, R.at_box S4.box rfl, R.at_box S4.box rfl, R.at_box S4.box rfl, R.at_box S4.box rfl, R.at_box S4.box rfl, R.at_box S4.box rfl, R.at_box S4.box rfl, R.at_box S4.box rfl, R.at_box S4.box rfl, R.at_box S4.box rfl, R.at_box S4.box rfl⟩) (fun hH4 => ?_)
                    clear hK K
                    try simp only [Act.put, List.setIfInBounds_toArray, List.set_cons_zero, List.set_cons_succ]
                    refine wpAnyH_ready (rs := [10]) (by kernel_rfl) (by simp) ?_
                    refine AllReadyH.cons rfl (fun K hK => ?_) AllReadyH.nil
                    refine R.step_one (by rfl) (.tmp 35) (.tmp 42) (by rfl) (wr.heap.size + 1) v4 QL (by rfl) ?o1_222 _ (by rfl) [60] ?o2_222 ?o3_222 ?o4_222 ?o5_222
                    case o1_222 => exact S4.own
                    case o2_222 => exact (kc4 (w3.heap.size + 1) 0 (by simp)).trans (R.new_cell2 w3.drew _ _ _)
                    case o3_222 => (have := HLq.out; omega)
                    case o4_222 => (have := S4.lt; first | omega | (simp; omega))
                    intro v5 W5 own5 gr5
                    have S5 : R.St wr W5 (.cells #[.int .i64 2, .string pn, .slice so ps.length sc, .int .i64 2, .bool lst, .bool lfi, .slice lbo lbe.length lbc, .slice lso lsr.length lsc, .slice lao laf.length lac, .int .i64 lcu, .bool rst, .bool rfi, .slice rbo rbe.length rbc, .slice rso rsr.length rsc, .slice rao raf.length rac, .int .i64 rcu] 45) v5 (QL ++ [[60]]) := (S4).rows own5 gr5
                    refine hK.out _ _ (⟨R.at_box S5.box rfl, R.at_box S5.box rfl, R.at_box S5.box rfl, R.at_box S5.box rfl, R.at_box S5.box rfl, R.at_box S5.box rfl, R.at_box S5.box rfl, R.at_box S5.box rfl, R.at_box S5.box rfl, R.at_box S5.box rfl, R.at_box S5.box rfl, R.at_box S5.box rfl, R.at_box S5.box rfl⟩) (fun hH5 => ?_)
                    clear hK K
                    try simp only [Act.put, List.setIfInBounds_toArray, List.set_cons_zero, List.set_cons_succ]
                    refine wpAnyH_ready (rs := [13]) (by kernel_rfl) (by simp) ?_
                    refine AllReadyH.cons rfl (fun K hK => ?_) ?_
                    · go_simp
                      go_at_call 14; refine (HRc.out W5 v5 _ S5).mono ?_; rintro e W6 ⟨v6, B6, rfl, ow6, S6⟩
                      try go_wp2_with fail
                      refine hK.out _ _ (⟨R.at_box S6.box rfl, R.at_box S6.box rfl, R.at_box S6.box rfl, R.at_box S6.box rfl, R.at_box S6.box rfl, R.at_box S6.box rfl, R.at_box S6.box rfl, R.at_box S6.box rfl, R.at_box S6.box rfl, R.at_box S6.box rfl, R.at_box S6.box rfl, R.at_box S6.box rfl, R.at_box S6.box rfl⟩) (fun hH6 => ?_)
                      clear hK K
                      try simp only [Act.put, List.setIfInBounds_toArray, List.set_cons_zero, List.set_cons_succ]
                      refine wpAnyH_ready (rs := [14]) (by kernel_rfl) (by simp) ?_
                      refine AllReadyH.cons rfl (fun K hK => ?_) ?_
                      · refine R.step_rows (by rfl) (.tmp 43) (.tmp 46) (by rfl) (wr.heap.size + 1) v5 (QL ++ [[60]]) (by rfl) S6.own v6 (by rfl) B6 QR ow6 ?p1_223 ?p2_223 ?p3_223 ?p4_223
                        case p1_223 => (have := HLq.out; simp; omega)
                        case p2_223 => (have := HLr.out; omega)
                        case p3_223 => (have := S6.lt; omega)
                        intro v7 W7 own7 gr7
                        rw [HWs4.out] at own7
                        have S7 := S6.rows own7 gr7
                        refine hK.out _ _ (⟨R.at_box S7.box rfl, R.at_box S7.box rfl, R.at_box S7.box rfl, R.at_box S7.box rfl, R.at_box S7.box rfl, R.at_box S7.box rfl, R.at_box S7.box rfl, R.at_box S7.box rfl, R.at_box S7.box rfl, R.at_box S7.box rfl, R.at_box S7.box rfl, R.at_box S7.box rfl, R.at_box S7.box rfl⟩) (fun hH7 => ?_)
                        clear hK K
                        rw [R.put_at (d := 47) (h := ?hq_224)]
                        case hq_224 => rfl
                        try simp only [Act.put, List.setIfInBounds_toArray, List.set_cons_zero, List.set_cons_succ]
                        refine wpAnyH_take (i := 15) (v := v7) rfl (by kernel_rfl) (by kernel_rfl) (by kernel_rfl) (fun _ _ _ h => h) (Or.inl ⟨by rfl, ?hy_225⟩) (by assumption) ?rest_225
                        case hy_225 => (intro w hSw; (try dsimp only at hSw); go_simp; try (with_reducible rfl))
                        rw [R.put_at (d := 8) (h := ?hr_225)]
                        case hr_225 => rfl
                        try simp only [Act.put, List.setIfInBounds_toArray, List.set_cons_zero, List.set_cons_succ]
                        refine wpAnyH_done (by kernel_rfl) ?_ _
                        have HS9 : Hid (R.St wr W7 (.cells #[.int .i64 2, .string pn, .slice so ps.length sc, .int .i64 2, .bool lst, .bool lfi, .slice lbo lbe.length lbc, .slice lso lsr.length lsc, .slice lao laf.length lac, .int .i64 lcu, .bool rst, .bool rfi, .slice rbo rbe.length rbc, .slice rso rsr.length rsc, .slice rao raf.length rac, .int .i64 rcu] 45) v7 ws) := S7
                        clear S4 S5 S6 S7 ow6 own5 gr5 own7 gr7 kc4 hHeld hH4 hH5 hH6 hH7
                        go_wp2_with fail
                        go_meet
                        case rel => exact ⟨HS9.out.own.wds, HS9.out.bel⟩
                      · exact AllReadyH.nil
                    · exact AllReadyH.nil
                  exact AllReadyH.nil
                exact AllReadyH.nil
              exact AllReadyH.nil
            · have hws : ws = QL ++ [[60, 62]] ++ QR := by rw [HWs2.out]; rfl
              have HWs4 : Hid (QL ++ [[60, 62]] ++ QR = ws) := hws.symm
              clear hws HWs2
              have HLc : Hid (∀ Z, Below w3.heap.size w3 Z → Calls Tryd.prog 14 #[.agg #[.bool lst, .bool lfi, .slice lbo lbe.length lbc, .slice lso lsr.length lsc, .slice lao laf.length lac, .int .i64 lcu]] Z fun e W => ∃ v', e = .returned v' ∧ R.St wr W (.cells #[.int .i64 2, .string pn, .slice so ps.length sc, .int .i64 3, .bool lst, .bool lfi, .slice lbo lbe.length lbc, .slice lso lsr.length lsc, .slice lao laf.length lac, .int .i64 lcu, .bool rst, .bool rfi, .slice rbo rbe.length rbc, .slice rso rsr.length rsc, .slice rao raf.length rac, .int .i64 rcu] 45) v' QL ∧ ∀ b o, b < Z.heap.size → W.cell? ⟨b, o, none⟩ = Z.cell? ⟨b, o, none⟩) := fun Z hZ => by
                have St3 : R.St wr w3 (.cells #[.int .i64 2, .string pn, .slice so ps.length sc, .int .i64 3, .bool lst, .bool lfi, .slice lbo lbe.length lbc, .slice lso lsr.length lsc, .slice lao laf.length lac, .int .i64 lcu, .bool rst, .bool rfi, .slice rbo rbe.length rbc, .slice rso rsr.length rsc, .slice rao raf.length rac, .int .i64 rcu] 45) (.slice none 0 0) [] := ⟨R.Own.nil _ _, HX3.out, HB3.out⟩
                refine (HLs3.out Z (HBw3.out.trans (hZ.mono hs3))).mono ?_
                rintro e W ⟨v', rfl, ow, bw⟩
                have sZ := (St3.call hZ).call bw
                exact ⟨v', rfl, ⟨ow.base (by have := (St3.call hZ).lt; omega), sZ.box, sZ.bel⟩, fun b o hb => bw.cell (p := ⟨b, o, none⟩) hb⟩
              have HRc : Hid (∀ Z v ms, R.St wr Z (.cells #[.int .i64 2, .string pn, .slice so ps.length sc, .int .i64 3, .bool lst, .bool lfi, .slice lbo lbe.length lbc, .slice lso lsr.length lsc, .slice lao laf.length lac, .int .i64 lcu, .bool rst, .bool rfi, .slice rbo rbe.length rbc, .slice rso rsr.length rsc, .slice rao raf.length rac, .int .i64 rcu] 45) v ms → Calls Tryd.prog 14 #[.agg #[.bool rst, .bool rfi, .slice rbo rbe.length rbc, .slice rso rsr.length rsc, .slice rao raf.length rac, .int .i64 rcu]] Z fun e W => ∃ v' B2, e = .returned v' ∧ R.Own B2 W v' QR ∧ R.St wr W (.cells #[.int .i64 2, .string pn, .slice so ps.length sc, .int .i64 3, .bool lst, .bool lfi, .slice lbo lbe.length lbc, .slice lso lsr.length lsc, .slice lao laf.length lac, .int .i64 lcu, .bool rst, .bool rfi, .slice rbo rbe.length rbc, .slice rso rsr.length rsc, .slice rao raf.length rac, .int .i64 rcu] 45) v ms) := fun Z v ms hZ => by
                refine (HRs3.out Z (HBw.out.trans (hZ.bel.mono hszw))).mono ?_
                rintro e W ⟨v', rfl, ow, bw⟩
                exact ⟨v', _, rfl, ow, hZ.call bw⟩
              have kp0 : Hid (w3.cell? ⟨wr.heap.size, 3, none⟩ = some (.int .i64 3) ∧ w3.cell? ⟨wr.heap.size, 4, none⟩ = some (.bool lst) ∧ w3.cell? ⟨wr.heap.size, 5, none⟩ = some (.bool lfi) ∧ w3.cell? ⟨wr.heap.size, 6, none⟩ = some (.slice lbo lbe.length lbc) ∧ w3.cell? ⟨wr.heap.size, 7, none⟩ = some (.slice lso lsr.length lsc) ∧ w3.cell? ⟨wr.heap.size, 8, none⟩ = some (.slice lao laf.length lac) ∧ w3.cell? ⟨wr.heap.size, 9, none⟩ = some (.int .i64 lcu) ∧ w3.cell? ⟨wr.heap.size, 10, none⟩ = some (.bool rst) ∧ w3.cell? ⟨wr.heap.size, 11, none⟩ = some (.bool rfi) ∧ w3.cell? ⟨wr.heap.size, 12, none⟩ = some (.slice rbo rbe.length rbc) ∧ w3.cell? ⟨wr.heap.size, 13, none⟩ = some (.slice rso rsr.length rsc) ∧ w3.cell? ⟨wr.heap.size, 14, none⟩ = some (.slice rao raf.length rac) ∧ w3.cell? ⟨wr.heap.size, 15, none⟩ = some (.int .i64 rcu)) := ⟨R.at_box HX3.out rfl, R.at_box HX3.out rfl, R.at_box HX3.out rfl, R.at_box HX3.out rfl, R.at_box HX3.out rfl, R.at_box HX3.out rfl, R.at_box HX3.out rfl, R.at_box HX3.out rfl, R.at_box HX3.out rfl, R.at_box HX3.out rfl, R.at_box HX3.out rfl, R.at_box HX3.out rfl, R.at_box HX3.out rfl⟩
              have HK : Hid (∀ {Z W : World}, (Z.cell? ⟨wr.heap.size, 3, none⟩ = some (.int .i64 3) ∧ Z.cell? ⟨wr.heap.size, 4, none⟩ = some (.bool lst) ∧ Z.cell? ⟨wr.heap.size, 5, none⟩ = some (.bool lfi) ∧ Z.cell? ⟨wr.heap.size, 6, none⟩ = some (.slice lbo lbe.length lbc) ∧ Z.cell? ⟨wr.heap.size, 7, none⟩ = some (.slice lso lsr.length lsc) ∧ Z.cell? ⟨wr.heap.size, 8, none⟩ = some (.slice lao laf.length lac) ∧ Z.cell? ⟨wr.heap.size, 9, none⟩ = some (.int .i64 lcu) ∧ Z.cell? ⟨wr.heap.size, 10, none⟩ = some (.bool rst) ∧ Z.cell? ⟨wr.heap.size, 11, none⟩ = some (.bool rfi) ∧ Z.cell? ⟨wr.heap.size, 12, none⟩ = some (.slice rbo rbe.length rbc) ∧ Z.cell? ⟨wr.heap.size, 13, none⟩ = some (.slice rso rsr.length rsc) ∧ Z.cell? ⟨wr.heap.size, 14, none⟩ = some (.slice rao raf.length rac) ∧ Z.cell? ⟨wr.heap.size, 15, none⟩ = some (.int .i64 rcu)) → (∀ b o, b < Z.heap.size → W.cell? ⟨b, o, none⟩ = Z.cell? ⟨b, o, none⟩) → (W.cell? ⟨wr.heap.size, 3, none⟩ = some (.int .i64 3) ∧ W.cell? ⟨wr.heap.size, 4, none⟩ = some (.bool lst) ∧ W.cell? ⟨wr.heap.size, 5, none⟩ = some (.bool lfi) ∧ W.cell? ⟨wr.heap.size, 6, none⟩ = some (.slice lbo lbe.length lbc) ∧ W.cell? ⟨wr.heap.size, 7, none⟩ = some (.slice lso lsr.length lsc) ∧ W.cell? ⟨wr.heap.size, 8, none⟩ = some (.slice lao laf.length lac) ∧ W.cell? ⟨wr.heap.size, 9, none⟩ = some (.int .i64 lcu) ∧ W.cell? ⟨wr.heap.size, 10, none⟩ = some (.bool rst) ∧ W.cell? ⟨wr.heap.size, 11, none⟩ = some (.bool rfi) ∧ W.cell? ⟨wr.heap.size, 12, none⟩ = some (.slice rbo rbe.length rbc) ∧ W.cell? ⟨wr.heap.size, 13, none⟩ = some (.slice rso rsr.length rsc) ∧ W.cell? ⟨wr.heap.size, 14, none⟩ = some (.slice rao raf.length rac) ∧ W.cell? ⟨wr.heap.size, 15, none⟩ = some (.int .i64 rcu))) := fun {Z W} hZ hk => by
                obtain ⟨k3, k4, k5, k6, k7, k8, k9, k10, k11, k12, k13, k14, k15⟩ := hZ
                exact ⟨(hk _ _ (L.block_lt k3)).trans k3, (hk _ _ (L.block_lt k4)).trans k4, (hk _ _ (L.block_lt k5)).trans k5, (hk _ _ (L.block_lt k6)).trans k6, (hk _ _ (L.block_lt k7)).trans k7, (hk _ _ (L.block_lt k8)).trans k8, (hk _ _ (L.block_lt k9)).trans k9, (hk _ _ (L.block_lt k10)).trans k10, (hk _ _ (L.block_lt k11)).trans k11, (hk _ _ (L.block_lt k12)).trans k12, (hk _ _ (L.block_lt k13)).trans k13, (hk _ _ (L.block_lt k14)).trans k14, (hk _ _ (L.block_lt k15)).trans k15⟩
              have HKd : Hid (w3.drew.cell? ⟨wr.heap.size, 3, none⟩ = some (.int .i64 3) ∧ w3.drew.cell? ⟨wr.heap.size, 4, none⟩ = some (.bool lst) ∧ w3.drew.cell? ⟨wr.heap.size, 5, none⟩ = some (.bool lfi) ∧ w3.drew.cell? ⟨wr.heap.size, 6, none⟩ = some (.slice lbo lbe.length lbc) ∧ w3.drew.cell? ⟨wr.heap.size, 7, none⟩ = some (.slice lso lsr.length lsc) ∧ w3.drew.cell? ⟨wr.heap.size, 8, none⟩ = some (.slice lao laf.length lac) ∧ w3.drew.cell? ⟨wr.heap.size, 9, none⟩ = some (.int .i64 lcu) ∧ w3.drew.cell? ⟨wr.heap.size, 10, none⟩ = some (.bool rst) ∧ w3.drew.cell? ⟨wr.heap.size, 11, none⟩ = some (.bool rfi) ∧ w3.drew.cell? ⟨wr.heap.size, 12, none⟩ = some (.slice rbo rbe.length rbc) ∧ w3.drew.cell? ⟨wr.heap.size, 13, none⟩ = some (.slice rso rsr.length rsc) ∧ w3.drew.cell? ⟨wr.heap.size, 14, none⟩ = some (.slice rao raf.length rac) ∧ w3.drew.cell? ⟨wr.heap.size, 15, none⟩ = some (.int .i64 rcu)) := kp0.out
              have HKa : Hid (∀ (Z : World) (o : Obj), (Z.cell? ⟨wr.heap.size, 3, none⟩ = some (.int .i64 3) ∧ Z.cell? ⟨wr.heap.size, 4, none⟩ = some (.bool lst) ∧ Z.cell? ⟨wr.heap.size, 5, none⟩ = some (.bool lfi) ∧ Z.cell? ⟨wr.heap.size, 6, none⟩ = some (.slice lbo lbe.length lbc) ∧ Z.cell? ⟨wr.heap.size, 7, none⟩ = some (.slice lso lsr.length lsc) ∧ Z.cell? ⟨wr.heap.size, 8, none⟩ = some (.slice lao laf.length lac) ∧ Z.cell? ⟨wr.heap.size, 9, none⟩ = some (.int .i64 lcu) ∧ Z.cell? ⟨wr.heap.size, 10, none⟩ = some (.bool rst) ∧ Z.cell? ⟨wr.heap.size, 11, none⟩ = some (.bool rfi) ∧ Z.cell? ⟨wr.heap.size, 12, none⟩ = some (.slice rbo rbe.length rbc) ∧ Z.cell? ⟨wr.heap.size, 13, none⟩ = some (.slice rso rsr.length rsc) ∧ Z.cell? ⟨wr.heap.size, 14, none⟩ = some (.slice rao raf.length rac) ∧ Z.cell? ⟨wr.heap.size, 15, none⟩ = some (.int .i64 rcu)) → ((Z.alloc o).cell? ⟨wr.heap.size, 3, none⟩ = some (.int .i64 3) ∧ (Z.alloc o).cell? ⟨wr.heap.size, 4, none⟩ = some (.bool lst) ∧ (Z.alloc o).cell? ⟨wr.heap.size, 5, none⟩ = some (.bool lfi) ∧ (Z.alloc o).cell? ⟨wr.heap.size, 6, none⟩ = some (.slice lbo lbe.length lbc) ∧ (Z.alloc o).cell? ⟨wr.heap.size, 7, none⟩ = some (.slice lso lsr.length lsc) ∧ (Z.alloc o).cell? ⟨wr.heap.size, 8, none⟩ = some (.slice lao laf.length lac) ∧ (Z.alloc o).cell? ⟨wr.heap.size, 9, none⟩ = some (.int .i64 lcu) ∧ (Z.alloc o).cell? ⟨wr.heap.size, 10, none⟩ = some (.bool rst) ∧ (Z.alloc o).cell? ⟨wr.heap.size, 11, none⟩ = some (.bool rfi) ∧ (Z.alloc o).cell? ⟨wr.heap.size, 12, none⟩ = some (.slice rbo rbe.length rbc) ∧ (Z.alloc o).cell? ⟨wr.heap.size, 13, none⟩ = some (.slice rso rsr.length rsc) ∧ (Z.alloc o).cell? ⟨wr.heap.size, 14, none⟩ = some (.slice rao raf.length rac) ∧ (Z.alloc o).cell? ⟨wr.heap.size, 15, none⟩ = some (.int .i64 rcu))) := fun Z o hZ => HK.out hZ fun b o' hb => World.cell?_alloc_lt _ _ _ hb
              have hwr : IntKind.i64.wrap 2 = 2 := by decide
              go_wp2
              refine wp_region_held_drew (S := fun w' => w'.cell? ⟨wr.heap.size, 3, none⟩ = some (.int .i64 3) ∧ w'.cell? ⟨wr.heap.size, 4, none⟩ = some (.bool lst) ∧ w'.cell? ⟨wr.heap.size, 5, none⟩ = some (.bool lfi) ∧ w'.cell? ⟨wr.heap.size, 6, none⟩ = some (.slice lbo lbe.length lbc) ∧ w'.cell? ⟨wr.heap.size, 7, none⟩ = some (.slice lso lsr.length lsc) ∧ w'.cell? ⟨wr.heap.size, 8, none⟩ = some (.slice lao laf.length lac) ∧ w'.cell? ⟨wr.heap.size, 9, none⟩ = some (.int .i64 lcu) ∧ w'.cell? ⟨wr.heap.size, 10, none⟩ = some (.bool rst) ∧ w'.cell? ⟨wr.heap.size, 11, none⟩ = some (.bool rfi) ∧ w'.cell? ⟨wr.heap.size, 12, none⟩ = some (.slice rbo rbe.length rbc) ∧ w'.cell? ⟨wr.heap.size, 13, none⟩ = some (.slice rso rsr.length rsc) ∧ w'.cell? ⟨wr.heap.size, 14, none⟩ = some (.slice rao raf.length rac) ∧ w'.cell? ⟨wr.heap.size, 15, none⟩ = some (.int .i64 rcu)) (by kernel_rfl) HKd.out (fun hHeld => ?_)
              refine wpAnyH_take (i := 0) (v := ?v0_301) rfl (by kernel_rfl) (by kernel_rfl) (by kernel_rfl) (fun _ _ _ h => h) (Or.inl ⟨by rfl, ?hy0_301⟩) (by assumption) ?rest0_301
              case hy0_301 => (intro w hSw; (try dsimp only at hSw); go_simp; try (with_reducible rfl))
              try simp only [Act.put, List.setIfInBounds_toArray, List.set_cons_zero, List.set_cons_succ]
              refine wpAnyH_take (i := 1) (v := ?v1_302) rfl (by kernel_rfl) (by kernel_rfl) (by kernel_rfl) (fun _ _ _ h => h) (Or.inl ⟨by rfl, ?hy1_302⟩) (by assumption) ?rest1_302
              case hy1_302 => (intro w hSw; (try dsimp only at hSw); go_simp; try (with_reducible rfl))
              try simp only [Act.put, List.setIfInBounds_toArray, List.set_cons_zero, List.set_cons_succ]
              refine wpAnyH_take (i := 4) (v := ?v4_303) rfl (by kernel_rfl) (by kernel_rfl) (by kernel_rfl) (fun _ _ _ h => h) (Or.inl ⟨by rfl, ?hy4_303⟩) (by assumption) ?rest4_303
              case hy4_303 => (intro w hSw; (try dsimp only at hSw); go_simp; try (with_reducible rfl))
              try simp only [Act.put, List.setIfInBounds_toArray, List.set_cons_zero, List.set_cons_succ]
              refine wpAnyH_take (i := 5) (v := ?v5_304) rfl (by kernel_rfl) (by kernel_rfl) (by kernel_rfl) (fun _ _ _ h => h) (Or.inl ⟨by rfl, ?hy5_304⟩) (by assumption) ?rest5_304
              case hy5_304 => (intro w hSw; (try dsimp only at hSw); go_simp; try (with_reducible rfl))
              try simp only [Act.put, List.setIfInBounds_toArray, List.set_cons_zero, List.set_cons_succ]
              refine wpAnyH_take (i := 6) (v := ?v6_305) rfl (by kernel_rfl) (by kernel_rfl) (by kernel_rfl) (fun _ _ _ h => h) (Or.inl ⟨by rfl, ?hy6_305⟩) (by assumption) ?rest6_305
              case hy6_305 => (intro w hSw; (try dsimp only at hSw); go_simp; try (with_reducible rfl))
              try simp only [Act.put, List.setIfInBounds_toArray, List.set_cons_zero, List.set_cons_succ]
              refine wpAnyH_take (i := 11) (v := ?v11_306) rfl (by kernel_rfl) (by kernel_rfl) (by kernel_rfl) (fun _ _ _ h => h) (Or.inl ⟨by rfl, ?hy11_306⟩) (by assumption) ?rest11_306
              case hy11_306 => (intro w hSw; (try dsimp only at hSw); go_simp; try (with_reducible rfl))
              try simp only [Act.put, List.setIfInBounds_toArray, List.set_cons_zero, List.set_cons_succ]
              refine wpAnyH_take (i := 12) (v := ?v12_307) rfl (by kernel_rfl) (by kernel_rfl) (by kernel_rfl) (fun _ _ _ h => h) (Or.inl ⟨by rfl, ?hy12_307⟩) (by assumption) ?rest12_307
              case hy12_307 => (intro w hSw; (try dsimp only at hSw); go_simp; try (with_reducible rfl))
              try simp only [Act.put, List.setIfInBounds_toArray, List.set_cons_zero, List.set_cons_succ]
              refine wpAnyH_ready (rs := [2, 3]) (by kernel_rfl) (by simp) ?_
              refine AllReadyH.cons rfl (fun K hK => ?_) ?_
              · skip
                go_simp
                go_at_call 14; refine (HLc.out _ (z0.out)).mono ?_; rintro e W4 ⟨v4, rfl, S4, kc4⟩
                try go_wp2_with fail
                refine hK.out _ _ (⟨R.at_box S4.box rfl, R.at_box S4.box rfl, R.at_box S4.box rfl, R.at_box S4.box rfl, R.at_box S4.box rfl, R.at_box S4.box rfl, R.at_box S4.box rfl, R.at_box S4.box rfl, R.at_box S4.box rfl, R.at_box S4.box rfl, R.at_box S4.box rfl, R.at_box S4.box rfl, R.at_box S4.box rfl⟩) (fun hH4 => ?_)
                clear hK K
                try simp only [Act.put, List.setIfInBounds_toArray, List.set_cons_zero, List.set_cons_succ]
                refine wpAnyH_ready (rs := [3]) (by kernel_rfl) (by simp) ?_
                refine AllReadyH.cons rfl (fun K hK => ?_) AllReadyH.nil
                go_simp
                refine hK.out _ _ (HKa.out _ _ hH4) (fun hHb => ?_)
                clear hK K
                try simp only [Act.put, List.setIfInBounds_toArray, List.set_cons_zero, List.set_cons_succ]
                refine wpAnyH_take (i := 7) (v := ?v7_308) rfl (by kernel_rfl) (by kernel_rfl) (by kernel_rfl) (fun _ _ _ h => h) (Or.inl ⟨by rfl, ?hy7_308⟩) (by assumption) ?rest7_308
                case hy7_308 => (intro w hSw; (try dsimp only at hSw); go_simp; try (with_reducible rfl))
                try simp only [Act.put, List.setIfInBounds_toArray, List.set_cons_zero, List.set_cons_succ]
                refine wpAnyH_ready (rs := [8]) (by kernel_rfl) (by simp) ?_
                refine AllReadyH.cons rfl (fun K hK => ?_) AllReadyH.nil
                go_simp
                refine hK.out _ _ (hHb) (fun hHl => ?_)
                clear hK K
                try simp only [Act.put, List.setIfInBounds_toArray, List.set_cons_zero, List.set_cons_succ]
                refine wpAnyH_ready (rs := [9]) (by kernel_rfl) (by simp) ?_
                refine AllReadyH.cons rfl (fun K hK => ?_) AllReadyH.nil
                go_simp
                refine hK.out _ _ (HKa.out _ _ hHl) (fun hHc => ?_)
                clear hK K
                try simp only [Act.put, List.setIfInBounds_toArray, List.set_cons_zero, List.set_cons_succ]
                refine wpAnyH_ready (rs := [10]) (by kernel_rfl) (by simp) ?_
                refine AllReadyH.cons rfl (fun K hK => ?_) AllReadyH.nil
                refine R.step_one (by rfl) (.tmp 35) (.tmp 42) (by rfl) (wr.heap.size + 1) v4 QL (by rfl) ?o1_309 _ (by rfl) [60, 62] ?o2_309 ?o3_309 ?o4_309 ?o5_309
                case o1_309 => exact (S4.own.alloc _).alloc _
                case o2_309 => exact R.new_cell2 _ _ _ _
                case o3_309 => (have := HLq.out; omega)
                case o4_309 => (have := S4.lt; first | omega | (simp; omega))
                intro v5 W5 own5 gr5
                have S5 : R.St wr W5 (.cells #[.int .i64 2, .string pn, .slice so ps.length sc, .int .i64 3, .bool lst, .bool lfi, .slice lbo lbe.length lbc, .slice lso lsr.length lsc, .slice lao laf.length lac, .int .i64 lcu, .bool rst, .bool rfi, .slice rbo rbe.length rbc, .slice rso rsr.length rsc, .slice rao raf.length rac, .int .i64 rcu] 45) v5 (QL ++ [[60, 62]]) := ((S4.call ((Below.refl _ _).alloc (Nat.le_refl _) _)).call ((Below.refl _ _).alloc (Nat.le_refl _) _)).rows own5 gr5
                refine hK.out _ _ (⟨R.at_box S5.box rfl, R.at_box S5.box rfl, R.at_box S5.box rfl, R.at_box S5.box rfl, R.at_box S5.box rfl, R.at_box S5.box rfl, R.at_box S5.box rfl, R.at_box S5.box rfl, R.at_box S5.box rfl, R.at_box S5.box rfl, R.at_box S5.box rfl, R.at_box S5.box rfl, R.at_box S5.box rfl⟩) (fun hH5 => ?_)
                clear hK K
                try simp only [Act.put, List.setIfInBounds_toArray, List.set_cons_zero, List.set_cons_succ]
                refine wpAnyH_ready (rs := [13]) (by kernel_rfl) (by simp) ?_
                refine AllReadyH.cons rfl (fun K hK => ?_) ?_
                · go_simp
                  go_at_call 14; refine (HRc.out W5 v5 _ S5).mono ?_; rintro e W6 ⟨v6, B6, rfl, ow6, S6⟩
                  try go_wp2_with fail
                  refine hK.out _ _ (⟨R.at_box S6.box rfl, R.at_box S6.box rfl, R.at_box S6.box rfl, R.at_box S6.box rfl, R.at_box S6.box rfl, R.at_box S6.box rfl, R.at_box S6.box rfl, R.at_box S6.box rfl, R.at_box S6.box rfl, R.at_box S6.box rfl, R.at_box S6.box rfl, R.at_box S6.box rfl, R.at_box S6.box rfl⟩) (fun hH6 => ?_)
                  clear hK K
                  try simp only [Act.put, List.setIfInBounds_toArray, List.set_cons_zero, List.set_cons_succ]
                  refine wpAnyH_ready (rs := [14]) (by kernel_rfl) (by simp) ?_
                  refine AllReadyH.cons rfl (fun K hK => ?_) ?_
                  · refine R.step_rows (by rfl) (.tmp 43) (.tmp 46) (by rfl) (wr.heap.size + 1) v5 (QL ++ [[60, 62]]) (by rfl) S6.own v6 (by rfl) B6 QR ow6 ?p1_310 ?p2_310 ?p3_310 ?p4_310
                    case p1_310 => (have := HLq.out; simp; omega)
                    case p2_310 => (have := HLr.out; omega)
                    case p3_310 => (have := S6.lt; omega)
                    intro v7 W7 own7 gr7
                    rw [HWs4.out] at own7
                    have S7 := S6.rows own7 gr7
                    refine hK.out _ _ (⟨R.at_box S7.box rfl, R.at_box S7.box rfl, R.at_box S7.box rfl, R.at_box S7.box rfl, R.at_box S7.box rfl, R.at_box S7.box rfl, R.at_box S7.box rfl, R.at_box S7.box rfl, R.at_box S7.box rfl, R.at_box S7.box rfl, R.at_box S7.box rfl, R.at_box S7.box rfl, R.at_box S7.box rfl⟩) (fun hH7 => ?_)
                    clear hK K
                    rw [R.put_at (d := 47) (h := ?hq_311)]
                    case hq_311 => rfl
                    try simp only [Act.put, List.setIfInBounds_toArray, List.set_cons_zero, List.set_cons_succ]
                    refine wpAnyH_take (i := 15) (v := v7) rfl (by kernel_rfl) (by kernel_rfl) (by kernel_rfl) (fun _ _ _ h => h) (Or.inl ⟨by rfl, ?hy_312⟩) (by assumption) ?rest_312
                    case hy_312 => (intro w hSw; (try dsimp only at hSw); go_simp; try (with_reducible rfl))
                    rw [R.put_at (d := 8) (h := ?hr_312)]
                    case hr_312 => rfl
                    try simp only [Act.put, List.setIfInBounds_toArray, List.set_cons_zero, List.set_cons_succ]
                    refine wpAnyH_done (by kernel_rfl) ?_ _
                    have HS9 : Hid (R.St wr W7 (.cells #[.int .i64 2, .string pn, .slice so ps.length sc, .int .i64 3, .bool lst, .bool lfi, .slice lbo lbe.length lbc, .slice lso lsr.length lsc, .slice lao laf.length lac, .int .i64 lcu, .bool rst, .bool rfi, .slice rbo rbe.length rbc, .slice rso rsr.length rsc, .slice rao raf.length rac, .int .i64 rcu] 45) v7 ws) := S7
                    clear S4 S5 S6 S7 ow6 own5 gr5 own7 gr7 kc4 hHeld hH4 hH5 hH6 hH7
                    go_wp2_with fail
                    go_meet
                    case rel => exact ⟨HS9.out.own.wds, HS9.out.bel⟩
                  · exact AllReadyH.nil
                · exact AllReadyH.nil
              refine AllReadyH.cons rfl (fun K hK => ?_) ?_
              · skip
                go_simp
                refine hK.out _ _ (HKa.out _ _ hHeld) (fun hHb => ?_)
                clear hK K
                try simp only [Act.put, List.setIfInBounds_toArray, List.set_cons_zero, List.set_cons_succ]
                refine wpAnyH_take (i := 7) (v := ?v7_313) rfl (by kernel_rfl) (by kernel_rfl) (by kernel_rfl) (fun _ _ _ h => h) (Or.inl ⟨by rfl, ?hy7_313⟩) (by assumption) ?rest7_313
                case hy7_313 => (intro w hSw; (try dsimp only at hSw); go_simp; try (with_reducible rfl))
                try simp only [Act.put, List.setIfInBounds_toArray, List.set_cons_zero, List.set_cons_succ]
                refine wpAnyH_ready (rs := [2, 8]) (by kernel_rfl) (by simp) ?_
                refine AllReadyH.cons rfl (fun K hK => ?_) ?_
                · skip
                  go_simp
                  go_at_call 14; refine (HLc.out _ (z1.out _)).mono ?_; rintro e W4 ⟨v4, rfl, S4, kc4⟩
                  try go_wp2_with fail
                  refine hK.out _ _ (⟨R.at_box S4.box rfl, R.at_box S4.box rfl, R.at_box S4.box rfl, R.at_box S4.box rfl, R.at_box S4.box rfl, R.at_box S4.box rfl, R.at_box S4.box rfl, R.at_box S4.box rfl, R.at_box S4.box rfl, R.at_box S4.box rfl, R.at_box S4.box rfl, R.at_box S4.box rfl, R.at_box S4.box rfl⟩) (fun hH4 => ?_)
                  clear hK K
                  try simp only [Act.put, List.setIfInBounds_toArray, List.set_cons_zero, List.set_cons_succ]
                  refine wpAnyH_ready (rs := [8]) (by kernel_rfl) (by simp) ?_
                  refine AllReadyH.cons rfl (fun K hK => ?_) AllReadyH.nil
                  have hkx : W4.cell? ⟨w3.heap.size, 2, none⟩ = some (.string ⟨#[60, 62]⟩) := (kc4 w3.heap.size 2 (by simp)).trans (R.new_at w3.drew _ _ 2 _ rfl)
                  go_simp
                  refine hK.out _ _ (hH4) (fun hHl => ?_)
                  clear hK K
                  try simp only [Act.put, List.setIfInBounds_toArray, List.set_cons_zero, List.set_cons_succ]
                  refine wpAnyH_ready (rs := [9]) (by kernel_rfl) (by simp) ?_
                  refine AllReadyH.cons rfl (fun K hK => ?_) AllReadyH.nil
                  go_simp
                  refine hK.out _ _ (HKa.out _ _ hHl) (fun hHc => ?_)
                  clear hK K
                  try simp only [Act.put, List.setIfInBounds_toArray, List.set_cons_zero, List.set_cons_succ]
                  refine wpAnyH_ready (rs := [10]) (by kernel_rfl) (by simp) ?_
                  refine AllReadyH.cons rfl (fun K hK => ?_) AllReadyH.nil
                  refine R.step_one (by rfl) (.tmp 35) (.tmp 42) (by rfl) (wr.heap.size + 1) v4 QL (by rfl) ?o1_314 _ (by rfl) [60, 62] ?o2_314 ?o3_314 ?o4_314 ?o5_314
                  case o1_314 => exact S4.own.alloc _
                  case o2_314 => exact R.new_cell _ _ _
                  case o3_314 => (have := HLq.out; omega)
                  case o4_314 => (have := S4.lt; first | omega | (simp; omega))
                  intro v5 W5 own5 gr5
                  have S5 : R.St wr W5 (.cells #[.int .i64 2, .string pn, .slice so ps.length sc, .int .i64 3, .bool lst, .bool lfi, .slice lbo lbe.length lbc, .slice lso lsr.length lsc, .slice lao laf.length lac, .int .i64 lcu, .bool rst, .bool rfi, .slice rbo rbe.length rbc, .slice rso rsr.length rsc, .slice rao raf.length rac, .int .i64 rcu] 45) v5 (QL ++ [[60, 62]]) := (S4.call ((Below.refl _ _).alloc (Nat.le_refl _) _)).rows own5 gr5
                  refine hK.out _ _ (⟨R.at_box S5.box rfl, R.at_box S5.box rfl, R.at_box S5.box rfl, R.at_box S5.box rfl, R.at_box S5.box rfl, R.at_box S5.box rfl, R.at_box S5.box rfl, R.at_box S5.box rfl, R.at_box S5.box rfl, R.at_box S5.box rfl, R.at_box S5.box rfl, R.at_box S5.box rfl, R.at_box S5.box rfl⟩) (fun hH5 => ?_)
                  clear hK K
                  try simp only [Act.put, List.setIfInBounds_toArray, List.set_cons_zero, List.set_cons_succ]
                  refine wpAnyH_ready (rs := [13]) (by kernel_rfl) (by simp) ?_
                  refine AllReadyH.cons rfl (fun K hK => ?_) ?_
                  · go_simp
                    go_at_call 14; refine (HRc.out W5 v5 _ S5).mono ?_; rintro e W6 ⟨v6, B6, rfl, ow6, S6⟩
                    try go_wp2_with fail
                    refine hK.out _ _ (⟨R.at_box S6.box rfl, R.at_box S6.box rfl, R.at_box S6.box rfl, R.at_box S6.box rfl, R.at_box S6.box rfl, R.at_box S6.box rfl, R.at_box S6.box rfl, R.at_box S6.box rfl, R.at_box S6.box rfl, R.at_box S6.box rfl, R.at_box S6.box rfl, R.at_box S6.box rfl, R.at_box S6.box rfl⟩) (fun hH6 => ?_)
                    clear hK K
                    try simp only [Act.put, List.setIfInBounds_toArray, List.set_cons_zero, List.set_cons_succ]
                    refine wpAnyH_ready (rs := [14]) (by kernel_rfl) (by simp) ?_
                    refine AllReadyH.cons rfl (fun K hK => ?_) ?_
                    · refine R.step_rows (by rfl) (.tmp 43) (.tmp 46) (by rfl) (wr.heap.size + 1) v5 (QL ++ [[60, 62]]) (by rfl) S6.own v6 (by rfl) B6 QR ow6 ?p1_315 ?p2_315 ?p3_315 ?p4_315
                      case p1_315 => (have := HLq.out; simp; omega)
                      case p2_315 => (have := HLr.out; omega)
                      case p3_315 => (have := S6.lt; omega)
                      intro v7 W7 own7 gr7
                      rw [HWs4.out] at own7
                      have S7 := S6.rows own7 gr7
                      refine hK.out _ _ (⟨R.at_box S7.box rfl, R.at_box S7.box rfl, R.at_box S7.box rfl, R.at_box S7.box rfl, R.at_box S7.box rfl, R.at_box S7.box rfl, R.at_box S7.box rfl, R.at_box S7.box rfl, R.at_box S7.box rfl, R.at_box S7.box rfl, R.at_box S7.box rfl, R.at_box S7.box rfl, R.at_box S7.box rfl⟩) (fun hH7 => ?_)
                      clear hK K
                      rw [R.put_at (d := 47) (h := ?hq_316)]
                      case hq_316 => rfl
                      try simp only [Act.put, List.setIfInBounds_toArray, List.set_cons_zero, List.set_cons_succ]
                      refine wpAnyH_take (i := 15) (v := v7) rfl (by kernel_rfl) (by kernel_rfl) (by kernel_rfl) (fun _ _ _ h => h) (Or.inl ⟨by rfl, ?hy_317⟩) (by assumption) ?rest_317
                      case hy_317 => (intro w hSw; (try dsimp only at hSw); go_simp; try (with_reducible rfl))
                      rw [R.put_at (d := 8) (h := ?hr_317)]
                      case hr_317 => rfl
                      try simp only [Act.put, List.setIfInBounds_toArray, List.set_cons_zero, List.set_cons_succ]
                      refine wpAnyH_done (by kernel_rfl) ?_ _
                      have HS9 : Hid (R.St wr W7 (.cells #[.int .i64 2, .string pn, .slice so ps.length sc, .int .i64 3, .bool lst, .bool lfi, .slice lbo lbe.length lbc, .slice lso lsr.length lsc, .slice lao laf.length lac, .int .i64 lcu, .bool rst, .bool rfi, .slice rbo rbe.length rbc, .slice rso rsr.length rsc, .slice rao raf.length rac, .int .i64 rcu] 45) v7 ws) := S7
                      clear S4 S5 S6 S7 ow6 own5 gr5 own7 gr7 kc4 hHeld hH4 hH5 hH6 hH7
                      go_wp2_with fail
                      go_meet
                      case rel => exact ⟨HS9.out.own.wds, HS9.out.bel⟩
                    · exact AllReadyH.nil
                  · exact AllReadyH.nil
                refine AllReadyH.cons rfl (fun K hK => ?_) ?_
                · skip
                  go_simp
                  refine hK.out _ _ (hHb) (fun hHl => ?_)
                  clear hK K
                  try simp only [Act.put, List.setIfInBounds_toArray, List.set_cons_zero, List.set_cons_succ]
                  refine wpAnyH_ready (rs := [2, 9]) (by kernel_rfl) (by simp) ?_
                  refine AllReadyH.cons rfl (fun K hK => ?_) ?_
                  · skip
                    go_simp
                    go_at_call 14; refine (HLc.out _ (z1.out _)).mono ?_; rintro e W4 ⟨v4, rfl, S4, kc4⟩
                    try go_wp2_with fail
                    refine hK.out _ _ (⟨R.at_box S4.box rfl, R.at_box S4.box rfl, R.at_box S4.box rfl, R.at_box S4.box rfl, R.at_box S4.box rfl, R.at_box S4.box rfl, R.at_box S4.box rfl, R.at_box S4.box rfl, R.at_box S4.box rfl, R.at_box S4.box rfl, R.at_box S4.box rfl, R.at_box S4.box rfl, R.at_box S4.box rfl⟩) (fun hH4 => ?_)
                    clear hK K
                    try simp only [Act.put, List.setIfInBounds_toArray, List.set_cons_zero, List.set_cons_succ]
                    refine wpAnyH_ready (rs := [9]) (by kernel_rfl) (by simp) ?_
                    refine AllReadyH.cons rfl (fun K hK => ?_) AllReadyH.nil
                    go_simp
                    refine hK.out _ _ (HKa.out _ _ hH4) (fun hHc => ?_)
                    clear hK K
                    try simp only [Act.put, List.setIfInBounds_toArray, List.set_cons_zero, List.set_cons_succ]
                    refine wpAnyH_ready (rs := [10]) (by kernel_rfl) (by simp) ?_
                    refine AllReadyH.cons rfl (fun K hK => ?_) AllReadyH.nil
                    refine R.step_one (by rfl) (.tmp 35) (.tmp 42) (by rfl) (wr.heap.size + 1) v4 QL (by rfl) ?o1_318 _ (by rfl) [60, 62] ?o2_318 ?o3_318 ?o4_318 ?o5_318
                    case o1_318 => exact S4.own.alloc _
                    case o2_318 => exact R.new_cell _ _ _
                    case o3_318 => (have := HLq.out; omega)
                    case o4_318 => (have := S4.lt; first | omega | (simp; omega))
                    intro v5 W5 own5 gr5
                    have S5 : R.St wr W5 (.cells #[.int .i64 2, .string pn, .slice so ps.length sc, .int .i64 3, .bool lst, .bool lfi, .slice lbo lbe.length lbc, .slice lso lsr.length lsc, .slice lao laf.length lac, .int .i64 lcu, .bool rst, .bool rfi, .slice rbo rbe.length rbc, .slice rso rsr.length rsc, .slice rao raf.length rac, .int .i64 rcu] 45) v5 (QL ++ [[60, 62]]) := (S4.call ((Below.refl _ _).alloc (Nat.le_refl _) _)).rows own5 gr5
                    refine hK.out _ _ (⟨R.at_box S5.box rfl, R.at_box S5.box rfl, R.at_box S5.box rfl, R.at_box S5.box rfl, R.at_box S5.box rfl, R.at_box S5.box rfl, R.at_box S5.box rfl, R.at_box S5.box rfl, R.at_box S5.box rfl, R.at_box S5.box rfl, R.at_box S5.box rfl, R.at_box S5.box rfl, R.at_box S5.box rfl⟩) (fun hH5 => ?_)
                    clear hK K
                    try simp only [Act.put, List.setIfInBounds_toArray, List.set_cons_zero, List.set_cons_succ]
                    refine wpAnyH_ready (rs := [13]) (by kernel_rfl) (by simp) ?_
                    refine AllReadyH.cons rfl (fun K hK => ?_) ?_
                    · go_simp
                      go_at_call 14; refine (HRc.out W5 v5 _ S5).mono ?_; rintro e W6 ⟨v6, B6, rfl, ow6, S6⟩
                      try go_wp2_with fail
                      refine hK.out _ _ (⟨R.at_box S6.box rfl, R.at_box S6.box rfl, R.at_box S6.box rfl, R.at_box S6.box rfl, R.at_box S6.box rfl, R.at_box S6.box rfl, R.at_box S6.box rfl, R.at_box S6.box rfl, R.at_box S6.box rfl, R.at_box S6.box rfl, R.at_box S6.box rfl, R.at_box S6.box rfl, R.at_box S6.box rfl⟩) (fun hH6 => ?_)
                      clear hK K
                      try simp only [Act.put, List.setIfInBounds_toArray, List.set_cons_zero, List.set_cons_succ]
                      refine wpAnyH_ready (rs := [14]) (by kernel_rfl) (by simp) ?_
                      refine AllReadyH.cons rfl (fun K hK => ?_) ?_
                      · refine R.step_rows (by rfl) (.tmp 43) (.tmp 46) (by rfl) (wr.heap.size + 1) v5 (QL ++ [[60, 62]]) (by rfl) S6.own v6 (by rfl) B6 QR ow6 ?p1_319 ?p2_319 ?p3_319 ?p4_319
                        case p1_319 => (have := HLq.out; simp; omega)
                        case p2_319 => (have := HLr.out; omega)
                        case p3_319 => (have := S6.lt; omega)
                        intro v7 W7 own7 gr7
                        rw [HWs4.out] at own7
                        have S7 := S6.rows own7 gr7
                        refine hK.out _ _ (⟨R.at_box S7.box rfl, R.at_box S7.box rfl, R.at_box S7.box rfl, R.at_box S7.box rfl, R.at_box S7.box rfl, R.at_box S7.box rfl, R.at_box S7.box rfl, R.at_box S7.box rfl, R.at_box S7.box rfl, R.at_box S7.box rfl, R.at_box S7.box rfl, R.at_box S7.box rfl, R.at_box S7.box rfl⟩) (fun hH7 => ?_)
                        clear hK K
                        rw [R.put_at (d := 47) (h := ?hq_320)]
                        case hq_320 => rfl
                        try simp only [Act.put, List.setIfInBounds_toArray, List.set_cons_zero, List.set_cons_succ]
                        refine wpAnyH_take (i := 15) (v := v7) rfl (by kernel_rfl) (by kernel_rfl) (by kernel_rfl) (fun _ _ _ h => h) (Or.inl ⟨by rfl, ?hy_321⟩) (by assumption) ?rest_321
                        case hy_321 => (intro w hSw; (try dsimp only at hSw); go_simp; try (with_reducible rfl))
                        rw [R.put_at (d := 8) (h := ?hr_321)]
                        case hr_321 => rfl
                        try simp only [Act.put, List.setIfInBounds_toArray, List.set_cons_zero, List.set_cons_succ]
                        refine wpAnyH_done (by kernel_rfl) ?_ _
                        have HS9 : Hid (R.St wr W7 (.cells #[.int .i64 2, .string pn, .slice so ps.length sc, .int .i64 3, .bool lst, .bool lfi, .slice lbo lbe.length lbc, .slice lso lsr.length lsc, .slice lao laf.length lac, .int .i64 lcu, .bool rst, .bool rfi, .slice rbo rbe.length rbc, .slice rso rsr.length rsc, .slice rao raf.length rac, .int .i64 rcu] 45) v7 ws) := S7
                        clear S4 S5 S6 S7 ow6 own5 gr5 own7 gr7 kc4 hHeld hH4 hH5 hH6 hH7
                        go_wp2_with fail
                        go_meet
                        case rel => exact ⟨HS9.out.own.wds, HS9.out.bel⟩
                      · exact AllReadyH.nil
                    · exact AllReadyH.nil
                  refine AllReadyH.cons rfl (fun K hK => ?_) ?_
                  · skip
                    go_simp
                    refine hK.out _ _ (HKa.out _ _ hHl) (fun hHc => ?_)
                    clear hK K
                    try simp only [Act.put, List.setIfInBounds_toArray, List.set_cons_zero, List.set_cons_succ]
                    refine wpAnyH_ready (rs := [2]) (by kernel_rfl) (by simp) ?_
                    refine AllReadyH.cons rfl (fun K hK => ?_) AllReadyH.nil
                    go_simp
                    go_at_call 14; refine (HLc.out _ (z2.out _ _)).mono ?_; rintro e W4 ⟨v4, rfl, S4, kc4⟩
                    try go_wp2_with fail
                    refine hK.out _ _ (⟨R.at_box S4.box rfl, R.at_box S4.box rfl, R.at_box S4.box rfl, R.at_box S4.box rfl, R.at_box S4.box rfl, R.at_box S4.box rfl, R.at_box S4.box rfl, R.at_box S4.box rfl, R.at_box S4.box rfl, R.at_box S4.box rfl, R.at_box S4.box rfl, R.at_box S4.box rfl, R.at_box S4.box rfl⟩) (fun hH4 => ?_)
                    clear hK K
                    try simp only [Act.put, List.setIfInBounds_toArray, List.set_cons_zero, List.set_cons_succ]
                    refine wpAnyH_ready (rs := [10]) (by kernel_rfl) (by simp) ?_
                    refine AllReadyH.cons rfl (fun K hK => ?_) AllReadyH.nil
                    refine R.step_one (by rfl) (.tmp 35) (.tmp 42) (by rfl) (wr.heap.size + 1) v4 QL (by rfl) ?o1_322 _ (by rfl) [60, 62] ?o2_322 ?o3_322 ?o4_322 ?o5_322
                    case o1_322 => exact S4.own
                    case o2_322 => exact (kc4 (w3.heap.size + 1) 0 (by simp)).trans (R.new_cell2 w3.drew _ _ _)
                    case o3_322 => (have := HLq.out; omega)
                    case o4_322 => (have := S4.lt; first | omega | (simp; omega))
                    intro v5 W5 own5 gr5
                    have S5 : R.St wr W5 (.cells #[.int .i64 2, .string pn, .slice so ps.length sc, .int .i64 3, .bool lst, .bool lfi, .slice lbo lbe.length lbc, .slice lso lsr.length lsc, .slice lao laf.length lac, .int .i64 lcu, .bool rst, .bool rfi, .slice rbo rbe.length rbc, .slice rso rsr.length rsc, .slice rao raf.length rac, .int .i64 rcu] 45) v5 (QL ++ [[60, 62]]) := (S4).rows own5 gr5
                    refine hK.out _ _ (⟨R.at_box S5.box rfl, R.at_box S5.box rfl, R.at_box S5.box rfl, R.at_box S5.box rfl, R.at_box S5.box rfl, R.at_box S5.box rfl, R.at_box S5.box rfl, R.at_box S5.box rfl, R.at_box S5.box rfl, R.at_box S5.box rfl, R.at_box S5.box rfl, R.at_box S5.box rfl, R.at_box S5.box rfl⟩) (fun hH5 => ?_)
                    clear hK K
                    try simp only [Act.put, List.setIfInBounds_toArray, List.set_cons_zero, List.set_cons_succ]
                    refine wpAnyH_ready (rs := [13]) (by kernel_rfl) (by simp) ?_
                    refine AllReadyH.cons rfl (fun K hK => ?_) ?_
                    · go_simp
                      go_at_call 14; refine (HRc.out W5 v5 _ S5).mono ?_; rintro e W6 ⟨v6, B6, rfl, ow6, S6⟩
                      try go_wp2_with fail
                      refine hK.out _ _ (⟨R.at_box S6.box rfl, R.at_box S6.box rfl, R.at_box S6.box rfl, R.at_box S6.box rfl, R.at_box S6.box rfl, R.at_box S6.box rfl, R.at_box S6.box rfl, R.at_box S6.box rfl, R.at_box S6.box rfl, R.at_box S6.box rfl, R.at_box S6.box rfl, R.at_box S6.box rfl, R.at_box S6.box rfl⟩) (fun hH6 => ?_)
                      clear hK K
                      try simp only [Act.put, List.setIfInBounds_toArray, List.set_cons_zero, List.set_cons_succ]
                      refine wpAnyH_ready (rs := [14]) (by kernel_rfl) (by simp) ?_
                      refine AllReadyH.cons rfl (fun K hK => ?_) ?_
                      · refine R.step_rows (by rfl) (.tmp 43) (.tmp 46) (by rfl) (wr.heap.size + 1) v5 (QL ++ [[60, 62]]) (by rfl) S6.own v6 (by rfl) B6 QR ow6 ?p1_323 ?p2_323 ?p3_323 ?p4_323
                        case p1_323 => (have := HLq.out; simp; omega)
                        case p2_323 => (have := HLr.out; omega)
                        case p3_323 => (have := S6.lt; omega)
                        intro v7 W7 own7 gr7
                        rw [HWs4.out] at own7
                        have S7 := S6.rows own7 gr7
                        refine hK.out _ _ (⟨R.at_box S7.box rfl, R.at_box S7.box rfl, R.at_box S7.box rfl, R.at_box S7.box rfl, R.at_box S7.box rfl, R.at_box S7.box rfl, R.at_box S7.box rfl, R.at_box S7.box rfl, R.at_box S7.box rfl, R.at_box S7.box rfl, R.at_box S7.box rfl, R.at_box S7.box rfl, R.at_box S7.box rfl⟩) (fun hH7 => ?_)
                        clear hK K
                        rw [R.put_at (d := 47) (h := ?hq_324)]
                        case hq_324 => rfl
                        try simp only [Act.put, List.setIfInBounds_toArray, List.set_cons_zero, List.set_cons_succ]
                        refine wpAnyH_take (i := 15) (v := v7) rfl (by kernel_rfl) (by kernel_rfl) (by kernel_rfl) (fun _ _ _ h => h) (Or.inl ⟨by rfl, ?hy_325⟩) (by assumption) ?rest_325
                        case hy_325 => (intro w hSw; (try dsimp only at hSw); go_simp; try (with_reducible rfl))
                        rw [R.put_at (d := 8) (h := ?hr_325)]
                        case hr_325 => rfl
                        try simp only [Act.put, List.setIfInBounds_toArray, List.set_cons_zero, List.set_cons_succ]
                        refine wpAnyH_done (by kernel_rfl) ?_ _
                        have HS9 : Hid (R.St wr W7 (.cells #[.int .i64 2, .string pn, .slice so ps.length sc, .int .i64 3, .bool lst, .bool lfi, .slice lbo lbe.length lbc, .slice lso lsr.length lsc, .slice lao laf.length lac, .int .i64 lcu, .bool rst, .bool rfi, .slice rbo rbe.length rbc, .slice rso rsr.length rsc, .slice rao raf.length rac, .int .i64 rcu] 45) v7 ws) := S7
                        clear S4 S5 S6 S7 ow6 own5 gr5 own7 gr7 kc4 hHeld hH4 hH5 hH6 hH7
                        go_wp2_with fail
                        go_meet
                        case rel => exact ⟨HS9.out.own.wds, HS9.out.bel⟩
                      · exact AllReadyH.nil
                    · exact AllReadyH.nil
                  exact AllReadyH.nil
                exact AllReadyH.nil
              exact AllReadyH.nil
        case rest =>
          obtain ⟨HWd, HBc⟩ := hcut
          obtain ⟨sa, scp, hv, hcel⟩ := HWd.out
          subst hv
          have HCel : Hid (ws ≠ [] → ∃ g, sa = some ⟨g, 0, none⟩ ∧ ∀ j m, ws[j]? = some m → wc.cell? ⟨g, j, none⟩ = some (R.str m)) := hcel
          have hwl : ws.length ≤ 100980400 := by
            have h := HLk.out
            have h2 := R.tell_len ws
            omega
          clear hcel
          go_wp2
          go_loop [5, 66] (fun vt vi => ∃ (j : Nat) (tz : ByteArray), j ≤ ws.length ∧ vi = .int .i64 j ∧ vt = .string tz ∧ Hid (tz = ⟨(R.printB (l.take k) ++ R.tell (ws.take j)).toArray⟩)) (fun _ vi => ws.length - (intOf vi).toNat)
          case atStart => exact ⟨0, ty, Nat.zero_le _, rfl, rfl, by show _ = _; rw [HTy.out]; simp [R.tell]⟩
          case round =>
            obtain ⟨j, tz, hj, rfl, rfl, HTz⟩ := hrel
            by_cases hjl : j < ws.length
            · obtain ⟨m, hm⟩ : ∃ x, ws[j]? = some x := ⟨ws[j], by simp [hjl]⟩
              obtain ⟨g, rfl, hg⟩ := HCel.out (by intro h; subst h; simp at hjl)
              have hc := hg j m hm
              have htk : R.tell (ws.take (j + 1)) = R.tell (ws.take j) ++ (m ++ [32]) := by rw [List.take_add_one, hm]; simp [R.tell]
              have hbd : (R.tell (ws.take (j + 1))).length ≤ (R.tell ws).length := by
                have h := congrArg List.length (congrArg R.tell (List.take_append_drop (j + 1) ws))
                rw [R.tell_app, List.length_append] at h
                omega
              have hsz : tz.size = (R.printB (l.take k)).length + (R.tell (ws.take j)).length := by rw [HTz.out, str_size, List.length_append]
              have HTn : Hid ((tz ++ ⟨m.toArray⟩) ++ ⟨#[32]⟩ = (⟨(R.printB (l.take k) ++ R.tell (ws.take (j + 1))).toArray⟩ : ByteArray)) := by
                show _ = _
                rw [htk, HTz.out]
                refine (R.app3 _ m [32]).trans ?_
                rw [List.append_assoc]
              have hml : (⟨m.toArray⟩ : ByteArray).size = m.length := str_size m
              unfold R.str at hc
              generalize (⟨m.toArray⟩ : ByteArray) = xm at hc HTn hml
              have g1 : ¬ 9223372036854775807 < tz.size + xm.size := by rw [htk] at hbd; simp only [List.length_append, List.length_cons, List.length_nil] at hbd; have := HLk.out; omega
              have g2 : ¬ 9223372036854775807 < tz.size + xm.size + 1 := by rw [htk] at hbd; simp only [List.length_append, List.length_cons, List.length_nil] at hbd; have := HLk.out; omega
              clear hbd hsz htk hm hml hg
              go_wp2
              go_round
              case rel => exact ⟨j + 1, _, by omega, by go_num, rfl, HTn⟩
              case measure => simp [intOf]; omega
            · have htw : tz = ⟨(R.printB (l.take k) ++ R.tell ws).toArray⟩ := by rw [HTz.out, List.take_of_length_le (l := ws) (i := j) (by omega)]
              have hsz : tz.size = (R.printB (l.take k)).length + (R.tell ws).length := by rw [htw, str_size, List.length_append]
              have g1 : ¬ 9223372036854775807 < tz.size + 2 := by have := HLk.out; omega
              have HTn : Hid (tz ++ ⟨#[59, 10]⟩ = (⟨(R.printB (l.take (k + 1))).toArray⟩ : ByteArray)) := by
                show _ = _
                rw [HTk.out, htw, show (⟨#[59, 10]⟩ : ByteArray) = ⟨[59, 10].toArray⟩ from rfl, str_app]
              clear htw hsz
              go_wp2
              go_roundw
              case rel => exact ⟨k + 1, _, by omega, by go_num, rfl, HTn, HB.out.trans (HBc.out.mono HB.out.size)⟩
              case measure => simp [intOf]; omega
      · have hke : k = l.length := by omega
        have htx : ty = tx := by rw [HTy.out, ← HTx2.out, hke, List.take_length]
        subst htx
        have hx5 : wr.heap[w.heap.size]? = some (.cells #[.int .i64 0, .int .i64 0] 25) := by
          rw [HB.out.block _ (Array.getElem?_eq_some_iff.1 HX1.out).1]; exact HX1.out
        obtain ⟨x0, x1, f0, f1⟩ := R.box2 hx5
        clear hx5
        go_wp2
        refine bodyPost_ret (v := .tuple #[.string ty, .agg #[.int .i64 0, .int .i64 0]]) (by simp [results, Tryd.results5, go_sem, *]) rfl ?_
        exact ⟨rfl, (HBw.out.setCell (p := ⟨w.heap.size, 0, none⟩) (Nat.le_refl _) _).setCell (p := ⟨w.heap.size, 1, none⟩) (Nat.le_refl _) _⟩
  · have HTx2 : Hid ((⟨#[]⟩ : ByteArray) = tx) := by
      show _ = _
      rw [← HTx.out, if_neg hz]
    obtain ⟨x0, x1, f0, f1⟩ := R.box2 HX1.out
    have n1 : ¬ w1.heap.size = w.heap.size := by omega
    have HB2 : Hid (∀ o, Below w.heap.size w (w1.alloc o)) := fun o => HB1.out.alloc HB1.out.size o
    go_wp2
    go_region
    go_wp2
    refine bodyPost_ret (v := .tuple #[.string ⟨#[]⟩, .agg #[.int .i64 z1, .int .i64 z2]]) (by simp [results, Tryd.results5, go_sem, *]) rfl ?_
    refine ⟨by rw [HTx2.out], ?_⟩
    exact ((((HB1.out.setCell (p := ⟨w.heap.size, 0, none⟩) (Nat.le_refl _) _).setCell (p := ⟨w.heap.size, 1, none⟩) (Nat.le_refl _) _).alloc (by have := HB1.out.size; simp; omega) _)).drew

end Go.Proofs.YtafkfnkcabahnaaDoor
