/-
  What rulesyn.Print answers of any parts.
-/
import Derived.Test.YtchkcjaahjhbcabGreatDoorRTell3
import Derived.RegionTactic
import Derived.Test.YtchkcjaahjhbcabGreatDoorSWrong
import Derived.Test.YtchkcjaahjhbcabGreatDoorSLib
import Derived.Test.YtchkcjaahjhbcabGreatDoorRMath
import Derived.Test.YtchkcjaahjhbcabGreatDoorRBareQ
import Derived.Defers
import Derived.Recover
namespace Go.Proofs.YtchkcjaahjhbcabGreatDoor
open Go.RowKit
set_option maxRecDepth 20000
set_option linter.unusedSimpArgs false
set_option linter.unusedVariables false

/-- what Print answers -/
def R.printV (l : List R.Part) : Value := .tuple #[.string ⟨(if (R.wrong l).1 = 0 then R.printB l else []).toArray⟩, .agg #[.int .i64 (R.wrong l).1, .int .i64 (R.wrong l).2]]

theorem printB_take {l : List R.Part} {k : Nat} {p : R.Part} (hp : l[k]? = some p) : R.printB (l.take (k + 1)) = R.printB (l.take k) ++ R.wordsB p ++ [59, 10] := by
  rw [List.take_add_one, hp]
  simp [R.printB, R.partB]

set_option maxHeartbeats 8000000 in
theorem Print_any (w : World) (v : Value) (l : List R.Part) (R0 : R.Pts w v l) (hT : T.Tz w) :
    Calls Tryz.prog 5 #[v] w fun e w' => e = .returned (R.printV l) ∧ Below w.heap.size w w' := by
  have hmf : ∀ (fn : Fn) (first cap : Array Value) (w : World), (Instr.makeFunc fn first cap).run Tryz.prog w = .ok (.func fn first cap) w := fun _ _ _ _ => rfl
  have HR : Hid (R.Pts w v l) := R0
  have HTz : Hid (T.Tz w) := hT
  obtain ⟨ao, cap, rfl⟩ := R0.len
  have HA : Hid (∀ o, Below w.heap.size w (w.alloc o)) := fun o => (Below.refl _ w).alloc (Nat.le_refl _) o
  have HW : Hid (∀ w1, Below w.heap.size w w1 → Calls Tryz.prog 12 #[.slice ao l.length cap] w1 fun e w' => e = .returned (.agg #[.int .i64 (R.wrong l).1, .int .i64 (R.wrong l).2]) ∧ Below w1.heap.size w1 w') := fun w1 hb => Wrong_any w1 _ l (R0.below hb)
  clear R0 hT
  unfold R.printV
  obtain ⟨⟨z1, z2⟩, HZ⟩ : ∃ z, Hid (R.wrong l = z) := ⟨_, rfl⟩
  rw [HZ.out] at HW ⊢
  simp only at HW ⊢
  obtain ⟨tx, HTx⟩ : ∃ x, Hid ((⟨(if z1 = 0 then R.printB l else []).toArray⟩ : ByteArray) = x) := ⟨_, rfl⟩
  rw [HTx.out]
  go_enter Tryz.func5, Tryz.ntmps5
  go_wp2_with fail
  refine (HW.out _ (HA.out _)).mono ?_
  rintro e w1 ⟨rfl, b1⟩
  obtain ⟨hb1, B1, hl1⟩ := R.box_kept b1
  have HB1 : Hid (Below w.heap.size w w1) := B1
  have HX1 : Hid (w1.heap[w.heap.size]? = some (.cells #[.int .i64 0, .int .i64 0] 26)) := hb1
  clear b1 B1 hb1
  by_cases hz : z1 = 0
  · subst hz
    have hwz := R.wrong_zero (l := l) (by rw [HZ.out])
    have hz2 : z2 = 0 := by
      have := hwz.2.2
      rw [HZ.out] at this
      cases this; rfl
    subst hz2
    have hl200 := hwz.1
    have HOk : Hid (∀ p ∈ l, R.partE p = 0) := hwz.2.1
    clear hwz
    have HTx2 : Hid ((⟨(R.printB l).toArray⟩ : ByteArray) = tx) := by
      show _ = _
      rw [← HTx.out, if_pos rfl]
    have HPl : Hid (∀ k, (R.printB (l.take k)).length ≤ 504902 * 200) := fun k => by
      have h := printB_len (l := l.take k) fun p hp => HOk.out p (List.mem_of_mem_take hp)
      rw [List.length_take] at h
      omega
    have bX := (Below.refl _ w1).alloc (Nat.le_refl _) (.cells #[.int .i64 0, .int .i64 0] 26)
    have HN : Hid (T.Bd (w1.alloc (.cells #[.int .i64 0, .int .i64 0] 26)).heap.size (w1.alloc (.cells #[.int .i64 0, .int .i64 0] 26)).heap.size [] ((w1.alloc (.cells #[.int .i64 0, .int .i64 0] 26)).alloc (.cells #[.pointer none, .slice none 0 0] 59))) := bd_new _
    have bY := (Below.refl _ (w1.alloc (.cells #[.int .i64 0, .int .i64 0] 26))).alloc (Nat.le_refl _) (.cells #[.pointer none, .slice none 0 0] 59)
    have HBX : Hid (Below w1.heap.size w1 (w1.alloc (.cells #[.int .i64 0, .int .i64 0] 26))) := bX
    have HBY : Hid (Below (w1.alloc (.cells #[.int .i64 0, .int .i64 0] 26)).heap.size (w1.alloc (.cells #[.int .i64 0, .int .i64 0] 26)) ((w1.alloc (.cells #[.int .i64 0, .int .i64 0] 26)).alloc (.cells #[.pointer none, .slice none 0 0] 59))) := bY
    have hsx : (w1.alloc (.cells #[.int .i64 0, .int .i64 0] 26)).heap.size = w1.heap.size + 1 := by simp
    rw [hsx] at HN HBY
    clear bX bY hsx
    go_wp2
    go_loopw [18] (fun i wr => ∃ k : Nat, k ≤ l.length ∧ i = .int .i64 k ∧ Hid (T.Bd (w1.heap.size + 1) (w1.heap.size + 1) (R.printB (l.take k)) wr) ∧ Hid (Below (w1.heap.size + 1) (w1.alloc (.cells #[.int .i64 0, .int .i64 0] 26)) wr)) (fun i _ => l.length - (intOf i).toNat)
    case atStart => exact ⟨0, Nat.zero_le _, rfl, HN, HBY⟩
    case round =>
      obtain ⟨k, hk, rfl, HD, HB⟩ := hrel
      have HEn : Hid (R.Env w (w1.heap.size + 1) wr) := ⟨HTz.out, by have := HB1.out.size; omega, HB1.out.trans ((HBX.out.trans (HB.out.mono (by omega))).mono HB1.out.size), HD.out.2⟩
      have HXr : Hid (wr.heap[w.heap.size]? = some (.cells #[.int .i64 0, .int .i64 0] 26)) := by
        have h := (HBX.out.trans (HB.out.mono (by omega))).block w.heap.size (Array.getElem?_eq_some_iff.1 HX1.out).1
        show _ = _
        rw [h]; exact HX1.out
      by_cases hlt : k < l.length
      · obtain ⟨p, hp⟩ : ∃ x, l[k]? = some x := ⟨l[k], by simp [hlt]⟩
        obtain ⟨ao', cap', e', hcs⟩ := HR.out
        cases e'
        obtain ⟨b, off, rfl, hcell⟩ := hcs (by intro h; subst h; simp at hlt)
        obtain ⟨so, sc, lbo, lbc, lso, lsc, lao, lac, rbo, rbc, rso, rsc, rao, rac, c0, c1, c2, c3, c4, c5, c6, c7, c8, c9, c10, c11, c12, c13, c14, c15, hP⟩ := hcell k p hp
        have kk := R.Keeps.of_below HEn.out.bel (Nat.le_refl _)
        replace c0 := kk _ _ _ c0
        replace c1 := kk _ _ _ c1
        replace c2 := kk _ _ _ c2
        replace c3 := kk _ _ _ c3
        replace c4 := kk _ _ _ c4
        replace c5 := kk _ _ _ c5
        replace c6 := kk _ _ _ c6
        replace c7 := kk _ _ _ c7
        replace c8 := kk _ _ _ c8
        replace c9 := kk _ _ _ c9
        replace c10 := kk _ _ _ c10
        replace c11 := kk _ _ _ c11
        replace c12 := kk _ _ _ c12
        replace c13 := kk _ _ _ c13
        replace c14 := kk _ _ _ c14
        replace c15 := kk _ _ _ c15
        have HTk : Hid (R.printB (l.take (k + 1)) = R.printB (l.take k) ++ R.wordsB p ++ [59, 10]) := printB_take hp
        have hlk := HPl.out (k + 1)
        have HTell : Hid (∀ w1' t, R.Env w (w1.heap.size + 1) w1' → T.Bd (w1.heap.size + 1) (w1.heap.size + 1) t w1' → t.length + (R.wordsB p).length ≤ 1000000000 → Calls Tryz.prog 16 #[.agg #[.int .i64 p.kind, .string p.name, .slice so p.set.length sc, .int .i64 p.dir, .bool p.left.start, .bool p.left.fin, .slice lbo p.left.before.length lbc, .slice lso p.left.source.length lsc, .slice lao p.left.after.length lac, .int .i64 p.left.cursor, .bool p.right.start, .bool p.right.fin, .slice rbo p.right.before.length rbc, .slice rso p.right.source.length rsc, .slice rao p.right.after.length rac, .int .i64 p.right.cursor], .func (.func 13) #[] #[.pointer (some ⟨w1.heap.size + 1, 0, none⟩)]] w1' (R.Told (w1.heap.size + 1) (w1.heap.size + 1) (t ++ R.wordsB p) w1')) := fun w1' t e1 b1 h1 => tellPart_any w _ _ w1' _ p t e1 hP (HOk.out p (List.mem_of_getElem? hp)) b1 h1
        obtain ⟨wb, HWB⟩ : ∃ x, Hid (R.wordsB p = x) := ⟨_, rfl⟩
        rw [HWB.out] at HTk HTell
        have HLk : Hid ((R.printB (l.take k)).length + wb.length + 2 ≤ 100980400) := by
          rw [HTk.out] at hlk
          simp only [List.length_append, List.length_cons, List.length_nil] at hlk
          show _ ≤ _
          omega
        clear hp hcell hcs hP kk hlk
        obtain ⟨pk, pn, ps, pd, ⟨lst, lfi, lbe, lsr, laf, lcu⟩, ⟨rst, rfi, rbe, rsr, raf, rcu⟩⟩ := p
        simp only at c0 c1 c2 c3 c4 c5 c6 c7 c8 c9 c10 c11 c12 c13 c14 c15 HTell
        have HAr : Hid (∀ o, Below wr.heap.size wr (wr.alloc o)) := fun o => (Below.refl _ wr).alloc (Nat.le_refl _) o
        go_wp2_with fail
        refine (HTell.out _ _ (HEn.out.after (HAr.out _)) (HD.out.below (HAr.out _)) (by have := HLk.out; omega)).mono ?_
        rintro e w2 ⟨rfl, d2, b2, k2⟩
        have HB2 : Hid (Below (w1.heap.size + 1) wr w2) := ((HAr.out _).mono HEn.out.now).trans b2
        have HD2 : Hid (T.Bd (w1.heap.size + 1) (w1.heap.size + 1) (R.printB (l.take k) ++ wb) w2) := d2
        clear d2 b2 k2
        go_wp2_with fail
        refine (bd_string _ _ _ [59, 10] w2 HD2.out (by have := HLk.out; simp only [List.length_append, List.length_cons, List.length_nil]; omega)).mono ?_
        rintro e w3 ⟨⟨v3, rfl⟩, d3, b3, k3⟩
        have HB3 : Hid (Below (w1.heap.size + 1) wr w3) := HB2.out.trans b3
        have HD3 : Hid (T.Bd (w1.heap.size + 1) (w1.heap.size + 1) (R.printB (l.take (k + 1))) w3) := by
          show T.Bd _ _ _ w3
          rw [HTk.out]; exact d3
        clear d3 b3 k3
        go_wp2
        go_roundw
        case rel => exact ⟨k + 1, by omega, by go_num, HD3, HB.out.trans HB3.out⟩
        case measure => simp [intOf]; omega
      · have hke : k = l.length := by omega
        have hd := HD.out
        rw [hke, List.take_length] at hd
        have HD' : Hid (T.Bd (w1.heap.size + 1) (w1.heap.size + 1) (R.printB l) wr) := hd
        clear hd
        go_wp2_with fail
        refine (bd_text _ _ _ wr HD'.out).mono ?_
        rintro e w5 ⟨rfl, b5⟩
        have HB5 : Hid (Below w.heap.size w w5) := HEn.out.bel.trans (b5.mono HEn.out.le)
        have hx5 : w5.heap[w.heap.size]? = some (.cells #[.int .i64 0, .int .i64 0] 26) := by
          rw [b5.block _ (by have := (Array.getElem?_eq_some_iff.1 HX1.out).1; omega)]; exact HXr.out
        obtain ⟨x0, x1, f0, f1⟩ := R.box2 hx5
        clear hx5 b5
        rw [HTx2.out]
        go_wp2
        refine bodyPost_ret (v := .tuple #[.string tx, .agg #[.int .i64 0, .int .i64 0]]) (by simp [results, Tryz.results5, go_sem, *]) rfl ?_
        exact ⟨rfl, (HB5.out.setCell (p := ⟨w.heap.size, 0, none⟩) (Nat.le_refl _) _).setCell (p := ⟨w.heap.size, 1, none⟩) (Nat.le_refl _) _⟩
  · have HTx2 : Hid ((⟨#[]⟩ : ByteArray) = tx) := by
      show _ = _
      rw [← HTx.out, if_neg hz]
    obtain ⟨x0, x1, f0, f1⟩ := R.box2 HX1.out
    have n1 : ¬ w1.heap.size = w.heap.size := by omega
    have HB2 : Hid (∀ o, Below w.heap.size w (w1.alloc o)) := fun o => HB1.out.alloc HB1.out.size o
    go_wp2
    go_region
    go_wp2
    refine bodyPost_ret (v := .tuple #[.string ⟨#[]⟩, .agg #[.int .i64 z1, .int .i64 z2]]) (by simp [results, Tryz.results5, go_sem, *]) rfl ?_
    refine ⟨by rw [HTx2.out], ?_⟩
    exact ((((HB1.out.setCell (p := ⟨w.heap.size, 0, none⟩) (Nat.le_refl _) _).setCell (p := ⟨w.heap.size, 1, none⟩) (Nat.le_refl _) _).alloc (by have := HB1.out.size; simp; omega) _)).drew

end Go.Proofs.YtchkcjaahjhbcabGreatDoor

/-
  Files of rules: the bytes of what is written are the bytes of its runes, which are all right.
-/
namespace Go.Proofs.YtchkcjaahjhbcabGreatDoor.R
open S (Sp)
open T (Out see skipW cut)

def BR (l : List Int) (b : List UInt8) : Prop := T.bytesR l = b ∧ T.rightL l
theorem BR.nil : BR [] [] := ⟨rfl, fun r hr => by cases hr⟩
theorem BR.app {l m : List Int} {b c : List UInt8} (h : BR l b) (h' : BR m c) : BR (l ++ m) (b ++ c) := ⟨by rw [T.bytesR_append, h.1, h'.1], T.rightL_app h.2 h'.2⟩
theorem BR.ite {p : Prop} [Decidable p] {l m : List Int} {b c : List UInt8} (h : BR l b) (h' : BR m c) : BR (if p then l else m) (if p then b else c) := by
  by_cases hp : p
  · rw [if_pos hp, if_pos hp]; exact h
  · rw [if_neg hp, if_neg hp]; exact h'
theorem wordy_right {r : Int} (h : wordy r = true) : 0 ≤ r ∧ r < 128 := by
  unfold wordy letter digit at h
  simp only [Bool.or_eq_true, Bool.and_eq_true, decide_eq_true_eq] at h
  omega
theorem BR.bytes {m : List UInt8} (h : ∀ b ∈ m, b.toNat < 128) : BR (m.map fun b => (b.toNat : Int)) m := by
  induction m with
  | nil => exact BR.nil
  | cons b m ih =>
    have hb := h b List.mem_cons_self
    have i := ih fun c hc => h c (List.mem_cons_of_mem _ hc)
    refine ⟨?_, fun r hr => ?_⟩
    · rw [List.map_cons, T.bytesR_cons, i.1, T.enc_ascii hb]; rfl
    · rcases List.mem_cons.1 hr with rfl | hr
      · unfold M.right; simp; omega
      · exact i.2 r hr
theorem BR.name {n : ByteArray} (h : ∀ r ∈ nameR n, wordy r = true) : BR (nameR n) n.data.toList := by
  refine BR.bytes fun b hb => ?_
  have := wordy_right (h (b.toNat : Int) (List.mem_map_of_mem hb))
  omega
theorem BR.set {s : List Sp} (h : S.wrongE s = 0) : BR (T.prtR s) (setB s) := by
  unfold setB
  rw [if_pos h]
  exact T.prt_bytes s
theorem BR.c36 {l : List Int} {b : List UInt8} (h : BR l b) : BR (36 :: l) (36 :: b) := BR.app (l := [36]) (b := [36]) ⟨by decide, by unfold T.rightL; decide⟩ h
theorem BR.item {x : Item} (h : itemE x = 0) : BR (itemR x) (itemB x) := by
  unfold itemR itemB
  rcases itemE_cases h with ⟨hk, _⟩ | ⟨hk, hw⟩ | ⟨hk, hn⟩
  · rw [if_neg (by omega), if_neg (by omega), if_neg (by omega), if_neg (by omega)]
    exact T.quo_bytes _
  · rw [if_pos hk, if_pos hk]; exact BR.set hw
  · rw [if_neg (by omega), if_pos hk, if_neg (by omega), if_pos hk]
    exact BR.c36 (BR.name (named_runes hn).1)
theorem BR.bar : BR barR bar := ⟨by decide, by unfold T.rightL; decide⟩
theorem BR.sp : BR [32] [32] := ⟨by decide, by unfold T.rightL; decide⟩
theorem BR.items : ∀ {xs : List Item} (c : Int), (∀ x ∈ xs, itemE x = 0) → BR (itemsR xs c) (itemsB xs c) := by
  intro xs
  induction xs with
  | nil => intro c _; exact BR.ite BR.bar BR.nil
  | cons x xs ih =>
    intro c h
    exact ((BR.ite BR.bar BR.nil).app ((BR.item (h x List.mem_cons_self)).app BR.sp)).app (ih _ fun y hy => h y (List.mem_cons_of_mem _ hy))
theorem BR.two {a b : Int} {x y : UInt8} (h : BR [a, b] [x, y]) {p : Prop} [Decidable p] : BR (if p then [a, b] else []) (if p then [x, y] else []) := BR.ite h BR.nil
theorem BR.side {s : Side} {m : Bool} (h : sideE s m = 0) : BR (sideR s) (sideB s) := by
  obtain ⟨z1, z2, z3, _, _⟩ := sideE_zero h
  obtain ⟨_, a1⟩ := itemsE_zero.1 z1
  obtain ⟨_, a2⟩ := itemsE_zero.1 z2
  obtain ⟨_, a3⟩ := itemsE_zero.1 z3
  have k1 : BR [94, 32] [94, 32] := ⟨by decide, by unfold T.rightL; decide⟩
  have k2 : BR [123, 32] [123, 32] := ⟨by decide, by unfold T.rightL; decide⟩
  have k3 : BR [125, 32] [125, 32] := ⟨by decide, by unfold T.rightL; decide⟩
  have k4 : BR [36, 32] [36, 32] := ⟨by decide, by unfold T.rightL; decide⟩
  exact ((((((BR.ite k1 BR.nil).app (BR.items _ a1)).app (BR.ite k2 BR.nil)).app (BR.items _ a2)).app (BR.ite k3 BR.nil)).app (BR.items _ a3)).app (BR.ite k4 BR.nil)
theorem BR.arrow (d : Int) : BR (arrowR d) (arrowB d) :=
  BR.ite ⟨by decide, by unfold T.rightL; decide⟩ (BR.ite ⟨by decide, by unfold T.rightL; decide⟩ ⟨by decide, by unfold T.rightL; decide⟩)
theorem BR.words {p : Part} (h : partE p = 0) : BR (wordsR p) (wordsB p) := by
  have k1 : BR [61, 32] [61, 32] := ⟨by decide, by unfold T.rightL; decide⟩
  have k2 : BR [58, 58, 32] [58, 58, 32] := ⟨by decide, by unfold T.rightL; decide⟩
  unfold wordsR wordsB
  rcases partE_cases h with ⟨hk, hn, hw⟩ | ⟨hk, hw⟩ | ⟨hk, hp⟩ | ⟨hk, hr⟩
  · rw [if_pos hk, if_pos hk]
    exact (((BR.c36 (BR.name (named_runes hn).1)).app BR.sp).app k1).app ((BR.set hw).app BR.sp)
  · rw [if_neg (by omega), if_pos hk, if_neg (by omega), if_pos hk]
    exact k2.app ((BR.set hw).app BR.sp)
  · rw [if_neg (by omega), if_neg (by omega), if_pos hk, if_neg (by omega), if_neg (by omega), if_pos hk]
    exact k2.app ((BR.name (passes_named hp).1).app BR.sp)
  · rw [if_neg (by omega), if_neg (by omega), if_neg (by omega), if_pos hk, if_neg (by omega), if_neg (by omega), if_neg (by omega), if_pos hk]
    obtain ⟨_, hl, hr2, _⟩ := ruleE_zero hr
    exact ((BR.side hl).app ((BR.arrow _).app BR.sp)).app (BR.side hr2)
theorem BR.part {p : Part} (h : partE p = 0) : BR (partR p) (partB p) := (BR.words h).app ⟨by decide, by unfold T.rightL; decide⟩
theorem BR.print {l : List Part} (h : ∀ p ∈ l, partE p = 0) : BR (printR l) (printB l) := by
  induction l with
  | nil => exact BR.nil
  | cons p l ih =>
    unfold printR printB
    rw [List.flatMap_cons, List.flatMap_cons]
    exact (BR.part (h p List.mem_cons_self)).app (ih fun q hq => h q (List.mem_cons_of_mem _ hq))
/-- the runes of what is printed -/
theorem rn_print {l : List Part} (h : ∀ p ∈ l, partE p = 0) : M.rn ⟨(printB l).toArray⟩ = printR l := by
  have b := BR.print h
  rw [← b.1]
  exact T.rn_bytes b.2

end Go.Proofs.YtchkcjaahjhbcabGreatDoor.R

/-
  What runes.Decode does: of any text of at most 2^40 bytes it hands back a new slice of its runes, all of them right.
-/
namespace Go.Proofs.YtchkcjaahjhbcabGreatDoor
open Go.RowKit

set_option maxHeartbeats 400000 in
theorem decode_any (s : ByteArray) (w : World) (hs : s.size ≤ 1099511627776) :
    Calls Tryz.prog 19 #[.string s] w fun e w' => ∃ v, e = .returned v ∧ w'.ownsRow (w.heap.size + 1) 21 1 v (M.rn s).length ((M.rn s).map (Value.int .i32)) ∧ Below w.heap.size w w' := by
  obtain ⟨i0, hi, hz0, hz1, hz2⟩ := info_parts Tryz.infoI32
  go_enter Tryz.func19, Tryz.ntmps19
  go_wp2
  go_loopw [3] (fun v wr => ∃ (pos fuel : Nat) (acc : List Int), wr.heap[w.heap.size]? = some (.stringIter s pos) ∧ wr.ownsRow (w.heap.size + 1) 21 1 v acc.length (acc.map (Value.int .i32)) ∧ Below w.heap.size w wr ∧ Hid (acc ++ (M.steps s fuel pos).map (fun x => (x.2 : Int)) = M.rn s) ∧ s.size ≤ pos + fuel ∧ acc.length ≤ pos) (fun _ wr => s.size - wr.iterPos w.heap.size)
  case atStart => exact ⟨0, s.size, [], World.iter_heap w s 0, World.ownsRow_nil _ _ _ _, (Below.refl _ _).alloc (Nat.le_refl _) _, rfl, by omega, by simp⟩
  case round =>
    obtain ⟨pos, fuel, acc, hit, hown, hbw, HS, hb, hlen⟩ := hrel
    have hpos0 := iterPos_of hit
    by_cases hp : pos < s.size
    · have hnx : ∀ ty, (Instr.next (.pointer (some ⟨w.heap.size, 0, none⟩)) true ty).run Tryz.prog wr = _ := fun ty => Lib.run_next_any_at wr w.heap.size s pos ty hit hp
      have hwd := M.width_pos s pos hp
      obtain ⟨fuel, rfl⟩ : ∃ f', fuel = f' + 1 := ⟨fuel - 1, by omega⟩
      have hit2 := Lib.iterAt_heap wr w.heap.size s pos (pos + (Utf8.decode s pos).2) hit
      have hbw2 := Lib.below_iterAt hbw (k := w.heap.size) (Nat.le_refl _) s (pos + (Utf8.decode s pos).2)
      have hown2 := ownsRow_iterAt hown (k := w.heap.size) (by omega) s (pos + (Utf8.decode s pos).2)
      obtain ⟨W1, hW1⟩ : ∃ W1, W1 = wr.iterAt w.heap.size s (pos + (Utf8.decode s pos).2) := ⟨_, rfl⟩
      rw [← hW1] at hnx hit2 hbw2 hown2
      have hBlt := lt_of_block hit2
      clear hW1 hit hown hbw
      go_wp2_with (at_builtin; go_must (refine wpList_append_own _ rfl _ _ 52 rfl (w.heap.size + 1) 21 i0 (.int .i32 0) 1 4 Tryz.underlying52 hi hz0 hz1 hz2 rfl (by decide) _ _ _ rfl (hown2.alloc _) ⟨W1.heap.size, 0, none⟩ 1 1 [.int .i32 ((Utf8.decode s pos).1 : Int)] rfl rfl (cell_one_new _ _ _) (fun x hx => by simp at hx; subst hx; rfl) (by unfold maxLen; omega) (by omega) (by simp; omega) ?_; intro v' w3 hown' hgrow3 hnil3; have X := L.iter_push hit2 hbw2 hown2 hown' hgrow3; clear hown' hgrow3 hnil3))
      go_roundw
      case rel => exact ⟨_, fuel, acc ++ [((Utf8.decode s pos).1 : Int)], X.out.2.1, (by simpa using X.out.1), X.out.2.2, (by show _ = _; rw [← HS.out]; simp [M.steps, hp]), by omega, by simp; omega⟩
      case measure => rw [iterPos_of X.out.2.1, hpos0]; omega
    · have hnx : ∀ ty, (Instr.next (.pointer (some ⟨w.heap.size, 0, none⟩)) true ty).run Tryz.prog wr = _ := fun ty => Lib.run_next_end_at wr w.heap.size s pos ty hit hp
      go_wp2
      go_ret
      have e := HS.out
      rw [M.steps_end s fuel pos hp, List.map_nil, List.append_nil] at e
      subst e
      exact ⟨_, rfl, hown, hbw⟩


theorem ru_right : ∀ (L : List UInt8), ∀ x ∈ M.ru L, M.right (x.1 : Int) = true := by
  intro L
  induction L using M.ru_ind with
  | h0 => intro x hx; simp [M.ru_nil] at hx
  | h1 L hL ih =>
    intro x hx
    rw [M.ru_cons L hL] at hx
    rcases List.mem_cons.1 hx with rfl | h
    · exact M.d0_right L
    · exact ih x h
theorem rn_right (s : ByteArray) : ∀ z ∈ M.rn s, M.right z = true := by
  intro z hz
  rw [M.rn_ru] at hz
  obtain ⟨x, hx, rfl⟩ := List.mem_map.1 hz
  exact ru_right _ x hx

end Go.Proofs.YtchkcjaahjhbcabGreatDoor

/-
  What rulesyn.Read answers of any text.
-/
namespace Go.Proofs.YtchkcjaahjhbcabGreatDoor
open Go.RowKit
set_option maxRecDepth 20000

/-- what Read answers -/
def R.readE (o : T.Out (List R.Part)) (w : World) (e : Ending) (w' : World) : Prop :=
  match o with
  | .ok t _ => ∃ v, e = .returned (.tuple #[v, .agg #[.int .i64 0, .int .i64 0]]) ∧ R.RowP w.heap.size w' v t ∧ t.length ≤ 200 ∧ Below w.heap.size w w'
  | .bad er q => e = .returned (.tuple #[.slice none 0 0, .agg #[.int .i64 er, .int .i64 q]]) ∧ Below w.heap.size w w'

def R.faultV (er : Int) (q : Nat) : Value := .iface 26 (.agg #[.int .i64 er, .int .i64 q])

theorem rassert_hit (x : Value) (w : World) : (Instr.typeAssert (.iface 26 x) 20 26 true).run Tryz.prog w = .ok (.tuple #[x, .bool true]) w := by kernel_rfl
theorem rassert_nil (w : World) : (Instr.typeAssert .nilIface 20 26 true).run Tryz.prog w = .ok (.tuple #[.agg #[.int .i64 0, .int .i64 0], .bool false]) w := by kernel_rfl

set_option maxHeartbeats 4000000 in
theorem rcatch_thrown (bs bf : Nat) (er : Int) (q : Nat) (older : List PanicEntry) (w : World) (vs f1 f2 : Value) (hs : S.Bx w bs 22 vs) (hf : w.heap[bf]? = some (.cells #[f1, f2] 26)) (hne : bs ≠ bf) :
    CallsD Tryz.prog 18 #[.pointer (some ⟨bs, 0, none⟩), .pointer (some ⟨bf, 0, none⟩)] (.panicking ({ v := R.faultV er q, recovered := false } :: older)) w fun e u' w' =>
      e = .returned (.tuple #[]) ∧ u' = .panicking ({ v := R.faultV er q, recovered := true } :: older) ∧ S.Bx w' bs 22 (.slice none 0 0) ∧ w'.heap[bf]? = some (.cells #[.int .i64 er, .int .i64 q] 26) ∧ (∀ B, B ≤ bs → B ≤ bf → Below B w w') := by
  have hta : ∀ (x : Value) (w : World), (Instr.typeAssert (.iface 26 x) 20 26 true).run Tryz.prog w = .ok (.tuple #[x, .bool true]) w := fun x w => rassert_hit x w
  have hrep : Array.replicate 9 undef = #[undef, undef, undef, undef, undef, undef, undef, undef, undef] := rfl
  refine callsD_of_wpS Tryz.func18 rfl fun c₀ cs hu => ?_
  apply wpS_seq
  apply wpS_region
  simp [wpOpsS, go_sem, recoverD, hu, Tryz.ntmps18, Exit.thenS, R.faultV, hrep, hta]
  refine wpS_of_wp ?_
  have bW := (Below.refl _ w).alloc (Nat.le_refl _) (.cells #[.int .i64 er, .int .i64 q] 26)
  have hx := box_cells (heap_alloc_new w (.cells #[.int .i64 er, .int .i64 q] 26))
  have hs' : S.Bx _ bs 22 vs := hs.below bW hs.lt
  have hf' : (w.alloc (.cells #[.int .i64 er, .int .i64 q] 26)).heap[bf]? = some (.cells #[f1, f2] 26) := by rw [bW.block bf (Array.getElem?_eq_some_iff.1 hf).1]; exact hf
  have hl1 := hs.lt
  have hl2 := (Array.getElem?_eq_some_iff.1 hf).1
  have n1 : ¬ w.heap.size = bs := by omega
  have n2 : ¬ w.heap.size = bf := by omega
  have hsc := hs'.cell
  have hsf := hs'.free
  have hfc := box_cells hf'
  have HS : Hid (S.Bx _ bs 22 vs) := hs'
  have HF : Hid _ := hf'
  have HB : Hid (∀ B, B ≤ w.heap.size → Below B w (w.alloc (.cells #[.int .i64 er, .int .i64 q] 26))) := fun B hB => bW.mono hB
  obtain ⟨x0, x1, _, _⟩ := hx
  obtain ⟨z0, z1, z2, z3⟩ := hfc
  generalize w.alloc (.cells #[.int .i64 er, .int .i64 q] 26) = W at *
  clear hs' hf' hs hf bW
  go_wp2
  go_region
  have hA1 := HS.out.set (.slice none 0 0)
  have hF1 : (W.setCell ⟨bs, 0, none⟩ (.slice none 0 0)).heap[bf]? = some (.cells #[f1, f2] 26) := by rw [heap_setCell_other _ ⟨bs, 0, none⟩ bf _ (Ne.symm hne)]; exact HF.out
  have hF2 := two_set _ bf f1 f2 (.int .i64 er) (.int .i64 q) 26 hF1
  have hA2 : S.Bx (((W.setCell ⟨bs, 0, none⟩ (.slice none 0 0)).setCell ⟨bf, 0, none⟩ (.int .i64 er)).setCell ⟨bf, 1, none⟩ (.int .i64 q)).drew bs 22 (.slice none 0 0) := by
    show _ = _
    show (((W.setCell ⟨bs, 0, none⟩ (.slice none 0 0)).setCell ⟨bf, 0, none⟩ (.int .i64 er)).setCell ⟨bf, 1, none⟩ (.int .i64 q)).heap[bs]? = _
    rw [heap_setCell_other _ ⟨bf, 1, none⟩ bs _ hne, heap_setCell_other _ ⟨bf, 0, none⟩ bs _ hne]
    exact hA1
  have hB2 : ∀ B, B ≤ bs → B ≤ bf → Below B w (((W.setCell ⟨bs, 0, none⟩ (.slice none 0 0)).setCell ⟨bf, 0, none⟩ (.int .i64 er)).setCell ⟨bf, 1, none⟩ (.int .i64 q)).drew := fun B h1 h2 => ((((HB.out B (by omega)).setCell (p := ⟨bs, 0, none⟩) h1 _).setCell (p := ⟨bf, 0, none⟩) h2 _).setCell (p := ⟨bf, 1, none⟩) h2 _).drew
  have hF3 : (((W.setCell ⟨bs, 0, none⟩ (.slice none 0 0)).setCell ⟨bf, 0, none⟩ (.int .i64 er)).setCell ⟨bf, 1, none⟩ (.int .i64 q)).drew.heap[bf]? = some (.cells #[.int .i64 er, .int .i64 q] 26) := hF2
  generalize (((W.setCell ⟨bs, 0, none⟩ (.slice none 0 0)).setCell ⟨bf, 0, none⟩ (.int .i64 er)).setCell ⟨bf, 1, none⟩ (.int .i64 q)).drew = X at hA2 hB2 hF3 ⊢
  change bodyPostS Tryz.prog Tryz.f18 c₀ cs _ Exit.normal _ _ X
  simp [bodyPostS, results, Tryz.results18]
  exact ⟨hA2, hF3, hB2⟩

set_option maxHeartbeats 4000000 in
theorem rcatch_idle (ps pf : Addr) (w : World) :
    CallsD Tryz.prog 18 #[.pointer (some ps), .pointer (some pf)] .returning w fun e u' w' =>
      e = .returned (.tuple #[]) ∧ u' = .returning ∧ ∃ o, w' = w.alloc o := by
  have hta : ∀ (w : World), (Instr.typeAssert .nilIface 20 26 true).run Tryz.prog w = .ok (.tuple #[.agg #[.int .i64 0, .int .i64 0], .bool false]) w := fun w => rassert_nil w
  have hrep : Array.replicate 9 undef = #[undef, undef, undef, undef, undef, undef, undef, undef, undef] := rfl
  refine callsD_of_wpS Tryz.func18 rfl fun c₀ cs hu => ?_
  apply wpS_seq
  apply wpS_region
  simp [wpOpsS, go_sem, recoverD, hu, Tryz.ntmps18, Exit.thenS, hrep, hta]
  refine wpS_of_wp ?_
  go_wp2
  cases c₀
  simp_all [bodyPostS, results, Tryz.results18]
  exact ⟨_, rfl⟩

theorem rret_read {fn : Func} {p u : Tmp} (h : fn.results = #[.cell p 22, .cell u 26]) (tmps : Array Value) (w : World) (bs bf : Nat) (v y1 y2 : Value) (hs : S.Bx w bs 22 v) (hf : w.heap[bf]? = some (.cells #[y1, y2] 26))
    (hp : tmps.getD p undef = .pointer (some ⟨bs, 0, none⟩)) (hu : tmps.getD u undef = .pointer (some ⟨bf, 0, none⟩)) : (results fn tmps).run Tryz.prog w = .ok (.tuple #[v, .agg #[y1, y2]]) w := by
  have hl := run_loadVar_row (P := Tryz.prog) w bf 26 26 #[y1, y2] (0, 0) _ hf Tryz.underlying26 rfl (by kernel_rfl)
  have hc := hs.cell
  have hl2 : (loadVar 22 ⟨bs, 0, none⟩).run Tryz.prog w = .ok v w := by
    simp [go_sem, hc]
  have e : (results fn tmps).run Tryz.prog w = ((asAddr (tmps.getD p undef)).run Tryz.prog w).andThen fun a w₁ => ((loadVar 22 a).run Tryz.prog w₁).andThen fun x w₂ => ((asAddr (tmps.getD u undef)).run Tryz.prog w₂).andThen fun b w₃ => ((loadVar 26 b).run Tryz.prog w₃).andThen fun y w₄ => .ok (.tuple #[x, y]) w₄ := by
    simp only [results, h]
    simp [Sem.run_bind, Result.andThen]
  rw [e, hp, hu]
  simp [asAddr, Result.andThen, hl, hl2]

set_option maxHeartbeats 8000000 in
theorem rread_any (hK : T.ClassOk) (s : ByteArray) (hs : s.size ≤ 1099511627776) (w : World) :
    Calls Tryz.prog 6 #[.string s] w (R.readE (R.read (M.rn s)) w) := by
  have hmf : ∀ (fn : Fn) (first cap : Array Value) (w : World), (Instr.makeFunc fn first cap).run Tryz.prog w = .ok (.func fn first cap) w := fun _ _ _ _ => rfl
  obtain ⟨o, HO⟩ : ∃ o, Hid (R.read (M.rn s) = o) := ⟨_, rfl⟩
  rw [HO.out]
  go_enter_defers Tryz.func6, Tryz.ntmps6
  go_wp2_with fail
  have HX0 : Hid (S.Bx (w.alloc (.cells #[.slice none 0 0] 22)) w.heap.size 22 (.slice none 0 0)) := S.Bx.new w _ _
  have bA := (Below.refl _ w).alloc (Nat.le_refl _) (.cells #[.slice none 0 0] 22)
  have bB : Below w.heap.size w ((w.alloc (.cells #[.slice none 0 0] 22)).alloc (.cells #[.int .i64 0, .int .i64 0] 26)) := bA.alloc (by simp) _
  have hsz : (w.alloc (.cells #[.slice none 0 0] 22)).heap.size = w.heap.size + 1 := by simp
  have HX : S.Bx ((w.alloc (.cells #[.slice none 0 0] 22)).alloc (.cells #[.int .i64 0, .int .i64 0] 26)) w.heap.size 22 (.slice none 0 0) := HX0.out.below ((Below.refl _ _).alloc (Nat.le_refl _) _) (by rw [hsz]; omega)
  have HFb : ((w.alloc (.cells #[.slice none 0 0] 22)).alloc (.cells #[.int .i64 0, .int .i64 0] 26)).heap[w.heap.size + 1]? = some (.cells #[.int .i64 0, .int .i64 0] 26) := by
    have := heap_alloc_new (w.alloc (.cells #[.slice none 0 0] 22)) (.cells #[.int .i64 0, .int .i64 0] 26)
    rw [hsz] at this
    exact this
  refine (decode_any s _ hs).mono ?_
  generalize (w.alloc (.cells #[.slice none 0 0] 22)).alloc (.cells #[.int .i64 0, .int .i64 0] 26) = W2 at bB HX HFb
  clear HX0 bA hsz
  rintro e w3 ⟨v, rfl, own, b3⟩
  have hX3 : S.Bx w3 w.heap.size 22 (.slice none 0 0) := HX.below b3 HX.lt
  have hF3 : w3.heap[w.heap.size + 1]? = some (.cells #[.int .i64 0, .int .i64 0] 26) := by rw [b3.block _ (Array.getElem?_eq_some_iff.1 HFb).1]; exact HFb
  have B3 : Below w.heap.size w w3 := bB.trans (b3.mono bB.size)
  have hrt := rn_right s
  generalize M.rn s = l at own HO hrt
  have bW := (Below.refl _ w3).alloc (Nat.le_refl _) (.cells #[v, .int .i64 0] 73)
  have HX4 : Hid (S.Bx (w3.alloc (.cells #[v, .int .i64 0] 73)) w.heap.size 22 (.slice none 0 0)) := hX3.below bW hX3.lt
  have HF4 : Hid ((w3.alloc (.cells #[v, .int .i64 0] 73)).heap[w.heap.size + 1]? = some (.cells #[.int .i64 0, .int .i64 0] 26)) := by
    show _ = _
    rw [bW.block _ (Array.getElem?_eq_some_iff.1 hF3).1]; exact hF3
  have HB4 : Hid (Below w.heap.size w (w3.alloc (.cells #[v, .int .i64 0] 73))) := B3.trans (bW.mono B3.size)
  by_cases hbig : 16000 < l.length
  · obtain ⟨vo, vc, hv⟩ : ∃ vo vc, v = .slice vo l.length vc := by
      rcases own.2 with ⟨rfl, h0⟩ | ⟨g, cap, cur, rfl, _⟩
      · exact ⟨none, 0, by rw [h0]⟩
      · exact ⟨_, _, rfl⟩
    subst hv
    clear own hX3 hF3 B3 bB HX HFb b3 bW
    go_wp2_with (go_at_call 20; refine (fail_any _ 4 0).mono ?_; unfold T.thrown; rintro e w5 ⟨rfl, rfl⟩)
    refine leaves_cons (f := 18) (args := #[.pointer (some ⟨w.heap.size, 0, none⟩), .pointer (some ⟨w.heap.size + 1, 0, none⟩)]) (by simp) (by simp [go_sem]) ?_
    refine (rcatch_thrown w.heap.size (w.heap.size + 1) 4 0 [] _ _ _ _ HX4.out HF4.out (by omega)).mono ?_
    rintro e u' w6 ⟨rfl, rfl, hA, hF, hB⟩
    refine ⟨_, rret_read (by rfl) _ _ w.heap.size (w.heap.size + 1) _ _ _ hA hF rfl rfl, ?_⟩
    rw [← HO.out]
    unfold R.read
    rw [if_pos hbig]
    exact ⟨rfl, HB4.out.trans (hB w.heap.size (Nat.le_refl _) (by omega))⟩
  · obtain ⟨ao, cap, tb, hv, CW⟩ := T.Cur.new 73 own (by omega) hrt
    subst hv
    have HCW : Hid _ := CW
    have HNb : Hid (w.heap.size + 1 < w3.heap.size) := (Array.getElem?_eq_some_iff.1 hF3).1
    clear own CW hX3 hF3 B3 bB HX HFb b3 bW
    go_wp2_with fail
    refine (parts_at hK _ _ tb cap ao l HCW.out).mono ?_
    generalize w3.alloc (.cells #[.slice ao l.length cap, .int .i64 0] 73) = W4 at HX4 HF4 HB4 HCW
    intro e w5 h
    cases hc : R.parts l with
    | bad er q =>
      rw [hc] at h
      obtain ⟨rfl, g5⟩ := h
      have hX5 : S.Bx w5 w.heap.size 22 (.slice none 0 0) := HX4.out.grown g5 (by have := HNb.out; simp; omega)
      have hF5 : w5.heap[w.heap.size + 1]? = some (.cells #[.int .i64 0, .int .i64 0] 26) := by
        rw [g5.block _ (Array.getElem?_eq_some_iff.1 HF4.out).1 (by have := HNb.out; simp; omega)]; exact HF4.out
      have HB5 : Hid (Below w.heap.size w w5) := Below.grown HB4.out g5 HB4.out.size (fun k hk => by cases hk; have := HNb.out; omega)
      have HX5 : Hid _ := hX5
      have HF5 : Hid _ := hF5
      have HHc : Hid _ := hc
      clear hX5 hF5 g5 hc
      unfold T.thrown
      go_wp2
      refine leaves_cons (f := 18) (args := #[.pointer (some ⟨w.heap.size, 0, none⟩), .pointer (some ⟨w.heap.size + 1, 0, none⟩)]) (by simp) (by simp [go_sem]) ?_
      refine (rcatch_thrown w.heap.size (w.heap.size + 1) er q [] _ _ _ _ HX5.out HF5.out (by omega)).mono ?_
      rintro e u' w6 ⟨rfl, rfl, hA, hF, hB⟩
      refine ⟨_, rret_read (by rfl) _ _ w.heap.size (w.heap.size + 1) _ _ _ hA hF rfl rfl, ?_⟩
      rw [← HO.out]
      unfold R.read
      rw [if_neg hbig, HHc.out]
      exact ⟨rfl, HB5.out.trans (hB w.heap.size (Nat.le_refl _) (by omega))⟩
    | ok t q =>
      rw [hc] at h
      obtain ⟨v5, rfl, ⟨hr5, hl5⟩, C5, g5⟩ := h
      have hX5 : S.Bx w5 w.heap.size 22 (.slice none 0 0) := HX4.out.grown g5 (by have := HNb.out; simp; omega)
      have hF5 : w5.heap[w.heap.size + 1]? = some (.cells #[.int .i64 0, .int .i64 0] 26) := by
        rw [g5.block _ (Array.getElem?_eq_some_iff.1 HF4.out).1 (by have := HNb.out; simp; omega)]; exact HF4.out
      have HB5 : Hid (Below w.heap.size w w5) := Below.grown HB4.out g5 HB4.out.size (fun k hk => by cases hk; have := HNb.out; omega)
      have HX5 : Hid (S.Bx w5 w.heap.size 22 (.slice none 0 0)) := hX5
      have HF5 : Hid _ := hF5
      have HHc : Hid _ := hc
      have x0 := hX5.cell
      have x1 := hX5.free
      obtain ⟨y0, y1, y2, y3⟩ := box_cells hF5
      have hW4 : w.heap.size + 2 ≤ W4.heap.size := by have := (Array.getElem?_eq_some_iff.1 HF4.out).1; omega
      have HR5 : Hid (R.RowP W4.heap.size w5 v5 t) := hr5
      obtain ⟨vo, vc, hv⟩ := R.Row.slice hr5
      subst hv
      clear hX5 hF5 g5 hc hr5 C5
      go_wp2
      have hne : w.heap.size ≠ w.heap.size + 1 := by omega
      have g1 : w5.grownBy (w5.setCell ⟨w.heap.size, 0, none⟩ (.slice vo t.length vc)) (some w.heap.size) := R.grown_set _ _ _ _
      have g2 : (w5.setCell ⟨w.heap.size, 0, none⟩ (.slice vo t.length vc)).grownBy (((w5.setCell ⟨w.heap.size, 0, none⟩ (.slice vo t.length vc)).setCell ⟨w.heap.size + 1, 0, none⟩ (.int .i64 0)).setCell ⟨w.heap.size + 1, 1, none⟩ (.int .i64 0)) (some (w.heap.size + 1)) := S.grown_trans (R.grown_set _ _ _ _) (R.grown_set _ _ _ _)
      have R3 := R.Row.cur (R.Row.cur HR5.out g1 (by omega)) g2 (by omega)
      have hF1 : (w5.setCell ⟨w.heap.size, 0, none⟩ (.slice vo t.length vc)).heap[w.heap.size + 1]? = some (.cells #[.int .i64 0, .int .i64 0] 26) := by rw [heap_setCell_other _ ⟨w.heap.size, 0, none⟩ _ _ (Ne.symm hne)]; exact HF5.out
      have hF2 := two_set _ (w.heap.size + 1) _ _ (.int .i64 0) (.int .i64 0) 26 hF1
      have hA2 : S.Bx (((w5.setCell ⟨w.heap.size, 0, none⟩ (.slice vo t.length vc)).setCell ⟨w.heap.size + 1, 0, none⟩ (.int .i64 0)).setCell ⟨w.heap.size + 1, 1, none⟩ (.int .i64 0)) w.heap.size 22 (.slice vo t.length vc) := by
        show _ = _
        rw [heap_setCell_other _ ⟨w.heap.size + 1, 1, none⟩ _ _ hne, heap_setCell_other _ ⟨w.heap.size + 1, 0, none⟩ _ _ hne]
        exact HX5.out.set (.slice vo t.length vc)
      have hB2 : Below w.heap.size w (((w5.setCell ⟨w.heap.size, 0, none⟩ (.slice vo t.length vc)).setCell ⟨w.heap.size + 1, 0, none⟩ (.int .i64 0)).setCell ⟨w.heap.size + 1, 1, none⟩ (.int .i64 0)) := ((HB5.out.setCell (p := ⟨w.heap.size, 0, none⟩) (Nat.le_refl _) _).setCell (p := ⟨w.heap.size + 1, 0, none⟩) (Nat.le_succ _) _).setCell (p := ⟨w.heap.size + 1, 1, none⟩) (Nat.le_succ _) _
      generalize ((w5.setCell ⟨w.heap.size, 0, none⟩ (.slice vo t.length vc)).setCell ⟨w.heap.size + 1, 0, none⟩ (.int .i64 0)).setCell ⟨w.heap.size + 1, 1, none⟩ (.int .i64 0) = X at R3 hF2 hA2 hB2 ⊢
      refine leaves_cons (f := 18) (args := #[.pointer (some ⟨w.heap.size, 0, none⟩), .pointer (some ⟨w.heap.size + 1, 0, none⟩)]) (by simp) (by simp [go_sem]) ?_
      refine (rcatch_idle ⟨w.heap.size, 0, none⟩ ⟨w.heap.size + 1, 0, none⟩ _).mono ?_
      rintro e u' w6 ⟨rfl, rfl, ob, rfl⟩
      have bX := (Below.refl _ X).alloc (Nat.le_refl _) ob
      refine ⟨_, rret_read (by rfl) _ _ w.heap.size (w.heap.size + 1) _ _ _ (hA2.below bX hA2.lt) (by rw [bX.block _ (Array.getElem?_eq_some_iff.1 hF2).1]; exact hF2) rfl rfl, ?_⟩
      rw [← HO.out]
      unfold R.read
      rw [if_neg hbig, HHc.out]
      exact ⟨_, rfl, R.Row.down (R.Row.below R3 bX) (by omega), hl5, hB2.trans (bX.mono hB2.size)⟩

end Go.Proofs.YtchkcjaahjhbcabGreatDoor
