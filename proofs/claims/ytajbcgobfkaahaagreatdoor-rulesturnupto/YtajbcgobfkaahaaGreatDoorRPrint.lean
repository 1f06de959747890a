/-
  What rulesyn.Print answers of any parts.
-/
import Derived.Test.YtajbcgobfkaahaaGreatDoorRTell3
import Derived.RegionTactic
namespace Go.Proofs.YtajbcgobfkaahaaGreatDoor
open Go.RowKit
set_option maxRecDepth 20000
set_option linter.unusedSimpArgs false
set_option linter.unusedVariables false

/-- what Print answers -/
def R.printV (l : List R.Part) : Value := .tuple #[.string ⟨(if (R.wrong l).1 = 0 then R.printB l else []).toArray⟩, .agg #[.int .i64 (R.wrong l).1, .int .i64 (R.wrong l).2]]

theorem printB_take {l : List R.Part} {k : Nat} {p : R.Part} (hp : l[k]? = some p) : R.printB (l.take (k + 1)) = R.printB (l.take k) ++ R.wordsB p ++ [59, 10] := by
  rw [List.take_add_one, hp]
  simp [R.printB, R.partB]

set_option maxHeartbeats 8000000 in
theorem Print_any (w : World) (v : Value) (l : List R.Part) (R0 : R.Pts w v l) (hT : T.Tz w) :
    Calls Tryz.prog 7 #[v] w fun e w' => e = .returned (R.printV l) ∧ Below w.heap.size w w' := by
  have hmf : ∀ (fn : Fn) (first cap : Array Value) (w : World), (Instr.makeFunc fn first cap).run Tryz.prog w = .ok (.func fn first cap) w := fun _ _ _ _ => rfl
  have HR : Hid (R.Pts w v l) := R0
  have HTz : Hid (T.Tz w) := hT
  obtain ⟨ao, cap, rfl⟩ := R0.len
  have HA : Hid (∀ o, Below w.heap.size w (w.alloc o)) := fun o => (Below.refl _ w).alloc (Nat.le_refl _) o
  have HW : Hid (∀ w1, Below w.heap.size w w1 → Calls Tryz.prog 12 #[.slice ao l.length cap] w1 fun e w' => e = .returned (.agg #[.int .i64 (R.wrong l).1, .int .i64 (R.wrong l).2]) ∧ Below w1.heap.size w1 w') := fun w1 hb => Wrong_any w1 _ l (R0.below hb)
  clear R0 hT
  unfold R.printV
  obtain ⟨⟨z1, z2⟩, HZ⟩ : ∃ z, Hid (R.wrong l = z) := ⟨_, rfl⟩
  rw [HZ.out] at HW ⊢
  simp only at HW ⊢
  obtain ⟨tx, HTx⟩ : ∃ x, Hid ((⟨(if z1 = 0 then R.printB l else []).toArray⟩ : ByteArray) = x) := ⟨_, rfl⟩
  rw [HTx.out]
  go_enter Tryz.func7, Tryz.ntmps7
  go_wp2_with fail
  refine (HW.out _ (HA.out _)).mono ?_
  rintro e w1 ⟨rfl, b1⟩
  obtain ⟨hb1, B1, hl1⟩ := R.box_kept b1
  have HB1 : Hid (Below w.heap.size w w1) := B1
  have HX1 : Hid (w1.heap[w.heap.size]? = some (.cells #[.int .i64 0, .int .i64 0] 26)) := hb1
  clear b1 B1 hb1
  by_cases hz : z1 = 0
  · subst hz
    have hwz := R.wrong_zero (l := l) (by rw [HZ.out])
    have hz2 : z2 = 0 := by
      have := hwz.2.2
      rw [HZ.out] at this
      cases this; rfl
    subst hz2
    have hl200 := hwz.1
    have HOk : Hid (∀ p ∈ l, R.partE p = 0) := hwz.2.1
    clear hwz
    have HTx2 : Hid ((⟨(R.printB l).toArray⟩ : ByteArray) = tx) := by
      show _ = _
      rw [← HTx.out, if_pos rfl]
    have HPl : Hid (∀ k, (R.printB (l.take k)).length ≤ 504902 * 200) := fun k => by
      have h := printB_len (l := l.take k) fun p hp => HOk.out p (List.mem_of_mem_take hp)
      rw [List.length_take] at h
      omega
    have bX := (Below.refl _ w1).alloc (Nat.le_refl _) (.cells #[.int .i64 0, .int .i64 0] 26)
    have HN : Hid (T.Bd (w1.alloc (.cells #[.int .i64 0, .int .i64 0] 26)).heap.size (w1.alloc (.cells #[.int .i64 0, .int .i64 0] 26)).heap.size [] ((w1.alloc (.cells #[.int .i64 0, .int .i64 0] 26)).alloc (.cells #[.pointer none, .slice none 0 0] 53))) := bd_new _
    have bY := (Below.refl _ (w1.alloc (.cells #[.int .i64 0, .int .i64 0] 26))).alloc (Nat.le_refl _) (.cells #[.pointer none, .slice none 0 0] 53)
    have HBX : Hid (Below w1.heap.size w1 (w1.alloc (.cells #[.int .i64 0, .int .i64 0] 26))) := bX
    have HBY : Hid (Below (w1.alloc (.cells #[.int .i64 0, .int .i64 0] 26)).heap.size (w1.alloc (.cells #[.int .i64 0, .int .i64 0] 26)) ((w1.alloc (.cells #[.int .i64 0, .int .i64 0] 26)).alloc (.cells #[.pointer none, .slice none 0 0] 53))) := bY
    have hsx : (w1.alloc (.cells #[.int .i64 0, .int .i64 0] 26)).heap.size = w1.heap.size + 1 := by simp
    rw [hsx] at HN HBY
    clear bX bY hsx
    go_wp2
    go_loopw [18] (fun i wr => ∃ k : Nat, k ≤ l.length ∧ i = .int .i64 k ∧ Hid (T.Bd (w1.heap.size + 1) (w1.heap.size + 1) (R.printB (l.take k)) wr) ∧ Hid (Below (w1.heap.size + 1) (w1.alloc (.cells #[.int .i64 0, .int .i64 0] 26)) wr)) (fun i _ => l.length - (intOf i).toNat)
    case atStart => exact ⟨0, Nat.zero_le _, rfl, HN, HBY⟩
    case round =>
      obtain ⟨k, hk, rfl, HD, HB⟩ := hrel
      have HEn : Hid (R.Env w (w1.heap.size + 1) wr) := ⟨HTz.out, by have := HB1.out.size; omega, HB1.out.trans ((HBX.out.trans (HB.out.mono (by omega))).mono HB1.out.size), HD.out.2⟩
      have HXr : Hid (wr.heap[w.heap.size]? = some (.cells #[.int .i64 0, .int .i64 0] 26)) := by
        have h := (HBX.out.trans (HB.out.mono (by omega))).block w.heap.size (Array.getElem?_eq_some_iff.1 HX1.out).1
        show _ = _
        rw [h]; exact HX1.out
      by_cases hlt : k < l.length
      · obtain ⟨p, hp⟩ : ∃ x, l[k]? = some x := ⟨l[k], by simp [hlt]⟩
        obtain ⟨ao', cap', e', hcs⟩ := HR.out
        cases e'
        obtain ⟨b, off, rfl, hcell⟩ := hcs (by intro h; subst h; simp at hlt)
        obtain ⟨so, sc, lbo, lbc, lso, lsc, lao, lac, rbo, rbc, rso, rsc, rao, rac, c0, c1, c2, c3, c4, c5, c6, c7, c8, c9, c10, c11, c12, c13, c14, c15, hP⟩ := hcell k p hp
        have kk := R.Keeps.of_below HEn.out.bel (Nat.le_refl _)
        replace c0 := kk _ _ _ c0
        replace c1 := kk _ _ _ c1
        replace c2 := kk _ _ _ c2
        replace c3 := kk _ _ _ c3
        replace c4 := kk _ _ _ c4
        replace c5 := kk _ _ _ c5
        replace c6 := kk _ _ _ c6
        replace c7 := kk _ _ _ c7
        replace c8 := kk _ _ _ c8
        replace c9 := kk _ _ _ c9
        replace c10 := kk _ _ _ c10
        replace c11 := kk _ _ _ c11
        replace c12 := kk _ _ _ c12
        replace c13 := kk _ _ _ c13
        replace c14 := kk _ _ _ c14
        replace c15 := kk _ _ _ c15
        have HTk : Hid (R.printB (l.take (k + 1)) = R.printB (l.take k) ++ R.wordsB p ++ [59, 10]) := printB_take hp
        have hlk := HPl.out (k + 1)
        have HTell : Hid (∀ w1' t, R.Env w (w1.heap.size + 1) w1' → T.Bd (w1.heap.size + 1) (w1.heap.size + 1) t w1' → t.length + (R.wordsB p).length ≤ 1000000000 → Calls Tryz.prog 19 #[.agg #[.int .i64 p.kind, .string p.name, .slice so p.set.length sc, .int .i64 p.dir, .bool p.left.start, .bool p.left.fin, .slice lbo p.left.before.length lbc, .slice lso p.left.source.length lsc, .slice lao p.left.after.length lac, .int .i64 p.left.cursor, .bool p.right.start, .bool p.right.fin, .slice rbo p.right.before.length rbc, .slice rso p.right.source.length rsc, .slice rao p.right.after.length rac, .int .i64 p.right.cursor], .func (.func 16) #[] #[.pointer (some ⟨w1.heap.size + 1, 0, none⟩)]] w1' (R.Told (w1.heap.size + 1) (w1.heap.size + 1) (t ++ R.wordsB p) w1')) := fun w1' t e1 b1 h1 => tellPart_any w _ _ w1' _ p t e1 hP (HOk.out p (List.mem_of_getElem? hp)) b1 h1
        obtain ⟨wb, HWB⟩ : ∃ x, Hid (R.wordsB p = x) := ⟨_, rfl⟩
        rw [HWB.out] at HTk HTell
        have HLk : Hid ((R.printB (l.take k)).length + wb.length + 2 ≤ 100980400) := by
          rw [HTk.out] at hlk
          simp only [List.length_append, List.length_cons, List.length_nil] at hlk
          show _ ≤ _
          omega
        clear hp hcell hcs hP kk hlk
        obtain ⟨pk, pn, ps, pd, ⟨lst, lfi, lbe, lsr, laf, lcu⟩, ⟨rst, rfi, rbe, rsr, raf, rcu⟩⟩ := p
        simp only at c0 c1 c2 c3 c4 c5 c6 c7 c8 c9 c10 c11 c12 c13 c14 c15 HTell
        have HAr : Hid (∀ o, Below wr.heap.size wr (wr.alloc o)) := fun o => (Below.refl _ wr).alloc (Nat.le_refl _) o
        go_wp2_with fail
        refine (HTell.out _ _ (HEn.out.after (HAr.out _)) (HD.out.below (HAr.out _)) (by have := HLk.out; omega)).mono ?_
        rintro e w2 ⟨rfl, d2, b2, k2⟩
        have HB2 : Hid (Below (w1.heap.size + 1) wr w2) := ((HAr.out _).mono HEn.out.now).trans b2
        have HD2 : Hid (T.Bd (w1.heap.size + 1) (w1.heap.size + 1) (R.printB (l.take k) ++ wb) w2) := d2
        clear d2 b2 k2
        go_wp2_with fail
        refine (bd_string _ _ _ [59, 10] w2 HD2.out (by have := HLk.out; simp only [List.length_append, List.length_cons, List.length_nil]; omega)).mono ?_
        rintro e w3 ⟨⟨v3, rfl⟩, d3, b3, k3⟩
        have HB3 : Hid (Below (w1.heap.size + 1) wr w3) := HB2.out.trans b3
        have HD3 : Hid (T.Bd (w1.heap.size + 1) (w1.heap.size + 1) (R.printB (l.take (k + 1))) w3) := by
          show T.Bd _ _ _ w3
          rw [HTk.out]; exact d3
        clear d3 b3 k3
        go_wp2
        go_roundw
        case rel => exact ⟨k + 1, by omega, by go_num, HD3, HB.out.trans HB3.out⟩
        case measure => simp [intOf]; omega
      · have hke : k = l.length := by omega
        have hd := HD.out
        rw [hke, List.take_length] at hd
        have HD' : Hid (T.Bd (w1.heap.size + 1) (w1.heap.size + 1) (R.printB l) wr) := hd
        clear hd
        go_wp2_with fail
        refine (bd_text _ _ _ wr HD'.out).mono ?_
        rintro e w5 ⟨rfl, b5⟩
        have HB5 : Hid (Below w.heap.size w w5) := HEn.out.bel.trans (b5.mono HEn.out.le)
        have hx5 : w5.heap[w.heap.size]? = some (.cells #[.int .i64 0, .int .i64 0] 26) := by
          rw [b5.block _ (by have := (Array.getElem?_eq_some_iff.1 HX1.out).1; omega)]; exact HXr.out
        obtain ⟨x0, x1, f0, f1⟩ := R.box2 hx5
        clear hx5 b5
        rw [HTx2.out]
        go_wp2
        refine bodyPost_ret (v := .tuple #[.string tx, .agg #[.int .i64 0, .int .i64 0]]) (by simp [results, Tryz.results7, go_sem, *]) rfl ?_
        exact ⟨rfl, (HB5.out.setCell (p := ⟨w.heap.size, 0, none⟩) (Nat.le_refl _) _).setCell (p := ⟨w.heap.size, 1, none⟩) (Nat.le_refl _) _⟩
  · have HTx2 : Hid ((⟨#[]⟩ : ByteArray) = tx) := by
      show _ = _
      rw [← HTx.out, if_neg hz]
    obtain ⟨x0, x1, f0, f1⟩ := R.box2 HX1.out
    have n1 : ¬ w1.heap.size = w.heap.size := by omega
    have HB2 : Hid (∀ o, Below w.heap.size w (w1.alloc o)) := fun o => HB1.out.alloc HB1.out.size o
    go_wp2
    go_region
    go_wp2
    refine bodyPost_ret (v := .tuple #[.string ⟨#[]⟩, .agg #[.int .i64 z1, .int .i64 z2]]) (by simp [results, Tryz.results7, go_sem, *]) rfl ?_
    refine ⟨by rw [HTx2.out], ?_⟩
    exact ((((HB1.out.setCell (p := ⟨w.heap.size, 0, none⟩) (Nat.le_refl _) _).setCell (p := ⟨w.heap.size, 1, none⟩) (Nat.le_refl _) _).alloc (by have := HB1.out.size; simp; omega) _)).drew

end Go.Proofs.YtajbcgobfkaahaaGreatDoor
