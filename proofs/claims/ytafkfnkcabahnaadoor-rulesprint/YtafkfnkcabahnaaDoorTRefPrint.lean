/-
  What scriptref3.Print answers, for every slice of spans.
-/
import Derived.Test.YtafkfnkcabahnaaDoorTRefQuote
import Derived.Test.YtafkfnkcabahnaaDoorTPrint
import Derived.Test.YtafkfnkcabahnaaDoorSRefWrong
namespace Go.Proofs.YtafkfnkcabahnaaDoor
open Go.RowKit

theorem str_app (l m : List UInt8) : (⟨l.toArray⟩ : ByteArray) ++ ⟨m.toArray⟩ = ⟨(l ++ m).toArray⟩ := by
  apply ByteArray.ext
  apply Array.toList_inj.1
  simp
theorem str_size (l : List UInt8) : (⟨l.toArray⟩ : ByteArray).size = l.length := by show l.toArray.size = _; simp

set_option maxRecDepth 4000 in
set_option maxHeartbeats 2000000 in
theorem refprint_any (w : World) (v : Value) (l : List S.Sp) (R : S.Rd w v l) (hf : S.Fit l) :
    Calls Tryd.prog 13 #[v] w fun e w' => e = .returned (T.prE l) ∧ Below w.heap.size w w' := by
  have HR : Hid (S.Rd w v l) := R
  obtain ⟨ao, cap, rfl⟩ := R.len
  clear R
  by_cases hw : S.wrongE l = 0
  · have hn := S.wrongE_zero.1 hw
    go_enter Tryd.func13, Tryd.ntmps13
    go_wp2_with (go_at_call 21; refine (refwrong_any _ _ l HR.out hf).mono ?_; rintro e w1 ⟨rfl, b1⟩; rw [hw])
    have HI : Hid (∀ k, (T.inner (l.take k)).length ≤ 4200) := fun k => by
      have h := inner_len (l := l.take k) fun x hx => by have := hn.2.mem (List.mem_of_mem_take hx); omega
      rw [List.length_take] at h
      omega
    go_loopw [5, 15] (fun t i wr => ∃ (k : Nat) (m : List UInt8), k ≤ l.length ∧ i = .int .i64 k ∧ t = .string ⟨m.toArray⟩ ∧ Hid (m = 91 :: T.inner (l.take k)) ∧ Hid (Below w.heap.size w wr)) (fun _ i _ => l.length - (intOf i).toNat)
    case atStart => exact ⟨0, [91], Nat.zero_le _, rfl, rfl, rfl, b1⟩
    case round =>
      obtain ⟨k, m, hk, rfl, rfl, HM, HB⟩ := hrel
      have hm : m.length ≤ 4201 := by rw [HM.out, List.length_cons]; have := HI.out k; omega
      by_cases hlt : k < l.length
      · obtain ⟨x, hx⟩ : ∃ x, l[k]? = some x := ⟨l[k], by simp [hlt]⟩
        have hxm := hn.2.mem (List.mem_of_getElem? hx)
        obtain ⟨ao', cap', e', hnil, hcs⟩ := HR.out.below HB.out (Nat.le_refl _)
        cases e'
        obtain ⟨bb, off, rfl, hcell⟩ := hcs (by intro h; subst h; simp at hlt)
        have c1 := (hcell k x hx).1
        have c2 := (hcell k x hx).2
        clear hcell hnil
        have HX : Hid (l[k]? = some x) := hx
        clear hx
        obtain ⟨x1, x2⟩ := x
        simp only at c1 c2 hxm
        have hq := one_len (x := (x1, x2)) (by simp only; omega) (by simp only; omega)
        simp only at hq
        have HTk : Hid (T.inner (l.take (k + 1)) = T.inner (l.take k) ++ T.one (x1, x2)) := by
          show _ = _
          rw [List.take_add_one, HX.out]; exact T.inner_snoc _ _
        have g1 : ¬ 9223372036854775807 < m.length + (T.quo x1).length := by omega
        have g2 : ¬ 9223372036854775807 < m.length + (T.quo x1).length + 1 := by omega
        have g3 : ¬ 9223372036854775807 < m.length + (T.quo x1).length + 1 + (T.quo x2).length := by omega
        clear hq
        go_wp2_with fail
        have bW := (Below.refl _ wr).alloc (Nat.le_refl _) (.cells #[.int .i32 x1, .int .i32 x2] 59)
        have hxW : (wr.alloc (.cells #[.int .i32 x1, .int .i32 x2] 59)).heap[wr.heap.size]? = some (.cells #[.int .i32 x1, .int .i32 x2] 59) := heap_alloc_new wr _
        have hsW : (wr.alloc (.cells #[.int .i32 x1, .int .i32 x2] 59)).heap.size = wr.heap.size + 1 := by simp
        have BW := HB.out.trans (bW.mono HB.out.size)
        refine (refquote_any x1 (by omega) (by omega) _).mono ?_
        generalize wr.alloc (.cells #[.int .i32 x1, .int .i32 x2] 59) = W' at bW hxW hsW BW
        rintro e w3 ⟨rfl, b3⟩
        have hx3 : w3.heap[wr.heap.size]? = some (.cells #[.int .i32 x1, .int .i32 x2] 59) := by rw [b3.block _ (by omega)]; exact hxW
        have HB3 : Hid (Below _ w w3) := BW.trans (b3.mono (by have := HB.out.size; omega))
        have cx1 : w3.cell? ⟨wr.heap.size, 0, none⟩ = some (.int .i32 x1) := by rw [Lib.cell_of_heap hx3]; rfl
        have cx2 : w3.cell? ⟨wr.heap.size, 1, none⟩ = some (.int .i32 x2) := by rw [Lib.cell_of_heap hx3]; rfl
        clear b3 bW hxW BW hsW hx3
        by_cases hgt : x1 = x2
        · subst hgt
          go_wp2
          go_roundw
          case rel =>
            refine ⟨k + 1, m ++ T.quo x1, by omega, by go_num, by rw [str_app], ?_, HB3⟩
            show _ = _
            rw [HTk.out, HM.out]
            unfold T.one
            simp
          case measure => simp [intOf]; omega
        · have hne : (x1 == x2) = false := by simp [hgt]
          go_wp2_with fail
          refine (refquote_any x2 (by omega) (by omega) _).mono ?_
          rintro e w6 ⟨rfl, b6⟩
          have HB6 : Hid (Below _ w w6) := HB3.out.trans (b6.mono HB3.out.size)
          clear b6
          go_wp2
          go_roundw
          case rel =>
            refine ⟨k + 1, m ++ T.quo x1 ++ [45] ++ T.quo x2, by omega, by go_num, ?_, ?_, HB6⟩
            · rw [str_app, show (⟨#[45]⟩ : ByteArray) = ⟨[45].toArray⟩ from rfl, str_app, str_app]
            · show _ = _
              rw [HTk.out, HM.out]
              unfold T.one
              rw [if_pos (by simp only; omega)]
              simp
          case measure => simp [intOf]; omega
      · have hke : k = l.length := by omega
        have g1 : ¬ 9223372036854775807 < m.length + 1 := by omega
        go_wp2
        go_ret2
        refine ⟨?_, HB.out⟩
        unfold T.prE T.prt
        rw [hw, if_pos rfl]
        have h := HM.out
        rw [hke, List.take_length] at h
        have e : (⟨m.toArray⟩ : ByteArray) ++ ⟨[(93 : UInt8)].toArray⟩ = ⟨([(91 : UInt8)] ++ T.inner l ++ [93]).toArray⟩ := by
          rw [str_app, h]; rfl
        exact congrArg (fun b => Ending.returned (.tuple #[.string b, .int .i64 0])) e
  · go_enter Tryd.func13, Tryd.ntmps13
    go_wp2_with (go_at_call 21; refine (refwrong_any _ _ l HR.out hf).mono ?_; rintro e w1 ⟨rfl, b1⟩)
    go_ret2
    refine ⟨?_, b1⟩
    unfold T.prE
    rw [if_neg hw]
    rfl

end Go.Proofs.YtafkfnkcabahnaaDoor
