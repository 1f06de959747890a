/-
  What is left of items by their kinds, as the document's text reckons it.
-/
import Derived.Test.YtajbcgobfkaahaaGreatDoorRRd3
import Derived.Test.YtajbcgobfkaahaaGreatDoorRText
import Derived.Deep.RegionHeld3
import Derived.Laws.ResultCell
import Derived.Test.YtajbcgobfkaahaaGreatDoorRRd9
import Derived.Test.YtajbcgobfkaahaaGreatDoorRJoin
import Derived.Laws.Rows
import Derived.Laws.Tables
namespace Go.Proofs.YtajbcgobfkaahaaGreatDoor
open Go.RowKit
set_option maxRecDepth 20000
set_option linter.unusedSimpArgs false
set_option linter.unusedVariables false

/-- w has all that w0 had -/
def R.Old (w0 w : World) : Prop := ∀ b, b < w0.heap.size → w.heap[b]? = w0.heap[b]?
/-- the cells of an item, read where all that was there at w0 is still there -/
def R.ItElB (w0 : World) (x : R.Item) (c : List Value) (w : World) : Prop := R.Old w0 w → R.ItEl x c w
theorem R.Old.of {w0 w : World} (h : Below w0.heap.size w0 w) : R.Old w0 w := fun b hb => h.block b hb
theorem R.Old.rd {w0 w : World} {v : Value} {s : List S.Sp} (h : S.Rd w0 v s) (ho : R.Old w0 w) : S.Rd w v s := by
  refine (R.rd_stays (F := 0) h (fun g _ => Nat.zero_le _)) w fun b _ hb _ => ho b hb
theorem R.elB {w0 w : World} {F : Nat} {X : Option Nat} (x : R.Item) (so : Option Addr) (sc : Nat) (hr : S.Rd w0 (.slice so x.set.length sc) x.set) (hf : S.Fit x.set) (hn : x.name.size ≤ 140737488355328) : R.Stays F X w (R.ItElB w0 x [.int .i64 x.kind, .int .i32 x.rune, .slice so x.set.length sc, .string x.name]) :=
  fun w' _ ho => ⟨so, sc, rfl, R.Old.rd hr ho, hf, hn⟩
def R.RowB (w0 : World) (F : Nat) (w : World) (v : Value) (xs : List R.Item) : Prop := R.Row 76 4 (R.ItElB w0) F w v xs
/-- such a row reads as items -/
theorem R.RowB.its {w0 w : World} {F : Nat} {v : Value} {xs : List R.Item} (h : R.RowB w0 F w v xs) : R.Stays F none w fun w' => R.Old w0 w' → R.Its w' v xs := fun w' hk ho => by
  obtain ⟨ao, cap, hv⟩ := R.Row.slice h
  refine ⟨ao, cap, hv, fun hz => ?_⟩
  cases xs with
  | nil => exact absurd rfl hz
  | cons x0 xs =>
    obtain ⟨g, c, hob, ⟨cap', hv'⟩, _, _⟩ := R.Row.at h (j := 0) (x := x0) rfl
    refine ⟨g, 0, by rw [hv] at hv'; cases hv'; rfl, fun j x hj => ?_⟩
    obtain ⟨g2, c2, hob2, _, _, hst⟩ := R.Row.at h hj
    have hg : g2 = g := by rw [hob] at hob2; exact (Option.some.inj hob2).symm
    subst hg
    obtain ⟨hcells, hel⟩ := hst w' hk
    obtain ⟨so, sc, hc2, hrd, hf, hn⟩ := hel ho
    subst hc2
    exact ⟨hcells 0 _ rfl, hcells 1 _ rfl, hcells 3 _ rfl, ⟨so, sc, hcells 2 _ rfl, hrd⟩, hf, hn⟩

theorem R.noName : (⟨#[]⟩ : ByteArray).size ≤ 140737488355328 := by decide
theorem R.rd_nil' (w : World) : S.Rd w (.slice none 0 0) [] := S.Rd.nil w

set_option maxHeartbeats 8000000 in
theorem bareItems_any (w0 w : World) (hB0 : Below w0.heap.size w0 w) (v : Value) (l : List R.Item) (R0 : R.Its w0 v l) (hl : l.length ≤ 1000) :
    Calls Tryz.prog 42 #[v] w fun e w' => ∃ v', e = .returned v' ∧ R.RowB w0 w.heap.size w' v' (l.map R.bareI) ∧ Below w.heap.size w w' := by
  have HR0 : Hid (R.Its w0 v l) := R0
  have hs00 := hB0.size
  have HB0 : Hid (Below w0.heap.size w0 w) := hB0
  clear hB0
  obtain ⟨ao, ca, rfl⟩ := R0.len
  clear R0
  go_enter Tryz.func42, Tryz.ntmps42
  go_wp2
  go_loopw [3, 9] (fun v i wr => ∃ (k : Nat) (vo : Option Addr) (vc : Nat), k ≤ l.length ∧ i = .int .i64 k ∧ v = .slice vo k vc ∧ Hid (R.RowB w0 w.heap.size wr (.slice vo k vc) ((l.take k).map R.bareI)) ∧ Hid (Below w.heap.size w wr)) (fun _ i _ => l.length - (intOf i).toNat)
  case atStart => exact ⟨0, none, 0, Nat.zero_le _, rfl, rfl, R.Row.nil _ _, Below.refl _ w⟩
  case round =>
    obtain ⟨k, vo, vc, hk, rfl, rfl, HR, HB⟩ := hrel
    by_cases hlt : k < l.length
    · obtain ⟨x, hx⟩ : ∃ x, l[k]? = some x := ⟨l[k], by simp [hlt]⟩
      obtain ⟨_, _, e0, hcs0⟩ := HR0.out
      cases e0
      obtain ⟨b, off, rfl, hcell0⟩ := hcs0 (by intro h; subst h; simp at hlt)
      obtain ⟨_, _, _, ⟨so, sc, q2, HRd⟩, hf, hn⟩ := hcell0 k x hx
      have HBw : Below w0.heap.size w0 wr := HB0.out.trans (HB.out.mono hs00)
      obtain ⟨_, _, e1, hcs⟩ := HR0.out.below HBw
      cases e1
      obtain ⟨b', off', e2, hcell⟩ := hcs (by intro h; subst h; simp at hlt)
      cases e2
      obtain ⟨c0, c1, c3, ⟨so', sc', c2, _⟩, _, _⟩ := hcell k x hx
      have hb := L.block_lt q2
      have hsb := HB.out.size
      have e3 : wr.cell? ⟨b, off + k * 4 + 2, none⟩ = w0.cell? ⟨b, off + k * 4 + 2, none⟩ := HBw.cell (p := ⟨b, off + k * 4 + 2, none⟩) (by simpa using hb)
      rw [c2, q2] at e3
      cases e3
      have HRd0 : Hid (S.Rd w0 (.slice so x.set.length sc) x.set) := HRd
      have HLt : Hid (∀ g, (Value.slice vo k vc).ownBlock = some g → w.heap.size ≤ g ∧ g < wr.heap.size) := R.Row.lt HR.out
      have HB3 : Hid (∀ o1 o2 o3, Below w.heap.size w (((wr.alloc o1).alloc o2).alloc o3)) := fun o1 o2 o3 => ((HB.out.alloc hsb o1).alloc (by simp; omega) o2).alloc (by simp; omega) o3
      have HR4 : Hid (∀ o1 o2 o3, R.RowB w0 w.heap.size (((wr.alloc o1).alloc o2).alloc o3) (.slice vo k vc) ((l.take k).map R.bareI)) := fun o1 o2 o3 => R.Row.below HR.out ((((Below.refl _ wr).alloc (Nat.le_refl _) o1).alloc (by simp) o2).alloc (by simp; omega) o3)
      have HNx : Hid ((l.take k).map R.bareI ++ [R.bareI x] = (l.take (k + 1)).map R.bareI) := by
        show _ = _
        rw [List.take_add_one, hx]; simp
      have HLn : Hid (((l.take (k + 1)).map R.bareI).length = k + 1) := by
        show _ = _
        simp; omega
      clear HRd hcell hcell0 hcs hcs0 hx q2 HBw
      obtain ⟨xk, xr, xs, xn⟩ := x
      simp only at c0 c1 c2 c3 hf hn HRd0 HNx
      have hne : ¬ b = wr.heap.size := by omega
      have hne1 : ¬ b = wr.heap.size + 1 := by omega
      have rd0 : S.Rd w0 (.slice none 0 0) [] := R.rd_nil' w0
      have fit0 : S.Fit [] := fun x hx => by cases hx
      by_cases h1 : xk = 1
      · subst h1
        have HY : Hid (R.bareI ⟨1, xr, xs, xn⟩ = R.runeI xr) := by
          show _ = _
          unfold R.bareI; simp only; rfl
        have HO4 : Hid (∀ o1 o2, R.RowB w0 (wr.heap.size + 2) (((wr.alloc o1).alloc o2).alloc (.cells #[.int .i64 1, .int .i32 xr, .slice none 0 0, .string ⟨#[]⟩] 76)) (.slice (some ⟨wr.heap.size + 2, 0, none⟩) 1 1) [R.runeI xr]) := fun o1 o2 => by
          have h := R.Row.one (e := 76) (k := 4) (El := R.ItElB w0) (F := wr.heap.size + 2) (w := (wr.alloc o1).alloc o2) [.int .i64 1, .int .i32 xr, .slice none 0 0, .string ⟨#[]⟩] rfl (by intro u hu; simp at hu; rcases hu with rfl | rfl | rfl | rfl <;> rfl) (x := R.runeI xr) (R.elB (R.runeI xr) none 0 rd0 fit0 R.noName) (by simp)
          rw [show ((wr.alloc o1).alloc o2).heap.size = wr.heap.size + 2 by simp] at h
          exact h
        go_wp2_with (at_builtin; refine R.list_add R.elemI rfl _ _ rfl _ _ ((l.take k).map R.bareI) [R.runeI xr] rfl rfl (HR4.out _ _ _) (HO4.out _ _) (by omega) (fun g hg => by have := HLt.out g hg; omega) (by simp; omega) (by simp; omega) ?_; intro v5 w5 R5 g5 n5)
        have HB5 : Hid (Below w.heap.size w w5) := Below.grown (HB3.out _ _ _) g5 (by simp; omega) (fun j hj => (HLt.out j hj).1)
        rw [← HY.out, HNx.out] at R5
        obtain ⟨vo5, vc5, hv5⟩ := R.Row.slice R5
        rw [HLn.out] at hv5
        subst hv5
        have HR5 : Hid (R.RowB w0 w.heap.size w5 (.slice vo5 (k + 1) vc5) ((l.take (k + 1)).map R.bareI)) := R5
        clear R5 g5 n5
        go_wp2
        go_roundw
        case rel => exact ⟨k + 1, vo5, vc5, by omega, by simp, rfl, HR5, HB5⟩
        case measure => simp [intOf]; omega
      · by_cases h2 : xk = 2
        · subst h2
          have HY : Hid (R.bareI ⟨2, xr, xs, xn⟩ = R.setI xs) := by
            show _ = _
            unfold R.bareI; simp only; rfl
          have HO4 : Hid (∀ o1 o2, R.RowB w0 (wr.heap.size + 2) (((wr.alloc o1).alloc o2).alloc (.cells #[.int .i64 2, .int .i32 0, .slice so xs.length sc, .string ⟨#[]⟩] 76)) (.slice (some ⟨wr.heap.size + 2, 0, none⟩) 1 1) [R.setI xs]) := fun o1 o2 => by
            have h := R.Row.one (e := 76) (k := 4) (El := R.ItElB w0) (F := wr.heap.size + 2) (w := (wr.alloc o1).alloc o2) [.int .i64 2, .int .i32 0, .slice so xs.length sc, .string ⟨#[]⟩] rfl (by intro u hu; simp at hu; rcases hu with rfl | rfl | rfl | rfl <;> rfl) (x := R.setI xs) (R.elB (R.setI xs) so sc HRd0.out hf R.noName) (by simp)
            rw [show ((wr.alloc o1).alloc o2).heap.size = wr.heap.size + 2 by simp] at h
            exact h
          go_wp2_with (at_builtin; refine R.list_add R.elemI rfl _ _ rfl _ _ ((l.take k).map R.bareI) [R.setI xs] rfl rfl (HR4.out _ _ _) (HO4.out _ _) (by omega) (fun g hg => by have := HLt.out g hg; omega) (by simp; omega) (by simp; omega) ?_; intro v5 w5 R5 g5 n5)
          have HB5 : Hid (Below w.heap.size w w5) := Below.grown (HB3.out _ _ _) g5 (by simp; omega) (fun j hj => (HLt.out j hj).1)
          rw [← HY.out, HNx.out] at R5
          obtain ⟨vo5, vc5, hv5⟩ := R.Row.slice R5
          rw [HLn.out] at hv5
          subst hv5
          have HR5 : Hid (R.RowB w0 w.heap.size w5 (.slice vo5 (k + 1) vc5) ((l.take (k + 1)).map R.bareI)) := R5
          clear R5 g5 n5
          go_wp2
          go_roundw
          case rel => exact ⟨k + 1, vo5, vc5, by omega, by simp, rfl, HR5, HB5⟩
          case measure => simp [intOf]; omega
        · by_cases h3 : xk = 3
          · subst h3
            have HY : Hid (R.bareI ⟨3, xr, xs, xn⟩ = R.varI xn) := by
              show _ = _
              unfold R.bareI; simp only; rfl
            have HO4 : Hid (∀ o1 o2, R.RowB w0 (wr.heap.size + 2) (((wr.alloc o1).alloc o2).alloc (.cells #[.int .i64 3, .int .i32 0, .slice none 0 0, .string xn] 76)) (.slice (some ⟨wr.heap.size + 2, 0, none⟩) 1 1) [R.varI xn]) := fun o1 o2 => by
              have h := R.Row.one (e := 76) (k := 4) (El := R.ItElB w0) (F := wr.heap.size + 2) (w := (wr.alloc o1).alloc o2) [.int .i64 3, .int .i32 0, .slice none 0 0, .string xn] rfl (by intro u hu; simp at hu; rcases hu with rfl | rfl | rfl | rfl <;> rfl) (x := R.varI xn) (R.elB (R.varI xn) none 0 rd0 fit0 hn) (by simp)
              rw [show ((wr.alloc o1).alloc o2).heap.size = wr.heap.size + 2 by simp] at h
              exact h
            go_wp2_with (at_builtin; refine R.list_add R.elemI rfl _ _ rfl _ _ ((l.take k).map R.bareI) [R.varI xn] rfl rfl (HR4.out _ _ _) (HO4.out _ _) (by omega) (fun g hg => by have := HLt.out g hg; omega) (by simp; omega) (by simp; omega) ?_; intro v5 w5 R5 g5 n5)
            have HB5 : Hid (Below w.heap.size w w5) := Below.grown (HB3.out _ _ _) g5 (by simp; omega) (fun j hj => (HLt.out j hj).1)
            rw [← HY.out, HNx.out] at R5
            obtain ⟨vo5, vc5, hv5⟩ := R.Row.slice R5
            rw [HLn.out] at hv5
            subst hv5
            have HR5 : Hid (R.RowB w0 w.heap.size w5 (.slice vo5 (k + 1) vc5) ((l.take (k + 1)).map R.bareI)) := R5
            clear R5 g5 n5
            go_wp2
            go_roundw
            case rel => exact ⟨k + 1, vo5, vc5, by omega, by simp, rfl, HR5, HB5⟩
            case measure => simp [intOf]; omega
          · skip
            have HY : Hid (R.bareI ⟨xk, xr, xs, xn⟩ = ⟨xk, 0, [], ⟨#[]⟩⟩) := by
              show _ = _
              unfold R.bareI; simp only; rw [if_neg h1, if_neg h2, if_neg h3]
            have HO4 : Hid (∀ o1 o2, R.RowB w0 (wr.heap.size + 2) (((wr.alloc o1).alloc o2).alloc (.cells #[.int .i64 xk, .int .i32 0, .slice none 0 0, .string ⟨#[]⟩] 76)) (.slice (some ⟨wr.heap.size + 2, 0, none⟩) 1 1) [⟨xk, 0, [], ⟨#[]⟩⟩]) := fun o1 o2 => by
              have h := R.Row.one (e := 76) (k := 4) (El := R.ItElB w0) (F := wr.heap.size + 2) (w := (wr.alloc o1).alloc o2) [.int .i64 xk, .int .i32 0, .slice none 0 0, .string ⟨#[]⟩] rfl (by intro u hu; simp at hu; rcases hu with rfl | rfl | rfl | rfl <;> rfl) (x := ⟨xk, 0, [], ⟨#[]⟩⟩) (R.elB (⟨xk, 0, [], ⟨#[]⟩⟩) none 0 rd0 fit0 R.noName) (by simp)
              rw [show ((wr.alloc o1).alloc o2).heap.size = wr.heap.size + 2 by simp] at h
              exact h
            go_wp2_with (at_builtin; refine R.list_add R.elemI rfl _ _ rfl _ _ ((l.take k).map R.bareI) [⟨xk, 0, [], ⟨#[]⟩⟩] rfl rfl (HR4.out _ _ _) (HO4.out _ _) (by omega) (fun g hg => by have := HLt.out g hg; omega) (by simp; omega) (by simp; omega) ?_; intro v5 w5 R5 g5 n5)
            have HB5 : Hid (Below w.heap.size w w5) := Below.grown (HB3.out _ _ _) g5 (by simp; omega) (fun j hj => (HLt.out j hj).1)
            rw [← HY.out, HNx.out] at R5
            obtain ⟨vo5, vc5, hv5⟩ := R.Row.slice R5
            rw [HLn.out] at hv5
            subst hv5
            have HR5 : Hid (R.RowB w0 w.heap.size w5 (.slice vo5 (k + 1) vc5) ((l.take (k + 1)).map R.bareI)) := R5
            clear R5 g5 n5
            go_wp2
            go_roundw
            case rel => exact ⟨k + 1, vo5, vc5, by omega, by simp, rfl, HR5, HB5⟩
            case measure => simp [intOf]; omega
    · obtain rfl : k = l.length := by omega
      have HRe : Hid (R.RowB w0 w.heap.size wr (.slice vo l.length vc) (l.map R.bareI)) := by
        have h := HR.out
        rw [List.take_length] at h
        exact h
      go_wp2
      go_ret
      exact ⟨_, rfl, HRe.out, HB.out⟩

end Go.Proofs.YtajbcgobfkaahaaGreatDoor

/-
  What is left of a side by its kinds, as the document's text reckons it.
-/
namespace Go.Proofs.YtajbcgobfkaahaaGreatDoor
open Go.RowKit
set_option maxRecDepth 20000
set_option linter.unusedSimpArgs false
set_option linter.unusedVariables false

/-- a side whose items are new, their sets what they were -/
def R.SdB (w0 : World) (F : Nat) (w : World) (v : Value) (s : R.Side) : Prop :=
  ∃ bo bc so sc ao ac, v = .agg #[.bool s.start, .bool s.fin, .slice bo s.before.length bc, .slice so s.source.length sc, .slice ao s.after.length ac, .int .i64 s.cursor] ∧
    R.RowB w0 F w (.slice bo s.before.length bc) s.before ∧ R.RowB w0 F w (.slice so s.source.length sc) s.source ∧ R.RowB w0 F w (.slice ao s.after.length ac) s.after ∧ R.I64 s.cursor
theorem R.SdB.below {w0 w w' : World} {F : Nat} {v : Value} {s : R.Side} (h : R.SdB w0 F w v s) (hb : Below w.heap.size w w') : R.SdB w0 F w' v s := by
  obtain ⟨bo, bc, so, sc, ao, ac, hv, h1, h2, h3, h4⟩ := h
  exact ⟨bo, bc, so, sc, ao, ac, hv, R.Row.below h1 hb, R.Row.below h2 hb, R.Row.below h3 hb, h4⟩
theorem R.cells6 {w : World} {b : Nat} {v0 v1 v2 v3 v4 v5 : Value} {t : TypeId} (h : w.heap[b]? = some (.cells #[v0, v1, v2, v3, v4, v5] t)) :
    w.cell? ⟨b, 0, none⟩ = some v0 ∧ w.cell? ⟨b, 1, none⟩ = some v1 ∧ w.cell? ⟨b, 2, none⟩ = some v2 ∧ w.cell? ⟨b, 3, none⟩ = some v3 ∧ w.cell? ⟨b, 4, none⟩ = some v4 ∧ w.cell? ⟨b, 5, none⟩ = some v5 :=
  ⟨R.at_box' (i := 0) h rfl, R.at_box' (i := 1) h rfl, R.at_box' (i := 2) h rfl, R.at_box' (i := 3) h rfl, R.at_box' (i := 4) h rfl, R.at_box' (i := 5) h rfl⟩

set_option maxHeartbeats 8000000 in
theorem bareSide_any (w0 w : World) (hB0 : Below w0.heap.size w0 w) (v : Value) (s : R.Side) (R0 : R.SdIs w0 v s) (hl : s.before.length ≤ 1000 ∧ s.source.length ≤ 1000 ∧ s.after.length ≤ 1000) :
    Calls Tryz.prog 27 #[v] w fun e w' => ∃ v', e = .returned v' ∧ R.SdB w0 w.heap.size w' v' (R.bareS s) ∧ Below w.heap.size w w' := by
  obtain ⟨bo, bc, so, sc, ao, ac, rfl, R1, R2, R3, hcu⟩ := R0
  have HC : Hid (∀ X, Below w.heap.size w X → ∀ (xo : Option Addr) (xc : Nat) (x : List R.Item), R.Its w0 (.slice xo x.length xc) x → x.length ≤ 1000 → Calls Tryz.prog 42 #[.slice xo x.length xc] X fun e w' => ∃ yo yc, e = .returned (.slice yo x.length yc) ∧ R.RowB w0 X.heap.size w' (.slice yo x.length yc) (x.map R.bareI) ∧ Below X.heap.size X w') := fun X hX xo xc x hx hlx => by
    refine (bareItems_any w0 X (hB0.trans (hX.mono hB0.size)) _ x hx hlx).mono fun e w' ⟨v', he, hr, hb⟩ => ?_
    obtain ⟨yo, yc, hv⟩ := R.Row.slice hr
    rw [List.length_map] at hv
    subst hv
    exact ⟨yo, yc, he, hr, hb⟩
  have HR : Hid (R.Its w0 (.slice bo s.before.length bc) s.before ∧ R.Its w0 (.slice so s.source.length sc) s.source ∧ R.Its w0 (.slice ao s.after.length ac) s.after) := ⟨R1, R2, R3⟩
  obtain ⟨st, fi, be, sou, af, cu⟩ := s
  simp only at *
  obtain ⟨l1, l2, l3⟩ := hl
  obtain ⟨W0, hW0⟩ : ∃ W0, W0 = (w.alloc (.cells #[.bool st, .bool fi, .slice bo be.length bc, .slice so sou.length sc, .slice ao af.length ac, .int .i64 cu] 47)).alloc (.cells #[.bool false, .bool false, .slice none 0 0, .slice none 0 0, .slice none 0 0, .int .i64 0] 47) := ⟨_, rfl⟩
  have hs0 : W0.heap.size = w.heap.size + 2 := by rw [hW0]; simp
  have hB1 : Below w.heap.size w W0 := by rw [hW0]; exact ((Below.refl _ w).alloc (Nat.le_refl _) _).alloc (by simp) _
  have hH0 : W0.heap[w.heap.size]? = some (.cells #[.bool st, .bool fi, .slice bo be.length bc, .slice so sou.length sc, .slice ao af.length ac, .int .i64 cu] 47) := by
    rw [hW0]; exact (Below.heap_alloc _ _ _ (by simp)).trans (heap_alloc_new w _)
  have hH1 : W0.heap[w.heap.size + 1]? = some (.cells #[.bool false, .bool false, .slice none 0 0, .slice none 0 0, .slice none 0 0, .int .i64 0] 47) := by
    rw [hW0]
    have h := heap_alloc_new (w.alloc (.cells #[.bool st, .bool fi, .slice bo be.length bc, .slice so sou.length sc, .slice ao af.length ac, .int .i64 cu] 47)) (.cells #[.bool false, .bool false, .slice none 0 0, .slice none 0 0, .slice none 0 0, .int .i64 0] 47)
    rw [show (w.alloc (.cells #[.bool st, .bool fi, .slice bo be.length bc, .slice so sou.length sc, .slice ao af.length ac, .int .i64 cu] 47)).heap.size = w.heap.size + 1 by simp] at h
    exact h
  obtain ⟨c0, c1, c2, c3, c4, c5⟩ := R.cells6 hH0
  have HH0 : Hid (W0.heap[w.heap.size]? = some (.cells #[.bool st, .bool fi, .slice bo be.length bc, .slice so sou.length sc, .slice ao af.length ac, .int .i64 cu] 47)) := hH0
  have HH1 : Hid (W0.heap[w.heap.size + 1]? = some (.cells #[.bool false, .bool false, .slice none 0 0, .slice none 0 0, .slice none 0 0, .int .i64 0] 47)) := hH1
  have HB1 : Hid (Below w.heap.size w W0) := hB1
  have HK : Hid (∀ X Y : World, X.heap[w.heap.size]? = some (.cells #[.bool st, .bool fi, .slice bo be.length bc, .slice so sou.length sc, .slice ao af.length ac, .int .i64 cu] 47) → Below X.heap.size X Y → Y.heap[w.heap.size]? = some (.cells #[.bool st, .bool fi, .slice bo be.length bc, .slice so sou.length sc, .slice ao af.length ac, .int .i64 cu] 47)) := fun X Y h hb => R.blk_below h hb
  clear hH0 hH1 hB1 R1 R2 R3
  go_enter Tryz.func27, Tryz.ntmps27
  go_wp2
  rw [← hW0]
  clear hW0
  go_region_held3 (fun w' => w'.cell? ⟨w.heap.size, 0, none⟩ = some (.bool st) ∧ w'.cell? ⟨w.heap.size, 1, none⟩ = some (.bool fi) ∧ w'.cell? ⟨w.heap.size, 2, none⟩ = some (.slice bo be.length bc) ∧ w'.cell? ⟨w.heap.size, 3, none⟩ = some (.slice so sou.length sc) ∧ w'.cell? ⟨w.heap.size, 4, none⟩ = some (.slice ao af.length ac) ∧ w'.cell? ⟨w.heap.size, 5, none⟩ = some (.int .i64 cu))
    (first | with_reducible exact R.cells6 k3 | with_reducible exact R.cells6 k2 | with_reducible exact R.cells6 k1 | go_keep)
    (first
      | (go_at_call 42; refine (HC.out w2 ((HB1.out.drew.trans (z1.mono (by show w.heap.size ≤ W0.heap.size; omega))).trans (z2.mono (by have := z1.size; have h : W0.drew.heap.size = W0.heap.size := rfl; omega))) ao ac af HR.out.2.2 l3).mono ?_; rintro e w3 ⟨b3, m3, rfl, r3, z3⟩; have k3 := HK.out _ _ k2 z3; have q3 : w3.heap[w.heap.size + 1]? = some (.cells #[.bool false, .bool false, .slice none 0 0, .slice none 0 0, .slice none 0 0, .int .i64 0] 47) := R.blk_below (R.blk_below (R.blk_below (w := W0.drew) HH1.out z1) z2) z3; have HQ3 : Hid (w3.heap[w.heap.size + 1]? = some (.cells #[.bool false, .bool false, .slice none 0 0, .slice none 0 0, .slice none 0 0, .int .i64 0] 47)) := q3; obtain ⟨g0, g1, g2, g3, g4, g5⟩ := R.cells6 q3; have f0 := R.free_box (i := 0) q3; have f1 := R.free_box (i := 1) q3; have f2 := R.free_box (i := 2) q3; have f3 := R.free_box (i := 3) q3; have f4 := R.free_box (i := 4) q3; have f5 := R.free_box (i := 5) q3; clear q3)
      | ((fail_if_success (have hz := z2)); go_at_call 42; refine (HC.out w1 (HB1.out.drew.trans (z1.mono (by show w.heap.size ≤ W0.heap.size; omega))) so sc sou HR.out.2.1 l2).mono ?_; rintro e w2 ⟨b2, m2, rfl, r2, z2⟩; have k2 := HK.out _ _ k1 z2)
      | ((fail_if_success (have hz := z1)); go_at_call 42; refine (HC.out _ (HB1.out.drew) bo bc be HR.out.1 l1).mono ?_; rintro e w1 ⟨b1, m1, rfl, r1, z1⟩; have k1 := HK.out W0.drew _ HH0.out z1)
      | fail)
  obtain ⟨hF, hG⟩ := R.put6 HQ3.out (.bool st) (.bool fi) (.slice b1 be.length m1) (.slice b2 sou.length m2) (.slice b3 af.length m3) (.int .i64 cu)
  have hd : W0.drew.heap.size = w.heap.size + 2 := hs0
  have hz1 := z1.size
  have hz2 := z2.size
  have hz3 := z3.size
  have HBz : Hid (Below w.heap.size w w3) := ((HB1.out.drew.trans (z1.mono (by omega))).trans (z2.mono (by omega))).trans (z3.mono (by omega))
  have HF1 : Hid (R.RowB w0 (w.heap.size + 2) w3 (.slice b1 be.length m1) (be.map R.bareI)) := R.Row.below (R.Row.below (R.Row.down r1 (by omega)) z2) z3
  have HF2 : Hid (R.RowB w0 (w.heap.size + 2) w3 (.slice b2 sou.length m2) (sou.map R.bareI)) := R.Row.below (R.Row.down r2 (by omega)) z3
  have HF3 : Hid (R.RowB w0 (w.heap.size + 2) w3 (.slice b3 af.length m3) (af.map R.bareI)) := R.Row.down r3 (by omega)
  clear z1 z2 z3 r1 r2 r3 k1 k2 k3 g0 g1 g2 g3 g4 g5 f0 f1 f2 f3 f4 f5 HC HR
  generalize ((((((w3.setCell ⟨w.heap.size + 1, 0, none⟩ (.bool st)).setCell ⟨w.heap.size + 1, 1, none⟩ (.bool fi)).setCell ⟨w.heap.size + 1, 2, none⟩ (.slice b1 be.length m1)).setCell ⟨w.heap.size + 1, 3, none⟩ (.slice b2 sou.length m2)).setCell ⟨w.heap.size + 1, 4, none⟩ (.slice b3 af.length m3)).setCell ⟨w.heap.size + 1, 5, none⟩ (.int .i64 cu)) = WF at *
  have G1 : R.RowB w0 w.heap.size WF (.slice b1 be.length m1) (be.map R.bareI) := R.Row.down (R.Row.cur HF1.out hG (by omega)) (by omega)
  have G2 : R.RowB w0 w.heap.size WF (.slice b2 sou.length m2) (sou.map R.bareI) := R.Row.down (R.Row.cur HF2.out hG (by omega)) (by omega)
  have G3 : R.RowB w0 w.heap.size WF (.slice b3 af.length m3) (af.map R.bareI) := R.Row.down (R.Row.cur HF3.out hG (by omega)) (by omega)
  have HBF : Hid (Below w.heap.size w WF) := HBz.out.grown hG (by omega) (fun k hk => by have h2 : w.heap.size + 1 = k := Option.some.inj hk; omega)
  have hl := run_loadVar_row (P := Tryz.prog) WF (w.heap.size + 1) 47 47 _ (0, 0) _ hF Tryz.underlying47 rfl (by kernel_rfl)
  have HGs : Hid (R.RowB w0 w.heap.size WF (.slice b1 be.length m1) (be.map R.bareI) ∧ R.RowB w0 w.heap.size WF (.slice b2 sou.length m2) (sou.map R.bareI) ∧ R.RowB w0 w.heap.size WF (.slice b3 af.length m3) (af.map R.bareI)) := ⟨G1, G2, G3⟩
  clear G1 G2 G3 HF1 HF2 HF3 hG hF
  go_wp2
  (try simp only [Exit.inBlock, Exit.then])
  refine bodyPost_ret (v := .agg #[.bool st, .bool fi, .slice b1 be.length m1, .slice b2 sou.length m2, .slice b3 af.length m3, .int .i64 cu]) (by simp [results, Tryz.results27, asAddr, Result.andThen, hl]) rfl ?_
  refine ⟨_, rfl, ⟨b1, m1, b2, m2, b3, m3, by simp [R.bareS], ?_, ?_, ?_, hcu⟩, HBF.out⟩
  · have h := HGs.out.1; unfold R.bareS; simp only [List.length_map]; exact h
  · have h := HGs.out.2.1; unfold R.bareS; simp only [List.length_map]; exact h
  · have h := HGs.out.2.2; unfold R.bareS; simp only [List.length_map]; exact h

end Go.Proofs.YtajbcgobfkaahaaGreatDoor

/-
  Rows of sixteen cells: read, laid, and thirteen of them laid anew.
-/
namespace Go.Proofs.YtajbcgobfkaahaaGreatDoor
open Go.RowKit
set_option maxRecDepth 20000
set_option linter.unusedSimpArgs false
set_option linter.unusedVariables false

theorem R.cells13 {w : World} {b : Nat} {v0 v1 v2 v3 v4 v5 v6 v7 v8 v9 v10 v11 v12 v13 v14 v15 : Value} {t : TypeId} (h : w.heap[b]? = some (.cells #[v0, v1, v2, v3, v4, v5, v6, v7, v8, v9, v10, v11, v12, v13, v14, v15] t)) :
    w.cell? ⟨b, 3, none⟩ = some v3 ∧ w.cell? ⟨b, 4, none⟩ = some v4 ∧ w.cell? ⟨b, 5, none⟩ = some v5 ∧ w.cell? ⟨b, 6, none⟩ = some v6 ∧ w.cell? ⟨b, 7, none⟩ = some v7 ∧ w.cell? ⟨b, 8, none⟩ = some v8 ∧ w.cell? ⟨b, 9, none⟩ = some v9 ∧ w.cell? ⟨b, 10, none⟩ = some v10 ∧ w.cell? ⟨b, 11, none⟩ = some v11 ∧ w.cell? ⟨b, 12, none⟩ = some v12 ∧ w.cell? ⟨b, 13, none⟩ = some v13 ∧ w.cell? ⟨b, 14, none⟩ = some v14 ∧ w.cell? ⟨b, 15, none⟩ = some v15 :=
  ⟨R.at_box' (i := 3) h rfl, R.at_box' (i := 4) h rfl, R.at_box' (i := 5) h rfl, R.at_box' (i := 6) h rfl, R.at_box' (i := 7) h rfl, R.at_box' (i := 8) h rfl, R.at_box' (i := 9) h rfl, R.at_box' (i := 10) h rfl, R.at_box' (i := 11) h rfl, R.at_box' (i := 12) h rfl, R.at_box' (i := 13) h rfl, R.at_box' (i := 14) h rfl, R.at_box' (i := 15) h rfl⟩
theorem R.set_other {b g : Nat} (hne : ¬ b = g) (w : World) (i : Nat) (v : Value) : (w.setCell ⟨g, i, none⟩ v).heap[b]? = w.heap[b]? := heap_setCell_other w ⟨g, i, none⟩ b v hne
theorem R.keep13 {w w' : World} {b : Nat} {v0 v1 v2 v3 v4 v5 v6 v7 v8 v9 v10 v11 v12 v13 v14 v15 : Value} {t : TypeId} (h : w.heap[b]? = some (.cells #[v0, v1, v2, v3, v4, v5, v6, v7, v8, v9, v10, v11, v12, v13, v14, v15] t)) (hk : w'.heap[b]? = w.heap[b]?) :
    w'.cell? ⟨b, 3, none⟩ = some v3 ∧ w'.cell? ⟨b, 4, none⟩ = some v4 ∧ w'.cell? ⟨b, 5, none⟩ = some v5 ∧ w'.cell? ⟨b, 6, none⟩ = some v6 ∧ w'.cell? ⟨b, 7, none⟩ = some v7 ∧ w'.cell? ⟨b, 8, none⟩ = some v8 ∧ w'.cell? ⟨b, 9, none⟩ = some v9 ∧ w'.cell? ⟨b, 10, none⟩ = some v10 ∧ w'.cell? ⟨b, 11, none⟩ = some v11 ∧ w'.cell? ⟨b, 12, none⟩ = some v12 ∧ w'.cell? ⟨b, 13, none⟩ = some v13 ∧ w'.cell? ⟨b, 14, none⟩ = some v14 ∧ w'.cell? ⟨b, 15, none⟩ = some v15 :=
  R.cells13 (hk.trans h)
theorem R.free13 {w : World} {b : Nat} {c : Array Value} {t : TypeId} (h : w.heap[b]? = some (.cells c t)) :
    w.frozen? ⟨b, 3, none⟩ = false ∧ w.frozen? ⟨b, 4, none⟩ = false ∧ w.frozen? ⟨b, 5, none⟩ = false ∧ w.frozen? ⟨b, 6, none⟩ = false ∧ w.frozen? ⟨b, 7, none⟩ = false ∧ w.frozen? ⟨b, 8, none⟩ = false ∧ w.frozen? ⟨b, 9, none⟩ = false ∧ w.frozen? ⟨b, 10, none⟩ = false ∧ w.frozen? ⟨b, 11, none⟩ = false ∧ w.frozen? ⟨b, 12, none⟩ = false ∧ w.frozen? ⟨b, 13, none⟩ = false ∧ w.frozen? ⟨b, 14, none⟩ = false ∧ w.frozen? ⟨b, 15, none⟩ = false :=
  ⟨R.free_box (i := 3) h, R.free_box (i := 4) h, R.free_box (i := 5) h, R.free_box (i := 6) h, R.free_box (i := 7) h, R.free_box (i := 8) h, R.free_box (i := 9) h, R.free_box (i := 10) h, R.free_box (i := 11) h, R.free_box (i := 12) h, R.free_box (i := 13) h, R.free_box (i := 14) h, R.free_box (i := 15) h⟩
set_option maxHeartbeats 4000000 in
theorem R.put13 {w : World} {g : Nat} {v0 v1 v2 v3 v4 v5 v6 v7 v8 v9 v10 v11 v12 v13 v14 v15 : Value} {t : TypeId} (h : w.heap[g]? = some (.cells #[v0, v1, v2, v3, v4, v5, v6, v7, v8, v9, v10, v11, v12, v13, v14, v15] t)) (a3 a4 a5 a6 a7 a8 a9 a10 a11 a12 a13 a14 a15 : Value) :
    (((((((((((((w.setCell ⟨g, 3, none⟩ a3).setCell ⟨g, 4, none⟩ a4).setCell ⟨g, 5, none⟩ a5).setCell ⟨g, 6, none⟩ a6).setCell ⟨g, 7, none⟩ a7).setCell ⟨g, 8, none⟩ a8).setCell ⟨g, 9, none⟩ a9).setCell ⟨g, 10, none⟩ a10).setCell ⟨g, 11, none⟩ a11).setCell ⟨g, 12, none⟩ a12).setCell ⟨g, 13, none⟩ a13).setCell ⟨g, 14, none⟩ a14).setCell ⟨g, 15, none⟩ a15).heap[g]? = some (.cells #[v0, v1, v2, a3, a4, a5, a6, a7, a8, a9, a10, a11, a12, a13, a14, a15] t) ∧ w.grownBy (((((((((((((w.setCell ⟨g, 3, none⟩ a3).setCell ⟨g, 4, none⟩ a4).setCell ⟨g, 5, none⟩ a5).setCell ⟨g, 6, none⟩ a6).setCell ⟨g, 7, none⟩ a7).setCell ⟨g, 8, none⟩ a8).setCell ⟨g, 9, none⟩ a9).setCell ⟨g, 10, none⟩ a10).setCell ⟨g, 11, none⟩ a11).setCell ⟨g, 12, none⟩ a12).setCell ⟨g, 13, none⟩ a13).setCell ⟨g, 14, none⟩ a14).setCell ⟨g, 15, none⟩ a15) (some g) := by
  have h3 : (w.setCell ⟨g, 3, none⟩ a3).heap[g]? = some (.cells #[v0, v1, v2, a3, v4, v5, v6, v7, v8, v9, v10, v11, v12, v13, v14, v15] t) := heap_setCell_same _ g 3 _ t a3 h
  have h4 : ((w.setCell ⟨g, 3, none⟩ a3).setCell ⟨g, 4, none⟩ a4).heap[g]? = some (.cells #[v0, v1, v2, a3, a4, v5, v6, v7, v8, v9, v10, v11, v12, v13, v14, v15] t) := heap_setCell_same _ g 4 _ t a4 h3
  have h5 : (((w.setCell ⟨g, 3, none⟩ a3).setCell ⟨g, 4, none⟩ a4).setCell ⟨g, 5, none⟩ a5).heap[g]? = some (.cells #[v0, v1, v2, a3, a4, a5, v6, v7, v8, v9, v10, v11, v12, v13, v14, v15] t) := heap_setCell_same _ g 5 _ t a5 h4
  have h6 : ((((w.setCell ⟨g, 3, none⟩ a3).setCell ⟨g, 4, none⟩ a4).setCell ⟨g, 5, none⟩ a5).setCell ⟨g, 6, none⟩ a6).heap[g]? = some (.cells #[v0, v1, v2, a3, a4, a5, a6, v7, v8, v9, v10, v11, v12, v13, v14, v15] t) := heap_setCell_same _ g 6 _ t a6 h5
  have h7 : (((((w.setCell ⟨g, 3, none⟩ a3).setCell ⟨g, 4, none⟩ a4).setCell ⟨g, 5, none⟩ a5).setCell ⟨g, 6, none⟩ a6).setCell ⟨g, 7, none⟩ a7).heap[g]? = some (.cells #[v0, v1, v2, a3, a4, a5, a6, a7, v8, v9, v10, v11, v12, v13, v14, v15] t) := heap_setCell_same _ g 7 _ t a7 h6
  have h8 : ((((((w.setCell ⟨g, 3, none⟩ a3).setCell ⟨g, 4, none⟩ a4).setCell ⟨g, 5, none⟩ a5).setCell ⟨g, 6, none⟩ a6).setCell ⟨g, 7, none⟩ a7).setCell ⟨g, 8, none⟩ a8).heap[g]? = some (.cells #[v0, v1, v2, a3, a4, a5, a6, a7, a8, v9, v10, v11, v12, v13, v14, v15] t) := heap_setCell_same _ g 8 _ t a8 h7
  have h9 : (((((((w.setCell ⟨g, 3, none⟩ a3).setCell ⟨g, 4, none⟩ a4).setCell ⟨g, 5, none⟩ a5).setCell ⟨g, 6, none⟩ a6).setCell ⟨g, 7, none⟩ a7).setCell ⟨g, 8, none⟩ a8).setCell ⟨g, 9, none⟩ a9).heap[g]? = some (.cells #[v0, v1, v2, a3, a4, a5, a6, a7, a8, a9, v10, v11, v12, v13, v14, v15] t) := heap_setCell_same _ g 9 _ t a9 h8
  have h10 : ((((((((w.setCell ⟨g, 3, none⟩ a3).setCell ⟨g, 4, none⟩ a4).setCell ⟨g, 5, none⟩ a5).setCell ⟨g, 6, none⟩ a6).setCell ⟨g, 7, none⟩ a7).setCell ⟨g, 8, none⟩ a8).setCell ⟨g, 9, none⟩ a9).setCell ⟨g, 10, none⟩ a10).heap[g]? = some (.cells #[v0, v1, v2, a3, a4, a5, a6, a7, a8, a9, a10, v11, v12, v13, v14, v15] t) := heap_setCell_same _ g 10 _ t a10 h9
  have h11 : (((((((((w.setCell ⟨g, 3, none⟩ a3).setCell ⟨g, 4, none⟩ a4).setCell ⟨g, 5, none⟩ a5).setCell ⟨g, 6, none⟩ a6).setCell ⟨g, 7, none⟩ a7).setCell ⟨g, 8, none⟩ a8).setCell ⟨g, 9, none⟩ a9).setCell ⟨g, 10, none⟩ a10).setCell ⟨g, 11, none⟩ a11).heap[g]? = some (.cells #[v0, v1, v2, a3, a4, a5, a6, a7, a8, a9, a10, a11, v12, v13, v14, v15] t) := heap_setCell_same _ g 11 _ t a11 h10
  have h12 : ((((((((((w.setCell ⟨g, 3, none⟩ a3).setCell ⟨g, 4, none⟩ a4).setCell ⟨g, 5, none⟩ a5).setCell ⟨g, 6, none⟩ a6).setCell ⟨g, 7, none⟩ a7).setCell ⟨g, 8, none⟩ a8).setCell ⟨g, 9, none⟩ a9).setCell ⟨g, 10, none⟩ a10).setCell ⟨g, 11, none⟩ a11).setCell ⟨g, 12, none⟩ a12).heap[g]? = some (.cells #[v0, v1, v2, a3, a4, a5, a6, a7, a8, a9, a10, a11, a12, v13, v14, v15] t) := heap_setCell_same _ g 12 _ t a12 h11
  have h13 : (((((((((((w.setCell ⟨g, 3, none⟩ a3).setCell ⟨g, 4, none⟩ a4).setCell ⟨g, 5, none⟩ a5).setCell ⟨g, 6, none⟩ a6).setCell ⟨g, 7, none⟩ a7).setCell ⟨g, 8, none⟩ a8).setCell ⟨g, 9, none⟩ a9).setCell ⟨g, 10, none⟩ a10).setCell ⟨g, 11, none⟩ a11).setCell ⟨g, 12, none⟩ a12).setCell ⟨g, 13, none⟩ a13).heap[g]? = some (.cells #[v0, v1, v2, a3, a4, a5, a6, a7, a8, a9, a10, a11, a12, a13, v14, v15] t) := heap_setCell_same _ g 13 _ t a13 h12
  have h14 : ((((((((((((w.setCell ⟨g, 3, none⟩ a3).setCell ⟨g, 4, none⟩ a4).setCell ⟨g, 5, none⟩ a5).setCell ⟨g, 6, none⟩ a6).setCell ⟨g, 7, none⟩ a7).setCell ⟨g, 8, none⟩ a8).setCell ⟨g, 9, none⟩ a9).setCell ⟨g, 10, none⟩ a10).setCell ⟨g, 11, none⟩ a11).setCell ⟨g, 12, none⟩ a12).setCell ⟨g, 13, none⟩ a13).setCell ⟨g, 14, none⟩ a14).heap[g]? = some (.cells #[v0, v1, v2, a3, a4, a5, a6, a7, a8, a9, a10, a11, a12, a13, a14, v15] t) := heap_setCell_same _ g 14 _ t a14 h13
  have h15 : (((((((((((((w.setCell ⟨g, 3, none⟩ a3).setCell ⟨g, 4, none⟩ a4).setCell ⟨g, 5, none⟩ a5).setCell ⟨g, 6, none⟩ a6).setCell ⟨g, 7, none⟩ a7).setCell ⟨g, 8, none⟩ a8).setCell ⟨g, 9, none⟩ a9).setCell ⟨g, 10, none⟩ a10).setCell ⟨g, 11, none⟩ a11).setCell ⟨g, 12, none⟩ a12).setCell ⟨g, 13, none⟩ a13).setCell ⟨g, 14, none⟩ a14).setCell ⟨g, 15, none⟩ a15).heap[g]? = some (.cells #[v0, v1, v2, a3, a4, a5, a6, a7, a8, a9, a10, a11, a12, a13, a14, a15] t) := heap_setCell_same _ g 15 _ t a15 h14
  exact ⟨h15, (S.grown_trans (S.grown_trans (S.grown_trans (S.grown_trans (S.grown_trans (S.grown_trans (S.grown_trans (S.grown_trans (S.grown_trans (S.grown_trans (S.grown_trans (S.grown_trans (R.grown_set _ _ _ _) (R.grown_set _ _ _ _)) (R.grown_set _ _ _ _)) (R.grown_set _ _ _ _)) (R.grown_set _ _ _ _)) (R.grown_set _ _ _ _)) (R.grown_set _ _ _ _)) (R.grown_set _ _ _ _)) (R.grown_set _ _ _ _)) (R.grown_set _ _ _ _)) (R.grown_set _ _ _ _)) (R.grown_set _ _ _ _)) (R.grown_set _ _ _ _))⟩
set_option maxHeartbeats 4000000 in
theorem R.lay6 {w : World} {g : Nat} {v0 v1 v2 v3 v4 v5 v6 v7 v8 v9 v10 v11 v12 v13 v14 v15 : Value} {t : TypeId} (h : w.heap[g]? = some (.cells #[v0, v1, v2, v3, v4, v5, v6, v7, v8, v9, v10, v11, v12, v13, v14, v15] t)) (a4 a5 a6 a7 a8 a9 : Value) :
    ((((((w.setCell ⟨g, 4, none⟩ a4).setCell ⟨g, 5, none⟩ a5).setCell ⟨g, 6, none⟩ a6).setCell ⟨g, 7, none⟩ a7).setCell ⟨g, 8, none⟩ a8).setCell ⟨g, 9, none⟩ a9).heap[g]? = some (.cells #[v0, v1, v2, v3, a4, a5, a6, a7, a8, a9, v10, v11, v12, v13, v14, v15] t) := by
  have h4 : (w.setCell ⟨g, 4, none⟩ a4).heap[g]? = some (.cells #[v0, v1, v2, v3, a4, v5, v6, v7, v8, v9, v10, v11, v12, v13, v14, v15] t) := heap_setCell_same _ g 4 _ t a4 h
  have h5 : ((w.setCell ⟨g, 4, none⟩ a4).setCell ⟨g, 5, none⟩ a5).heap[g]? = some (.cells #[v0, v1, v2, v3, a4, a5, v6, v7, v8, v9, v10, v11, v12, v13, v14, v15] t) := heap_setCell_same _ g 5 _ t a5 h4
  have h6 : (((w.setCell ⟨g, 4, none⟩ a4).setCell ⟨g, 5, none⟩ a5).setCell ⟨g, 6, none⟩ a6).heap[g]? = some (.cells #[v0, v1, v2, v3, a4, a5, a6, v7, v8, v9, v10, v11, v12, v13, v14, v15] t) := heap_setCell_same _ g 6 _ t a6 h5
  have h7 : ((((w.setCell ⟨g, 4, none⟩ a4).setCell ⟨g, 5, none⟩ a5).setCell ⟨g, 6, none⟩ a6).setCell ⟨g, 7, none⟩ a7).heap[g]? = some (.cells #[v0, v1, v2, v3, a4, a5, a6, a7, v8, v9, v10, v11, v12, v13, v14, v15] t) := heap_setCell_same _ g 7 _ t a7 h6
  have h8 : (((((w.setCell ⟨g, 4, none⟩ a4).setCell ⟨g, 5, none⟩ a5).setCell ⟨g, 6, none⟩ a6).setCell ⟨g, 7, none⟩ a7).setCell ⟨g, 8, none⟩ a8).heap[g]? = some (.cells #[v0, v1, v2, v3, a4, a5, a6, a7, a8, v9, v10, v11, v12, v13, v14, v15] t) := heap_setCell_same _ g 8 _ t a8 h7
  have h9 : ((((((w.setCell ⟨g, 4, none⟩ a4).setCell ⟨g, 5, none⟩ a5).setCell ⟨g, 6, none⟩ a6).setCell ⟨g, 7, none⟩ a7).setCell ⟨g, 8, none⟩ a8).setCell ⟨g, 9, none⟩ a9).heap[g]? = some (.cells #[v0, v1, v2, v3, a4, a5, a6, a7, a8, a9, v10, v11, v12, v13, v14, v15] t) := heap_setCell_same _ g 9 _ t a9 h8
  exact h9

theorem R.row_lay {w : World} {g : Nat} {t : TypeId} {old : Array Value} (h : w.heap[g]? = some (.cells old t)) (new : Array Value) : (w.setRow g new).heap[g]? = some (.cells new t) ∧ w.grownBy (w.setRow g new) (some g) :=
  ⟨setRow_heap w g old new t _ h, rfl, rfl, rfl, by simp, fun k _ hk => setRow_other w g k _ (fun e => hk (by simp [e]))⟩
theorem R.k_set {w : World} {b g i : Nat} {v : Value} {o : Obj} (h : w.heap[b]? = some o) (hne : ¬ b = g) : (w.setCell ⟨g, i, none⟩ v).heap[b]? = some o := by
  rw [heap_setCell_other w ⟨g, i, none⟩ b v hne]; exact h
theorem R.run_load_at {P : Program} (w : World) (b off : Nat) (ty : TypeId) (cs : Array Value) (d : TypeDesc) (hc : ∀ (j : Nat) v, cs[j]? = some v → w.cell? ⟨b, off + j, none⟩ = some v)
    (hu : P.underlying ty = some d) (hd : (match d with | .struct _ | .array _ _ => true | _ => false) = true) (hi : (P.info? ty).map (·.size) = some cs.size) :
    (loadVar ty ⟨b, off, none⟩).run P w = .ok (.agg cs) w := by
  have hl : (loadCells ⟨b, off, none⟩ cs.toList.length).run P w = .ok cs.toList.toArray w :=
    run_loadCells_list (P := P) w ⟨b, off, none⟩ cs.toList (fun j v hv => by
      rw [L.addr_add]
      exact hc j v (by simpa using hv))
  cases hq : P.info? ty with
  | none => simp [hq] at hi
  | some i =>
    have hs : i.size = cs.size := by simpa [hq] using hi
    have hagg : (isAgg ty).run P w = .ok true w := by
      unfold isAgg
      rw [Sem.run_bind, run_underlying hu w]
      cases d <;> simp_all
    simp only [Array.length_toList, Array.toArray_toList] at hl
    simp [loadVar, Sem.run_bind, hagg, sizeOf, typeInfo, hq, hs, hl]
theorem R.list_load {P : Program} {ops : Array Oper} {rest : List Oper} {o : Oper} {a : Act} {w : World} {Q : Exit → Act → World → Prop} (hgd : o.guard = none) (ty : TypeId) (x : Operand) (ho : o.op = .load ty x)
    (ad : Addr) (v : Value) (hx : a.eval x = .pointer (some ad)) (hrun : (loadVar ty ad).run P w = .ok v w) (h : wpList P ops Q rest (a.put o.dst v) w) : wpList P ops Q (o :: rest) a w :=
  wpList_plain hgd fun K hK => by
    have h' := hK _ _ h
    unfold Oper.wp execOp
    simp only [ho, hx, Instr.loadAt, Instr.sureAddr, Sem.run_bind, Sem.run_pure, Result.andThen_ok, hrun]
    exact h'
theorem R.list_bs {P : Program} {ops : Array Oper} {rest : List Oper} {o : Oper} {a : Act} {w w' : World} {Q : Exit → Act → World → Prop} (hgd : o.guard = none) (t : TypeId) (n : Nat) (x : Operand) (ho : o.op = .buildSlice t n #[(0, x)])
    (u : Value) (hx : a.eval x = u) (v : Value) (hrun : (Instr.buildSlice t n #[(0, u)]).run P w = .ok v w') (h : wpList P ops Q rest (a.put o.dst v) w') : wpList P ops Q (o :: rest) a w :=
  wpList_plain hgd fun K hK => by
    have h' := hK _ _ h
    have hp : ((#[(0, x)] : Array (Nat × Operand)).map fun (i, x) => (i, a.eval x)) = #[(0, u)] := by simp [hx]
    unfold Oper.wp execOp
    simp only [ho, hp, Sem.run_bind, Sem.run_pure, Result.andThen_ok, hrun]
    exact h'


theorem R.step_store {P : Program} {ops : Array Oper} {o : Oper} {a : Act} {w : World} {K : Act → World → Prop} {Q : Exit → Act → World → Prop} {E : Prop} (hgd : o.guard = none) (ty : TypeId) (x y : Operand)
    (ho : o.op = .store ty x y) (ad : Addr) (v : Value) (w' : World) (hx : a.eval x = .pointer (some ad)) (hy : a.eval y = v)
    (hrun : (storeVar ty ad v).run P w = .ok () w') (h : K (a.put o.dst undef) w') :
    if Region.wanted o (yielded ops a.tmps) = true then Oper.wp P o a w K Q else E := by
  have hw : Region.wanted o (yielded ops a.tmps) = true := by simp [Region.wanted, hgd]
  rw [if_pos hw]
  unfold Oper.wp execOp
  simp only [ho, hx, hy, Instr.storeAt, Instr.sureAddr, Sem.run_bind, Sem.run_pure, Result.andThen_ok, hrun]
  exact h

set_option maxHeartbeats 4000000 in
theorem R.st3 {w : World} {g : Nat} {v0 v1 v2 v3 v4 v5 v6 v7 v8 v9 v10 v11 v12 v13 v14 v15 : Value} (h : w.heap[g]? = some (.cells #[v0, v1, v2, v3, v4, v5, v6, v7, v8, v9, v10, v11, v12, v13, v14, v15] 49)) (d : Int) : (storeVar 3 ⟨g, 3, none⟩ (.int .i64 d)).run Tryz.prog w = .ok () (w.setCell ⟨g, 3, none⟩ (.int .i64 d)) := by
  have c := R.at_box' (i := 3) h rfl
  have f := R.free_box (i := 3) h
  go_simp
set_option maxHeartbeats 4000000 in
theorem R.st4 {w : World} {g : Nat} {v0 v1 v2 v3 v4 v5 v6 v7 v8 v9 v10 v11 v12 v13 v14 v15 : Value} (h : w.heap[g]? = some (.cells #[v0, v1, v2, v3, v4, v5, v6, v7, v8, v9, v10, v11, v12, v13, v14, v15] 49)) (xb1 xb2 : Bool) (xo1 xo2 xo3 : Option Addr) (xn1 xn2 xn3 xc1 xc2 xc3 : Nat) (xi : Int) : (storeVar 47 ⟨g, 4, none⟩ (.agg #[.bool xb1, .bool xb2, .slice xo1 xn1 xc1, .slice xo2 xn2 xc2, .slice xo3 xn3 xc3, .int .i64 xi])).run Tryz.prog w = .ok () ((((((w.setCell ⟨g, 4, none⟩ (.bool xb1)).setCell ⟨g, 5, none⟩ (.bool xb2)).setCell ⟨g, 6, none⟩ (.slice xo1 xn1 xc1)).setCell ⟨g, 7, none⟩ (.slice xo2 xn2 xc2)).setCell ⟨g, 8, none⟩ (.slice xo3 xn3 xc3)).setCell ⟨g, 9, none⟩ (.int .i64 xi)) := by
  have c0 : w.cell? ⟨g, 4, none⟩ = some v4 := R.at_box' (i := 4) h rfl
  have f0 := R.free_box (i := 4) h
  have c1 : w.cell? ⟨g, 5, none⟩ = some v5 := R.at_box' (i := 5) h rfl
  have f1 := R.free_box (i := 5) h
  have c2 : w.cell? ⟨g, 6, none⟩ = some v6 := R.at_box' (i := 6) h rfl
  have f2 := R.free_box (i := 6) h
  have c3 : w.cell? ⟨g, 7, none⟩ = some v7 := R.at_box' (i := 7) h rfl
  have f3 := R.free_box (i := 7) h
  have c4 : w.cell? ⟨g, 8, none⟩ = some v8 := R.at_box' (i := 8) h rfl
  have f4 := R.free_box (i := 8) h
  have c5 : w.cell? ⟨g, 9, none⟩ = some v9 := R.at_box' (i := 9) h rfl
  have f5 := R.free_box (i := 9) h
  go_simp
set_option maxHeartbeats 4000000 in
theorem R.st10 {w : World} {g : Nat} {v0 v1 v2 v3 v4 v5 v6 v7 v8 v9 v10 v11 v12 v13 v14 v15 : Value} (h : w.heap[g]? = some (.cells #[v0, v1, v2, v3, v4, v5, v6, v7, v8, v9, v10, v11, v12, v13, v14, v15] 49)) (xb1 xb2 : Bool) (xo1 xo2 xo3 : Option Addr) (xn1 xn2 xn3 xc1 xc2 xc3 : Nat) (xi : Int) : (storeVar 47 ⟨g, 10, none⟩ (.agg #[.bool xb1, .bool xb2, .slice xo1 xn1 xc1, .slice xo2 xn2 xc2, .slice xo3 xn3 xc3, .int .i64 xi])).run Tryz.prog w = .ok () ((((((w.setCell ⟨g, 10, none⟩ (.bool xb1)).setCell ⟨g, 11, none⟩ (.bool xb2)).setCell ⟨g, 12, none⟩ (.slice xo1 xn1 xc1)).setCell ⟨g, 13, none⟩ (.slice xo2 xn2 xc2)).setCell ⟨g, 14, none⟩ (.slice xo3 xn3 xc3)).setCell ⟨g, 15, none⟩ (.int .i64 xi)) := by
  have c0 : w.cell? ⟨g, 10, none⟩ = some v10 := R.at_box' (i := 10) h rfl
  have f0 := R.free_box (i := 10) h
  have c1 : w.cell? ⟨g, 11, none⟩ = some v11 := R.at_box' (i := 11) h rfl
  have f1 := R.free_box (i := 11) h
  have c2 : w.cell? ⟨g, 12, none⟩ = some v12 := R.at_box' (i := 12) h rfl
  have f2 := R.free_box (i := 12) h
  have c3 : w.cell? ⟨g, 13, none⟩ = some v13 := R.at_box' (i := 13) h rfl
  have f3 := R.free_box (i := 13) h
  have c4 : w.cell? ⟨g, 14, none⟩ = some v14 := R.at_box' (i := 14) h rfl
  have f4 := R.free_box (i := 14) h
  have c5 : w.cell? ⟨g, 15, none⟩ = some v15 := R.at_box' (i := 15) h rfl
  have f5 := R.free_box (i := 15) h
  go_simp
set_option maxHeartbeats 4000000 in
theorem R.stores {w : World} {g : Nat} {v0 v1 v2 v3 v4 v5 v6 v7 v8 v9 v10 v11 v12 v13 v14 v15 : Value} (h : w.heap[g]? = some (.cells #[v0, v1, v2, v3, v4, v5, v6, v7, v8, v9, v10, v11, v12, v13, v14, v15] 49)) (d : Int) (xb1 xb2 : Bool) (xo1 xo2 xo3 : Option Addr) (xn1 xn2 xn3 xc1 xc2 xc3 : Nat) (xi : Int) (yb1 yb2 : Bool) (yo1 yo2 yo3 : Option Addr) (yn1 yn2 yn3 yc1 yc2 yc3 : Nat) (yi : Int) :
    ∃ X3 X4 X5, (storeVar 3 ⟨g, 3, none⟩ (.int .i64 d)).run Tryz.prog w = .ok () X3 ∧ (storeVar 47 ⟨g, 4, none⟩ (.agg #[.bool xb1, .bool xb2, .slice xo1 xn1 xc1, .slice xo2 xn2 xc2, .slice xo3 xn3 xc3, .int .i64 xi])).run Tryz.prog X3 = .ok () X4 ∧ (storeVar 47 ⟨g, 10, none⟩ (.agg #[.bool yb1, .bool yb2, .slice yo1 yn1 yc1, .slice yo2 yn2 yc2, .slice yo3 yn3 yc3, .int .i64 yi])).run Tryz.prog X4 = .ok () X5 ∧ X5.heap[g]? = some (.cells #[v0, v1, v2, .int .i64 d, .bool xb1, .bool xb2, .slice xo1 xn1 xc1, .slice xo2 xn2 xc2, .slice xo3 xn3 xc3, .int .i64 xi, .bool yb1, .bool yb2, .slice yo1 yn1 yc1, .slice yo2 yn2 yc2, .slice yo3 yn3 yc3, .int .i64 yi] 49) ∧ w.grownBy X3 (some g) ∧ w.grownBy X4 (some g) ∧ w.grownBy X5 (some g) := by
  have x3 : (w.setCell ⟨g, 3, none⟩ (.int .i64 d)).heap[g]? = some (.cells #[v0, v1, v2, .int .i64 d, v4, v5, v6, v7, v8, v9, v10, v11, v12, v13, v14, v15] 49) := heap_setCell_same _ _ 3 _ _ _ h
  have x4 : (((((((w.setCell ⟨g, 3, none⟩ (.int .i64 d)).setCell ⟨g, 4, none⟩ (.bool xb1)).setCell ⟨g, 5, none⟩ (.bool xb2)).setCell ⟨g, 6, none⟩ (.slice xo1 xn1 xc1)).setCell ⟨g, 7, none⟩ (.slice xo2 xn2 xc2)).setCell ⟨g, 8, none⟩ (.slice xo3 xn3 xc3)).setCell ⟨g, 9, none⟩ (.int .i64 xi)).heap[g]? = some (.cells #[v0, v1, v2, .int .i64 d, .bool xb1, .bool xb2, .slice xo1 xn1 xc1, .slice xo2 xn2 xc2, .slice xo3 xn3 xc3, .int .i64 xi, v10, v11, v12, v13, v14, v15] 49) := R.lay6 x3 (.bool xb1) (.bool xb2) (.slice xo1 xn1 xc1) (.slice xo2 xn2 xc2) (.slice xo3 xn3 xc3) (.int .i64 xi)
  have p5 := R.put13 h (.int .i64 d) (.bool xb1) (.bool xb2) (.slice xo1 xn1 xc1) (.slice xo2 xn2 xc2) (.slice xo3 xn3 xc3) (.int .i64 xi) (.bool yb1) (.bool yb2) (.slice yo1 yn1 yc1) (.slice yo2 yn2 yc2) (.slice yo3 yn3 yc3) (.int .i64 yi)
  exact ⟨_, _, _, R.st3 h d, R.st4 x3 xb1 xb2 xo1 xo2 xo3 xn1 xn2 xn3 xc1 xc2 xc3 xi, R.st10 x4 yb1 yb2 yo1 yo2 yo3 yn1 yn2 yn3 yc1 yc2 yc3 yi, p5.1, R.grown_set _ _ _ _, (S.grown_trans (S.grown_trans (S.grown_trans (S.grown_trans (S.grown_trans (S.grown_trans (R.grown_set _ _ _ _) (R.grown_set _ _ _ _)) (R.grown_set _ _ _ _)) (R.grown_set _ _ _ _)) (R.grown_set _ _ _ _)) (R.grown_set _ _ _ _)) (R.grown_set _ _ _ _)), p5.2⟩
set_option maxHeartbeats 4000000 in
theorem R.bs_run (w : World) (v0 v1 v2 v3 v4 v5 v6 v7 v8 v9 v10 v11 v12 v13 v14 v15 : Value)  : (Instr.buildSlice 22 1 #[(0, .agg #[v0, v1, v2, v3, v4, v5, v6, v7, v8, v9, v10, v11, v12, v13, v14, v15])]).run Tryz.prog w = .ok (.slice (some ⟨w.heap.size, 0, none⟩) 1 1) (w.alloc (.cells #[v0, v1, v2, v3, v4, v5, v6, v7, v8, v9, v10, v11, v12, v13, v14, v15] 49)) := by
  first | kernel_rfl | go_simp
end Go.Proofs.YtajbcgobfkaahaaGreatDoor
