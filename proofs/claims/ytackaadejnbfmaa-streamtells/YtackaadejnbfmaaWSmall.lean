/-
  The document's Feed.
-/
import Derived.Test.YtackaadejnbfmaaWRefL
import Derived.Test.YtackaadejnbfmaaQWrongR
import Derived.Test.YtackaadejnbfmaaQNe
import Derived.Test.YtackaadejnbfmaaYLook
namespace Go.Proofs.Ytackaadejnbfmaa
open Go.RowKit Go.Lib
set_option maxRecDepth 20000
set_option linter.unusedSimpArgs false
set_option linter.unusedVariables false

namespace Ws
/-- what the document answers -/
def Ans (w' : World) (l : List K.Rule) (cs : List (List Int)) (en : Bool) (v' : Value) (n f1 f2 : Int) : Prop :=
  (en = true → ∃ ts, feedF l (K.ahead l) cs = (ts, f1, f2) ∧ Rd w' v' ts) ∧ (en = false → waitF l (K.ahead l) cs = (n, f1, f2))
theorem Rd.nil (w : World) : Rd w (.slice none 0 0) [] := ⟨none, 0, rfl, fun _ => rfl, fun h => absurd rfl h⟩
theorem Ans.bad {w' : World} {l : List K.Rule} {cs : List (List Int)} {en : Bool} {o1 o2 : Int} {os : St} (h : all l (K.ahead l) cs = (o1, o2, os)) (h0 : ¬ o1 = 0) : Ans w' l cs en (.slice none 0 0) 0 o1 o2 := by
  refine ⟨fun _ => ⟨[], ?_, Rd.nil _⟩, fun _ => ?_⟩
  · unfold feedF; rw [h, if_pos h0]
  · unfold waitF; rw [h, if_pos h0]
/-- where the document's loop over the pieces stands -/
structure Lp (W2 wr : World) (sb : Nat) (xo : Option Addr) (xc : Nat) (vo : Value) (s : St) : Prop where
  top : sb + 1 = W2.heap.size
  box : Bx wr sb xo (s.A ++ s.Z).length xc s.A.length s.steps
  rd : L.Rd wr (.slice xo (s.A ++ s.Z).length xc) .i32 (s.A ++ s.Z)
  cap : (s.A ++ s.Z).length ≤ xc
  row : Row wr xo
  own : Own W2.heap.size wr vo s.told
  bel : Below sb W2 wr
theorem Lp.below {W2 wr w' : World} {sb : Nat} {xo : Option Addr} {xc : Nat} {vo : Value} {s : St} (h : Lp W2 wr sb xo xc vo s) (hb : Below wr.heap.size wr w') : Lp W2 w' sb xo xc vo s :=
  ⟨h.top, K.blk_below h.box hb, h.rd.below hb (Nat.le_refl _), h.cap, h.row.below hb, h.own.kept fun g _ hg => hb.block g hg, h.bel.trans (hb.mono (by have := lt_of_block h.box; omega))⟩
end Ws

set_option maxHeartbeats 32000000 in
theorem rFeed_any (w : World) (vl : Value) (l : List K.Rule) (R0 : V.Rus w vl l) (vc : Value) (cs : List (List Int)) (Rc : Ws.Rd w vc cs) (hcs : ∀ c ∈ cs, c.length ≤ 140737488355328) (hcl : cs.length ≤ 140737488355328) (en : Bool) :
    Calls Try.prog 11 #[vl, vc, .bool en] w fun e w' => ∃ v' n f1 f2, e = .returned (.tuple #[v', .int .i64 n, .agg #[.int .i64 f1, .int .i64 f2]]) ∧ Below w.heap.size w w' ∧ Ws.Ans w' l cs en v' n f1 f2 := by
  have HA : Hid (∀ o, Below w.heap.size w (w.alloc o)) := fun o => (Below.refl _ w).alloc (Nat.le_refl _) o
  have HR : Hid (V.Rus w vl l ∧ Ws.Rd w vc cs ∧ ∀ c ∈ cs, c.length ≤ 140737488355328) := ⟨R0, Rc, hcs⟩
  have HWr : Hid (∀ o, Calls Try.prog 17 #[vl] (w.alloc o) fun e w' => e = .returned (.agg #[.int .i64 (K.rulesF l).1, .int .i64 (K.rulesF l).2]) ∧ Below (w.alloc o).heap.size (w.alloc o) w') := fun o => rWrong8_any _ _ l (R0.below (HA.out o))
  obtain ⟨⟨o1, o2, os⟩, hO⟩ : ∃ o, Ws.all l (K.ahead l) cs = o := ⟨_, rfl⟩
  have HO : Hid (Ws.all l (K.ahead l) cs = (o1, o2, os)) := hO
  obtain ⟨ao, cap, rfl⟩ := R0.len
  obtain ⟨co, cc, rfl, _⟩ := Rc
  obtain ⟨⟨r1, r2⟩, hru⟩ : ∃ o, K.rulesF l = o := ⟨_, rfl⟩
  have HRu : Hid (K.rulesF l = (r1, r2)) := hru
  rw [hru] at HWr
  simp only at HWr
  clear hru hO R0 hcs
  go_enter Try.func11, Try.ntmps11
  go_wp2_with fail
  go_at_call 17
  refine (HWr.out _).mono ?_
  rintro e w1 ⟨rfl, b1⟩
  obtain ⟨h1, B1, s1⟩ := K.one_box b1
  have HB1 : Hid (Below w.heap.size w w1) := B1
  have HX1 : Hid (w1.heap[w.heap.size]? = some (.cells #[.int .i64 0, .int .i64 0] 28)) := h1
  obtain ⟨x0, x1, f0, f1⟩ := K.box2 h1
  have k0 : ∀ o, (w1.alloc o).cell? ⟨w.heap.size, 0, none⟩ = some (.int .i64 0) := fun o => K.alloc_cell x0 o
  have k1 : ∀ o, (w1.alloc o).cell? ⟨w.heap.size, 1, none⟩ = some (.int .i64 0) := fun o => K.alloc_cell x1 o
  have g0 : ∀ o i, (w1.alloc o).frozen? ⟨w.heap.size, i, none⟩ = false := fun o i => K.alloc_free h1 o i
  have HB2 : Hid (∀ o, Below w.heap.size w (w1.alloc o)) := fun o => HB1.out.alloc (by omega) o
  clear b1 B1 HWr x0 x1 f0 f1 h1
  by_cases q : r1 = 0
  · subst q
    obtain ⟨hl2, hE, hz⟩ := K.rulesF_zero (l := l) (by rw [HRu.out])
    have hr2 : r2 = 0 := by rw [HRu.out] at hz; exact (Prod.mk.inj hz).2
    subst hr2
    have hall : Ws.all l (K.ahead l) cs = if 200 < cs.length then (5, 0, Ws.start) else Ws.feed l (K.ahead l) 0 cs Ws.start := by
      unfold Ws.all
      rw [if_neg (by simp [HRu.out])]
    rw [HO.out] at hall
    have HE : Hid (∀ r ∈ l, K.ruleE r = 0) := hE
    have HAll : Hid (_ = _) := hall
    clear hE hall hz
    by_cases hc200 : 200 < cs.length
    · have h2 := HAll.out
      rw [if_pos hc200] at h2
      simp only [Prod.mk.injEq] at h2
      obtain ⟨rfl, rfl, rfl⟩ := h2
      have hci : (200 : Int) < (cs.length : Int) := by omega
      clear HAll
      go_wp2
      refine bodyPost_ret (v := .tuple #[.slice none 0 0, .int .i64 0, .agg #[.int .i64 5, .int .i64 0]]) (by simp [results, Try.results11, go_sem, *]) rfl ?_
      exact ⟨_, _, _, _, rfl, ((HB2.out _).setCell (p := ⟨w.heap.size, 0, none⟩) (Nat.le_refl _) _).setCell (p := ⟨w.heap.size, 1, none⟩) (Nat.le_refl _) _, Ws.Ans.bad HO.out (by decide)⟩
    · have h2 := HAll.out
      rw [if_neg hc200] at h2
      obtain ⟨ah, hah⟩ : ∃ ah, ah = K.ahead l := ⟨_, rfl⟩
      have HFd : Hid (Ws.feed l ah 0 cs Ws.start = (o1, o2, os)) := by rw [hah]; exact h2.symm
      have HAh : Hid (ah = K.ahead l) := hah
      have hci : ¬ (200 : Int) < (cs.length : Int) := by omega
      clear HAll h2 hah k0 k1 g0
      obtain ⟨W2, hW2⟩ : ∃ W2, W2 = (w1.alloc (.cells #[.int .i64 0, .int .i64 0] 28)).alloc (.cells #[.slice none 0 0, .int .i64 0, .int .i64 0] 77) := ⟨_, rfl⟩
      have hB2 : Below w1.heap.size w1 W2 := by rw [hW2]; exact ((Below.refl _ w1).alloc (Nat.le_refl _) _).alloc (by simp) _
      have hs2 : w1.heap.size + 1 + 1 = W2.heap.size := by rw [hW2]; simp
      have hbx : Ws.Bx W2 (w1.heap.size + 1) none 0 0 0 0 := by
        rw [hW2]
        show (((w1.heap.push _).push _))[w1.heap.size + 1]? = _
        rw [Array.getElem?_push, if_pos (by simp)]
      have HLp : Hid (Ws.Lp W2 W2 (w1.heap.size + 1) none 0 (.slice none 0 0) Ws.start) := ⟨hs2, hbx, ⟨none, 0, rfl, fun _ => rfl, fun h => absurd rfl h⟩, Nat.le_refl _, fun a h => by (cases h), Ws.Own.nil _ _, Below.refl _ _⟩
      have HW2 : Hid (W2.heap[w.heap.size]? = some (.cells #[.int .i64 0, .int .i64 0] 28) ∧ Below w.heap.size w W2 ∧ w.heap.size < w1.heap.size + 1) := ⟨K.blk_below HX1.out hB2, HB1.out.trans (hB2.mono (by omega)), by omega⟩
      have HW2e : Hid (W2 = (w1.alloc (.cells #[.int .i64 0, .int .i64 0] 28)).alloc (.cells #[.slice none 0 0, .int .i64 0, .int .i64 0] 77)) := hW2
      clear hW2 hB2 hs2 hbx HB2 HX1 HB1
      go_wp2
      rw [← HW2e.out]
      clear HW2e
      obtain ⟨sb, hsb⟩ : ∃ sb, sb = w1.heap.size + 1 := ⟨_, rfl⟩
      rw [← hsb] at HLp HW2
      rw [← hsb]
      clear hsb s1
      go_loopw [11, 12, 13, 33] (fun i11 i12 i13 i33 wr => ∃ (k : Nat) (s : Ws.St) (xo : Option Addr) (xc : Nat) (vo : Option Addr) (vc : Nat), k ≤ cs.length ∧ i33 = .int .i64 k ∧ i11 = .slice vo s.told.length vc ∧ i12 = .int .i64 s.came ∧ i13 = .int .i64 s.A.length ∧ Hid (Ws.Lp W2 wr sb xo xc (.slice vo s.told.length vc) s) ∧ Hid (Ws.feed l ah k (cs.drop k) s = (o1, o2, os)) ∧ Hid s.Ok ∧ s.told.length ≤ k) (fun _ _ _ i33 _ => cs.length - (RowKit.intOf i33).toNat)
      case atStart => exact ⟨0, Ws.start, none, 0, none, 0, Nat.zero_le _, rfl, rfl, rfl, rfl, HLp, HFd, Ws.start_ok, by simp [Ws.start]⟩
      case round =>
        obtain ⟨k, s, xo, xc, vo, vc, hk, rfl, rfl, rfl, rfl, HL, HGr, HOk, htl⟩ := hrel
        obtain ⟨A, Z, came, steps, ts⟩ := s
        have hfew := HOk.out.few
        have hcam := HOk.out.came
        have hste := HOk.out.steps
        simp only at hfew hcam hste HL HGr HOk htl
        have hBw : Below w.heap.size w wr := HW2.out.2.1.trans (HL.out.bel.mono (by have := HW2.out.2.2; omega))
        have hrb : wr.heap[w.heap.size]? = some (.cells #[.int .i64 0, .int .i64 0] 28) := (HL.out.bel.block _ HW2.out.2.2).trans HW2.out.1
        have hsbw : w.heap.size < sb := HW2.out.2.2
        obtain ⟨N, hN⟩ : ∃ N, N = (A ++ Z).length := ⟨_, rfl⟩
        have hlen : (A ++ Z).length = A.length + Z.length := List.length_append
        have hn1 : N ≤ A.length + Z.length := by omega
        have hn2 : A.length + Z.length ≤ N := by omega
        have HN : Hid (N = (A ++ Z).length) := hN
        have x0 : wr.cell? ⟨sb, 0, none⟩ = some (.slice xo N xc) := by rw [hN]; exact K.at_box (i := 0) HL.out.box rfl
        have x1 : wr.cell? ⟨sb, 1, none⟩ = some (.int .i64 A.length) := K.at_box (i := 1) HL.out.box rfl
        have x2 : wr.cell? ⟨sb, 2, none⟩ = some (.int .i64 steps) := K.at_box (i := 2) HL.out.box rfl
        have fx : ∀ i, wr.frozen? ⟨sb, i, none⟩ = false := fun i => frozen_of_row wr _ i _ _ HL.out.box
        have HBw : Hid (Below w.heap.size w wr ∧ wr.heap[w.heap.size]? = some (.cells #[.int .i64 0, .int .i64 0] 28)) := ⟨hBw, hrb⟩
        clear hN hlen hBw hrb HLp HFd
        by_cases hlt : k < cs.length
        · obtain ⟨c, hc⟩ : ∃ c, cs[k]? = some c := ⟨cs[k], by simp [hlt]⟩
          obtain ⟨co', cc', e', _, hcell⟩ := HR.out.2.1
          cases e'
          obtain ⟨b, off, rfl, hcl2⟩ := hcell (by intro h; subst h; simp at hlt)
          obtain ⟨u, hu, hRu⟩ := hcl2 k c hc
          have ku : wr.cell? ⟨b, off + k, none⟩ = some u := by rw [HBw.out.1.cell (p := ⟨b, off + k, none⟩) (L.block_lt hu)]; exact hu
          obtain ⟨uo, uc, rfl, _⟩ := id hRu
          obtain ⟨n, hn⟩ : ∃ n, n = c.length := ⟨_, rfl⟩
          have HRu2 : Hid (∀ W, Below w.heap.size w W → L.Rd W (.slice uo n uc) .i32 c) := fun W hW => by rw [hn]; exact hRu.below hW (Nat.le_refl _)
          have hcn : n ≤ 140737488355328 := by rw [hn]; exact HR.out.2.2 c (List.mem_of_getElem? hc)
          have HTx : Hid (Calls Try.prog 18 #[.slice uo n uc] wr fun e w' => e = .returned (.int .i64 (K.textE c)) ∧ Below wr.heap.size wr w') := rText_any wr _ c (HRu2.out wr HBw.out.1) (by omega)
          rw [← hn] at ku
          have HGs : Hid (Ws.feed l ah k (cs.drop k) ⟨A, Z, came, steps, ts⟩ = if (Ws.take l ah ⟨A, Z, came, steps, ts⟩ c).1 = 0 then Ws.feed l ah (k + 1) (cs.drop (k + 1)) (Ws.take l ah ⟨A, Z, came, steps, ts⟩ c).2 else ((Ws.take l ah ⟨A, Z, came, steps, ts⟩ c).1, (k : Int), ⟨A, Z, came, steps, ts⟩)) := Ws.feed_drop hc
          have HTo : Hid ((Ws.take l ah ⟨A, Z, came, steps, ts⟩ c).1 = 0 → (Ws.take l ah ⟨A, Z, came, steps, ts⟩ c).2.Ok ∧ (Ws.take l ah ⟨A, Z, came, steps, ts⟩ c).2.told.length = ts.length + 1) := fun h => ⟨Ws.take_ok HOk.out h, Ws.take_told h⟩
          have HNc : Hid (n = c.length) := hn
          obtain ⟨y0, y1, f0, f1⟩ := K.box2 HBw.out.2
          clear hu hRu hcell hcl2 hc hn
          by_cases hm1 : 4000 < came + n
          · have htk : Ws.take l ah ⟨A, Z, came, steps, ts⟩ c = (4, ⟨A, Z, came, steps, ts⟩) := by
              unfold Ws.take
              rw [if_pos (.inl (by simp only; have := HNc.out; omega))]
            have hg := HGs.out
            rw [htk, if_neg (by simp), HGr.out] at hg
            simp only [Prod.mk.injEq] at hg
            obtain ⟨rfl, rfl, rfl⟩ := hg
            have hci1 : (4000 : Int) < (came : Int) + (n : Int) := by omega
            clear HGs HTo HGr HTx
            go_wp2
            refine bodyPost_ret (v := .tuple #[.slice none 0 0, .int .i64 0, .agg #[.int .i64 4, .int .i64 k]]) (by simp [results, Try.results11, go_sem, *]) rfl ?_
            exact ⟨_, _, _, _, rfl, ((HBw.out.1).setCell (p := ⟨w.heap.size, 0, none⟩) (Nat.le_refl _) _).setCell (p := ⟨w.heap.size, 1, none⟩) (Nat.le_refl _) _, Ws.Ans.bad HO.out (by decide)⟩
          · by_cases hm2 : 4000 < N + n
            · have htk : Ws.take l ah ⟨A, Z, came, steps, ts⟩ c = (4, ⟨A, Z, came, steps, ts⟩) := by
                unfold Ws.take
                rw [if_pos (.inr (by simp only; have := HNc.out; omega))]
              have hg := HGs.out
              rw [htk, if_neg (by simp), HGr.out] at hg
              simp only [Prod.mk.injEq] at hg
              obtain ⟨rfl, rfl, rfl⟩ := hg
              have hci1 : ¬ (4000 : Int) < (came : Int) + (n : Int) := by omega
              have hci2 : (4000 : Int) < (N : Int) + (n : Int) := by omega
              clear HGs HTo HGr HTx
              go_wp2
              refine bodyPost_ret (v := .tuple #[.slice none 0 0, .int .i64 0, .agg #[.int .i64 4, .int .i64 k]]) (by simp [results, Try.results11, go_sem, *]) rfl ?_
              exact ⟨_, _, _, _, rfl, ((HBw.out.1).setCell (p := ⟨w.heap.size, 0, none⟩) (Nat.le_refl _) _).setCell (p := ⟨w.heap.size, 1, none⟩) (Nat.le_refl _) _, Ws.Ans.bad HO.out (by decide)⟩
            · have hci1 : ¬ (4000 : Int) < (came : Int) + (n : Int) := by omega
              have hci2 : ¬ (4000 : Int) < (N : Int) + (n : Int) := by omega
              have htk0 : Ws.take l ah ⟨A, Z, came, steps, ts⟩ c = if K.textE c ≠ 0 then (K.textE c, ⟨A, Z, came, steps, ts⟩) else ((Ws.go l false ah (8 * (came + n) + 40 - steps) A (Z ++ c)).1, ⟨(Ws.go l false ah (8 * (came + n) + 40 - steps) A (Z ++ c)).2.2.1, (Ws.go l false ah (8 * (came + n) + 40 - steps) A (Z ++ c)).2.2.2, came + n, 8 * (came + n) + 40 - (Ws.go l false ah (8 * (came + n) + 40 - steps) A (Z ++ c)).2.1, ts ++ [(Ws.go l false ah (8 * (came + n) + 40 - steps) A (Z ++ c)).2.2.1.drop A.length]⟩) := by
                unfold Ws.take
                rw [if_neg (by simp only; have := HNc.out; omega)]
                rw [HNc.out]
                rfl
              have HTk : Hid (_ = _) := htk0
              clear htk0
              go_wp2_with fail
              go_at_call 18
              refine HTx.out.mono ?_
              rintro e w3 ⟨rfl, b3⟩
              have HL3 : Hid (Ws.Lp W2 w3 sb xo xc (.slice vo ts.length vc) ⟨A, Z, came, steps, ts⟩) := HL.out.below b3
              have hb3 : Below w.heap.size w w3 := HBw.out.1.trans (b3.mono HBw.out.1.size)
              have HB3 : Hid (Below w.heap.size w w3 ∧ w3.heap[w.heap.size]? = some (.cells #[.int .i64 0, .int .i64 0] 28)) := ⟨hb3, K.blk_below HBw.out.2 b3⟩
              clear b3 hb3 HTx x0 x1 x2 fx y0 y1 f0 f1 ku HL
              obtain ⟨y0, y1, f0, f1⟩ := K.box2 HB3.out.2
              by_cases qe : K.textE c = 0
              · rw [qe]
                have htk := HTk.out
                rw [if_neg (by simp [qe])] at htk
                obtain ⟨⟨p1, pL, pA, pZ⟩, hgo⟩ : ∃ o, Ws.go l false ah (8 * (came + n) + 40 - steps) A (Z ++ c) = o := ⟨_, rfl⟩
                rw [hgo] at htk
                simp only at htk
                rw [htk] at HGs HTo
                simp only at HGs HTo
                have hM4 : A.length + (Z ++ c).length ≤ 4000 := by
                  rw [List.length_append]
                  have := HNc.out
                  omega
                obtain ⟨po, pc, w4, vo4, vc4, w5, run1, run2, own5, hle5, b5⟩ := Ws.app_two w3 (.slice xo (A ++ Z).length xc) (.slice uo n uc) (A ++ Z) c HL3.out.rd (HRu2.out w3 HB3.out.1) (by rw [List.length_append]; have := HNc.out; omega)
                rw [← HN.out] at run1 run2
                obtain ⟨M, hM⟩ : ∃ M, M = (A ++ Z ++ c).length := ⟨_, rfl⟩
                have hbx5 : Ws.Bx w5 sb xo (A ++ Z).length xc A.length steps := K.blk_below HL3.out.box b5
                have hbx6 : Ws.Bx (w5.setCell ⟨sb, 0, none⟩ (.slice vo4 (A ++ Z ++ c).length vc4)) sb vo4 (A ++ Z ++ c).length vc4 A.length steps := heap_setCell_same w5 sb 0 _ _ _ hbx5
                have hbel : Below w.heap.size w (w5.setCell ⟨sb, 0, none⟩ (.slice vo4 (A ++ Z ++ c).length vc4)) := (HB3.out.1.trans (b5.mono HB3.out.1.size)).setCell (p := ⟨sb, 0, none⟩) (by simp; omega) _
                have hrd6 : L.Rd (w5.setCell ⟨sb, 0, none⟩ (.slice vo4 (A ++ Z ++ c).length vc4)) (.slice vo4 (A ++ Z ++ c).length vc4) .i32 (A ++ Z ++ c) := Ws.rd_set3 (L.Rd.of_owns own5) hbx5 0 _
                have hrow6 : Ws.Row (w5.setCell ⟨sb, 0, none⟩ (.slice vo4 (A ++ Z ++ c).length vc4)) vo4 := (Ws.Row.own own5).set hbx5 (by decide) 0 _
                have hown6 : Ws.Own W2.heap.size (w5.setCell ⟨sb, 0, none⟩ (.slice vo4 (A ++ Z ++ c).length vc4)) (.slice vo ts.length vc) ts := HL3.out.own.kept fun g hg1 hg2 => by
                  have := HL3.out.top
                  rw [heap_setCell_other w5 ⟨sb, 0, none⟩ g _ (by simp; omega)]
                  exact b5.block g hg2
                have hb6 : Below sb W2 (w5.setCell ⟨sb, 0, none⟩ (.slice vo4 (A ++ Z ++ c).length vc4)) := (HL3.out.bel.trans (b5.mono (by have := lt_of_block HL3.out.box; omega))).setCell (p := ⟨sb, 0, none⟩) (Nat.le_refl _) _
                have hGo := rGo_any (w5.setCell ⟨sb, 0, none⟩ (.slice vo4 (A ++ Z ++ c).length vc4)) (.slice ao l.length cap) l (HR.out.1.below hbel) hl2 HE.out vo4 vc4 A (Z ++ c) (by rw [← List.append_assoc]; exact hrd6) (by rw [← List.append_assoc]; exact hle5) hrow6 hM4 steps (came + n) (by omega) (by omega) false p1 pL pA pZ (by rw [← HAh.out]; exact hgo)
                rw [← List.append_assoc, ← hM] at hGo
                rw [← hM] at run2 hbx6 hbel hown6 hb6
                have HGo : Hid (Calls Try.prog 24 #[.slice ao l.length cap, .agg #[.slice vo4 M vc4, .int .i64 A.length, .int .i64 steps], .int .i64 ((came : Int) + (n : Int)), .bool false] (w5.setCell ⟨sb, 0, none⟩ (.slice vo4 M vc4)) fun e w' => ∃ (xo' : Option Addr) (n' xc' : Nat) (k' st' : Int), e = .returned (.tuple #[.agg #[.slice xo' n' xc', .int .i64 k', .int .i64 st'], .int .i64 p1]) ∧ Below (w5.setCell ⟨sb, 0, none⟩ (.slice vo4 M vc4)).heap.size (w5.setCell ⟨sb, 0, none⟩ (.slice vo4 M vc4)) w' ∧ Ws.Gone w' p1 pL pA pZ (came + n) xo' n' xc' k' st') := hGo
                have H6 : Hid (Ws.Bx (w5.setCell ⟨sb, 0, none⟩ (.slice vo4 M vc4)) sb vo4 M vc4 A.length steps ∧ Below w.heap.size w (w5.setCell ⟨sb, 0, none⟩ (.slice vo4 M vc4)) ∧ Ws.Own W2.heap.size (w5.setCell ⟨sb, 0, none⟩ (.slice vo4 M vc4)) (.slice vo ts.length vc) ts ∧ Below sb W2 (w5.setCell ⟨sb, 0, none⟩ (.slice vo4 M vc4))) := ⟨hbx6, hbel, hown6, hb6⟩
                have HPg : Hid (p1 = 0 → pA.length + pZ.length ≤ 4000 ∧ A.length ≤ pA.length) := fun h => by
                  have hh := Ws.go_ok (l := l) (fin := false) (ah := ah) (left := 8 * (came + n) + 40 - steps) (A := A) (Z := Z ++ c) hM4
                  rw [hgo] at hh
                  exact ⟨(hh h).2.1, (hh h).2.2.1⟩
                have a0 : w3.cell? ⟨sb, 0, none⟩ = some (.slice xo N xc) := by rw [HN.out]; exact K.at_box (i := 0) HL3.out.box rfl
                have a5 : w5.cell? ⟨sb, 0, none⟩ = some (.slice xo (A ++ Z).length xc) := K.at_box (i := 0) hbx5 rfl
                have a51 : w5.cell? ⟨sb, 1, none⟩ = some (.int .i64 A.length) := K.at_box (i := 1) hbx5 rfl
                have a52 : w5.cell? ⟨sb, 2, none⟩ = some (.int .i64 steps) := K.at_box (i := 2) hbx5 rfl
                have fa5 : ∀ i, w5.frozen? ⟨sb, i, none⟩ = false := fun i => frozen_of_row w5 _ i _ _ hbx5
                have hs3 : sb < w3.heap.size := lt_of_block HL3.out.box
                have HTop : Hid (sb + 1 = W2.heap.size) := HL3.out.top
                clear hgo htk hGo hbx5 hbx6 hbel hrd6 hrow6 hown6 hb6 own5 hle5 b5 hM HL3 HTk y0 y1 f0 f1
                go_wp2_with (at_builtin; first | (have hz := run1; clear hz; refine Lib.wpList_append_run _ rfl _ _ _ _ rfl _ _ rfl rfl _ _ (run1 _) ?_; clear run1) | ((fail_if_success (have hz := run1)); refine Lib.wpList_append_run _ rfl _ _ _ _ rfl _ _ rfl rfl _ _ (run2 _) ?_; clear run2) | fail)
                go_at_call 24
                refine HGo.out.mono ?_
                rintro e w7 ⟨xo7, n7, xc7, k7, st7, rfl, b7, hgone⟩
                have H7 : Hid (Below w.heap.size w w7 ∧ w7.heap[w.heap.size]? = some (.cells #[.int .i64 0, .int .i64 0] 28) ∧ Ws.Bx w7 sb vo4 M vc4 A.length steps ∧ Ws.Own W2.heap.size w7 (.slice vo ts.length vc) ts ∧ Below sb W2 w7) := by
                  have hb := H6.out.2.1.trans (b7.mono H6.out.2.1.size)
                  have hb2 := H6.out.2.2.2.trans (b7.mono (by have := lt_of_block H6.out.1; omega))
                  exact ⟨hb, (hb2.block _ hsbw).trans HW2.out.1, K.blk_below H6.out.1 b7, H6.out.2.2.1.kept fun g _ hg => b7.block g hg, hb2⟩
                have HGn : Hid (Ws.Gone w7 p1 pL pA pZ (came + n) xo7 n7 xc7 k7 st7) := hgone
                clear b7 hgone HGo H6 a0 a5 a51 a52 fa5
                have hs7 : sb + 1 ≤ w7.heap.size := lt_of_block H7.out.2.2.1
                by_cases qp : p1 = 0
                · subst qp
                  obtain ⟨hn7, hrd7, hcap7, hk7, hst7, hrow7⟩ := HGn.out rfl
                  obtain ⟨hp4, hpa⟩ := HPg.out rfl
                  have hg := HGs.out
                  rw [if_pos rfl, HGr.out] at hg
                  have HG2 : Hid (_ = _) := hg.symm
                  have hto := HTo.out rfl
                  have HO2 : Hid (Ws.St.Ok ⟨pA, pZ, came + n, 8 * (came + n) + 40 - pL, ts ++ [pA.drop A.length]⟩) := hto.1
                  obtain ⟨st8, hst8⟩ : ∃ st8 : Nat, st8 = 8 * (came + n) + 40 - pL := ⟨_, rfl⟩
                  rw [← hst8] at hst7 HG2 HO2
                  subst hk7 hst7
                  have hsb7 : sb < w7.heap.size := by omega
                  obtain ⟨X, hX⟩ : ∃ X, X = (((w7.alloc (.cells #[.slice xo7 n7 xc7, .int .i64 (pA.length : Int), .int .i64 (st8 : Int)] 77)).setCell ⟨sb, 0, none⟩ (.slice xo7 n7 xc7)).setCell ⟨sb, 1, none⟩ (.int .i64 (pA.length : Int))).setCell ⟨sb, 2, none⟩ (.int .i64 (st8 : Int)) := ⟨_, rfl⟩
                  have hal : Below w7.heap.size w7 (w7.alloc (.cells #[.slice xo7 n7 xc7, .int .i64 (pA.length : Int), .int .i64 (st8 : Int)] 77)) := (Below.refl _ w7).alloc (Nat.le_refl _) _
                  have hbA : Ws.Bx (w7.alloc (.cells #[.slice xo7 n7 xc7, .int .i64 (pA.length : Int), .int .i64 (st8 : Int)] 77)) sb vo4 M vc4 A.length steps := K.blk_below H7.out.2.2.1 hal
                  have hb1' := heap_setCell_same _ sb 0 _ _ (.slice xo7 n7 xc7) hbA
                  have hb2' := heap_setCell_same _ sb 1 _ _ (.int .i64 (pA.length : Int)) hb1'
                  have hb3' := heap_setCell_same _ sb 2 _ _ (.int .i64 (st8 : Int)) hb2'
                  have hbX : Ws.Bx X sb xo7 n7 xc7 pA.length st8 := by rw [hX]; exact hb3'
                  have hothX : ∀ g, g ≠ sb → X.heap[g]? = (w7.alloc (.cells #[.slice xo7 n7 xc7, .int .i64 (pA.length : Int), .int .i64 (st8 : Int)] 77)).heap[g]? := fun g hg => by
                    rw [hX, heap_setCell_other _ ⟨sb, 2, none⟩ g _ (by simpa using hg), heap_setCell_other _ ⟨sb, 1, none⟩ g _ (by simpa using hg), heap_setCell_other _ ⟨sb, 0, none⟩ g _ (by simpa using hg)]
                  have hkX : ∀ g, g < w7.heap.size → g ≠ sb → X.heap[g]? = w7.heap[g]? := fun g h1 h2 => (hothX g h2).trans (hal.block g h1)
                  have hsX : w7.heap.size ≤ X.heap.size := by rw [hX]; simp
                  have hBX : Below sb W2 X := by
                    rw [hX]
                    exact (((H7.out.2.2.2.2.trans (hal.mono (by omega))).setCell (p := ⟨sb, 0, none⟩) (Nat.le_refl _) _).setCell (p := ⟨sb, 1, none⟩) (Nat.le_refl _) _).setCell (p := ⟨sb, 2, none⟩) (Nat.le_refl _) _
                  have hownX : Ws.Own W2.heap.size X (.slice vo ts.length vc) ts := H7.out.2.2.2.1.kept fun g h1 h2 => hkX g h2 (by have := HTop.out; omega)
                  have hne7 : pA ++ pZ ≠ [] → ∀ g, (Value.slice xo7 n7 xc7).ownBlock = some g → g ≠ sb := Ws.rd_ne3 hrd7 H7.out.2.2.1
                  have hlt7 : pA ++ pZ ≠ [] → ∀ g, (Value.slice xo7 n7 xc7).ownBlock = some g → g < w7.heap.size := fun hz g hg => by
                    obtain ⟨ao', c', e', _, hcc⟩ := hrd7
                    obtain ⟨b', off', e2, hcell'⟩ := hcc hz
                    rw [e', e2] at hg
                    have : b' = g := by simpa [Value.ownBlock] using hg
                    subst this
                    obtain ⟨z, hz2⟩ : ∃ z, (pA ++ pZ)[0]? = some z := ⟨(pA ++ pZ)[0]'(List.length_pos_iff.2 hz), by simp⟩
                    exact L.block_lt (hcell' 0 z hz2)
                  have hrdX : L.Rd X (.slice xo7 n7 xc7) .i32 (pA ++ pZ) := K.rd_block hrd7 fun hz g hg => hkX g (hlt7 hz g hg) (hne7 hz g hg)
                  have hrowX : Ws.Row X xo7 := fun a ha => by
                    obtain ⟨d, hd⟩ := hrow7 a ha
                    refine ⟨d, (hkX _ (lt_of_block hd) fun e => ?_).trans hd⟩
                    rw [e] at hd
                    have := hd.symm.trans H7.out.2.2.1
                    simp at this
                  have hlp : (pA ++ pZ).length = pA.length + pZ.length := List.length_append
                  obtain ⟨xp, hxp⟩ : ∃ xp, xp = (if xc7 = A.length then xo7 else Option.map (fun a => a.add A.length) xo7) := ⟨_, rfl⟩
                  obtain ⟨m, hm⟩ : ∃ m, m = pA.length - A.length := ⟨_, rfl⟩
                  obtain ⟨mc, hmc⟩ : ∃ mc, mc = xc7 - A.length := ⟨_, rfl⟩
                  have hsl : ∀ w', (Instr.slice 23 (.slice xo7 n7 xc7) (some (.int .i64 (A.length : Int))) (some (.int .i64 (pA.length : Int))) none).run Try.prog w' = .ok (.slice xp m mc) w' := fun w' => by rw [hxp, hm, hmc]; exact K.slice_mid xo7 n7 xc7 A.length pA.length hpa (by omega) w'
                  have hrdp : L.Rd X (.slice xp m mc) .i32 (pA.drop A.length) := by
                    have h1 : L.Rd X (.slice xo7 pA.length xc7) .i32 pA := by
                      have := K.rd_take (n := pA.length) (by rw [← hn7]; exact hrdX) (by omega)
                      rw [List.take_left] at this
                      exact this
                    have h2 := K.rd_drop h1 (d := A.length) hpa (by omega)
                    rw [hxp, hm, hmc]
                    exact h2
                  obtain ⟨po2, pc2, w8, qo, qc, w9, run3, run4, own9, b9, kp9⟩ := Ws.out_push (F := W2.heap.size) hownX (by have := hBX.size; omega) (by omega) (.slice xp m mc) (pA.drop A.length) hrdp (by rw [List.length_drop]; omega)
                  have hm2 : (pA.drop A.length).length = m := by rw [List.length_drop, hm]
                  rw [hm2] at run3 run4
                  have hbx9 : Ws.Bx w9 sb xo7 n7 xc7 pA.length st8 := (kp9 sb _ _ hbX (by decide)).trans hbX
                  have HLp9 : Hid (Ws.Lp W2 w9 sb xo7 xc7 (.slice qo (ts.length + 1) qc) ⟨pA, pZ, came + n, st8, ts ++ [pA.drop A.length]⟩) := by
                    refine ⟨HTop.out, by rw [← hn7]; exact hbx9, ?_, by rw [← hn7]; exact hcap7, fun a ha => ?_, own9, hBX.trans (b9.mono (by have := HTop.out; omega))⟩
                    · rw [← hn7]
                      refine K.rd_block hrdX fun hz g hg => ?_
                      obtain ⟨ad, had, hadb⟩ : ∃ ad, xo7 = some ad ∧ ad.block = g := by
                        cases xo7 with
                        | none => cases hg
                        | some ad => exact ⟨ad, rfl, by simpa [Value.ownBlock] using hg⟩
                      obtain ⟨d, hd⟩ := hrowX ad had
                      rw [hadb] at hd
                      exact kp9 g _ _ hd (by decide)
                    · obtain ⟨d, hd⟩ := hrowX a ha
                      exact ⟨d, (kp9 _ _ _ hd (by decide)).trans hd⟩
                  have k90 : w9.cell? ⟨sb, 0, none⟩ = some (.slice xo7 n7 xc7) := K.at_box (i := 0) hbx9 rfl
                  have k91 : w9.cell? ⟨sb, 1, none⟩ = some (.int .i64 pA.length) := K.at_box (i := 1) hbx9 rfl
                  have HXe : Hid (X = (((w7.alloc (.cells #[.slice xo7 n7 xc7, .int .i64 (pA.length : Int), .int .i64 (st8 : Int)] 77)).setCell ⟨sb, 0, none⟩ (.slice xo7 n7 xc7)).setCell ⟨sb, 1, none⟩ (.int .i64 (pA.length : Int))).setCell ⟨sb, 2, none⟩ (.int .i64 (st8 : Int))) := hX
                  have z0 : X.cell? ⟨sb, 0, none⟩ = some (.slice xo7 n7 xc7) := K.at_box (i := 0) hbX rfl
                  have z1 : X.cell? ⟨sb, 1, none⟩ = some (.int .i64 pA.length) := K.at_box (i := 1) hbX rfl
                  have j0 : ∀ o, (w7.alloc o).cell? ⟨sb, 0, none⟩ = some (.slice vo4 M vc4) := fun o => K.alloc_cell (K.at_box (i := 0) H7.out.2.2.1 rfl) o
                  have j1 : ∀ o, (w7.alloc o).cell? ⟨sb, 1, none⟩ = some (.int .i64 A.length) := fun o => K.alloc_cell (K.at_box (i := 1) H7.out.2.2.1 rfl) o
                  have j2 : ∀ o, (w7.alloc o).cell? ⟨sb, 2, none⟩ = some (.int .i64 steps) := fun o => K.alloc_cell (K.at_box (i := 2) H7.out.2.2.1 rfl) o
                  have jf : ∀ o i, (w7.alloc o).frozen? ⟨sb, i, none⟩ = false := fun o i => K.alloc_free H7.out.2.2.1 o i
                  have hne78 : w7.heap.size ≠ sb := by omega
                  have hne87 : sb ≠ w7.heap.size := by omega
                  have zz0 : ∀ o, (X.alloc o).cell? ⟨sb, 0, none⟩ = some (.slice xo7 n7 xc7) := fun o => K.alloc_cell z0 o
                  have zz1 : ∀ o, (X.alloc o).cell? ⟨sb, 1, none⟩ = some (.int .i64 pA.length) := fun o => K.alloc_cell z1 o
                  have hsX2 : X.heap.size = w7.heap.size + 1 := by rw [hX]; simp
                  rw [hsX2] at run3
                  rw [hX] at run3 zz0 zz1
                  have hl8 : (ts ++ [pA.drop A.length]).length ≤ k + 1 := by rw [List.length_append]; simp; omega
                  have hl9 : (ts ++ [pA.drop A.length]).length = ts.length + 1 := by rw [List.length_append]; rfl
                  have HLn : Hid ((ts ++ [pA.drop A.length]).length = ts.length + 1 ∧ (ts ++ [pA.drop A.length]).length ≤ k + 1) := ⟨hl9, hl8⟩
                  clear hn7 hrd7 hcap7 hrow7 hg hto hst8 hal hbA hb1' hb2' hb3' hbX hothX hkX hsX hBX hownX hne7 hlt7 hrdX hrowX hlp hxp hm hmc hrdp own9 b9 kp9 hm2 hbx9 hX HGs HTo HGr HGn hl8 hl9 H7 HPg HB3 HBw hsb7 z0 z1 hsX2
                  go_wp2_with (at_builtin; first | (have hz := run3; clear hz; refine Lib.wpList_append_run _ rfl _ _ _ _ rfl _ _ rfl rfl _ _ (run3 _) ?_; clear run3) | ((fail_if_success (have hz := run3)); refine Lib.wpList_append_run _ rfl _ _ _ _ rfl _ _ rfl rfl _ _ (run4 _) ?_; clear run4) | fail)
                  go_roundw
                  case rel => exact ⟨k + 1, ⟨pA, pZ, came + n, st8, ts ++ [pA.drop A.length]⟩, xo7, xc7, qo, qc, by omega, by go_num, by simp only; rw [HLn.out.1], rfl, rfl, by simp only; rw [HLn.out.1]; exact HLp9, HG2, HO2, HLn.out.2⟩
                  case measure => simp [RowKit.intOf]; omega
                · have hg := HGs.out
                  rw [if_neg qp, HGr.out] at hg
                  simp only [Prod.mk.injEq] at hg
                  obtain ⟨rfl, rfl, rfl⟩ := hg
                  have HBa : Hid (∀ o, Below w.heap.size w (w7.alloc o)) := fun o => H7.out.1.alloc (by omega) o
                  obtain ⟨y0, y1, f0, f1⟩ := K.box2 H7.out.2.1
                  have k0 : ∀ o, (w7.alloc o).cell? ⟨w.heap.size, 0, none⟩ = some (.int .i64 0) := fun o => K.alloc_cell y0 o
                  have k1 : ∀ o, (w7.alloc o).cell? ⟨w.heap.size, 1, none⟩ = some (.int .i64 0) := fun o => K.alloc_cell y1 o
                  have g0 : ∀ o i, (w7.alloc o).frozen? ⟨w.heap.size, i, none⟩ = false := fun o i => K.alloc_free H7.out.2.1 o i
                  clear HGs HTo HGr HGn y0 y1 f0 f1
                  go_wp2
                  refine bodyPost_ret (v := .tuple #[.slice none 0 0, .int .i64 0, .agg #[.int .i64 o1, .int .i64 k]]) (by simp [results, Try.results11, go_sem, *]) rfl ?_
                  exact ⟨_, _, _, _, rfl, ((HBa.out _).setCell (p := ⟨w.heap.size, 0, none⟩) (Nat.le_refl _) _).setCell (p := ⟨w.heap.size, 1, none⟩) (Nat.le_refl _) _, Ws.Ans.bad HO.out qp⟩
              · have htk := HTk.out
                rw [if_pos qe] at htk
                have hg := HGs.out
                rw [htk] at hg
                simp only at hg
                rw [if_neg qe, HGr.out] at hg
                simp only [Prod.mk.injEq] at hg
                obtain ⟨rfl, rfl, rfl⟩ := hg
                generalize K.textE c = o1 at *
                clear HGs HTo HGr HTk HL3
                go_wp2
                refine bodyPost_ret (v := .tuple #[.slice none 0 0, .int .i64 0, .agg #[.int .i64 o1, .int .i64 k]]) (by simp [results, Try.results11, go_sem, *]) rfl ?_
                exact ⟨_, _, _, _, rfl, ((HB3.out.1).setCell (p := ⟨w.heap.size, 0, none⟩) (Nat.le_refl _) _).setCell (p := ⟨w.heap.size, 1, none⟩) (Nat.le_refl _) _, Ws.Ans.bad HO.out qe⟩
        · have hkl : k = cs.length := by omega
          subst hkl
          have hg := HGr.out
          rw [List.drop_length] at hg
          have hg2 : ((0 : Int), (0 : Int), (⟨A, Z, came, steps, ts⟩ : Ws.St)) = (o1, o2, os) := hg
          simp only [Prod.mk.injEq] at hg2
          obtain ⟨rfl, rfl, rfl⟩ := hg2
          obtain ⟨y0, y1, f0, f1⟩ := K.box2 HBw.out.2
          clear hg HGr
          cases en with
          | false =>
            have HAn : Hid (∀ W', Ws.Ans W' l cs false (.slice none 0 0) (Z.length : Int) 0 0) := fun W' => ⟨fun h => by (cases h), fun _ => by unfold Ws.waitF; rw [HO.out]; simp⟩
            have hN4 : (N : Int) ≤ 4000 := by omega
            clear HL
            go_wp2
            refine bodyPost_ret (v := .tuple #[.slice none 0 0, .int .i64 (Z.length : Int), .agg #[.int .i64 0, .int .i64 0]]) ?_ rfl ?_
            · have e1 : (N : Int) - (A.length : Int) = (Z.length : Int) := by omega
              simp [results, Try.results11, go_sem, *]
            · exact ⟨_, _, _, _, rfl, (HBw.out.1.setCell (p := ⟨w.heap.size, 0, none⟩) (Nat.le_refl _) _).setCell (p := ⟨w.heap.size, 1, none⟩) (Nat.le_refl _) _, HAn.out _⟩
          | true =>
            obtain ⟨⟨p1, pL, pA, pZ⟩, hgo⟩ : ∃ o, Ws.go l true ah (8 * came + 40 - steps) A Z = o := ⟨_, rfl⟩
            have HFn : Hid (Ws.feedF l (K.ahead l) cs = if ¬ p1 = 0 then ([], p1, (cs.length : Int)) else (ts ++ [pA.drop A.length], 0, 0)) := by
              show _ = _
              unfold Ws.feedF
              rw [HO.out]
              simp only
              rw [if_neg (by simp)]
              unfold Ws.finish
              simp only
              rw [← HAh.out, hgo]
            have HPg : Hid (p1 = 0 → pA.length + pZ.length ≤ 4000 ∧ A.length ≤ pA.length ∧ pZ = []) := fun h => by
              have hh := Ws.go_ok (l := l) (fin := true) (ah := ah) (left := 8 * came + 40 - steps) (A := A) (Z := Z) hfew
              rw [hgo] at hh
              exact ⟨(hh h).2.1, (hh h).2.2.1, List.eq_nil_of_length_eq_zero ((hh h).2.2.2 rfl)⟩
            have hGo := rGo_any wr (.slice ao l.length cap) l (HR.out.1.below HBw.out.1) hl2 HE.out xo xc A Z HL.out.rd HL.out.cap HL.out.row hfew steps came hcam hste true p1 pL pA pZ (by rw [← HAh.out]; exact hgo)
            rw [← HN.out] at hGo
            have HGo : Hid (Calls Try.prog 24 #[.slice ao l.length cap, .agg #[.slice xo N xc, .int .i64 A.length, .int .i64 steps], .int .i64 came, .bool true] wr fun e w' => ∃ (xo' : Option Addr) (n' xc' : Nat) (k' st' : Int), e = .returned (.tuple #[.agg #[.slice xo' n' xc', .int .i64 k', .int .i64 st'], .int .i64 p1]) ∧ Below wr.heap.size wr w' ∧ Ws.Gone w' p1 pL pA pZ came xo' n' xc' k' st') := hGo
            have hN4 : (N : Int) ≤ 4000 := by omega
            clear hGo hgo y0 y1 f0 f1
            go_wp2_with fail
            go_at_call 24
            refine HGo.out.mono ?_
            rintro e w7 ⟨xo7, n7, xc7, k7, st7, rfl, b7, hgone⟩
            have HL7 := HL.out.below b7
            have H7 : Hid (Below w.heap.size w w7 ∧ w7.heap[w.heap.size]? = some (.cells #[.int .i64 0, .int .i64 0] 28) ∧ Ws.Bx w7 sb xo N xc A.length steps ∧ Ws.Own W2.heap.size w7 (.slice vo ts.length vc) ts ∧ sb + 1 = W2.heap.size ∧ Below sb W2 w7) := ⟨HBw.out.1.trans (b7.mono HBw.out.1.size), K.blk_below HBw.out.2 b7, by rw [HN.out]; exact HL7.box, HL7.own, HL7.top, HL7.bel⟩
            have HGn : Hid (Ws.Gone w7 p1 pL pA pZ came xo7 n7 xc7 k7 st7) := hgone
            have j0 : w7.cell? ⟨sb, 0, none⟩ = some (.slice xo N xc) := K.at_box (i := 0) H7.out.2.2.1 rfl
            have j1 : w7.cell? ⟨sb, 1, none⟩ = some (.int .i64 A.length) := K.at_box (i := 1) H7.out.2.2.1 rfl
            have j2 : w7.cell? ⟨sb, 2, none⟩ = some (.int .i64 steps) := K.at_box (i := 2) H7.out.2.2.1 rfl
            have jf : ∀ i, w7.frozen? ⟨sb, i, none⟩ = false := fun i => frozen_of_row w7 _ i _ _ H7.out.2.2.1
            have r0 : w7.cell? ⟨w.heap.size, 0, none⟩ = some (.int .i64 0) := K.at_box (i := 0) H7.out.2.1 rfl
            have r1 : w7.cell? ⟨w.heap.size, 1, none⟩ = some (.int .i64 0) := K.at_box (i := 1) H7.out.2.1 rfl
            have rf : ∀ i, w7.frozen? ⟨w.heap.size, i, none⟩ = false := fun i => frozen_of_row w7 _ i _ _ H7.out.2.1
            have hnr1 : w.heap.size ≠ sb := by omega
            have hnr2 : sb ≠ w.heap.size := by omega
            have HB7 : Hid (∀ v0 v1 v2, Below w.heap.size w (((w7.setCell ⟨sb, 0, none⟩ v0).setCell ⟨sb, 1, none⟩ v1).setCell ⟨sb, 2, none⟩ v2)) := fun v0 v1 v2 => ((H7.out.1.setCell (p := ⟨sb, 0, none⟩) (by simp; omega) _).setCell (p := ⟨sb, 1, none⟩) (by simp; omega) _).setCell (p := ⟨sb, 2, none⟩) (by simp; omega) _
            clear b7 hgone HGo HL7 HL x0 x1 x2 fx
            by_cases qp : p1 = 0
            · subst qp
              obtain ⟨hn7, hrd7, hcap7, hk7, hst7, hrow7⟩ := HGn.out rfl
              obtain ⟨hp4, hpa, rfl⟩ := HPg.out rfl
              rw [List.append_nil] at hn7 hrd7
              have HFn2 := HFn.out
              rw [if_neg (by simp)] at HFn2
              obtain ⟨st8, hst8⟩ : ∃ st8 : Nat, st8 = 8 * came + 40 - pL := ⟨_, rfl⟩
              rw [← hst8] at hst7
              subst hk7 hst7
              obtain ⟨X, hX⟩ : ∃ X, X = ((w7.setCell ⟨sb, 0, none⟩ (.slice xo7 n7 xc7)).setCell ⟨sb, 1, none⟩ (.int .i64 (pA.length : Int))).setCell ⟨sb, 2, none⟩ (.int .i64 (st8 : Int)) := ⟨_, rfl⟩
              have hb1' := heap_setCell_same _ sb 0 _ _ (.slice xo7 n7 xc7) H7.out.2.2.1
              have hb2' := heap_setCell_same _ sb 1 _ _ (.int .i64 (pA.length : Int)) hb1'
              have hb3' := heap_setCell_same _ sb 2 _ _ (.int .i64 (st8 : Int)) hb2'
              have hbX : Ws.Bx X sb xo7 n7 xc7 pA.length st8 := by rw [hX]; exact hb3'
              have hkX : ∀ g, g ≠ sb → X.heap[g]? = w7.heap[g]? := fun g hg => by
                rw [hX, heap_setCell_other _ ⟨sb, 2, none⟩ g _ (by simpa using hg), heap_setCell_other _ ⟨sb, 1, none⟩ g _ (by simpa using hg), heap_setCell_other _ ⟨sb, 0, none⟩ g _ (by simpa using hg)]
              have hsX2 : X.heap.size = w7.heap.size := by rw [hX]; simp
              have hownX : Ws.Own W2.heap.size X (.slice vo ts.length vc) ts := H7.out.2.2.2.1.kept fun g h1 h2 => hkX g (by have := H7.out.2.2.2.2.1; omega)
              have hrdX : L.Rd X (.slice xo7 n7 xc7) .i32 pA := K.rd_block hrd7 fun hz g hg => hkX g (Ws.rd_ne3 hrd7 H7.out.2.2.1 hz g hg)
              have hrX : X.heap[w.heap.size]? = some (.cells #[.int .i64 0, .int .i64 0] 28) := (hkX _ hnr1).trans H7.out.2.1
              have hBX : Below w.heap.size w X := by rw [hX]; exact HB7.out _ _ _
              have hW2X : W2.heap.size ≤ X.heap.size := by
                have := lt_of_block H7.out.2.2.1
                have := H7.out.2.2.2.2.1
                omega
              obtain ⟨xp, hxp⟩ : ∃ xp, xp = (if xc7 = A.length then xo7 else Option.map (fun a => a.add A.length) xo7) := ⟨_, rfl⟩
              obtain ⟨m, hm⟩ : ∃ m, m = n7 - A.length := ⟨_, rfl⟩
              obtain ⟨mc, hmc⟩ : ∃ mc, mc = xc7 - A.length := ⟨_, rfl⟩
              have hsl : ∀ w', (Instr.slice 23 (.slice xo7 n7 xc7) (some (.int .i64 (A.length : Int))) none none).run Try.prog w' = .ok (.slice xp m mc) w' := fun w' => by rw [hxp, hm, hmc]; exact K.slice_from xo7 n7 xc7 A.length (by omega) hcap7 w'
              have hrdp : L.Rd X (.slice xp m mc) .i32 (pA.drop A.length) := by
                have h1 : L.Rd X (.slice xo7 pA.length xc7) .i32 pA := by rw [← hn7]; exact hrdX
                have h2 := K.rd_drop h1 (d := A.length) hpa (by omega)
                rw [hxp, hm, hmc, hn7]
                exact h2
              obtain ⟨po2, pc2, w8, qo, qc, w9, run3, run4, own9, b9, kp9⟩ := Ws.out_push (F := W2.heap.size) hownX hW2X (by omega) (.slice xp m mc) (pA.drop A.length) hrdp (by rw [List.length_drop]; omega)
              have hm2 : (pA.drop A.length).length = m := by rw [List.length_drop, hm, hn7]
              rw [hm2] at run3 run4
              have hr9 : w9.heap[w.heap.size]? = some (.cells #[.int .i64 0, .int .i64 0] 28) := (kp9 _ _ _ hrX (by decide)).trans hrX
              have hB9 : Below w.heap.size w w9 := hBX.trans (b9.mono (by have := H7.out.2.2.2.2.1; omega))
              have HEnd : Hid (∀ x y, Below w.heap.size w ((w9.setCell ⟨w.heap.size, 0, none⟩ x).setCell ⟨w.heap.size, 1, none⟩ y) ∧ ∀ nn, Ws.Ans ((w9.setCell ⟨w.heap.size, 0, none⟩ x).setCell ⟨w.heap.size, 1, none⟩ y) l cs true (.slice qo (ts.length + 1) qc) nn 0 0) := fun x y => by
                refine ⟨(hB9.setCell (p := ⟨w.heap.size, 0, none⟩) (Nat.le_refl _) _).setCell (p := ⟨w.heap.size, 1, none⟩) (Nat.le_refl _) _, fun nn => ⟨fun _ => ⟨_, HFn2, ?_⟩, fun h => by (cases h)⟩⟩
                refine (own9.kept fun g h1 h2 => ?_).rd
                have hgw : g ≠ w.heap.size := by have := H7.out.2.2.2.2.1; omega
                rw [heap_setCell_other _ ⟨w.heap.size, 1, none⟩ g _ (by simpa using hgw), heap_setCell_other _ ⟨w.heap.size, 0, none⟩ g _ (by simpa using hgw)]
              have zz0 : ∀ o, (X.alloc o).cell? ⟨sb, 0, none⟩ = some (.slice xo7 n7 xc7) := fun o => K.alloc_cell (K.at_box (i := 0) hbX rfl) o
              rw [hsX2] at run3
              rw [hX] at run3 zz0
              obtain ⟨u0, u1, g0, g1⟩ := K.box2 hr9
              clear hn7 hrd7 hcap7 hrow7 hst8 hb1' hb2' hb3' hbX hkX hsX2 hownX hrdX hrX hBX hW2X hxp hm hmc hrdp own9 b9 kp9 hm2 hr9 hB9 hX HGn HPg HFn HFn2 H7 HB7 HBw
              go_wp2_with (at_builtin; first | (have hz := run3; clear hz; refine Lib.wpList_append_run _ rfl _ _ _ _ rfl _ _ rfl rfl _ _ (run3 _) ?_; clear run3) | ((fail_if_success (have hz := run3)); refine Lib.wpList_append_run _ rfl _ _ _ _ rfl _ _ rfl rfl _ _ (run4 _) ?_; clear run4) | fail)
              refine bodyPost_ret (v := .tuple #[.slice qo (ts.length + 1) qc, .int .i64 ((N : Int) - (A.length : Int)), .agg #[.int .i64 0, .int .i64 0]]) (by simp [results, Try.results11, go_sem, *]) rfl ?_
              exact ⟨_, _, _, _, rfl, (HEnd.out _ _).1, (HEnd.out _ _).2 _⟩
            · have HAn : Hid (∀ W', Ws.Ans W' l cs true (.slice none 0 0) 0 p1 (cs.length : Int)) := fun W' => ⟨fun _ => ⟨[], by rw [HFn.out, if_pos qp], Ws.Rd.nil _⟩, fun h => by (cases h)⟩
              clear HGn HPg HFn
              go_wp2
              refine bodyPost_ret (v := .tuple #[.slice none 0 0, .int .i64 0, .agg #[.int .i64 p1, .int .i64 cs.length]]) (by simp [results, Try.results11, go_sem, *]) rfl ?_
              exact ⟨_, _, _, _, rfl, ((HB7.out _ _ _).setCell (p := ⟨w.heap.size, 0, none⟩) (Nat.le_refl _) _).setCell (p := ⟨w.heap.size, 1, none⟩) (Nat.le_refl _) _, HAn.out _⟩
  · have h2 : Ws.all l (K.ahead l) cs = (r1, r2, Ws.start) := by
      unfold Ws.all
      rw [HRu.out, if_pos q]
    rw [HO.out] at h2
    simp only [Prod.mk.injEq] at h2
    obtain ⟨rfl, rfl, rfl⟩ := h2
    go_wp2
    go_region
    go_wp2
    refine bodyPost_ret (v := .tuple #[.slice none 0 0, .int .i64 0, .agg #[.int .i64 o1, .int .i64 o2]]) (by simp [results, Try.results11, go_sem, *]) rfl ?_
    exact ⟨_, _, _, _, rfl, (((HB2.out _).setCell (p := ⟨w.heap.size, 0, none⟩) (Nat.le_refl _) _).setCell (p := ⟨w.heap.size, 1, none⟩) (Nat.le_refl _) _).drew, Ws.Ans.bad HO.out q⟩

end Go.Proofs.Ytackaadejnbfmaa

/-
  What is told is not long.
-/
namespace Go.Proofs.Ytackaadejnbfmaa.Ws
structure St.Small (s : St) (k : Nat) : Prop where
  ok : s.Ok
  few : s.told.length ≤ k
  each : ∀ x ∈ s.told, x.length ≤ 4000
theorem take_small {l : List K.Rule} {ah k : Nat} {s : St} {c : List Int} (h : s.Small k) (h0 : (take l ah s c).1 = 0) : (take l ah s c).2.Small (k + 1) := by
  refine ⟨take_ok h.ok h0, by rw [take_told h0]; have := h.few; omega, ?_⟩
  have hok := take_ok h.ok h0
  unfold take at h0 hok ⊢
  by_cases h1 : 4000 < s.came + c.length ∨ 4000 < s.A.length + s.Z.length + c.length
  · rw [if_pos h1] at h0; simp at h0
  · rw [if_neg h1] at h0 hok ⊢
    by_cases h2 : K.textE c ≠ 0
    · rw [if_pos h2] at h0; exact absurd h0 h2
    · rw [if_neg h2] at hok ⊢
      intro x hx
      have hf := hok.few
      simp only at hf hx
      rcases List.mem_append.1 hx with hx | hx
      · exact h.each x hx
      · simp at hx
        subst hx
        rw [List.length_drop]
        omega
theorem feed_small {l : List K.Rule} {ah : Nat} : ∀ {cs : List (List Int)} {k : Nat} {s : St} {k0 : Nat}, s.Small k → (feed l ah k0 cs s).1 = 0 → (feed l ah k0 cs s).2.2.Small (k + cs.length) := by
  intro cs
  induction cs with
  | nil => intro k s k0 h _; simpa [feed] using h
  | cons c cs ih =>
    intro k s k0 h h0
    rw [feed] at h0 ⊢
    by_cases ht : (take l ah s c).1 = 0
    · rw [if_pos ht] at h0 ⊢
      have := ih (take_small h ht) h0
      rw [List.length_cons, show k + (cs.length + 1) = k + 1 + cs.length by omega]
      exact this
    · rw [if_neg ht] at h0
      exact absurd h0 ht
theorem all_small {l : List K.Rule} {ah : Nat} {cs : List (List Int)} (h0 : (all l ah cs).1 = 0) : (all l ah cs).2.2.Small 200 := by
  unfold all at h0 ⊢
  by_cases h1 : ¬ (K.rulesF l).1 = 0
  · rw [if_pos h1] at h0; exact absurd h0 h1
  · rw [if_neg h1] at h0 ⊢
    by_cases h2 : 200 < cs.length
    · rw [if_pos h2] at h0; simp at h0
    · rw [if_neg h2] at h0 ⊢
      have h := feed_small (k := 0) ⟨start_ok, by simp [start], fun x hx => by simp [start] at hx⟩ h0
      exact ⟨h.ok, by have := h.few; omega, h.each⟩
theorem feedF_small {l : List K.Rule} {ah : Nat} {cs ts : List (List Int)} {f1 f2 : Int} (h : feedF l ah cs = (ts, f1, f2)) : ts.length ≤ 201 ∧ ∀ x ∈ ts, x.length ≤ 4000 := by
  unfold feedF at h
  by_cases h1 : ¬ (all l ah cs).1 = 0
  · rw [if_pos h1] at h
    simp only [Prod.mk.injEq] at h
    rw [← h.1]
    exact ⟨by simp, fun x hx => by cases hx⟩
  · rw [if_neg h1] at h
    have hs := all_small (l := l) (ah := ah) (cs := cs) (by simpa using h1)
    by_cases h2 : ¬ (finish l ah (all l ah cs).2.2).1 = 0
    · rw [if_pos h2] at h
      simp only [Prod.mk.injEq] at h
      rw [← h.1]
      exact ⟨by simp, fun x hx => by cases hx⟩
    · rw [if_neg h2] at h
      simp only [Prod.mk.injEq] at h
      rw [← h.1]
      have h3 : (finish l ah (all l ah cs).2.2).1 = 0 := by simpa using h2
      unfold finish at h3 ⊢
      have hg := go_ok (l := l) (fin := true) (ah := ah) (left := 8 * (all l ah cs).2.2.came + 40 - (all l ah cs).2.2.steps) (A := (all l ah cs).2.2.A) (Z := (all l ah cs).2.2.Z) hs.ok.few h3
      refine ⟨by simp only [List.length_append, List.length_cons, List.length_nil]; have := hs.few; omega, fun x hx => ?_⟩
      simp only at hx
      rcases List.mem_append.1 hx with hx | hx
      · exact hs.each x hx
      · simp at hx
        subst hx
        rw [List.length_drop]
        omega
end Go.Proofs.Ytackaadejnbfmaa.Ws
