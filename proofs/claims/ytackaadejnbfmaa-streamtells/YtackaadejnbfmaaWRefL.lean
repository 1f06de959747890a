/-
  The document's answer: as far as may be (scriptref12.Go).
-/
import Derived.Test.YtackaadejnbfmaaQRepl2
import Derived.Test.YtackaadejnbfmaaWFrame
import Derived.Test.YtackaadejnbfmaaYReachR
import Derived.Test.YtackaadejnbfmaaYLook
import Derived.Test.YtackaadejnbfmaaMRefP
import Derived.Test.YtackaadejnbfmaaQClone
import Derived.Deep.RegionHeld3
import Derived.BigRegion
import Derived.Test.YtackaadejnbfmaaQRepl
namespace Go.Proofs.Ytackaadejnbfmaa
open Go.RowKit Go.Lib
set_option maxRecDepth 20000
set_option linter.unusedSimpArgs false
set_option linter.unusedVariables false

namespace Ws
/-- the document's State in a box -/
def Bx (w : World) (b : Nat) (xo : Option Addr) (n xc : Nat) (k s : Int) : Prop := w.heap[b]? = some (.cells #[.slice xo n xc, .int .i64 k, .int .i64 s] 77)
theorem rd_ne3 {w : World} {v : Value} {zs : List Int} {b : Nat} {xo : Option Addr} {n xc : Nat} {k s : Int} (h : L.Rd w v .i32 zs) (hb : Bx w b xo n xc k s) (hz : zs ≠ []) : ∀ g, v.ownBlock = some g → g ≠ b := by
  obtain ⟨ao, cap, rfl, hn, hc⟩ := h
  obtain ⟨b', off, rfl, hcell⟩ := hc hz
  intro g hg e
  have : b' = g := by simpa [Value.ownBlock] using hg
  subst this e
  obtain ⟨z, hz2⟩ : ∃ z, zs[0]? = some z := ⟨zs[0]'(List.length_pos_iff.2 hz), by simp⟩
  have hc0 := hcell 0 z hz2
  rw [World.cell?] at hc0
  simp only [show w.heap[b']? = _ from hb] at hc0
  simp at hc0
  have hlt := (List.getElem?_eq_some_iff.1 hc0).1
  match off, hc0 with
  | 0, hc0 => simp at hc0
  | 1, hc0 => simp at hc0
  | 2, hc0 => simp at hc0
  | n + 3, _ => simp at hlt; omega
theorem rd_set3 {w : World} {v : Value} {zs : List Int} {b : Nat} {xo : Option Addr} {n xc : Nat} {k s : Int} (h : L.Rd w v .i32 zs) (hb : Bx w b xo n xc k s) (i : Nat) (x : Value) : L.Rd (w.setCell ⟨b, i, none⟩ x) v .i32 zs :=
  K.rd_block h fun hz g hg => heap_setCell_other w ⟨b, i, none⟩ g x (by simpa using rd_ne3 h hb hz g hg)
/-- a text's block is one of runes -/
def Row (w : World) (xo : Option Addr) : Prop := ∀ a, xo = some a → ∃ c, w.heap[a.block]? = some (.cells c 21)
theorem Row.below {w w' : World} {xo : Option Addr} (h : Row w xo) (hb : Below w.heap.size w w') : Row w' xo := fun a ha => by
  obtain ⟨c, hc⟩ := h a ha
  exact ⟨c, K.blk_below hc hb⟩
theorem Row.set {w : World} {xo : Option Addr} {b : Nat} {c : Array Value} {ty : TypeId} (h : Row w xo) (hb : w.heap[b]? = some (.cells c ty)) (hty : ty ≠ 21) (i : Nat) (x : Value) : Row (w.setCell ⟨b, i, none⟩ x) xo := fun a ha => by
  obtain ⟨d, hd⟩ := h a ha
  refine ⟨d, (heap_setCell_other w ⟨b, i, none⟩ a.block x ?_).trans hd⟩
  intro e
  have e' : a.block = b := by simpa using e
  rw [e'] at hd
  have := hd.symm.trans hb
  simp at this
  exact hty this.2.symm
theorem Row.own {w : World} {F n : Nat} {xs : List Value} {xo : Option Addr} {m cap : Nat} (h : w.ownsRow F 21 1 (.slice xo m cap) n xs) : Row w xo := fun a ha => by
  rcases h.2 with ⟨hv, _⟩ | ⟨g, cp, cur, hv, _, hx, _⟩
  · cases hv; cases ha
  · cases hv; cases ha; exact ⟨cur, hx⟩
theorem Row.drew {w : World} {xo : Option Addr} (h : Row w xo) : Row w.drew xo := h
/-- how many steps were taken, as the box says -/
def stepsAt (w : World) (b : Nat) : Nat := match w.cell? ⟨b, 2, none⟩ with
  | some v => (RowKit.intOf v).toNat
  | none => 0
theorem Bx.steps {w : World} {b : Nat} {xo : Option Addr} {n xc : Nat} {k : Int} {s : Nat} (h : Bx w b xo n xc k s) : stepsAt w b = s := by
  have : w.cell? ⟨b, 2, none⟩ = some (.int .i64 s) := K.at_box (i := 2) h rfl
  unfold stepsAt
  rw [this]
  simp [RowKit.intOf]
def Stop (fin : Bool) (ah : Nat) (Z : List Int) : Prop := Z.length = 0 ∨ (fin = false ∧ Z.length ≤ ah)
/-- what is left where nothing is wrong -/
def Gone (w' : World) (o1 : Int) (oL : Nat) (oA oZ : List Int) (came : Nat) (xo' : Option Addr) (n' xc' : Nat) (k' st' : Int) : Prop :=
  o1 = 0 → n' = (oA ++ oZ).length ∧ L.Rd w' (.slice xo' n' xc') .i32 (oA ++ oZ) ∧ n' ≤ xc' ∧ k' = oA.length ∧ st' = ((8 * came + 40 - oL : Nat) : Int) ∧ Row w' xo'
/-- where the document's loop stands -/
structure Dl (w wr : World) (xo : Option Addr) (xc : Nat) (A Z : List Int) (st : Nat) : Prop where
  box : Bx wr w.heap.size xo (A ++ Z).length xc A.length st
  res : Bx wr (w.heap.size + 1) none 0 0 0 0
  rd : L.Rd wr (.slice xo (A ++ Z).length xc) .i32 (A ++ Z)
  cap : (A ++ Z).length ≤ xc
  bel : Below w.heap.size w wr
  row : Row wr xo
theorem Dl.ret {w wr : World} {xo : Option Addr} {xc : Nat} {A Z : List Int} {st : Nat} (h : Dl w wr xo xc A Z st) (v0 v1 v2 : Value) : L.Rd (((wr.setCell ⟨w.heap.size + 1, 0, none⟩ v0).setCell ⟨w.heap.size + 1, 1, none⟩ v1).setCell ⟨w.heap.size + 1, 2, none⟩ v2) (.slice xo (A ++ Z).length xc) .i32 (A ++ Z) :=
  K.rd_block h.rd fun hz g hg => by
    have hne := rd_ne3 h.rd h.res hz g hg
    rw [heap_setCell_other _ ⟨w.heap.size + 1, 2, none⟩ g _ (by simpa using hne), heap_setCell_other _ ⟨w.heap.size + 1, 1, none⟩ g _ (by simpa using hne), heap_setCell_other _ ⟨w.heap.size + 1, 0, none⟩ g _ (by simpa using hne)]
theorem Dl.ret2 {w wr : World} {xo : Option Addr} {xc : Nat} {A Z : List Int} {st : Nat} (h : Dl w wr xo xc A Z st) (v0 v1 v2 : Value) : Row (((wr.setCell ⟨w.heap.size + 1, 0, none⟩ v0).setCell ⟨w.heap.size + 1, 1, none⟩ v1).setCell ⟨w.heap.size + 1, 2, none⟩ v2) xo := by
  have h1 := heap_setCell_same wr (w.heap.size + 1) 0 _ _ v0 h.res
  have h2 := heap_setCell_same _ (w.heap.size + 1) 1 _ _ v1 h1
  exact ((h.row.set h.res (by decide) 0 v0).set h1 (by decide) 1 v1).set h2 (by decide) 2 v2
end Ws

set_option maxHeartbeats 16000000 in
theorem rGo_any (w : World) (vl : Value) (l : List K.Rule) (R0 : V.Rus w vl l) (hl : l.length ≤ 200) (hE : ∀ r ∈ l, K.ruleE r = 0) (xo : Option Addr) (xc : Nat) (A Z : List Int) (Rt : L.Rd w (.slice xo (A ++ Z).length xc) .i32 (A ++ Z)) (hcap : (A ++ Z).length ≤ xc) (hrow : Ws.Row w xo) (h4 : A.length + Z.length ≤ 4000) (st came : Nat) (hcm : came ≤ 4000) (hst : st ≤ 8 * came + 40) (fin : Bool) (o1 : Int) (oL : Nat) (oA oZ : List Int) (hO : Ws.go l fin (K.ahead l) (8 * came + 40 - st) A Z = (o1, oL, oA, oZ)) :
    Calls Try.prog 24 #[vl, .agg #[.slice xo (A ++ Z).length xc, .int .i64 A.length, .int .i64 st], .int .i64 came, .bool fin] w fun e w' => ∃ (xo' : Option Addr) (n' xc' : Nat) (k' st' : Int), e = .returned (.tuple #[.agg #[.slice xo' n' xc', .int .i64 k', .int .i64 st'], .int .i64 o1]) ∧ Below w.heap.size w w' ∧ Ws.Gone w' o1 oL oA oZ came xo' n' xc' k' st' := by
  obtain ⟨W, hW⟩ : ∃ W, W = (w.alloc (.cells #[.slice xo (A ++ Z).length xc, .int .i64 A.length, .int .i64 st] 77)).alloc (.cells #[.slice none 0 0, .int .i64 0, .int .i64 0] 77) := ⟨_, rfl⟩
  have hBW : Below w.heap.size w W := by rw [hW]; exact ((Below.refl _ w).alloc (Nat.le_refl _) _).alloc (by simp) _
  have hb0 : Ws.Bx W w.heap.size xo (A ++ Z).length xc A.length st := by
    rw [hW]
    show (((w.heap.push _).push _))[w.heap.size]? = _
    rw [Array.getElem?_push, if_neg (by simp), Array.getElem?_push, if_pos rfl]
  have hb1 : Ws.Bx W (w.heap.size + 1) none 0 0 0 0 := by
    rw [hW]
    show (((w.heap.push _).push _))[w.heap.size + 1]? = _
    rw [Array.getElem?_push, if_pos (by simp)]
  obtain ⟨ah, hah⟩ : ∃ ah, ah = K.ahead l := ⟨_, rfl⟩
  rw [← hah] at hO
  have HRe : Hid (∀ Y, Y = W → Calls Try.prog 39 #[vl] Y fun e w' => e = .returned (.tuple #[.int .i64 (K.behind l), .int .i64 ah]) ∧ Ws.Dl w w' xo xc A Z st) := fun Y hY => by
    rw [hY]
    refine (rReach9_any W vl l (R0.below hBW)).mono ?_
    rintro e w' ⟨rfl, b⟩
    exact ⟨by rw [hah], K.blk_below hb0 b, K.blk_below hb1 b, (Rt.below hBW (Nat.le_refl _)).below b (Nat.le_refl _), hcap, hBW.trans (b.mono hBW.size), (hrow.below hBW).below b⟩
  have HW : Hid (W = (w.alloc (.cells #[.slice xo (A ++ Z).length xc, .int .i64 A.length, .int .i64 st] 77)).alloc (.cells #[.slice none 0 0, .int .i64 0, .int .i64 0] 77)) := hW
  have HR : Hid (V.Rus w vl l ∧ ∀ r ∈ l, K.ruleE r = 0) := ⟨R0, hE⟩
  have HO : Hid (Ws.go l fin ah (8 * came + 40 - st) A Z = (o1, oL, oA, oZ)) := hO
  have hah2 : ah ≤ 1000 := by rw [hah]; exact Ws.ahead_le hE
  obtain ⟨N0, hN0⟩ : ∃ N0, N0 = (A ++ Z).length := ⟨_, rfl⟩
  rw [← hN0] at HW ⊢
  obtain ⟨ao, cap, rfl⟩ := R0.len
  clear hW hBW hb0 hb1 hah R0 Rt hE hO hcap hN0 hrow
  go_enter Try.func24, Try.ntmps24
  go_wp2_with fail
  go_at_call 39
  refine (HRe.out _ HW.out.symm).mono ?_
  rintro e w1 ⟨rfl, hd⟩
  have HD : Hid (Ws.Dl w w1 xo xc A Z st) := hd
  clear hd HRe HW
  go_wp2
  go_loopw [] (fun wr => ∃ (xo' : Option Addr) (xc' : Nat) (A' Z' : List Int) (s left : Nat), Hid (Ws.Dl w wr xo' xc' A' Z' s) ∧ Hid (Ws.go l fin ah left A' Z' = (o1, oL, oA, oZ)) ∧ A'.length + Z'.length ≤ 4000 ∧ s + left = 8 * came + 40) (fun wr => 8 * came + 40 - Ws.stepsAt wr w.heap.size)
  case atStart => exact ⟨xo, xc, A, Z, st, _, HD, HO, h4, by omega⟩
  case round =>
    obtain ⟨xo', xc', A', Z', s, left, HDr, HGr, h4r, hsl⟩ := hrel
    obtain ⟨N, hN⟩ : ∃ N, N = (A' ++ Z').length := ⟨_, rfl⟩
    have hlen : (A' ++ Z').length = A'.length + Z'.length := List.length_append
    have hn1 : N ≤ A'.length + Z'.length := by omega
    have hn2 : A'.length + Z'.length ≤ N := by omega
    have x0 : wr.cell? ⟨w.heap.size, 0, none⟩ = some (.slice xo' N xc') := by rw [hN]; exact K.at_box (i := 0) HDr.out.box rfl
    have x1 : wr.cell? ⟨w.heap.size, 1, none⟩ = some (.int .i64 A'.length) := K.at_box (i := 1) HDr.out.box rfl
    have x2 : wr.cell? ⟨w.heap.size, 2, none⟩ = some (.int .i64 s) := K.at_box (i := 2) HDr.out.box rfl
    have y0 : wr.cell? ⟨w.heap.size + 1, 0, none⟩ = some (.slice none 0 0) := K.at_box (i := 0) HDr.out.res rfl
    have y1 : wr.cell? ⟨w.heap.size + 1, 1, none⟩ = some (.int .i64 0) := K.at_box (i := 1) HDr.out.res rfl
    have y2 : wr.cell? ⟨w.heap.size + 1, 2, none⟩ = some (.int .i64 0) := K.at_box (i := 2) HDr.out.res rfl
    have fx : ∀ i, wr.frozen? ⟨w.heap.size, i, none⟩ = false := fun i => frozen_of_row wr _ i _ _ HDr.out.box
    have fy : ∀ i, wr.frozen? ⟨w.heap.size + 1, i, none⟩ = false := fun i => frozen_of_row wr _ i _ _ HDr.out.res
    have hsr : Ws.stepsAt wr w.heap.size = s := HDr.out.box.steps
    have HSr : Hid (Ws.stepsAt wr w.heap.size = s) := hsr
    have HN : Hid (N = (A' ++ Z').length) := hN
    have HRet : Hid (∀ v0 v1 v2, L.Rd (((wr.setCell ⟨w.heap.size + 1, 0, none⟩ v0).setCell ⟨w.heap.size + 1, 1, none⟩ v1).setCell ⟨w.heap.size + 1, 2, none⟩ v2) (.slice xo' N xc') .i32 (A' ++ Z') ∧ (N ≤ xc' ∧ Ws.Row (((wr.setCell ⟨w.heap.size + 1, 0, none⟩ v0).setCell ⟨w.heap.size + 1, 1, none⟩ v1).setCell ⟨w.heap.size + 1, 2, none⟩ v2) xo') ∧ Below w.heap.size w (((wr.setCell ⟨w.heap.size + 1, 0, none⟩ v0).setCell ⟨w.heap.size + 1, 1, none⟩ v1).setCell ⟨w.heap.size + 1, 2, none⟩ v2)) := fun v0 v1 v2 => by
      rw [hN]
      exact ⟨HDr.out.ret v0 v1 v2, ⟨HDr.out.cap, HDr.out.ret2 v0 v1 v2⟩, ((HDr.out.bel.setCell (p := ⟨w.heap.size + 1, 0, none⟩) (by simp) _).setCell (p := ⟨w.heap.size + 1, 1, none⟩) (by simp) _).setCell (p := ⟨w.heap.size + 1, 2, none⟩) (by simp) _⟩
    clear hN hlen hsr HD HO
    by_cases hz : Z'.length = 0
    · have hgo := HGr.out
      rw [Ws.go_stop (.inl hz)] at hgo
      simp only [Prod.mk.injEq] at hgo
      obtain ⟨rfl, rfl, rfl, rfl⟩ := hgo
      have hlt : ¬ (A'.length : Int) < (N : Int) := by omega
      clear HGr HDr
      go_wp2
      refine bodyPost_ret (v := .tuple #[.agg #[.slice xo' N xc', .int .i64 A'.length, .int .i64 s], .int .i64 0]) (by simp [results, Try.results24, go_sem, *]) rfl ?_
      exact ⟨xo', N, xc', _, _, rfl, (HRet.out _ _ _).2.2, fun _ => ⟨HN.out, (HRet.out _ _ _).1, (HRet.out (.bool true) (.bool true) (.bool true)).2.1.1, rfl, by omega, (HRet.out _ _ _).2.1.2⟩⟩
    · have hlt : (A'.length : Int) < (N : Int) := by omega
      cases fin with
      | false =>
        by_cases hs2 : Z'.length ≤ ah
        · have hgo := HGr.out
          rw [Ws.go_stop (.inr ⟨rfl, hs2⟩)] at hgo
          simp only [Prod.mk.injEq] at hgo
          obtain ⟨rfl, rfl, rfl, rfl⟩ := hgo
          have hge : (N : Int) ≤ (A'.length : Int) + (ah : Int) := by omega
          clear HGr HDr
          go_wp2
          refine bodyPost_ret (v := .tuple #[.agg #[.slice xo' N xc', .int .i64 A'.length, .int .i64 s], .int .i64 0]) (by simp [results, Try.results24, go_sem, *]) rfl ?_
          exact ⟨xo', N, xc', _, _, rfl, (HRet.out _ _ _).2.2, fun _ => ⟨HN.out, (HRet.out _ _ _).1, (HRet.out (.bool true) (.bool true) (.bool true)).2.1.1, rfl, by omega, (HRet.out _ _ _).2.1.2⟩⟩
        · have hge : ¬ (N : Int) ≤ (A'.length : Int) + (ah : Int) := by omega
          cases left with
          | zero =>
            have hgo := HGr.out
            rw [Ws.go_spent] at hgo
            simp only [Prod.mk.injEq] at hgo
            obtain ⟨rfl, rfl, rfl, rfl⟩ := hgo
            have hse : (s : Int) = 8 * (came : Int) + 40 := by omega
            have HSe : Hid (s = 8 * came + 40) := by show _ = _; omega
            clear HGr HDr hsl
            go_wp2
            refine bodyPost_ret (v := .tuple #[.agg #[.slice xo' N xc', .int .i64 A'.length, .int .i64 s], .int .i64 0]) (by simp [results, Try.results24, go_sem, *]) rfl ?_
            exact ⟨xo', N, xc', _, _, rfl, (HRet.out _ _ _).2.2, fun _ => ⟨HN.out, (HRet.out _ _ _).1, (HRet.out (.bool true) (.bool true) (.bool true)).2.1.1, rfl, by have := HSe.out; omega, (HRet.out _ _ _).2.1.2⟩⟩
          | succ left =>
            have hse : ¬ (s : Int) = 8 * (came : Int) + 40 := by omega
            obtain ⟨W1, hW1⟩ : ∃ W1, W1 = wr.setCell ⟨w.heap.size, 2, none⟩ (.int .i64 ((s : Int) + 1)) := ⟨_, rfl⟩
            have z0 : Ws.Bx W1 w.heap.size xo' (A' ++ Z').length xc' A'.length ((s : Int) + 1) := by rw [hW1]; exact heap_setCell_same wr w.heap.size 2 _ _ _ HDr.out.box
            have z1 : Ws.Bx W1 (w.heap.size + 1) none 0 0 0 0 := by rw [hW1]; exact (heap_setCell_other wr ⟨w.heap.size, 2, none⟩ _ _ (by simp)).trans HDr.out.res
            have z2 : L.Rd W1 (.slice xo' (A' ++ Z').length xc') .i32 (A' ++ Z') := by rw [hW1]; exact Ws.rd_set3 HDr.out.rd HDr.out.box 2 _
            have z3 : Below w.heap.size w W1 := by rw [hW1]; exact HDr.out.bel.setCell (p := ⟨w.heap.size, 2, none⟩) (Nat.le_refl _) _
            have z4 : Ws.Row W1 xo' := by rw [hW1]; exact HDr.out.row.set HDr.out.box (by decide) 2 _
            have HWh : Hid (∀ Y, Y = W1 → Calls Try.prog 16 #[.slice ao l.length cap, .slice xo' N xc', .int .i64 A'.length] Y fun e w' => e = .returned (.int .i64 (K.which l (A' ++ Z') A'.length)) ∧ Below W1.heap.size W1 w') := fun Y hY => by
              rw [hY, HN.out]
              exact rWhich8_any W1 _ l (HR.out.1.below z3) hl HR.out.2 _ (A' ++ Z') z2 (by rw [List.length_append]; omega) A'.length (by omega) (by rw [List.length_append]; omega)
            have hcp := HDr.out.cap
            have HW1 : Hid (W1 = wr.setCell ⟨w.heap.size, 2, none⟩ (.int .i64 ((s : Int) + 1))) := hW1
            have HZ : Hid (Ws.Bx W1 w.heap.size xo' (A' ++ Z').length xc' A'.length ((s : Int) + 1) ∧ Ws.Bx W1 (w.heap.size + 1) none 0 0 0 0 ∧ L.Rd W1 (.slice xo' (A' ++ Z').length xc') .i32 (A' ++ Z') ∧ Below w.heap.size w W1 ∧ ((A' ++ Z').length ≤ xc' ∧ Ws.Row W1 xo')) := ⟨z0, z1, z2, z3, hcp, z4⟩
            have hns : ¬ (Z'.length = 0 ∨ (false = false ∧ Z'.length ≤ ah)) := fun h => by
              rcases h with h | ⟨h0, h⟩
              · omega
              · first | omega | (cases h0)
            have HNs : Hid (¬ Ws.Stop false ah Z') := hns
            clear hW1 z0 z1 z2 z3 z4 hcp HDr HRet hns
            go_wp2_with fail
            go_at_call 16
            refine (HWh.out _ HW1.out.symm).mono ?_
            rintro e w2 ⟨rfl, b2⟩
            have q0 : Ws.Bx w2 w.heap.size xo' (A' ++ Z').length xc' A'.length ((s : Int) + 1) := K.blk_below HZ.out.1 b2
            have q1 : Ws.Bx w2 (w.heap.size + 1) none 0 0 0 0 := K.blk_below HZ.out.2.1 b2
            have q2 := HZ.out.2.2.1.below b2 (Nat.le_refl _)
            have q3 : Below w.heap.size w w2 := HZ.out.2.2.2.1.trans (b2.mono HZ.out.2.2.2.1.size)
            have HQ : Hid (Ws.Bx w2 w.heap.size xo' (A' ++ Z').length xc' A'.length ((s : Int) + 1) ∧ Ws.Bx w2 (w.heap.size + 1) none 0 0 0 0 ∧ L.Rd w2 (.slice xo' (A' ++ Z').length xc') .i32 (A' ++ Z') ∧ Below w.heap.size w w2 ∧ ((A' ++ Z').length ≤ xc' ∧ Ws.Row w2 xo')) := ⟨q0, q1, q2, q3, HZ.out.2.2.2.2.1, HZ.out.2.2.2.2.2.below b2⟩
            have a0 : w2.cell? ⟨w.heap.size, 0, none⟩ = some (.slice xo' N xc') := by rw [HN.out]; exact K.at_box (i := 0) q0 rfl
            have a1 : w2.cell? ⟨w.heap.size, 1, none⟩ = some (.int .i64 A'.length) := K.at_box (i := 1) q0 rfl
            have a2 : w2.cell? ⟨w.heap.size, 2, none⟩ = some (.int .i64 ((s : Int) + 1)) := K.at_box (i := 2) q0 rfl
            have r0 : w2.cell? ⟨w.heap.size + 1, 0, none⟩ = some (.slice none 0 0) := K.at_box (i := 0) q1 rfl
            have r1 : w2.cell? ⟨w.heap.size + 1, 1, none⟩ = some (.int .i64 0) := K.at_box (i := 1) q1 rfl
            have r2 : w2.cell? ⟨w.heap.size + 1, 2, none⟩ = some (.int .i64 0) := K.at_box (i := 2) q1 rfl
            have fa : ∀ i, w2.frozen? ⟨w.heap.size, i, none⟩ = false := fun i => frozen_of_row w2 _ i _ _ q0
            have fr : ∀ i, w2.frozen? ⟨w.heap.size + 1, i, none⟩ = false := fun i => frozen_of_row w2 _ i _ _ q1
            clear b2 q0 q1 q2 q3 HZ HWh HW1 x0 x1 x2 y0 y1 y2 fx fy
            rcases K.which_is (l := l) (t := A' ++ Z') (k := (A'.length : Int)) with hw | ⟨j, r, hj, hm, hw⟩
            · rw [hw]
              have HG2 : Hid (Ws.go l false ah left (A' ++ Z'.take 1) (Z'.drop 1) = (o1, oL, oA, oZ)) := by
                show _ = _
                rw [← Ws.go_on HNs.out hw]; exact HGr.out
              have hA1 : (A' ++ Z'.take 1).length = A'.length + 1 := by rw [List.length_append, List.length_take]; omega
              have hT1 : A' ++ Z'.take 1 ++ Z'.drop 1 = A' ++ Z' := by rw [List.append_assoc, List.take_append_drop]
              have HD2 : Hid (Ws.Dl w (w2.setCell ⟨w.heap.size, 1, none⟩ (.int .i64 ((A'.length : Int) + 1))) xo' xc' (A' ++ Z'.take 1) (Z'.drop 1) (s + 1)) := by
                obtain ⟨q0, q1, q2, q3, q4⟩ := HQ.out
                refine ⟨?_, (heap_setCell_other w2 ⟨w.heap.size, 1, none⟩ _ _ (by simp)).trans q1, by rw [hT1]; exact Ws.rd_set3 q2 q0 1 _, by rw [hT1]; exact q4.1, q3.setCell (p := ⟨w.heap.size, 1, none⟩) (Nat.le_refl _) _, q4.2.set q0 (by decide) 1 _⟩
                rw [hT1, hA1]
                exact heap_setCell_same w2 w.heap.size 1 _ _ _ q0
              have hl2 : (A' ++ Z'.take 1).length + (Z'.drop 1).length ≤ 4000 := by rw [hA1, List.length_drop]; omega
              clear hA1 hT1 hw HGr
              go_wp2
              go_roundw
              case rel => exact ⟨xo', xc', _, _, s + 1, left, HD2, HG2, hl2, by omega⟩
              case measure =>
                have h1 := HSr.out
                have h2 := HD2.out.box.steps
                rw [h1, h2]
                omega
            · rw [hw]
              obtain ⟨ao', cap', e', _, hcs⟩ := HR.out.1
              cases e'
              obtain ⟨b, off, rfl, hcell⟩ := hcs (by intro h; subst h; simp at hj)
              obtain ⟨bo, bc, so, sc, af, ac, tgo, tc, c0, c1, c2, c3, c4, c5, c6, hP⟩ := hcell j r hj
              have lbw : b < w.heap.size := L.block_lt c0
              replace c0 := (HQ.out.2.2.2.1.cell (p := ⟨b, off + j * 7, none⟩) lbw).trans c0
              replace c1 := (HQ.out.2.2.2.1.cell (p := ⟨b, off + j * 7 + 1, none⟩) lbw).trans c1
              replace c2 := (HQ.out.2.2.2.1.cell (p := ⟨b, off + j * 7 + 2, none⟩) lbw).trans c2
              replace c3 := (HQ.out.2.2.2.1.cell (p := ⟨b, off + j * 7 + 3, none⟩) lbw).trans c3
              replace c4 := (HQ.out.2.2.2.1.cell (p := ⟨b, off + j * 7 + 4, none⟩) lbw).trans c4
              replace c5 := (HQ.out.2.2.2.1.cell (p := ⟨b, off + j * 7 + 5, none⟩) lbw).trans c5
              replace c6 := (HQ.out.2.2.2.1.cell (p := ⟨b, off + j * 7 + 6, none⟩) lbw).trans c6
              have hjl : j < l.length := (List.getElem?_eq_some_iff.1 hj).1
              have hr0 := HR.out.2 r (List.mem_of_getElem? hj)
              have hin := K.fits hr0 hm
              have hcu := (K.ruleE_zero hr0).2.2.2.2.2.2
              have hta := (K.ruleE_zero hr0).2.2.2.2.1
              have hrl : r.target.length ≤ (K.restOf r Z').length := by rw [K.restOf_length]; omega
              have hput : K.putL r (A' ++ Z') A'.length = A' ++ K.restOf r Z' := K.putL_rest
              have HPu : Hid (Calls Try.prog 40 #[.agg #[.bool r.start, .bool r.fin, .slice bo r.before.length bc, .slice so r.source.length sc, .slice af r.after.length ac, .slice tgo r.target.length tc, .int .i64 r.cursor], .slice xo' N xc', .int .i64 A'.length] w2.drew fun e w' => ∃ vo vn vc, e = .returned (.slice vo vn vc) ∧ (vn ≤ (A' ++ K.restOf r Z').length ∧ (A' ++ K.restOf r Z').length ≤ vn) ∧ vn ≤ vc ∧ (L.Rd w' (.slice vo vn vc) .i32 (A' ++ K.restOf r Z') ∧ Ws.Row w' vo) ∧ Below w2.heap.size w2 w') := by
                have h := rPut2_any w2.drew _ r (hP.below HQ.out.2.2.2.1.drew) hr0 xo' xc' (A' ++ Z') (K.rd_block HQ.out.2.2.1 fun _ _ _ => rfl) HQ.out.2.2.2.2.1 (by rw [List.length_append]; omega) A'.length (by rw [List.length_append]; omega)
                rw [← HN.out] at h
                refine h.mono ?_
                rintro e w' ⟨v', rfl, own, hb⟩
                rw [hput] at own
                have hrd := L.Rd.of_owns own
                have hb' : Below w2.heap.size w2 w' := ((Below.refl _ w2).drew).trans hb
                rcases own.2 with ⟨hv, h0⟩ | ⟨g, cp, cur, hv, _, _, hle, _⟩
                · subst hv
                  exact ⟨none, 0, 0, rfl, ⟨by omega, by omega⟩, Nat.le_refl _, ⟨hrd, Ws.Row.own own⟩, hb'⟩
                · subst hv
                  exact ⟨_, _, cp, rfl, ⟨Nat.le_refl _, Nat.le_refl _⟩, hle, ⟨hrd, Ws.Row.own own⟩, hb'⟩
              have HKp : Hid (∀ W, Below w2.heap.size w2 W → (W.cell? ⟨b, off + j * 7, none⟩ = some (.bool r.start) ∧ W.cell? ⟨b, off + j * 7 + 1, none⟩ = some (.bool r.fin) ∧ W.cell? ⟨b, off + j * 7 + 2, none⟩ = some (.slice bo r.before.length bc) ∧ W.cell? ⟨b, off + j * 7 + 3, none⟩ = some (.slice so r.source.length sc) ∧ W.cell? ⟨b, off + j * 7 + 4, none⟩ = some (.slice af r.after.length ac) ∧ W.cell? ⟨b, off + j * 7 + 5, none⟩ = some (.slice tgo r.target.length tc) ∧ W.cell? ⟨b, off + j * 7 + 6, none⟩ = some (.int .i64 r.cursor)) ∧ W.cell? ⟨w.heap.size, 0, none⟩ = some (.slice xo' N xc') ∧ W.cell? ⟨w.heap.size, 1, none⟩ = some (.int .i64 A'.length)) := fun W hW => by
                have lb := L.block_lt c0
                have lw := L.block_lt a0
                exact ⟨⟨(hW.cell (p := ⟨b, off + j * 7, none⟩) lb).trans c0, (hW.cell (p := ⟨b, off + j * 7 + 1, none⟩) lb).trans c1, (hW.cell (p := ⟨b, off + j * 7 + 2, none⟩) lb).trans c2, (hW.cell (p := ⟨b, off + j * 7 + 3, none⟩) lb).trans c3, (hW.cell (p := ⟨b, off + j * 7 + 4, none⟩) lb).trans c4, (hW.cell (p := ⟨b, off + j * 7 + 5, none⟩) lb).trans c5, (hW.cell (p := ⟨b, off + j * 7 + 6, none⟩) lb).trans c6⟩, (hW.cell (p := ⟨w.heap.size, 0, none⟩) lw).trans a0, (hW.cell (p := ⟨w.heap.size, 1, none⟩) lw).trans a1⟩
              have hbne : b ≠ w.heap.size := by omega
              have hj0 : (0 : Int) ≤ j := by omega
              have hjr : (j : Int) < l.length := by omega
              have HGm : Hid (4000 < A'.length + (K.restOf r Z').length → o1 = 4) := fun h => by
                have hgo := HGr.out
                rw [Ws.go_much HNs.out hw hj h] at hgo
                simp only [Prod.mk.injEq] at hgo
                exact hgo.1.symm
              have HGp : Hid (¬ 4000 < A'.length + (K.restOf r Z').length → Ws.go l false ah left (A' ++ (K.restOf r Z').take r.cursor.toNat) ((K.restOf r Z').drop r.cursor.toNat) = (o1, oL, oA, oZ)) := fun h => by
                rw [← Ws.go_put HNs.out hw hj h]; exact HGr.out
              obtain ⟨RS, hRS⟩ : ∃ RS, RS = K.restOf r Z' := ⟨_, rfl⟩
              rw [← hRS] at HPu HGm HGp hrl
              clear hcell hcs hP hj hm hw hput hRS HGr hr0 hin
              obtain ⟨stt, fii, be, sou, aft, ta, cu⟩ := r
              simp only at c0 c1 c2 c3 c4 c5 c6 HPu HKp HGm HGp hcu hta hrl
              go_wp2
              go_region_held3 (fun w' => (w'.cell? ⟨b, off + j * 7, none⟩ = some (.bool stt) ∧ w'.cell? ⟨b, off + j * 7 + 1, none⟩ = some (.bool fii) ∧ w'.cell? ⟨b, off + j * 7 + 2, none⟩ = some (.slice bo be.length bc) ∧ w'.cell? ⟨b, off + j * 7 + 3, none⟩ = some (.slice so sou.length sc) ∧ w'.cell? ⟨b, off + j * 7 + 4, none⟩ = some (.slice af aft.length ac) ∧ w'.cell? ⟨b, off + j * 7 + 5, none⟩ = some (.slice tgo ta.length tc) ∧ w'.cell? ⟨b, off + j * 7 + 6, none⟩ = some (.int .i64 cu)) ∧ w'.cell? ⟨w.heap.size, 0, none⟩ = some (.slice xo' N xc') ∧ w'.cell? ⟨w.heap.size, 1, none⟩ = some (.int .i64 A'.length)) (first | exact HKp.out _ b3 | go_keep) (first | (go_at_call 40; refine HPu.out.mono ?_; rintro e w3 ⟨vo, vn, vc, rfl, ⟨hva, hvb⟩, hvc, hrd, b3⟩) | fail)
              obtain ⟨q0, q1, q2, q3, q4⟩ := HQ.out
              have p0 := K.blk_below q0 b3
              have p1 := K.blk_below q1 b3
              have hvl : (A' ++ RS).length = A'.length + RS.length := List.length_append
              have hvn : vn = (A' ++ RS).length := by omega
              have HP3 : Hid (Ws.Bx w3 w.heap.size xo' (A' ++ Z').length xc' A'.length ((s : Int) + 1) ∧ Ws.Bx w3 (w.heap.size + 1) none 0 0 0 0 ∧ (L.Rd w3 (.slice vo vn vc) .i32 (A' ++ RS) ∧ Ws.Row w3 vo) ∧ Below w.heap.size w w3 ∧ vn = (A' ++ RS).length) := ⟨p0, p1, hrd, q3.trans (b3.mono q3.size), hvn⟩
              have hv1 : vn ≤ A'.length + RS.length := by omega
              have hv2 : A'.length + RS.length ≤ vn := by omega
              have a0 : w3.cell? ⟨w.heap.size, 0, none⟩ = some (.slice xo' N xc') := by rw [HN.out]; exact K.at_box (i := 0) p0 rfl
              have a1 : w3.cell? ⟨w.heap.size, 1, none⟩ = some (.int .i64 A'.length) := K.at_box (i := 1) p0 rfl
              have a2 : w3.cell? ⟨w.heap.size, 2, none⟩ = some (.int .i64 ((s : Int) + 1)) := K.at_box (i := 2) p0 rfl
              have r0 : w3.cell? ⟨w.heap.size + 1, 0, none⟩ = some (.slice none 0 0) := K.at_box (i := 0) p1 rfl
              have r1 : w3.cell? ⟨w.heap.size + 1, 1, none⟩ = some (.int .i64 0) := K.at_box (i := 1) p1 rfl
              have r2 : w3.cell? ⟨w.heap.size + 1, 2, none⟩ = some (.int .i64 0) := K.at_box (i := 2) p1 rfl
              have fa : ∀ i, w3.frozen? ⟨w.heap.size, i, none⟩ = false := fun i => frozen_of_row w3 _ i _ _ p0
              have fr : ∀ i, w3.frozen? ⟨w.heap.size + 1, i, none⟩ = false := fun i => frozen_of_row w3 _ i _ _ p1
              have c6' := (HKp.out w3 b3).1.2.2.2.2.2.2
              clear c0 c1 c2 c3 c4 c5 c6 q0 q1 q2 q3 q4 p0 p1 hvl hrd b3 hvn hva hvb HPu HKp HQ
              by_cases hm4 : 4000 < A'.length + RS.length
              · have hmv : (4000 : Int) < (vn : Int) := by omega
                have ho := HGm.out hm4
                subst ho
                clear HGm HGp
                go_wp2
                refine bodyPost_ret (v := .tuple #[.agg #[.slice xo' N xc', .int .i64 A'.length, .int .i64 ((s : Int) + 1)], .int .i64 4]) (by simp [results, Try.results24, go_sem, *]) rfl ?_
                exact ⟨xo', N, xc', _, _, rfl, ((HP3.out.2.2.2.1.setCell (p := ⟨w.heap.size + 1, 0, none⟩) (by simp) _).setCell (p := ⟨w.heap.size + 1, 1, none⟩) (by simp) _).setCell (p := ⟨w.heap.size + 1, 2, none⟩) (by simp) _, fun h => by simp at h⟩
              · have hmv : ¬ (4000 : Int) < (vn : Int) := by omega
                have HG2 : Hid (_ = _) := HGp.out hm4
                obtain ⟨W4, hW4⟩ : ∃ W4, W4 = w3.setCell ⟨w.heap.size, 0, none⟩ (.slice vo vn vc) := ⟨_, rfl⟩
                have t0 : Ws.Bx W4 w.heap.size vo vn vc A'.length ((s : Int) + 1) := by rw [hW4]; exact heap_setCell_same w3 w.heap.size 0 _ _ _ HP3.out.1
                have t1 : Ws.Bx W4 (w.heap.size + 1) none 0 0 0 0 := by rw [hW4]; exact (heap_setCell_other w3 ⟨w.heap.size, 0, none⟩ _ _ (by simp)).trans HP3.out.2.1
                have t2 : L.Rd W4 (.slice vo vn vc) .i32 (A' ++ RS) := by rw [hW4]; exact Ws.rd_set3 HP3.out.2.2.1.1 HP3.out.1 0 _
                have t3 : Below w.heap.size w W4 := by rw [hW4]; exact HP3.out.2.2.2.1.setCell (p := ⟨w.heap.size, 0, none⟩) (Nat.le_refl _) _
                have t4 : Ws.Row W4 vo := by rw [hW4]; exact HP3.out.2.2.1.2.set HP3.out.1 (by decide) 0 _
                have u1 : W4.cell? ⟨w.heap.size, 1, none⟩ = some (.int .i64 A'.length) := K.at_box (i := 1) t0 rfl
                have u6 : W4.cell? ⟨b, off + j * 7 + 6, none⟩ = some (.int .i64 cu) := by rw [hW4, World.cell?_setCell_far _ _ _ _ (by simpa using hbne.symm)]; exact c6'
                have fu : W4.frozen? ⟨w.heap.size, 1, none⟩ = false := frozen_of_row W4 _ 1 _ _ t0
                have hcn : ((cu.toNat : Nat) : Int) = cu := by omega
                have hcr : cu.toNat ≤ RS.length := by omega
                have hA1 : (A' ++ RS.take cu.toNat).length = A'.length + cu.toNat := by rw [List.length_append, List.length_take]; omega
                have hT1 : A' ++ RS.take cu.toNat ++ RS.drop cu.toNat = A' ++ RS := by rw [List.append_assoc, List.take_append_drop]
                have HD2 : Hid (Ws.Dl w (W4.setCell ⟨w.heap.size, 1, none⟩ (.int .i64 ((A'.length : Int) + cu))) vo vc (A' ++ RS.take cu.toNat) (RS.drop cu.toNat) (s + 1)) := by
                  have hvn := HP3.out.2.2.2.2
                  refine ⟨?_, (heap_setCell_other W4 ⟨w.heap.size, 1, none⟩ _ _ (by simp)).trans t1, by rw [hT1, ← hvn]; exact Ws.rd_set3 t2 t0 1 _, by rw [hT1, ← hvn]; exact hvc, t3.setCell (p := ⟨w.heap.size, 1, none⟩) (Nat.le_refl _) _, t4.set t0 (by decide) 1 _⟩
                  rw [hT1, hA1, ← hvn, Int.natCast_add, hcn]
                  exact heap_setCell_same W4 w.heap.size 1 _ _ _ t0
                have hl2 : (A' ++ RS.take cu.toNat).length + (RS.drop cu.toNat).length ≤ 4000 := by rw [hA1, List.length_drop]; omega
                have HW4 : Hid (W4 = w3.setCell ⟨w.heap.size, 0, none⟩ (.slice vo vn vc)) := hW4
                have hcu1 : (0 : Int) ≤ cu := by omega
                have hcu2 : cu ≤ 20 := by omega
                clear hW4 t0 t1 t2 t3 t4 hA1 hT1 HGm HGp HP3 hcn hcr c6'
                go_wp2
                rw [← HW4.out]
                go_region
                go_wp2
                go_roundw
                case rel => exact ⟨vo, vc, _, _, s + 1, left, ⟨HD2.out.box, HD2.out.res, K.rd_block HD2.out.rd fun _ _ _ => rfl, HD2.out.cap, HD2.out.bel.drew, HD2.out.row.drew⟩, HG2, hl2, by omega⟩
                case measure =>
                  have h1 := HSr.out
                  have h2 : Ws.stepsAt (W4.setCell ⟨w.heap.size, 1, none⟩ (.int .i64 ((A'.length : Int) + cu))) w.heap.size = s + 1 := HD2.out.box.steps
                  have h3 : Ws.stepsAt (W4.setCell ⟨w.heap.size, 1, none⟩ (.int .i64 ((A'.length : Int) + cu))).drew w.heap.size = s + 1 := h2
                  rw [h1, h3]
                  omega
      | true =>
        have hs2 : True := trivial
        cases left with
        | zero =>
          have hgo := HGr.out
          rw [Ws.go_out hz] at hgo
          simp only [Prod.mk.injEq] at hgo
          obtain ⟨rfl, rfl, rfl, rfl⟩ := hgo
          have hse : (s : Int) = 8 * (came : Int) + 40 := by omega
          have HSe : Hid (s = 8 * came + 40) := by show _ = _; omega
          clear HGr HDr hsl
          go_wp2
          refine bodyPost_ret (v := .tuple #[.agg #[.slice xo' N xc', .int .i64 A'.length, .int .i64 s], .int .i64 9]) (by simp [results, Try.results24, go_sem, *]) rfl ?_
          exact ⟨xo', N, xc', _, _, rfl, (HRet.out _ _ _).2.2, fun h => by simp at h⟩
        | succ left =>
          have hse : ¬ (s : Int) = 8 * (came : Int) + 40 := by omega
          obtain ⟨W1, hW1⟩ : ∃ W1, W1 = wr.setCell ⟨w.heap.size, 2, none⟩ (.int .i64 ((s : Int) + 1)) := ⟨_, rfl⟩
          have z0 : Ws.Bx W1 w.heap.size xo' (A' ++ Z').length xc' A'.length ((s : Int) + 1) := by rw [hW1]; exact heap_setCell_same wr w.heap.size 2 _ _ _ HDr.out.box
          have z1 : Ws.Bx W1 (w.heap.size + 1) none 0 0 0 0 := by rw [hW1]; exact (heap_setCell_other wr ⟨w.heap.size, 2, none⟩ _ _ (by simp)).trans HDr.out.res
          have z2 : L.Rd W1 (.slice xo' (A' ++ Z').length xc') .i32 (A' ++ Z') := by rw [hW1]; exact Ws.rd_set3 HDr.out.rd HDr.out.box 2 _
          have z3 : Below w.heap.size w W1 := by rw [hW1]; exact HDr.out.bel.setCell (p := ⟨w.heap.size, 2, none⟩) (Nat.le_refl _) _
          have z4 : Ws.Row W1 xo' := by rw [hW1]; exact HDr.out.row.set HDr.out.box (by decide) 2 _
          have HWh : Hid (∀ Y, Y = W1 → Calls Try.prog 16 #[.slice ao l.length cap, .slice xo' N xc', .int .i64 A'.length] Y fun e w' => e = .returned (.int .i64 (K.which l (A' ++ Z') A'.length)) ∧ Below W1.heap.size W1 w') := fun Y hY => by
            rw [hY, HN.out]
            exact rWhich8_any W1 _ l (HR.out.1.below z3) hl HR.out.2 _ (A' ++ Z') z2 (by rw [List.length_append]; omega) A'.length (by omega) (by rw [List.length_append]; omega)
          have hcp := HDr.out.cap
          have HW1 : Hid (W1 = wr.setCell ⟨w.heap.size, 2, none⟩ (.int .i64 ((s : Int) + 1))) := hW1
          have HZ : Hid (Ws.Bx W1 w.heap.size xo' (A' ++ Z').length xc' A'.length ((s : Int) + 1) ∧ Ws.Bx W1 (w.heap.size + 1) none 0 0 0 0 ∧ L.Rd W1 (.slice xo' (A' ++ Z').length xc') .i32 (A' ++ Z') ∧ Below w.heap.size w W1 ∧ ((A' ++ Z').length ≤ xc' ∧ Ws.Row W1 xo')) := ⟨z0, z1, z2, z3, hcp, z4⟩
          have hns : ¬ (Z'.length = 0 ∨ (true = false ∧ Z'.length ≤ ah)) := fun h => by
            rcases h with h | ⟨h0, h⟩
            · omega
            · first | omega | (cases h0)
          have HNs : Hid (¬ Ws.Stop true ah Z') := hns
          clear hW1 z0 z1 z2 z3 z4 hcp HDr HRet hns
          go_wp2_with fail
          go_at_call 16
          refine (HWh.out _ HW1.out.symm).mono ?_
          rintro e w2 ⟨rfl, b2⟩
          have q0 : Ws.Bx w2 w.heap.size xo' (A' ++ Z').length xc' A'.length ((s : Int) + 1) := K.blk_below HZ.out.1 b2
          have q1 : Ws.Bx w2 (w.heap.size + 1) none 0 0 0 0 := K.blk_below HZ.out.2.1 b2
          have q2 := HZ.out.2.2.1.below b2 (Nat.le_refl _)
          have q3 : Below w.heap.size w w2 := HZ.out.2.2.2.1.trans (b2.mono HZ.out.2.2.2.1.size)
          have HQ : Hid (Ws.Bx w2 w.heap.size xo' (A' ++ Z').length xc' A'.length ((s : Int) + 1) ∧ Ws.Bx w2 (w.heap.size + 1) none 0 0 0 0 ∧ L.Rd w2 (.slice xo' (A' ++ Z').length xc') .i32 (A' ++ Z') ∧ Below w.heap.size w w2 ∧ ((A' ++ Z').length ≤ xc' ∧ Ws.Row w2 xo')) := ⟨q0, q1, q2, q3, HZ.out.2.2.2.2.1, HZ.out.2.2.2.2.2.below b2⟩
          have a0 : w2.cell? ⟨w.heap.size, 0, none⟩ = some (.slice xo' N xc') := by rw [HN.out]; exact K.at_box (i := 0) q0 rfl
          have a1 : w2.cell? ⟨w.heap.size, 1, none⟩ = some (.int .i64 A'.length) := K.at_box (i := 1) q0 rfl
          have a2 : w2.cell? ⟨w.heap.size, 2, none⟩ = some (.int .i64 ((s : Int) + 1)) := K.at_box (i := 2) q0 rfl
          have r0 : w2.cell? ⟨w.heap.size + 1, 0, none⟩ = some (.slice none 0 0) := K.at_box (i := 0) q1 rfl
          have r1 : w2.cell? ⟨w.heap.size + 1, 1, none⟩ = some (.int .i64 0) := K.at_box (i := 1) q1 rfl
          have r2 : w2.cell? ⟨w.heap.size + 1, 2, none⟩ = some (.int .i64 0) := K.at_box (i := 2) q1 rfl
          have fa : ∀ i, w2.frozen? ⟨w.heap.size, i, none⟩ = false := fun i => frozen_of_row w2 _ i _ _ q0
          have fr : ∀ i, w2.frozen? ⟨w.heap.size + 1, i, none⟩ = false := fun i => frozen_of_row w2 _ i _ _ q1
          clear b2 q0 q1 q2 q3 HZ HWh HW1 x0 x1 x2 y0 y1 y2 fx fy
          rcases K.which_is (l := l) (t := A' ++ Z') (k := (A'.length : Int)) with hw | ⟨j, r, hj, hm, hw⟩
          · rw [hw]
            have HG2 : Hid (Ws.go l true ah left (A' ++ Z'.take 1) (Z'.drop 1) = (o1, oL, oA, oZ)) := by
              show _ = _
              rw [← Ws.go_on HNs.out hw]; exact HGr.out
            have hA1 : (A' ++ Z'.take 1).length = A'.length + 1 := by rw [List.length_append, List.length_take]; omega
            have hT1 : A' ++ Z'.take 1 ++ Z'.drop 1 = A' ++ Z' := by rw [List.append_assoc, List.take_append_drop]
            have HD2 : Hid (Ws.Dl w (w2.setCell ⟨w.heap.size, 1, none⟩ (.int .i64 ((A'.length : Int) + 1))) xo' xc' (A' ++ Z'.take 1) (Z'.drop 1) (s + 1)) := by
              obtain ⟨q0, q1, q2, q3, q4⟩ := HQ.out
              refine ⟨?_, (heap_setCell_other w2 ⟨w.heap.size, 1, none⟩ _ _ (by simp)).trans q1, by rw [hT1]; exact Ws.rd_set3 q2 q0 1 _, by rw [hT1]; exact q4.1, q3.setCell (p := ⟨w.heap.size, 1, none⟩) (Nat.le_refl _) _, q4.2.set q0 (by decide) 1 _⟩
              rw [hT1, hA1]
              exact heap_setCell_same w2 w.heap.size 1 _ _ _ q0
            have hl2 : (A' ++ Z'.take 1).length + (Z'.drop 1).length ≤ 4000 := by rw [hA1, List.length_drop]; omega
            clear hA1 hT1 hw HGr
            go_wp2
            go_roundw
            case rel => exact ⟨xo', xc', _, _, s + 1, left, HD2, HG2, hl2, by omega⟩
            case measure =>
              have h1 := HSr.out
              have h2 := HD2.out.box.steps
              rw [h1, h2]
              omega
          · rw [hw]
            obtain ⟨ao', cap', e', _, hcs⟩ := HR.out.1
            cases e'
            obtain ⟨b, off, rfl, hcell⟩ := hcs (by intro h; subst h; simp at hj)
            obtain ⟨bo, bc, so, sc, af, ac, tgo, tc, c0, c1, c2, c3, c4, c5, c6, hP⟩ := hcell j r hj
            have lbw : b < w.heap.size := L.block_lt c0
            replace c0 := (HQ.out.2.2.2.1.cell (p := ⟨b, off + j * 7, none⟩) lbw).trans c0
            replace c1 := (HQ.out.2.2.2.1.cell (p := ⟨b, off + j * 7 + 1, none⟩) lbw).trans c1
            replace c2 := (HQ.out.2.2.2.1.cell (p := ⟨b, off + j * 7 + 2, none⟩) lbw).trans c2
            replace c3 := (HQ.out.2.2.2.1.cell (p := ⟨b, off + j * 7 + 3, none⟩) lbw).trans c3
            replace c4 := (HQ.out.2.2.2.1.cell (p := ⟨b, off + j * 7 + 4, none⟩) lbw).trans c4
            replace c5 := (HQ.out.2.2.2.1.cell (p := ⟨b, off + j * 7 + 5, none⟩) lbw).trans c5
            replace c6 := (HQ.out.2.2.2.1.cell (p := ⟨b, off + j * 7 + 6, none⟩) lbw).trans c6
            have hjl : j < l.length := (List.getElem?_eq_some_iff.1 hj).1
            have hr0 := HR.out.2 r (List.mem_of_getElem? hj)
            have hin := K.fits hr0 hm
            have hcu := (K.ruleE_zero hr0).2.2.2.2.2.2
            have hta := (K.ruleE_zero hr0).2.2.2.2.1
            have hrl : r.target.length ≤ (K.restOf r Z').length := by rw [K.restOf_length]; omega
            have hput : K.putL r (A' ++ Z') A'.length = A' ++ K.restOf r Z' := K.putL_rest
            have HPu : Hid (Calls Try.prog 40 #[.agg #[.bool r.start, .bool r.fin, .slice bo r.before.length bc, .slice so r.source.length sc, .slice af r.after.length ac, .slice tgo r.target.length tc, .int .i64 r.cursor], .slice xo' N xc', .int .i64 A'.length] w2.drew fun e w' => ∃ vo vn vc, e = .returned (.slice vo vn vc) ∧ (vn ≤ (A' ++ K.restOf r Z').length ∧ (A' ++ K.restOf r Z').length ≤ vn) ∧ vn ≤ vc ∧ (L.Rd w' (.slice vo vn vc) .i32 (A' ++ K.restOf r Z') ∧ Ws.Row w' vo) ∧ Below w2.heap.size w2 w') := by
              have h := rPut2_any w2.drew _ r (hP.below HQ.out.2.2.2.1.drew) hr0 xo' xc' (A' ++ Z') (K.rd_block HQ.out.2.2.1 fun _ _ _ => rfl) HQ.out.2.2.2.2.1 (by rw [List.length_append]; omega) A'.length (by rw [List.length_append]; omega)
              rw [← HN.out] at h
              refine h.mono ?_
              rintro e w' ⟨v', rfl, own, hb⟩
              rw [hput] at own
              have hrd := L.Rd.of_owns own
              have hb' : Below w2.heap.size w2 w' := ((Below.refl _ w2).drew).trans hb
              rcases own.2 with ⟨hv, h0⟩ | ⟨g, cp, cur, hv, _, _, hle, _⟩
              · subst hv
                exact ⟨none, 0, 0, rfl, ⟨by omega, by omega⟩, Nat.le_refl _, ⟨hrd, Ws.Row.own own⟩, hb'⟩
              · subst hv
                exact ⟨_, _, cp, rfl, ⟨Nat.le_refl _, Nat.le_refl _⟩, hle, ⟨hrd, Ws.Row.own own⟩, hb'⟩
            have HKp : Hid (∀ W, Below w2.heap.size w2 W → (W.cell? ⟨b, off + j * 7, none⟩ = some (.bool r.start) ∧ W.cell? ⟨b, off + j * 7 + 1, none⟩ = some (.bool r.fin) ∧ W.cell? ⟨b, off + j * 7 + 2, none⟩ = some (.slice bo r.before.length bc) ∧ W.cell? ⟨b, off + j * 7 + 3, none⟩ = some (.slice so r.source.length sc) ∧ W.cell? ⟨b, off + j * 7 + 4, none⟩ = some (.slice af r.after.length ac) ∧ W.cell? ⟨b, off + j * 7 + 5, none⟩ = some (.slice tgo r.target.length tc) ∧ W.cell? ⟨b, off + j * 7 + 6, none⟩ = some (.int .i64 r.cursor)) ∧ W.cell? ⟨w.heap.size, 0, none⟩ = some (.slice xo' N xc') ∧ W.cell? ⟨w.heap.size, 1, none⟩ = some (.int .i64 A'.length)) := fun W hW => by
              have lb := L.block_lt c0
              have lw := L.block_lt a0
              exact ⟨⟨(hW.cell (p := ⟨b, off + j * 7, none⟩) lb).trans c0, (hW.cell (p := ⟨b, off + j * 7 + 1, none⟩) lb).trans c1, (hW.cell (p := ⟨b, off + j * 7 + 2, none⟩) lb).trans c2, (hW.cell (p := ⟨b, off + j * 7 + 3, none⟩) lb).trans c3, (hW.cell (p := ⟨b, off + j * 7 + 4, none⟩) lb).trans c4, (hW.cell (p := ⟨b, off + j * 7 + 5, none⟩) lb).trans c5, (hW.cell (p := ⟨b, off + j * 7 + 6, none⟩) lb).trans c6⟩, (hW.cell (p := ⟨w.heap.size, 0, none⟩) lw).trans a0, (hW.cell (p := ⟨w.heap.size, 1, none⟩) lw).trans a1⟩
            have hbne : b ≠ w.heap.size := by omega
            have hj0 : (0 : Int) ≤ j := by omega
            have hjr : (j : Int) < l.length := by omega
            have HGm : Hid (4000 < A'.length + (K.restOf r Z').length → o1 = 4) := fun h => by
              have hgo := HGr.out
              rw [Ws.go_much HNs.out hw hj h] at hgo
              simp only [Prod.mk.injEq] at hgo
              exact hgo.1.symm
            have HGp : Hid (¬ 4000 < A'.length + (K.restOf r Z').length → Ws.go l true ah left (A' ++ (K.restOf r Z').take r.cursor.toNat) ((K.restOf r Z').drop r.cursor.toNat) = (o1, oL, oA, oZ)) := fun h => by
              rw [← Ws.go_put HNs.out hw hj h]; exact HGr.out
            obtain ⟨RS, hRS⟩ : ∃ RS, RS = K.restOf r Z' := ⟨_, rfl⟩
            rw [← hRS] at HPu HGm HGp hrl
            clear hcell hcs hP hj hm hw hput hRS HGr hr0 hin
            obtain ⟨stt, fii, be, sou, aft, ta, cu⟩ := r
            simp only at c0 c1 c2 c3 c4 c5 c6 HPu HKp HGm HGp hcu hta hrl
            go_wp2
            go_region_held3 (fun w' => (w'.cell? ⟨b, off + j * 7, none⟩ = some (.bool stt) ∧ w'.cell? ⟨b, off + j * 7 + 1, none⟩ = some (.bool fii) ∧ w'.cell? ⟨b, off + j * 7 + 2, none⟩ = some (.slice bo be.length bc) ∧ w'.cell? ⟨b, off + j * 7 + 3, none⟩ = some (.slice so sou.length sc) ∧ w'.cell? ⟨b, off + j * 7 + 4, none⟩ = some (.slice af aft.length ac) ∧ w'.cell? ⟨b, off + j * 7 + 5, none⟩ = some (.slice tgo ta.length tc) ∧ w'.cell? ⟨b, off + j * 7 + 6, none⟩ = some (.int .i64 cu)) ∧ w'.cell? ⟨w.heap.size, 0, none⟩ = some (.slice xo' N xc') ∧ w'.cell? ⟨w.heap.size, 1, none⟩ = some (.int .i64 A'.length)) (first | exact HKp.out _ b3 | go_keep) (first | (go_at_call 40; refine HPu.out.mono ?_; rintro e w3 ⟨vo, vn, vc, rfl, ⟨hva, hvb⟩, hvc, hrd, b3⟩) | fail)
            obtain ⟨q0, q1, q2, q3, q4⟩ := HQ.out
            have p0 := K.blk_below q0 b3
            have p1 := K.blk_below q1 b3
            have hvl : (A' ++ RS).length = A'.length + RS.length := List.length_append
            have hvn : vn = (A' ++ RS).length := by omega
            have HP3 : Hid (Ws.Bx w3 w.heap.size xo' (A' ++ Z').length xc' A'.length ((s : Int) + 1) ∧ Ws.Bx w3 (w.heap.size + 1) none 0 0 0 0 ∧ (L.Rd w3 (.slice vo vn vc) .i32 (A' ++ RS) ∧ Ws.Row w3 vo) ∧ Below w.heap.size w w3 ∧ vn = (A' ++ RS).length) := ⟨p0, p1, hrd, q3.trans (b3.mono q3.size), hvn⟩
            have hv1 : vn ≤ A'.length + RS.length := by omega
            have hv2 : A'.length + RS.length ≤ vn := by omega
            have a0 : w3.cell? ⟨w.heap.size, 0, none⟩ = some (.slice xo' N xc') := by rw [HN.out]; exact K.at_box (i := 0) p0 rfl
            have a1 : w3.cell? ⟨w.heap.size, 1, none⟩ = some (.int .i64 A'.length) := K.at_box (i := 1) p0 rfl
            have a2 : w3.cell? ⟨w.heap.size, 2, none⟩ = some (.int .i64 ((s : Int) + 1)) := K.at_box (i := 2) p0 rfl
            have r0 : w3.cell? ⟨w.heap.size + 1, 0, none⟩ = some (.slice none 0 0) := K.at_box (i := 0) p1 rfl
            have r1 : w3.cell? ⟨w.heap.size + 1, 1, none⟩ = some (.int .i64 0) := K.at_box (i := 1) p1 rfl
            have r2 : w3.cell? ⟨w.heap.size + 1, 2, none⟩ = some (.int .i64 0) := K.at_box (i := 2) p1 rfl
            have fa : ∀ i, w3.frozen? ⟨w.heap.size, i, none⟩ = false := fun i => frozen_of_row w3 _ i _ _ p0
            have fr : ∀ i, w3.frozen? ⟨w.heap.size + 1, i, none⟩ = false := fun i => frozen_of_row w3 _ i _ _ p1
            have c6' := (HKp.out w3 b3).1.2.2.2.2.2.2
            clear c0 c1 c2 c3 c4 c5 c6 q0 q1 q2 q3 q4 p0 p1 hvl hrd b3 hvn hva hvb HPu HKp HQ
            by_cases hm4 : 4000 < A'.length + RS.length
            · have hmv : (4000 : Int) < (vn : Int) := by omega
              have ho := HGm.out hm4
              subst ho
              clear HGm HGp
              go_wp2
              refine bodyPost_ret (v := .tuple #[.agg #[.slice xo' N xc', .int .i64 A'.length, .int .i64 ((s : Int) + 1)], .int .i64 4]) (by simp [results, Try.results24, go_sem, *]) rfl ?_
              exact ⟨xo', N, xc', _, _, rfl, ((HP3.out.2.2.2.1.setCell (p := ⟨w.heap.size + 1, 0, none⟩) (by simp) _).setCell (p := ⟨w.heap.size + 1, 1, none⟩) (by simp) _).setCell (p := ⟨w.heap.size + 1, 2, none⟩) (by simp) _, fun h => by simp at h⟩
            · have hmv : ¬ (4000 : Int) < (vn : Int) := by omega
              have HG2 : Hid (_ = _) := HGp.out hm4
              obtain ⟨W4, hW4⟩ : ∃ W4, W4 = w3.setCell ⟨w.heap.size, 0, none⟩ (.slice vo vn vc) := ⟨_, rfl⟩
              have t0 : Ws.Bx W4 w.heap.size vo vn vc A'.length ((s : Int) + 1) := by rw [hW4]; exact heap_setCell_same w3 w.heap.size 0 _ _ _ HP3.out.1
              have t1 : Ws.Bx W4 (w.heap.size + 1) none 0 0 0 0 := by rw [hW4]; exact (heap_setCell_other w3 ⟨w.heap.size, 0, none⟩ _ _ (by simp)).trans HP3.out.2.1
              have t2 : L.Rd W4 (.slice vo vn vc) .i32 (A' ++ RS) := by rw [hW4]; exact Ws.rd_set3 HP3.out.2.2.1.1 HP3.out.1 0 _
              have t3 : Below w.heap.size w W4 := by rw [hW4]; exact HP3.out.2.2.2.1.setCell (p := ⟨w.heap.size, 0, none⟩) (Nat.le_refl _) _
              have t4 : Ws.Row W4 vo := by rw [hW4]; exact HP3.out.2.2.1.2.set HP3.out.1 (by decide) 0 _
              have u1 : W4.cell? ⟨w.heap.size, 1, none⟩ = some (.int .i64 A'.length) := K.at_box (i := 1) t0 rfl
              have u6 : W4.cell? ⟨b, off + j * 7 + 6, none⟩ = some (.int .i64 cu) := by rw [hW4, World.cell?_setCell_far _ _ _ _ (by simpa using hbne.symm)]; exact c6'
              have fu : W4.frozen? ⟨w.heap.size, 1, none⟩ = false := frozen_of_row W4 _ 1 _ _ t0
              have hcn : ((cu.toNat : Nat) : Int) = cu := by omega
              have hcr : cu.toNat ≤ RS.length := by omega
              have hA1 : (A' ++ RS.take cu.toNat).length = A'.length + cu.toNat := by rw [List.length_append, List.length_take]; omega
              have hT1 : A' ++ RS.take cu.toNat ++ RS.drop cu.toNat = A' ++ RS := by rw [List.append_assoc, List.take_append_drop]
              have HD2 : Hid (Ws.Dl w (W4.setCell ⟨w.heap.size, 1, none⟩ (.int .i64 ((A'.length : Int) + cu))) vo vc (A' ++ RS.take cu.toNat) (RS.drop cu.toNat) (s + 1)) := by
                have hvn := HP3.out.2.2.2.2
                refine ⟨?_, (heap_setCell_other W4 ⟨w.heap.size, 1, none⟩ _ _ (by simp)).trans t1, by rw [hT1, ← hvn]; exact Ws.rd_set3 t2 t0 1 _, by rw [hT1, ← hvn]; exact hvc, t3.setCell (p := ⟨w.heap.size, 1, none⟩) (Nat.le_refl _) _, t4.set t0 (by decide) 1 _⟩
                rw [hT1, hA1, ← hvn, Int.natCast_add, hcn]
                exact heap_setCell_same W4 w.heap.size 1 _ _ _ t0
              have hl2 : (A' ++ RS.take cu.toNat).length + (RS.drop cu.toNat).length ≤ 4000 := by rw [hA1, List.length_drop]; omega
              have HW4 : Hid (W4 = w3.setCell ⟨w.heap.size, 0, none⟩ (.slice vo vn vc)) := hW4
              have hcu1 : (0 : Int) ≤ cu := by omega
              have hcu2 : cu ≤ 20 := by omega
              clear hW4 t0 t1 t2 t3 t4 hA1 hT1 HGm HGp HP3 hcn hcr c6'
              go_wp2
              rw [← HW4.out]
              go_region
              go_wp2
              go_roundw
              case rel => exact ⟨vo, vc, _, _, s + 1, left, ⟨HD2.out.box, HD2.out.res, K.rd_block HD2.out.rd fun _ _ _ => rfl, HD2.out.cap, HD2.out.bel.drew, HD2.out.row.drew⟩, HG2, hl2, by omega⟩
              case measure =>
                have h1 := HSr.out
                have h2 : Ws.stepsAt (W4.setCell ⟨w.heap.size, 1, none⟩ (.int .i64 ((A'.length : Int) + cu))) w.heap.size = s + 1 := HD2.out.box.steps
                have h3 : Ws.stepsAt (W4.setCell ⟨w.heap.size, 1, none⟩ (.int .i64 ((A'.length : Int) + cu))).drew w.heap.size = s + 1 := h2
                rw [h1, h3]
                omega

end Go.Proofs.Ytackaadejnbfmaa

/-
  What the document's Feed puts together: texts, rows of texts.
-/
namespace Go.Proofs.Ytackaadejnbfmaa.Ws
open Go.RowKit Go.Lib
set_option maxRecDepth 20000
set_option linter.unusedVariables false

theorem own_slice {w : World} {F : Nat} {e : TypeId} {k : Nat} {v : Value} {n : Nat} {xs : List Value} (h : w.ownsRow F e k v n xs) : ∃ ao cap, v = .slice ao n cap ∧ n ≤ cap := by
  rcases h.2 with ⟨hv, h0⟩ | ⟨g, cap, cur, hv, _, _, hle, _⟩
  · exact ⟨none, 0, by rw [hv, h0], by omega⟩
  · exact ⟨_, cap, hv, hle⟩
/-- append([]rune{}, a...) -/
theorem app_one (w : World) (va : Value) (a : List Int) (ha : L.Rd w va .i32 a) (hl : a.length ≤ 100000) :
    ∃ vo vc w1, (∀ ty, (Builtin.append_ #[23, 23] ty #[.slice (some ⟨w.heap.size, 0, none⟩) 0 0, va]).run Try.prog (w.alloc (.cells #[] 21)) = .ok (.slice vo a.length vc) w1) ∧ w1.ownsRow w.heap.size 21 1 (.slice vo a.length vc) a.length (K.ints a) ∧ Below w.heap.size w w1 := by
  have hal : Below w.heap.size w (w.alloc (.cells #[] 21)) := (Below.refl _ w).alloc (Nat.le_refl _) _
  have own0 : (w.alloc (.cells #[] 21)).ownsRow w.heap.size 21 1 (.slice (some ⟨w.heap.size, 0, none⟩) ([] : List Int).length 0) ([] : List Int).length (K.ints []) := World.ownsRow_made w #[] 0 (Nat.le_refl _) (Nat.zero_le _) (by simp)
  obtain ⟨v1, w1, run1, own1, gr1, _⟩ := K.app_rd _ w.heap.size _ [] own0 va a (ha.below hal (Nat.le_refl _)) (by simp; omega) (by simp)
  have b1 : Below w.heap.size w w1 := hal.grown gr1 (by simp) fun k hk => (own0.lt k hk).1
  rw [List.nil_append] at own1
  obtain ⟨vo, vc, rfl, _⟩ := own_slice own1
  exact ⟨vo, vc, w1, run1, own1, b1⟩
/-- append(append([]rune{}, a...), b...) -/
theorem app_two (w : World) (va vb : Value) (a b : List Int) (ha : L.Rd w va .i32 a) (hb : L.Rd w vb .i32 b) (hl : a.length + b.length ≤ 100000) :
    ∃ vo vc w1 uo uc w2, (∀ ty, (Builtin.append_ #[23, 23] ty #[.slice (some ⟨w.heap.size, 0, none⟩) 0 0, va]).run Try.prog (w.alloc (.cells #[] 21)) = .ok (.slice vo a.length vc) w1) ∧ (∀ ty, (Builtin.append_ #[23, 23] ty #[.slice vo a.length vc, vb]).run Try.prog w1 = .ok (.slice uo (a ++ b).length uc) w2) ∧ w2.ownsRow w.heap.size 21 1 (.slice uo (a ++ b).length uc) (a ++ b).length (K.ints (a ++ b)) ∧ (a ++ b).length ≤ uc ∧ Below w.heap.size w w2 := by
  obtain ⟨vo, vc, w1, run1, own1, b1⟩ := app_one w va a ha (by omega)
  obtain ⟨v2, w2, run2, own2, gr2, _⟩ := K.app_rd w1 w.heap.size _ _ own1 vb b (hb.below b1 (Nat.le_refl _)) (by omega) b1.size
  have b2 : Below w.heap.size w w2 := b1.grown gr2 b1.size fun k hk => (own1.lt k hk).1
  obtain ⟨uo, uc, rfl, hle⟩ := own_slice own2
  exact ⟨vo, vc, w1, uo, uc, w2, run1, run2, own2, hle, b2⟩
/-- append(out, append([]rune{}, x...)) -/
theorem out_push {F : Nat} {X : World} {vo : Value} {ts : List (List Int)} (ho : Own F X vo ts) (hF : F ≤ X.heap.size) (hts : ts.length ≤ 1000) (vx : Value) (x : List Int) (hx : L.Rd X vx .i32 x) (hl : x.length ≤ 100000) :
    ∃ po pc w1 qo qc w2, (∀ ty, (Builtin.append_ #[23, 23] ty #[.slice (some ⟨X.heap.size, 0, none⟩) 0 0, vx]).run Try.prog (X.alloc (.cells #[] 21)) = .ok (.slice po x.length pc) w1) ∧ (∀ ty, (Builtin.append_ #[37, 37] ty #[vo, .slice (some ⟨w1.heap.size, 0, none⟩) 1 1]).run Try.prog (w1.alloc (.cells #[.slice po x.length pc] 23)) = .ok (.slice qo (ts.length + 1) qc) w2) ∧ Own F w2 (.slice qo (ts.length + 1) qc) (ts ++ [x]) ∧ Below F X w2 ∧ (∀ (b : Nat) (c : Array Value) (ty : TypeId), X.heap[b]? = some (.cells c ty) → ty ≠ 23 → w2.heap[b]? = X.heap[b]?) := by
  obtain ⟨po, pc, w1, run1, own1, b1⟩ := app_one X vx x hx hl
  obtain ⟨ps, h1, h2, h3⟩ := ho.kept (w' := w1) fun g _ hg => b1.block g hg
  have hpl : ps.length = ts.length := by rw [← h1]; simp
  rw [← hpl] at h2
  have hs1 := b1.size
  obtain ⟨v2, w2, run2, o2, gr, oth⟩ := push_ps h2 (by omega) (by omega) x (.slice po x.length pc) (L.owns_base own1 (by omega))
  have hal : Below w1.heap.size w1 (w1.alloc (.cells #[.slice po x.length pc] 23)) := (Below.refl _ w1).alloc (Nat.le_refl _) _
  have hl2 : (ps ++ [(x, Value.slice po x.length pc)]).length = ts.length + 1 := by rw [List.length_append, hpl]; rfl
  rw [hl2] at o2
  obtain ⟨qo, qc, rfl, _⟩ := own_slice o2
  refine ⟨po, pc, w1, qo, qc, w2, run1, run2, ⟨ps ++ [(x, .slice po x.length pc)], by simp [h1], by simpa using o2, fun p hp => ?_⟩, ((b1.mono hF).trans (hal.mono (by omega))).grown gr (by simp; omega) fun g hg => (h2.lt g hg).1, fun b c ty hb hty => ?_⟩
  · rcases List.mem_append.1 hp with hp | hp
    · exact oth _ _ _ (h3 p hp)
    · simp at hp
      subst hp
      exact oth _ _ _ (L.owns_base own1 (by omega))
  · have hlt : b < X.heap.size := lt_of_block hb
    have hb1 := K.blk_below hb b1
    rw [gr.block b (by simp; omega) (fun e => box_ne h2 hb1 hty b e.symm rfl), hal.block b (by omega)]
    exact b1.block b hlt
end Go.Proofs.Ytackaadejnbfmaa.Ws
