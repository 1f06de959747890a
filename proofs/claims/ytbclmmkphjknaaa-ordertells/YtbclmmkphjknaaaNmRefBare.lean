/-
  A text taken apart: the document's answer.
-/
import Derived.Test.YtbclmmkphjknaaaNmChain
import Derived.Test.YtbclmmkphjknaaaOdApp
import Derived.Test.YtbclmmkphjknaaaNmMap
import Derived.Test.YtbclmmkphjknaaaCnLess
import Derived.Test.YtbclmmkphjknaaaMRefT
import Derived.Deep.RegionHeld3
import Derived.Deep.DeepCutAuto
import Derived.Test.YtbclmmkphjknaaaNmRefP
namespace Go.Proofs.Ytbclmmkphjknaaa
open Go.RowKit
set_option maxRecDepth 20000
set_option linter.unusedSimpArgs false
set_option linter.unusedVariables false

namespace Nm
/-- where a rune of a letter stands: out is acc, taken apart -/
def Ra (w wr : World) (F : Nat) (vo : Value) (acc : List Int) : Prop := wr.ownsRow F 21 1 vo acc.length (K.ints acc) ∧ Below F w wr ∧ F ≤ wr.heap.size
theorem step3 {w wz w3 : World} {F N fg fc n3 : Nat} {xo : Option Addr} {xc : Nat} {ac fr A B : List Int} {x : Int} {v3 : Value} (hR : Ra w wz F (.slice xo N xc) ac) (hf : wz.ownsRow 0 21 1 (.slice (some ⟨fg, 0, none⟩) n3 fc) n3 (K.ints fr)) (hAB : ac = A ++ B) (hB : ∀ y ∈ B, 0 < cls x ∧ cls x < cls y) (hA : A = [] ∨ ∃ A0 z, A = A0 ++ [z] ∧ ¬ (0 < cls x ∧ cls x < cls z))
    (own3 : w3.ownsRow wz.heap.size 21 1 v3 (A ++ x :: B).length (K.ints (A ++ x :: B))) (b3 : Below wz.heap.size wz w3) : Ra w w3 F v3 (insR ac x) ∧ w3.ownsRow 0 21 1 (.slice (some ⟨fg, 0, none⟩) n3 fc) n3 (K.ints fr) ∧ (insR ac x).length = ac.length + 1 := by
  have e : insR ac x = A ++ x :: B := by rw [hAB]; exact insR_at hB hA
  rw [e]
  exact ⟨⟨L.owns_base own3 hR.2.2, hR.2.1.trans (b3.mono hR.2.2), Nat.le_trans hR.2.2 b3.size⟩, L.owns_below hf b3 (Nat.le_refl _), by rw [hAB]; simp; omega⟩
end Nm

set_option maxHeartbeats 8000000 in
theorem nmRefApart_any (w : World) (v : Value) (l : List Int) (R : L.Rd w v .i32 l) (hl : l.length ≤ 140737488355328) :
    Calls Try.prog 10 #[v] w fun e w' => ∃ v', e = .returned (.tuple #[v', .int .i64 (Nm.apartF l).2]) ∧ w'.ownsRow w.heap.size 21 1 v' (Nm.apartF l).1.length (K.ints (Nm.apartF l).1) ∧ Below w.heap.size w w' := by
  have HT : Hid (Calls Try.prog 29 #[v] w fun e w' => e = .returned (.int .i64 (K.textE l)) ∧ Below w.heap.size w w') := rText_any w v l R hl
  obtain ⟨q, hq⟩ : ∃ q, q = Nm.apartF l := ⟨_, rfl⟩
  have HQ : Hid (q = Nm.apartF l) := hq
  rw [← hq]
  have HR : Hid (L.Rd w v .i32 l) := R
  obtain ⟨ao, cap, rfl, _, _⟩ := R
  clear hq
  by_cases he : K.textE l = 0
  · obtain ⟨h4, hr⟩ := Nm.text_ok he
    rw [he] at HT
    have HE : Hid (K.textE l = 0) := he
    have HCl : Hid (∀ r X, Calls Try.prog 8 #[.int .i32 r] X fun e w' => e = .returned (.int .i64 (Nm.cls r)) ∧ w' = X) := fun r X => nmRefClass_any r X
    clear he hr
    go_enter Try.func10, Try.ntmps10
    go_wp2_with fail
    refine HT.out.mono ?_
    clear HT
    rintro e w1 ⟨rfl, b1⟩
    have HB1 : Hid (Below w.heap.size w w1) := b1
    have hw1 := b1.size
    obtain ⟨F, hF⟩ : ∃ F, F = w.heap.size := ⟨_, rfl⟩
    have HFe : Hid (F = w.heap.size) := hF
    clear b1 hw1 hF
    go_wp2
    go_loopw [5, 18] (fun vt vi wr => ∃ (j : Nat) (xo : Option Addr) (xc : Nat) (acc : List Int), vt = .slice xo acc.length xc ∧ acc.length ≤ xc ∧ vi = .int .i64 j ∧ j ≤ l.length ∧ Hid (acc = ((l.take j).flatMap Nm.fl).foldl Nm.insR []) ∧ Hid (Nm.Ra w wr F (.slice xo acc.length xc) acc)) (fun _ vi _ => l.length - (intOf vi).toNat)
    case atStart => exact ⟨0, none, 0, [], rfl, Nat.le_refl _, rfl, Nat.zero_le _, rfl, World.ownsRow_nil _ _ _ _, by rw [HFe.out]; exact HB1.out, by rw [HFe.out]; exact HB1.out.size⟩
    case round =>
      obtain ⟨j, xo, xc, acc, rfl, hxc, rfl, hj, HA, HO⟩ := hrel
      have hal : acc.length ≤ 3 * j := by
        have := Nm.flat_len (l.take j)
        rw [HA.out, Nm.fold_len]
        simp only [List.length_nil, List.length_take] at this ⊢
        omega
      by_cases hlt : j < l.length
      · obtain ⟨r, hr⟩ : ∃ r, l[j]? = some r := ⟨l[j], by simp [hlt]⟩
        obtain ⟨_, _, e', _, hc⟩ := HR.out
        obtain ⟨rfl, -, rfl⟩ := Value.slice.inj e'
        obtain ⟨b, off, rfl, hcell⟩ := hc (by intro h; subst h; simp at hlt)
        have c0 := hcell j r hr
        have hbw : Below w.heap.size w wr := by rw [← HFe.out]; exact HO.out.2.1
        rw [← hbw.cell (p := ⟨b, off + j, none⟩) (L.block_lt c0)] at c0
        have hC := nmFull_any 2 r wr (Nat.le_refl _) (Nm.deep_two r)
        have HNx : Hid ((Nm.full 2 r).foldl Nm.insR acc = ((l.take (j + 1)).flatMap Nm.fl).foldl Nm.insR []) := by
          show _ = _
          rw [List.take_add_one, hr, List.flatMap_append, List.foldl_append, ← HA.out]
          simp [Nm.fl]
        have hfl := Nm.fl_len r
        unfold Nm.fl at hfl
        have HHO : Hid (Nm.Ra w wr F (.slice xo acc.length xc) acc) := HO.out
        generalize Nm.full 2 r = fr at hC HNx hfl
        clear hr hc hcell e' hbw HO HA
        go_wp2_with fail
        refine hC.mono ?_
        clear hC
        rintro e w2 ⟨v2, rfl, own2, b2⟩
        obtain ⟨fo, fc, rfl, hfc, hfm⟩ := K.own_slice own2
        obtain ⟨_, _, e2, l2⟩ := Al.lies own2
        obtain ⟨rfl, -, rfl⟩ := Value.slice.inj e2
        obtain ⟨fg, rfl, hfg, hfcell⟩ := l2 (by omega)
        have HFr : Hid (w2.ownsRow wr.heap.size 21 1 (.slice (some ⟨fg, 0, none⟩) fr.length fc) fr.length (K.ints fr)) := own2
        have HO2 : Hid (Nm.Ra w w2 F (.slice xo acc.length xc) acc) := ⟨L.owns_below HHO.out.1 b2 (Nat.le_refl _), HHO.out.2.1.trans (b2.mono HHO.out.2.2), Nat.le_trans HHO.out.2.2 b2.size⟩
        obtain ⟨n3, hn3⟩ : ∃ n3, n3 = fr.length := ⟨_, rfl⟩
        have HN3 : Hid (n3 = fr.length) := hn3
        rw [← hn3] at HFr ⊢
        have hn33 : n3 ≤ 3 := by omega
        clear own2 b2 HHO e2 l2 hfcell hfc hfm hfl hn3
        have HFr0 : Hid (w2.ownsRow 0 21 1 (.slice (some ⟨fg, 0, none⟩) n3 fc) n3 (K.ints fr)) := L.owns_base HFr.out (Nat.zero_le _)
        clear HFr hfg
        go_wp2
        go_loopw [5, 25] (fun vt vi wz => ∃ (i : Nat) (xo : Option Addr) (xc : Nat) (ac : List Int), vt = .slice xo ac.length xc ∧ ac.length ≤ xc ∧ vi = .int .i64 i ∧ i ≤ n3 ∧ ac.length = acc.length + i ∧ Hid (ac = (fr.take i).foldl Nm.insR acc) ∧ Hid (Nm.Ra w wz F (.slice xo ac.length xc) ac) ∧ Hid (wz.ownsRow 0 21 1 (.slice (some ⟨fg, 0, none⟩) n3 fc) n3 (K.ints fr))) (fun _ vi _ => n3 - (intOf vi).toNat)
        case atStart => exact ⟨0, xo, xc, acc, rfl, hxc, rfl, Nat.zero_le _, rfl, rfl, HO2, HFr0⟩
        case round =>
          obtain ⟨i, xo, xc, ac, rfl, hxc', rfl, hi, hacl, HA, HO, HFr⟩ := hrel
          clear HO2 HFr0
          by_cases hin : i < n3
          · obtain ⟨x, hx⟩ : ∃ x, fr[i]? = some x := ⟨fr[i]'(by rw [← HN3.out]; exact hin), by simp⟩
            have cx : wr.cell? ⟨fg, i, none⟩ = some (.int .i32 x) := by
              have h := HFr.out.cells (g := fg) rfl i (.int .i32 x) (by unfold K.ints; rw [List.getElem?_map, hx]; rfl)
              rwa [L.addr_add, Nat.zero_add] at h
            have HNi : Hid (Nm.insR ac x = (fr.take (i + 1)).foldl Nm.insR acc) := by
              show _ = _
              rw [List.take_add_one, hx, List.foldl_append, ← HA.out]
              rfl
            obtain ⟨N, hN⟩ : ∃ N, N = ac.length := ⟨_, rfl⟩
            have HNe : Hid (N = ac.length ∧ N = acc.length + i) := ⟨hN, by rw [hN]; exact hacl⟩
            have hN1 : N ≤ 20000 := by omega
            rw [← hN] at hxc' HO ⊢
            clear hx HA hacl hN
            go_wp2
            go_loopw [10] (fun vk wy => ∃ (k : Nat) (A B : List Int), vk = .int .i64 k ∧ k ≤ N ∧ Hid (ac = A ++ B ∧ A.length = k) ∧ Hid (∀ y ∈ B, 0 < Nm.cls x ∧ Nm.cls x < Nm.cls y) ∧ Hid (Nm.Ra w wy F (.slice xo N xc) ac) ∧ Hid (wy.ownsRow 0 21 1 (.slice (some ⟨fg, 0, none⟩) n3 fc) n3 (K.ints fr))) (fun vk _ => (intOf vk).toNat)
            case atStart => exact ⟨N, ac, [], rfl, Nat.le_refl _, ⟨by simp, HNe.out.1.symm⟩, fun y hy => by (cases hy), HO, HFr⟩
            case round =>
              obtain ⟨k, A, B, rfl, hk, HAB, HBy, HO, HFr⟩ := hrel
              obtain ⟨c, hc⟩ : ∃ c : Bool, (c = true ↔ (0 < Nm.cls x ∧ ∃ A0 y, A = A0 ++ [y] ∧ Nm.cls x < Nm.cls y)) := by
                by_cases h : (0 < Nm.cls x ∧ ∃ A0 y, A = A0 ++ [y] ∧ Nm.cls x < Nm.cls y)
                · exact ⟨true, Iff.intro (fun _ => h) (fun _ => rfl)⟩
                · exact ⟨false, Iff.intro (fun h' => (by (cases h'))) (fun h' => absurd h' h)⟩
              have HC : Hid (c = true ↔ (0 < Nm.cls x ∧ ∃ A0 y, A = A0 ++ [y] ∧ Nm.cls x < Nm.cls y)) := hc
              clear hc
              go_upto_region 12 with fail
              go_cut [48] (fun v wx => v = .bool c ∧ Hid (Nm.Ra w wx F (.slice xo N xc) ac) ∧ Hid (wx.ownsRow 0 21 1 (.slice (some ⟨fg, 0, none⟩) n3 fc) n3 (K.ints fr)))
              case first =>
                have hx1 := HCl.out x
                by_cases hx0 : 0 < Nm.cls x
                · by_cases hk0 : 0 < k
                  · obtain ⟨A0, y, hA⟩ : ∃ A0 y, A = A0 ++ [y] := by
                      rcases List.eq_nil_or_concat A with e | ⟨A0, y, e⟩
                      · have := HAB.out.2; rw [e] at this; simp at this; omega
                      · exact ⟨A0, y, by simpa using e⟩
                    have hA0 : A0.length + 1 = k := by have := HAB.out.2; rw [hA] at this; simp at this; exact this
                    obtain ⟨_, _, e', lc⟩ := Al.lies HO.out.1
                    obtain ⟨rfl, -, rfl⟩ := Value.slice.inj e'
                    obtain ⟨g1, rfl, _, d1⟩ := lc (by have := HNe.out.1; omega)
                    have cy : wr.cell? ⟨g1, k - 1, none⟩ = some (.int .i32 y) := d1 (k - 1) _ (by
                      unfold K.ints
                      rw [List.getElem?_map, HAB.out.1, hA, show k - 1 = A0.length by omega]
                      simp)
                    have hy1 := HCl.out y
                    have hcv : c = decide (Nm.cls x < Nm.cls y) := by
                      rw [Bool.eq_iff_iff, HC.out, decide_eq_true_iff]
                      refine ⟨fun ⟨_, A1, z, e, h⟩ => ?_, fun h => ⟨hx0, A0, y, hA, h⟩⟩
                      rw [hA] at e
                      have := List.append_inj_right' e rfl
                      simp at this
                      rw [this]; exact h
                    obtain ⟨cx', hcx'⟩ : ∃ cx', cx' = Nm.cls x := ⟨_, rfl⟩
                    obtain ⟨cy', hcy'⟩ : ∃ cy', cy' = Nm.cls y := ⟨_, rfl⟩
                    rw [← hcx'] at hx1 hx0 hcv
                    rw [← hcy'] at hy1 hcv
                    clear e' lc d1 hA hA0 HC HCl hcx' hcy' HBy
                    go_wp2_with fail
                    refine (hx1 _).mono ?_
                    rintro e wa ⟨rfl, rfl⟩
                    go_wp2_with fail
                    refine (hy1 _).mono ?_
                    rintro e wa ⟨rfl, rfl⟩
                    go_wp2_with fail
                    refine (hx1 _).mono ?_
                    rintro e wa ⟨rfl, rfl⟩
                    go_wp2_with fail
                    go_meet
                    case rel => exact ⟨by rw [hcv], HO, HFr⟩
                  · have hcv : c = false := by
                      rw [Bool.eq_false_iff]
                      intro h
                      obtain ⟨_, A0, y, e, _⟩ := HC.out.1 h
                      have := HAB.out.2
                      rw [e] at this; simp at this; omega
                    subst hcv
                    clear HC HCl HBy
                    go_wp2_with fail
                    refine (hx1 _).mono ?_
                    rintro e wa ⟨rfl, rfl⟩
                    go_wp2_with fail
                    go_meet
                    case rel => exact ⟨rfl, HO, HFr⟩
                · have hcv : c = false := by
                    rw [Bool.eq_false_iff]
                    intro h
                    exact hx0 (HC.out.1 h).1
                  subst hcv
                  clear HC HCl HBy
                  go_wp2_with fail
                  refine (hx1 _).mono ?_
                  rintro e wa ⟨rfl, rfl⟩
                  go_wp2_with fail
                  go_meet
                  case rel => exact ⟨rfl, HO, HFr⟩
              case rest =>
              obtain ⟨hv, hO', hF'⟩ := hcut
              subst hv
              have HO : Hid (Nm.Ra w wc F (.slice xo N xc) ac) := hO'
              have HFr : Hid (wc.ownsRow 0 21 1 (.slice (some ⟨fg, 0, none⟩) n3 fc) n3 (K.ints fr)) := hF'
              clear hO' hF'
              cases c with
              | true =>
                obtain ⟨hx0, A0, y, hA, hxy⟩ := HC.out.1 rfl
                have hA0 : A0.length + 1 = k := by have := HAB.out.2; rw [hA] at this; simp at this; exact this
                have HAB2 : Hid (ac = A0 ++ y :: B ∧ A0.length = k - 1) := ⟨by rw [HAB.out.1, hA]; simp, by omega⟩
                have HBy2 : Hid (∀ z ∈ y :: B, 0 < Nm.cls x ∧ Nm.cls x < Nm.cls z) := fun z hz => by
                  rcases List.mem_cons.1 hz with rfl | hz
                  · exact ⟨hx0, hxy⟩
                  · exact HBy.out z hz
                clear HC HAB HBy hx0 hxy hA HCl
                go_wp2
                go_roundw
                case rel => exact ⟨k - 1, A0, y :: B, by congr 1; omega, by omega, HAB2, HBy2, HO, HFr⟩
                case measure => simp [intOf]; omega
              | false =>
                have HAe : Hid (A = [] ∨ ∃ A0 z, A = A0 ++ [z] ∧ ¬ (0 < Nm.cls x ∧ Nm.cls x < Nm.cls z)) := by
                  rcases List.eq_nil_or_concat A with e | ⟨A0, z, e⟩
                  · exact .inl e
                  · have e2 : A = A0 ++ [z] := by simpa using e
                    exact .inr ⟨A0, z, e2, fun h => absurd (HC.out.2 ⟨h.1, A0, z, e2, h.2⟩) (by simp)⟩
                have hO0 : wc.ownsRow F 21 1 (.slice xo N xc) N (K.ints (A ++ B)) := by
                  have h := HO.out.1
                  rw [← HNe.out.1, HAB.out.1] at h
                  exact h
                have hkA : A.length = k := HAB.out.2
                have hFw : F ≤ wc.heap.size := HO.out.2.2
                have hlo : ∀ b, (Value.slice xo N xc).ownBlock = some b → b < wc.heap.size := fun b hb => (hO0.lt b hb).2
                obtain ⟨v11, w11, v12, w12, v13, w13, r11, r12, r13, o13, b13⟩ := Nm.chain (W := ((wc.alloc (.cells #[] 21)).alloc (.cells #[.int .i32 x] 21)).drew) (F := wc.heap.size) (G := F) (eb := wc.heap.size) (xb := wc.heap.size + 1) (x := x) ((hO0.alloc _).alloc _) ((World.ownsRow_made wc #[] 0 (Nat.le_refl _) (Nat.zero_le _) (by simp)).alloc _) (by have h := K.at_box (i := 0) (heap_alloc_new (wc.alloc (.cells #[] 21)) (.cells #[.int .i32 x] 21)) rfl; rw [show (wc.alloc (.cells #[] 21)).heap.size = wc.heap.size + 1 by simp] at h; exact h) (by omega) (fun b hb => by have := hlo b hb; exact ⟨by show b < ((wc.alloc _).alloc _).heap.size; simp; omega, by omega⟩) (by show wc.heap.size ≤ ((wc.alloc _).alloc _).heap.size; simp; omega) (by omega)
                obtain ⟨v21, w21, v22, w22, v23, w23, r21, r22, r23, o23, b23⟩ := Nm.chain (W := ((wc.alloc (.cells #[.int .i32 x] 21)).alloc (.cells #[] 21)).drew) (F := wc.heap.size) (G := F) (eb := wc.heap.size + 1) (xb := wc.heap.size) (x := x) ((hO0.alloc _).alloc _) (by have h := World.ownsRow_made (base := wc.heap.size) (e := 21) (size := 1) (wc.alloc (.cells #[.int .i32 x] 21)) #[] 0 (by simp) (Nat.zero_le _) (by simp); rw [show (wc.alloc (.cells #[.int .i32 x] 21)).heap.size = wc.heap.size + 1 by simp] at h; exact h) (K.alloc_cell (K.at_box (i := 0) (heap_alloc_new wc (.cells #[.int .i32 x] 21)) rfl) _) (by omega) (fun b hb => by have := hlo b hb; exact ⟨by show b < ((wc.alloc _).alloc _).heap.size; simp; omega, by omega⟩) (by show wc.heap.size ≤ ((wc.alloc _).alloc _).heap.size; simp; omega) (by omega)
                obtain ⟨v31, w31, v32, w32, v33, w33, r31, r32, r33, o33, b33⟩ := Nm.chain3 (W := (wc.alloc (.cells #[] 21)).drew) (F := wc.heap.size) (G := F) (eb := wc.heap.size) (x := x) (hO0.alloc _) (World.ownsRow_made wc #[] 0 (Nat.le_refl _) (Nat.zero_le _) (by simp)) (fun b hb => by have := hlo b hb; exact ⟨by show b < (wc.alloc _).heap.size; simp; omega, by omega⟩) (by show wc.heap.size ≤ (wc.alloc _).heap.size; simp) (by omega)
                have a1 : Below wc.heap.size wc (wc.alloc (.cells #[] 21)) := (Below.refl _ wc).alloc (Nat.le_refl _) _
                have a2 : Below wc.heap.size wc (wc.alloc (.cells #[.int .i32 x] 21)) := (Below.refl _ wc).alloc (Nat.le_refl _) _
                have HE1 : Hid (Nm.Ra w w13 F v13 (Nm.insR ac x) ∧ w13.ownsRow 0 21 1 (.slice (some ⟨fg, 0, none⟩) n3 fc) n3 (K.ints fr) ∧ (Nm.insR ac x).length = ac.length + 1) := Nm.step3 HO.out HFr.out HAB.out.1 HBy.out HAe.out o13 ((Nm.below_drew (a1.alloc a1.size _)).trans b13)
                have HE2 : Hid (Nm.Ra w w23 F v23 (Nm.insR ac x) ∧ w23.ownsRow 0 21 1 (.slice (some ⟨fg, 0, none⟩) n3 fc) n3 (K.ints fr) ∧ (Nm.insR ac x).length = ac.length + 1) := Nm.step3 HO.out HFr.out HAB.out.1 HBy.out HAe.out o23 ((Nm.below_drew (a2.alloc a2.size _)).trans b23)
                have HE3 : Hid (Nm.Ra w w33 F v33 (Nm.insR ac x) ∧ w33.ownsRow 0 21 1 (.slice (some ⟨fg, 0, none⟩) n3 fc) n3 (K.ints fr) ∧ (Nm.insR ac x).length = ac.length + 1) := Nm.step3 HO.out HFr.out HAB.out.1 HBy.out HAe.out o33 ((Nm.below_drew a1).trans b33)
                have hNx : (Nm.insR ac x).length = N + 1 := by rw [HE1.out.2.2, HNe.out.1]
                obtain ⟨p1, c1, rfl, hc1, _⟩ := K.own_slice HE1.out.1.1
                obtain ⟨p2, c2, rfl, hc2, _⟩ := K.own_slice HE2.out.1.1
                obtain ⟨p3, c3, rfl, hc3, _⟩ := K.own_slice HE3.out.1.1
                have HNx : Hid ((Nm.insR ac x).length = N + 1) := hNx
                rw [hkA] at r11 r13 r21 r23 r31 r33
                have hs1 := Nm.slice_upto xo N xc k (by omega)
                have hs2 : ∀ w', (Instr.slice 22 (.slice xo N xc) (some (.int .i64 (k : Int))) none none).run Try.prog w' = .ok (Nm.sB xo N xc k) w' := Nm.slice_from xo N xc k (by omega) (by omega)
                generalize Nm.sB xo N xc k = vB at hs2 r13 r23 r33
                have R11 : Hid (∀ ty, (Builtin.append_ #[22, 22] ty #[.slice (some ⟨wc.heap.size, 0, none⟩) 0 0, .slice xo k xc]).run Try.prog ((wc.alloc (.cells #[] 21)).alloc (.cells #[.int .i32 x] 21)).drew = .ok v11 w11) := r11
                have R21 : Hid (∀ ty, (Builtin.append_ #[22, 22] ty #[.slice (some ⟨wc.heap.size + 1, 0, none⟩) 0 0, .slice xo k xc]).run Try.prog ((wc.alloc (.cells #[.int .i32 x] 21)).alloc (.cells #[] 21)).drew = .ok v21 w21) := r21
                have R31 : Hid (∀ ty, (Builtin.append_ #[22, 22] ty #[.slice (some ⟨wc.heap.size, 0, none⟩) 0 0, .slice xo k xc]).run Try.prog (wc.alloc (.cells #[] 21)).drew = .ok v31 w31) := r31
                clear r11 r21 r31 o13 o23 o33 b13 b23 b33 a1 a2 hlo hFw hO0 HAe HC HBy HAB HCl HO HFr hNx cx hkA
                go_upto_region 14 with fail
                go_region_held3 (fun w' => True) (first | trivial | go_keep)
                  (first
                    | (with_reducible refine K.step_run ?_ (.tmp 51) (.tmp 54) ?_ _ _ v31 w31 ?_ ?_ R31.out ?_; (· with_unfolding_all exact rfl); (· with_unfolding_all exact rfl); (· with_unfolding_all exact rfl); (· with_unfolding_all exact rfl))
                    | (with_reducible refine K.step_run ?_ (.tmp 51) (.tmp 54) ?_ _ _ v11 w11 ?_ ?_ R11.out ?_; (· with_unfolding_all exact rfl); (· with_unfolding_all exact rfl); (· with_unfolding_all exact rfl); (· with_unfolding_all exact rfl))
                    | (with_reducible refine K.step_run ?_ (.tmp 51) (.tmp 54) ?_ _ _ v21 w21 ?_ ?_ R21.out ?_; (· with_unfolding_all exact rfl); (· with_unfolding_all exact rfl); (· with_unfolding_all exact rfl); (· with_unfolding_all exact rfl))
                    | (with_reducible refine K.step_run ?_ (.tmp 55) (.tmp 57) ?_ _ _ v12 w12 ?_ ?_ r12 ?_; (· with_unfolding_all exact rfl); (· with_unfolding_all exact rfl); (· with_unfolding_all exact rfl); (· with_unfolding_all exact rfl))
                    | (with_reducible refine K.step_run ?_ (.tmp 55) (.tmp 57) ?_ _ _ v22 w22 ?_ ?_ r22 ?_; (· with_unfolding_all exact rfl); (· with_unfolding_all exact rfl); (· with_unfolding_all exact rfl); (· with_unfolding_all exact rfl))
                    | (with_reducible refine K.step_run ?_ (.tmp 55) (.tmp 57) ?_ _ _ v32 w32 ?_ ?_ r32 ?_; (· with_unfolding_all exact rfl); (· with_unfolding_all exact rfl); (· with_unfolding_all exact rfl); (· with_unfolding_all exact rfl))
                    | (with_reducible refine K.step_run ?_ (.tmp 58) (.tmp 61) ?_ _ _ _ w13 ?_ ?_ r13 ?_; (· with_unfolding_all exact rfl); (· with_unfolding_all exact rfl); (· with_unfolding_all exact rfl); (· with_unfolding_all exact rfl); have HEe := HE1; have hce := hc1)
                    | (with_reducible refine K.step_run ?_ (.tmp 58) (.tmp 61) ?_ _ _ _ w23 ?_ ?_ r23 ?_; (· with_unfolding_all exact rfl); (· with_unfolding_all exact rfl); (· with_unfolding_all exact rfl); (· with_unfolding_all exact rfl); have HEe := HE2; have hce := hc2)
                    | (with_reducible refine K.step_run ?_ (.tmp 58) (.tmp 61) ?_ _ _ _ w33 ?_ ?_ r33 ?_; (· with_unfolding_all exact rfl); (· with_unfolding_all exact rfl); (· with_unfolding_all exact rfl); (· with_unfolding_all exact rfl); have HEe := HE3; have hce := hc3)
                    | fail)
                all_goals
                  clear r12 r13 r22 r23 r32 r33 R11 R21 R31 hs1 hs2
                  go_wp2
                  go_roundw
                  case rel => exact ⟨i + 1, _, _, Nm.insR ac x, rfl, hce, by go_num, by omega, by rw [HNx.out]; have := HNe.out; omega, HNi, HEe.out.1, HEe.out.2.1⟩
                  case measure => simp [intOf]; omega
          · have e : i = n3 := by omega
            have HA3 : Hid (ac = ((l.take (j + 1)).flatMap Nm.fl).foldl Nm.insR []) := by
              show _ = _
              rw [HA.out, e, HN3.out, List.take_length]
              exact HNx.out
            clear HA HNx HFr hacl
            go_wp2
            go_roundw
            case rel => exact ⟨j + 1, xo, xc, ac, rfl, hxc', by go_num, by omega, HA3, HO⟩
            case measure => simp [intOf]; omega
      · have e : j = l.length := by omega
        subst e
        have ha : acc = (l.flatMap Nm.fl).foldl Nm.insR [] := by rw [HA.out, List.take_length]
        have hn : (l.flatMap Nm.fl).length = acc.length := by rw [ha, Nm.fold_len]; simp
        have hO := HO.out
        by_cases hm : 4000 < acc.length
        · have hQ : q = ([], 4) := by rw [HQ.out]; unfold Nm.apartF; rw [if_neg (by rw [HE.out]; simp), if_pos (by rw [hn]; exact hm)]
          subst hQ
          have HBw : Hid (Below w.heap.size w wr) := by rw [← HFe.out]; exact hO.2.1
          clear HA HO hO ha hn HR HQ HE hxc HFe HB1 HCl
          go_wp2
          refine bodyPost_ret (v := .tuple #[.slice none 0 0, .int .i64 4]) (by simp [results, Try.results10, go_sem, *]) rfl ?_
          exact ⟨_, rfl, World.ownsRow_nil _ _ _ _, HBw.out⟩
        · have hQ : q = (acc, 0) := by rw [HQ.out]; unfold Nm.apartF; rw [if_neg (by rw [HE.out]; simp), if_neg (by rw [hn]; exact hm), ← ha]
          subst hQ
          have HF : Hid (wr.ownsRow w.heap.size 21 1 (.slice xo acc.length xc) acc.length (K.ints acc) ∧ Below w.heap.size w wr) := by rw [← HFe.out]; exact ⟨hO.1, hO.2.1⟩
          clear HA HO hO ha hn HR HQ HE HFe HB1 HCl
          go_wp2
          refine bodyPost_ret (v := .tuple #[.slice xo acc.length xc, .int .i64 0]) (by simp [results, Try.results10, go_sem, *]) rfl ?_
          exact ⟨_, rfl, HF.out⟩
  · have hQ : q = ([], K.textE l) := by rw [HQ.out]; unfold Nm.apartF; rw [if_pos he]
    subst hQ
    obtain ⟨te, hte⟩ : ∃ te, te = K.textE l := ⟨_, rfl⟩
    rw [← hte] at HT he ⊢
    clear HQ HR hte
    go_enter Try.func10, Try.ntmps10
    go_wp2_with fail
    refine HT.out.mono ?_
    clear HT
    rintro e w1 ⟨rfl, b1⟩
    have HB1 : Hid (Below w.heap.size w w1) := b1
    clear b1
    go_wp2
    refine bodyPost_ret (v := .tuple #[.slice none 0 0, .int .i64 te]) (by simp [results, Try.results10, go_sem, *]) rfl ?_
    exact ⟨_, rfl, World.ownsRow_nil _ _ _ _, HB1.out⟩

end Go.Proofs.Ytbclmmkphjknaaa

/-
  A text without its marks: the document's answer.
-/
namespace Go.Proofs.Ytbclmmkphjknaaa
open Go.RowKit
set_option maxRecDepth 20000
set_option linter.unusedSimpArgs false
set_option linter.unusedVariables false

namespace Nm
/-- a text without its marks, and what is wrong -/
def bareF (l : List Int) : List Int × Int := if (apartF l).2 ≠ 0 then ([], (apartF l).2) else ((apartF l).1.filter fun r => !isM r, 0)
theorem apart_len (l : List Int) : (apartF l).1.length ≤ 4000 := by
  unfold apartF
  split
  · simp
  · split
    · simp
    · rw [fold_len, List.length_nil]; omega
end Nm

set_option maxHeartbeats 8000000 in
theorem nmRefBare_any (w : World) (v : Value) (l : List Int) (R : L.Rd w v .i32 l) (hl : l.length ≤ 140737488355328) :
    Calls Try.prog 15 #[v] w fun e w' => ∃ v', e = .returned (.tuple #[v', .int .i64 (Nm.bareF l).2]) ∧ w'.ownsRow w.heap.size 21 1 v' (Nm.bareF l).1.length (K.ints (Nm.bareF l).1) ∧ Below w.heap.size w w' := by
  have HT := nmRefApart_any w v l R hl
  obtain ⟨q, hq⟩ : ∃ q, q = Nm.bareF l := ⟨_, rfl⟩
  have HQ : Hid (q = Nm.bareF l) := hq
  rw [← hq]
  obtain ⟨ao, cap, rfl, _, _⟩ := R
  clear hq
  obtain ⟨q1, q2⟩ := q
  have hn := Nm.apart_len l
  unfold Nm.bareF at HQ
  obtain ⟨⟨t, te⟩, ht⟩ : ∃ p, p = Nm.apartF l := ⟨_, rfl⟩
  rw [← ht] at HT HQ hn
  simp only at HT HQ hn
  clear ht
  have HCl : Hid (∀ r X, Calls Try.prog 8 #[.int .i32 r] X fun e w' => e = .returned (.int .i64 (Nm.cls r)) ∧ w' = X) := fun r X => nmRefClass_any r X
  go_enter Try.func15, Try.ntmps15
  go_wp2_with fail
  refine HT.mono ?_
  clear HT
  rintro e w1 ⟨vt, rfl, own1, b1⟩
  obtain ⟨to_, tc, rfl, _, _⟩ := K.own_slice own1
  have HB1 : Hid (Below w.heap.size w w1) := b1
  have HO1 : Hid (w1.ownsRow w.heap.size 21 1 (.slice to_ t.length tc) t.length (K.ints t)) := own1
  clear b1 own1
  by_cases he : te = 0
  · have hQ : (q1, q2) = (t.filter fun r => !Nm.isM r, 0) := by rw [HQ.out, if_neg (by simp [he])]
    obtain ⟨hq1, rfl⟩ := Prod.mk.inj hQ
    have HQ1 : Hid (q1 = t.filter fun r => !Nm.isM r) := hq1
    subst he
    clear HQ hQ hq1
    go_wp2
    go_loopw [6, 19] (fun vt vi wr => ∃ (j : Nat) (xo : Option Addr) (xc : Nat) (acc : List Int), vt = .slice xo acc.length xc ∧ vi = .int .i64 j ∧ j ≤ t.length ∧ Hid (acc = (t.take j).filter fun r => !Nm.isM r) ∧ Hid (wr.ownsRow w1.heap.size 21 1 (.slice xo acc.length xc) acc.length (K.ints acc) ∧ Below w1.heap.size w1 wr)) (fun _ vi _ => t.length - (intOf vi).toNat)
    case atStart => exact ⟨0, none, 0, [], rfl, rfl, Nat.zero_le _, rfl, World.ownsRow_nil _ _ _ _, Below.refl _ _⟩
    case round =>
      obtain ⟨j, xo, xc, acc, rfl, rfl, hj, HA, HO⟩ := hrel
      have hal : acc.length ≤ j := by
        rw [HA.out]
        refine Nat.le_trans (List.length_filter_le _ _) ?_
        rw [List.length_take]; omega
      by_cases hlt : j < t.length
      · obtain ⟨r, hr⟩ : ∃ r, t[j]? = some r := ⟨t[j], by simp [hlt]⟩
        obtain ⟨_, _, e1, l1⟩ := Al.lies HO1.out
        obtain ⟨rfl, -, rfl⟩ := Value.slice.inj e1
        obtain ⟨g1, rfl, _, d1⟩ := l1 (by omega)
        have c0 : w1.cell? ⟨g1, j, none⟩ = some (.int .i32 r) := d1 j _ (by unfold K.ints; rw [List.getElem?_map, hr]; rfl)
        rw [← HO.out.2.cell (p := ⟨g1, j, none⟩) (L.block_lt c0)] at c0
        have hC := HCl.out r
        have hstep : ((t.take (j + 1)).filter fun r => !Nm.isM r) = acc ++ (if Nm.cls r = 0 then [r] else []) := by
          rw [List.take_add_one, hr, List.filter_append, ← HA.out]
          congr 1
          by_cases h : Nm.cls r = 0
          · have : Nm.isM r = false := by rw [Bool.eq_false_iff]; intro h2; have := Nm.isM_pos.1 h2; omega
            simp [h, this]
          · have : Nm.isM r = true := Nm.isM_pos.2 (by have := Nm.cls_pos r; omega)
            simp [h, this]
        have HS : Hid (((t.take (j + 1)).filter fun r => !Nm.isM r) = acc ++ (if Nm.cls r = 0 then [r] else [])) := hstep
        obtain ⟨N, hN⟩ : ∃ N, N = acc.length := ⟨_, rfl⟩
        have HNe : Hid (N = acc.length) := hN
        by_cases hz : Nm.cls r = 0
        · have hd : wr.ownsRow w1.heap.size 21 1 (.slice xo acc.length xc) acc.length (K.ints acc) := HO.out.1
          obtain ⟨v3, w3, run3, own3, _, _, b3, _⟩ := Nm.app1x hd HO.out.2.size (by omega) r
          have hrun : ∀ ty, (Builtin.append_ #[22, 22] ty #[.slice xo acc.length xc, .slice (some ⟨wr.heap.size, 0, none⟩) 1 1]).run Try.prog (wr.alloc (.cells #[.int .i32 r] 21)) = .ok v3 w3 := run3
          have hS2 : ((t.take (j + 1)).filter fun r => !Nm.isM r) = acc ++ [r] := by rw [HS.out, if_pos hz]
          have HG : Hid (acc ++ [r] = (t.take (j + 1)).filter fun r => !Nm.isM r) := hS2.symm
          obtain ⟨p3, c3, rfl, _, _⟩ := K.own_slice own3
          have HN : Hid (w3.ownsRow w1.heap.size 21 1 (.slice p3 (acc ++ [r]).length c3) (acc ++ [r]).length (K.ints (acc ++ [r])) ∧ Below w1.heap.size w1 w3) := ⟨own3, HO.out.2.trans b3⟩
          rw [hz] at hC
          rw [← hN] at hrun ⊢
          clear hstep HS hr HA e1 l1 d1 hN hz own3 b3 hd run3 hS2 HO
          generalize acc ++ [r] = ac2 at HG HN hrun
          go_wp2_with fail
          refine (hC _).mono ?_
          rintro e wa ⟨rfl, rfl⟩
          go_wp2_with (at_builtin; refine Lib.wpList_append_run _ rfl _ _ _ _ rfl _ _ rfl rfl _ _ (hrun _) ?_; clear hrun)
          go_roundw
          case rel => exact ⟨j + 1, p3, c3, ac2, rfl, by go_num, by omega, HG, HN⟩
          case measure => simp [intOf]; omega
        · have HS2 : Hid (acc = (t.take (j + 1)).filter fun r => !Nm.isM r) := by show _ = _; rw [HS.out, if_neg hz, List.append_nil]
          obtain ⟨c, hc⟩ : ∃ c, c = Nm.cls r := ⟨_, rfl⟩
          rw [← hc] at hC hz
          clear hstep HS hr HA e1 l1 d1 hN HNe hc
          go_wp2_with fail
          refine (hC _).mono ?_
          rintro e wa ⟨rfl, rfl⟩
          go_wp2
          go_roundw
          case rel => exact ⟨j + 1, xo, xc, acc, rfl, by go_num, by omega, HS2, HO⟩
          case measure => simp [intOf]; omega
      · have e : j = t.length := by omega
        subst e
        have ha : acc = q1 := by rw [HA.out, List.take_length, HQ1.out]
        subst ha
        have HF : Hid (wr.ownsRow w.heap.size 21 1 (.slice xo acc.length xc) acc.length (K.ints acc) ∧ Below w.heap.size w wr) := ⟨L.owns_base HO.out.1 HB1.out.size, HB1.out.trans (HO.out.2.mono HB1.out.size)⟩
        clear HA HO HQ1 HO1 HB1 HCl
        go_wp2
        refine bodyPost_ret (v := .tuple #[.slice xo acc.length xc, .int .i64 0]) (by simp [results, Try.results15, go_sem, *]) rfl ?_
        exact ⟨_, rfl, HF.out⟩
  · have hQ : (q1, q2) = ([], te) := by rw [HQ.out, if_pos he]
    obtain ⟨rfl, rfl⟩ := Prod.mk.inj hQ
    clear hQ
    clear HQ HO1
    go_wp2
    refine bodyPost_ret (v := .tuple #[.slice none 0 0, .int .i64 q2]) (by simp [results, Try.results15, go_sem, *]) rfl ?_
    exact ⟨_, rfl, World.ownsRow_nil _ _ _ _, HB1.out⟩

end Go.Proofs.Ytbclmmkphjknaaa
