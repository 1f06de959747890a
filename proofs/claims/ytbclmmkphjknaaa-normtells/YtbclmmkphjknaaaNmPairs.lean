/-
  The pairs of letters and marks: norm.Pairs.
-/
import Derived.Test.YtbclmmkphjknaaaNmRows
import Derived.Test.YtbclmmkphjknaaaKStep
import Derived.Deep.RegionLaw
namespace Go.Proofs.Ytbclmmkphjknaaa
open Go.RowKit
set_option maxRecDepth 40000
set_option linter.unusedSimpArgs false
set_option linter.unusedVariables false

namespace Nm
theorem rows_same : ∀ p ∈ rowB.zip rowL, M.rn p.1.2.1 = p.2.2.1 ∧ M.rn p.1.2.2 = p.2.2.2 ∧ p.1.1 = p.2.1 ∧ p.2.2.1.length = p.2.2.2.length ∧ p.2.2.1.length ≤ 12 ∧ p.1.2.1.size ≤ 40 ∧ p.1.2.2.size ≤ 40 := by decide +kernel
theorem rows_at {j : Nat} {x : Int × ByteArray × ByteArray} (h : rowB[j]? = some x) : ∃ y, rowL[j]? = some y ∧ M.rn x.2.1 = y.2.1 ∧ M.rn x.2.2 = y.2.2 ∧ x.1 = y.1 ∧ y.2.1.length = y.2.2.length ∧ y.2.1.length ≤ 12 ∧ x.2.1.size ≤ 40 ∧ x.2.2.size ≤ 40 := by
  have hj : j < rowL.length := (List.getElem?_eq_some_iff.1 h).1
  refine ⟨rowL[j], by simp [hj], ?_⟩
  have hm : (x, rowL[j]) ∈ rowB.zip rowL := List.mem_of_getElem? (i := j) (by rw [List.getElem?_zip_eq_some]; exact ⟨h, by simp [hj]⟩)
  exact rows_same _ hm
theorem mk_step {y : Int × List Int × List Int} {k : Nat} {a b : Int} (h1 : y.2.1[k]? = some a) (h2 : y.2.2[k]? = some b) : (mk y).take (k + 1) = (mk y).take k ++ [(a, y.1, b)] := by
  rw [List.take_add_one]
  congr 1
  unfold mk
  have h : (y.2.1.zip y.2.2)[k]? = some (a, b) := by rw [List.getElem?_zip_eq_some]; exact ⟨h1, h2⟩
  rw [List.getElem?_map, h]
  rfl
theorem mk_len (y : Int × List Int × List Int) (h : y.2.1.length = y.2.2.length) : (mk y).length = y.2.1.length := by simp [mk]; omega
/-- what is made of a row: box, both texts, and the pairs that there are -/
def Pn (wR wr : World) (bx : Nat) (x : Int × ByteArray × ByteArray) (y : Int × List Int × List Int) (vw vo vt : Value) (acc : List Pr) : Prop :=
  wr.heap[bx]? = some (.cells #[.int .i32 x.1, .string x.2.1, .string x.2.2] 51) ∧ wr.ownsRow 0 21 1 vw y.2.2.length (K.ints y.2.2) ∧ wr.ownsRow 0 21 1 vo y.2.1.length (K.ints y.2.1) ∧ wr.ownsRow wR.heap.size 27 3 vt acc.length (pcells acc) ∧ Below wR.heap.size wR wr
theorem Pn.push {wR wr : World} {bx : Nat} {x : Int × ByteArray × ByteArray} {y : Int × List Int × List Int} {vw vo vt : Value} {acc : List Pr} (h : Pn wR wr bx x y vw vo vt acc) (hl : acc.length ≤ 1000) (p : Pr) :
    ∃ ao' vc' w', (∀ ty, (Builtin.append_ #[23, 23] ty #[vt, .slice (some ⟨wr.heap.size, 0, none⟩) 1 1]).run Try.prog (wr.alloc (.cells #[.int .i32 p.1, .int .i32 p.2.1, .int .i32 p.2.2] 27)) = .ok (.slice ao' (acc.length + 1) vc') w') ∧ Pn wR w' bx x y vw vo (.slice ao' (acc.length + 1) vc') (acc ++ [p]) := by
  obtain ⟨h1, h2, h3, h4, h5⟩ := h
  obtain ⟨ao1, vc1, w1, run1, own1, kp1, sz1, be1⟩ := Al.app (sl := 23) Try.underlying23 Try.infoPair rfl (by decide) (by decide) h4 h5.size (by omega) [.int .i32 p.1, .int .i32 p.2.1, .int .i32 p.2.2] rfl (fun u hu => by simp at hu; rcases hu with rfl | rfl | rfl <;> rfl)
  have hk : ∀ {e : TypeId} {k : Nat} {v : Value} {n : Nat} {xs : List Value}, wr.ownsRow 0 e k v n xs → 27 ≠ e → w1.ownsRow 0 e k v n xs := fun h he => Al.held h fun q hq hl => kp1 q hl fun e => (L.owns_apart h4 h he).elim (fun h' => by rw [h'] at hq; cases hq) fun h' => h' (hq.trans e.symm)
  refine ⟨ao1, vc1, w1, run1, ⟨?_, hk h2 (by decide), hk h3 (by decide), ?_, h5.trans be1⟩⟩
  · rw [kp1 bx (lt_of_block h1) fun e => ?_]
    · exact h1
    · obtain ⟨_, cs, p', hb⟩ := Al.block h4 e
      rw [h1] at hb
      simp at hb
  · rw [pcells_snoc, List.length_append]; exact own1
end Nm

set_option maxHeartbeats 8000000 in
theorem nmPairs_any (w : World) : Calls Try.prog 5 #[] w fun e w' => ∃ v, e = .returned v ∧ Nm.Prs w' v Nm.tab ∧ Below w.heap.size w w' := by
  have HD : Hid (∀ X (s : ByteArray), s.size ≤ 40 → Calls Try.prog 24 #[.string s] X fun e w' => ∃ v, e = .returned v ∧ w'.ownsRow (X.heap.size + 1) 21 1 v (M.rn s).length (K.ints (M.rn s)) ∧ Below X.heap.size X w') := fun X s hs => decode_any s X (by omega)
  go_enter Try.func5, Try.ntmps5
  go_wp2_with fail
  refine (nmRows_any _).mono ?_
  rintro e wR ⟨v, rfl, hRw, bR⟩
  obtain ⟨b, rfl, hcell⟩ := hRw
  have HR : Hid (Nm.Rw wR (.slice (some ⟨b, 0, none⟩) Nm.rowB.length Nm.rowB.length) Nm.rowB) := ⟨b, rfl, hcell⟩
  have HBR : Hid (Below w.heap.size w wR) := bR
  clear hcell bR
  rw [show Nm.rowB.length = 11 from rfl] at HR ⊢
  go_wp2
  go_loopw [1, 9] (fun vt vj wr => ∃ (j : Nat) (vo : Option Addr) (vc : Nat) (acc : List Nm.Pr), vt = .slice vo acc.length vc ∧ vj = .int .i64 j ∧ j ≤ 11 ∧ acc.length ≤ 12 * j ∧ Hid (acc = (Nm.rowL.take j).flatMap Nm.mk) ∧ Hid (wr.ownsRow wR.heap.size 27 3 (.slice vo acc.length vc) acc.length (Nm.pcells acc) ∧ Below wR.heap.size wR wr)) (fun _ vj _ => 11 - (intOf vj).toNat)
  case atStart => exact ⟨0, none, 0, [], rfl, rfl, by omega, by simp, by show _ = _; simp, World.ownsRow_nil _ _ _ _, Below.refl _ _⟩
  case round =>
    obtain ⟨j, vo, vc, acc, rfl, rfl, hj, hacc, HA, HO⟩ := hrel
    by_cases hlt : j < 11
    · obtain ⟨x, hx⟩ : ∃ x, Nm.rowB[j]? = some x := ⟨Nm.rowB[j]'(show j < Nm.rowB.length from hlt), by simp⟩
      obtain ⟨y, hy, hy1, hy2, hy3, hy4, hy5, hy6, hy7⟩ := Nm.rows_at hx
      obtain ⟨b', e', hcell⟩ := HR.out
      cases e'
      obtain ⟨c0, c1, c2⟩ := hcell j x hx
      rw [← HO.out.2.cell (p := ⟨b, j * 3, none⟩) (L.block_lt c0)] at c0
      rw [← HO.out.2.cell (p := ⟨b, j * 3 + 1, none⟩) (L.block_lt c1)] at c1
      rw [← HO.out.2.cell (p := ⟨b, j * 3 + 2, none⟩) (L.block_lt c2)] at c2
      have HY : Hid (Nm.rowL[j]? = some y ∧ M.rn x.2.1 = y.2.1 ∧ M.rn x.2.2 = y.2.2 ∧ x.1 = y.1 ∧ y.2.1.length = y.2.2.length ∧ y.2.1.length ≤ 12) := ⟨hy, hy1, hy2, hy3, hy4, hy5⟩
      have hD1 := HD.out
      obtain ⟨x1, x2, x3⟩ := x
      simp only at hy6 hy7 c0 c1 c2 HY
      obtain ⟨X, hX⟩ : ∃ X, X = wr.alloc (.cells #[.int .i32 x1, .string x2, .string x3] 51) := ⟨_, rfl⟩
      have bX : Below wr.heap.size wr X := by rw [hX]; exact (Below.refl _ wr).alloc (Nat.le_refl _) _
      have hbx : X.heap[wr.heap.size]? = some (.cells #[.int .i32 x1, .string x2, .string x3] 51) := by rw [hX]; exact heap_alloc_new wr _
      have HX : Hid (X.heap[wr.heap.size]? = some (.cells #[.int .i32 x1, .string x2, .string x3] 51) ∧ X.ownsRow wR.heap.size 27 3 (.slice vo acc.length vc) acc.length (Nm.pcells acc) ∧ Below wR.heap.size wR X) := ⟨hbx, L.owns_below HO.out.1 bX (Nat.le_refl _), HO.out.2.trans (bX.mono HO.out.2.size)⟩
      have k2 : X.cell? ⟨wr.heap.size, 2, none⟩ = some (.string x3) := K.at_box hbx rfl
      have HC1 : Hid (Calls Try.prog 24 #[.string x3] X fun e w' => ∃ v, e = .returned v ∧ w'.ownsRow (X.heap.size + 1) 21 1 v y.2.2.length (K.ints y.2.2) ∧ Below X.heap.size X w') := by
        have h := hD1 X x3 hy7
        rw [HY.out.2.2.1] at h
        exact h
      have HC2 : Hid (∀ X, Calls Try.prog 24 #[.string x2] X fun e w' => ∃ v, e = .returned v ∧ w'.ownsRow (X.heap.size + 1) 21 1 v y.2.1.length (K.ints y.2.1) ∧ Below X.heap.size X w') := fun X => by
        have h := hD1 X x2 hy6
        rw [HY.out.2.1] at h
        exact h
      clear hx hy hy1 hy2 hy3 hy4 hy5 hD1 hcell bX hbx
      go_wp2_with fail
      rw [← hX]
      refine HC1.out.mono ?_
      clear hX HC1
      rintro e w1 ⟨v1, rfl, own1, b1⟩
      have H1 : Hid (w1.heap[wr.heap.size]? = some (.cells #[.int .i32 x1, .string x2, .string x3] 51) ∧ w1.ownsRow 0 21 1 v1 y.2.2.length (K.ints y.2.2) ∧ w1.ownsRow wR.heap.size 27 3 (.slice vo acc.length vc) acc.length (Nm.pcells acc) ∧ Below wR.heap.size wR w1) := ⟨K.blk_below HX.out.1 b1, L.owns_base own1 (Nat.zero_le _), L.owns_below HX.out.2.1 b1 (Nat.le_refl _), HX.out.2.2.trans (b1.mono HX.out.2.2.size)⟩
      have k1 : w1.cell? ⟨wr.heap.size, 1, none⟩ = some (.string x2) := K.at_box H1.out.1 rfl
      obtain ⟨wo, wc, rfl, hwc, _⟩ := K.own_slice own1
      clear k2 c0 c1 c2 HX b1 own1
      go_wp2_with fail
      refine (HC2.out _).mono ?_
      clear HC2
      rintro e w2 ⟨v2, rfl, own2, b2⟩
      have H2 : Hid (Nm.Pn wR w2 wr.heap.size (x1, x2, x3) y (.slice wo y.2.2.length wc) v2 (.slice vo acc.length vc) acc) := ⟨K.blk_below H1.out.1 b2, L.owns_below H1.out.2.1 b2 (Nat.le_refl _), L.owns_base own2 (Nat.zero_le _), L.owns_below H1.out.2.2.1 b2 (Nat.le_refl _), H1.out.2.2.2.trans (b2.mono H1.out.2.2.2.size)⟩
      obtain ⟨po, pc, rfl, hpc, _⟩ := K.own_slice own2
      obtain ⟨n, hn⟩ : ∃ n, n = y.2.1.length := ⟨_, rfl⟩
      have HN : Hid (n = y.2.1.length ∧ n = y.2.2.length) := ⟨hn, by rw [hn]; exact HY.out.2.2.2.2.1⟩
      have hn12 : n ≤ 12 := by rw [hn]; exact HY.out.2.2.2.2.2
      rw [← hn, HN.out.2.symm] at H2 ⊢
      clear k1 own2 b2 H1 hn hpc hwc HO HR HBR HD
      have HT : Hid (Nm.Pn wR w2 wr.heap.size (x1, x2, x3) y (.slice wo n wc) (.slice po n pc) (.slice vo acc.length vc) (acc ++ (Nm.mk y).take 0)) := by
        show Nm.Pn _ _ _ _ _ _ _ _ _
        rw [List.take_zero, List.append_nil]; exact H2.out
      clear H2
      obtain ⟨bx, hbx⟩ : ∃ bx, bx = wr.heap.size := ⟨_, rfl⟩
      rw [← hbx] at HT ⊢
      clear hbx
      go_wp2
      go_loopw [1, 20] (fun vt vk wz => ∃ (k : Nat) (vo : Option Addr) (vc : Nat), vt = .slice vo (acc.length + k) vc ∧ vk = .int .i64 k ∧ k ≤ n ∧ Hid (Nm.Pn wR wz bx (x1, x2, x3) y (.slice wo n wc) (.slice po n pc) (.slice vo (acc.length + k) vc) (acc ++ (Nm.mk y).take k))) (fun _ vk _ => 12 - (intOf vk).toNat)
      case atStart => exact ⟨0, vo, vc, rfl, rfl, Nat.zero_le _, HT⟩
      case round =>
        obtain ⟨k, vo', vc', rfl, rfl, hk, HP⟩ := hrel
        clear HT
        by_cases hkn : k < n
        · obtain ⟨a, ha⟩ : ∃ a, y.2.1[k]? = some a := ⟨y.2.1[k]'(by have := HN.out.1; omega), by simp⟩
          obtain ⟨c, hc⟩ : ∃ c, y.2.2[k]? = some c := ⟨y.2.2[k]'(by have := HN.out.2; omega), by simp⟩
          obtain ⟨p1, p2, p3, p4, p5⟩ := HP.out
          obtain ⟨q, hq⟩ : ∃ q, q = (acc ++ (Nm.mk y).take k).length := ⟨_, rfl⟩
          have hlen : (acc ++ (Nm.mk y).take k).length = acc.length + k := by
            rw [List.length_append, List.length_take, Nm.mk_len y HY.out.2.2.2.2.1]
            have := HN.out.1; omega
          have hd : Nm.Pn wR wr.drew bx (x1, x2, x3) y (.slice wo n wc) (.slice po n pc) (.slice vo' (acc.length + k) vc') (acc ++ (Nm.mk y).take k) := ⟨p1, p2, p3, p4, ⟨p5.os, p5.tape, p5.output, p5.size, p5.block⟩⟩
          obtain ⟨ao1, vc1, w3, run3, hP3⟩ := hd.push (by rw [hlen]; omega) (a, x1, c)
          obtain ⟨_, _, e1, l1⟩ := Al.lies p3
          obtain ⟨_, _, e2, l2⟩ := Al.lies p2
          obtain ⟨rfl, -, rfl⟩ := Value.slice.inj e1
          obtain ⟨rfl, -, rfl⟩ := Value.slice.inj e2
          obtain ⟨g1, rfl, _, d1⟩ := l1 (by have := HN.out.1; omega)
          obtain ⟨g2, rfl, _, d2⟩ := l2 (by have := HN.out.2; omega)
          have s1 : wr.cell? ⟨g1, k, none⟩ = some (.int .i32 a) := d1 k _ (by unfold K.ints; rw [List.getElem?_map, ha]; rfl)
          have s2 : wr.cell? ⟨g2, k, none⟩ = some (.int .i32 c) := d2 k _ (by unfold K.ints; rw [List.getElem?_map, hc]; rfl)
          have s3 : wr.cell? ⟨bx, 0, none⟩ = some (.int .i32 x1) := K.at_box p1 rfl
          rw [hlen] at run3 hP3
          have hstep : acc ++ (Nm.mk y).take k ++ [(a, x1, c)] = acc ++ (Nm.mk y).take (k + 1) := by
            rw [Nm.mk_step ha hc, List.append_assoc, HY.out.2.2.2.1]
          rw [hstep] at hP3
          have HP3 : Hid (Nm.Pn wR w3 bx (x1, x2, x3) y (.slice (some ⟨g2, 0, none⟩) n wc) (.slice (some ⟨g1, 0, none⟩) n pc) (.slice ao1 (acc.length + k + 1) vc1) (acc ++ (Nm.mk y).take (k + 1))) := hP3
          have hrun : ∀ ty, (Builtin.append_ #[23, 23] ty #[.slice vo' (acc.length + k) vc', .slice (some ⟨wr.heap.size, 0, none⟩) 1 1]).run Try.prog ((wr.alloc (.cells #[.int .i32 a, .int .i32 x1, .int .i32 c] 27)).drew) = .ok (.slice ao1 (acc.length + k + 1) vc1) w3 := run3
          clear run3 p1 p2 p3 p4 p5 hd e1 e2 l1 l2 d1 d2 ha hc hP3 hstep hlen HP hq
          go_wp2_with fail
          go_region_law (refine K.step_run (by rfl) (.tmp 25) (.tmp 34) (by rfl) _ _ _ w3 (by rfl) (by rfl) hrun ?_)
          all_goals
            go_wp2
            go_roundw
            case rel => exact ⟨k + 1, ao1, vc1, rfl, by go_num, by omega, HP3⟩
            case measure => simp [intOf]; omega
        · have e : k = n := by omega
          subst e
          have hml : ((Nm.mk y).take k) = Nm.mk y := List.take_of_length_le (by rw [Nm.mk_len y HY.out.2.2.2.2.1]; have := HN.out.1; omega)
          have hal : (acc ++ Nm.mk y).length = acc.length + k := by rw [List.length_append, Nm.mk_len y HY.out.2.2.2.2.1, HN.out.1]
          have hF := HP.out
          rw [hml] at hF
          obtain ⟨_, _, _, f4, f5⟩ := hF
          have HF : Hid (wr.ownsRow wR.heap.size 27 3 (.slice vo' (acc ++ Nm.mk y).length vc') (acc ++ Nm.mk y).length (Nm.pcells (acc ++ Nm.mk y)) ∧ Below wR.heap.size wR wr) := ⟨by rw [hal] at f4 ⊢; exact f4, f5⟩
          have HA2 : Hid (acc ++ Nm.mk y = (Nm.rowL.take (j + 1)).flatMap Nm.mk) := by
            show _ = _
            rw [List.take_add_one, HY.out.1, List.flatMap_append, ← HA.out]
            simp
          have HAl : Hid ((acc ++ Nm.mk y).length = acc.length + k) := hal
          clear hml hal f4 f5 HP
          go_wp2
          go_roundw
          case rel => exact ⟨j + 1, vo', vc', acc ++ Nm.mk y, by rw [HAl.out], by go_num, by omega, by rw [HAl.out]; omega, HA2, HF⟩
          case measure => simp [intOf]; omega
    · have e : j = 11 := by omega
      subst e
      have hP : Hid (Nm.Prs wr (.slice vo acc.length vc) Nm.tab) := by
        have h1 : acc = Nm.tab := HA.out.trans Nm.tab_rows
        have h := Nm.prs_own HO.out.1 (by rw [h1]; decide)
        rw [← h1]; exact h
      have HE : Hid (Below w.heap.size w wr) := HBR.out.trans (HO.out.2.mono HBR.out.size)
      clear HA HO HR HBR HD
      go_wp2
      go_ret
      exact ⟨_, rfl, hP.out, HE.out⟩

end Go.Proofs.Ytbclmmkphjknaaa
