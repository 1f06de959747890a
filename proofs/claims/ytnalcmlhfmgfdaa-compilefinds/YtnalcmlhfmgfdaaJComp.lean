/-
  compile.Compile.
-/
import Derived.Test.YtnalcmlhfmgfdaaJHeads
import Derived.Test.YtnalcmlhfmgfdaaJEdges
import Derived.Test.YtnalcmlhfmgfdaaMCut
import Derived.Deep.RegionLaw
namespace Go.Proofs.Ytnalcmlhfmgfdaa
open Go.RowKit Go.Shelf
set_option maxRecDepth 20000
set_option linter.unusedSimpArgs false
set_option linter.unusedVariables false

namespace J
/-- the edges: rising, and none but those -/
def Cuts (l : List K.Rule) (c : List Int) : Prop := c.Pairwise (· < ·) ∧ ∀ y, y ∈ c ↔ y ∈ edgesL l
/-- what Compile answers -/
def Comp (l : List K.Rule) (o : List Hd × Int × Int) : Prop :=
  ((K.rulesF l).1 ≠ 0 ∧ o = ([], K.rulesF l)) ∨ ((K.rulesF l).1 = 0 ∧ ∃ c, Cuts l c ∧ 2 ≤ c.length ∧ ((400 < c.length - 1 ∧ o = ([], 5, 0)) ∨ (c.length - 1 ≤ 400 ∧ o = (heads (begins l) c (c.length - 1), 0, 0))))
theorem Cuts.two {l : List K.Rule} {c : List Int} (h : Cuts l c) : 2 ≤ c.length := by
  have h0 : (0 : Int) ∈ c := (h.2 0).2 (by simp [edgesL])
  have h1 : (1114112 : Int) ∈ c := (h.2 _).2 (by simp [edgesL])
  match c, h0, h1 with
  | [], h0, _ => simp at h0
  | [x], h0, h1 => simp at h0 h1; omega
  | x :: y :: t, _, _ => simp
theorem mem_range {l : List K.Rule} (hE : ∀ r ∈ l, K.ruleE r = 0) {y : Int} (h : y ∈ edgesL l) : 0 ≤ y ∧ y ≤ 1114112 := by
  unfold edgesL at h
  rcases List.mem_append.1 h with h | h
  · simp at h; omega
  · obtain ⟨r, hr, h⟩ := List.mem_flatMap.1 h
    unfold ends at h
    obtain ⟨x, hx, h⟩ := List.mem_flatMap.1 h
    have := (K.head_ok (hE r hr)).1.mem hx
    simp at h
    omega
end J

set_option maxHeartbeats 4000000 in
theorem jCompile_any (w : World) (v : Value) (l : List K.Rule) (R0 : V.Rus w v l) :
    Calls Try.prog 12 #[v] w fun e w' => ∃ (v' : Value) (o : List J.Hd × Int × Int), J.Comp l o ∧ e = .returned (.tuple #[v', .agg #[.int .i64 o.2.1, .int .i64 o.2.2]]) ∧ J.Own w.heap.size w' v' o.1 ∧ Below w.heap.size w w' := by
  have HA : Hid (∀ o, Below w.heap.size w (w.alloc o)) := fun o => (Below.refl _ w).alloc (Nat.le_refl _) o
  have HC : Hid (∀ o, Calls Try.prog 25 #[v] (w.alloc o) fun e w' => e = .returned (.agg #[.int .i64 (K.rulesF l).1, .int .i64 (K.rulesF l).2]) ∧ Below (w.alloc o).heap.size (w.alloc o) w') := fun o => qWrong_any _ _ l (R0.below (HA.out o))
  have HE : Hid ((K.rulesF l).1 = 0 → l.length ≤ 200 ∧ ∀ r ∈ l, K.ruleE r = 0) := fun h => ⟨(K.rulesF_zero h).1, (K.rulesF_zero h).2.1⟩
  have HR : Hid (V.Rus w v l) := R0
  have HN : Hid ((K.rulesF l).1 ≠ 0 → J.Comp l ([], K.rulesF l)) := fun h => .inl ⟨h, rfl⟩
  have HY : Hid ((K.rulesF l).1 = 0 → ∀ c, J.Cuts l c → ∀ o, ((400 < c.length - 1 ∧ o = ([], 5, 0)) ∨ (c.length - 1 ≤ 400 ∧ o = (J.heads (J.begins l) c (c.length - 1), 0, 0))) → J.Comp l o) := fun h c hc o ho => .inr ⟨h, c, hc, hc.two, ho⟩
  obtain ⟨ao, cap, rfl⟩ := R0.len
  obtain ⟨⟨e1, e2⟩, he⟩ : ∃ o, K.rulesF l = o := ⟨_, rfl⟩
  rw [he] at HC HE HN HY
  simp only at HC HE HN HY
  clear he R0
  go_enter Try.func12, Try.ntmps12
  go_wp2_with fail
  refine (HC.out _).mono ?_
  rintro e w1 ⟨rfl, b1⟩
  obtain ⟨h1, B1, s1⟩ := K.one_box b1
  have HB1 : Hid (Below w.heap.size w w1) := B1
  have HX1 : Hid (w1.heap[w.heap.size]? = some (.cells #[.int .i64 0, .int .i64 0] 28)) := h1
  obtain ⟨x0, x1, f0, f1⟩ := K.box2 h1
  have k0 : ∀ o, (w1.alloc o).cell? ⟨w.heap.size, 0, none⟩ = some (.int .i64 0) := fun o => K.alloc_cell x0 o
  have k1 : ∀ o, (w1.alloc o).cell? ⟨w.heap.size, 1, none⟩ = some (.int .i64 0) := fun o => K.alloc_cell x1 o
  have g0 : ∀ o, (w1.alloc o).frozen? ⟨w.heap.size, 0, none⟩ = false := fun o => K.alloc_free h1 o 0
  have g1 : ∀ o, (w1.alloc o).frozen? ⟨w.heap.size, 1, none⟩ = false := fun o => K.alloc_free h1 o 1
  have HB2 : Hid (∀ o, Below w.heap.size w (w1.alloc o)) := fun o => HB1.out.alloc (by omega) o
  clear b1 B1 HC x0 x1 f0 f1 h1
  by_cases q : e1 = 0
  · subst q
    obtain ⟨hl, hE⟩ := HE.out rfl
    have HE2 : Hid (∀ r ∈ l, K.ruleE r = 0) := hE
    have HY2 : Hid (∀ c, J.Cuts l c → ∀ o, ((400 < c.length - 1 ∧ o = ([], 5, 0)) ∨ (c.length - 1 ≤ 400 ∧ o = (J.heads (J.begins l) c (c.length - 1), 0, 0))) → J.Comp l o) := HY.out rfl
    clear hE HE HN HY
    obtain ⟨X, hX⟩ : ∃ X, X = w1.alloc (.cells #[.int .i64 0, .int .i64 e2] 28) := ⟨_, rfl⟩
    have HXX : Hid (X = w1.alloc (.cells #[.int .i64 0, .int .i64 e2] 28)) := hX
    have HBX : Hid (Below w.heap.size w X) := by show Below _ _ _; rw [hX]; exact HB2.out _
    have hXs : w.heap.size < X.heap.size := by rw [hX]; simp; omega
    have HXb : Hid (X.heap[w.heap.size]? = some (.cells #[.int .i64 0, .int .i64 0] 28)) := by
      show X.heap[w.heap.size]? = _
      rw [hX, Below.heap_alloc w1 _ w.heap.size (by omega)]; exact HX1.out
    have HEd := jEdges_any X (.slice ao l.length cap) l (HR.out.below HBX.out) hl HE2.out
    have HEd2 : Hid (∀ Y, Y = X → Calls Try.prog 26 #[.slice ao l.length cap] Y fun e w' => ∃ (v' : Value) (c : List Int), e = .returned v' ∧ c.Pairwise (· < ·) ∧ (∀ y, y ∈ c ↔ y ∈ J.edgesL l) ∧ w'.ownsRow X.heap.size 21 1 v' c.length (Z.ints c) ∧ Below X.heap.size X w') := fun Y hY => by rw [hY]; exact HEd
    clear hX k0 k1 g0 g1 HEd
    go_wp2_with fail
    go_at_call 26
    refine (HEd2.out _ HXX.out.symm).mono ?_
    rintro e w2 ⟨vc, c, rfl, hc1, hc2, own2, b2⟩
    have HCu : Hid (J.Cuts l c) := ⟨hc1, hc2⟩
    have hc3 : 2 ≤ c.length := J.Cuts.two ⟨hc1, hc2⟩
    have HOw : Hid (w2.ownsRow X.heap.size 21 1 vc c.length (Z.ints c)) := own2
    have HB3 : Hid (Below X.heap.size X w2) := b2
    have hx2 := K.blk_below HXb.out b2
    have hw2 : w.heap.size < w2.heap.size := by have := b2.size; omega
    have HX2 : Hid (w2.heap[w.heap.size]? = some (.cells #[.int .i64 0, .int .i64 0] 28)) := hx2
    obtain ⟨x0, x1, f0, f1⟩ := K.box2 hx2
    obtain ⟨vg, vk, rfl, hvk, hvm⟩ : ∃ g k, vc = .slice (some ⟨g, 0, none⟩) c.length k ∧ c.length ≤ k ∧ k ≤ 9223372036854775807 := by
      obtain ⟨_, ⟨rfl, h⟩ | ⟨g, k, cur, rfl, _, _, h, h', _⟩⟩ := own2
      · omega
      · exact ⟨g, k, rfl, h, h'⟩
    have HCell : Hid (∀ W, Below w2.heap.size w2 W → ∀ j, j < c.length → W.cell? ⟨vg, j, none⟩ = some (.int .i32 (c.getD j 0))) := fun W hW j hj => by
      obtain ⟨ao', cap', h9, _, hcs⟩ := (L.Rd.of_owns own2).below hW (Nat.le_refl _)
      cases h9
      obtain ⟨b', off', h9, hcell⟩ := hcs (by intro h; subst h; simp at hj)
      cases h9
      have := hcell j c[j] (by simp [hj])
      rw [Nat.zero_add] at this
      rw [this]
      simp [List.getD, hj]
    have HRange : Hid (∀ j, j < c.length → 0 ≤ c.getD j 0 ∧ c.getD j 0 ≤ 1114112) := fun j hj => by
      have : c.getD j 0 ∈ c := by simp [List.getD, hj]
      exact J.mem_range HE2.out ((hc2 _).1 this)
    clear hc1 hc2 own2 b2 hx2
    by_cases hm : 400 < c.length - 1
    · have HOo : Hid (J.Comp l ([], 5, 0)) := HY2.out c HCu.out _ (.inl ⟨hm, rfl⟩)
      go_wp2
      refine bodyPost_ret (v := .tuple #[.slice none 0 0, .agg #[.int .i64 5, .int .i64 0]]) (by simp [results, Try.results12, go_sem, *]) rfl ?_
      exact ⟨_, _, HOo.out, rfl, J.Own.nil _ _, (((HBX.out.trans (HB3.out.mono (by omega))).setCell (p := ⟨w.heap.size, 0, none⟩) (Nat.le_refl _) _).setCell (p := ⟨w.heap.size, 1, none⟩) (Nat.le_refl _) _)⟩
    · have HOo : Hid (J.Comp l (J.heads (J.begins l) c (c.length - 1), 0, 0)) := HY2.out c HCu.out _ (.inr ⟨by omega, rfl⟩)
      go_wp2_with fail
      go_loopw [6, 27] (fun vo i wr => ∃ k : Nat, k ≤ c.length - 1 ∧ i = .int .i64 k ∧ Hid (J.Own w2.heap.size wr vo (J.heads (J.begins l) c k) ∧ Below w2.heap.size w2 wr)) (fun _ i _ => c.length - 1 - (RowKit.intOf i).toNat)
      case atStart => exact ⟨0, Nat.zero_le _, rfl, J.Own.nil _ _, Below.refl _ _⟩
      case round =>
        obtain ⟨k, hk, rfl, HO⟩ := hrel
        clear x0 x1 f0 f1
        have hwr := HO.out.2.size
        by_cases hlt : k < c.length - 1
        · have y0 : wr.cell? ⟨vg, k, none⟩ = some (.int .i32 (c.getD k 0)) := HCell.out wr HO.out.2 k (by omega)
          have y1 : wr.cell? ⟨vg, 1 + k, none⟩ = some (.int .i32 (c.getD (k + 1) 0)) := by rw [Nat.add_comm 1 k]; exact HCell.out wr HO.out.2 (k + 1) (by omega)
          have r0 := HRange.out k (by omega)
          have r1 := HRange.out (k + 1) (by omega)
          have HS : Hid (J.heads (J.begins l) c (k + 1) = J.heads (J.begins l) c k ++ [(c.getD k 0, c.getD (k + 1) 0 - 1, J.begins l (c.getD k 0))]) := J.heads_succ _ _ _
          have HLn : Hid ((J.heads (J.begins l) c k).length ≤ 2000000) := by show _ ≤ _; rw [J.heads_len]; omega
          generalize c.getD k 0 = lo at y0 r0 HS
          generalize c.getD (k + 1) 0 = nx at y1 r1 HS
          generalize J.heads (J.begins l) c k = hs at HO HS HLn
          obtain ⟨ua, un, uc, rfl⟩ : ∃ a b c, u6 = .slice a b c := by
            obtain ⟨ps, _, ⟨_, ⟨rfl, _⟩ | ⟨g, k, cur, rfl, _⟩⟩, _⟩ := HO.out.1
            · exact ⟨_, _, _, rfl⟩
            · exact ⟨_, _, _, rfl⟩
          obtain ⟨Y, hY⟩ : ∃ Y, Y = wr.alloc (.cells #[.int .i32 lo] 21) := ⟨_, rfl⟩
          have hYw : Below wr.heap.size wr Y := by rw [hY]; exact (Below.refl _ wr).alloc (Nat.le_refl _) _
          have hYb : Y.heap[wr.heap.size]? = some (.cells #[.int .i32 lo] 21) := by
            rw [hY]
            show (wr.heap.push _)[wr.heap.size]? = _
            exact Array.getElem?_push_size
          have hYs : wr.heap.size < Y.heap.size := by rw [hY]; simp
          have hBw : Below w.heap.size w Y := ((HBX.out.trans (HB3.out.mono (by omega))).trans (HO.out.2.mono (by omega))).trans (hYw.mono (by omega))
          have HCall : Hid (∀ W, W = Y.drew → Calls Try.prog 29 #[.slice ao l.length cap, .func (.func 27) #[] #[.pointer (some ⟨wr.heap.size, 0, none⟩)]] W fun e w3 => ∃ vo vn vq, e = .returned (.slice vo vn vq) ∧ w3.cell? ⟨wr.heap.size, 0, none⟩ = some (.int .i32 lo) ∧
              ∃ v4 w4, (Builtin.append_ #[32, 32] 32 #[.slice ua un uc, .slice (some ⟨w3.heap.size, 0, none⟩) 1 1]).run Try.prog (w3.alloc (.cells #[.int .i32 lo, .int .i32 (IntKind.i32.wrap (nx - 1)), .slice vo vn vq] 46)) = .ok v4 w4 ∧ J.Own w2.heap.size w4 v4 (hs ++ [(lo, nx - 1, J.begins l lo)]) ∧ Below w2.heap.size w2 w4) := fun W hW => by
            subst hW
            rw [show IntKind.i32.wrap (nx - 1) = nx - 1 by rw [IntKind.wrap_i32]; omega]
            have hD : Below Y.heap.size Y Y.drew := (Below.refl _ Y).drew
            refine (jWhich_any Y.drew _ l ((HR.out.below hBw).below hD) hl 27 #[.pointer (some ⟨wr.heap.size, 0, none⟩)] (fun r => S.memb (K.headS r) lo) (enters_of Try.func27 (by kernel_rfl) rfl) (fun W r u hW hr hu => jBegins_any W u r lo wr.heap.size hu (HE2.out r hr) (K.blk_below hYb (hD.trans hW)))).mono ?_
            rintro e w3 ⟨v3, he, own3, b3⟩
            have b3' : Below Y.heap.size Y w3 := hD.trans b3
            have bw3 : Below wr.heap.size wr w3 := hYw.trans (b3'.mono (by omega))
            obtain ⟨v4, w4, r4, o4, B4⟩ := (HO.out.1.below bw3).push (HO.out.2.trans (bw3.mono hwr)) (by have := bw3.size; omega) HLn.out lo (nx - 1) (J.begins l lo) v3 (L.owns_base own3 (by show w2.heap.size ≤ Y.heap.size; omega))
            obtain ⟨vo, vn, vq, rfl⟩ : ∃ a b c, v3 = .slice a b c := by
              obtain ⟨_, ⟨rfl, _⟩ | ⟨g, k, cur, rfl, _⟩⟩ := own3
              · exact ⟨_, _, _, rfl⟩
              · exact ⟨_, _, _, rfl⟩
            exact ⟨vo, vn, vq, he, K.at_box (K.blk_below hYb b3') rfl, v4, w4, r4, o4, B4⟩
          clear hYb hYw hBw HO hYs
          go_wp2_with fail
          rw [← hY]
          have y2 : Y.cell? ⟨wr.heap.size, 0, none⟩ = some (.int .i32 lo) := by rw [hY]; exact K.at_box (c := #[.int .i32 lo]) (t := 21) (by show (wr.heap.push _)[wr.heap.size]? = _; exact Array.getElem?_push_size) rfl
          clear hY y0 y1
          obtain ⟨r2, r3⟩ := r1
          go_region_law
            (first
              | ((fail_if_success (have hz := run4)); go_simp; go_at_call 29; refine (HCall.out _ rfl).mono ?_; rintro e w3 ⟨vo, vn, vq, rfl, x3, v4, w4, run4, own4, b4⟩; have HX4 : Hid (J.Own w2.heap.size w4 v4 (hs ++ [(lo, nx - 1, J.begins l lo)]) ∧ Below w2.heap.size w2 w4) := ⟨own4, b4⟩; clear own4 b4)
              | (have hh := run4; clear hh; refine J.step_run (by rfl) (.tmp 37) (.tmp 45) (by rfl) (.slice ua un uc) (.slice (some ⟨w3.heap.size, 0, none⟩) 1 1) v4 w4 (by rfl) (by rfl) run4 ?_))
          all_goals go_wp2
          all_goals go_roundw
          all_goals first | (exact ⟨k + 1, by omega, by go_num, by rw [HS.out]; exact HX4.out⟩) | (simp [RowKit.intOf]; omega)
        · have hke : k = c.length - 1 := by omega
          subst hke
          have hx5 := K.blk_below HX2.out HO.out.2
          obtain ⟨x0, x1, f0, f1⟩ := K.box2 hx5
          have HFin : Hid (∀ u u', J.Own w.heap.size ((wr.setCell ⟨w.heap.size, 0, none⟩ u).setCell ⟨w.heap.size, 1, none⟩ u') u6 (J.heads (J.begins l) c (c.length - 1)) ∧ Below w.heap.size w ((wr.setCell ⟨w.heap.size, 0, none⟩ u).setCell ⟨w.heap.size, 1, none⟩ u')) := fun u u' => by
            refine ⟨(HO.out.1.kept fun g hg => ?_).base (by omega), (((HBX.out.trans (HB3.out.mono (by omega))).trans (HO.out.2.mono (by omega))).setCell (p := ⟨w.heap.size, 0, none⟩) (Nat.le_refl _) _).setCell (p := ⟨w.heap.size, 1, none⟩) (Nat.le_refl _) _⟩
            have hne : g ≠ w.heap.size := by omega
            rw [heap_setCell_other _ ⟨w.heap.size, 1, none⟩ g _ hne, heap_setCell_other _ ⟨w.heap.size, 0, none⟩ g _ hne]
          clear hx5
          go_wp2
          refine bodyPost_ret (v := .tuple #[u6, .agg #[.int .i64 0, .int .i64 0]]) (by simp [results, Try.results12, go_sem, *]) rfl ?_
          exact ⟨u6, _, HOo.out, rfl, HFin.out _ _⟩
  · have HNN : Hid (J.Comp l ([], e1, e2)) := HN.out q
    go_wp2
    go_region
    go_wp2
    refine bodyPost_ret (v := .tuple #[.slice none 0 0, .agg #[.int .i64 e1, .int .i64 e2]]) (by simp [results, Try.results12, go_sem, *]) rfl ?_
    exact ⟨_, ([], e1, e2), HNN.out, rfl, J.Own.nil _ _, (((HB2.out _).setCell (p := ⟨w.heap.size, 0, none⟩) (Nat.le_refl _) _).setCell (p := ⟨w.heap.size, 1, none⟩) (Nat.le_refl _) _).drew⟩

end Go.Proofs.Ytnalcmlhfmgfdaa
