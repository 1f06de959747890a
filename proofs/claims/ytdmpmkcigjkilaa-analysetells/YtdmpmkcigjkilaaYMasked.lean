/-
  The rules that one ahead of them masks: analyse.Masked.
-/
import Derived.Test.YtdmpmkcigjkilaaYMasks
namespace Go.Proofs.Ytdmpmkcigjkilaa
theorem Try.infoIntY : (Try.prog.info? 3).map (fun i => (i.zero, i.size, i.bytes)) = some (some (.int .i64 0), 1, 8) := by kernel_rfl
open Go.RowKit Go.Shelf
set_option maxRecDepth 20000
set_option linter.unusedSimpArgs false
set_option linter.unusedVariables false

namespace K
def maskedF (l : List Rule) : List Int × Int × Int := if (rulesF l).1 = 0 then (maskedL l, 0, 0) else ([], rulesF l)
theorem maskAt_at {l : List Rule} {k : Nat} {p : Rule} (hp : l[k]? = some p) : maskAt l k = (l.take k).any fun a => masksB a p := by
  unfold maskAt; rw [hp]; rfl
theorem slice_rules (xo : Option Addr) (N xc n : Nat) (h : n ≤ xc) (w' : World) : (Instr.slice 47 (.slice xo N xc) none (some (.int .i64 (n : Int))) none).run Try.prog w' = .ok (.slice xo n xc) w' := by
  have a1 : (n : Int) ≤ xc := by omega
  have a0 : (0 : Int) ≤ n := by omega
  go_simp
end K

set_option maxHeartbeats 4000000 in
theorem yMasked_any (w : World) (v : Value) (l : List K.Rule) (R0 : V.Rus w v l) (hcap : ∀ ao n c, v = .slice ao n c → n ≤ c) :
    Calls Try.prog 22 #[v] w fun e w' => ∃ v', e = .returned (.tuple #[v', .agg #[.int .i64 (K.maskedF l).2.1, .int .i64 (K.maskedF l).2.2]]) ∧ L.Rd w' v' .i64 (K.maskedF l).1 ∧ Below w.heap.size w w' := by
  have HA : Hid (∀ o, Below w.heap.size w (w.alloc o)) := fun o => (Below.refl _ w).alloc (Nat.le_refl _) o
  have HC : Hid (∀ o, Calls Try.prog 48 #[v] (w.alloc o) fun e w' => e = .returned (.agg #[.int .i64 (K.rulesF l).1, .int .i64 (K.rulesF l).2]) ∧ Below (w.alloc o).heap.size (w.alloc o) w') := fun o => qWrong_any _ _ l (R0.below (HA.out o))
  have HE : Hid ((K.rulesF l).1 = 0 → l.length ≤ 200 ∧ ∀ r ∈ l, K.ruleE r = 0) := fun h => ⟨(K.rulesF_zero h).1, (K.rulesF_zero h).2.1⟩
  have HR : Hid (V.Rus w v l) := R0
  obtain ⟨i0, hi, hz0, hz1, hz2⟩ := info_parts Try.infoIntY
  obtain ⟨ao, cap, rfl⟩ := R0.len
  have hcp := hcap _ _ _ rfl
  obtain ⟨⟨o0, o1, o2⟩, HO⟩ : ∃ o, Hid (K.maskedF l = o) := ⟨_, rfl⟩
  rw [HO.out]
  unfold K.maskedF at HO
  obtain ⟨⟨e1, e2⟩, he⟩ : ∃ o, K.rulesF l = o := ⟨_, rfl⟩
  rw [he] at HC HE HO
  simp only at HC HE HO ⊢
  clear he R0 hcap
  go_enter Try.func22, Try.ntmps22
  go_wp2_with fail
  refine (HC.out _).mono ?_
  rintro e w1 ⟨rfl, b1⟩
  obtain ⟨h1, B1, s1⟩ := K.one_box b1
  have HB1 : Hid (Below w.heap.size w w1) := B1
  have HX1 : Hid (w1.heap[w.heap.size]? = some (.cells #[.int .i64 0, .int .i64 0] 29)) := h1
  obtain ⟨x0, x1, f0, f1⟩ := K.box2 h1
  have k0 : ∀ o, (w1.alloc o).cell? ⟨w.heap.size, 0, none⟩ = some (.int .i64 0) := fun o => K.alloc_cell x0 o
  have k1 : ∀ o, (w1.alloc o).cell? ⟨w.heap.size, 1, none⟩ = some (.int .i64 0) := fun o => K.alloc_cell x1 o
  have g0 : ∀ o, (w1.alloc o).frozen? ⟨w.heap.size, 0, none⟩ = false := fun o => K.alloc_free h1 o 0
  have g1 : ∀ o, (w1.alloc o).frozen? ⟨w.heap.size, 1, none⟩ = false := fun o => K.alloc_free h1 o 1
  have HB2 : Hid (∀ o, Below w.heap.size w (w1.alloc o)) := fun o => HB1.out.alloc (by omega) o
  clear b1 B1 HC x0 x1 f0 f1 h1
  by_cases q : e1 = 0
  · subst q
    have ho := HO.out
    rw [if_pos rfl] at ho
    cases ho
    obtain ⟨hl, hE⟩ := HE.out rfl
    have HE2 : Hid (∀ r ∈ l, K.ruleE r = 0) := hE
    clear hE HE
    obtain ⟨X, hX⟩ : ∃ X, X = w1.alloc (.cells #[.int .i64 0, .int .i64 e2] 29) := ⟨_, rfl⟩
    have HXX : Hid (X = w1.alloc (.cells #[.int .i64 0, .int .i64 e2] 29)) := hX
    have HBX : Hid (Below w.heap.size w X) := by show Below _ _ _; rw [hX]; exact HB2.out _
    have hXs : w.heap.size < X.heap.size := by rw [hX]; simp; omega
    have HXb : Hid (X.heap[w.heap.size]? = some (.cells #[.int .i64 0, .int .i64 0] 29)) := by
      show X.heap[w.heap.size]? = _
      rw [hX, Below.heap_alloc w1 _ w.heap.size (by omega)]; exact HX1.out
    clear hX k0 k1 g0 g1
    go_wp2
    go_loopw [5, 16] (fun vo i wr => ∃ k : Nat, k ≤ l.length ∧ i = .int .i64 k ∧ Hid (wr.ownsRow X.heap.size 3 1 vo (K.maskedN l k).length ((K.maskedN l k).map (Value.int .i64))) ∧ Hid (Below X.heap.size X wr)) (fun _ i _ => l.length - (intOf i).toNat)
    case atStart => exact ⟨0, Nat.zero_le _, rfl, World.ownsRow_nil _ _ _ _, by show Below _ _ _; rw [← HXX.out]; exact Below.refl _ _⟩
    case round =>
      obtain ⟨k, hk, rfl, HOw, HB⟩ := hrel
      have hwr := HB.out.size
      by_cases hlt : k < l.length
      · obtain ⟨p, hp⟩ : ∃ x, l[k]? = some x := ⟨l[k], by simp [hlt]⟩
        have HBw : Hid (Below w.heap.size w wr) := HBX.out.trans (HB.out.mono (by omega))
        obtain ⟨ba, oa, bo, bc, so, sc, ao2, ac, to, tc, rfl, a0, a1, a2, a3, a4, a5, a6, hP⟩ := K.Rus.rule (HR.out.below HBw.out) hp
        have HT : Hid (K.maskAt l k = (l.take k).any fun a => K.masksB a p) := K.maskAt_at hp
        obtain ⟨Y, hY⟩ : ∃ Y, Y = wr.alloc (.cells #[.bool p.start, .bool p.fin, .slice bo p.before.length bc, .slice so p.source.length sc, .slice ao2 p.after.length ac, .slice to p.target.length tc, .int .i64 p.cursor] 64) := ⟨_, rfl⟩
        have hy := K.one_box (w := wr) (Below.refl _ (wr.alloc (.cells #[.bool p.start, .bool p.fin, .slice bo p.before.length bc, .slice so p.source.length sc, .slice ao2 p.after.length ac, .slice to p.target.length tc, .int .i64 p.cursor] 64)))
        rw [← hY] at hy
        have HY : Hid (Below wr.heap.size wr Y ∧ wr.heap.size + 1 ≤ Y.heap.size) := hy.2
        have HCall : Hid (Calls Try.prog 46 #[.slice (some ⟨ba, oa, none⟩) k cap, .func (.func 50) #[] #[.pointer (some ⟨wr.heap.size, 0, none⟩)]] Y fun e w' => e = .returned (.bool (K.maskAt l k)) ∧ Below Y.heap.size Y w') := by
          show Calls _ _ _ _ _
          rw [HT.out]
          exact ruAny_any Y _ (l.take k) (K.Rus.upto (HR.out.below (HBw.out.trans (hy.2.1.mono HBw.out.size))) hk cap) 50 _ (fun a => K.masksB a p) (enters_of Try.func50 (by kernel_rfl) rfl)
            (fun W r u hW hr hu => masked1_any W u r p hu (HE2.out r (List.mem_of_mem_take hr)) (HE2.out p (List.mem_of_getElem? hp)) wr.heap.size bo so ao2 to bc sc ac tc ((hP.below hy.2.1).below hW) (K.blk_below hy.1 hW))
        have hsl := K.slice_rules (some ⟨ba, oa, none⟩) l.length cap k (by omega)
        have HOY : Hid (Y.ownsRow X.heap.size 3 1 u5 (K.maskedN l k).length ((K.maskedN l k).map (Value.int .i64))) := by rw [hY]; exact HOw.out.alloc _
        have hlen := K.maskedN_len l k
        clear hp hP HT hy
        obtain ⟨st, fi, be, sou, af, ta, cu⟩ := p
        simp only at a0 a1 a2 a3 a4 a5 a6 hY
        generalize hz : K.maskAt l k = z at HCall
        have HZ : Hid (K.maskAt l k = z) := hz
        clear hz
        go_wp2_with fail
        rw [← hY]
        refine HCall.out.mono ?_
        rintro e w3 ⟨rfl, z3⟩
        have HO3 : Hid (w3.ownsRow X.heap.size 3 1 u5 (K.maskedN l k).length ((K.maskedN l k).map (Value.int .i64))) := L.owns_below HOY.out z3 (Nat.le_refl _)
        have HB3 : Hid (Below X.heap.size X w3) := (HB.out.trans (HY.out.1.mono hwr)).trans (z3.mono (by have := HY.out.2; omega))
        have hw3 : X.heap.size ≤ w3.heap.size := HB3.out.size
        clear z3 hY HCall a0 a1 a2 a3 a4 a5 a6 hsl
        cases z with
        | false =>
          go_wp2
          go_roundw
          case rel => exact ⟨k + 1, by omega, by go_num, by rw [K.maskedN_no HZ.out]; exact HO3, HB3⟩
          case measure => simp [intOf]; omega
        | true =>
          go_wp2_with (at_builtin; go_must (refine wpList_append_own _ rfl _ _ 54 rfl X.heap.size 3 i0 (.int .i64 0) 1 8 Try.underlying54 hi hz0 hz1 hz2 rfl (by decide) _ _ _ rfl (HO3.out.alloc _) ⟨w3.heap.size, 0, none⟩ 1 1 [.int .i64 (k : Int)] rfl rfl (cell_one_new _ _ _) (fun x hx => by simp at hx; subst hx; rfl) (by unfold maxLen; omega) (by omega) (by simp; omega) ?_; intro v' w4 hown' hgrow4 hnil4; have HX4 : Hid (w4.ownsRow X.heap.size 3 1 v' ((K.maskedN l k).length + 1) ((K.maskedN l k).map (Value.int .i64) ++ [.int .i64 (k : Int)]) ∧ Below X.heap.size X w4) := ⟨hown', Below.grown (HB3.out.alloc hw3 _) hgrow4 (by simp; omega) (fun j hj => (HO3.out.lt _ hj).1)⟩; clear hown' hgrow4 hnil4))
          go_roundw
          case rel => exact ⟨k + 1, by omega, by go_num, by rw [K.maskedN_yes HZ.out, List.length_append, List.map_append]; exact HX4.out.1, HX4.out.2⟩
          case measure => simp [intOf]; omega
      · have hkl : k = l.length := by omega
        subst hkl
        obtain ⟨x0, x1, f0, f1⟩ := K.box2 (K.blk_below HXb.out HB.out)
        have HR9 : Hid (∀ u u', L.Rd ((wr.setCell ⟨w.heap.size, 0, none⟩ u).setCell ⟨w.heap.size, 1, none⟩ u') u5 .i64 (K.maskedL l)) := fun u u' => L.Rd.of_owns (ownsRow_setCell_below (ownsRow_setCell_below HOw.out (a := ⟨w.heap.size, 0, none⟩) hXs u) (a := ⟨w.heap.size, 1, none⟩) hXs u')
        go_wp2
        refine bodyPost_ret (v := .tuple #[u5, .agg #[.int .i64 0, .int .i64 0]]) (by simp [results, Try.results22, go_sem, *]) rfl ?_
        exact ⟨u5, rfl, HR9.out _ _, ((HBX.out.trans (HB.out.mono (by omega))).setCell (p := ⟨w.heap.size, 0, none⟩) (Nat.le_refl _) _).setCell (p := ⟨w.heap.size, 1, none⟩) (Nat.le_refl _) _⟩
  · have ho := HO.out
    rw [if_neg q] at ho
    cases ho
    go_wp2
    go_region
    go_wp2
    refine bodyPost_ret (v := .tuple #[.slice none 0 0, .agg #[.int .i64 o1, .int .i64 o2]]) (by simp [results, Try.results22, go_sem, *]) rfl ?_
    exact ⟨_, rfl, ⟨none, 0, rfl, fun _ => rfl, fun h => absurd rfl h⟩, (((HB2.out _).setCell (p := ⟨w.heap.size, 0, none⟩) (Nat.le_refl _) _).setCell (p := ⟨w.heap.size, 1, none⟩) (Nat.le_refl _) _).drew⟩

end Go.Proofs.Ytdmpmkcigjkilaa
