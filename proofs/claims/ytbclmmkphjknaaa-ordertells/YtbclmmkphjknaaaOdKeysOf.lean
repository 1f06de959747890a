/-
  A row of keys that is being made.
-/
import Derived.Test.YtbclmmkphjknaaaOdKey
import Derived.Test.YtbclmmkphjknaaaWRd
import Derived.BigRegion
namespace Go.Proofs.Ytbclmmkphjknaaa
open Go.RowKit
set_option maxRecDepth 20000
set_option linter.unusedSimpArgs false
set_option linter.unusedVariables false

theorem Try.infoKey : (Try.prog.info? 84).map (fun i => (i.zero, i.size, i.bytes)) = some (some (.agg #[.slice none 0 0, .slice none 0 0, .slice none 0 0]), 3, 72) := by kernel_rfl

namespace Od
abbrev V3 := Value × Value × Value
def kcells (ps : List V3) : List Value := ps.flatMap fun p => [p.1, p.2.1, p.2.2]
def KO (w : World) (F : Nat) (v : Value) (ks : List K3) : Prop := ∃ ps : List V3, ps.length = ks.length ∧ w.ownsRow F 84 3 v ks.length (kcells ps) ∧ ∀ (j : Nat) p k, ps[j]? = some p → ks[j]? = some k → Tri w F p.1 p.2.1 p.2.2 k ∧ Apt v p.1 ∧ Apt v p.2.1 ∧ Apt v p.2.2
theorem KO.nil (w : World) (F : Nat) : KO w F (.slice none 0 0) [] := ⟨[], rfl, World.ownsRow_nil _ _ _ _, fun j p k h => by simp at h⟩
theorem one_cell {F : Nat} {e : TypeId} {k : Nat} {w : World} {v : Value} {n : Nat} {xs : List Value} (h : w.ownsRow F e k v n xs) : v.oneCell' = true := by
  obtain ⟨_, ⟨rfl, _⟩ | ⟨g, cap, cur, rfl, _⟩⟩ := h <;> rfl
theorem apt_new {w w' : World} {F G : Nat} {e1 e2 : TypeId} {k1 k2 n1 n2 : Nat} {a b : Value} {xs ys : List Value} (h1 : w.ownsRow F e1 k1 a n1 xs) (h2 : w'.ownsRow G e2 k2 b n2 ys) (hG : w.heap.size ≤ G) : Apt a b := fun q hq hq2 => by
  have := (h1.lt q hq).2
  have := (h2.lt q hq2).1
  omega
/-- one key more -/
theorem KO.push {w w1 : World} {F : Nat} {v a b c : Value} {ks : List K3} {k : K3} (h : KO w F v ks) (hF : F ≤ w.heap.size) (hl : ks.length ≤ 100000) (hb : Below w.heap.size w w1) (ht : Tri w1 w.heap.size a b c k) :
    ∃ v' w', (∀ ty, (Builtin.append_ #[68, 68] ty #[v, .slice (some ⟨w1.heap.size, 0, none⟩) 1 1]).run Try.prog (w1.alloc (.cells #[a, b, c] 84)) = .ok v' w') ∧ KO w' F v' (ks ++ [k]) ∧ Below F w w' ∧ w.heap.size ≤ w'.heap.size := by
  obtain ⟨ps, h1, h2, h3⟩ := h
  have h2' := L.owns_below h2 hb (Nat.le_refl _)
  have hs := hb.size
  obtain ⟨ao, cap, w', run, own', kp, sz, be, nw⟩ := app (sl := 68) Try.underlying68 Try.infoKey rfl (by decide) (by decide) h2' (Nat.le_trans hF hs) (by omega) [a, b, c] rfl (fun u hu => by
    simp at hu
    rcases hu with rfl | rfl | rfl
    · exact one_cell ht.o1
    · exact one_cell ht.o2
    · exact one_cell ht.o3)
  have mv : ∀ (u : Value) (l : List Int) (G : Nat), Ow w1 G u l → Apt v u → Ow w' G u l ∧ Apt (.slice ao (ks.length + 1) cap) u := fun u l G hu ha => ⟨Al.held hu fun q hq hlt => kp q hlt fun h => ha q h hq, fun q x1 x2 => by
    rcases nw with h | ⟨p, h, hp⟩
    · exact ha q (h.symm.trans x1) x2
    · rw [h] at x1
      have := (hu.lt q x2).2
      have := Option.some.inj x1
      omega⟩
  have mt : ∀ (x y z : Value) (κ : K3) (G : Nat), Tri w1 G x y z κ → Apt v x → Apt v y → Apt v z → Tri w' G x y z κ ∧ Apt (.slice ao (ks.length + 1) cap) x ∧ Apt (.slice ao (ks.length + 1) cap) y ∧ Apt (.slice ao (ks.length + 1) cap) z := fun x y z κ G t p q r => by
    obtain ⟨u1, u2⟩ := mv x _ G t.o1 p
    obtain ⟨u3, u4⟩ := mv y _ G t.o2 q
    obtain ⟨u5, u6⟩ := mv z _ G t.o3 r
    exact ⟨⟨u1, u3, u5, t.a12, t.a13, t.a23⟩, u2, u4, u6⟩
  refine ⟨_, w', run, ⟨ps ++ [(a, b, c)], by simp [h1], ?_, fun j p κ hp hk => ?_⟩, (hb.mono hF).trans be, Nat.le_trans hs sz⟩
  · rw [List.length_append]
    unfold kcells
    rw [List.flatMap_append]
    exact own'
  · by_cases hj : j < ks.length
    · rw [List.getElem?_append_left (by omega)] at hp
      rw [List.getElem?_append_left hj] at hk
      obtain ⟨t, p1, p2, p3⟩ := h3 j p κ hp hk
      exact mt _ _ _ _ _ (t.below hb) p1 p2 p3
    · have hj2 : j = ks.length := by
        have := (List.getElem?_eq_some_iff.1 hk).1
        simp at this
        omega
      subst hj2
      rw [List.getElem?_append_right (by omega), h1] at hp
      rw [List.getElem?_append_right (Nat.le_refl _)] at hk
      simp at hp hk
      subst hp hk
      obtain ⟨t, p1, p2, p3⟩ := mt _ _ _ _ _ ht (apt_new h2 ht.o1 (Nat.le_refl _)) (apt_new h2 ht.o2 (Nat.le_refl _)) (apt_new h2 ht.o3 (Nat.le_refl _))
      exact ⟨t.base hF, p1, p2, p3⟩
theorem Ow.at {w X : World} {F : Nat} {v : Value} {l : List Int} (h : Ow w F v l) (hX : ∀ a : Addr, F ≤ a.block → X.cell? a = w.cell? a) : L.Rd X v .i64 l :=
  rd_cells (fun b => F ≤ b) h.rd (fun a ha => hX a ha) fun b off c n e hn => (h.lt b (by rw [e]; rfl)).1
theorem KO.ks {w X : World} {F : Nat} {v : Value} {ks : List K3} (h : KO w F v ks) (hX : ∀ a : Addr, F ≤ a.block → X.cell? a = w.cell? a) : Ks X v ks := by
  obtain ⟨ps, h1, h2, h3⟩ := h
  obtain ⟨ao, cap, rfl, hl⟩ := Al.lies h2
  refine ⟨ao, cap, rfl, fun hne => ?_⟩
  obtain ⟨g, rfl, _, hc⟩ := hl (List.length_pos_iff.2 hne)
  have hg : F ≤ g := (h2.lt g rfl).1
  refine ⟨g, rfl, fun j k hk => ?_⟩
  have hj := (List.getElem?_eq_some_iff.1 hk).1
  obtain ⟨p, hp⟩ : ∃ p, ps[j]? = some p := ⟨ps[j]'(by omega), by simp⟩
  obtain ⟨e0, e1, e2⟩ := Nm.trip (fun x : V3 => (x.1, x.2.1, x.2.2)) ps j
  rw [hp] at e0 e1 e2
  obtain ⟨t, _⟩ := h3 j p k hp hk
  exact ⟨p.1, p.2.1, p.2.2, (hX _ hg).trans (hc _ _ e0), (hX _ hg).trans (hc _ _ e1), (hX _ hg).trans (hc _ _ e2), t.o1.at hX, t.o2.at hX, t.o3.at hX⟩
/-- read as before where the cells below are as before -/
theorem Ks.move {w X : World} {v : Value} {ks : List K3} (h : Ks w v ks) (hX : ∀ a : Addr, a.block < w.heap.size → X.cell? a = w.cell? a) : Ks X v ks := by
  obtain ⟨ao, cap, rfl, hl⟩ := h
  refine ⟨ao, cap, rfl, fun hne => ?_⟩
  obtain ⟨g, rfl, hc⟩ := hl hne
  refine ⟨g, rfl, fun j k hk => ?_⟩
  obtain ⟨s1, s2, s3, a1, a2, a3, r1, r2, r3⟩ := hc j k hk
  have mv : ∀ (s : Value) (l : List Int), L.Rd w s .i64 l → L.Rd X s .i64 l := fun s l r => by
    obtain ⟨ao, cap, rfl, hz, hcell⟩ := r
    refine ⟨ao, cap, rfl, hz, fun hne => ?_⟩
    obtain ⟨b, off, rfl, hcl⟩ := hcell hne
    exact ⟨b, off, rfl, fun j z hj => (hX _ (L.block_lt (hcl j z hj))).trans (hcl j z hj)⟩
  exact ⟨s1, s2, s3, (hX _ (L.block_lt a1)).trans a1, (hX _ (L.block_lt a2)).trans a2, (hX _ (L.block_lt a3)).trans a3, mv _ _ r1, mv _ _ r2, mv _ _ r3⟩
end Od

set_option maxHeartbeats 400000 in
theorem odRanking_any (w : World) (ao : Option Addr) (n cap : Nat) : Calls Try.prog 41 #[.slice ao n cap] w fun e w' => e = .returned (.func (.func 54) #[] #[.pointer (some ⟨w.heap.size, 0, none⟩)]) ∧ w' = w.alloc (.cells #[.slice ao n cap] 68) := by
  go_enter Try.func41, Try.ntmps41
  go_wp2
  go_ret
  exact ⟨rfl, rfl⟩
end Go.Proofs.Ytbclmmkphjknaaa

/-
  Many texts' keys: order.keysOf.
-/
namespace Go.Proofs.Ytbclmmkphjknaaa
open Go.RowKit
set_option maxRecDepth 20000
set_option linter.unusedSimpArgs false
set_option linter.unusedVariables false

namespace Od
theorem set_two {w : World} {b : Nat} (u v : Value) {a : Addr} (h : a.block ≠ b) : ((w.setCell ⟨b, 0, none⟩ u).setCell ⟨b, 1, none⟩ v).cell? a = w.cell? a := by
  have e : ((w.setCell ⟨b, 0, none⟩ u).setCell ⟨b, 1, none⟩ v).heap[a.block]? = w.heap[a.block]? := by
    rw [heap_setCell_other _ ⟨b, 1, none⟩ a.block _ h, heap_setCell_other _ ⟨b, 0, none⟩ a.block _ h]
  simp only [World.cell?, e]
theorem keysL_snoc (l : List (List Int)) (t : List Int) : keysL (l ++ [t]) = keysL l ++ [(keyF t).1] := by simp [keysL]
end Od

set_option maxHeartbeats 8000000 in
theorem odKeysOf_any (w : World) (v : Value) (l : List (List Int)) (R : Ws.Rd w v l) (hl : ∀ c ∈ l, c.length ≤ 140737488355328) (hn : l.length ≤ 100) :
    Calls Try.prog 40 #[v] w fun e w' => ∃ v', e = .returned (.tuple #[v', .agg #[.int .i64 (Od.badN 0 l).1, .int .i64 (Od.badN 0 l).2]]) ∧ ((Od.badN 0 l).1 = 0 → Od.Ks w' v' (Od.keysL l)) ∧ Below w.heap.size w w' := by
  obtain ⟨ao, cap, rfl, hz, hc⟩ := R
  obtain ⟨W0, hW0⟩ : ∃ W0, W0 = w.alloc (.cells #[.int .i64 0, .int .i64 0] 44) := ⟨_, rfl⟩
  have hb0 : Below w.heap.size w W0 := by rw [hW0]; exact (Below.refl _ w).alloc (Nat.le_refl _) _
  have hx0 : W0.heap[w.heap.size]? = some (.cells #[.int .i64 0, .int .i64 0] 44) := by rw [hW0]; exact heap_alloc_new w _
  have hs0 : W0.heap.size = w.heap.size + 1 := by rw [hW0]; simp
  have HE : Hid (∀ (j : Nat) t W, Below W0.heap.size W0 W → l[j]? = some t → ∃ b off u, ao = some ⟨b, off, none⟩ ∧ W.cell? ⟨b, off + j, none⟩ = some u ∧ L.Rd W u .i32 t ∧ t.length ≤ 140737488355328) := fun j t W hW hj => by
    obtain ⟨b, off, rfl, hcell⟩ := hc (by intro h; subst h; simp at hj)
    obtain ⟨u, h1, h2⟩ := hcell j t hj
    have hb : Below w.heap.size w W := hb0.trans (hW.mono (by omega))
    exact ⟨b, off, u, rfl, (hb.cell (p := ⟨b, off + j, none⟩) (L.block_lt h1)).trans h1, h2.below hb (Nat.le_refl _), hl t (List.mem_of_getElem? hj)⟩
  have HX : Hid (Below w.heap.size w W0 ∧ W0.heap[w.heap.size]? = some (.cells #[.int .i64 0, .int .i64 0] 44) ∧ W0.heap.size = w.heap.size + 1) := ⟨hb0, hx0, hs0⟩
  obtain ⟨q, hq⟩ : ∃ q, q = Od.badN 0 l := ⟨_, rfl⟩
  have HQ : Hid (q = Od.badN 0 l) := hq
  rw [← hq]
  obtain ⟨q1, q2⟩ := q
  clear hc hz hl hb0 hx0 hs0 hq
  go_enter Try.func40, Try.ntmps40
  go_wp2
  rw [← hW0]
  clear hW0
  go_loopw [4, 13] (fun v4 vi wr => ∃ (vk : Value) (j : Nat), v4 = vk ∧ vi = .int .i64 j ∧ j ≤ l.length ∧ Hid (∀ i u, i < j → l[i]? = some u → (Od.keyF u).2 = 0) ∧ Hid (Od.KO wr W0.heap.size vk (Od.keysL (l.take j)) ∧ Below W0.heap.size W0 wr)) (fun _ vi _ => l.length - (intOf vi).toNat)
  case atStart => exact ⟨_, 0, rfl, rfl, Nat.zero_le _, fun i u hi => by omega, Od.KO.nil _ _, Below.refl _ _⟩
  case round =>
    obtain ⟨vk, j, hvk, rfl, hj, HG, HO⟩ := hrel
    obtain rfl := hvk.symm
    clear hvk
    have hxw := K.blk_below HX.out.2.1 HO.out.2
    by_cases hlt : j < l.length
    · obtain ⟨t, ht⟩ : ∃ t, l[j]? = some t := ⟨l[j], by simp [hlt]⟩
      obtain ⟨b, off, u, rfl, cu, Ru, hut⟩ := HE.out j t wr HO.out.2 ht
      have hK := odKey_any wr u t Ru hut
      have hkl : (Od.keysL (l.take j)).length ≤ 100 := by unfold Od.keysL; rw [List.length_map, List.length_take]; omega
      have hnx : Od.keysL (l.take (j + 1)) = Od.keysL (l.take j) ++ [(Od.keyF t).1] := by rw [List.take_add_one, ht]; exact Od.keysL_snoc _ _
      have HKF : Hid ((Od.keyF t).2 = 0 ∨ Od.badN 0 l = ((Od.keyF t).2, (j : Int))) := by
        show _ ∨ _
        by_cases h : (Od.keyF t).2 = 0
        · exact .inl h
        · have := Od.bad_at l 0 j t HG.out ht h
          rw [Nat.zero_add] at this
          exact .inr this
      have HT : Hid (l[j]? = some t) := ht
      have HNx : Hid (Od.keysL (l.take (j + 1)) = Od.keysL (l.take j) ++ [(Od.keyF t).1]) := hnx
      obtain ⟨⟨k, ke⟩, hk⟩ : ∃ k, k = Od.keyF t := ⟨_, rfl⟩
      have HKe : Hid (Od.keyF t = (k, ke)) := hk.symm
      rw [← hk] at hK HKF HNx
      simp only at hK HKF HNx
      have hlk : w.heap.size < wr.heap.size := lt_of_block hxw
      clear hnx ht hk Ru hut
      go_wp2_with fail
      refine hK.mono ?_
      clear hK
      rintro e w6 ⟨a, b', c, rfl, t6, b6⟩
      obtain ⟨xa, ya, rfl, _⟩ := Al.lies t6.o1
      obtain ⟨xb, yb, rfl, _⟩ := Al.lies t6.o2
      obtain ⟨xd, yd, rfl, _⟩ := Al.lies t6.o3
      have hx6 := K.blk_below hxw b6
      obtain ⟨y0, y1, g0, g1⟩ := K.box2 hx6
      have hl6 : w.heap.size < w6.heap.size := lt_of_block hx6
      by_cases he : ke = 0
      · subst he
        obtain ⟨v7, w7, run7, ko7, be7, sz7⟩ := HO.out.1.push HO.out.2.size (by omega) b6 t6
        have HN : Hid (Od.KO w7 W0.heap.size v7 (Od.keysL (l.take (j + 1))) ∧ Below W0.heap.size W0 w7) := ⟨by rw [HNx.out]; exact ko7, HO.out.2.trans be7⟩
        have HG2 : Hid (∀ i u, i < j + 1 → l[i]? = some u → (Od.keyF u).2 = 0) := fun i u hi hu => by
          by_cases h : i < j
          · exact HG.out i u h hu
          · have : i = j := by omega
            subst this
            rw [HT.out] at hu
            cases hu
            rw [HKe.out]
        clear ko7 be7 sz7 t6 b6 HO HG HKF HNx y0 y1 g0 g1 hx6 hxw
        go_wp2_with (at_builtin; first | refine Lib.wpList_append_run _ rfl _ _ _ _ rfl _ _ rfl rfl _ _ (run7 _) ?_)
        go_roundw
        case rel => exact ⟨_, j + 1, rfl, by go_num, by omega, HG2, HN⟩
        case measure => simp [intOf]; omega
      · have hqq : (q1, q2) = (ke, (j : Int)) := by
          rcases HKF.out with h | h
          · exact absurd h he
          · rw [HQ.out, h]
        obtain ⟨rfl, rfl⟩ := Prod.mk.inj hqq
        have HB6 : Hid (Below w.heap.size w w6) := HX.out.1.trans ((HO.out.2.mono (by have := HX.out.2.2; omega)).trans (b6.mono (by omega)))
        clear HO HG HKF HNx t6 b6 hqq HQ hx6 hxw
        go_wp2
        refine bodyPost_ret (v := .tuple #[.slice none 0 0, .agg #[.int .i64 q1, .int .i64 j]]) (by simp [results, Try.results40, go_sem, *]) rfl ?_
        exact ⟨_, rfl, fun h => absurd h he, (HB6.out.setCell (p := ⟨w.heap.size, 0, none⟩) (Nat.le_refl _) _).setCell (p := ⟨w.heap.size, 1, none⟩) (Nat.le_refl _) _⟩
    · have e : j = l.length := by omega
      have hqq : (q1, q2) = (0, 0) := by
        rw [HQ.out]
        refine Od.bad_none l 0 fun u hu => ?_
        obtain ⟨i, hi, rfl⟩ := List.getElem_of_mem hu
        exact HG.out i _ (by omega) (by simp [hi])
      obtain ⟨rfl, rfl⟩ := Prod.mk.inj hqq
      have HK : Hid (Od.KO wr W0.heap.size vk (Od.keysL l)) := by
        have h := HO.out.1
        rw [e, List.take_length] at h
        exact h
      have HB6 : Hid (Below w.heap.size w wr) := HX.out.1.trans (HO.out.2.mono (by have := HX.out.2.2; omega))
      obtain ⟨y0, y1, g0, g1⟩ := K.box2 hxw
      have hl6 : w.heap.size < wr.heap.size := lt_of_block hxw
      obtain ⟨ko, kc, hvk⟩ : ∃ ko kc, vk = .slice ko (Od.keysL l).length kc := by
        obtain ⟨ps, h1, h2, h3⟩ := HK.out
        obtain ⟨ao, cap, h, _⟩ := Al.lies h2
        exact ⟨ao, cap, h⟩
      have HF : Hid (∀ X, (∀ a : Addr, a.block ≠ w.heap.size → X.cell? a = wr.cell? a) → Od.Ks X vk (Od.keysL l)) := fun X hX => HK.out.ks fun a ha => hX a (by have := HX.out.2.2; omega)
      clear HO HG HQ hqq hxw HK
      go_wp2
      refine bodyPost_ret (v := .tuple #[vk, .agg #[.int .i64 0, .int .i64 0]]) (by simp [results, Try.results40, go_sem, *]) rfl ?_
      exact ⟨_, rfl, HF.out _ fun a ha => Od.set_two _ _ ha, (HB6.out.setCell (p := ⟨w.heap.size, 0, none⟩) (Nat.le_refl _) _).setCell (p := ⟨w.heap.size, 1, none⟩) (Nat.le_refl _) _⟩

end Go.Proofs.Ytbclmmkphjknaaa
