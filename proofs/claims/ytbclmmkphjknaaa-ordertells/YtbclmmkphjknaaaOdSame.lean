/-
  Many texts in order: the document's answer.
-/
import Derived.Test.YtbclmmkphjknaaaOdChain
import Derived.Test.YtbclmmkphjknaaaKSet
import Derived.Test.YtbclmmkphjknaaaOdKeysOf
import Derived.Test.YtbclmmkphjknaaaNmRefP
import Derived.Deep.DeepCutAuto
import Derived.Test.YtbclmmkphjknaaaRows
import Derived.Test.YtbclmmkphjknaaaFrame
import Derived.Deep.QuietTactic
import Derived.BigQuiet
namespace Go.Proofs.Ytbclmmkphjknaaa
open Go.RowKit
set_option maxRecDepth 20000
set_option linter.unusedSimpArgs false
set_option linter.unusedVariables false

namespace Od
/-- where the sorting stands -/
def Rb (w wr : World) (F : Nat) (vo : Value) (acc : List Int) : Prop := wr.ownsRow F 3 1 vo acc.length (longs acc) ∧ Below F w wr ∧ F ≤ wr.heap.size
theorem step3 {w wz w3 : World} {F N : Nat} {xo : Option Addr} {xc : Nat} {ac A B : List Int} {x : Int} {v3 : Value} {c : Int → Int} (hR : Rb w wz F (.slice xo N xc) ac) (hAB : ac = A ++ B) (hB : ∀ y ∈ B, c x < c y) (hA : A = [] ∨ ∃ A0 z, A = A0 ++ [z] ∧ ¬ c x < c z)
    (own3 : w3.ownsRow wz.heap.size 3 1 v3 (A ++ x :: B).length (longs (A ++ x :: B))) (b3 : Below wz.heap.size wz w3) : Rb w w3 F v3 (insO c ac x) := by
  have e : insO c ac x = A ++ x :: B := by rw [hAB]; exact insO_at hB hA
  rw [e]
  exact ⟨L.owns_base own3 hR.2.2, hR.2.1.trans (b3.mono hR.2.2), Nat.le_trans hR.2.2 b3.size⟩
theorem own_sl {w : World} {F : Nat} {v : Value} {l : List Int} (h : w.ownsRow F 3 1 v l.length (longs l)) : ∃ ao cap, v = .slice ao l.length cap ∧ l.length ≤ cap := by
  rcases h.2 with ⟨h, h1⟩ | ⟨g, cap, cur, h, _, _, h1, h2, _⟩
  · exact ⟨none, 0, by rw [h, h1], by omega⟩
  · exact ⟨_, cap, h, h1⟩
theorem slice_upto (xo : Option Addr) (N xc j : Nat) (hj : j ≤ xc) (w' : World) : (Instr.slice 34 (.slice xo N xc) none (some (.int .i64 (j : Int))) none).run Try.prog w' = .ok (.slice xo j xc) w' := by
  have a2 : (j : Int) ≤ xc := by omega
  have a3 : (0 : Int) ≤ j := by omega
  go_simp
theorem slice_from (xo : Option Addr) (N xc i : Nat) (h : i ≤ N) (hc : N ≤ xc) (w' : World) : (Instr.slice 34 (.slice xo N xc) (some (.int .i64 (i : Int))) none none).run Try.prog w' = .ok (sB xo N xc i) w' := by
  have a1 : (i : Int) ≤ N := by omega
  have a2 : (N : Int) ≤ xc := by omega
  have a3 : (0 : Int) ≤ i := by omega
  unfold sB
  go_simp
theorem cmp_pos {ks : List K3} {x y : Int} {k1 k2 : K3} (h1 : ks[x.toNat]? = some k1) (h2 : ks[y.toNat]? = some k2) : cmpK k1 k2 ≤ 0 ↔ ¬ (ckOf ks 0).cls y < (ckOf ks 0).cls x := by
  have e := ck_cmp (kb := 0) h1 h2
  rw [← e]
  show (if (ckOf ks 0).cls x < (ckOf ks 0).cls y then (-1 : Int) else if (ckOf ks 0).cls y < (ckOf ks 0).cls x then 1 else 0) ≤ 0 ↔ _
  by_cases h : (ckOf ks 0).cls x < (ckOf ks 0).cls y
  · rw [if_pos h]; omega
  · rw [if_neg h]
    by_cases h' : (ckOf ks 0).cls y < (ckOf ks 0).cls x
    · rw [if_pos h']; omega
    · rw [if_neg h']; omega
end Od

set_option maxHeartbeats 16000000 in
theorem odRefSort_any (w : World) (v : Value) (l : List (List Int)) (R : Ws.Rd w v l) (hl : ∀ c ∈ l, c.length ≤ 140737488355328) (hn : l.length ≤ 140737488355328) :
    Calls Try.prog 22 #[v] w fun e w' => ∃ v', e = .returned (.tuple #[v', .agg #[.int .i64 (Od.wrongS l).1, .int .i64 (Od.wrongS l).2]]) ∧ L.Rd w' v' .i64 (Od.outS l) ∧ Below w.heap.size w w' := by
  obtain ⟨ao, cap, hv, _, hcl⟩ := id R
  subst hv
  obtain ⟨W0, hW0⟩ : ∃ W0, W0 = w.alloc (.cells #[.int .i64 0, .int .i64 0] 44) := ⟨_, rfl⟩
  have hb0 : Below w.heap.size w W0 := by rw [hW0]; exact (Below.refl _ w).alloc (Nat.le_refl _) _
  have hx0 : W0.heap[w.heap.size]? = some (.cells #[.int .i64 0, .int .i64 0] 44) := by rw [hW0]; exact heap_alloc_new w _
  have hs0 : W0.heap.size = w.heap.size + 1 := by rw [hW0]; simp
  by_cases hm : 100 < l.length
  · have hw : Od.wrongS l = (5, 0) := by unfold Od.wrongS; rw [if_pos hm]
    have ho : Od.outS l = [] := by unfold Od.outS; rw [if_neg (by rw [hw]; simp)]
    rw [hw, ho]
    clear hw ho R hl hb0 hx0 hcl hs0
    go_enter Try.func22, Try.ntmps22
    go_wp2
    refine bodyPost_ret (v := .tuple #[.slice none 0 0, .agg #[.int .i64 5, .int .i64 0]]) (by simp [results, Try.results22, go_sem, *]) rfl ?_
    refine ⟨_, rfl, ⟨none, 0, rfl, fun _ => rfl, fun h => absurd rfl h⟩, ?_⟩
    exact (Below.refl _ w).alloc (Nat.le_refl _) _
  · have hw : Od.wrongS l = Od.badN 0 l := by unfold Od.wrongS; rw [if_neg hm]
    obtain ⟨os, hos⟩ : ∃ os, os = Od.outS l := ⟨_, rfl⟩
    have HOu : Hid (os = if (Od.badN 0 l).1 = 0 then Od.sortF (Od.keysL l) else []) := by show _ = _; rw [hos, ← hw]; rfl
    rw [← hos, hw]
    obtain ⟨q, hq⟩ : ∃ q, q = Od.badN 0 l := ⟨_, rfl⟩
    have HQ : Hid (q = Od.badN 0 l) := hq
    rw [← hq]
    obtain ⟨q1, q2⟩ := q
    have hm' : l.length ≤ 100 := by omega
    obtain ⟨F, hF⟩ : ∃ F, F = W0.heap.size := ⟨_, rfl⟩
    have HX : Hid (F = w.heap.size + 1 ∧ Below w.heap.size w W0 ∧ W0.heap[w.heap.size]? = some (.cells #[.int .i64 0, .int .i64 0] 44) ∧ F = W0.heap.size) := ⟨by omega, hb0, hx0, hF⟩
    have HE : Hid (∀ (j : Nat) t W, Below F W0 W → l[j]? = some t → ∃ b off u, ao = some ⟨b, off, none⟩ ∧ W.cell? ⟨b, off + j, none⟩ = some u ∧ L.Rd W u .i32 t ∧ t.length ≤ 140737488355328) := fun j t W hW hj => by
      obtain ⟨b, off, rfl, hcell⟩ := hcl (by intro h; subst h; simp at hj)
      obtain ⟨u, h1, h2⟩ := hcell j t hj
      have hb : Below w.heap.size w W := hb0.trans (hW.mono (by omega))
      exact ⟨b, off, u, rfl, (hb.cell (p := ⟨b, off + j, none⟩) (L.block_lt h1)).trans h1, h2.below hb (Nat.le_refl _), hl t (List.mem_of_getElem? hj)⟩
    obtain ⟨c, hc⟩ : ∃ c, c = (Od.ckOf (Od.keysL l) 0).cls := ⟨_, rfl⟩
    have HCp : Hid (∀ (x y : Nat) (t u : List Int), l[x]? = some t → l[y]? = some u → (Od.cmpK (Od.keyF t).1 (Od.keyF u).1 ≤ 0 ↔ ¬ c (y : Int) < c (x : Int))) := fun x y t u hx hy => by
      rw [hc]
      exact Od.cmp_pos (by simp [Od.keysL, hx]) (by simp [Od.keysL, hy])
    have HSf : Hid (Od.sortF (Od.keysL l) = Od.sortC c l.length) := by show _ = _; rw [hc]; unfold Od.sortF; rw [Od.keysL_len]
    clear R hl hb0 hx0 hcl hs0 hw hos hq hm hn hc
    go_enter Try.func22, Try.ntmps22
    go_wp2
    rw [← hW0]
    clear hW0
    go_loopw [4, 17] (fun vt vi wr => ∃ (j : Nat) (xo : Option Addr) (xc : Nat) (ac : List Int), vt = .slice xo ac.length xc ∧ ac.length ≤ xc ∧ vi = .int .i64 j ∧ j ≤ l.length ∧ ac.length = j ∧ Hid (ac = Od.sortC c j) ∧ Hid (∀ i u, i < j → l[i]? = some u → (Od.keyF u).2 = 0) ∧ Hid (Od.Rb W0 wr F (.slice xo ac.length xc) ac)) (fun _ vi _ => l.length - (intOf vi).toNat)
    case atStart => exact ⟨0, none, 0, [], rfl, Nat.le_refl _, rfl, Nat.zero_le _, rfl, rfl, fun i u hi => by omega, World.ownsRow_nil _ _ _ _, Below.refl _ _, by rw [hF]; exact Nat.le_refl _⟩
    case round =>
      obtain ⟨j, xo, xc, ac, rfl, hxc, rfl, hj, hacl, HA, HG, HO⟩ := hrel
      clear hF
      by_cases hlt : j < l.length
      · obtain ⟨t, ht⟩ : ∃ t, l[j]? = some t := ⟨l[j], by simp [hlt]⟩
        obtain ⟨bl, off, u, rfl, cu, Ru, hut⟩ := HE.out j t wr HO.out.2.1 ht
        have hK := odRefRows_any wr u t Ru hut
        have HKF : Hid ((Od.keyF t).2 = 0 ∨ Od.badN 0 l = ((Od.keyF t).2, (j : Int))) := by
          show _ ∨ _
          by_cases h : (Od.keyF t).2 = 0
          · exact .inl h
          · have := Od.bad_at l 0 j t HG.out ht h
            rw [Nat.zero_add] at this
            exact .inr this
        have HT : Hid (l[j]? = some t) := ht
        obtain ⟨ke, hke⟩ : ∃ ke, ke = (Od.keyF t).2 := ⟨_, rfl⟩
        have HKe : Hid ((Od.keyF t).2 = ke) := hke.symm
        rw [← hke] at hK HKF
        obtain ⟨N, hN⟩ : ∃ N, N = ac.length := ⟨_, rfl⟩
        have HNe : Hid (N = ac.length ∧ N = j) := ⟨hN, by rw [hN]; exact hacl⟩
        have hN1 : N ≤ 100 := by omega
        rw [← hN] at hxc HO ⊢
        clear ht hke Ru hut hacl hN
        go_wp2_with fail
        refine hK.mono ?_
        clear hK
        rintro e w6 ⟨a, b', d', rfl, t6, b6⟩
        obtain ⟨pa1, na1, da1, hv⟩ := t6.o1.sl
        subst hv
        obtain ⟨pb1, nb1, db1, hv⟩ := t6.o2.sl
        subst hv
        obtain ⟨pc1, nc1, dc1, hv⟩ := t6.o3.sl
        subst hv
        by_cases he : ke = 0
        · subst he
          obtain ⟨X, hX⟩ : ∃ X, X = w6.alloc (.cells #[.slice pa1 na1 da1, .slice pb1 nb1 db1, .slice pc1 nc1 dc1] 37) := ⟨_, rfl⟩
          have bX : Below wr.heap.size wr X := by rw [hX]; exact b6.alloc b6.size _
          have HOX : Hid (Od.Rb W0 X F (.slice xo N xc) ac) := ⟨L.owns_below HO.out.1 bX (Nat.le_refl _), HO.out.2.1.trans (bX.mono HO.out.2.2), Nat.le_trans HO.out.2.2 bX.size⟩
          have HXe : Hid (X = w6.alloc (.cells #[.slice pa1 na1 da1, .slice pb1 nb1 db1, .slice pc1 nc1 dc1] 37)) := hX
          have HG2 : Hid (∀ i u, i < j + 1 → l[i]? = some u → (Od.keyF u).2 = 0) := fun i u hi hu => by
            by_cases h : i < j
            · exact HG.out i u h hu
            · have : i = j := by omega
              subst this
              rw [HT.out] at hu
              cases hu
              exact HKe.out
          clear t6 b6 bX hX HO HG HKF cu
          go_wp2
          rw [← HXe.out]
          clear HXe
          go_loopw [8] (fun vk wy => ∃ (k : Nat) (A B : List Int), vk = .int .i64 k ∧ k ≤ N ∧ Hid (ac = A ++ B ∧ A.length = k) ∧ Hid (∀ y ∈ B, c (j : Int) < c y) ∧ Hid (Od.Rb W0 wy F (.slice xo N xc) ac)) (fun vk _ => (intOf vk).toNat)
          case atStart => exact ⟨N, ac, [], rfl, Nat.le_refl _, ⟨by simp, HNe.out.1.symm⟩, fun y hy => by (cases hy), HOX⟩
          case round =>
            obtain ⟨k, A, B, rfl, hk, HAB, HBy, HO⟩ := hrel
            clear HOX
            by_cases hk0 : 0 < k
            · obtain ⟨A0, y, hA⟩ : ∃ A0 y, A = A0 ++ [y] := by
                rcases List.eq_nil_or_concat A with e | ⟨A0, y, e⟩
                · have := HAB.out.2; rw [e] at this; simp at this; omega
                · exact ⟨A0, y, by simpa using e⟩
              have hA0 : A0.length + 1 = k := by have := HAB.out.2; rw [hA] at this; simp at this; exact this
              have hym : 0 ≤ y ∧ y < j := by
                have h1 : y ∈ ac := by rw [HAB.out.1, hA]; simp
                rw [HA.out] at h1
                exact Od.sortC_mem2 h1
              obtain ⟨yn, rfl⟩ : ∃ yn : Nat, y = yn := ⟨y.toNat, by omega⟩
              have hyn : yn < l.length := by omega
              obtain ⟨ty, hty⟩ : ∃ ty, l[yn]? = some ty := ⟨l[yn], by simp [hyn]⟩
              obtain ⟨_, _, e', lc⟩ := Al.lies HO.out.1
              obtain ⟨rfl, -, rfl⟩ := Value.slice.inj e'
              obtain ⟨g1, rfl, hg1, d1⟩ := lc (by have := HNe.out.1; omega)
              obtain ⟨k1, hk1⟩ : ∃ k1, k = k1 + 1 := ⟨k - 1, by omega⟩
              have HK1 : Hid (k = k1 + 1) := hk1
              have HCy : Hid (wr.drew.cell? ⟨g1, k1, none⟩ = some (.int .i64 (yn : Int))) := d1 k1 _ (by
                rw [List.getElem?_map, HAB.out.1, hA, show k1 = A0.length by omega]
                simp)
              obtain ⟨_, _, uy, eq1, cy2, Ry, hly⟩ := HE.out yn ty wr.drew (Nm.below_drew HO.out.2.1) hty
              cases eq1
              obtain ⟨_, _, uj, eq2, cj2, Rj, hlj⟩ := HE.out j t wr.drew (Nm.below_drew HO.out.2.1) HT.out
              cases eq2
              have hCC := odRefCmp_any wr.drew uy uj ty t Ry Rj hly hlj
              have hcf : Od.cmpF ty t = (Od.cmpK (Od.keyF ty).1 (Od.keyF t).1, 0) := by
                unfold Od.cmpF
                rw [HG2.out yn ty (by omega) hty, HKe.out]
                simp
              rw [hcf] at hCC
              simp only at hCC
              have hiff := HCp.out yn j ty t hty HT.out
              have HCw : Hid (∀ W, Below wr.drew.heap.size wr.drew W → W.cell? ⟨g1, k1, none⟩ = some (.int .i64 (yn : Int)) ∧ W.cell? ⟨bl, off + yn, none⟩ = some uy ∧ W.cell? ⟨bl, off + j, none⟩ = some uj) := fun W hW => ⟨(hW.cell (p := ⟨g1, k1, none⟩) hg1).trans HCy.out, (hW.cell (p := ⟨bl, off + yn, none⟩) (L.block_lt cy2)).trans cy2, (hW.cell (p := ⟨bl, off + j, none⟩) (L.block_lt cj2)).trans cj2⟩
              have q0 : Hid (wr.drew.cell? ⟨g1, k1, none⟩ = some (.int .i64 (yn : Int)) ∧ wr.drew.cell? ⟨bl, off + yn, none⟩ = some uy ∧ wr.drew.cell? ⟨bl, off + j, none⟩ = some uj) := ⟨HCy.out, cy2, cj2⟩
              obtain ⟨puy, nuy, duy, hvy⟩ : ∃ p n d, uy = .slice p n d := by obtain ⟨p, d, e, _⟩ := Ry; exact ⟨p, _, d, e⟩
              obtain ⟨puj, nuj, duj, hvj⟩ : ∃ p n d, uj = .slice p n d := by obtain ⟨p, d, e, _⟩ := Rj; exact ⟨p, _, d, e⟩
              subst hvy hvj
              generalize Od.cmpK (Od.keyF ty).1 (Od.keyF t).1 = dd at hCC hiff
              have hCC2 : Hid (Calls Try.prog 20 #[.slice puy nuy duy, .slice puj nuj duj] wr.drew fun e w' => e = .returned (.tuple #[.int .i64 dd, .int .i64 0]) ∧ Below wr.drew.heap.size wr.drew w') := hCC
              have HIf : Hid (dd ≤ 0 ↔ ¬ c (j : Int) < c (yn : Int)) := ⟨fun h => by have := hiff.1 h; omega, fun h => hiff.2 (by omega)⟩
              have HAd : Hid (A = A0 ++ [(yn : Int)] ∧ A0.length + 1 = k) := ⟨hA, hA0⟩
              clear hA hA0 hym hty e' lc d1 HCy hk1 cy2 Ry hly cj2 Rj hlj hCC hcf hiff hg1
              have hw2 : wr.heap.size ≤ wr.drew.heap.size := Nat.le_refl _
              have z3 : IntKind.i64.wrap ((k : Int) - 1) = (k1 : Int) := by rw [IntKind.wrap_i64]; have := HK1.out; omega
              have z4 : (k1 : Int) < (N : Int) := by have := HK1.out; omega
              have z2 : k1 < N := by have := HK1.out; omega
              have z5 : (yn : Int) < (l.length : Int) := by omega
              have z6 : (j : Int) < (l.length : Int) := by omega
              go_wp2
              go_region_held3 (fun w' => w'.cell? ⟨g1, k1, none⟩ = some (.int .i64 (yn : Int)) ∧ w'.cell? ⟨bl, off + yn, none⟩ = some (.slice puy nuy duy) ∧ w'.cell? ⟨bl, off + j, none⟩ = some (.slice puj nuj duj)) (first | with_reducible exact q0.out | with_reducible exact q1 | fail)
                (first
                  | (go_at_call 20; with_reducible refine hCC2.out.mono ?_; rintro e wd1 ⟨rfl, bd1⟩; have q1 := HCw.out wd1 bd1)
                  | fail)
              have HOn : Hid (Od.Rb W0 wd1 F (.slice (some ⟨g1, 0, none⟩) N xc) ac) := ⟨L.owns_below (World.ownsRow.drew HO.out.1) bd1 (Nat.le_refl _), (Nm.below_drew HO.out.2.1).trans (bd1.mono HO.out.2.2), Nat.le_trans HO.out.2.2 bd1.size⟩
              clear q0 q1 hCC2 HCw bd1 HO
              by_cases hd : dd ≤ 0
              · have HAe : Hid (A = [] ∨ ∃ A0 z, A = A0 ++ [z] ∧ ¬ c (j : Int) < c z) := .inr ⟨A0, (yn : Int), HAd.out.1, by have := HIf.out.1 hd; omega⟩
                clear HIf HAd
                have HO := HOn
                clear HOn
                have hO0 : wd1.ownsRow F 3 1 (.slice (some ⟨g1, 0, none⟩) N xc) N (Od.longs (A ++ B)) := by
                  have h := HO.out.1
                  rw [← HNe.out.1, HAB.out.1] at h
                  exact h
                have hkA : A.length = k := HAB.out.2
                have hFw : F ≤ wd1.heap.size := HO.out.2.2
                have hlo : ∀ b, (Value.slice (some ⟨g1, 0, none⟩) N xc).ownBlock = some b → b < wd1.heap.size := fun b hb => (hO0.lt b hb).2
                obtain ⟨v11, w11, v12, w12, v13, w13, r11, r12, r13, o13, b13⟩ := Od.chain (W := ((wd1.alloc (.cells #[] 3)).alloc (.cells #[.int .i64 (j : Int)] 3)).drew) (F := wd1.heap.size) (G := F) (eb := wd1.heap.size) (xb := wd1.heap.size + 1) (x := (j : Int)) ((hO0.alloc _).alloc _) ((World.ownsRow_made wd1 #[] 0 (Nat.le_refl _) (Nat.zero_le _) (by simp)).alloc _) (by have h := K.at_box (i := 0) (heap_alloc_new (wd1.alloc (.cells #[] 3)) (.cells #[.int .i64 (j : Int)] 3)) rfl; rw [show (wd1.alloc (.cells #[] 3)).heap.size = wd1.heap.size + 1 by simp] at h; exact h) (by omega) (fun b hb => by have := hlo b hb; exact ⟨by show b < ((wd1.alloc _).alloc _).heap.size; simp; omega, by omega⟩) (by show wd1.heap.size ≤ ((wd1.alloc _).alloc _).heap.size; simp; omega) (by omega)
                obtain ⟨v21, w21, v22, w22, v23, w23, r21, r22, r23, o23, b23⟩ := Od.chain (W := ((wd1.alloc (.cells #[.int .i64 (j : Int)] 3)).alloc (.cells #[] 3)).drew) (F := wd1.heap.size) (G := F) (eb := wd1.heap.size + 1) (xb := wd1.heap.size) (x := (j : Int)) ((hO0.alloc _).alloc _) (by have h := World.ownsRow_made (base := wd1.heap.size) (e := 3) (size := 1) (wd1.alloc (.cells #[.int .i64 (j : Int)] 3)) #[] 0 (by simp) (Nat.zero_le _) (by simp); rw [show (wd1.alloc (.cells #[.int .i64 (j : Int)] 3)).heap.size = wd1.heap.size + 1 by simp] at h; exact h) (K.alloc_cell (K.at_box (i := 0) (heap_alloc_new wd1 (.cells #[.int .i64 (j : Int)] 3)) rfl) _) (by omega) (fun b hb => by have := hlo b hb; exact ⟨by show b < ((wd1.alloc _).alloc _).heap.size; simp; omega, by omega⟩) (by show wd1.heap.size ≤ ((wd1.alloc _).alloc _).heap.size; simp; omega) (by omega)
                obtain ⟨v31, w31, v32, w32, v33, w33, r31, r32, r33, o33, b33⟩ := Od.chain3 (W := (wd1.alloc (.cells #[] 3)).drew) (F := wd1.heap.size) (G := F) (eb := wd1.heap.size) (x := (j : Int)) (hO0.alloc _) (World.ownsRow_made wd1 #[] 0 (Nat.le_refl _) (Nat.zero_le _) (by simp)) (fun b hb => by have := hlo b hb; exact ⟨by show b < (wd1.alloc _).heap.size; simp; omega, by omega⟩) (by show wd1.heap.size ≤ (wd1.alloc _).heap.size; simp) (by omega)
                have a1 : Below wd1.heap.size wd1 (wd1.alloc (.cells #[] 3)) := (Below.refl _ wd1).alloc (Nat.le_refl _) _
                have a2 : Below wd1.heap.size wd1 (wd1.alloc (.cells #[.int .i64 (j : Int)] 3)) := (Below.refl _ wd1).alloc (Nat.le_refl _) _
                have HE1 : Hid (Od.Rb W0 w13 F v13 (Od.insO c ac (j : Int))) := Od.step3 HO.out HAB.out.1 HBy.out HAe.out o13 ((Nm.below_drew (a1.alloc a1.size _)).trans b13)
                have HE2 : Hid (Od.Rb W0 w23 F v23 (Od.insO c ac (j : Int))) := Od.step3 HO.out HAB.out.1 HBy.out HAe.out o23 ((Nm.below_drew (a2.alloc a2.size _)).trans b23)
                have HE3 : Hid (Od.Rb W0 w33 F v33 (Od.insO c ac (j : Int))) := Od.step3 HO.out HAB.out.1 HBy.out HAe.out o33 ((Nm.below_drew a1).trans b33)
                have hNx : (Od.insO c ac (j : Int)).length = N + 1 := by rw [Od.insO_len, HNe.out.1]
                obtain ⟨p1, c1, rfl, hc1⟩ := Od.own_sl HE1.out.1
                obtain ⟨p2, c2, rfl, hc2⟩ := Od.own_sl HE2.out.1
                obtain ⟨p3, c3, rfl, hc3⟩ := Od.own_sl HE3.out.1
                have HNx : Hid ((Od.insO c ac (j : Int)).length = N + 1) := hNx
                rw [hkA] at r11 r13 r21 r23 r31 r33
                have hs1 := Od.slice_upto (some ⟨g1, 0, none⟩) N xc k (by omega)
                have hs2 : ∀ w', (Instr.slice 34 (.slice (some ⟨g1, 0, none⟩) N xc) (some (.int .i64 (k : Int))) none none).run Try.prog w' = .ok (Od.sB (some ⟨g1, 0, none⟩) N xc k) w' := Od.slice_from (some ⟨g1, 0, none⟩) N xc k (by omega) (by omega)
                generalize Od.sB (some ⟨g1, 0, none⟩) N xc k = vB at hs2 r13 r23 r33
                have R11 : Hid (∀ ty, (Builtin.append_ #[34, 34] ty #[.slice (some ⟨wd1.heap.size, 0, none⟩) 0 0, .slice (some ⟨g1, 0, none⟩) k xc]).run Try.prog ((wd1.alloc (.cells #[] 3)).alloc (.cells #[.int .i64 (j : Int)] 3)).drew = .ok v11 w11) := r11
                have R21 : Hid (∀ ty, (Builtin.append_ #[34, 34] ty #[.slice (some ⟨wd1.heap.size + 1, 0, none⟩) 0 0, .slice (some ⟨g1, 0, none⟩) k xc]).run Try.prog ((wd1.alloc (.cells #[.int .i64 (j : Int)] 3)).alloc (.cells #[] 3)).drew = .ok v21 w21) := r21
                have R31 : Hid (∀ ty, (Builtin.append_ #[34, 34] ty #[.slice (some ⟨wd1.heap.size, 0, none⟩) 0 0, .slice (some ⟨g1, 0, none⟩) k xc]).run Try.prog (wd1.alloc (.cells #[] 3)).drew = .ok v31 w31) := r31
                clear r11 r21 r31 o13 o23 o33 b13 b23 b33 a1 a2 hlo hFw hO0 HAe HBy HAB HO hNx hkA
                go_upto_region 15 with fail
                go_region_held3 (fun w' => True) (first | trivial | go_keep)
                  (first
                    | (with_reducible refine K.step_run ?_ (.tmp 57) (.tmp 60) ?_ _ _ v31 w31 ?_ ?_ R31.out ?_; (· with_unfolding_all exact rfl); (· with_unfolding_all exact rfl); (· with_unfolding_all exact rfl); (· with_unfolding_all exact rfl))
                    | (with_reducible refine K.step_run ?_ (.tmp 57) (.tmp 60) ?_ _ _ v11 w11 ?_ ?_ R11.out ?_; (· with_unfolding_all exact rfl); (· with_unfolding_all exact rfl); (· with_unfolding_all exact rfl); (· with_unfolding_all exact rfl))
                    | (with_reducible refine K.step_run ?_ (.tmp 57) (.tmp 60) ?_ _ _ v21 w21 ?_ ?_ R21.out ?_; (· with_unfolding_all exact rfl); (· with_unfolding_all exact rfl); (· with_unfolding_all exact rfl); (· with_unfolding_all exact rfl))
                    | (with_reducible refine K.step_run ?_ (.tmp 61) (.tmp 63) ?_ _ _ v12 w12 ?_ ?_ r12 ?_; (· with_unfolding_all exact rfl); (· with_unfolding_all exact rfl); (· with_unfolding_all exact rfl); (· with_unfolding_all exact rfl))
                    | (with_reducible refine K.step_run ?_ (.tmp 61) (.tmp 63) ?_ _ _ v22 w22 ?_ ?_ r22 ?_; (· with_unfolding_all exact rfl); (· with_unfolding_all exact rfl); (· with_unfolding_all exact rfl); (· with_unfolding_all exact rfl))
                    | (with_reducible refine K.step_run ?_ (.tmp 61) (.tmp 63) ?_ _ _ v32 w32 ?_ ?_ r32 ?_; (· with_unfolding_all exact rfl); (· with_unfolding_all exact rfl); (· with_unfolding_all exact rfl); (· with_unfolding_all exact rfl))
                    | (with_reducible refine K.step_run ?_ (.tmp 64) (.tmp 67) ?_ _ _ _ w13 ?_ ?_ r13 ?_; (· with_unfolding_all exact rfl); (· with_unfolding_all exact rfl); (· with_unfolding_all exact rfl); (· with_unfolding_all exact rfl); have HEe := HE1; have hce := hc1)
                    | (with_reducible refine K.step_run ?_ (.tmp 64) (.tmp 67) ?_ _ _ _ w23 ?_ ?_ r23 ?_; (· with_unfolding_all exact rfl); (· with_unfolding_all exact rfl); (· with_unfolding_all exact rfl); (· with_unfolding_all exact rfl); have HEe := HE2; have hce := hc2)
                    | (with_reducible refine K.step_run ?_ (.tmp 64) (.tmp 67) ?_ _ _ _ w33 ?_ ?_ r33 ?_; (· with_unfolding_all exact rfl); (· with_unfolding_all exact rfl); (· with_unfolding_all exact rfl); (· with_unfolding_all exact rfl); have HEe := HE3; have hce := hc3)
                    | fail)
                all_goals
                  clear r12 r13 r22 r23 r32 r33 R11 R21 R31 hs1 hs2
                  go_wp2
                  go_roundw
                  case rel => exact ⟨j + 1, _, _, Od.insO c ac (j : Int), rfl, hce, by go_num, by omega, by rw [HNx.out]; have := HNe.out; omega, by show _ = _; rw [Od.sortC_succ, ← HA.out], HG2, HEe⟩
                  case measure => simp [intOf]; omega
              · have hgt : c (j : Int) < c (yn : Int) := by
                  by_cases h : c (j : Int) < c (yn : Int)
                  · exact h
                  · exact absurd (HIf.out.2 (by omega)) hd
                have HAB2 : Hid (ac = A0 ++ (yn : Int) :: B ∧ A0.length = k1) := ⟨by rw [HAB.out.1, HAd.out.1]; simp, by have := HAd.out.2; have := HK1.out; omega⟩
                have HBy2 : Hid (∀ z ∈ (yn : Int) :: B, c (j : Int) < c z) := fun z hz => by
                  rcases List.mem_cons.1 hz with rfl | hz
                  · exact hgt
                  · exact HBy.out z hz
                clear HAB HBy HIf HAd hgt
                go_wp2
                go_roundw
                case rel => exact ⟨k1, A0, (yn : Int) :: B, by have := HK1.out; first | rfl | (congr 1; omega), by omega, HAB2, HBy2, HOn⟩
                case measure => have := HK1.out; simp [intOf]; omega
            · have hk00 : k = 0 := by omega
              have HAe : Hid (A = [] ∨ ∃ A0 z, A = A0 ++ [z] ∧ ¬ c (j : Int) < c z) := .inl (List.eq_nil_of_length_eq_zero (by rw [HAB.out.2]; exact hk00))
              clear hk00
              have hO0 : wr.ownsRow F 3 1 (.slice xo N xc) N (Od.longs (A ++ B)) := by
                have h := HO.out.1
                rw [← HNe.out.1, HAB.out.1] at h
                exact h
              have hkA : A.length = k := HAB.out.2
              have hFw : F ≤ wr.heap.size := HO.out.2.2
              have hlo : ∀ b, (Value.slice xo N xc).ownBlock = some b → b < wr.heap.size := fun b hb => (hO0.lt b hb).2
              obtain ⟨v11, w11, v12, w12, v13, w13, r11, r12, r13, o13, b13⟩ := Od.chain (W := ((wr.alloc (.cells #[] 3)).alloc (.cells #[.int .i64 (j : Int)] 3)).drew) (F := wr.heap.size) (G := F) (eb := wr.heap.size) (xb := wr.heap.size + 1) (x := (j : Int)) ((hO0.alloc _).alloc _) ((World.ownsRow_made wr #[] 0 (Nat.le_refl _) (Nat.zero_le _) (by simp)).alloc _) (by have h := K.at_box (i := 0) (heap_alloc_new (wr.alloc (.cells #[] 3)) (.cells #[.int .i64 (j : Int)] 3)) rfl; rw [show (wr.alloc (.cells #[] 3)).heap.size = wr.heap.size + 1 by simp] at h; exact h) (by omega) (fun b hb => by have := hlo b hb; exact ⟨by show b < ((wr.alloc _).alloc _).heap.size; simp; omega, by omega⟩) (by show wr.heap.size ≤ ((wr.alloc _).alloc _).heap.size; simp; omega) (by omega)
              obtain ⟨v21, w21, v22, w22, v23, w23, r21, r22, r23, o23, b23⟩ := Od.chain (W := ((wr.alloc (.cells #[.int .i64 (j : Int)] 3)).alloc (.cells #[] 3)).drew) (F := wr.heap.size) (G := F) (eb := wr.heap.size + 1) (xb := wr.heap.size) (x := (j : Int)) ((hO0.alloc _).alloc _) (by have h := World.ownsRow_made (base := wr.heap.size) (e := 3) (size := 1) (wr.alloc (.cells #[.int .i64 (j : Int)] 3)) #[] 0 (by simp) (Nat.zero_le _) (by simp); rw [show (wr.alloc (.cells #[.int .i64 (j : Int)] 3)).heap.size = wr.heap.size + 1 by simp] at h; exact h) (K.alloc_cell (K.at_box (i := 0) (heap_alloc_new wr (.cells #[.int .i64 (j : Int)] 3)) rfl) _) (by omega) (fun b hb => by have := hlo b hb; exact ⟨by show b < ((wr.alloc _).alloc _).heap.size; simp; omega, by omega⟩) (by show wr.heap.size ≤ ((wr.alloc _).alloc _).heap.size; simp; omega) (by omega)
              obtain ⟨v31, w31, v32, w32, v33, w33, r31, r32, r33, o33, b33⟩ := Od.chain3 (W := (wr.alloc (.cells #[] 3)).drew) (F := wr.heap.size) (G := F) (eb := wr.heap.size) (x := (j : Int)) (hO0.alloc _) (World.ownsRow_made wr #[] 0 (Nat.le_refl _) (Nat.zero_le _) (by simp)) (fun b hb => by have := hlo b hb; exact ⟨by show b < (wr.alloc _).heap.size; simp; omega, by omega⟩) (by show wr.heap.size ≤ (wr.alloc _).heap.size; simp) (by omega)
              have a1 : Below wr.heap.size wr (wr.alloc (.cells #[] 3)) := (Below.refl _ wr).alloc (Nat.le_refl _) _
              have a2 : Below wr.heap.size wr (wr.alloc (.cells #[.int .i64 (j : Int)] 3)) := (Below.refl _ wr).alloc (Nat.le_refl _) _
              have HE1 : Hid (Od.Rb W0 w13 F v13 (Od.insO c ac (j : Int))) := Od.step3 HO.out HAB.out.1 HBy.out HAe.out o13 ((Nm.below_drew (a1.alloc a1.size _)).trans b13)
              have HE2 : Hid (Od.Rb W0 w23 F v23 (Od.insO c ac (j : Int))) := Od.step3 HO.out HAB.out.1 HBy.out HAe.out o23 ((Nm.below_drew (a2.alloc a2.size _)).trans b23)
              have HE3 : Hid (Od.Rb W0 w33 F v33 (Od.insO c ac (j : Int))) := Od.step3 HO.out HAB.out.1 HBy.out HAe.out o33 ((Nm.below_drew a1).trans b33)
              have hNx : (Od.insO c ac (j : Int)).length = N + 1 := by rw [Od.insO_len, HNe.out.1]
              obtain ⟨p1, c1, rfl, hc1⟩ := Od.own_sl HE1.out.1
              obtain ⟨p2, c2, rfl, hc2⟩ := Od.own_sl HE2.out.1
              obtain ⟨p3, c3, rfl, hc3⟩ := Od.own_sl HE3.out.1
              have HNx : Hid ((Od.insO c ac (j : Int)).length = N + 1) := hNx
              rw [hkA] at r11 r13 r21 r23 r31 r33
              have hs1 := Od.slice_upto xo N xc k (by omega)
              have hs2 : ∀ w', (Instr.slice 34 (.slice xo N xc) (some (.int .i64 (k : Int))) none none).run Try.prog w' = .ok (Od.sB xo N xc k) w' := Od.slice_from xo N xc k (by omega) (by omega)
              generalize Od.sB xo N xc k = vB at hs2 r13 r23 r33
              have R11 : Hid (∀ ty, (Builtin.append_ #[34, 34] ty #[.slice (some ⟨wr.heap.size, 0, none⟩) 0 0, .slice xo k xc]).run Try.prog ((wr.alloc (.cells #[] 3)).alloc (.cells #[.int .i64 (j : Int)] 3)).drew = .ok v11 w11) := r11
              have R21 : Hid (∀ ty, (Builtin.append_ #[34, 34] ty #[.slice (some ⟨wr.heap.size + 1, 0, none⟩) 0 0, .slice xo k xc]).run Try.prog ((wr.alloc (.cells #[.int .i64 (j : Int)] 3)).alloc (.cells #[] 3)).drew = .ok v21 w21) := r21
              have R31 : Hid (∀ ty, (Builtin.append_ #[34, 34] ty #[.slice (some ⟨wr.heap.size, 0, none⟩) 0 0, .slice xo k xc]).run Try.prog (wr.alloc (.cells #[] 3)).drew = .ok v31 w31) := r31
              clear r11 r21 r31 o13 o23 o33 b13 b23 b33 a1 a2 hlo hFw hO0 HAe HBy HAB HO hNx hkA
              go_upto_region 15 with fail
              go_region_held3 (fun w' => True) (first | trivial | go_keep)
                (first
                  | (with_reducible refine K.step_run ?_ (.tmp 57) (.tmp 60) ?_ _ _ v31 w31 ?_ ?_ R31.out ?_; (· with_unfolding_all exact rfl); (· with_unfolding_all exact rfl); (· with_unfolding_all exact rfl); (· with_unfolding_all exact rfl))
                  | (with_reducible refine K.step_run ?_ (.tmp 57) (.tmp 60) ?_ _ _ v11 w11 ?_ ?_ R11.out ?_; (· with_unfolding_all exact rfl); (· with_unfolding_all exact rfl); (· with_unfolding_all exact rfl); (· with_unfolding_all exact rfl))
                  | (with_reducible refine K.step_run ?_ (.tmp 57) (.tmp 60) ?_ _ _ v21 w21 ?_ ?_ R21.out ?_; (· with_unfolding_all exact rfl); (· with_unfolding_all exact rfl); (· with_unfolding_all exact rfl); (· with_unfolding_all exact rfl))
                  | (with_reducible refine K.step_run ?_ (.tmp 61) (.tmp 63) ?_ _ _ v12 w12 ?_ ?_ r12 ?_; (· with_unfolding_all exact rfl); (· with_unfolding_all exact rfl); (· with_unfolding_all exact rfl); (· with_unfolding_all exact rfl))
                  | (with_reducible refine K.step_run ?_ (.tmp 61) (.tmp 63) ?_ _ _ v22 w22 ?_ ?_ r22 ?_; (· with_unfolding_all exact rfl); (· with_unfolding_all exact rfl); (· with_unfolding_all exact rfl); (· with_unfolding_all exact rfl))
                  | (with_reducible refine K.step_run ?_ (.tmp 61) (.tmp 63) ?_ _ _ v32 w32 ?_ ?_ r32 ?_; (· with_unfolding_all exact rfl); (· with_unfolding_all exact rfl); (· with_unfolding_all exact rfl); (· with_unfolding_all exact rfl))
                  | (with_reducible refine K.step_run ?_ (.tmp 64) (.tmp 67) ?_ _ _ _ w13 ?_ ?_ r13 ?_; (· with_unfolding_all exact rfl); (· with_unfolding_all exact rfl); (· with_unfolding_all exact rfl); (· with_unfolding_all exact rfl); have HEe := HE1; have hce := hc1)
                  | (with_reducible refine K.step_run ?_ (.tmp 64) (.tmp 67) ?_ _ _ _ w23 ?_ ?_ r23 ?_; (· with_unfolding_all exact rfl); (· with_unfolding_all exact rfl); (· with_unfolding_all exact rfl); (· with_unfolding_all exact rfl); have HEe := HE2; have hce := hc2)
                  | (with_reducible refine K.step_run ?_ (.tmp 64) (.tmp 67) ?_ _ _ _ w33 ?_ ?_ r33 ?_; (· with_unfolding_all exact rfl); (· with_unfolding_all exact rfl); (· with_unfolding_all exact rfl); (· with_unfolding_all exact rfl); have HEe := HE3; have hce := hc3)
                  | fail)
              all_goals
                clear r12 r13 r22 r23 r32 r33 R11 R21 R31 hs1 hs2
                go_wp2
                go_roundw
                case rel => exact ⟨j + 1, _, _, Od.insO c ac (j : Int), rfl, hce, by go_num, by omega, by rw [HNx.out]; have := HNe.out; omega, by show _ = _; rw [Od.sortC_succ, ← HA.out], HG2, HEe⟩
                case measure => simp [intOf]; omega
        · have hqq : (q1, q2) = (ke, (j : Int)) := by
            rcases HKF.out with h | h
            · exact absurd h he
            · rw [HQ.out, h]
          obtain ⟨rfl, rfl⟩ := Prod.mk.inj hqq
          have hos : os = [] := by rw [HOu.out, ← HQ.out, if_neg he]
          subst hos
          have HB6 : Hid (Below w.heap.size w w6) := HX.out.2.1.trans ((HO.out.2.1.mono (by have := HX.out.1; omega)).trans (b6.mono (by have := HO.out.2.2; have := HX.out.1; omega)))
          have hx6 : w6.heap[w.heap.size]? = some (.cells #[.int .i64 0, .int .i64 0] 44) := K.blk_below ((HO.out.2.1.block _ (by have := HX.out.1; omega)).trans HX.out.2.2.1) b6
          obtain ⟨y0, y1, g0, g1⟩ := K.box2 hx6
          have hl6 : w.heap.size < w6.heap.size := lt_of_block hx6
          have k0 : ∀ o, (w6.alloc o).cell? ⟨w.heap.size, 0, none⟩ = some (.int .i64 0) := fun o => K.alloc_cell y0 o
          have k1 : ∀ o, (w6.alloc o).cell? ⟨w.heap.size, 1, none⟩ = some (.int .i64 0) := fun o => K.alloc_cell y1 o
          have f0 : ∀ o, (w6.alloc o).frozen? ⟨w.heap.size, 0, none⟩ = false := fun o => K.alloc_free hx6 o 0
          have f1 : ∀ o, (w6.alloc o).frozen? ⟨w.heap.size, 1, none⟩ = false := fun o => K.alloc_free hx6 o 1
          clear HO HG HKF t6 b6 hqq HQ hx6 HA HOu HCp HSf HE HT HKe HNe hxc
          go_wp2
          refine bodyPost_ret (v := .tuple #[.slice none 0 0, .agg #[.int .i64 q1, .int .i64 j]]) (by simp [results, Try.results22, go_sem, *]) rfl ?_
          exact ⟨_, rfl, ⟨none, 0, rfl, fun _ => rfl, fun h => absurd rfl h⟩, ((HB6.out.setCell (p := ⟨w.heap.size, 0, none⟩) (Nat.le_refl _) _).setCell (p := ⟨w.heap.size, 1, none⟩) (Nat.le_refl _) _).alloc (by simp; omega) _⟩
      · have e : j = l.length := by omega
        have hqq : (q1, q2) = (0, 0) := by
          rw [HQ.out]
          refine Od.bad_none l 0 fun u hu => ?_
          obtain ⟨i, hi, rfl⟩ := List.getElem_of_mem hu
          exact HG.out i _ (by omega) (by simp [hi])
        obtain ⟨rfl, rfl⟩ := Prod.mk.inj hqq
        have hos : os = ac := by rw [HOu.out, ← HQ.out, if_pos rfl, HSf.out, HA.out, e]
        subst hos
        have hFF := HX.out.1
        have hx6 : wr.heap[w.heap.size]? = some (.cells #[.int .i64 0, .int .i64 0] 44) := (HO.out.2.1.block _ (by omega)).trans HX.out.2.2.1
        obtain ⟨y0, y1, g0, g1⟩ := K.box2 hx6
        have hl6 : w.heap.size < wr.heap.size := lt_of_block hx6
        have HF : Hid (L.Rd wr (.slice xo os.length xc) .i64 os ∧ Below w.heap.size w wr ∧ ∀ b, (Value.slice xo os.length xc).ownBlock = some b → b ≠ w.heap.size) := ⟨L.Rd.of_owns HO.out.1, HX.out.2.1.trans (HO.out.2.1.mono (by omega)), fun b hb => by have := (HO.out.1.lt b hb).1; omega⟩
        clear HO HG HQ hqq HA HOu HCp HSf HE hx6 hxc hacl hFF
        go_wp2
        refine bodyPost_ret (v := .tuple #[.slice xo os.length xc, .agg #[.int .i64 0, .int .i64 0]]) (by simp [results, Try.results22, go_sem, *]) rfl ?_
        refine ⟨_, rfl, ?_, (HF.out.2.1.setCell (p := ⟨w.heap.size, 0, none⟩) (Nat.le_refl _) _).setCell (p := ⟨w.heap.size, 1, none⟩) (Nat.le_refl _) _⟩
        exact Od.rd_cells (fun b => b ≠ w.heap.size) HF.out.1 (fun a ha => Od.set_two _ _ ha) fun b off c n e _ => HF.out.2.2 b (by cases e; rfl)

end Go.Proofs.Ytbclmmkphjknaaa

/-
  What scriptref9.Same answers of two slices of numbers: whether they read as the same list.
-/
namespace Go.Proofs.Ytbclmmkphjknaaa
open Go.RowKit

theorem Od.take_eq_snoc {a b : List Int} {k : Nat} {x y : Int} (h : a.take k = b.take k) (hx : a[k]? = some x) (hy : b[k]? = some y) (e : x = y) : a.take (k + 1) = b.take (k + 1) := by
  rw [List.take_add_one, List.take_add_one, h, hx, hy, e]

set_option maxHeartbeats 400000 in
theorem odSame_any (w : World) (va vb : Value) (za zb : List Int) (ha : L.Rd w va .i64 za) (hb : L.Rd w vb .i64 zb) (hla : za.length ≤ 4611686018427387903) (hlb : zb.length ≤ 4611686018427387903) :
    Calls Try.prog 18 #[va, vb] w fun e w' => e = .returned (.bool (decide (za = zb))) ∧ Below w.heap.size w w' := by
  obtain ⟨ao, ca, rfl, _, ha⟩ := ha
  obtain ⟨bo, cb, rfl, _, hb⟩ := hb
  by_cases hl : za.length = zb.length
  · go_enter Try.func18, Try.ntmps18
    go_wp2
    go_loopw [13] (fun i wr => ∃ k n : Nat, k ≤ za.length ∧ i = .int .i64 k ∧ za.take k = zb.take k ∧ wr = w.drewN n) (fun i _ => za.length - (intOf i).toNat)
    case atStart => exact ⟨0, 0, Nat.zero_le _, rfl, by simp, rfl⟩
    case round =>
      obtain ⟨k, n, hk, rfl, ht, rfl⟩ := hrel
      by_cases hlt : k < za.length
      · obtain ⟨b1, o1, rfl, hc1⟩ := ha (by intro h; subst h; simp at hlt)
        obtain ⟨b2, o2, rfl, hc2⟩ := hb (by intro h; subst h; simp at hl; rw [hl] at hlt; simp at hlt)
        obtain ⟨x, hx⟩ : ∃ x, za[k]? = some x := ⟨za[k], by simp [hlt]⟩
        obtain ⟨y, hy⟩ : ∃ y, zb[k]? = some y := ⟨zb[k]'(by omega), by simp [show k < zb.length by omega]⟩
        have c1 := hc1 k x hx
        have c2 := hc2 k y hy
        clear hc1 hc2 ha hb
        have HX : Hid (za[k]? = some x ∧ zb[k]? = some y ∧ za.take k = zb.take k) := ⟨hx, hy, ht⟩
        clear hx hy ht
        by_cases hxy : x = y
        · go_wp2
          go_quiet (fail)
          go_wp2
          go_roundw
          case rel => exact ⟨k + 1, _, by omega, by go_num, Od.take_eq_snoc HX.out.2.2 HX.out.1 HX.out.2.1 hxy, rfl⟩
          case measure => simp [intOf]; omega
        · go_wp2
          go_quiet (fail)
          go_wp2
          go_ret
          refine ⟨L.ret_bool ?_, below_drewN (below_drewN (Below.refl _ _) _) _⟩
          have : za ≠ zb := by
            intro e
            rw [e] at HX
            have h1 := HX.out.1
            rw [HX.out.2.1] at h1
            exact hxy (Option.some.inj h1).symm
          simp [this]
      · go_wp2
        go_ret
        refine ⟨L.ret_bool ?_, below_drewN (Below.refl _ _) _⟩
        rw [List.take_of_length_le (by omega), List.take_of_length_le (by omega)] at ht
        simp [ht]
  · go_enter Try.func18, Try.ntmps18
    go_wp2
    go_ret
    refine ⟨L.ret_bool ?_, Below.refl _ _⟩
    have : za ≠ zb := by intro e; exact hl (by rw [e])
    simp [this]

end Go.Proofs.Ytbclmmkphjknaaa
