/-
  Two texts held against each other: order.Compare.
-/
import Derived.Test.YtbclmmkphjknaaaOdKeysOf
import Derived.Deep.QuietTactic
import Derived.BigQuiet
import Derived.BigRegion
import Derived.Test.YtbclmmkphjknaaaKBox
import Derived.BigGuard
import Derived.BigCall
import Derived.CellFam
import Derived.Deep.Draws
namespace Go.Proofs.Ytbclmmkphjknaaa
open Go.RowKit
set_option maxRecDepth 20000
set_option linter.unusedSimpArgs false
set_option linter.unusedVariables false

namespace Od
theorem bad_two (a b : List Int) : (badN 0 [a, b]).1 = (cmpF a b).2 := by
  unfold cmpF
  by_cases h : (keyF a).2 ≠ 0
  · rw [badN, if_pos h, if_pos h]
  · rw [badN, if_neg h, if_neg h]
    by_cases h2 : (keyF b).2 ≠ 0
    · rw [badN, if_pos h2, if_pos h2]
    · rw [badN, if_neg h2, if_neg h2]; rfl
theorem keys_len (l : List (List Int)) : ∀ k ∈ keysL l, k.1.length ≤ 4000 ∧ k.2.1.length ≤ 4000 ∧ k.2.2.length ≤ 4000 := fun k hk => by
  obtain ⟨t, _, rfl⟩ := List.mem_map.1 hk
  exact key_len t (Nm.apart_len t)
end Od

set_option maxHeartbeats 4000000 in
theorem odCompare_any (w : World) (va vb : Value) (a b : List Int) (Ra : L.Rd w va .i32 a) (Rb : L.Rd w vb .i32 b) (ha : a.length ≤ 140737488355328) (hb : b.length ≤ 140737488355328) :
    Calls Try.prog 19 #[va, vb] w fun e w' => e = .returned (.tuple #[.int .i64 (Od.cmpF a b).1, .int .i64 (Od.cmpF a b).2]) ∧ Below w.heap.size w w' := by
  obtain ⟨ao, ac, rfl, _, _⟩ := id Ra
  obtain ⟨bo, bc, rfl, _, _⟩ := id Rb
  obtain ⟨W1, hW1⟩ : ∃ W1, W1 = w.alloc (.cells #[.slice ao a.length ac, .slice bo b.length bc] 22) := ⟨_, rfl⟩
  have hb1 : Below w.heap.size w W1 := by rw [hW1]; exact (Below.refl _ w).alloc (Nat.le_refl _) _
  have hx1 : W1.heap[w.heap.size]? = some (.cells #[.slice ao a.length ac, .slice bo b.length bc] 22) := by rw [hW1]; exact heap_alloc_new w _
  have hR : Ws.Rd W1 (.slice (some ⟨w.heap.size, 0, none⟩) 2 2) [a, b] := ⟨_, _, rfl, fun h => by (cases h), fun _ => ⟨_, 0, rfl, fun j t hj => by
    match j, hj with
    | 0, hj => cases hj; exact ⟨_, K.at_box hx1 rfl, Ra.below hb1 (Nat.le_refl _)⟩
    | 1, hj => cases hj; exact ⟨_, K.at_box hx1 rfl, Rb.below hb1 (Nat.le_refl _)⟩
    | n + 2, hj => simp at hj⟩⟩
  have hK := odKeysOf_any W1 _ [a, b] hR (fun c hc => by
    rcases List.mem_cons.1 hc with rfl | hc
    · exact ha
    · simp at hc; subst hc; exact hb) (by simp)
  have HB1 : Hid (Below w.heap.size w W1) := hb1
  obtain ⟨⟨c1, c2⟩, hc⟩ : ∃ c, c = Od.cmpF a b := ⟨_, rfl⟩
  have HC : Hid ((c1, c2) = Od.cmpF a b) := hc
  have hbt := Od.bad_two a b
  rw [← hc] at hbt ⊢
  obtain ⟨⟨e1, e2⟩, he⟩ : ∃ c, c = Od.badN 0 [a, b] := ⟨_, rfl⟩
  rw [← he] at hK hbt
  simp only at hK hbt
  subst hbt
  clear Ra Rb ha hb hb1 hx1 hR hc he
  go_enter Try.func19, Try.ntmps19
  go_wp2_with fail
  rw [← hW1]
  refine hK.mono ?_
  clear hK
  rintro e w2 ⟨vk, rfl, hks, b2⟩
  have HB2 : Hid (Below w.heap.size w w2) := HB1.out.trans (b2.mono HB1.out.size)
  clear b2 hW1 HB1
  by_cases h0 : e1 = 0
  · subst h0
    have hk := hks rfl
    obtain ⟨ko, kc, rfl, _⟩ := id hk
    have HK : Hid (Od.Ks w2 (.slice ko (Od.keysL [a, b]).length kc) (Od.keysL [a, b])) := hk
    obtain ⟨X, hX⟩ : ∃ X, X = w2.alloc (.cells #[.int .i64 0, .int .i64 e2] 44) := ⟨_, rfl⟩
    have hbX : Below w2.heap.size w2 X := by rw [hX]; exact (Below.refl _ w2).alloc (Nat.le_refl _) _
    have hkX : Od.Ks X (.slice ko (Od.keysL [a, b]).length kc) (Od.keysL [a, b]) := hk.move fun a ha => hbX.cell ha
    have hRk := odRanking_any X ko (Od.keysL [a, b]).length kc
    obtain ⟨Y, hY⟩ : ∃ Y, Y = X.alloc (.cells #[.slice ko (Od.keysL [a, b]).length kc] 68) := ⟨_, rfl⟩
    have hbY : Below X.heap.size X Y := by rw [hY]; exact (Below.refl _ X).alloc (Nat.le_refl _) _
    have hkY : Od.Ks Y (.slice ko (Od.keysL [a, b]).length kc) (Od.keysL [a, b]) := hkX.move fun a ha => hbY.cell ha
    have hcY : Y.cell? ⟨X.heap.size, 0, none⟩ = some (.slice ko (Od.keysL [a, b]).length kc) := by rw [hY]; exact K.at_box (i := 0) (heap_alloc_new X _) rfl
    have hCC := odRank1_any Y X.heap.size _ (Od.keysL [a, b]) hkY hcY (Od.keys_len _) 0 1 (Od.keyF a).1 (Od.keyF b).1 rfl rfl (by simp [Od.keysL])
    have hce : c1 = Od.cmpK (Od.keyF a).1 (Od.keyF b).1 := by
      have h := HC.out
      unfold Od.cmpF at h
      split at h
      · rename_i h1; exact absurd (Prod.mk.inj h).2.symm h1
      · split at h
        · rename_i h1; exact absurd (Prod.mk.inj h).2.symm h1
        · exact (Prod.mk.inj h).1
    rw [← hce] at hCC
    have hBY : Below w.heap.size w Y := (HB2.out.trans (hbX.mono HB2.out.size)).trans (hbY.mono (Nat.le_trans HB2.out.size hbX.size))
    have HBY : Hid (Below w.heap.size w Y) := hBY
    rw [← hY] at hRk
    have HXe : Hid (X = w2.alloc (.cells #[.int .i64 0, .int .i64 e2] 44)) := hX
    have eg : ∀ args w, (callFunc 54 args).run Try.prog w = .ok (.enter 54 args) w := enters_of Try.func54 (by kernel_rfl) rfl
    generalize (Od.keysL [a, b]).length = kn at hRk
    clear hks hk HK hkX hbX hbY hkY hcY hce hBY hY hX HC
    go_wp2_with fail
    rw [← HXe.out]
    refine hRk.mono ?_
    clear hRk HXe
    rintro e w3 ⟨rfl, h3⟩
    obtain rfl := h3.symm
    clear h3
    go_wp2_with fail
    refine hCC.mono ?_
    rintro e w4 ⟨rfl, h4⟩
    obtain rfl := h4.symm
    clear h4 hCC
    go_wp2
    refine bodyPost_ret (v := .tuple #[.int .i64 c1, .int .i64 0]) (by simp [results, Try.results19, go_sem, *]) rfl ?_
    exact ⟨rfl, HBY.out⟩
  · have hce : c1 = 0 := by
      have h := HC.out
      unfold Od.cmpF at h
      split at h
      · exact (Prod.mk.inj h).1
      · split at h
        · exact (Prod.mk.inj h).1
        · exact absurd (Prod.mk.inj h).2 h0
    subst hce
    obtain ⟨X, hX⟩ : ∃ X, X = w2.alloc (.cells #[.int .i64 e1, .int .i64 e2] 44) := ⟨_, rfl⟩
    have HBX : Hid (Below w.heap.size w X) := by rw [hX]; exact HB2.out.alloc HB2.out.size _
    clear hks HC hX
    go_wp2
    go_region
    go_wp2
    refine bodyPost_ret (v := .tuple #[.int .i64 0, .int .i64 e1]) (by simp [results, Try.results19, go_sem, *]) rfl ?_
    exact ⟨rfl, (HB2.out.alloc HB2.out.size _).drew⟩

end Go.Proofs.Ytbclmmkphjknaaa

/-
  Two stretches of a row change their places; a stretch turned about another one.
-/
namespace Go.Proofs.Ytbclmmkphjknaaa
open Go.RowKit Go.Sort
set_option maxRecDepth 20000
set_option linter.unusedSimpArgs false
set_option linter.unusedVariables false

set_option maxHeartbeats 4000000 in
theorem odSwp_any [Od.Ck] (w0 w : World) (blk off n cap a b k : Nat) (cv : Value) (P U M V Q : List Int) (h0 : Od.In w0 blk off n (P ++ U ++ M ++ V ++ Q) w) (ha : a = P.length) (hb : b = P.length + U.length + M.length) (hk : U.length = k) (hv : V.length = k) (hsz : n < 1152921504606846976) :
    Calls Try.prog 70 #[.slice (some ⟨blk, off, none⟩) n cap, .int .i64 a, .int .i64 b, .int .i64 k, cv] w fun e w' => e = .returned (.tuple #[]) ∧ Od.In w0 blk off n (P ++ V ++ M ++ U ++ Q) w' := by
  have hlen : (P ++ U ++ M ++ V ++ Q).length = n := h0.1
  simp only [List.length_append] at hlen
  have hbn : b + k ≤ n := by omega
  have hab : a + k ≤ b := by omega
  have HL : Hid (a = P.length ∧ b = P.length + U.length + M.length ∧ U.length = k ∧ V.length = k ∧ b + k ≤ n ∧ a + k ≤ b) := ⟨ha, hb, hk, hv, hbn, hab⟩
  have HS : Hid (Od.In w0 blk off n (Nm.ex P U M V Q 0) w) := by
    show Od.In _ _ _ _ _ _
    rw [Nm.ex_zero]; exact h0
  clear h0 ha hb hk hv hlen
  go_enter Try.func70, Try.ntmps70
  go_wp2
  go_loopw [10] (fun vi wr => ∃ i : Nat, vi = .int .i64 i ∧ i ≤ k ∧ Hid (Od.In w0 blk off n (Nm.ex P U M V Q i) wr)) (fun vi _ => k - (RowKit.intOf vi).toNat)
  case atStart => exact ⟨0, rfl, Nat.zero_le _, HS.out⟩
  case round =>
    obtain ⟨i, rfl, hi, HE⟩ := hrel
    clear HS
    by_cases hlt : i < k
    · obtain ⟨G, hG⟩ : ∃ G : Nat → Int, ∀ t, G t = (Nm.ex P U M V Q i).toArray[t]! := ⟨fun t => (Nm.ex P U M V Q i).toArray[t]!, fun _ => rfl⟩
      have hcw : ∀ t, t < n → wr.cell? ⟨blk, off + t, none⟩ = some (.int .i64 (G t)) := fun t ht => by rw [hG]; exact HE.out.cell t ht
      have hfw : ∀ t, t < n → wr.frozen? ⟨blk, off + t, none⟩ = false := fun t ht => HE.out.free t ht
      have HSw : Hid (∀ q, Od.In w0 blk off n (Nm.ex P U M V Q (i + 1)) (((wr.drewN q).setCell ⟨blk, off + (a + i), none⟩ (.int .i64 (G (b + i)))).setCell ⟨blk, off + (b + i), none⟩ (.int .i64 (G (a + i))))) := fun q => by
        rw [hG, hG]
        exact HE.out.swap (by omega) (by omega) (Nm.ex_step P U M V Q (by have := HL.out; omega) (by have := HL.out; omega) HL.out.1 HL.out.2.1) q
      have hne : ¬ (a + i = b + i) := by omega
      clear hG HE
      go_wp2
      go_region
      all_goals go_wp2
      go_roundw
      case rel => exact ⟨i + 1, by go_num, by omega, HSw.out 1⟩
      case measure => simp [RowKit.intOf]; omega
    · have e : i = k := by omega
      subst e
      go_wp2
      go_end0
      refine ⟨rfl, ?_⟩
      have h := HE.out
      rw [Nm.ex_all P U M V Q HL.out.2.2.1 HL.out.2.2.2.1] at h
      exact h

set_option maxHeartbeats 4000000 in
theorem odRot_any [Od.Ck] (w0 w : World) (blk off n cap a m b : Nat) (cv : Value) (P U V Q : List Int) (h0 : Od.In w0 blk off n (P ++ U ++ V ++ Q) w) (ha : a = P.length) (hm : m = P.length + U.length) (hb : b = P.length + U.length + V.length) (hu : 0 < U.length) (hv : 0 < V.length) (hsz : n < 1152921504606846976) :
    Calls Try.prog 68 #[.slice (some ⟨blk, off, none⟩) n cap, .int .i64 a, .int .i64 m, .int .i64 b, cv] w fun e w' => e = .returned (.tuple #[]) ∧ Od.In w0 blk off n (P ++ V ++ U ++ Q) w' := by
  have hlen : (P ++ U ++ V ++ Q).length = n := h0.1
  simp only [List.length_append] at hlen
  have HSw : Hid (∀ (X : World) (a b k : Nat) (P U M V Q : List Int), Od.In w0 blk off n (P ++ U ++ M ++ V ++ Q) X → a = P.length → b = P.length + U.length + M.length → U.length = k → V.length = k → Calls Try.prog 70 #[.slice (some ⟨blk, off, none⟩) n cap, .int .i64 a, .int .i64 b, .int .i64 k, cv] X fun e w' => e = .returned (.tuple #[]) ∧ Od.In w0 blk off n (P ++ V ++ M ++ U ++ Q) w') := fun X a b k P U M V Q h1 h2 h3 h4 h5 => odSwp_any w0 X blk off n cap a b k cv P U M V Q h1 h2 h3 h4 h5 hsz
  obtain ⟨i0, hi0⟩ : ∃ i, U.length = i := ⟨_, rfl⟩
  obtain ⟨j0, hj0⟩ : ∃ j, V.length = j := ⟨_, rfl⟩
  have e1 : (m : Int) - (a : Int) = (i0 : Int) := by omega
  have e2 : (b : Int) - (m : Int) = (j0 : Int) := by omega
  have hmn : m + j0 ≤ n := by omega
  have him : i0 ≤ m := by omega
  have hi0p : 0 < i0 := by omega
  have hj0p : 0 < j0 := by omega
  have HS : Hid (∃ P' U' V' Q' : List Int, Od.In w0 blk off n (P' ++ U' ++ V' ++ Q') w ∧ U'.length = i0 ∧ V'.length = j0 ∧ m = P'.length + U'.length ∧ P' ++ V' ++ U' ++ Q' = P ++ V ++ U ++ Q) := ⟨P, U, V, Q, h0, hi0, hj0, hm, rfl⟩
  obtain ⟨T, hT⟩ : ∃ T, T = P ++ V ++ U ++ Q := ⟨_, rfl⟩
  rw [← hT] at HS ⊢
  clear h0 ha hm hb hu hv hlen hi0 hj0 hT
  go_enter Try.func68, Try.ntmps68
  go_wp2
  go_loopw [10, 11] (fun vi vj wr => ∃ i j : Nat, vi = .int .i64 i ∧ vj = .int .i64 j ∧ 0 < i ∧ 0 < j ∧ i ≤ m ∧ m + j ≤ n ∧ Hid (∃ P U V Q : List Int, Od.In w0 blk off n (P ++ U ++ V ++ Q) wr ∧ U.length = i ∧ V.length = j ∧ m = P.length + U.length ∧ P ++ V ++ U ++ Q = T)) (fun vi vj _ => (RowKit.intOf vi).toNat + (RowKit.intOf vj).toNat)
  case atStart => exact ⟨i0, j0, rfl, rfl, hi0p, hj0p, him, hmn, HS.out⟩
  case round =>
    obtain ⟨i, j, rfl, rfl, hi, hj, him', hmn', HE⟩ := hrel
    clear HS e1 e2 hi0p hj0p him hmn
    by_cases hij : i = j
    · obtain ⟨P', U', V', Q', h1, h2, h3, h4, h5⟩ := HE.out
      have hC : Calls Try.prog 70 #[.slice (some ⟨blk, off, none⟩) n cap, .int .i64 ((m : Int) - (i : Int)), .int .i64 m, .int .i64 i, cv] wr fun e w' => e = .returned (.tuple #[]) ∧ Od.In w0 blk off n T w' := by
        have h := HSw.out wr (m - i) m i P' U' [] V' Q' (by simpa using h1) (by omega) (by simp; omega) h2 (by omega)
        rw [List.append_nil, h5] at h
        rw [show (m : Int) - (i : Int) = ((m - i : Nat) : Int) by omega]
        exact h
      have HC : Hid (Calls Try.prog 70 #[.slice (some ⟨blk, off, none⟩) n cap, .int .i64 ((m : Int) - (i : Int)), .int .i64 m, .int .i64 i, cv] wr fun e w' => e = .returned (.tuple #[]) ∧ Od.In w0 blk off n T w') := hC
      clear hC HE HSw h1 h2 h3 h4 h5
      subst hij
      go_wp2_with fail
      refine HC.out.mono ?_
      rintro e w1 ⟨rfl, h6⟩
      have H6 : Hid (Od.In w0 blk off n T w1) := h6
      clear h6 HC
      go_wp2
      go_end0
      exact ⟨rfl, H6.out⟩
    · by_cases hgt : j < i
      · obtain ⟨P', U', V', Q', h1, h2, h3, h4, h5⟩ := HE.out
        have hC : Calls Try.prog 70 #[.slice (some ⟨blk, off, none⟩) n cap, .int .i64 ((m : Int) - (i : Int)), .int .i64 m, .int .i64 j, cv] wr fun e w' => e = .returned (.tuple #[]) ∧ Od.In w0 blk off n (P' ++ V' ++ U'.drop j ++ U'.take j ++ Q') w' := by
          have h := HSw.out wr (m - i) m j P' (U'.take j) (U'.drop j) V' Q' (by rw [List.append_assoc P', List.take_append_drop]; exact h1) (by omega) (by simp; omega) (by simp; omega) h3
          rw [show (m : Int) - (i : Int) = ((m - i : Nat) : Int) by omega]
          exact h
        have HC : Hid (Calls Try.prog 70 #[.slice (some ⟨blk, off, none⟩) n cap, .int .i64 ((m : Int) - (i : Int)), .int .i64 m, .int .i64 j, cv] wr fun e w' => e = .returned (.tuple #[]) ∧ Od.In w0 blk off n (P' ++ V' ++ U'.drop j ++ U'.take j ++ Q') w') := hC
        have HX : Hid (∀ w', Od.In w0 blk off n (P' ++ V' ++ U'.drop j ++ U'.take j ++ Q') w' → ∃ P U V Q : List Int, Od.In w0 blk off n (P ++ U ++ V ++ Q) w' ∧ U.length = i - j ∧ V.length = j ∧ m = P.length + U.length ∧ P ++ V ++ U ++ Q = T) := fun w' hw => ⟨P' ++ V', U'.drop j, U'.take j, Q', hw, by simp; omega, by simp; omega, by simp; omega, by rw [← h5, List.append_assoc (P' ++ V'), List.take_append_drop]⟩
        clear hC HE h1 h2 h3 h4 h5
        go_wp2_with fail
        refine HC.out.mono ?_
        rintro e w1 ⟨rfl, h6⟩
        have H6 := HX.out w1 h6
        have H7 : Hid (∃ P U V Q : List Int, Od.In w0 blk off n (P ++ U ++ V ++ Q) w1 ∧ U.length = i - j ∧ V.length = j ∧ m = P.length + U.length ∧ P ++ V ++ U ++ Q = T) := H6
        clear H6 h6 HC HX
        go_wp2
        go_roundw
        case rel => exact ⟨i - j, j, by congr 1; omega, rfl, by omega, hj, by omega, hmn', H7.out⟩
        case measure => simp [RowKit.intOf]; omega
      · obtain ⟨P', U', V', Q', h1, h2, h3, h4, h5⟩ := HE.out
        have hC : Calls Try.prog 70 #[.slice (some ⟨blk, off, none⟩) n cap, .int .i64 ((m : Int) - (i : Int)), .int .i64 ((m : Int) + (j : Int) - (i : Int)), .int .i64 i, cv] wr fun e w' => e = .returned (.tuple #[]) ∧ Od.In w0 blk off n (P' ++ V'.drop (j - i) ++ V'.take (j - i) ++ U' ++ Q') w' := by
          have h := HSw.out wr (m - i) (m + j - i) i P' U' (V'.take (j - i)) (V'.drop (j - i)) Q' (by rw [List.append_assoc (P' ++ U'), List.take_append_drop]; exact h1) (by omega) (by simp; omega) h2 (by simp; omega)
          rw [show (m : Int) - (i : Int) = ((m - i : Nat) : Int) by omega, show (m : Int) + (j : Int) - (i : Int) = ((m + j - i : Nat) : Int) by omega]
          exact h
        have HC : Hid (Calls Try.prog 70 #[.slice (some ⟨blk, off, none⟩) n cap, .int .i64 ((m : Int) - (i : Int)), .int .i64 ((m : Int) + (j : Int) - (i : Int)), .int .i64 i, cv] wr fun e w' => e = .returned (.tuple #[]) ∧ Od.In w0 blk off n (P' ++ V'.drop (j - i) ++ V'.take (j - i) ++ U' ++ Q') w') := hC
        have HX : Hid (∀ w', Od.In w0 blk off n (P' ++ V'.drop (j - i) ++ V'.take (j - i) ++ U' ++ Q') w' → ∃ P U V Q : List Int, Od.In w0 blk off n (P ++ U ++ V ++ Q) w' ∧ U.length = i ∧ V.length = j - i ∧ m = P.length + U.length ∧ P ++ V ++ U ++ Q = T) := fun w' hw => ⟨P', V'.drop (j - i), V'.take (j - i), U' ++ Q', by rw [← List.append_assoc]; exact hw, by simp; omega, by simp; omega, by simp; omega, by rw [← h5, List.append_assoc P' (V'.take (j - i)), List.take_append_drop]; simp⟩
        have h7 : i < j := by omega
        clear hC HE h1 h2 h3 h4 h5
        go_wp2_with fail
        refine HC.out.mono ?_
        rintro e w1 ⟨rfl, h6⟩
        have H6 := HX.out w1 h6
        have H7 : Hid (∃ P U V Q : List Int, Od.In w0 blk off n (P ++ U ++ V ++ Q) w1 ∧ U.length = i ∧ V.length = j - i ∧ m = P.length + U.length ∧ P ++ V ++ U ++ Q = T) := H6
        clear H6 h6 HC HX
        go_wp2
        go_roundw
        case rel => exact ⟨i, j - i, rfl, by congr 1; omega, hi, by omega, him', by omega, H7.out⟩
        case measure => simp [RowKit.intOf]; omega

end Go.Proofs.Ytbclmmkphjknaaa
