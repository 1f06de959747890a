/-
  Two stretches of a row change their places; a stretch turned about another one.
-/
import Derived.Test.YtbclmmkphjknaaaNmIn
import Derived.BigGuard
import Derived.BigCall
import Derived.BigRegion
import Derived.CellFam
import Derived.Deep.Draws
import Derived.Deep.QuietTactic
import Derived.BigQuiet
namespace Go.Proofs.Ytbclmmkphjknaaa
open Go.RowKit Go.Sort
set_option maxRecDepth 20000
set_option linter.unusedSimpArgs false
set_option linter.unusedVariables false

set_option maxHeartbeats 4000000 in
theorem nmSwp_any (w0 w : World) (blk off n cap a b k : Nat) (cv : Value) (P U M V Q : List Int) (h0 : Nm.In w0 blk off n (P ++ U ++ M ++ V ++ Q) w) (ha : a = P.length) (hb : b = P.length + U.length + M.length) (hk : U.length = k) (hv : V.length = k) (hsz : n < 1152921504606846976) :
    Calls Try.prog 71 #[.slice (some ⟨blk, off, none⟩) n cap, .int .i64 a, .int .i64 b, .int .i64 k, cv] w fun e w' => e = .returned (.tuple #[]) ∧ Nm.In w0 blk off n (P ++ V ++ M ++ U ++ Q) w' := by
  have hlen : (P ++ U ++ M ++ V ++ Q).length = n := h0.1
  simp only [List.length_append] at hlen
  have hbn : b + k ≤ n := by omega
  have hab : a + k ≤ b := by omega
  have HL : Hid (a = P.length ∧ b = P.length + U.length + M.length ∧ U.length = k ∧ V.length = k ∧ b + k ≤ n ∧ a + k ≤ b) := ⟨ha, hb, hk, hv, hbn, hab⟩
  have HS : Hid (Nm.In w0 blk off n (Nm.ex P U M V Q 0) w) := by
    show Nm.In _ _ _ _ _ _
    rw [Nm.ex_zero]; exact h0
  clear h0 ha hb hk hv hlen
  go_enter Try.func71, Try.ntmps71
  go_wp2
  go_loopw [10] (fun vi wr => ∃ i : Nat, vi = .int .i64 i ∧ i ≤ k ∧ Hid (Nm.In w0 blk off n (Nm.ex P U M V Q i) wr)) (fun vi _ => k - (RowKit.intOf vi).toNat)
  case atStart => exact ⟨0, rfl, Nat.zero_le _, HS.out⟩
  case round =>
    obtain ⟨i, rfl, hi, HE⟩ := hrel
    clear HS
    by_cases hlt : i < k
    · obtain ⟨G, hG⟩ : ∃ G : Nat → Int, ∀ t, G t = (Nm.ex P U M V Q i).toArray[t]! := ⟨fun t => (Nm.ex P U M V Q i).toArray[t]!, fun _ => rfl⟩
      have hcw : ∀ t, t < n → wr.cell? ⟨blk, off + t, none⟩ = some (.int .i32 (G t)) := fun t ht => by rw [hG]; exact HE.out.cell t ht
      have hfw : ∀ t, t < n → wr.frozen? ⟨blk, off + t, none⟩ = false := fun t ht => HE.out.free t ht
      have HSw : Hid (∀ q, Nm.In w0 blk off n (Nm.ex P U M V Q (i + 1)) (((wr.drewN q).setCell ⟨blk, off + (a + i), none⟩ (.int .i32 (G (b + i)))).setCell ⟨blk, off + (b + i), none⟩ (.int .i32 (G (a + i))))) := fun q => by
        rw [hG, hG]
        exact HE.out.swap (by omega) (by omega) (Nm.ex_step P U M V Q (by have := HL.out; omega) (by have := HL.out; omega) HL.out.1 HL.out.2.1) q
      have hne : ¬ (a + i = b + i) := by omega
      clear hG HE
      go_wp2
      go_region
      all_goals go_wp2
      go_roundw
      case rel => exact ⟨i + 1, by go_num, by omega, HSw.out 1⟩
      case measure => simp [RowKit.intOf]; omega
    · have e : i = k := by omega
      subst e
      go_wp2
      go_end0
      refine ⟨rfl, ?_⟩
      have h := HE.out
      rw [Nm.ex_all P U M V Q HL.out.2.2.1 HL.out.2.2.2.1] at h
      exact h

set_option maxHeartbeats 4000000 in
theorem nmRot_any (w0 w : World) (blk off n cap a m b : Nat) (cv : Value) (P U V Q : List Int) (h0 : Nm.In w0 blk off n (P ++ U ++ V ++ Q) w) (ha : a = P.length) (hm : m = P.length + U.length) (hb : b = P.length + U.length + V.length) (hu : 0 < U.length) (hv : 0 < V.length) (hsz : n < 1152921504606846976) :
    Calls Try.prog 69 #[.slice (some ⟨blk, off, none⟩) n cap, .int .i64 a, .int .i64 m, .int .i64 b, cv] w fun e w' => e = .returned (.tuple #[]) ∧ Nm.In w0 blk off n (P ++ V ++ U ++ Q) w' := by
  have hlen : (P ++ U ++ V ++ Q).length = n := h0.1
  simp only [List.length_append] at hlen
  have HSw : Hid (∀ (X : World) (a b k : Nat) (P U M V Q : List Int), Nm.In w0 blk off n (P ++ U ++ M ++ V ++ Q) X → a = P.length → b = P.length + U.length + M.length → U.length = k → V.length = k → Calls Try.prog 71 #[.slice (some ⟨blk, off, none⟩) n cap, .int .i64 a, .int .i64 b, .int .i64 k, cv] X fun e w' => e = .returned (.tuple #[]) ∧ Nm.In w0 blk off n (P ++ V ++ M ++ U ++ Q) w') := fun X a b k P U M V Q h1 h2 h3 h4 h5 => nmSwp_any w0 X blk off n cap a b k cv P U M V Q h1 h2 h3 h4 h5 hsz
  obtain ⟨i0, hi0⟩ : ∃ i, U.length = i := ⟨_, rfl⟩
  obtain ⟨j0, hj0⟩ : ∃ j, V.length = j := ⟨_, rfl⟩
  have e1 : (m : Int) - (a : Int) = (i0 : Int) := by omega
  have e2 : (b : Int) - (m : Int) = (j0 : Int) := by omega
  have hmn : m + j0 ≤ n := by omega
  have him : i0 ≤ m := by omega
  have hi0p : 0 < i0 := by omega
  have hj0p : 0 < j0 := by omega
  have HS : Hid (∃ P' U' V' Q' : List Int, Nm.In w0 blk off n (P' ++ U' ++ V' ++ Q') w ∧ U'.length = i0 ∧ V'.length = j0 ∧ m = P'.length + U'.length ∧ P' ++ V' ++ U' ++ Q' = P ++ V ++ U ++ Q) := ⟨P, U, V, Q, h0, hi0, hj0, hm, rfl⟩
  obtain ⟨T, hT⟩ : ∃ T, T = P ++ V ++ U ++ Q := ⟨_, rfl⟩
  rw [← hT] at HS ⊢
  clear h0 ha hm hb hu hv hlen hi0 hj0 hT
  go_enter Try.func69, Try.ntmps69
  go_wp2
  go_loopw [10, 11] (fun vi vj wr => ∃ i j : Nat, vi = .int .i64 i ∧ vj = .int .i64 j ∧ 0 < i ∧ 0 < j ∧ i ≤ m ∧ m + j ≤ n ∧ Hid (∃ P U V Q : List Int, Nm.In w0 blk off n (P ++ U ++ V ++ Q) wr ∧ U.length = i ∧ V.length = j ∧ m = P.length + U.length ∧ P ++ V ++ U ++ Q = T)) (fun vi vj _ => (RowKit.intOf vi).toNat + (RowKit.intOf vj).toNat)
  case atStart => exact ⟨i0, j0, rfl, rfl, hi0p, hj0p, him, hmn, HS.out⟩
  case round =>
    obtain ⟨i, j, rfl, rfl, hi, hj, him', hmn', HE⟩ := hrel
    clear HS e1 e2 hi0p hj0p him hmn
    by_cases hij : i = j
    · obtain ⟨P', U', V', Q', h1, h2, h3, h4, h5⟩ := HE.out
      have hC : Calls Try.prog 71 #[.slice (some ⟨blk, off, none⟩) n cap, .int .i64 ((m : Int) - (i : Int)), .int .i64 m, .int .i64 i, cv] wr fun e w' => e = .returned (.tuple #[]) ∧ Nm.In w0 blk off n T w' := by
        have h := HSw.out wr (m - i) m i P' U' [] V' Q' (by simpa using h1) (by omega) (by simp; omega) h2 (by omega)
        rw [List.append_nil, h5] at h
        rw [show (m : Int) - (i : Int) = ((m - i : Nat) : Int) by omega]
        exact h
      have HC : Hid (Calls Try.prog 71 #[.slice (some ⟨blk, off, none⟩) n cap, .int .i64 ((m : Int) - (i : Int)), .int .i64 m, .int .i64 i, cv] wr fun e w' => e = .returned (.tuple #[]) ∧ Nm.In w0 blk off n T w') := hC
      clear hC HE HSw h1 h2 h3 h4 h5
      subst hij
      go_wp2_with fail
      refine HC.out.mono ?_
      rintro e w1 ⟨rfl, h6⟩
      have H6 : Hid (Nm.In w0 blk off n T w1) := h6
      clear h6 HC
      go_wp2
      go_end0
      exact ⟨rfl, H6.out⟩
    · by_cases hgt : j < i
      · obtain ⟨P', U', V', Q', h1, h2, h3, h4, h5⟩ := HE.out
        have hC : Calls Try.prog 71 #[.slice (some ⟨blk, off, none⟩) n cap, .int .i64 ((m : Int) - (i : Int)), .int .i64 m, .int .i64 j, cv] wr fun e w' => e = .returned (.tuple #[]) ∧ Nm.In w0 blk off n (P' ++ V' ++ U'.drop j ++ U'.take j ++ Q') w' := by
          have h := HSw.out wr (m - i) m j P' (U'.take j) (U'.drop j) V' Q' (by rw [List.append_assoc P', List.take_append_drop]; exact h1) (by omega) (by simp; omega) (by simp; omega) h3
          rw [show (m : Int) - (i : Int) = ((m - i : Nat) : Int) by omega]
          exact h
        have HC : Hid (Calls Try.prog 71 #[.slice (some ⟨blk, off, none⟩) n cap, .int .i64 ((m : Int) - (i : Int)), .int .i64 m, .int .i64 j, cv] wr fun e w' => e = .returned (.tuple #[]) ∧ Nm.In w0 blk off n (P' ++ V' ++ U'.drop j ++ U'.take j ++ Q') w') := hC
        have HX : Hid (∀ w', Nm.In w0 blk off n (P' ++ V' ++ U'.drop j ++ U'.take j ++ Q') w' → ∃ P U V Q : List Int, Nm.In w0 blk off n (P ++ U ++ V ++ Q) w' ∧ U.length = i - j ∧ V.length = j ∧ m = P.length + U.length ∧ P ++ V ++ U ++ Q = T) := fun w' hw => ⟨P' ++ V', U'.drop j, U'.take j, Q', hw, by simp; omega, by simp; omega, by simp; omega, by rw [← h5, List.append_assoc (P' ++ V'), List.take_append_drop]⟩
        clear hC HE h1 h2 h3 h4 h5
        go_wp2_with fail
        refine HC.out.mono ?_
        rintro e w1 ⟨rfl, h6⟩
        have H6 := HX.out w1 h6
        have H7 : Hid (∃ P U V Q : List Int, Nm.In w0 blk off n (P ++ U ++ V ++ Q) w1 ∧ U.length = i - j ∧ V.length = j ∧ m = P.length + U.length ∧ P ++ V ++ U ++ Q = T) := H6
        clear H6 h6 HC HX
        go_wp2
        go_roundw
        case rel => exact ⟨i - j, j, by congr 1; omega, rfl, by omega, hj, by omega, hmn', H7.out⟩
        case measure => simp [RowKit.intOf]; omega
      · obtain ⟨P', U', V', Q', h1, h2, h3, h4, h5⟩ := HE.out
        have hC : Calls Try.prog 71 #[.slice (some ⟨blk, off, none⟩) n cap, .int .i64 ((m : Int) - (i : Int)), .int .i64 ((m : Int) + (j : Int) - (i : Int)), .int .i64 i, cv] wr fun e w' => e = .returned (.tuple #[]) ∧ Nm.In w0 blk off n (P' ++ V'.drop (j - i) ++ V'.take (j - i) ++ U' ++ Q') w' := by
          have h := HSw.out wr (m - i) (m + j - i) i P' U' (V'.take (j - i)) (V'.drop (j - i)) Q' (by rw [List.append_assoc (P' ++ U'), List.take_append_drop]; exact h1) (by omega) (by simp; omega) h2 (by simp; omega)
          rw [show (m : Int) - (i : Int) = ((m - i : Nat) : Int) by omega, show (m : Int) + (j : Int) - (i : Int) = ((m + j - i : Nat) : Int) by omega]
          exact h
        have HC : Hid (Calls Try.prog 71 #[.slice (some ⟨blk, off, none⟩) n cap, .int .i64 ((m : Int) - (i : Int)), .int .i64 ((m : Int) + (j : Int) - (i : Int)), .int .i64 i, cv] wr fun e w' => e = .returned (.tuple #[]) ∧ Nm.In w0 blk off n (P' ++ V'.drop (j - i) ++ V'.take (j - i) ++ U' ++ Q') w') := hC
        have HX : Hid (∀ w', Nm.In w0 blk off n (P' ++ V'.drop (j - i) ++ V'.take (j - i) ++ U' ++ Q') w' → ∃ P U V Q : List Int, Nm.In w0 blk off n (P ++ U ++ V ++ Q) w' ∧ U.length = i ∧ V.length = j - i ∧ m = P.length + U.length ∧ P ++ V ++ U ++ Q = T) := fun w' hw => ⟨P', V'.drop (j - i), V'.take (j - i), U' ++ Q', by rw [← List.append_assoc]; exact hw, by simp; omega, by simp; omega, by simp; omega, by rw [← h5, List.append_assoc P' (V'.take (j - i)), List.take_append_drop]; simp⟩
        have h7 : i < j := by omega
        clear hC HE h1 h2 h3 h4 h5
        go_wp2_with fail
        refine HC.out.mono ?_
        rintro e w1 ⟨rfl, h6⟩
        have H6 := HX.out w1 h6
        have H7 : Hid (∃ P U V Q : List Int, Nm.In w0 blk off n (P ++ U ++ V ++ Q) w1 ∧ U.length = i ∧ V.length = j - i ∧ m = P.length + U.length ∧ P ++ V ++ U ++ Q = T) := H6
        clear H6 h6 HC HX
        go_wp2
        go_roundw
        case rel => exact ⟨i, j - i, rfl, by congr 1; omega, hi, by omega, him', by omega, H7.out⟩
        case measure => simp [RowKit.intOf]; omega

end Go.Proofs.Ytbclmmkphjknaaa
