/-
  Two stretches of a row change their places; a stretch turned about another one.
-/
import Derived.Test.YtbclmmkphjknaaaNmIn
import Derived.BigGuard
import Derived.BigCall
import Derived.BigRegion
import Derived.CellFam
import Derived.Deep.Draws
import Derived.Deep.QuietTactic
import Derived.BigQuiet
import Derived.Shelf.Abstract
namespace Go.Proofs.Ytbclmmkphjknaaa
open Go.RowKit Go.Sort
set_option maxRecDepth 20000
set_option linter.unusedSimpArgs false
set_option linter.unusedVariables false

set_option maxHeartbeats 4000000 in
theorem nmSwp_any (w0 w : World) (blk off n cap a b k : Nat) (cv : Value) (P U M V Q : List Int) (h0 : Nm.In w0 blk off n (P ++ U ++ M ++ V ++ Q) w) (ha : a = P.length) (hb : b = P.length + U.length + M.length) (hk : U.length = k) (hv : V.length = k) (hsz : n < 1152921504606846976) :
    Calls Try.prog 71 #[.slice (some ⟨blk, off, none⟩) n cap, .int .i64 a, .int .i64 b, .int .i64 k, cv] w fun e w' => e = .returned (.tuple #[]) ∧ Nm.In w0 blk off n (P ++ V ++ M ++ U ++ Q) w' := by
  have hlen : (P ++ U ++ M ++ V ++ Q).length = n := h0.1
  simp only [List.length_append] at hlen
  have hbn : b + k ≤ n := by omega
  have hab : a + k ≤ b := by omega
  have HL : Hid (a = P.length ∧ b = P.length + U.length + M.length ∧ U.length = k ∧ V.length = k ∧ b + k ≤ n ∧ a + k ≤ b) := ⟨ha, hb, hk, hv, hbn, hab⟩
  have HS : Hid (Nm.In w0 blk off n (Nm.ex P U M V Q 0) w) := by
    show Nm.In _ _ _ _ _ _
    rw [Nm.ex_zero]; exact h0
  clear h0 ha hb hk hv hlen
  go_enter Try.func71, Try.ntmps71
  go_wp2
  go_loopw [10] (fun vi wr => ∃ i : Nat, vi = .int .i64 i ∧ i ≤ k ∧ Hid (Nm.In w0 blk off n (Nm.ex P U M V Q i) wr)) (fun vi _ => k - (RowKit.intOf vi).toNat)
  case atStart => exact ⟨0, rfl, Nat.zero_le _, HS.out⟩
  case round =>
    obtain ⟨i, rfl, hi, HE⟩ := hrel
    clear HS
    by_cases hlt : i < k
    · obtain ⟨G, hG⟩ : ∃ G : Nat → Int, ∀ t, G t = (Nm.ex P U M V Q i).toArray[t]! := ⟨fun t => (Nm.ex P U M V Q i).toArray[t]!, fun _ => rfl⟩
      have hcw : ∀ t, t < n → wr.cell? ⟨blk, off + t, none⟩ = some (.int .i32 (G t)) := fun t ht => by rw [hG]; exact HE.out.cell t ht
      have hfw : ∀ t, t < n → wr.frozen? ⟨blk, off + t, none⟩ = false := fun t ht => HE.out.free t ht
      have HSw : Hid (∀ q, Nm.In w0 blk off n (Nm.ex P U M V Q (i + 1)) (((wr.drewN q).setCell ⟨blk, off + (a + i), none⟩ (.int .i32 (G (b + i)))).setCell ⟨blk, off + (b + i), none⟩ (.int .i32 (G (a + i))))) := fun q => by
        rw [hG, hG]
        exact HE.out.swap (by omega) (by omega) (Nm.ex_step P U M V Q (by have := HL.out; omega) (by have := HL.out; omega) HL.out.1 HL.out.2.1) q
      have hne : ¬ (a + i = b + i) := by omega
      clear hG HE
      go_wp2
      go_region
      all_goals go_wp2
      go_roundw
      case rel => exact ⟨i + 1, by go_num, by omega, HSw.out 1⟩
      case measure => simp [RowKit.intOf]; omega
    · have e : i = k := by omega
      subst e
      go_wp2
      go_end0
      refine ⟨rfl, ?_⟩
      have h := HE.out
      rw [Nm.ex_all P U M V Q HL.out.2.2.1 HL.out.2.2.2.1] at h
      exact h

set_option maxHeartbeats 4000000 in
theorem nmRot_any (w0 w : World) (blk off n cap a m b : Nat) (cv : Value) (P U V Q : List Int) (h0 : Nm.In w0 blk off n (P ++ U ++ V ++ Q) w) (ha : a = P.length) (hm : m = P.length + U.length) (hb : b = P.length + U.length + V.length) (hu : 0 < U.length) (hv : 0 < V.length) (hsz : n < 1152921504606846976) :
    Calls Try.prog 69 #[.slice (some ⟨blk, off, none⟩) n cap, .int .i64 a, .int .i64 m, .int .i64 b, cv] w fun e w' => e = .returned (.tuple #[]) ∧ Nm.In w0 blk off n (P ++ V ++ U ++ Q) w' := by
  have hlen : (P ++ U ++ V ++ Q).length = n := h0.1
  simp only [List.length_append] at hlen
  have HSw : Hid (∀ (X : World) (a b k : Nat) (P U M V Q : List Int), Nm.In w0 blk off n (P ++ U ++ M ++ V ++ Q) X → a = P.length → b = P.length + U.length + M.length → U.length = k → V.length = k → Calls Try.prog 71 #[.slice (some ⟨blk, off, none⟩) n cap, .int .i64 a, .int .i64 b, .int .i64 k, cv] X fun e w' => e = .returned (.tuple #[]) ∧ Nm.In w0 blk off n (P ++ V ++ M ++ U ++ Q) w') := fun X a b k P U M V Q h1 h2 h3 h4 h5 => nmSwp_any w0 X blk off n cap a b k cv P U M V Q h1 h2 h3 h4 h5 hsz
  obtain ⟨i0, hi0⟩ : ∃ i, U.length = i := ⟨_, rfl⟩
  obtain ⟨j0, hj0⟩ : ∃ j, V.length = j := ⟨_, rfl⟩
  have e1 : (m : Int) - (a : Int) = (i0 : Int) := by omega
  have e2 : (b : Int) - (m : Int) = (j0 : Int) := by omega
  have hmn : m + j0 ≤ n := by omega
  have him : i0 ≤ m := by omega
  have hi0p : 0 < i0 := by omega
  have hj0p : 0 < j0 := by omega
  have HS : Hid (∃ P' U' V' Q' : List Int, Nm.In w0 blk off n (P' ++ U' ++ V' ++ Q') w ∧ U'.length = i0 ∧ V'.length = j0 ∧ m = P'.length + U'.length ∧ P' ++ V' ++ U' ++ Q' = P ++ V ++ U ++ Q) := ⟨P, U, V, Q, h0, hi0, hj0, hm, rfl⟩
  obtain ⟨T, hT⟩ : ∃ T, T = P ++ V ++ U ++ Q := ⟨_, rfl⟩
  rw [← hT] at HS ⊢
  clear h0 ha hm hb hu hv hlen hi0 hj0 hT
  go_enter Try.func69, Try.ntmps69
  go_wp2
  go_loopw [10, 11] (fun vi vj wr => ∃ i j : Nat, vi = .int .i64 i ∧ vj = .int .i64 j ∧ 0 < i ∧ 0 < j ∧ i ≤ m ∧ m + j ≤ n ∧ Hid (∃ P U V Q : List Int, Nm.In w0 blk off n (P ++ U ++ V ++ Q) wr ∧ U.length = i ∧ V.length = j ∧ m = P.length + U.length ∧ P ++ V ++ U ++ Q = T)) (fun vi vj _ => (RowKit.intOf vi).toNat + (RowKit.intOf vj).toNat)
  case atStart => exact ⟨i0, j0, rfl, rfl, hi0p, hj0p, him, hmn, HS.out⟩
  case round =>
    obtain ⟨i, j, rfl, rfl, hi, hj, him', hmn', HE⟩ := hrel
    clear HS e1 e2 hi0p hj0p him hmn
    by_cases hij : i = j
    · obtain ⟨P', U', V', Q', h1, h2, h3, h4, h5⟩ := HE.out
      have hC : Calls Try.prog 71 #[.slice (some ⟨blk, off, none⟩) n cap, .int .i64 ((m : Int) - (i : Int)), .int .i64 m, .int .i64 i, cv] wr fun e w' => e = .returned (.tuple #[]) ∧ Nm.In w0 blk off n T w' := by
        have h := HSw.out wr (m - i) m i P' U' [] V' Q' (by simpa using h1) (by omega) (by simp; omega) h2 (by omega)
        rw [List.append_nil, h5] at h
        rw [show (m : Int) - (i : Int) = ((m - i : Nat) : Int) by omega]
        exact h
      have HC : Hid (Calls Try.prog 71 #[.slice (some ⟨blk, off, none⟩) n cap, .int .i64 ((m : Int) - (i : Int)), .int .i64 m, .int .i64 i, cv] wr fun e w' => e = .returned (.tuple #[]) ∧ Nm.In w0 blk off n T w') := hC
      clear hC HE HSw h1 h2 h3 h4 h5
      subst hij
      go_wp2_with fail
      refine HC.out.mono ?_
      rintro e w1 ⟨rfl, h6⟩
      have H6 : Hid (Nm.In w0 blk off n T w1) := h6
      clear h6 HC
      go_wp2
      go_end0
      exact ⟨rfl, H6.out⟩
    · by_cases hgt : j < i
      · obtain ⟨P', U', V', Q', h1, h2, h3, h4, h5⟩ := HE.out
        have hC : Calls Try.prog 71 #[.slice (some ⟨blk, off, none⟩) n cap, .int .i64 ((m : Int) - (i : Int)), .int .i64 m, .int .i64 j, cv] wr fun e w' => e = .returned (.tuple #[]) ∧ Nm.In w0 blk off n (P' ++ V' ++ U'.drop j ++ U'.take j ++ Q') w' := by
          have h := HSw.out wr (m - i) m j P' (U'.take j) (U'.drop j) V' Q' (by rw [List.append_assoc P', List.take_append_drop]; exact h1) (by omega) (by simp; omega) (by simp; omega) h3
          rw [show (m : Int) - (i : Int) = ((m - i : Nat) : Int) by omega]
          exact h
        have HC : Hid (Calls Try.prog 71 #[.slice (some ⟨blk, off, none⟩) n cap, .int .i64 ((m : Int) - (i : Int)), .int .i64 m, .int .i64 j, cv] wr fun e w' => e = .returned (.tuple #[]) ∧ Nm.In w0 blk off n (P' ++ V' ++ U'.drop j ++ U'.take j ++ Q') w') := hC
        have HX : Hid (∀ w', Nm.In w0 blk off n (P' ++ V' ++ U'.drop j ++ U'.take j ++ Q') w' → ∃ P U V Q : List Int, Nm.In w0 blk off n (P ++ U ++ V ++ Q) w' ∧ U.length = i - j ∧ V.length = j ∧ m = P.length + U.length ∧ P ++ V ++ U ++ Q = T) := fun w' hw => ⟨P' ++ V', U'.drop j, U'.take j, Q', hw, by simp; omega, by simp; omega, by simp; omega, by rw [← h5, List.append_assoc (P' ++ V'), List.take_append_drop]⟩
        clear hC HE h1 h2 h3 h4 h5
        go_wp2_with fail
        refine HC.out.mono ?_
        rintro e w1 ⟨rfl, h6⟩
        have H6 := HX.out w1 h6
        have H7 : Hid (∃ P U V Q : List Int, Nm.In w0 blk off n (P ++ U ++ V ++ Q) w1 ∧ U.length = i - j ∧ V.length = j ∧ m = P.length + U.length ∧ P ++ V ++ U ++ Q = T) := H6
        clear H6 h6 HC HX
        go_wp2
        go_roundw
        case rel => exact ⟨i - j, j, by congr 1; omega, rfl, by omega, hj, by omega, hmn', H7.out⟩
        case measure => simp [RowKit.intOf]; omega
      · obtain ⟨P', U', V', Q', h1, h2, h3, h4, h5⟩ := HE.out
        have hC : Calls Try.prog 71 #[.slice (some ⟨blk, off, none⟩) n cap, .int .i64 ((m : Int) - (i : Int)), .int .i64 ((m : Int) + (j : Int) - (i : Int)), .int .i64 i, cv] wr fun e w' => e = .returned (.tuple #[]) ∧ Nm.In w0 blk off n (P' ++ V'.drop (j - i) ++ V'.take (j - i) ++ U' ++ Q') w' := by
          have h := HSw.out wr (m - i) (m + j - i) i P' U' (V'.take (j - i)) (V'.drop (j - i)) Q' (by rw [List.append_assoc (P' ++ U'), List.take_append_drop]; exact h1) (by omega) (by simp; omega) h2 (by simp; omega)
          rw [show (m : Int) - (i : Int) = ((m - i : Nat) : Int) by omega, show (m : Int) + (j : Int) - (i : Int) = ((m + j - i : Nat) : Int) by omega]
          exact h
        have HC : Hid (Calls Try.prog 71 #[.slice (some ⟨blk, off, none⟩) n cap, .int .i64 ((m : Int) - (i : Int)), .int .i64 ((m : Int) + (j : Int) - (i : Int)), .int .i64 i, cv] wr fun e w' => e = .returned (.tuple #[]) ∧ Nm.In w0 blk off n (P' ++ V'.drop (j - i) ++ V'.take (j - i) ++ U' ++ Q') w') := hC
        have HX : Hid (∀ w', Nm.In w0 blk off n (P' ++ V'.drop (j - i) ++ V'.take (j - i) ++ U' ++ Q') w' → ∃ P U V Q : List Int, Nm.In w0 blk off n (P ++ U ++ V ++ Q) w' ∧ U.length = i ∧ V.length = j - i ∧ m = P.length + U.length ∧ P ++ V ++ U ++ Q = T) := fun w' hw => ⟨P', V'.drop (j - i), V'.take (j - i), U' ++ Q', by rw [← List.append_assoc]; exact hw, by simp; omega, by simp; omega, by simp; omega, by rw [← h5, List.append_assoc P' (V'.take (j - i)), List.take_append_drop]; simp⟩
        have h7 : i < j := by omega
        clear hC HE h1 h2 h3 h4 h5
        go_wp2_with fail
        refine HC.out.mono ?_
        rintro e w1 ⟨rfl, h6⟩
        have H6 := HX.out w1 h6
        have H7 : Hid (∃ P U V Q : List Int, Nm.In w0 blk off n (P ++ U ++ V ++ Q) w1 ∧ U.length = i ∧ V.length = j - i ∧ m = P.length + U.length ∧ P ++ V ++ U ++ Q = T) := H6
        clear H6 h6 HC HX
        go_wp2
        go_roundw
        case rel => exact ⟨i, j - i, rfl, by congr 1; omega, hi, by omega, him', by omega, H7.out⟩
        case measure => simp [RowKit.intOf]; omega

end Go.Proofs.Ytbclmmkphjknaaa

/-
  Marks put into their places one after the other.
-/
namespace Go.Proofs.Ytbclmmkphjknaaa
open Go.RowKit Go.Sort Go.Shelf
set_option maxRecDepth 20000
set_option linter.unusedSimpArgs false
set_option linter.unusedVariables false

namespace Nm
/-- a mark that is put into its place -/
theorem put_srt {D1 D2 : List Int} {x : Int} (h : Srt (D1 ++ D2)) (h1 : ∀ u ∈ D1, cls u ≤ cls x) (h2 : ∀ u ∈ D2, cls x < cls u) : Srt (D1 ++ x :: D2) := by
  obtain ⟨a, b, c⟩ := h.parts
  refine Srt.app a (List.pairwise_cons.2 ⟨fun u hu => by have := h2 u hu; omega, b⟩) fun u hu v hv => ?_
  rcases List.mem_cons.1 hv with rfl | hv
  · exact h1 u hu
  · exact c u hu v hv
theorem put_eqv {D1 D2 : List Int} {x : Int} (h2 : ∀ u ∈ D2, cls x < cls u) : Eqv (D1 ++ D2 ++ [x]) (D1 ++ x :: D2) := by
  rw [List.append_assoc]
  exact (Eqv.refl D1).app (Eqv.rot (U := D2) (V := [x]) fun u hu y hy => by simp at hy; subst hy; exact h2 u hu)
/-- where an insertion stands -/
def Ins (w0 : World) (blk off n a b : Nat) (P S Q : List Int) (i : Nat) (wr : World) : Prop :=
  ∃ D R : List Int, In w0 blk off n (P ++ (D ++ (R ++ Q))) wr ∧ D.length + R.length = S.length ∧ (i ≤ b → a + D.length = i) ∧ (b < i → R = []) ∧ Srt D ∧ Eqv S (D ++ R)
/-- and within: x stands at j -/
def InsJ (w0 : World) (blk off n a : Nat) (P D R Q : List Int) (x : Int) (j : Nat) (wr : World) : Prop :=
  ∃ D1 D2 : List Int, D = D1 ++ D2 ∧ a + D1.length = j ∧ (∀ u ∈ D2, cls x < cls u) ∧ In w0 blk off n (P ++ (D1 ++ x :: (D2 ++ (R ++ Q)))) wr
end Nm

set_option maxHeartbeats 4000000 in
theorem nmIns_any (w0 w : World) (blk off n cap a b : Nat) (P S Q : List Int) (h0 : Nm.In w0 blk off n (P ++ S ++ Q) w) (ha : a = P.length) (hb : b = P.length + S.length) (hsz : n < 1152921504606846976) :
    Calls Try.prog 66 #[.slice (some ⟨blk, off, none⟩) n cap, .int .i64 a, .int .i64 b, .func (.func 47) #[] #[]] w fun e w' => e = .returned (.tuple #[]) ∧ ∃ S', S'.length = S.length ∧ Nm.Srt S' ∧ Nm.Eqv S S' ∧ Nm.In w0 blk off n (P ++ S' ++ Q) w' := by
  have eg : ∀ args w, (callFunc 47 args).run Try.prog w = .ok (.enter 47 args) w := enters_of Try.func47 (by kernel_rfl) rfl
  have hlen : (P ++ S ++ Q).length = n := h0.1
  simp only [List.length_append] at hlen
  have hbn : b ≤ n := by omega
  have hab : a ≤ b := by omega
  have HL : Hid (a = P.length ∧ b = P.length + S.length ∧ P.length + S.length + Q.length = n) := ⟨ha, hb, hlen⟩
  have HS : Hid (Nm.Ins w0 blk off n a b P S Q (a + 1) w) := by
    show Nm.Ins _ _ _ _ _ _ _ _ _ _ _
    cases S with
    | nil => exact ⟨[], [], by simpa using h0, rfl, fun h => by simp at hb; omega, fun _ => rfl, Nm.Srt.nil, Nm.Eqv.refl _⟩
    | cons x S => exact ⟨[x], S, by simpa using h0, by simp; omega, fun _ => rfl, fun h => by simp at hb; omega, Nm.Srt.one x, Nm.Eqv.refl _⟩
  clear h0 ha hb hlen
  go_enter Try.func66, Try.ntmps66
  go_wp2
  go_loopw [8] (fun vi wr => ∃ i : Nat, vi = .int .i64 i ∧ a < i ∧ i ≤ b + 1 ∧ Hid (Nm.Ins w0 blk off n a b P S Q i wr)) (fun vi _ => b + 1 - (RowKit.intOf vi).toNat)
  case atStart => exact ⟨a + 1, by go_num, by omega, by omega, HS.out⟩
  case round =>
    obtain ⟨i, rfl, hai, hib, HE⟩ := hrel
    clear HS
    by_cases hlt : i < b
    · obtain ⟨D, R, h1, h2, h3, h4, h5, h6⟩ := HE.out
      obtain ⟨x, R', rfl⟩ : ∃ x R', R = x :: R' := by
        cases R with
        | nil => exfalso; have := h3 (by omega); have := HL.out; simp at h2; omega
        | cons x R' => exact ⟨x, R', rfl⟩
      have HD : Hid (D.length + R'.length + 1 = S.length ∧ a + D.length = i ∧ Nm.Srt D ∧ Nm.Eqv S (D ++ x :: R')) := ⟨by simp at h2; omega, h3 (by omega), h5, h6⟩
      have HJ : Hid (Nm.InsJ w0 blk off n a P D R' Q x i wr) := ⟨D, [], by simp, HD.out.2.1, fun u hu => by (cases hu), by simpa using h1⟩
      have HNx : Hid (∀ (D1 D2 : List Int) (X : World), D = D1 ++ D2 → (∀ u ∈ D1, Nm.cls u ≤ Nm.cls x) → (∀ u ∈ D2, Nm.cls x < Nm.cls u) → Nm.In w0 blk off n (P ++ (D1 ++ x :: (D2 ++ (R' ++ Q)))) X → Nm.Ins w0 blk off n a b P S Q (i + 1) X) := fun D1 D2 X e k1 k2 k3 => by
        obtain ⟨d1, d2, d3, d4⟩ := HD.out
        have hl := congrArg List.length e
        rw [List.length_append] at hl
        refine ⟨D1 ++ x :: D2, R', by simpa using k3, by simp; omega, fun _ => by simp; omega, fun h => by omega, Nm.put_srt (e ▸ d3) k1 k2, d4.trans ?_⟩
        have h7 := (Nm.put_eqv (D1 := D1) k2).app (Nm.Eqv.refl R')
        rw [← e] at h7
        simpa using h7
      have HDs : Hid (Nm.Srt D) := h5
      clear h1 h2 h3 h4 h5 h6 HE HD
      go_wp2
      go_loopw [9] (fun vj w2 => ∃ j : Nat, vj = .int .i64 j ∧ a ≤ j ∧ j ≤ i ∧ Hid (Nm.InsJ w0 blk off n a P D R' Q x j w2)) (fun vj _ => (RowKit.intOf vj).toNat)
      case atStart => exact ⟨i, rfl, by omega, Nat.le_refl _, HJ.out⟩
      case round =>
        obtain ⟨j, rfl, haj, hji, HF⟩ := hrel
        clear HJ
        obtain ⟨D1, D2, hD, hj, hD2, hin⟩ := HF.out
        obtain ⟨G, hG⟩ : ∃ G : Nat → Int, ∀ t, G t = (P ++ (D1 ++ x :: (D2 ++ (R' ++ Q)))).toArray[t]! := ⟨fun t => (P ++ (D1 ++ x :: (D2 ++ (R' ++ Q)))).toArray[t]!, fun _ => rfl⟩
        have hcw : ∀ t, t < n → wr.cell? ⟨blk, off + t, none⟩ = some (.int .i32 (G t)) := fun t ht => by rw [hG]; exact hin.cell t ht
        have hfw : ∀ t, t < n → wr.frozen? ⟨blk, off + t, none⟩ = false := fun t ht => hin.free t ht
        have hGx : G j = x := by
          rw [hG]
          have := Nm.at_mid (P ++ D1) (D2 ++ (R' ++ Q)) x (i := j) (by have := HL.out.1; simp; omega)
          simpa using this
        have HIn : Hid (Nm.In w0 blk off n (P ++ (D1 ++ x :: (D2 ++ (R' ++ Q)))) wr) := hin
        by_cases hja : a < j
        · obtain ⟨D0, y, rfl⟩ : ∃ D0 y, D1 = D0 ++ [y] := by
            rcases List.eq_nil_or_concat D1 with e | ⟨D0, y, e⟩
            · subst e; simp at hj; omega
            · exact ⟨D0, y, by simpa using e⟩
          have hl0 : a + D0.length + 1 = j := by simp at hj; omega
          have hGy : G (j - 1) = y := by
            rw [hG]
            have := Nm.at_mid (P ++ D0) (x :: (D2 ++ (R' ++ Q))) y (i := j - 1) (by have := HL.out.1; simp; omega)
            simpa using this
          have HW : Hid (Nm.cls x < Nm.cls y → ∀ q, Nm.InsJ w0 blk off n a P D R' Q x (j - 1) (((wr.drewN q).setCell ⟨blk, off + j, none⟩ (.int .i32 y)).setCell ⟨blk, off + (j - 1), none⟩ (.int .i32 x))) := fun hxy q => by
            refine ⟨D0, y :: D2, by rw [hD]; simp, by omega, fun u hu => ?_, ?_⟩
            · rcases List.mem_cons.1 hu with rfl | hu
              · exact hxy
              · exact hD2 u hu
            · have e := Nm.swp_mid2 (P ++ D0) [] (D2 ++ (R' ++ Q)) y x (i := j - 1) (j := j) (by have := HL.out.1; simp; omega) (by have := HL.out.1; simp; omega)
              have e2 : P ++ (D0 ++ [y] ++ x :: (D2 ++ (R' ++ Q))) = P ++ D0 ++ y :: ([] ++ x :: (D2 ++ (R' ++ Q))) := by simp
              have h := (HIn.out.of e2).swap (i := j) (j := j - 1) (by omega) (by omega) e q
              rw [← e2, ← hG, ← hG, hGx, hGy] at h
              simpa using h
          have HX : Hid (¬ Nm.cls x < Nm.cls y → ∀ q, Nm.Ins w0 blk off n a b P S Q (i + 1) (wr.drewN q)) := fun hxy q => HNx.out _ _ _ hD (fun u hu => by
            have hs : Nm.Srt ((D0 ++ [y]) ++ D2) := hD ▸ HDs.out
            rcases List.mem_append.1 hu with h | h
            · have := (hs.parts.1).ahead h; omega
            · simp at h; subst h; omega) hD2 (HIn.out.drew q)
          have HC : Hid (Nm.cmp x y < 0 ↔ Nm.cls x < Nm.cls y) := Nm.cmp_lt
          clear hG HF hin HIn hD hD2 hj HNx
          go_wp2
          by_cases hxy : Nm.cmp x y < 0
          · go_quiet (first | (go_at_call 47; refine Calls.quiet_of_same (nmCmp_any _ _ _)))
            go_wp2
            go_region
            all_goals go_wp2
            go_roundw
            case rel => exact ⟨j - 1, by congr 1; omega, by omega, by omega, HW.out (HC.out.1 hxy) _⟩
            case measure => simp [RowKit.intOf]; omega
          · go_quiet (first | (go_at_call 47; refine Calls.quiet_of_same (nmCmp_any _ _ _)))
            go_wp2
            go_roundw
            case rel => exact ⟨i + 1, by go_num, by omega, by omega, HX.out (Int.not_lt.1 fun h => hxy (HC.out.2 h)) _⟩
            case measure => simp [RowKit.intOf]; omega
        · have e0 : D1 = [] := List.eq_nil_of_length_eq_zero (by omega)
          have HX : Hid (∀ q, Nm.Ins w0 blk off n a b P S Q (i + 1) (wr.drewN q)) := fun q => HNx.out _ _ _ hD (fun u hu => by rw [e0] at hu; cases hu) hD2 (HIn.out.drew q)
          clear hG HF hin HIn hD hD2 hj HNx e0
          go_wp2
          go_quiet (first | (go_at_call 47; refine Calls.quiet_of_same (nmCmp_any _ _ _)))
          go_wp2
          go_roundw
          case rel => exact ⟨i + 1, by go_num, by omega, by omega, HX.out _⟩
          case measure => simp [RowKit.intOf]; omega
    · go_wp2
      go_end0
      obtain ⟨D, R, h1, h2, h3, h4, h5, h6⟩ := HE.out
      have hR : R = [] := by
        by_cases h : b < i
        · exact h4 h
        · have := h3 (by omega)
          have := HL.out
          exact List.eq_nil_of_length_eq_zero (by omega)
      subst hR
      simp only [List.append_nil, List.nil_append] at h1 h6
      exact ⟨rfl, D, by simpa using h2, h5, h6, by simpa using h1⟩

end Go.Proofs.Ytbclmmkphjknaaa
