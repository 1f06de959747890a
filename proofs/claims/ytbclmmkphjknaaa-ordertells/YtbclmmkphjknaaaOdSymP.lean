/-
  Marks put into their places one after the other.
-/
import Derived.Test.YtbclmmkphjknaaaOdSwp
import Derived.Shelf.Abstract
namespace Go.Proofs.Ytbclmmkphjknaaa
open Go.RowKit Go.Sort Go.Shelf
set_option maxRecDepth 20000
set_option linter.unusedSimpArgs false
set_option linter.unusedVariables false

namespace Od
variable [Ck]
/-- a mark that is put into its place -/
theorem put_srt {D1 D2 : List Int} {x : Int} (h : Srt (D1 ++ D2)) (h1 : ∀ u ∈ D1, cls u ≤ cls x) (h2 : ∀ u ∈ D2, cls x < cls u) : Srt (D1 ++ x :: D2) := by
  obtain ⟨a, b, c⟩ := h.parts
  refine Srt.app a (List.pairwise_cons.2 ⟨fun u hu => by have := h2 u hu; omega, b⟩) fun u hu v hv => ?_
  rcases List.mem_cons.1 hv with rfl | hv
  · exact h1 u hu
  · exact c u hu v hv
theorem put_eqv {D1 D2 : List Int} {x : Int} (h2 : ∀ u ∈ D2, cls x < cls u) : Eqv (D1 ++ D2 ++ [x]) (D1 ++ x :: D2) := by
  rw [List.append_assoc]
  exact (Eqv.refl D1).app (Eqv.rot (U := D2) (V := [x]) fun u hu y hy => by simp at hy; subst hy; exact h2 u hu)
/-- where an insertion stands -/
def Ins (w0 : World) (blk off n a b : Nat) (P S Q : List Int) (i : Nat) (wr : World) : Prop :=
  ∃ D R : List Int, In w0 blk off n (P ++ (D ++ (R ++ Q))) wr ∧ D.length + R.length = S.length ∧ (i ≤ b → a + D.length = i) ∧ (b < i → R = []) ∧ Srt D ∧ Eqv S (D ++ R)
/-- and within: x stands at j -/
def InsJ (w0 : World) (blk off n a : Nat) (P D R Q : List Int) (x : Int) (j : Nat) (wr : World) : Prop :=
  ∃ D1 D2 : List Int, D = D1 ++ D2 ∧ a + D1.length = j ∧ (∀ u ∈ D2, cls x < cls u) ∧ In w0 blk off n (P ++ (D1 ++ x :: (D2 ++ (R ++ Q)))) wr
end Od

set_option maxHeartbeats 4000000 in
theorem odIns_any [Od.Ck] (w0 w : World) (blk off n cap a b : Nat) (P S Q : List Int) (HK : Hid (Od.Con w0 blk)) (h0 : Od.In w0 blk off n (P ++ S ++ Q) w) (ha : a = P.length) (hb : b = P.length + S.length) (hsz : n < 1152921504606846976) :
    Calls Try.prog 64 #[.slice (some ⟨blk, off, none⟩) n cap, .int .i64 a, .int .i64 b, .func (.func 54) #[] #[.pointer (some ⟨Od.Ck.kb, 0, none⟩)]] w fun e w' => e = .returned (.tuple #[]) ∧ ∃ S', S'.length = S.length ∧ Od.Srt S' ∧ Od.Eqv S S' ∧ Od.In w0 blk off n (P ++ S' ++ Q) w' := by
  have eg : ∀ args w, (callFunc 54 args).run Try.prog w = .ok (.enter 54 args) w := enters_of Try.func54 (by kernel_rfl) rfl
  have hlen : (P ++ S ++ Q).length = n := h0.1
  simp only [List.length_append] at hlen
  have hbn : b ≤ n := by omega
  have hab : a ≤ b := by omega
  have HL : Hid (a = P.length ∧ b = P.length + S.length ∧ P.length + S.length + Q.length = n) := ⟨ha, hb, hlen⟩
  have HS : Hid (Od.Ins w0 blk off n a b P S Q (a + 1) w) := by
    show Od.Ins _ _ _ _ _ _ _ _ _ _ _
    cases S with
    | nil => exact ⟨[], [], by simpa using h0, rfl, fun h => by simp at hb; omega, fun _ => rfl, Od.Srt.nil, Od.Eqv.refl _⟩
    | cons x S => exact ⟨[x], S, by simpa using h0, by simp; omega, fun _ => rfl, fun h => by simp at hb; omega, Od.Srt.one x, Od.Eqv.refl _⟩
  clear h0 ha hb hlen
  go_enter Try.func64, Try.ntmps64
  go_wp2
  go_loopw [8] (fun vi wr => ∃ i : Nat, vi = .int .i64 i ∧ a < i ∧ i ≤ b + 1 ∧ Hid (Od.Ins w0 blk off n a b P S Q i wr)) (fun vi _ => b + 1 - (RowKit.intOf vi).toNat)
  case atStart => exact ⟨a + 1, by go_num, by omega, by omega, HS.out⟩
  case round =>
    obtain ⟨i, rfl, hai, hib, HE⟩ := hrel
    clear HS
    by_cases hlt : i < b
    · obtain ⟨D, R, h1, h2, h3, h4, h5, h6⟩ := HE.out
      obtain ⟨x, R', rfl⟩ : ∃ x R', R = x :: R' := by
        cases R with
        | nil => exfalso; have := h3 (by omega); have := HL.out; simp at h2; omega
        | cons x R' => exact ⟨x, R', rfl⟩
      have HD : Hid (D.length + R'.length + 1 = S.length ∧ a + D.length = i ∧ Od.Srt D ∧ Od.Eqv S (D ++ x :: R')) := ⟨by simp at h2; omega, h3 (by omega), h5, h6⟩
      have HJ : Hid (Od.InsJ w0 blk off n a P D R' Q x i wr) := ⟨D, [], by simp, HD.out.2.1, fun u hu => by (cases hu), by simpa using h1⟩
      have HNx : Hid (∀ (D1 D2 : List Int) (X : World), D = D1 ++ D2 → (∀ u ∈ D1, Od.cls u ≤ Od.cls x) → (∀ u ∈ D2, Od.cls x < Od.cls u) → Od.In w0 blk off n (P ++ (D1 ++ x :: (D2 ++ (R' ++ Q)))) X → Od.Ins w0 blk off n a b P S Q (i + 1) X) := fun D1 D2 X e k1 k2 k3 => by
        obtain ⟨d1, d2, d3, d4⟩ := HD.out
        have hl := congrArg List.length e
        rw [List.length_append] at hl
        refine ⟨D1 ++ x :: D2, R', by simpa using k3, by simp; omega, fun _ => by simp; omega, fun h => by omega, Od.put_srt (e ▸ d3) k1 k2, d4.trans ?_⟩
        have h7 := (Od.put_eqv (D1 := D1) k2).app (Od.Eqv.refl R')
        rw [← e] at h7
        simpa using h7
      have HDs : Hid (Od.Srt D) := h5
      clear h1 h2 h3 h4 h5 h6 HE HD
      go_wp2
      go_loopw [9] (fun vj w2 => ∃ j : Nat, vj = .int .i64 j ∧ a ≤ j ∧ j ≤ i ∧ Hid (Od.InsJ w0 blk off n a P D R' Q x j w2)) (fun vj _ => (RowKit.intOf vj).toNat)
      case atStart => exact ⟨i, rfl, by omega, Nat.le_refl _, HJ.out⟩
      case round =>
        obtain ⟨j, rfl, haj, hji, HF⟩ := hrel
        clear HJ
        obtain ⟨D1, D2, hD, hj, hD2, hin⟩ := HF.out
        obtain ⟨G, hG⟩ : ∃ G : Nat → Int, ∀ t, G t = (P ++ (D1 ++ x :: (D2 ++ (R' ++ Q)))).toArray[t]! := ⟨fun t => (P ++ (D1 ++ x :: (D2 ++ (R' ++ Q)))).toArray[t]!, fun _ => rfl⟩
        have hcw : ∀ t, t < n → wr.cell? ⟨blk, off + t, none⟩ = some (.int .i64 (G t)) := fun t ht => by rw [hG]; exact hin.cell t ht
        have hfw : ∀ t, t < n → wr.frozen? ⟨blk, off + t, none⟩ = false := fun t ht => hin.free t ht
        have hGx : G j = x := by
          rw [hG]
          have := Nm.at_mid (P ++ D1) (D2 ++ (R' ++ Q)) x (i := j) (by have := HL.out.1; simp; omega)
          simpa using this
        have HIn : Hid (Od.In w0 blk off n (P ++ (D1 ++ x :: (D2 ++ (R' ++ Q)))) wr) := hin
        by_cases hja : a < j
        · obtain ⟨D0, y, rfl⟩ : ∃ D0 y, D1 = D0 ++ [y] := by
            rcases List.eq_nil_or_concat D1 with e | ⟨D0, y, e⟩
            · subst e; simp at hj; omega
            · exact ⟨D0, y, by simpa using e⟩
          have hl0 : a + D0.length + 1 = j := by simp at hj; omega
          have hGy : G (j - 1) = y := by
            rw [hG]
            have := Nm.at_mid (P ++ D0) (x :: (D2 ++ (R' ++ Q))) y (i := j - 1) (by have := HL.out.1; simp; omega)
            simpa using this
          have HW : Hid (Od.cls x < Od.cls y → ∀ q, Od.InsJ w0 blk off n a P D R' Q x (j - 1) (((wr.drewN q).setCell ⟨blk, off + j, none⟩ (.int .i64 y)).setCell ⟨blk, off + (j - 1), none⟩ (.int .i64 x))) := fun hxy q => by
            refine ⟨D0, y :: D2, by rw [hD]; simp, by omega, fun u hu => ?_, ?_⟩
            · rcases List.mem_cons.1 hu with rfl | hu
              · exact hxy
              · exact hD2 u hu
            · have e := Nm.swp_mid2 (P ++ D0) [] (D2 ++ (R' ++ Q)) y x (i := j - 1) (j := j) (by have := HL.out.1; simp; omega) (by have := HL.out.1; simp; omega)
              have e2 : P ++ (D0 ++ [y] ++ x :: (D2 ++ (R' ++ Q))) = P ++ D0 ++ y :: ([] ++ x :: (D2 ++ (R' ++ Q))) := by simp
              have h := (HIn.out.of e2).swap (i := j) (j := j - 1) (by omega) (by omega) e q
              rw [← e2, ← hG, ← hG, hGx, hGy] at h
              simpa using h
          have HX : Hid (¬ Od.cls x < Od.cls y → ∀ q, Od.Ins w0 blk off n a b P S Q (i + 1) (wr.drewN q)) := fun hxy q => HNx.out _ _ _ hD (fun u hu => by
            have hs : Od.Srt ((D0 ++ [y]) ++ D2) := hD ▸ HDs.out
            rcases List.mem_append.1 hu with h | h
            · have := (hs.parts.1).ahead h; omega
            · simp at h; subst h; omega) hD2 (HIn.out.drew q)
          have HC : Hid (Od.cmp x y < 0 ↔ Od.cls x < Od.cls y) := Od.cmp_lt
          have hcm := HIn.out.con HK.out (x := x) (y := y) (by rw [← hGx, hG]; exact HIn.out.okAt (by omega)) (by rw [← hGy, hG]; exact HIn.out.okAt (by omega))
          clear hG HF hin HIn hD hD2 hj HNx
          go_wp2
          by_cases hxy : Od.cmp x y < 0
          · go_quiet (first | (go_at_call 54; refine Calls.quiet_of_same (hcm _ (by first | rfl | simp))))
            go_wp2
            go_region
            all_goals go_wp2
            go_roundw
            case rel => exact ⟨j - 1, by congr 1; omega, by omega, by omega, HW.out (HC.out.1 hxy) _⟩
            case measure => simp [RowKit.intOf]; omega
          · go_quiet (first | (go_at_call 54; refine Calls.quiet_of_same (hcm _ (by first | rfl | simp))))
            go_wp2
            go_roundw
            case rel => exact ⟨i + 1, by go_num, by omega, by omega, HX.out (Int.not_lt.1 fun h => hxy (HC.out.2 h)) _⟩
            case measure => simp [RowKit.intOf]; omega
        · have e0 : D1 = [] := List.eq_nil_of_length_eq_zero (by omega)
          have HX : Hid (∀ q, Od.Ins w0 blk off n a b P S Q (i + 1) (wr.drewN q)) := fun q => HNx.out _ _ _ hD (fun u hu => by rw [e0] at hu; cases hu) hD2 (HIn.out.drew q)
          clear hG HF hin HIn hD hD2 hj HNx e0
          go_wp2
          go_quiet (first | (go_at_call 54; refine Calls.quiet_of_same (hcm _ (by first | rfl | simp))))
          go_wp2
          go_roundw
          case rel => exact ⟨i + 1, by go_num, by omega, by omega, HX.out _⟩
          case measure => simp [RowKit.intOf]; omega
    · go_wp2
      go_end0
      obtain ⟨D, R, h1, h2, h3, h4, h5, h6⟩ := HE.out
      have hR : R = [] := by
        by_cases h : b < i
        · exact h4 h
        · have := h3 (by omega)
          have := HL.out
          exact List.eq_nil_of_length_eq_zero (by omega)
      subst hR
      simp only [List.append_nil, List.nil_append] at h1 h6
      exact ⟨rfl, D, by simpa using h2, h5, h6, by simpa using h1⟩

end Go.Proofs.Ytbclmmkphjknaaa

/-
  Two rows of marks in order, made one: what parts them, and what moves one mark along. Plain lists.
-/
namespace Go.Proofs.Ytbclmmkphjknaaa.Od
variable [Ck]
open Go.Sort
set_option linter.unusedSimpArgs false
set_option linter.unusedVariables false

theorem srt_get {B : List Int} (h : Srt B) {i j : Nat} (hij : i ≤ j) (hj : j < B.length) : cls (B[i]'(by omega)) ≤ cls B[j] := by
  by_cases e : i = j
  · subst e; exact Int.le_refl _
  · exact List.pairwise_iff_getElem.1 h i j (by omega) hj (by omega)
theorem srt_take_lt {B : List Int} {k : Nat} {c : Int} (h : Srt B) (hk : k ≤ B.length) (h1 : ∀ (h : 0 < k), cls (B[k - 1]'(by omega)) < c) : ∀ u ∈ B.take k, cls u < c := by
  intro u hu
  obtain ⟨i, hi, rfl⟩ := List.getElem_of_mem hu
  rw [List.length_take] at hi
  rw [List.getElem_take]
  exact Int.lt_of_le_of_lt (srt_get h (j := k - 1) (by omega) (by omega)) (h1 (by omega))
theorem srt_take_le {B : List Int} {k : Nat} {c : Int} (h : Srt B) (hk : k ≤ B.length) (h1 : ∀ (h : 0 < k), cls (B[k - 1]'(by omega)) ≤ c) : ∀ u ∈ B.take k, cls u ≤ c := by
  intro u hu
  obtain ⟨i, hi, rfl⟩ := List.getElem_of_mem hu
  rw [List.length_take] at hi
  rw [List.getElem_take]
  exact Int.le_trans (srt_get h (j := k - 1) (by omega) (by omega)) (h1 (by omega))
theorem srt_drop_le {B : List Int} {k : Nat} {c : Int} (h : Srt B) (h1 : ∀ (h : k < B.length), c ≤ cls B[k]) : ∀ u ∈ B.drop k, c ≤ cls u := by
  intro u hu
  obtain ⟨i, hi, rfl⟩ := List.getElem_of_mem hu
  rw [List.length_drop] at hi
  rw [List.getElem_drop]
  exact Int.le_trans (h1 (by omega)) (srt_get h (by omega) (by omega))
theorem srt_drop_lt {B : List Int} {k : Nat} {c : Int} (h : Srt B) (h1 : ∀ (h : k < B.length), c < cls B[k]) : ∀ u ∈ B.drop k, c < cls u := by
  intro u hu
  obtain ⟨i, hi, rfl⟩ := List.getElem_of_mem hu
  rw [List.length_drop] at hi
  rw [List.getElem_drop]
  exact Int.lt_of_lt_of_le (h1 (by omega)) (srt_get h (by omega) (by omega))
/-- one mark and a row -/
theorem one_srt {B : List Int} {x : Int} {k : Nat} (h : Srt B) (h1 : ∀ u ∈ B.take k, cls u < cls x) (h2 : ∀ u ∈ B.drop k, cls x ≤ cls u) : Srt (B.take k ++ x :: B.drop k) ∧ Eqv (x :: B) (B.take k ++ x :: B.drop k) := by
  rw [← List.take_append_drop k B] at h
  obtain ⟨a, b, c⟩ := h.parts
  refine ⟨Srt.app a (List.pairwise_cons.2 ⟨h2, b⟩) fun u hu v hv => ?_, ?_⟩
  · rcases List.mem_cons.1 hv with rfl | hv
    · have := h1 u hu; omega
    · exact c u hu v hv
  · have e : x :: B = [x] ++ B.take k ++ B.drop k := by simp
    have e2 : B.take k ++ x :: B.drop k = B.take k ++ [x] ++ B.drop k := by simp
    rw [e, e2]
    exact (Eqv.rot (U := [x]) fun u hu y hy => by simp at hu; subst hu; exact h1 y hy).app (Eqv.refl _)
/-- the four parts of two rows -/
theorem four {A B : List Int} {s e : Nat} (hA : Srt A) (hB : Srt B) (h1 : ∀ u ∈ A.take s, ∀ v ∈ B.drop e, cls u ≤ cls v) (h2 : ∀ u ∈ A.drop s, ∀ v ∈ B.take e, cls v < cls u) {S1 S2 : List Int} (k1 : Srt S1) (k2 : Srt S2) (q1 : Eqv (A.take s ++ B.take e) S1) (q2 : Eqv (A.drop s ++ B.drop e) S2) : Srt (S1 ++ S2) ∧ Eqv (A ++ B) (S1 ++ S2) := by
  rw [← List.take_append_drop s A] at hA
  rw [← List.take_append_drop e B] at hB
  obtain ⟨_, _, ca⟩ := hA.parts
  obtain ⟨_, _, cb⟩ := hB.parts
  refine ⟨Srt.app k1 k2 fun u hu v hv => ?_, ?_⟩
  · have hu' := q1.symm.mem hu
    have hv' := q2.symm.mem hv
    rcases List.mem_append.1 hu' with a | a <;> rcases List.mem_append.1 hv' with b | b
    · exact ca u a v b
    · exact h1 u a v b
    · have := h2 v b u a; omega
    · exact cb u a v b
  · have e0 : A ++ B = A.take s ++ ((A.drop s ++ B.take e) ++ B.drop e) := by
      rw [List.append_assoc, List.take_append_drop e B, ← List.append_assoc, List.take_append_drop s A]
    rw [e0]
    have h3 : Eqv (A.take s ++ ((A.drop s ++ B.take e) ++ B.drop e)) (A.take s ++ ((B.take e ++ A.drop s) ++ B.drop e)) := (Eqv.refl _).app ((Eqv.rot h2).app (Eqv.refl _))
    refine h3.trans ?_
    have e1 : A.take s ++ ((B.take e ++ A.drop s) ++ B.drop e) = (A.take s ++ B.take e) ++ (A.drop s ++ B.drop e) := by simp
    rw [e1]
    exact q1.app q2
end Go.Proofs.Ytbclmmkphjknaaa.Od
