/-
  Keys in memory, and one held against the other: order.ranking's function, slices.Compare, oneIf.
-/
import Derived.Test.YtbclmmkphjknaaaOdP
import Derived.Test.YtbclmmkphjknaaaKBox
import Derived.Test.YtbclmmkphjknaaaNmIn
namespace Go.Proofs.Ytbclmmkphjknaaa
open Go.RowKit
set_option maxRecDepth 20000
set_option linter.unusedSimpArgs false
set_option linter.unusedVariables false

theorem odOne_any (b : Bool) (w : World) : Calls Try.prog 38 #[.bool b] w fun e w' => e = .returned (.int .i64 (if b = true then 1 else 0)) ∧ w' = w := by
  cases b with
  | true =>
    go_enter Try.func38, Try.ntmps38
    go_wp2
    go_ret
    exact ⟨by simp, rfl⟩
  | false =>
    go_enter Try.func38, Try.ntmps38
    go_wp2
    go_ret
    exact ⟨by simp, rfl⟩

namespace Od
theorem drop_at {l : List Int} {j : Nat} {x : Int} (h : l[j]? = some x) : l.drop j = x :: l.drop (j + 1) := by
  obtain ⟨hj, e⟩ := List.getElem?_eq_some_iff.1 h
  rw [List.drop_eq_getElem_cons hj, e]
end Od

set_option maxHeartbeats 2000000 in
theorem odSl_any (w : World) (va vb : Value) (a b : List Int) (Ra : L.Rd w va .i64 a) (Rb : L.Rd w vb .i64 b) (ha : a.length ≤ 1000000) (hb : b.length ≤ 1000000) :
    Calls Try.prog 55 #[va, vb] w fun e w' => e = .returned (.int .i64 (Od.cmpL a b)) ∧ w' = w := by
  obtain ⟨ao, ca, rfl, _, hca⟩ := Ra
  obtain ⟨bo, cb, rfl, _, hcb⟩ := Rb
  obtain ⟨o, ho⟩ : ∃ o, o = Od.cmpL a b := ⟨_, rfl⟩
  have HO : Hid (o = Od.cmpL a b) := ho
  rw [← ho]
  have HC : Hid (∀ X (x y : Int), Calls Try.prog 48 #[.int .i64 x, .int .i64 y] X fun e w' => e = .returned (.int .i64 (if x < y then -1 else if y < x then 1 else 0)) ∧ w' = X) := fun X x y => nmCompare_any X x y
  have HA : Hid (∀ (j : Nat) z, a[j]? = some z → ∃ g off, ao = some ⟨g, off, none⟩ ∧ w.cell? ⟨g, off + j, none⟩ = some (.int .i64 z)) := fun j z hj => by
    obtain ⟨g, off, rfl, hc⟩ := hca (by intro h; subst h; simp at hj)
    exact ⟨g, off, rfl, hc j z hj⟩
  have HB : Hid (∀ (j : Nat) z, b[j]? = some z → ∃ g off, bo = some ⟨g, off, none⟩ ∧ w.cell? ⟨g, off + j, none⟩ = some (.int .i64 z)) := fun j z hj => by
    obtain ⟨g, off, rfl, hc⟩ := hcb (by intro h; subst h; simp at hj)
    exact ⟨g, off, rfl, hc j z hj⟩
  clear hca hcb ho
  go_enter Try.func55, Try.ntmps55
  go_wp2
  go_loopw [11] (fun vi wr => ∃ j : Nat, vi = .int .i64 j ∧ j ≤ a.length ∧ j ≤ b.length ∧ wr = w ∧ Hid (Od.cmpL (a.drop j) (b.drop j) = o)) (fun vi _ => a.length - (intOf vi).toNat)
  case atStart => exact ⟨0, rfl, Nat.zero_le _, Nat.zero_le _, rfl, HO.out.symm⟩
  case round =>
    obtain ⟨j, rfl, hja, hjb, rfl, HD⟩ := hrel
    by_cases h1 : j < a.length
    · obtain ⟨x, hx⟩ : ∃ x, a[j]? = some x := ⟨a[j], by simp [h1]⟩
      obtain ⟨ga, oa, rfl, c1⟩ := HA.out j x hx
      by_cases h2 : j < b.length
      · obtain ⟨y, hy⟩ : ∃ y, b[j]? = some y := ⟨b[j], by simp [h2]⟩
        obtain ⟨gb, ob, rfl, c2⟩ := HB.out j y hy
        have hd := HD.out
        rw [Od.drop_at hx, Od.drop_at hy, Od.cmpL] at hd
        have hC := HC.out wr x y
        obtain ⟨c, hc⟩ : ∃ c : Int, c = if x < y then -1 else if y < x then 1 else 0 := ⟨_, rfl⟩
        rw [← hc] at hC
        by_cases hz : c = 0
        · have HE : Hid (Od.cmpL (a.drop (j + 1)) (b.drop (j + 1)) = o) := by
            by_cases e1 : x < y
            · rw [if_pos e1] at hc; omega
            · rw [if_neg e1] at hd hc
              by_cases e2 : y < x
              · rw [if_pos e2] at hc; omega
              · rw [if_neg e2] at hd; exact hd
          clear hd hc hx hy HD
          subst hz
          go_wp2_with fail
          refine hC.mono ?_
          rintro e w1 ⟨rfl, h3⟩
          obtain rfl := h3.symm
          clear hC h3
          go_wp2
          go_roundw
          case rel => exact ⟨j + 1, by go_num, by omega, by omega, by simp, HE⟩
          case measure => simp [intOf]; omega
        · have ho : o = c := by
            rw [← hd, hc]
            by_cases e1 : x < y
            · rw [if_pos e1, if_pos e1]
            · rw [if_neg e1] at hc
              rw [if_neg e1, if_neg e1]
              by_cases e2 : y < x
              · rw [if_pos e2, if_pos e2]
              · rw [if_neg e2] at hc; exact absurd hc hz
          clear hd hc hx hy HD HO
          subst ho
          go_wp2_with fail
          refine hC.mono ?_
          rintro e w1 ⟨rfl, h3⟩
          obtain rfl := h3.symm
          clear hC h3
          go_wp2
          go_ret
          exact ⟨rfl, rfl⟩
      · have hj : j = b.length := by omega
        have ho : o = 1 := by
          rw [← HD.out, Od.drop_at hx, hj, List.drop_length]; rfl
        have h4 : b.length ≤ j := by omega
        clear HD HO hx hj
        subst ho
        go_wp2
        go_ret
        exact ⟨rfl, rfl⟩
    · have hj : j = a.length := by omega
      by_cases h2 : j < b.length
      · obtain ⟨y, hy⟩ : ∃ y, b[j]? = some y := ⟨b[j], by simp [h2]⟩
        have ho : o = -1 := by
          rw [← HD.out, Od.drop_at hy, hj, List.drop_length]; rfl
        have h3 : a.length < b.length := by omega
        clear HD HO hy hj
        subst ho
        go_wp2
        go_ret
        exact ⟨rfl, rfl⟩
      · have hj2 : j = b.length := by omega
        have ho : o = 0 := by
          rw [← HD.out, hj, List.drop_length, ← hj, hj2, List.drop_length]; rfl
        have h3 : ¬ a.length < b.length := by omega
        clear HD HO hj hj2
        subst ho
        go_wp2
        go_ret
        exact ⟨rfl, rfl⟩

namespace Od
/-- one key: its three rows are read -/
def KRd (w : World) (g i : Nat) (k : K3) : Prop := ∃ s1 s2 s3 : Value, w.cell? ⟨g, i, none⟩ = some s1 ∧ w.cell? ⟨g, i + 1, none⟩ = some s2 ∧ w.cell? ⟨g, i + 2, none⟩ = some s3 ∧ L.Rd w s1 .i64 k.1 ∧ L.Rd w s2 .i64 k.2.1 ∧ L.Rd w s3 .i64 k.2.2
/-- a row of keys -/
def Ks (w : World) (v : Value) (ks : List K3) : Prop := ∃ ao cap, v = .slice ao ks.length cap ∧ (ks ≠ [] → ∃ g, ao = some ⟨g, 0, none⟩ ∧ ∀ j k, ks[j]? = some k → KRd w g (j * 3) k)
theorem rd_cells {w w' : World} {v : Value} {l : List Int} (P : Nat → Prop) (h : L.Rd w v .i64 l) (hc : ∀ a : Addr, P a.block → w'.cell? a = w.cell? a) (hb : ∀ b off c n, v = .slice (some ⟨b, off, none⟩) n c → 0 < n → P b) : L.Rd w' v .i64 l := by
  obtain ⟨ao, cap, rfl, hz, hcell⟩ := h
  refine ⟨ao, cap, rfl, hz, fun hne => ?_⟩
  obtain ⟨b, off, rfl, hcl⟩ := hcell hne
  exact ⟨b, off, rfl, fun j z hj => (hc _ (hb b off _ _ rfl (List.length_pos_iff.2 hne))).trans (hcl j z hj)⟩
end Od
end Go.Proofs.Ytbclmmkphjknaaa

/-
  One key held against another one: order.ranking's function.
-/
namespace Go.Proofs.Ytbclmmkphjknaaa
open Go.RowKit
set_option maxRecDepth 20000
set_option linter.unusedSimpArgs false
set_option linter.unusedVariables false

set_option maxHeartbeats 4000000 in
theorem odRank1_any (X : World) (kb : Nat) (v : Value) (ks : List Od.K3) (hK : Od.Ks X v ks) (hb : X.cell? ⟨kb, 0, none⟩ = some v) (hl : ∀ k ∈ ks, k.1.length ≤ 4000 ∧ k.2.1.length ≤ 4000 ∧ k.2.2.length ≤ 4000) (i j : Nat) (k1 k2 : Od.K3) (h1 : ks[i]? = some k1) (h2 : ks[j]? = some k2) (hn : ks.length ≤ 100) :
    Calls Try.prog 54 #[.int .i64 i, .int .i64 j, .pointer (some ⟨kb, 0, none⟩)] X fun e w' => e = .returned (.int .i64 (Od.cmpK k1 k2)) ∧ w' = X := by
  obtain ⟨ao, cap, rfl, hc⟩ := hK
  obtain ⟨g, rfl, hcell⟩ := hc (by intro h; subst h; simp at h1)
  obtain ⟨s1, s2, s3, a1, a2, a3, r1, r2, r3⟩ := hcell i k1 h1
  obtain ⟨t1, t2, t3, b1, b2, b3, q1, q2, q3⟩ := hcell j k2 h2
  have hi := (List.getElem?_eq_some_iff.1 h1).1
  have hj := (List.getElem?_eq_some_iff.1 h2).1
  have l1 := hl k1 (List.mem_of_getElem? h1)
  have l2 := hl k2 (List.mem_of_getElem? h2)
  obtain ⟨p1, p2, p3⟩ := k1
  obtain ⟨m1, m2, m3⟩ := k2
  simp only at r1 r2 r3 q1 q2 q3 l1 l2
  have HC1 : Hid (Calls Try.prog 55 #[s1, t1] X fun e w' => e = .returned (.int .i64 (Od.cmpL p1 m1)) ∧ w' = X) := odSl_any X s1 t1 p1 m1 r1 q1 (by omega) (by omega)
  have HC2 : Hid (Calls Try.prog 55 #[s2, t2] X fun e w' => e = .returned (.int .i64 (Od.cmpL p2 m2)) ∧ w' = X) := odSl_any X s2 t2 p2 m2 r2 q2 (by omega) (by omega)
  have HC3 : Hid (Calls Try.prog 55 #[s3, t3] X fun e w' => e = .returned (.int .i64 (Od.cmpL p3 m3)) ∧ w' = X) := odSl_any X s3 t3 p3 m3 r3 q3 (by omega) (by omega)
  obtain ⟨o, ho⟩ : ∃ o, o = Od.cmpK (p1, p2, p3) (m1, m2, m3) := ⟨_, rfl⟩
  rw [← ho]
  unfold Od.cmpK at ho
  simp only at ho
  generalize Od.cmpL p1 m1 = c1 at HC1 ho
  generalize Od.cmpL p2 m2 = c2 at HC2 ho
  generalize Od.cmpL p3 m3 = c3 at HC3 ho
  have HO : Hid (o = if c1 ≠ 0 then c1 else if c2 ≠ 0 then c2 else c3) := ho
  have x0 : ∀ w, (Instr.index 84 (.agg #[s1, s2, s3]) (.int .i64 0)).run Try.prog w = .ok s1 w := fun w => by kernel_rfl
  have x1 : ∀ w, (Instr.index 84 (.agg #[s1, s2, s3]) (.int .i64 1)).run Try.prog w = .ok s2 w := fun w => by kernel_rfl
  have x2 : ∀ w, (Instr.index 84 (.agg #[s1, s2, s3]) (.int .i64 2)).run Try.prog w = .ok s3 w := fun w => by kernel_rfl
  clear r1 r2 r3 q1 q2 q3 l1 l2 hcell hc hl h1 h2 ho
  go_enter Try.func54, Try.ntmps54
  go_wp2
  go_loopw [13] (fun vk wr => ∃ k : Nat, vk = .int .i64 k ∧ k ≤ 3 ∧ wr = X ∧ Hid ((0 < k → c1 = 0) ∧ (1 < k → c2 = 0) ∧ (2 < k → c3 = 0))) (fun vk _ => 3 - (intOf vk).toNat)
  case atStart => exact ⟨0, rfl, by omega, rfl, fun h => by omega, fun h => by omega, fun h => by omega⟩
  case round =>
    obtain ⟨k, rfl, hk, rfl, HD⟩ := hrel
    have hk4 : k = 0 ∨ k = 1 ∨ k = 2 ∨ k = 3 := by omega
    rcases hk4 with rfl | rfl | rfl | rfl
    · have hC := HC1.out
      by_cases hz : c1 = 0
      · subst hz
        have HE := HD.out
        clear HC1 HC2 HC3 HD
        go_wp2_with fail
        refine hC.mono ?_
        rintro e w1 ⟨rfl, h3⟩
        obtain rfl := h3.symm
        clear hC h3
        go_wp2
        go_roundw
        case rel => exact ⟨1, by go_num, by omega, by simp, by simp, fun h => by omega, fun h => by omega⟩
        case measure => simp [intOf]
      · have he : o = c1 := by
          have HE := HD.out
          rw [HO.out]
          rw [if_pos hz]
        clear HC1 HC2 HC3 HD HO
        subst he
        go_wp2_with fail
        refine hC.mono ?_
        rintro e w1 ⟨rfl, h3⟩
        obtain rfl := h3.symm
        clear hC h3
        go_wp2
        go_ret
        exact ⟨rfl, rfl⟩
    · have hC := HC2.out
      by_cases hz : c2 = 0
      · subst hz
        have HE := HD.out
        clear HC1 HC2 HC3 HD
        go_wp2_with fail
        refine hC.mono ?_
        rintro e w1 ⟨rfl, h3⟩
        obtain rfl := h3.symm
        clear hC h3
        go_wp2
        go_roundw
        case rel => exact ⟨2, by go_num, by omega, by simp, fun _ => HE.1 (by omega), by simp, fun h => by omega⟩
        case measure => simp [intOf]
      · have he : o = c2 := by
          have HE := HD.out
          rw [HO.out]
          rw [if_neg (by rw [HE.1 (by omega)]; simp)]
          rw [if_pos hz]
        clear HC1 HC2 HC3 HD HO
        subst he
        go_wp2_with fail
        refine hC.mono ?_
        rintro e w1 ⟨rfl, h3⟩
        obtain rfl := h3.symm
        clear hC h3
        go_wp2
        go_ret
        exact ⟨rfl, rfl⟩
    · have hC := HC3.out
      by_cases hz : c3 = 0
      · subst hz
        have HE := HD.out
        clear HC1 HC2 HC3 HD
        go_wp2_with fail
        refine hC.mono ?_
        rintro e w1 ⟨rfl, h3⟩
        obtain rfl := h3.symm
        clear hC h3
        go_wp2
        go_roundw
        case rel => exact ⟨3, by go_num, by omega, by simp, fun _ => HE.1 (by omega), fun h => HE.2.1 (by omega), by simp⟩
        case measure => simp [intOf]
      · have he : o = c3 := by
          have HE := HD.out
          rw [HO.out]
          rw [if_neg (by rw [HE.1 (by omega)]; simp)]
          rw [if_neg (by rw [HE.2.1 (by omega)]; simp)]
        clear HC1 HC2 HC3 HD HO
        subst he
        go_wp2_with fail
        refine hC.mono ?_
        rintro e w1 ⟨rfl, h3⟩
        obtain rfl := h3.symm
        clear hC h3
        go_wp2
        go_ret
        exact ⟨rfl, rfl⟩
    · have he : o = 0 := by
        obtain ⟨h1, h2, h3⟩ := HD.out
        rw [HO.out, h1 (by omega), h2 (by omega), h3 (by omega)]
        rfl
      clear HC1 HC2 HC3 HD HO
      subst he
      go_wp2
      go_ret
      exact ⟨rfl, rfl⟩

end Go.Proofs.Ytbclmmkphjknaaa
