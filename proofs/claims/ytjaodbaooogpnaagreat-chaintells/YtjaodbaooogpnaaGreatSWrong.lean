/-
  Great letters and small ones: the program's answers, and the document's.
-/
import Derived.Test.YtjaodbaooogpnaaGreatCnMath
import Derived.Test.YtjaodbaooogpnaaGreatSMath
import Derived.Test.YtjaodbaooogpnaaGreatRows
import Derived.Test.YtjaodbaooogpnaaGreatMath
import Derived.Deep.QuietTactic
import Derived.BigQuiet
namespace Go.Proofs.YtjaodbaooogpnaaGreat
open Go.RowKit
set_option maxRecDepth 20000
set_option linter.unusedSimpArgs false
set_option linter.unusedVariables false

theorem within_any (r a b : Int) (w : World) :
    Calls Tryz.prog 40 #[.int .i32 r, .int .i32 a, .int .i32 b] w fun e w' => e = .returned (.bool (decide (a ≤ r) && decide (r ≤ b))) ∧ w' = w := by
  go_enter Tryz.func40, Tryz.ntmps40
  go_wp2
  all_goals go_ret
  all_goals refine ⟨L.ret_bool ?_, rfl⟩
  all_goals (rw [Bool.eq_iff_iff]; simp; try omega)

set_option maxHeartbeats 2000000 in
theorem less_any (r : Int) (w : World) :
    Calls Tryz.prog 25 #[.int .i32 r] w fun e w' => e = .returned (.int .i32 (Cn.lessF r)) ∧ w' = w := by
  have H : Hid (∀ a b, Calls Tryz.prog 40 #[.int .i32 r, .int .i32 a, .int .i32 b] w fun e w' => e = .returned (.bool (decide (a ≤ r) && decide (r ≤ b))) ∧ w' = w) := fun a b => within_any r a b w
  go_enter Tryz.func25, Tryz.ntmps25
  go_wp2_with (go_at_call 40; refine (H.out _ _).mono ?_; rintro e w' ⟨rfl, rfl⟩)
  all_goals go_ret
  all_goals (refine ⟨?_, rfl⟩; unfold Cn.lessF; simp_all)
  all_goals (try omega)

set_option maxHeartbeats 2000000 in
theorem upper_any (r : Int) (h1 : -2147483648 ≤ r) (h2 : r ≤ 2147483647) (w : World) :
    Calls Tryz.prog 9 #[.int .i32 r] w fun e w' => e = .returned (.int .i32 (Cn.up r)) ∧ w' = w := by
  have H := less_any r w
  have hc := Cn.less_cases r
  unfold Cn.up
  generalize Cn.lessF r = d at H hc
  have b1 : -2147483648 ≤ r - d := by omega
  have b2 : r - d ≤ 2147483647 := by omega
  go_enter Tryz.func9, Tryz.ntmps9
  go_wp2_with (go_at_call 25; refine H.mono ?_; rintro e w' ⟨rfl, rfl⟩)
  go_ret
  exact ⟨rfl, rfl⟩
theorem Cn.wrap32 (x : Int) : IntKind.i32.wrap x = if x % 4294967296 ≥ 2147483648 then x % 4294967296 - 4294967296 else x % 4294967296 := by
  have hb2 : (2 : Int) ^ IntKind.i32.bits = 4294967296 := by decide
  have hb3 : (2 : Int) ^ (IntKind.i32.bits - 1) = 2147483648 := by decide
  have hs : IntKind.i32.signed = true := by decide
  simp only [IntKind.wrap, hb2, hb3, hs, Bool.true_and, decide_eq_true_eq]
theorem Cn.less_wrap (r d : Int) (h1 : -2147483648 ≤ r) (h2 : r ≤ 2147483647) (hd : 0 < d) (hd2 : d ≤ 80) : Cn.lessF (IntKind.i32.wrap (r + d)) = Cn.lessF (r + d) ∧ (¬ Cn.lessF (r + d) = 0 → IntKind.i32.wrap (r + d) = r + d) := by
  by_cases hb : r + d ≤ 2147483647
  · have : IntKind.i32.wrap (r + d) = r + d := by
      rw [Cn.wrap32]; split <;> omega
    rw [this]; exact ⟨rfl, fun _ => rfl⟩
  · have e : IntKind.i32.wrap (r + d) = r + d - 4294967296 := by
      rw [Cn.wrap32]; split <;> omega
    rw [e]
    have z1 : Cn.lessF (r + d - 4294967296) = 0 := by rcases Cn.less_cases (r + d - 4294967296) with h | h | h <;> omega
    have z2 : Cn.lessF (r + d) = 0 := by rcases Cn.less_cases (r + d) with h | h | h <;> omega
    rw [z1, z2]
    exact ⟨rfl, fun h => absurd rfl h⟩
set_option maxHeartbeats 2000000 in
theorem lower_any (r : Int) (h1 : -2147483648 ≤ r) (h2 : r ≤ 2147483647) (w : World) :
    Calls Tryz.prog 11 #[.int .i32 r] w fun e w' => e = .returned (.int .i32 (Cn.low r)) ∧ w' = w := by
  have hw32 : ∀ x, IntKind.i32.wrap x = wrap32 x := fun x => by rw [Cn.wrap32]; unfold wrap32; split <;> omega
  have H1 := less_any (IntKind.i32.wrap (r + 32)) w
  have H2 := less_any (IntKind.i32.wrap (r + 80)) w
  have w1 := Cn.less_wrap r 32 h1 h2 (by decide) (by decide)
  have w2 := Cn.less_wrap r 80 h1 h2 (by decide) (by decide)
  rw [w1.1] at H1
  rw [w2.1] at H2
  have e1 := w1.2
  have e2 := w2.2
  have x0 : ∀ w, (Instr.index 55 (.agg #[.int .i32 32, .int .i32 80]) (.int .i64 0)).run Tryz.prog w = .ok (.int .i32 32) w := fun w => by kernel_rfl
  have x1 : ∀ w, (Instr.index 55 (.agg #[.int .i32 32, .int .i32 80]) (.int .i64 1)).run Tryz.prog w = .ok (.int .i32 80) w := fun w => by kernel_rfl
  rw [hw32] at H1 H2 e1 e2
  clear w1 w2 hw32
  obtain ⟨o, HO⟩ : ∃ o, Hid (Cn.low r = o) := ⟨_, rfl⟩
  rw [show Cn.low r = o from HO.out]
  have HE : Hid ((¬Cn.lessF (r + 32) = 0 → wrap32 (r + 32) = r + 32) ∧ (¬Cn.lessF (r + 80) = 0 → wrap32 (r + 80) = r + 80)) := ⟨e1, e2⟩
  have HL : Hid (Cn.low r = if Cn.lessF (r + 32) = 32 then r + 32 else if Cn.lessF (r + 80) = 80 then r + 80 else r) := rfl
  generalize Cn.lessF (r + 32) = d1 at H1 HE HL
  generalize Cn.lessF (r + 80) = d2 at H2 HE HL
  clear e1 e2
  go_enter Tryz.func11, Tryz.ntmps11
  go_wp2
  refine wp_loop_rounds 3 ?_
  rw [rounds_succ]
  go_wp2_with fail
  refine H1.mono ?_
  rintro e w' ⟨rfl, rfl⟩
  by_cases q1 : d1 = 32
  · have hb1 : wrap32 (r + 32) = r + 32 := HE.out.1 (by omega)
    go_wp2
    go_ret
    exact ⟨L.ret_int (by rw [← HO.out, HL.out, if_pos q1, hb1]), rfl⟩
  · go_wp2
    rw [rounds_succ]
    go_wp2_with fail
    refine H2.mono ?_
    rintro e w' ⟨rfl, rfl⟩
    by_cases q2 : d2 = 80
    · have hb1 : wrap32 (r + 80) = r + 80 := HE.out.2 (by omega)
      go_wp2
      go_ret
      exact ⟨L.ret_int (by rw [← HO.out, HL.out, if_neg q1, if_pos q2, hb1]), rfl⟩
    · go_wp2
      rw [rounds_succ]
      go_wp2
      go_ret
      exact ⟨L.ret_int (by rw [← HO.out, HL.out, if_neg q1, if_neg q2]), rfl⟩
set_option maxHeartbeats 4000000 in
theorem rupper_any (r : Int) (h1 : -2147483648 ≤ r) (h2 : r ≤ 2147483647) (w : World) :
    Calls Tryz.prog 10 #[.int .i32 r] w fun e w' => e = .returned (.int .i32 (Cn.up r)) ∧ w' = w := by
  obtain ⟨o, HO⟩ : ∃ o, Hid (Cn.up r = o) := ⟨_, rfl⟩
  rw [show Cn.up r = o from HO.out]
  go_enter Tryz.func10, Tryz.ntmps10
  go_wp2
  all_goals go_ret
  all_goals (refine ⟨L.ret_int ?_, rfl⟩; rw [← HO.out]; unfold Cn.up Cn.lessF; (try simp_all); (try omega))
  all_goals (try (repeat' split))
  all_goals omega
set_option maxHeartbeats 2000000 in
theorem rlower_any (r : Int) (h1 : -2147483648 ≤ r) (h2 : r ≤ 2147483647) (w : World) :
    Calls Tryz.prog 12 #[.int .i32 r] w fun e w' => e = .returned (.int .i32 (Cn.low r)) ∧ w' = w := by
  obtain ⟨o, HO⟩ : ∃ o, Hid (Cn.low r = o) := ⟨_, rfl⟩
  rw [show Cn.low r = o from HO.out]
  go_enter Tryz.func12, Tryz.ntmps12
  go_wp2
  all_goals go_ret
  all_goals (refine ⟨L.ret_int ?_, rfl⟩; rw [← HO.out])
  all_goals (unfold Cn.low Cn.lessF; (try simp_all); (try omega))
  all_goals (try (repeat' split))
  all_goals omega
end Go.Proofs.YtjaodbaooogpnaaGreat

/-
  The set with which a rule begins.
-/
namespace Go.Proofs.YtjaodbaooogpnaaGreat.K
open Go.Proofs.YtjaodbaooogpnaaGreat.S
def headS (r : Rule) : List Sp := r.source.headD []
def firstsL (l : List Rule) : List Sp := l.flatMap headS
end Go.Proofs.YtjaodbaooogpnaaGreat.K

/-
  What sets.Wrong and the document's Wrong answer of any spans.
-/
namespace Go.Proofs.YtjaodbaooogpnaaGreat
open Go.RowKit

set_option maxHeartbeats 400000 in
theorem outside_any (w : World) (x : S.Sp) :
    Calls Tryz.prog 36 #[.agg #[.int .i32 x.1, .int .i32 x.2]] w fun e w' => e = .returned (.bool (S.bad x)) ∧ Below w.heap.size w w' := by
  obtain ⟨x1, x2⟩ := x
  unfold S.bad
  by_cases h1 : x1 < 0
  · go_enter Tryz.func36, Tryz.ntmps36
    go_wp2
    go_ret
    exact ⟨by simp [h1], (Below.refl _ w).alloc (Nat.le_refl _) _⟩
  · by_cases h2 : 1114111 < x2
    · go_enter Tryz.func36, Tryz.ntmps36
      go_wp2
      go_ret
      exact ⟨by simp, (Below.refl _ w).alloc (Nat.le_refl _) _⟩
    · by_cases h3 : x2 < x1
      · go_enter Tryz.func36, Tryz.ntmps36
        go_wp2
        go_ret
        exact ⟨by simp, (Below.refl _ w).alloc (Nat.le_refl _) _⟩
      · go_enter Tryz.func36, Tryz.ntmps36
        go_wp2
        go_ret
        exact ⟨by simp [h1, h2, h3], (Below.refl _ w).alloc (Nat.le_refl _) _⟩

theorem wgo_drop {l : List S.Sp} {k : Nat} {x : S.Sp} {b : Int} (hx : l[k]? = some x) : S.wgo b (l.drop k) = if S.bad x = true then 3 else if x.1 < b then 2 else S.wgo (x.2 + 2) (l.drop (k + 1)) := by
  have hlt := (List.getElem?_eq_some_iff.1 hx).1
  rw [List.drop_eq_getElem_cons hlt]
  have : l[k] = x := by rw [List.getElem?_eq_getElem hlt] at hx; exact Option.some.inj hx
  rw [this]; rfl

set_option maxHeartbeats 1000000 in
theorem wrong_any (w : World) (v : Value) (l : List S.Sp) (R : S.Rd w v l) (hf : S.Fit l) :
    Calls Tryz.prog 20 #[v] w fun e w' => e = .returned (.int .i64 (S.wrongE l)) ∧ Below w.heap.size w w' := by
  obtain ⟨ao, cap, rfl, hn, hc⟩ := R
  unfold S.wrongE
  by_cases hbig : 200 < l.length
  · rw [if_pos hbig]
    go_enter Tryz.func20, Tryz.ntmps20
    go_wp2
    go_ret
    exact ⟨rfl, Below.refl _ w⟩
  · rw [if_neg hbig]
    go_enter Tryz.func20, Tryz.ntmps20
    go_wp2
    go_loopw [10] (fun i wr => ∃ k : Nat, k ≤ l.length ∧ i = .int .i64 k ∧ Hid (∃ b, S.wgo 0 l = S.wgo b (l.drop k) ∧ (k = 0 → b = 0) ∧ ∀ p, 0 < k → l[k-1]? = some p → b = p.2 + 2 ∧ p.2 ≤ 1114111) ∧ Hid (Below w.heap.size w wr)) (fun i _ => l.length - (intOf i).toNat)
    case atStart => exact ⟨0, Nat.zero_le _, rfl, ⟨0, by simp, fun _ => rfl, fun p h => absurd h (Nat.lt_irrefl _)⟩, Below.refl _ w⟩
    case round =>
      obtain ⟨k, hk, rfl, HW, HB⟩ := hrel
      by_cases hlt : k < l.length
      · obtain ⟨b, off, rfl, hcell⟩ := hc (by intro h; subst h; simp at hlt)
        obtain ⟨x, hx⟩ : ∃ x, l[k]? = some x := ⟨l[k], by simp [hlt]⟩
        have c0 := hcell k x hx
        have hb := L.block_lt c0.1
        have cc : ∀ o, wr.cell? ⟨b, o, none⟩ = w.cell? ⟨b, o, none⟩ := fun o => HB.out.cell (p := ⟨b, o, none⟩) hb
        have c1 := c0.1
        have c2 := c0.2
        rw [← cc] at c1 c2
        have HX : Hid (l[k]? = some x) := hx
        have fx := hf.at hx
        have hsz := HB.out.size
        obtain ⟨x1, x2⟩ := x
        simp only at c1 c2 fx
        clear c0 hx
        cases hbad : S.bad (x1, x2) with
        | true =>
          have HR : Hid (S.bad (x1, x2) = true) := hbad
          clear hbad cc hcell hc
          go_wp2_with (go_at_call 36; go_must (refine (outside_any _ (x1, x2)).mono ?_; rintro e w1 ⟨rfl, HB1⟩; rw [HR.out]))
          go_ret
          obtain ⟨bb, he, _⟩ := HW.out
          refine ⟨?_, ?_⟩
          · rw [he, wgo_drop HX.out, HR.out]; rfl
          · exact (HB.out.alloc hsz _).trans (HB1.mono (by simp; omega))
        | false =>
          have HR : Hid (S.bad (x1, x2) = false) := hbad
          have hok := S.bad_false.1 hbad
          simp only at hok
          clear hbad
          cases k with
          | zero =>
            clear cc hcell hc
            simp only [Nat.zero_mul, Nat.add_zero] at c1 c2
            go_wp2_with (go_at_call 36; go_must (refine (outside_any _ (x1, x2)).mono ?_; rintro e w1 ⟨rfl, HB1⟩; rw [HR.out]))
            obtain ⟨⟨d1, d2⟩, _, hs1, hb1⟩ := S.boxed HB1
            have HB2 : Hid (Below w.heap.size w w1) := HB.out.trans (hb1.mono hsz)
            clear HB1 hb1
            go_quiet (fail)
            go_wp2
            go_roundw
            case rel =>
              obtain ⟨bb, he, h0, _⟩ := HW.out
              refine ⟨1, by omega, by go_num, ⟨x2 + 2, ?_, fun h => by omega, fun p _ hp => ?_⟩, below_drewN HB2.out _⟩
              · rw [he, wgo_drop HX.out, HR.out, h0 trivial, if_neg (by simp), if_neg (by simp; omega)]
              · have h1 := HX.out
                rw [hp] at h1
                cases h1
                exact ⟨rfl, by omega⟩
            case measure => simp [intOf]; omega
          | succ m =>
            obtain ⟨p, hp⟩ : ∃ p, l[m]? = some p := ⟨l[m]'(by omega), by simp [show m < l.length by omega]⟩
            have c3 := (hcell m p hp).2
            rw [← cc] at c3
            have fp := hf.at hp
            have HP : Hid (l[m]? = some p) := hp
            obtain ⟨p1, p2⟩ := p
            simp only at c3 fp
            clear cc hcell hc hp
            go_wp2_with (go_at_call 36; go_must (refine (outside_any _ (x1, x2)).mono ?_; rintro e w1 ⟨rfl, HB1⟩; rw [HR.out]))
            obtain ⟨⟨d1, d2⟩, hold, hs1, hb1⟩ := S.boxed HB1
            replace c3 := hold _ _ _ c3
            have HB2 : Hid (Below w.heap.size w w1) := HB.out.trans (hb1.mono hsz)
            obtain ⟨bb, he, _, hpp⟩ := HW.out
            obtain ⟨rfl, hp2⟩ := hpp _ (Nat.succ_pos _) HP.out
            simp only at hp2
            have HE : Hid (S.wgo 0 l = S.wgo (p2 + 2) (l.drop (m + 1))) := he
            clear HB1 hb1 hold he hpp HW
            by_cases hlow : x1 < p2 + 2
            · go_quiet (fail)
              go_wp2
              go_ret
              refine ⟨?_, below_drewN HB2.out _⟩
              rw [HE.out, wgo_drop HX.out, HR.out, if_neg (by simp), if_pos hlow]; rfl
            · go_quiet (fail)
              go_wp2
              go_roundw
              case rel =>
                refine ⟨m + 1 + 1, by omega, by go_num, ⟨x2 + 2, ?_, fun h => by omega, fun p _ hp => ?_⟩, below_drewN HB2.out _⟩
                · rw [HE.out, wgo_drop HX.out, HR.out, if_neg (by simp), if_neg hlow]
                · have h1 := HX.out
                  have hp : l[m + 1]? = some p := hp
                  rw [hp] at h1
                  cases h1
                  exact ⟨rfl, by omega⟩
              case measure => simp [intOf]; omega
      · go_wp2
        go_ret
        refine ⟨?_, HB.out⟩
        obtain ⟨b, he, _⟩ := HW.out
        rw [he, List.drop_eq_nil_of_le (by omega)]
        rfl

end Go.Proofs.YtjaodbaooogpnaaGreat
