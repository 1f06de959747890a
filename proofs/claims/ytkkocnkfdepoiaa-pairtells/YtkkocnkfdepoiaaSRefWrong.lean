/-
  What the document's Wrong answers of any spans.
-/
import Derived.Test.YtkkocnkfdepoiaaSWrong
namespace Go.Proofs.Ytkkocnkfdepoiaa
open Go.RowKit

set_option maxHeartbeats 2000000 in
theorem refwrong_any (w : World) (v : Value) (l : List S.Sp) (R : S.Rd w v l) (hf : S.Fit l) :
    Calls Try.prog 39 #[v] w fun e w' => e = .returned (.int .i64 (S.wrongE l)) ∧ Below w.heap.size w w' := by
  obtain ⟨ao, cap, rfl, hn, hc⟩ := R
  unfold S.wrongE
  by_cases hbig : 200 < l.length
  · rw [if_pos hbig]
    go_enter Try.func39, Try.ntmps39
    go_wp2
    go_ret
    exact ⟨rfl, Below.refl _ w⟩
  · rw [if_neg hbig]
    go_enter Try.func39, Try.ntmps39
    go_wp2
    go_loopw [10] (fun i wr => ∃ k : Nat, k ≤ l.length ∧ i = .int .i64 k ∧ Hid (∃ b, S.wgo 0 l = S.wgo b (l.drop k) ∧ (k = 0 → b = 0) ∧ ∀ p, 0 < k → l[k-1]? = some p → b = p.2 + 2 ∧ p.2 ≤ 1114111) ∧ Hid (Below w.heap.size w wr)) (fun i _ => l.length - (intOf i).toNat)
    case atStart => exact ⟨0, Nat.zero_le _, rfl, ⟨0, by simp, fun _ => rfl, fun p h => absurd h (Nat.lt_irrefl _)⟩, Below.refl _ w⟩
    case round =>
      obtain ⟨k, hk, rfl, HW, HB⟩ := hrel
      by_cases hlt : k < l.length
      · obtain ⟨b, off, rfl, hcell⟩ := hc (by intro h; subst h; simp at hlt)
        obtain ⟨x, hx⟩ : ∃ x, l[k]? = some x := ⟨l[k], by simp [hlt]⟩
        have c0 := hcell k x hx
        have hb := L.block_lt c0.1
        have cc : ∀ o, wr.cell? ⟨b, o, none⟩ = w.cell? ⟨b, o, none⟩ := fun o => HB.out.cell (p := ⟨b, o, none⟩) hb
        have c1 := c0.1
        have c2 := c0.2
        rw [← cc] at c1 c2
        have HX : Hid (l[k]? = some x) := hx
        have fx := hf.at hx
        have hsz := HB.out.size
        have hne : b ≠ wr.heap.size := by omega
        obtain ⟨x1, x2⟩ := x
        simp only at c1 c2 fx
        clear c0 hx
        have HB2 : Hid (∀ o, Below w.heap.size w (wr.alloc o)) := fun o => HB.out.alloc hsz o
        cases hbad : S.bad (x1, x2) with
        | true =>
          have HR : Hid (S.bad (x1, x2) = true) := hbad
          have hE : Hid (S.wgo 0 l = 3) := by
            obtain ⟨bb, he, _⟩ := HW.out
            show S.wgo 0 l = 3
            rw [he, wgo_drop HX.out, HR.out]; rfl
          clear cc hcell hc
          by_cases h1 : x1 < 0
          · go_wp2
            go_ret
            exact ⟨by rw [hE.out]; rfl, HB2.out _⟩
          · by_cases h3 : x2 < x1
            · go_wp2
              go_ret
              exact ⟨by rw [hE.out]; rfl, HB2.out _⟩
            · have h2 : 1114111 < x2 := by
                simp [S.bad] at hbad; omega
              clear hbad
              go_wp2
              go_ret
              exact ⟨by rw [hE.out]; rfl, HB2.out _⟩
        | false =>
          have HR : Hid (S.bad (x1, x2) = false) := hbad
          have hok := S.bad_false.1 hbad
          simp only at hok
          clear hbad
          have h1 : ¬ x1 < 0 := by omega
          have h2 : ¬ x2 < x1 := by omega
          have h3 : ¬ 1114111 < x2 := by omega
          cases k with
          | zero =>
            clear cc hcell hc
            simp only [Nat.zero_mul, Nat.add_zero] at c1 c2
            go_wp2
            go_quiet (fail)
            go_wp2
            go_roundw
            case rel =>
              obtain ⟨bb, he, h0, _⟩ := HW.out
              refine ⟨1, by omega, by go_num, ⟨x2 + 2, ?_, fun h => by omega, fun p _ hp => ?_⟩, below_drewN (HB2.out _) _⟩
              · rw [he, wgo_drop HX.out, HR.out, h0 trivial, if_neg (by simp), if_neg (by simp; omega)]
              · have h1 := HX.out
                rw [hp] at h1
                cases h1
                exact ⟨rfl, by omega⟩
            case measure => simp [intOf]; omega
          | succ m =>
            obtain ⟨p, hp⟩ : ∃ p, l[m]? = some p := ⟨l[m]'(by omega), by simp [show m < l.length by omega]⟩
            have c3 := (hcell m p hp).2
            rw [← cc] at c3
            have fp := hf.at hp
            have HP : Hid (l[m]? = some p) := hp
            obtain ⟨p1, p2⟩ := p
            simp only at c3 fp
            clear cc hcell hc hp
            obtain ⟨bb, he, _, hpp⟩ := HW.out
            obtain ⟨rfl, hp2⟩ := hpp _ (Nat.succ_pos _) HP.out
            simp only at hp2
            have HE : Hid (S.wgo 0 l = S.wgo (p2 + 2) (l.drop (m + 1))) := he
            clear he hpp HW
            by_cases hlow : x1 - p2 < 2
            · go_wp2
              have HQ := S.boxed (wr := wr) (t := 57) (a := .int .i32 x1) (b := .int .i32 x2) (Below.refl _ _)
              have HB3 := HB2.out (.cells #[.int .i32 x1, .int .i32 x2] 57)
              generalize wr.alloc (.cells #[.int .i32 x1, .int .i32 x2] 57) = w1 at HQ HB3 ⊢
              obtain ⟨⟨d1, d2⟩, hold, hs1, _⟩ := HQ
              replace c3 := hold _ _ _ c3
              have HB4 : Hid (Below w.heap.size w w1) := HB3
              clear hold HB3
              go_quiet (fail)
              go_wp2
              go_ret
              refine ⟨?_, below_drewN HB4.out _⟩
              rw [HE.out, wgo_drop HX.out, HR.out, if_neg (by simp), if_pos (by show x1 < p2 + 2; omega)]; rfl
            · go_wp2
              have HQ := S.boxed (wr := wr) (t := 57) (a := .int .i32 x1) (b := .int .i32 x2) (Below.refl _ _)
              have HB3 := HB2.out (.cells #[.int .i32 x1, .int .i32 x2] 57)
              generalize wr.alloc (.cells #[.int .i32 x1, .int .i32 x2] 57) = w1 at HQ HB3 ⊢
              obtain ⟨⟨d1, d2⟩, hold, hs1, _⟩ := HQ
              replace c3 := hold _ _ _ c3
              have HB4 : Hid (Below w.heap.size w w1) := HB3
              clear hold HB3
              go_quiet (fail)
              go_wp2
              go_roundw
              case rel =>
                refine ⟨m + 1 + 1, by omega, by go_num, ⟨x2 + 2, ?_, fun h => by omega, fun p _ hp => ?_⟩, below_drewN HB4.out _⟩
                · rw [HE.out, wgo_drop HX.out, HR.out, if_neg (by simp), if_neg (by show ¬ x1 < p2 + 2; omega)]
                · have h1 := HX.out
                  have hp : l[m + 1]? = some p := hp
                  rw [hp] at h1
                  cases h1
                  exact ⟨rfl, by omega⟩
              case measure => simp [intOf]; omega
      · go_wp2
        go_ret
        refine ⟨?_, HB.out⟩
        obtain ⟨b, he, _⟩ := HW.out
        rw [he, List.drop_eq_nil_of_le (by omega)]
        rfl

end Go.Proofs.Ytkkocnkfdepoiaa
