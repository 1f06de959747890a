/-
  What is wrong with a text: what the program answers.
-/
import Derived.Test.YtlmmjefplbcapaaGreatRows
import Derived.Test.YtlmmjefplbcapaaGreatKRight
import Derived.Test.YtlmmjefplbcapaaGreatKI32
import Derived.Shelf.Abstract
import Derived.Test.YtlmmjefplbcapaaGreatSFrame
import Derived.Deep.QuietTactic
import Derived.BigQuiet
namespace Go.Proofs.YtlmmjefplbcapaaGreat
open Go.RowKit Go.Shelf
set_option maxRecDepth 20000
set_option linter.unusedSimpArgs false
set_option linter.unusedVariables false

set_option maxHeartbeats 400000 in
theorem mright_any (r : Int) (w : World) :
    Calls Tryz.prog 42 #[.int .i32 r] w fun e w' => e = .returned (.bool (M.right r)) ∧ w' = w := by
  go_enter Tryz.func42, Tryz.ntmps42
  go_wp2
  all_goals go_ret
  all_goals refine ⟨L.ret_bool ?_, rfl⟩
  all_goals (unfold M.right; rw [Bool.eq_iff_iff]; simp; try omega)

set_option maxHeartbeats 400000 in
theorem mright1_any (r : Int) (w : World) :
    Calls Tryz.prog 41 #[.int .i32 r] w fun e w' => e = .returned (.bool (!M.right r)) ∧ w' = w := by
  go_enter Tryz.func41, Tryz.ntmps41
  go_wp2_with (go_at_call 42; refine (mright_any r _).mono ?_; rintro e w' ⟨rfl, rfl⟩)
  go_ret
  exact ⟨rfl, rfl⟩

set_option maxHeartbeats 1000000 in
theorem mindex_any (w : World) (v : Value) (l : List Int) (R : L.Rd w v .i32 l) (hl : l.length ≤ 4000) :
    Calls Tryz.prog 53 #[v, .func (.func 41) #[] #[]] w fun e w' => ∃ i : Int, e = .returned (.int .i64 i) ∧ decide (0 ≤ i) = !K.allR l ∧ Below w.heap.size w w' := by
  obtain ⟨ao, cap, rfl, hn, hc⟩ := R
  have eg : ∀ args w, (callFunc 41 args).run Tryz.prog w = .ok (.enter 41 args) w := enters_of Tryz.func41 (by kernel_rfl) rfl
  go_enter Tryz.func53, Tryz.ntmps53
  go_wp2
  go_loopw [8] (fun i wr => ∃ k : Nat, k ≤ l.length ∧ i = .int .i64 k ∧ Hid (K.allR (l.take k) = true) ∧ Hid (Below w.heap.size w wr)) (fun i _ => l.length - (intOf i).toNat)
  case atStart => exact ⟨0, Nat.zero_le _, rfl, by show K.allR (l.take 0) = true; simp [K.allR], Below.refl _ w⟩
  case round =>
    obtain ⟨k, hk, rfl, HW, HB⟩ := hrel
    by_cases hlt : k < l.length
    · obtain ⟨b, off, rfl, hcell⟩ := hc (by intro h; subst h; simp at hlt)
      obtain ⟨x, hx⟩ : ∃ x, l[k]? = some x := ⟨l[k], by simp [hlt]⟩
      have c1 := hcell k x hx
      have hb := L.block_lt c1
      rw [← HB.out.cell (p := ⟨b, _, none⟩) hb] at c1
      have HX : Hid (l[k]? = some x) := hx
      have hsz := HB.out.size
      have hob := mright1_any x wr
      clear hx hcell hc
      cases hbad : M.right x with
      | false =>
        rw [hbad] at hob
        have HR : Hid (M.right x = false) := hbad
        clear hbad
        go_wp2_with fail
        refine hob.mono ?_
        rintro e w1 ⟨rfl, rfl⟩
        go_wp2
        go_ret
        refine ⟨k, rfl, ?_, HB.out⟩
        have : K.allR l = false := List.all_eq_false.2 ⟨_, List.mem_of_getElem? HX.out, by rw [HR.out]; simp⟩
        rw [this]; simp
      | true =>
        rw [hbad] at hob
        have HR : Hid (M.right x = true) := hbad
        clear hbad
        go_wp2_with fail
        refine hob.mono ?_
        rintro e w1 ⟨rfl, rfl⟩
        go_wp2
        go_roundw
        case rel =>
          refine ⟨k + 1, by omega, by go_num, ?_, HB.out⟩
          show K.allR (l.take (k + 1)) = true
          have h := HW.out
          unfold K.allR at h ⊢
          rw [List.take_add_one, HX.out, List.all_append, h]
          simp [HR.out]
        case measure => simp [intOf]; omega
    · go_wp2
      go_ret
      refine ⟨-1, rfl, ?_, HB.out⟩
      have h := HW.out
      rw [List.take_of_length_le (by omega)] at h
      rw [h]
      rfl

set_option maxHeartbeats 400000 in
theorem mcontains_any (w : World) (v : Value) (l : List Int) (R : L.Rd w v .i32 l) (hl : l.length ≤ 4000) :
    Calls Tryz.prog 40 #[v, .func (.func 41) #[] #[]] w fun e w' => e = .returned (.bool (!K.allR l)) ∧ Below w.heap.size w w' := by
  have h := mindex_any w v l R hl
  obtain ⟨ao, cap, rfl, hn, hc⟩ := R
  clear hc
  go_enter Tryz.func40, Tryz.ntmps40
  go_wp2_with fail
  refine h.mono ?_
  rintro e w1 ⟨i, rfl, hi, hb⟩
  have HI : Hid _ := hi
  clear hi
  go_wp2
  go_ret
  exact ⟨L.ret_bool HI.out, hb⟩

set_option maxHeartbeats 400000 in
theorem mallRight_any (w : World) (v : Value) (l : List Int) (R : L.Rd w v .i32 l) (hl : l.length ≤ 4000) :
    Calls Tryz.prog 29 #[v] w fun e w' => e = .returned (.bool (K.allR l)) ∧ Below w.heap.size w w' := by
  have h := mcontains_any w v l R hl
  obtain ⟨ao, cap, rfl, hn, hc⟩ := R
  clear hc
  go_enter Tryz.func29, Tryz.ntmps29
  go_wp2_with fail
  refine h.mono ?_
  rintro e w1 ⟨rfl, hb⟩
  go_wp2
  go_ret
  exact ⟨by simp, hb⟩

set_option maxHeartbeats 400000 in
theorem mText_any (w : World) (v : Value) (l : List Int) (R : L.Rd w v .i32 l) (hl : l.length ≤ 140737488355328) :
    Calls Tryz.prog 17 #[v] w fun e w' => e = .returned (.int .i64 (K.textE l)) ∧ Below w.heap.size w w' := by
  have h := mallRight_any w v l R
  obtain ⟨ao, cap, rfl, hn, hc⟩ := R
  clear hc
  unfold K.textE
  by_cases h4 : 4000 < l.length
  · rw [if_pos h4]
    go_enter Tryz.func17, Tryz.ntmps17
    go_wp2
    go_ret
    exact ⟨rfl, Below.refl _ w⟩
  · rw [if_neg h4]
    have h' := h (by omega)
    clear h
    generalize K.allR l = bb at h' ⊢
    cases bb with
    | true =>
      go_enter Tryz.func17, Tryz.ntmps17
      go_wp2_with fail
      refine h'.mono ?_
      rintro e w1 ⟨rfl, hb⟩
      go_wp2
      go_ret
      exact ⟨rfl, hb⟩
    | false =>
      go_enter Tryz.func17, Tryz.ntmps17
      go_wp2_with fail
      refine h'.mono ?_
      rintro e w1 ⟨rfl, hb⟩
      go_wp2
      go_ret
      exact ⟨rfl, hb⟩


end Go.Proofs.YtlmmjefplbcapaaGreat

/-
  What sets.Wrong and the document's Wrong answer of any spans.
-/
namespace Go.Proofs.YtlmmjefplbcapaaGreat
open Go.RowKit

set_option maxHeartbeats 400000 in
theorem outside_any (w : World) (x : S.Sp) :
    Calls Tryz.prog 86 #[.agg #[.int .i32 x.1, .int .i32 x.2]] w fun e w' => e = .returned (.bool (S.bad x)) ∧ Below w.heap.size w w' := by
  obtain ⟨x1, x2⟩ := x
  unfold S.bad
  by_cases h1 : x1 < 0
  · go_enter Tryz.func86, Tryz.ntmps86
    go_wp2
    go_ret
    exact ⟨by simp [h1], (Below.refl _ w).alloc (Nat.le_refl _) _⟩
  · by_cases h2 : 1114111 < x2
    · go_enter Tryz.func86, Tryz.ntmps86
      go_wp2
      go_ret
      exact ⟨by simp, (Below.refl _ w).alloc (Nat.le_refl _) _⟩
    · by_cases h3 : x2 < x1
      · go_enter Tryz.func86, Tryz.ntmps86
        go_wp2
        go_ret
        exact ⟨by simp, (Below.refl _ w).alloc (Nat.le_refl _) _⟩
      · go_enter Tryz.func86, Tryz.ntmps86
        go_wp2
        go_ret
        exact ⟨by simp [h1, h2, h3], (Below.refl _ w).alloc (Nat.le_refl _) _⟩

theorem wgo_drop {l : List S.Sp} {k : Nat} {x : S.Sp} {b : Int} (hx : l[k]? = some x) : S.wgo b (l.drop k) = if S.bad x = true then 3 else if x.1 < b then 2 else S.wgo (x.2 + 2) (l.drop (k + 1)) := by
  have hlt := (List.getElem?_eq_some_iff.1 hx).1
  rw [List.drop_eq_getElem_cons hlt]
  have : l[k] = x := by rw [List.getElem?_eq_getElem hlt] at hx; exact Option.some.inj hx
  rw [this]; rfl

set_option maxHeartbeats 1000000 in
theorem wrong_any (w : World) (v : Value) (l : List S.Sp) (R : S.Rd w v l) (hf : S.Fit l) :
    Calls Tryz.prog 82 #[v] w fun e w' => e = .returned (.int .i64 (S.wrongE l)) ∧ Below w.heap.size w w' := by
  obtain ⟨ao, cap, rfl, hn, hc⟩ := R
  unfold S.wrongE
  by_cases hbig : 200 < l.length
  · rw [if_pos hbig]
    go_enter Tryz.func82, Tryz.ntmps82
    go_wp2
    go_ret
    exact ⟨rfl, Below.refl _ w⟩
  · rw [if_neg hbig]
    go_enter Tryz.func82, Tryz.ntmps82
    go_wp2
    go_loopw [10] (fun i wr => ∃ k : Nat, k ≤ l.length ∧ i = .int .i64 k ∧ Hid (∃ b, S.wgo 0 l = S.wgo b (l.drop k) ∧ (k = 0 → b = 0) ∧ ∀ p, 0 < k → l[k-1]? = some p → b = p.2 + 2 ∧ p.2 ≤ 1114111) ∧ Hid (Below w.heap.size w wr)) (fun i _ => l.length - (intOf i).toNat)
    case atStart => exact ⟨0, Nat.zero_le _, rfl, ⟨0, by simp, fun _ => rfl, fun p h => absurd h (Nat.lt_irrefl _)⟩, Below.refl _ w⟩
    case round =>
      obtain ⟨k, hk, rfl, HW, HB⟩ := hrel
      by_cases hlt : k < l.length
      · obtain ⟨b, off, rfl, hcell⟩ := hc (by intro h; subst h; simp at hlt)
        obtain ⟨x, hx⟩ : ∃ x, l[k]? = some x := ⟨l[k], by simp [hlt]⟩
        have c0 := hcell k x hx
        have hb := L.block_lt c0.1
        have cc : ∀ o, wr.cell? ⟨b, o, none⟩ = w.cell? ⟨b, o, none⟩ := fun o => HB.out.cell (p := ⟨b, o, none⟩) hb
        have c1 := c0.1
        have c2 := c0.2
        rw [← cc] at c1 c2
        have HX : Hid (l[k]? = some x) := hx
        have fx := hf.at hx
        have hsz := HB.out.size
        obtain ⟨x1, x2⟩ := x
        simp only at c1 c2 fx
        clear c0 hx
        cases hbad : S.bad (x1, x2) with
        | true =>
          have HR : Hid (S.bad (x1, x2) = true) := hbad
          clear hbad cc hcell hc
          go_wp2_with (go_at_call 86; go_must (refine (outside_any _ (x1, x2)).mono ?_; rintro e w1 ⟨rfl, HB1⟩; rw [HR.out]))
          go_ret
          obtain ⟨bb, he, _⟩ := HW.out
          refine ⟨?_, ?_⟩
          · rw [he, wgo_drop HX.out, HR.out]; rfl
          · exact (HB.out.alloc hsz _).trans (HB1.mono (by simp; omega))
        | false =>
          have HR : Hid (S.bad (x1, x2) = false) := hbad
          have hok := S.bad_false.1 hbad
          simp only at hok
          clear hbad
          cases k with
          | zero =>
            clear cc hcell hc
            simp only [Nat.zero_mul, Nat.add_zero] at c1 c2
            go_wp2_with (go_at_call 86; go_must (refine (outside_any _ (x1, x2)).mono ?_; rintro e w1 ⟨rfl, HB1⟩; rw [HR.out]))
            obtain ⟨⟨d1, d2⟩, _, hs1, hb1⟩ := S.boxed HB1
            have HB2 : Hid (Below w.heap.size w w1) := HB.out.trans (hb1.mono hsz)
            clear HB1 hb1
            go_quiet (fail)
            go_wp2
            go_roundw
            case rel =>
              obtain ⟨bb, he, h0, _⟩ := HW.out
              refine ⟨1, by omega, by go_num, ⟨x2 + 2, ?_, fun h => by omega, fun p _ hp => ?_⟩, below_drewN HB2.out _⟩
              · rw [he, wgo_drop HX.out, HR.out, h0 trivial, if_neg (by simp), if_neg (by simp; omega)]
              · have h1 := HX.out
                rw [hp] at h1
                cases h1
                exact ⟨rfl, by omega⟩
            case measure => simp [intOf]; omega
          | succ m =>
            obtain ⟨p, hp⟩ : ∃ p, l[m]? = some p := ⟨l[m]'(by omega), by simp [show m < l.length by omega]⟩
            have c3 := (hcell m p hp).2
            rw [← cc] at c3
            have fp := hf.at hp
            have HP : Hid (l[m]? = some p) := hp
            obtain ⟨p1, p2⟩ := p
            simp only at c3 fp
            clear cc hcell hc hp
            go_wp2_with (go_at_call 86; go_must (refine (outside_any _ (x1, x2)).mono ?_; rintro e w1 ⟨rfl, HB1⟩; rw [HR.out]))
            obtain ⟨⟨d1, d2⟩, hold, hs1, hb1⟩ := S.boxed HB1
            replace c3 := hold _ _ _ c3
            have HB2 : Hid (Below w.heap.size w w1) := HB.out.trans (hb1.mono hsz)
            obtain ⟨bb, he, _, hpp⟩ := HW.out
            obtain ⟨rfl, hp2⟩ := hpp _ (Nat.succ_pos _) HP.out
            simp only at hp2
            have HE : Hid (S.wgo 0 l = S.wgo (p2 + 2) (l.drop (m + 1))) := he
            clear HB1 hb1 hold he hpp HW
            by_cases hlow : x1 < p2 + 2
            · go_quiet (fail)
              go_wp2
              go_ret
              refine ⟨?_, below_drewN HB2.out _⟩
              rw [HE.out, wgo_drop HX.out, HR.out, if_neg (by simp), if_pos hlow]; rfl
            · go_quiet (fail)
              go_wp2
              go_roundw
              case rel =>
                refine ⟨m + 1 + 1, by omega, by go_num, ⟨x2 + 2, ?_, fun h => by omega, fun p _ hp => ?_⟩, below_drewN HB2.out _⟩
                · rw [HE.out, wgo_drop HX.out, HR.out, if_neg (by simp), if_neg hlow]
                · have h1 := HX.out
                  have hp : l[m + 1]? = some p := hp
                  rw [hp] at h1
                  cases h1
                  exact ⟨rfl, by omega⟩
              case measure => simp [intOf]; omega
      · go_wp2
        go_ret
        refine ⟨?_, HB.out⟩
        obtain ⟨b, he, _⟩ := HW.out
        rw [he, List.drop_eq_nil_of_le (by omega)]
        rfl

end Go.Proofs.YtlmmjefplbcapaaGreat
