/-
  scriptlaw10.CompileFinds: it returns true.
-/
import Derived.Test.YtnalcmlhfmgfdaaJAlive
import Derived.Test.YtnalcmlhfmgfdaaYSame9
import Derived.Test.YtnalcmlhfmgfdaaJFind
import Derived.Test.YtnalcmlhfmgfdaaJBegin
namespace Go.Proofs.Ytnalcmlhfmgfdaa
open Go.RowKit Go.Shelf
set_option maxRecDepth 20000
set_option linter.unusedSimpArgs false
set_option linter.unusedVariables false

set_option maxHeartbeats 4000000 in
theorem compileFinds_any (w : World) (v : Value) (l : List K.Rule) (R0 : V.Rus w v l) (r : Int) :
    Calls Try.prog 5 #[v, .int .i32 r] w fun e w' => e = .returned (.bool true) ∧ Below w.heap.size w w' := by
  have HC : Hid (∀ X, Below w.heap.size w X → Calls Try.prog 12 #[v] X fun e w' => ∃ (v' : Value) (o : List J.Hd × Int × Int), J.Comp l o ∧ e = .returned (.tuple #[v', .agg #[.int .i64 o.2.1, .int .i64 o.2.2]]) ∧ J.Rd w' v' o.1 ∧ Below w.heap.size w w') := fun X hX => by
    refine (jCompile_any X v l (R0.below hX)).mono ?_
    rintro e w' ⟨v', o, h1, h2, h3, h4⟩
    exact ⟨v', o, h1, h2, h3.rd, hX.trans (h4.mono hX.size)⟩
  have HR : Hid (V.Rus w v l) := R0
  obtain ⟨ao, cap, rfl⟩ := R0.len
  clear R0
  go_enter Try.func5, Try.ntmps5
  go_wp2_with fail
  refine (jAlive_any w).mono ?_
  rintro e w1 ⟨rfl, b1⟩
  have HB1 : Hid (Below w.heap.size w w1) := b1
  clear b1
  go_wp2_with fail
  refine (HC.out _ HB1.out).mono ?_
  rintro e w2 ⟨v2, ⟨hs, e1, e2⟩, hco, rfl, hrd, b2⟩
  have HBa : Hid (∀ o, Below w.heap.size w (w2.alloc o)) := fun o => b2.alloc b2.size o
  have HRd : Hid (∀ o, J.Rd (w2.alloc o) v2 hs) := fun o => hrd.below ((Below.refl _ w2).alloc (Nat.le_refl _) o)
  obtain ⟨ho, hcap, rfl, _⟩ := id hrd
  have HCo : Hid (e1 = 0 → (∀ r ∈ l, K.ruleE r = 0) ∧ l.length ≤ 200 ∧ e2 = 0 ∧ ∃ c, J.Cuts l c ∧ 2 ≤ c.length ∧ c.length - 1 ≤ 400 ∧ hs = J.heads (J.begins l) c (c.length - 1)) := fun h0 => by
    obtain ⟨h1, h2, h3⟩ := hco.heads h0
    refine ⟨h1, ?_, h2, h3⟩
    rcases hco with ⟨h4, h5⟩ | ⟨h4, _⟩
    · have h6 : K.rulesF l = (e1, e2) := (congrArg Prod.snd h5).symm
      rw [h6] at h4
      exact absurd h0 h4
    · exact (K.rulesF_zero h4).1
  have HCn : Hid (e1 ≠ 0 → hs = []) := fun h => by
    rcases hco with ⟨_, h5⟩ | ⟨_, c, _, _, ⟨_, h5⟩ | ⟨_, h5⟩⟩
    · exact congrArg Prod.fst h5
    · cases h5; rfl
    · cases h5; exact absurd rfl h
  clear HC HB1 hrd hco b2
  simp only
  by_cases hq : e1 = 0
  · subst hq
    obtain ⟨hE, hl, rfl, c, hc, hc2, hc4, hhs⟩ := HCo.out rfl
    obtain ⟨Y, hY⟩ : ∃ Y, Y = w2.alloc (.cells #[.int .i64 0, .int .i64 0] 28) := ⟨_, rfl⟩
    have hBY : Below w.heap.size w Y := by rw [hY]; exact HBa.out _
    have hRY : J.Rd Y (.slice ho hs.length hcap) hs := by rw [hY]; exact HRd.out _
    have HYY : Hid (Y = w2.alloc (.cells #[.int .i64 0, .int .i64 0] 28)) := hY
    rw [hhs] at hRY
    have hF := jFind_any Y _ l c hc hE hl hc4 hRY r
    rw [← hhs] at hF
    have HF : Hid (∀ W, W = Y → Calls Try.prog 15 #[.slice ho hs.length hcap, .int .i32 r] W fun e w' => ∃ fo fc, e = .returned (.slice fo (J.found l r).length fc) ∧ L.Rd w' (.slice fo (J.found l r).length fc) .i64 (J.found l r) ∧ Below w.heap.size w w') := fun W hW => by
      subst hW
      refine hF.mono ?_
      rintro e w' ⟨v', h1, h2, h3⟩
      obtain ⟨fo, fc, rfl, _⟩ := id h2
      exact ⟨fo, fc, h1, h2, hBY.trans (h3.mono hBY.size)⟩
    have HE : Hid (∀ r ∈ l, K.ruleE r = 0) := hE
    have hfl : (J.found l r).length ≤ 1000000 := by
      unfold J.found
      split
      · have := J.which_len (fun x => S.memb (K.headS x) r) l 0
        unfold J.begins
        omega
      · simp
    have HIn : Hid (0 ≤ r → r ≤ 1114111 → J.found l r = J.begins l r) := fun h1 h2 => if_pos ⟨h1, h2⟩
    have HOut : Hid ((r < 0 ∨ 1114111 < r) → J.found l r = []) := fun h => if_neg (by omega)
    clear hF hhs hY hc hE hRY hBY HCo HCn
    by_cases hr0 : r < 0
    · have hf := HOut.out (.inl hr0)
      rw [hf] at HF
      go_wp2_with fail
      go_at_call 15
      refine (HF.out _ HYY.out.symm).mono ?_
      rintro e w3 ⟨fo, fc, rfl, r3, b3⟩
      have HB3 : Hid (Below w.heap.size w w3) := b3
      clear b3 r3
      go_wp2
      go_ret
      exact ⟨rfl, HB3.out⟩
    · by_cases hr1 : 1114111 < r
      · have hf := HOut.out (.inr hr1)
        rw [hf] at HF
        go_wp2_with fail
        go_at_call 15
        refine (HF.out _ HYY.out.symm).mono ?_
        rintro e w3 ⟨fo, fc, rfl, r3, b3⟩
        have HB3 : Hid (Below w.heap.size w w3) := b3
        clear b3 r3
        go_wp2
        go_ret
        exact ⟨rfl, HB3.out⟩
      · have hf := HIn.out (by omega) (by omega)
        rw [hf] at HF hfl
        have hr0f : decide (r < 0) = false := decide_eq_false hr0
        have hr1f : decide (1114111 < r) = false := decide_eq_false hr1
        go_wp2_with fail
        go_at_call 15
        refine (HF.out _ HYY.out.symm).mono ?_
        rintro e w3 ⟨fo, fc, rfl, r3, b3⟩
        have HB3 : Hid (Below w.heap.size w w3 ∧ L.Rd w3 (.slice fo (J.begins l r).length fc) .i64 (J.begins l r)) := ⟨b3, r3⟩
        have hBg := rBegin_any w3 _ l (HR.out.below b3) hl HE.out r
        have HBg : Hid (Calls Try.prog 17 #[.slice ao l.length cap, .int .i32 r] w3 fun e w' => ∃ go gc, e = .returned (.slice go (J.begins l r).length gc) ∧ L.Rd w' (.slice go (J.begins l r).length gc) .i64 (J.begins l r) ∧ L.Rd w' (.slice fo (J.begins l r).length fc) .i64 (J.begins l r) ∧ Below w.heap.size w w') := by
          refine hBg.mono ?_
          rintro e w' ⟨v', h1, h2, h3⟩
          have h4 := L.Rd.of_owns h2
          obtain ⟨go, gc, rfl, _⟩ := id h4
          exact ⟨go, gc, h1, h4, r3.below h3 (Nat.le_refl _), b3.trans (h3.mono b3.size)⟩
        clear r3 b3 hBg
        go_wp2_with fail
        go_at_call 17
        refine HBg.out.mono ?_
        rintro e w4 ⟨go, gc, rfl, r4, r5, b4⟩
        have h9 := rSame9_drew w4 _ _ _ _ r5 r4 (by omega) (by omega)
        have H9 : Hid (Calls Try.prog 16 #[.slice fo (J.begins l r).length fc, .slice go (J.begins l r).length gc] w4 fun e w' => e = .returned (.bool true) ∧ Below w.heap.size w w') := by
          refine h9.mono ?_
          rintro e w' ⟨h1, n, rfl⟩
          exact ⟨by rw [h1]; simp, below_drewN b4 _⟩
        clear h9 r4 r5 b4 HBg
        go_wp2_with fail
        go_at_call 16
        refine H9.out.mono ?_
        rintro e w5 ⟨rfl, b5⟩
        have HB5 : Hid (Below w.heap.size w w5) := b5
        clear b5
        go_wp2
        go_ret
        exact ⟨rfl, HB5.out⟩
  · have h1 := HCn.out hq
    subst h1
    go_wp2
    go_ret
    exact ⟨rfl, HBa.out _⟩

end Go.Proofs.Ytnalcmlhfmgfdaa
