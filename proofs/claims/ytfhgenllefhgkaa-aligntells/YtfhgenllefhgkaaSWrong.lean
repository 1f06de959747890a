/-
  What rules make of a text, in plain lists.
-/
import Derived.Test.YtfhgenllefhgkaaMFrame
import Derived.Test.YtfhgenllefhgkaaRows
import Derived.Test.YtfhgenllefhgkaaMath
import Derived.Deep.QuietTactic
import Derived.BigQuiet
namespace Go.Proofs.Ytfhgenllefhgkaa.K

def firstR : Nat → List Rule → Int × Int
  | _, [] => (0, 0)
  | k, r :: l => if ruleE r = 0 then firstR (k + 1) l else (ruleE r, (k : Int))
/-- what is wrong with rules, and at which one -/
def rulesF (l : List Rule) : Int × Int := if 200 < l.length then (5, 0) else firstR 0 l
def checkF (l : List Rule) (t : List Int) : Int × Int := if (rulesF l).1 = 0 then (textE t, 0) else rulesF l

theorem firstR_drop {l : List Rule} {k : Nat} {r : Rule} (h : l[k]? = some r) : firstR k (l.drop k) = if ruleE r = 0 then firstR (k + 1) (l.drop (k + 1)) else (ruleE r, (k : Int)) := by
  have hlt := (List.getElem?_eq_some_iff.1 h).1
  rw [List.drop_eq_getElem_cons hlt]
  have : l[k] = r := by rw [List.getElem?_eq_getElem hlt] at h; exact Option.some.inj h
  rw [this]; rfl
theorem firstR_zero {l : List Rule} : ∀ {k : Nat}, (firstR k l).1 = 0 → ∀ r ∈ l, ruleE r = 0 := by
  induction l with
  | nil => intro k _ r hr; cases hr
  | cons x l ih =>
    intro k h r hr
    rw [firstR] at h
    by_cases hx : ruleE x = 0
    · rw [if_pos hx] at h
      rcases List.mem_cons.1 hr with rfl | hr
      · exact hx
      · exact ih h r hr
    · rw [if_neg hx] at h; exact absurd h hx
theorem firstR_at {l : List Rule} : ∀ {k : Nat}, (firstR k l).1 = 0 → firstR k l = (0, 0) := by
  induction l with
  | nil => intro k _; rfl
  | cons x l ih =>
    intro k h
    rw [firstR] at h ⊢
    by_cases hx : ruleE x = 0
    · rw [if_pos hx] at h ⊢; exact ih h
    · rw [if_neg hx] at h; exact absurd h hx
theorem rulesF_zero {l : List Rule} (h : (rulesF l).1 = 0) : l.length ≤ 200 ∧ (∀ r ∈ l, ruleE r = 0) ∧ rulesF l = (0, 0) := by
  unfold rulesF at h ⊢
  by_cases h1 : 200 < l.length
  · rw [if_pos h1] at h; exact absurd h (by decide)
  · rw [if_neg h1] at h ⊢; exact ⟨by omega, firstR_zero h, firstR_at h⟩
theorem checkF_zero {l : List Rule} {t : List Int} (h : (checkF l t).1 = 0) : (rulesF l).1 = 0 ∧ textE t = 0 ∧ checkF l t = (0, 0) := by
  unfold checkF at h ⊢
  by_cases h1 : (rulesF l).1 = 0
  · rw [if_pos h1] at h ⊢; exact ⟨h1, h, by rw [show textE t = 0 from h]⟩
  · rw [if_neg h1] at h; exact absurd h h1

/-- the first rule that matches -/
def whichN (t : List Int) (k : Int) : Nat → List Rule → Int
  | _, [] => -1
  | i, r :: l => if matchB r t k = true then (i : Int) else whichN t k (i + 1) l
def which (l : List Rule) (t : List Int) (k : Int) : Int := whichN t k 0 l
theorem whichN_drop {t : List Int} {k : Int} {l : List Rule} {i : Nat} {r : Rule} (h : l[i]? = some r) : whichN t k i (l.drop i) = if matchB r t k = true then (i : Int) else whichN t k (i + 1) (l.drop (i + 1)) := by
  have hlt := (List.getElem?_eq_some_iff.1 h).1
  rw [List.drop_eq_getElem_cons hlt]
  have : l[i] = r := by rw [List.getElem?_eq_getElem hlt] at h; exact Option.some.inj h
  rw [this]; rfl
theorem whichN_is {t : List Int} {k : Int} {l : List Rule} : ∀ {i : Nat}, whichN t k i l = -1 ∨ ∃ (j : Nat) (r : Rule), l[j]? = some r ∧ matchB r t k = true ∧ whichN t k i l = ((i + j : Nat) : Int) := by
  induction l with
  | nil => intro i; exact .inl rfl
  | cons x l ih =>
    intro i
    rw [whichN]
    by_cases hx : matchB x t k = true
    · rw [if_pos hx]; exact .inr ⟨0, x, rfl, hx, by simp⟩
    · rw [if_neg hx]
      rcases ih (i := i + 1) with h | ⟨j, r, h1, h2, h3⟩
      · exact .inl h
      · exact .inr ⟨j + 1, r, by simpa using h1, h2, by rw [h3]; omega⟩
theorem which_is {l : List Rule} {t : List Int} {k : Int} : which l t k = -1 ∨ ∃ (j : Nat) (r : Rule), l[j]? = some r ∧ matchB r t k = true ∧ which l t k = (j : Int) := by
  rcases whichN_is (t := t) (k := k) (l := l) (i := 0) with h | ⟨j, r, h1, h2, h3⟩
  · exact .inl h
  · exact .inr ⟨j, r, h1, h2, by unfold which; rw [h3]; omega⟩

def noRule : Rule := ⟨false, false, [], [], [], [], 0⟩
def restOf (r : Rule) (rest : List Int) : List Int := r.target ++ rest.drop r.source.length
/-- the run: what is wrong, the text, the steps, how often something was put -/
def play (l : List Rule) : Nat → List Int → List Int → Int → Int → Int × List Int × Int × Int
  | 0, done, rest, s, p => if rest.length = 0 then (0, done, s, p) else (9, [], 0, 0)
  | left + 1, done, rest, s, p =>
    if rest.length = 0 then (0, done, s, p)
    else if which l (done ++ rest) done.length < 0 then play l left (done ++ rest.take 1) (rest.drop 1) (s + 1) p
    else
      let r := (l[(which l (done ++ rest) done.length).toNat]?).getD noRule
      if 4000 < done.length + (restOf r rest).length then (4, [], 0, 0)
      else play l left (done ++ (restOf r rest).take r.cursor.toNat) ((restOf r rest).drop r.cursor.toNat) (s + 1) (p + 1)
theorem play_end {l : List Rule} {left : Nat} {done rest : List Int} {s p : Int} (h : rest.length = 0) : play l left done rest s p = (0, done, s, p) := by
  cases left <;> rw [play, if_pos h]
theorem play_out {l : List Rule} {done rest : List Int} {s p : Int} (h : ¬ rest.length = 0) : play l 0 done rest s p = (9, [], 0, 0) := by
  rw [play, if_neg h]
theorem play_on {l : List Rule} {left : Nat} {done rest : List Int} {s p : Int} (h : ¬ rest.length = 0) (hk : which l (done ++ rest) done.length = -1) : play l (left + 1) done rest s p = play l left (done ++ rest.take 1) (rest.drop 1) (s + 1) p := by
  rw [play, if_neg h, if_pos (by rw [hk]; decide)]
theorem play_much {l : List Rule} {left : Nat} {done rest : List Int} {s p : Int} {j : Nat} {r : Rule} (h : ¬ rest.length = 0) (hk : which l (done ++ rest) done.length = (j : Int)) (hr : l[j]? = some r) (hm : 4000 < done.length + (restOf r rest).length) : play l (left + 1) done rest s p = (4, [], 0, 0) := by
  rw [play, if_neg h, if_neg (by rw [hk]; omega), hk, Int.toNat_natCast, hr]
  simp only [Option.getD_some]
  rw [if_pos hm]
theorem play_put {l : List Rule} {left : Nat} {done rest : List Int} {s p : Int} {j : Nat} {r : Rule} (h : ¬ rest.length = 0) (hk : which l (done ++ rest) done.length = (j : Int)) (hr : l[j]? = some r) (hm : ¬ 4000 < done.length + (restOf r rest).length) : play l (left + 1) done rest s p = play l left (done ++ (restOf r rest).take r.cursor.toNat) ((restOf r rest).drop r.cursor.toNat) (s + 1) (p + 1) := by
  rw [play, if_neg h, if_neg (by rw [hk]; omega), hk, Int.toNat_natCast, hr]
  simp only [Option.getD_some]
  rw [if_neg hm]
/-- a rule that matches where the rest begins: its source is there -/
theorem fits {r : Rule} {done rest : List Int} (hE : ruleE r = 0) (hm : matchB r (done ++ rest) done.length = true) : r.source.length ≤ rest.length := by
  have h := match_in (ruleE_zero hE).2.2.2.1 hm
  rw [List.length_append] at h
  omega
theorem restOf_length {r : Rule} {rest : List Int} : (restOf r rest).length = r.target.length + (rest.length - r.source.length) := by
  unfold restOf; simp
theorem putL_rest {r : Rule} {done rest : List Int} : putL r (done ++ rest) done.length = done ++ restOf r rest := by
  unfold putL restOf
  rw [Int.toNat_natCast, List.take_left, List.drop_append, List.append_assoc]
  simp
/-- all that Run answers -/
def runF (l : List Rule) (t : List Int) : (List Int × Int × Int) × Int × Int :=
  if (checkF l t).1 = 0 then ((play l (8 * t.length + 40) [] t 0 0).2, (play l (8 * t.length + 40) [] t 0 0).1, 0) else (([], 0, 0), checkF l t)

end Go.Proofs.Ytfhgenllefhgkaa.K

/-
  The set with which a rule begins.
-/
namespace Go.Proofs.Ytfhgenllefhgkaa.K
open Go.Proofs.Ytfhgenllefhgkaa.S
def headS (r : Rule) : List Sp := r.source.headD []
def firstsL (l : List Rule) : List Sp := l.flatMap headS
end Go.Proofs.Ytfhgenllefhgkaa.K

/-
  What sets.Wrong and the document's Wrong answer of any spans.
-/
namespace Go.Proofs.Ytfhgenllefhgkaa
open Go.RowKit

set_option maxHeartbeats 400000 in
theorem outside_any (w : World) (x : S.Sp) :
    Calls Try.prog 78 #[.agg #[.int .i32 x.1, .int .i32 x.2]] w fun e w' => e = .returned (.bool (S.bad x)) ∧ Below w.heap.size w w' := by
  obtain ⟨x1, x2⟩ := x
  unfold S.bad
  by_cases h1 : x1 < 0
  · go_enter Try.func78, Try.ntmps78
    go_wp2
    go_ret
    exact ⟨by simp [h1], (Below.refl _ w).alloc (Nat.le_refl _) _⟩
  · by_cases h2 : 1114111 < x2
    · go_enter Try.func78, Try.ntmps78
      go_wp2
      go_ret
      exact ⟨by simp, (Below.refl _ w).alloc (Nat.le_refl _) _⟩
    · by_cases h3 : x2 < x1
      · go_enter Try.func78, Try.ntmps78
        go_wp2
        go_ret
        exact ⟨by simp, (Below.refl _ w).alloc (Nat.le_refl _) _⟩
      · go_enter Try.func78, Try.ntmps78
        go_wp2
        go_ret
        exact ⟨by simp [h1, h2, h3], (Below.refl _ w).alloc (Nat.le_refl _) _⟩

theorem wgo_drop {l : List S.Sp} {k : Nat} {x : S.Sp} {b : Int} (hx : l[k]? = some x) : S.wgo b (l.drop k) = if S.bad x = true then 3 else if x.1 < b then 2 else S.wgo (x.2 + 2) (l.drop (k + 1)) := by
  have hlt := (List.getElem?_eq_some_iff.1 hx).1
  rw [List.drop_eq_getElem_cons hlt]
  have : l[k] = x := by rw [List.getElem?_eq_getElem hlt] at hx; exact Option.some.inj hx
  rw [this]; rfl

set_option maxHeartbeats 1000000 in
theorem wrong_any (w : World) (v : Value) (l : List S.Sp) (R : S.Rd w v l) (hf : S.Fit l) :
    Calls Try.prog 73 #[v] w fun e w' => e = .returned (.int .i64 (S.wrongE l)) ∧ Below w.heap.size w w' := by
  obtain ⟨ao, cap, rfl, hn, hc⟩ := R
  unfold S.wrongE
  by_cases hbig : 200 < l.length
  · rw [if_pos hbig]
    go_enter Try.func73, Try.ntmps73
    go_wp2
    go_ret
    exact ⟨rfl, Below.refl _ w⟩
  · rw [if_neg hbig]
    go_enter Try.func73, Try.ntmps73
    go_wp2
    go_loopw [10] (fun i wr => ∃ k : Nat, k ≤ l.length ∧ i = .int .i64 k ∧ Hid (∃ b, S.wgo 0 l = S.wgo b (l.drop k) ∧ (k = 0 → b = 0) ∧ ∀ p, 0 < k → l[k-1]? = some p → b = p.2 + 2 ∧ p.2 ≤ 1114111) ∧ Hid (Below w.heap.size w wr)) (fun i _ => l.length - (intOf i).toNat)
    case atStart => exact ⟨0, Nat.zero_le _, rfl, ⟨0, by simp, fun _ => rfl, fun p h => absurd h (Nat.lt_irrefl _)⟩, Below.refl _ w⟩
    case round =>
      obtain ⟨k, hk, rfl, HW, HB⟩ := hrel
      by_cases hlt : k < l.length
      · obtain ⟨b, off, rfl, hcell⟩ := hc (by intro h; subst h; simp at hlt)
        obtain ⟨x, hx⟩ : ∃ x, l[k]? = some x := ⟨l[k], by simp [hlt]⟩
        have c0 := hcell k x hx
        have hb := L.block_lt c0.1
        have cc : ∀ o, wr.cell? ⟨b, o, none⟩ = w.cell? ⟨b, o, none⟩ := fun o => HB.out.cell (p := ⟨b, o, none⟩) hb
        have c1 := c0.1
        have c2 := c0.2
        rw [← cc] at c1 c2
        have HX : Hid (l[k]? = some x) := hx
        have fx := hf.at hx
        have hsz := HB.out.size
        obtain ⟨x1, x2⟩ := x
        simp only at c1 c2 fx
        clear c0 hx
        cases hbad : S.bad (x1, x2) with
        | true =>
          have HR : Hid (S.bad (x1, x2) = true) := hbad
          clear hbad cc hcell hc
          go_wp2_with (go_at_call 78; go_must (refine (outside_any _ (x1, x2)).mono ?_; rintro e w1 ⟨rfl, HB1⟩; rw [HR.out]))
          go_ret
          obtain ⟨bb, he, _⟩ := HW.out
          refine ⟨?_, ?_⟩
          · rw [he, wgo_drop HX.out, HR.out]; rfl
          · exact (HB.out.alloc hsz _).trans (HB1.mono (by simp; omega))
        | false =>
          have HR : Hid (S.bad (x1, x2) = false) := hbad
          have hok := S.bad_false.1 hbad
          simp only at hok
          clear hbad
          cases k with
          | zero =>
            clear cc hcell hc
            simp only [Nat.zero_mul, Nat.add_zero] at c1 c2
            go_wp2_with (go_at_call 78; go_must (refine (outside_any _ (x1, x2)).mono ?_; rintro e w1 ⟨rfl, HB1⟩; rw [HR.out]))
            obtain ⟨⟨d1, d2⟩, _, hs1, hb1⟩ := S.boxed HB1
            have HB2 : Hid (Below w.heap.size w w1) := HB.out.trans (hb1.mono hsz)
            clear HB1 hb1
            go_quiet (fail)
            go_wp2
            go_roundw
            case rel =>
              obtain ⟨bb, he, h0, _⟩ := HW.out
              refine ⟨1, by omega, by go_num, ⟨x2 + 2, ?_, fun h => by omega, fun p _ hp => ?_⟩, below_drewN HB2.out _⟩
              · rw [he, wgo_drop HX.out, HR.out, h0 trivial, if_neg (by simp), if_neg (by simp; omega)]
              · have h1 := HX.out
                rw [hp] at h1
                cases h1
                exact ⟨rfl, by omega⟩
            case measure => simp [intOf]; omega
          | succ m =>
            obtain ⟨p, hp⟩ : ∃ p, l[m]? = some p := ⟨l[m]'(by omega), by simp [show m < l.length by omega]⟩
            have c3 := (hcell m p hp).2
            rw [← cc] at c3
            have fp := hf.at hp
            have HP : Hid (l[m]? = some p) := hp
            obtain ⟨p1, p2⟩ := p
            simp only at c3 fp
            clear cc hcell hc hp
            go_wp2_with (go_at_call 78; go_must (refine (outside_any _ (x1, x2)).mono ?_; rintro e w1 ⟨rfl, HB1⟩; rw [HR.out]))
            obtain ⟨⟨d1, d2⟩, hold, hs1, hb1⟩ := S.boxed HB1
            replace c3 := hold _ _ _ c3
            have HB2 : Hid (Below w.heap.size w w1) := HB.out.trans (hb1.mono hsz)
            obtain ⟨bb, he, _, hpp⟩ := HW.out
            obtain ⟨rfl, hp2⟩ := hpp _ (Nat.succ_pos _) HP.out
            simp only at hp2
            have HE : Hid (S.wgo 0 l = S.wgo (p2 + 2) (l.drop (m + 1))) := he
            clear HB1 hb1 hold he hpp HW
            by_cases hlow : x1 < p2 + 2
            · go_quiet (fail)
              go_wp2
              go_ret
              refine ⟨?_, below_drewN HB2.out _⟩
              rw [HE.out, wgo_drop HX.out, HR.out, if_neg (by simp), if_pos hlow]; rfl
            · go_quiet (fail)
              go_wp2
              go_roundw
              case rel =>
                refine ⟨m + 1 + 1, by omega, by go_num, ⟨x2 + 2, ?_, fun h => by omega, fun p _ hp => ?_⟩, below_drewN HB2.out _⟩
                · rw [HE.out, wgo_drop HX.out, HR.out, if_neg (by simp), if_neg hlow]
                · have h1 := HX.out
                  have hp : l[m + 1]? = some p := hp
                  rw [hp] at h1
                  cases h1
                  exact ⟨rfl, by omega⟩
              case measure => simp [intOf]; omega
      · go_wp2
        go_ret
        refine ⟨?_, HB.out⟩
        obtain ⟨b, he, _⟩ := HW.out
        rw [he, List.drop_eq_nil_of_le (by omega)]
        rfl

end Go.Proofs.Ytfhgenllefhgkaa
