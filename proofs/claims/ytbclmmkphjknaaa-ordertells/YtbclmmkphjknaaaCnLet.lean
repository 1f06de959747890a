/-
  A letter and the marks behind it, joined; a text put together. Plain lists.
-/
import Derived.Test.YtbclmmkphjknaaaCnLess
import Derived.Test.YtbclmmkphjknaaaFrame
namespace Go.Proofs.Ytbclmmkphjknaaa.Nm
set_option linter.unusedSimpArgs false
set_option linter.unusedVariables false

/-- a letter and a mark as one; below 0: they don't go together -/
def jw (a b : Int) : Int := match join tab a b with | some p => p.2.2 | none => -1
/-- the letter so far, the marks that stay, the class of the last of them; and one more mark -/
def js (s : Int × List Int × Int) (m : Int) : Int × List Int × Int := if 0 ≤ jw s.1 m ∧ s.2.2 < cls m then (jw s.1 m, s.2.1, s.2.2) else (s.1, s.2.1 ++ [m], cls m)
def jn (h : Int) (ms : List Int) : List Int := (ms.foldl js (h, [], 0)).1 :: (ms.foldl js (h, [], 0)).2.1
theorem jw_some {a b : Int} {p : Pr} (h : join tab a b = some p) : jw a b = p.2.2 ∧ 0 ≤ p.2.2 ∧ p.2.2 ≤ 1114111 := by
  have := tab_bd p (List.mem_of_find?_eq_some h)
  exact ⟨by unfold jw; rw [h], this.2.2.2.2⟩
theorem jw_none {a b : Int} (h : join tab a b = none) : jw a b = -1 := by unfold jw; rw [h]
theorem jw_bd (a b : Int) : -1 ≤ jw a b ∧ jw a b ≤ 1114111 := by
  cases h : join tab a b with
  | none => rw [jw_none h]; omega
  | some p => obtain ⟨h1, h2, h3⟩ := jw_some h; rw [h1]; omega
theorem js_len (s : Int × List Int × Int) (m : Int) : (js s m).2.1.length ≤ s.2.1.length + 1 := by
  unfold js
  split <;> simp
theorem js_bd {s : Int × List Int × Int} (m : Int) (h : 0 ≤ s.1 ∧ s.1 ≤ 1114111) : 0 ≤ (js s m).1 ∧ (js s m).1 ≤ 1114111 := by
  unfold js
  split
  · rename_i h1; have := jw_bd s.1 m; exact ⟨h1.1, this.2⟩
  · exact h
theorem jf_len : ∀ (ms : List Int) (s : Int × List Int × Int), (ms.foldl js s).2.1.length ≤ s.2.1.length + ms.length
  | [], s => by simp
  | m :: ms, s => by
    rw [List.foldl_cons]
    have := jf_len ms (js s m)
    have := js_len s m
    simp only [List.length_cons]
    omega
theorem jf_bd : ∀ (ms : List Int) (s : Int × List Int × Int), (0 ≤ s.1 ∧ s.1 ≤ 1114111) → 0 ≤ (ms.foldl js s).1 ∧ (ms.foldl js s).1 ≤ 1114111
  | [], s, h => h
  | m :: ms, s, h => jf_bd ms (js s m) (js_bd m h)
theorem jn_len (h : Int) (ms : List Int) : (jn h ms).length ≤ ms.length + 1 := by
  unfold jn
  have := jf_len ms (h, [], 0)
  simp only [List.length_cons, List.length_nil] at this ⊢
  omega
/-- put together, as far as n -/
def togN : Nat → List Int → List Int
  | 0, _ => []
  | _ + 1, [] => []
  | n + 1, h :: t => if isM h then h :: togN n t else jn h (t.takeWhile isM) ++ togN n (t.dropWhile isM)
theorem drop_len (t : List Int) : (t.dropWhile isM).length ≤ t.length := by
  have h := congrArg List.length (List.takeWhile_append_dropWhile (p := isM) (l := t))
  rw [List.length_append] at h
  omega
theorem togN_eq : ∀ (n m : Nat) (l : List Int), l.length ≤ n → l.length ≤ m → togN n l = togN m l
  | 0, 0, l, _, _ => rfl
  | 0, m + 1, l, h, _ => by
    have : l = [] := List.eq_nil_of_length_eq_zero (by omega)
    subst this
    rfl
  | n + 1, 0, l, _, h => by
    have : l = [] := List.eq_nil_of_length_eq_zero (by omega)
    subst this
    rfl
  | n + 1, m + 1, [], _, _ => rfl
  | n + 1, m + 1, x :: t, h1, h2 => by
    simp only [List.length_cons] at h1 h2
    have := drop_len t
    rw [togN, togN, togN_eq n m t (by omega) (by omega), togN_eq n m (t.dropWhile isM) (by omega) (by omega)]
def tog (l : List Int) : List Int := togN l.length l
theorem tog_nil : tog [] = [] := rfl
theorem tog_mark {h : Int} (t : List Int) (hm : isM h = true) : tog (h :: t) = h :: tog t := by
  unfold tog
  rw [List.length_cons, togN, if_pos hm]
theorem tog_letter {h : Int} (t : List Int) (hm : isM h = false) : tog (h :: t) = jn h (t.takeWhile isM) ++ tog (t.dropWhile isM) := by
  unfold tog
  rw [List.length_cons, togN, if_neg (by simp [hm]), togN_eq t.length (t.dropWhile isM).length _ (drop_len t) (Nat.le_refl _)]
theorem tog_marks : ∀ (M R : List Int), (∀ r ∈ M, isM r = true) → tog (M ++ R) = M ++ tog R
  | [], R, _ => rfl
  | m :: M, R, h => by
    rw [List.cons_append, tog_mark _ (h m List.mem_cons_self), tog_marks M R fun r hr => h r (List.mem_cons_of_mem _ hr), List.cons_append]
theorem tog_lead (l : List Int) : tog l = l.take (lead l) ++ tog (l.drop (lead l)) := by
  rw [lead_take, lead_drop]
  have := tog_marks (l.takeWhile isM) (l.dropWhile isM) (take_marks l)
  rw [List.takeWhile_append_dropWhile] at this
  exact this
theorem tog_step {h : Int} (t : List Int) (hm : isM h = false) : tog (h :: t) = jn h (t.take (lead t)) ++ tog (t.drop (lead t)) := by
  rw [tog_letter t hm, lead_take, lead_drop]
theorem lead_first (l : List Int) : l.drop (lead l) = [] ∨ ∃ h t, l.drop (lead l) = h :: t ∧ isM h = false := by
  rw [lead_drop]
  cases h : l.dropWhile isM with
  | nil => exact .inl rfl
  | cons x t =>
    refine .inr ⟨x, t, rfl, ?_⟩
    have := List.head?_dropWhile_not isM l
    rw [h] at this
    simpa using this
theorem togN_len : ∀ (n : Nat) (l : List Int), (togN n l).length ≤ l.length
  | 0, l => by simp [togN]
  | n + 1, [] => by simp [togN]
  | n + 1, x :: t => by
    rw [togN]
    split
    · have := togN_len n t; simp only [List.length_cons]; omega
    · have h1 := togN_len n (t.dropWhile isM)
      have h2 := jn_len x (t.takeWhile isM)
      have h3 := congrArg List.length (List.takeWhile_append_dropWhile (p := isM) (l := t))
      rw [List.length_append] at h3 ⊢
      simp only [List.length_cons]
      omega
theorem tog_len (l : List Int) : (tog l).length ≤ l.length := togN_len _ _
theorem insV_mem : ∀ (r : List Int) (x y : Int), y ∈ insV r x → y = x ∨ y ∈ r
  | [], x, y, h => by simp [insV] at h; exact .inl h
  | z :: r, x, y, h => by
    rw [insV] at h
    split at h
    · rcases List.mem_cons.1 h with rfl | h
      · exact .inr List.mem_cons_self
      · exact (insV_mem r x y h).imp id (List.mem_cons_of_mem _)
    · rcases List.mem_cons.1 h with rfl | h
      · exact .inl rfl
      · exact .inr h
theorem insR_mem {out : List Int} {x y : Int} (h : y ∈ insR out x) : y = x ∨ y ∈ out := by
  unfold insR at h
  rw [List.mem_reverse] at h
  exact (insV_mem _ _ _ h).imp id List.mem_reverse.1
theorem fold_mem : ∀ (M out : List Int) (y : Int), y ∈ M.foldl insR out → y ∈ M ∨ y ∈ out
  | [], out, y, h => .inr h
  | m :: M, out, y, h => by
    rcases fold_mem M _ y h with h | h
    · exact .inl (List.mem_cons_of_mem _ h)
    · rcases insR_mem h with rfl | h
      · exact .inl List.mem_cons_self
      · exact .inr h
theorem full_bd : ∀ (n : Nat) (r : Int), (0 ≤ r ∧ r ≤ 1114111) → ∀ y ∈ full n r, 0 ≤ y ∧ y ≤ 1114111
  | 0, r, h, y, hy => by simp [full] at hy; omega
  | n + 1, r, h, y, hy => by
    rw [full] at hy
    cases hl : look tab r with
    | none => rw [hl] at hy; simp at hy; omega
    | some p =>
      rw [hl] at hy
      have hb := tab_bd p (look_mem hl).1
      rcases List.mem_append.1 hy with hy | hy
      · exact full_bd n p.1 ⟨hb.1, hb.2.1⟩ y hy
      · simp at hy; omega
theorem apart_bd (l : List Int) : ∀ y ∈ (apartF l).1, 0 ≤ y ∧ y ≤ 1114111 := by
  intro y hy
  unfold apartF at hy
  split at hy
  · simp at hy
  · rename_i h0
    split at hy
    · simp at hy
    · rcases fold_mem _ _ y hy with h | h
      · obtain ⟨r, hr, hy⟩ := List.mem_flatMap.1 h
        exact full_bd 2 r ((text_ok (by simpa using h0)).2 r hr) y hy
      · simp at h
/-- a text put together, and what is wrong -/
def togF (l : List Int) : List Int × Int := if (apartF l).2 ≠ 0 then ([], (apartF l).2) else (tog (apartF l).1, 0)
end Go.Proofs.Ytbclmmkphjknaaa.Nm

/-
  Great letters and small ones: the program's answers.
-/
namespace Go.Proofs.Ytbclmmkphjknaaa
open Go.RowKit
set_option maxRecDepth 20000
set_option linter.unusedSimpArgs false
set_option linter.unusedVariables false

theorem within_any (r a b : Int) (w : World) :
    Calls Try.prog 63 #[.int .i32 r, .int .i32 a, .int .i32 b] w fun e w' => e = .returned (.bool (decide (a ≤ r) && decide (r ≤ b))) ∧ w' = w := by
  go_enter Try.func63, Try.ntmps63
  go_wp2
  all_goals go_ret
  all_goals refine ⟨L.ret_bool ?_, rfl⟩
  all_goals (rw [Bool.eq_iff_iff]; simp; try omega)

set_option maxHeartbeats 2000000 in
theorem less_any (r : Int) (w : World) :
    Calls Try.prog 53 #[.int .i32 r] w fun e w' => e = .returned (.int .i32 (Cn.lessF r)) ∧ w' = w := by
  have H : Hid (∀ a b, Calls Try.prog 63 #[.int .i32 r, .int .i32 a, .int .i32 b] w fun e w' => e = .returned (.bool (decide (a ≤ r) && decide (r ≤ b))) ∧ w' = w) := fun a b => within_any r a b w
  go_enter Try.func53, Try.ntmps53
  go_wp2_with (go_at_call 63; refine (H.out _ _).mono ?_; rintro e w' ⟨rfl, rfl⟩)
  all_goals go_ret
  all_goals (refine ⟨?_, rfl⟩; unfold Cn.lessF; simp_all)
  all_goals (try omega)

theorem Cn.wrap32 (x : Int) : IntKind.i32.wrap x = if x % 4294967296 ≥ 2147483648 then x % 4294967296 - 4294967296 else x % 4294967296 := by
  have hb2 : (2 : Int) ^ IntKind.i32.bits = 4294967296 := by decide
  have hb3 : (2 : Int) ^ (IntKind.i32.bits - 1) = 2147483648 := by decide
  have hs : IntKind.i32.signed = true := by decide
  simp only [IntKind.wrap, hb2, hb3, hs, Bool.true_and, decide_eq_true_eq]
theorem Cn.less_wrap (r d : Int) (h1 : -2147483648 ≤ r) (h2 : r ≤ 2147483647) (hd : 0 < d) (hd2 : d ≤ 80) : Cn.lessF (IntKind.i32.wrap (r + d)) = Cn.lessF (r + d) ∧ (¬ Cn.lessF (r + d) = 0 → IntKind.i32.wrap (r + d) = r + d) := by
  by_cases hb : r + d ≤ 2147483647
  · have : IntKind.i32.wrap (r + d) = r + d := by
      rw [Cn.wrap32]; split <;> omega
    rw [this]; exact ⟨rfl, fun _ => rfl⟩
  · have e : IntKind.i32.wrap (r + d) = r + d - 4294967296 := by
      rw [Cn.wrap32]; split <;> omega
    rw [e]
    have z1 : Cn.lessF (r + d - 4294967296) = 0 := by rcases Cn.less_cases (r + d - 4294967296) with h | h | h <;> omega
    have z2 : Cn.lessF (r + d) = 0 := by rcases Cn.less_cases (r + d) with h | h | h <;> omega
    rw [z1, z2]
    exact ⟨rfl, fun h => absurd rfl h⟩
set_option maxHeartbeats 2000000 in
theorem cnLower_any (r : Int) (h1 : -2147483648 ≤ r) (h2 : r ≤ 2147483647) (w : World) :
    Calls Try.prog 37 #[.int .i32 r] w fun e w' => e = .returned (.int .i32 (Cn.low r)) ∧ w' = w := by
  have hw32 : ∀ x, IntKind.i32.wrap x = wrap32 x := fun x => by rw [Cn.wrap32]; unfold wrap32; split <;> omega
  have H1 := less_any (IntKind.i32.wrap (r + 32)) w
  have H2 := less_any (IntKind.i32.wrap (r + 80)) w
  have w1 := Cn.less_wrap r 32 h1 h2 (by decide) (by decide)
  have w2 := Cn.less_wrap r 80 h1 h2 (by decide) (by decide)
  rw [w1.1] at H1
  rw [w2.1] at H2
  have e1 := w1.2
  have e2 := w2.2
  have x0 : ∀ w, (Instr.index 81 (.agg #[.int .i32 32, .int .i32 80]) (.int .i64 0)).run Try.prog w = .ok (.int .i32 32) w := fun w => by kernel_rfl
  have x1 : ∀ w, (Instr.index 81 (.agg #[.int .i32 32, .int .i32 80]) (.int .i64 1)).run Try.prog w = .ok (.int .i32 80) w := fun w => by kernel_rfl
  rw [hw32] at H1 H2 e1 e2
  clear w1 w2 hw32
  obtain ⟨o, HO⟩ : ∃ o, Hid (Cn.low r = o) := ⟨_, rfl⟩
  rw [show Cn.low r = o from HO.out]
  have HE : Hid ((¬Cn.lessF (r + 32) = 0 → wrap32 (r + 32) = r + 32) ∧ (¬Cn.lessF (r + 80) = 0 → wrap32 (r + 80) = r + 80)) := ⟨e1, e2⟩
  have HL : Hid (Cn.low r = if Cn.lessF (r + 32) = 32 then r + 32 else if Cn.lessF (r + 80) = 80 then r + 80 else r) := rfl
  generalize Cn.lessF (r + 32) = d1 at H1 HE HL
  generalize Cn.lessF (r + 80) = d2 at H2 HE HL
  clear e1 e2
  go_enter Try.func37, Try.ntmps37
  go_wp2
  refine wp_loop_rounds 3 ?_
  rw [rounds_succ]
  go_wp2_with fail
  refine H1.mono ?_
  rintro e w' ⟨rfl, rfl⟩
  by_cases q1 : d1 = 32
  · have hb1 : wrap32 (r + 32) = r + 32 := HE.out.1 (by omega)
    go_wp2
    go_ret
    exact ⟨L.ret_int (by rw [← HO.out, HL.out, if_pos q1, hb1]), rfl⟩
  · go_wp2
    rw [rounds_succ]
    go_wp2_with fail
    refine H2.mono ?_
    rintro e w' ⟨rfl, rfl⟩
    by_cases q2 : d2 = 80
    · have hb1 : wrap32 (r + 80) = r + 80 := HE.out.2 (by omega)
      go_wp2
      go_ret
      exact ⟨L.ret_int (by rw [← HO.out, HL.out, if_neg q1, if_pos q2, hb1]), rfl⟩
    · go_wp2
      rw [rounds_succ]
      go_wp2
      go_ret
      exact ⟨L.ret_int (by rw [← HO.out, HL.out, if_neg q1, if_neg q2]), rfl⟩
end Go.Proofs.Ytbclmmkphjknaaa
