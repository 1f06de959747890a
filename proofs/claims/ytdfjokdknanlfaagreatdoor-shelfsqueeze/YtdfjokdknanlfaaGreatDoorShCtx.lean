/-
  Rules of one rune each, with a rune ahead, behind, or a text's end: quotes, sigma, dots, edges. Plain lists.
-/
import Derived.Test.YtdfjokdknanlfaaGreatDoorShPlay
namespace Go.Proofs.YtdfjokdknanlfaaGreatDoor.Sh
set_option linter.unusedSimpArgs false

theorem m_plain (st fi : Bool) (s : List S.Sp) (tg : List Int) (c : Int) (done : List Int) (r : Int) (rest : List Int) : K.matchB ⟨st, fi, [], [s], [], tg, c⟩ (done ++ r :: rest) done.length = (S.memb s r && !(st && !done.isEmpty) && !(fi && !rest.isEmpty)) := by
  have e1 := zed done r rest
  have e0 : (done.length : Int) - ((([] : List (List S.Sp)).length : Nat) : Int) = (done.length : Int) := by simp
  simp only [K.matchB, e0, List.nil_append, List.append_nil, K.runAt, Bool.and_true, e1]
  have h1 : decide ((0 : Int) ≤ (done.length : Int)) = true := by simp
  have h2 : decide ((done.length : Int) < ((done ++ r :: rest).length : Int)) = true := by first | (simp; done) | (simp; omega)
  have h3 : decide ((0 : Int) < (done.length : Int)) = !done.isEmpty := by cases done <;> simp <;> omega
  have h4 : decide ((done.length : Int) + (([s] : List (List S.Sp)).length : Int) + (([] : List (List S.Sp)).length : Int) < ((done ++ r :: rest).length : Int)) = !rest.isEmpty := by cases rest <;> simp <;> omega
  rw [h1, h2, h3, h4, Bool.true_and, Bool.true_and]
theorem m_before (b s : List S.Sp) (tg : List Int) (c : Int) (done : List Int) (r : Int) (rest : List Int) : K.matchB ⟨false, false, [b], [s], [], tg, c⟩ (done ++ r :: rest) done.length = (match done.getLast? with | none => false | some x => S.memb b x && S.memb s r) := by
  have e1 := zed done r rest
  rcases List.eq_nil_or_concat done with rfl | ⟨a, x, rfl⟩
  · simp [K.matchB, K.runAt]
  · rw [List.concat_eq_append] at e1 ⊢
    have e2 := zsk a x r rest
    have hlast : (a ++ [x]).getLast? = some x := by simp
    rw [hlast]
    simp only [K.matchB, List.length_cons, List.length_nil, List.append_nil, List.cons_append, List.nil_append, K.runAt, Bool.and_true, Bool.false_and, Bool.not_false]
    have e3 : ((a ++ [x]).length : Int) - ((0 + 1 : Nat) : Int) + 1 = ((a ++ [x]).length : Int) := by omega
    have e4 : ((a ++ [x]).length : Int) - ((0 + 1 : Nat) : Int) = ((a ++ [x]).length : Int) - 1 := by omega
    rw [e3, e4, e1, e2]
    have h1 : decide ((0 : Int) ≤ ((a ++ [x]).length : Int) - 1) = true := by first | (simp; done) | (simp; omega)
    have h2 : decide (((a ++ [x]).length : Int) - 1 < (((a ++ [x]) ++ r :: rest).length : Int)) = true := by first | (simp; done) | (simp; omega)
    have h3 : decide ((0 : Int) ≤ ((a ++ [x]).length : Int)) = true := by first | (simp; done) | (simp; omega)
    have h4 : decide (((a ++ [x]).length : Int) < (((a ++ [x]) ++ r :: rest).length : Int)) = true := by first | (simp; done) | (simp; omega)
    rw [h1, h2, h3, h4]
    simp
theorem m_after (s a : List S.Sp) (tg : List Int) (c : Int) (done : List Int) (r : Int) (rest : List Int) : K.matchB ⟨false, false, [], [s], [a], tg, c⟩ (done ++ r :: rest) done.length = (match rest.head? with | none => false | some y => S.memb s r && S.memb a y) := by
  have e1 := zed done r rest
  have e0 : (done.length : Int) - ((([] : List (List S.Sp)).length : Nat) : Int) = (done.length : Int) := by simp
  cases rest with
  | nil => simp [K.matchB, K.runAt]
  | cons y rest =>
    have e2 : (done ++ r :: y :: rest).getD ((done.length : Int) + 1).toNat 0 = y := by
      have h := zed (done ++ [r]) y rest
      rw [List.append_assoc] at h
      have e : ((done ++ [r]).length : Int).toNat = ((done.length : Int) + 1).toNat := by first | (simp; done) | (simp; omega)
      rw [e] at h
      exact h
    simp only [K.matchB, e0, List.nil_append, List.cons_append, K.runAt, Bool.and_true, e1, e2, Bool.false_and, Bool.not_false, List.head?_cons]
    have h1 : decide ((0 : Int) ≤ (done.length : Int)) = true := by simp
    have h2 : decide ((done.length : Int) < ((done ++ r :: y :: rest).length : Int)) = true := by first | (simp; done) | (simp; omega)
    have h3 : decide ((0 : Int) ≤ (done.length : Int) + 1) = true := by first | (simp; done) | (simp; omega)
    have h4 : decide ((done.length : Int) + 1 < ((done ++ r :: y :: rest).length : Int)) = true := by first | (simp; done) | (simp; omega)
    rw [h1, h2, h3, h4]
    simp
/-- a text rune by rune: what stood ahead, the rune, what stands behind -/
def cw (g : Option Int → Int → Option Int → List Int) : Option Int → List Int → List Int
  | _, [] => []
  | p, r :: l => g p r l.head? ++ cw g (some r) l
theorem em_cw {f : List Int → Int → List Int → List Int} {g : Option Int → Int → Option Int → List Int} {Rel : List Int → Option Int → Prop}
    (h1 : ∀ done p r rest, Rel done p → f done r rest = g p r rest.head?) (h2 : ∀ done p r rest, Rel done p → Rel (done ++ f done r rest) (some r)) :
    ∀ rest done p, Rel done p → em f done rest = done ++ cw g p rest := by
  intro rest
  induction rest with
  | nil => intro done p _; simp [em, cw]
  | cons r rest ih =>
    intro done p hr
    rw [em, ih _ (some r) (h2 done p r rest hr), cw, ← h1 done p r rest hr, List.append_assoc]
/-- what stands ahead -/
def pv (t : List Int) : Nat → Option Int
  | 0 => none
  | j + 1 => t[j]?
theorem cw_step {g : Option Int → Int → Option Int → List Int} {p : Option Int} {t : List Int} {j : Nat} {r : Int} (h : t[j]? = some r) : cw g p (t.drop j) = g p r t[j + 1]? ++ cw g (pv t (j + 1)) (t.drop (j + 1)) := by
  have hlt := (List.getElem?_eq_some_iff.1 h).1
  have h2 := (List.getElem?_eq_some_iff.1 h).2
  rw [List.drop_eq_getElem_cons hlt, h2, cw, List.head?_drop]
  show _ = _ ++ cw g t[j]? _
  rw [h]
theorem cw_mem {g : Option Int → Int → Option Int → List Int} (Q : Int → Prop) (hg : ∀ p r n, Q r → ∀ z ∈ g p r n, Q z) : ∀ (t : List Int) (p : Option Int), (∀ z ∈ t, Q z) → ∀ z ∈ cw g p t, Q z := by
  intro t
  induction t with
  | nil => intro p _ z hz; cases hz
  | cons r t ih =>
    intro p h z hz
    rw [cw, List.mem_append] at hz
    rcases hz with hz | hz
    · exact hg _ _ _ (h r List.mem_cons_self) z hz
    · exact ih _ (fun z hz => h z (List.mem_cons_of_mem _ hz)) z hz
theorem cw_len {g : Option Int → Int → Option Int → List Int} (hg : ∀ p r n, (g p r n).length ≤ 1) : ∀ (t : List Int) (p : Option Int), (cw g p t).length ≤ t.length := by
  intro t
  induction t with
  | nil => intro p; simp [cw]
  | cons r t ih =>
    intro p
    rw [cw, List.length_append, List.length_cons]
    have := ih (some r); have := hg p r t.head?
    omega
theorem memb_one (a z : Int) : S.memb [(a, a)] z = decide (z = a) := by simp [S.memb]; rw [Bool.eq_iff_iff]; simp; omega

/- quotes -/
def rQ1 : K.Rule := ⟨true, false, [], [[(34, 34)]], [], [8220], 1⟩
def rQ2 : K.Rule := ⟨false, false, [[(32, 32)]], [[(34, 34)]], [], [8220], 1⟩
def rQ3 : K.Rule := ⟨false, false, [], [[(34, 34)]], [], [8221], 1⟩
def gQ (p : Option Int) (r : Int) (_ : Option Int) : List Int := if r = 34 then (if p = none ∨ p = some 32 then [8220] else [8221]) else [r]
def fQ (done : List Int) (r : Int) (_ : List Int) : List Int := if r = 34 then (if done = [] ∨ done.getLast? = some 32 then [8220] else [8221]) else [r]
theorem which_three {x y z : K.Rule} {t : List Int} {k : Int} : K.which [x, y, z] t k = if K.matchB x t k = true then 0 else if K.matchB y t k = true then 1 else if K.matchB z t k = true then 2 else -1 := by
  unfold K.which
  rw [K.whichN, K.whichN, K.whichN, K.whichN]
  rfl
theorem which_two {x y : K.Rule} {t : List Int} {k : Int} : K.which [x, y] t k = if K.matchB x t k = true then 0 else if K.matchB y t k = true then 1 else -1 := by
  unfold K.which
  rw [K.whichN, K.whichN, K.whichN]
  rfl
theorem go_q {pl : Cn.Pl} (hpl : Cn.PlOk pl) {t : List Int} (ht : t.length ≤ 1000) (hR : ∀ z ∈ t, M.right z = true) : Cn.goF pl (oneS [rQ1, rQ2, rQ3]) t = (cw gQ none t, 0, 0) := by
  have h := zqo hpl (l := [rQ1, rQ2, rQ3]) (f := fQ) (m := 1) (by omega) (by omega) (by decide +kernel) (by decide +kernel) (fun done r rest => ?_) ht hR
  · rw [h, em_cw (g := gQ) (Rel := fun done p => (p = none ↔ done = []) ∧ (p = some 32 ↔ done.getLast? = some 32)) ?_ ?_ t [] none ⟨by simp, by simp⟩]
    · rfl
    · rintro done p r rest ⟨h1, h2⟩
      unfold fQ gQ
      simp only [h1, h2]
    · rintro done p r rest ⟨h1, h2⟩
      unfold fQ
      by_cases hr : r = 34
      · rw [if_pos hr, hr]
        split <;> simp
      · rw [if_neg hr]
        simp
  · have e1 : K.matchB rQ1 (done ++ r :: rest) done.length = (S.memb [(34, 34)] r && !(true && !done.isEmpty) && !(false && !rest.isEmpty)) := m_plain _ _ _ _ _ _ _ _
    have e2 : K.matchB rQ2 (done ++ r :: rest) done.length = _ := m_before _ _ _ _ _ _ _
    have e3 : K.matchB rQ3 (done ++ r :: rest) done.length = (S.memb [(34, 34)] r && !(false && !done.isEmpty) && !(false && !rest.isEmpty)) := m_plain _ _ _ _ _ _ _ _
    rw [memb_one] at e1 e3
    rw [which_three, e1, e2, e3]
    by_cases hr : r = 34
    · subst hr
      right
      by_cases hd : done = []
      · subst hd
        exact ⟨0, rQ1, by simp, rfl, rfl, rfl, by decide, by simp [fQ, rQ1]⟩
      · have hi : done.isEmpty = false := by cases done <;> simp_all
        by_cases hl : done.getLast? = some 32
        · refine ⟨1, rQ2, ?_, rfl, rfl, rfl, by decide, ?_⟩
          · rw [hl, hi]; simp [memb_one]
          · unfold fQ; rw [if_pos rfl, if_pos (.inr hl)]; rfl
        · refine ⟨2, rQ3, ?_, rfl, rfl, rfl, by decide, ?_⟩
          · rw [hi]
            have : (match done.getLast? with | none => false | some x => S.memb [(32, 32)] x && S.memb [(34, 34)] 34) = false := by
              cases hg : done.getLast? with
              | none => rfl
              | some x => simp only [memb_one]; rw [hg] at hl; simp; intro h; exact hl (by rw [h])
            rw [this]; simp
          · unfold fQ; rw [if_pos rfl, if_neg (fun h => h.elim hd hl)]; rfl
    · left
      refine ⟨?_, by unfold fQ; rw [if_neg hr]⟩
      have : (match done.getLast? with | none => false | some x => S.memb [(32, 32)] x && S.memb [(34, 34)] r) = false := by
        cases done.getLast? with
        | none => rfl
        | some x => simp [memb_one, hr]
      rw [this]; simp [hr]
theorem gQ_blank {t : List Int} {m : Nat} {n : Option Int} (h : t[m]? = some 32) : gQ (pv t (m + 1)) 34 n = [8220] := by
  show gQ t[m]? 34 n = _
  rw [h]; rfl
theorem gQ_else {t : List Int} {m : Nat} {n : Option Int} {x : Int} (h : t[m]? = some x) (hx : ¬ x = 32) : gQ (pv t (m + 1)) 34 n = [8221] := by
  show gQ t[m]? 34 n = _
  rw [h]; unfold gQ; rw [if_pos rfl, if_neg]
  rintro (h | h)
  · cases h
  · exact hx (Option.some.inj h)
theorem gQ_len (p : Option Int) (r : Int) (n : Option Int) : (gQ p r n).length ≤ 1 := by unfold gQ; split <;> (try split) <;> simp
theorem gQ_right (p : Option Int) (r : Int) (n : Option Int) (h : M.right r = true) : ∀ z ∈ gQ p r n, M.right z = true := by
  intro z hz
  unfold gQ at hz
  split at hz
  · split at hz
    · simp at hz; subst hz; decide
    · simp at hz; subst hz; decide
  · simp at hz; subst hz; exact h

/- sigma -/
def sgN : List S.Sp := [(0, 879), (1024, 1114111)]
def rS1 : K.Rule := ⟨false, false, [], [[(963, 963)]], [sgN], [962], 1⟩
def rS2 : K.Rule := ⟨false, true, [], [[(963, 963)]], [], [962], 1⟩
def nxS : Option Int → Bool | none => true | some y => S.memb sgN y
def gS (_ : Option Int) (r : Int) (n : Option Int) : List Int := if r = 963 ∧ nxS n = true then [962] else [r]
theorem go_s {pl : Cn.Pl} (hpl : Cn.PlOk pl) {t : List Int} (ht : t.length ≤ 1000) (hR : ∀ z ∈ t, M.right z = true) : Cn.goF pl (oneS [rS1, rS2]) t = (cw gS none t, 0, 0) := by
  have h := zqo hpl (l := [rS1, rS2]) (f := fun done r rest => gS none r rest.head?) (m := 1) (by omega) (by omega) (by decide +kernel) (by decide +kernel) (fun done r rest => ?_) ht hR
  · rw [h, em_cw (f := fun done r rest => gS none r rest.head?) (g := gS) (Rel := fun _ _ => True) (fun _ _ _ _ _ => rfl) (fun _ _ _ _ _ => trivial) t [] none trivial]
    rfl
  · have e1 : K.matchB rS1 (done ++ r :: rest) done.length = _ := m_after _ _ _ _ _ _ _
    have e2 : K.matchB rS2 (done ++ r :: rest) done.length = (S.memb [(963, 963)] r && !(false && !done.isEmpty) && !(true && !rest.isEmpty)) := m_plain _ _ _ _ _ _ _ _
    rw [memb_one] at e2
    rw [which_two, e1, e2]
    by_cases hr : r = 963
    · subst hr
      cases rest with
      | nil => exact .inr ⟨1, rS2, by simp, rfl, rfl, rfl, by decide, by simp [gS, nxS, rS2]⟩
      | cons y rest =>
        cases hy : S.memb sgN y with
        | true => exact .inr ⟨0, rS1, by simp [memb_one, hy], rfl, rfl, rfl, by decide, by simp [gS, nxS, hy, rS1]⟩
        | false => exact .inl ⟨by simp [memb_one, hy], by simp [gS, nxS, hy]⟩
    · left
      refine ⟨?_, by unfold gS; rw [if_neg (fun h => hr h.1)]⟩
      have : (match rest.head? with | none => false | some y => S.memb [(963, 963)] r && S.memb sgN y) = false := by
        cases rest.head? with
        | none => rfl
        | some x => simp [memb_one, hr]
      rw [this]; simp [hr]
theorem gS_len (p : Option Int) (r : Int) (n : Option Int) : (gS p r n).length ≤ 1 := by unfold gS; split <;> simp
theorem gS_right (p : Option Int) (r : Int) (n : Option Int) (h : M.right r = true) : ∀ z ∈ gS p r n, M.right z = true := by
  intro z hz
  unfold gS at hz
  split at hz
  · simp at hz; subst hz; decide
  · simp at hz; subst hz; exact h
theorem nxS_is {y : Int} (h0 : 0 ≤ y) (h1 : y ≤ 1114111) : nxS (some y) = decide (y < 880 ∨ 1023 < y) := by
  unfold nxS sgN; simp [S.memb]; rw [Bool.eq_iff_iff]; simp; omega

/- dots -/
def dtN : List S.Sp := [(33, 33), (44, 44), (46, 46), (58, 59), (63, 63)]
def rD : K.Rule := ⟨false, false, [], [[(32, 32)]], [dtN], [], 0⟩
def nxD : Option Int → Bool | none => false | some y => S.memb dtN y
def gD (_ : Option Int) (r : Int) (n : Option Int) : List Int := if r = 32 ∧ nxD n = true then [] else [r]
theorem go_d {pl : Cn.Pl} (hpl : Cn.PlOk pl) {t : List Int} (ht : t.length ≤ 1000) (hR : ∀ z ∈ t, M.right z = true) : Cn.goF pl (oneS [rD]) t = (cw gD none t, 0, 0) := by
  have h := zqo hpl (l := [rD]) (f := fun done r rest => gD none r rest.head?) (m := 1) (by omega) (by omega) (by decide +kernel) (by decide +kernel) (fun done r rest => ?_) ht hR
  · rw [h, em_cw (f := fun done r rest => gD none r rest.head?) (g := gD) (Rel := fun _ _ => True) (fun _ _ _ _ _ => rfl) (fun _ _ _ _ _ => trivial) t [] none trivial]
    rfl
  · have e1 : K.matchB rD (done ++ r :: rest) done.length = _ := m_after _ _ _ _ _ _ _
    by_cases hm : K.matchB rD (done ++ r :: rest) done.length = true
    · refine .inr ⟨0, rD, zhc.1 hm, rfl, rfl, rfl, by decide, ?_⟩
      rw [e1] at hm
      cases hh : rest.head? with
      | none => rw [hh] at hm; cases hm
      | some y =>
        rw [hh] at hm
        simp only [memb_one, Bool.and_eq_true, decide_eq_true_eq] at hm
        simp [gD, nxD, hm.1, hm.2, rD]
    · refine .inl ⟨zhc.2 hm, ?_⟩
      rw [e1] at hm
      show gD none r rest.head? = [r]
      unfold gD
      rw [if_neg]
      rintro ⟨rfl, h2⟩
      cases hh : rest.head? with
      | none => rw [hh] at h2; cases h2
      | some y =>
        rw [hh] at hm h2
        exact hm (by simp only [memb_one, Bool.and_eq_true]; exact ⟨by simp, h2⟩)
theorem gD_len (p : Option Int) (r : Int) (n : Option Int) : (gD p r n).length ≤ 1 := by unfold gD; split <;> simp
theorem gD_right (p : Option Int) (r : Int) (n : Option Int) (h : M.right r = true) : ∀ z ∈ gD p r n, M.right z = true := by
  intro z hz
  unfold gD at hz
  split at hz
  · cases hz
  · simp at hz; subst hz; exact h
theorem nxD_is (y : Int) : nxD (some y) = decide (y = 46 ∨ y = 33 ∨ y = 63 ∨ y = 44 ∨ y = 59 ∨ y = 58) := by
  unfold nxD dtN; simp [S.memb]; rw [Bool.eq_iff_iff]; simp; omega

/- edges -/
def rE1 : K.Rule := ⟨true, false, [], [[(32, 32)]], [], [], 0⟩
def rE2 : K.Rule := ⟨false, true, [], [[(32, 32)]], [], [], 0⟩
def fE (done : List Int) (r : Int) (rest : List Int) : List Int := if r = 32 ∧ (done = [] ∨ rest = []) then [] else [r]
/-- one at the end -/
def ed1 (d : List Int) : List Int := if d.getLast? = some 32 then d.dropLast else d
def ed : List Int → List Int
  | [] => []
  | r :: t => if r = 32 then ed t else ed1 (r :: t)
theorem ed1_cons {r x : Int} {l : List Int} : ed1 (r :: x :: l) = r :: ed1 (x :: l) := by
  unfold ed1
  rw [List.getLast?_cons_cons]
  split <;> rfl
theorem em_e1 : ∀ (rest done : List Int), done ≠ [] → em fE done rest = done ++ ed1 rest := by
  intro rest
  induction rest with
  | nil => intro done _; simp [em, ed1]
  | cons r rest ih =>
    intro done hd
    rw [em, ih _ (by simp [hd])]
    cases rest with
    | nil =>
      by_cases hr : r = 32
      · subst hr; simp [fE, ed1]
      · simp [fE, ed1, hr]
    | cons x l =>
      rw [ed1_cons]
      have e : fE done r (x :: l) = [r] := by unfold fE; rw [if_neg (fun h => h.2.elim hd (fun h => by cases h))]
      rw [e]; simp
theorem em_e : ∀ (t : List Int), em fE [] t = ed t := by
  intro t
  induction t with
  | nil => rfl
  | cons r t ih =>
    rw [em, ed]
    by_cases hr : r = 32
    · have e : fE [] r t = [] := by unfold fE; rw [if_pos ⟨hr, .inl rfl⟩]
      rw [e, if_pos hr, List.append_nil, ih]
    · have e : fE [] r t = [r] := by unfold fE; rw [if_neg (fun h => hr h.1)]
      rw [e, if_neg hr, List.nil_append, em_e1 _ _ (by simp)]
      cases t with
      | nil => simp [ed1, hr]
      | cons x l => rw [ed1_cons]; rfl
theorem go_e {pl : Cn.Pl} (hpl : Cn.PlOk pl) {t : List Int} (ht : t.length ≤ 1000) (hR : ∀ z ∈ t, M.right z = true) : Cn.goF pl (oneS [rE1, rE2]) t = (ed t, 0, 0) := by
  have h := zqo hpl (l := [rE1, rE2]) (f := fE) (m := 1) (by omega) (by omega) (by decide +kernel) (by decide +kernel) (fun done r rest => ?_) ht hR
  · rw [h, em_e]
  · have e1 : K.matchB rE1 (done ++ r :: rest) done.length = (S.memb [(32, 32)] r && !(true && !done.isEmpty) && !(false && !rest.isEmpty)) := m_plain _ _ _ _ _ _ _ _
    have e2 : K.matchB rE2 (done ++ r :: rest) done.length = (S.memb [(32, 32)] r && !(false && !done.isEmpty) && !(true && !rest.isEmpty)) := m_plain _ _ _ _ _ _ _ _
    rw [memb_one] at e1 e2
    rw [which_two, e1, e2]
    by_cases hr : r = 32
    · subst hr
      cases done with
      | nil => exact .inr ⟨0, rE1, by simp, rfl, rfl, rfl, by decide, by simp [fE, rE1]⟩
      | cons a done =>
        cases rest with
        | nil => exact .inr ⟨1, rE2, by simp, rfl, rfl, rfl, by decide, by simp [fE, rE2]⟩
        | cons b rest => exact .inl ⟨by simp, by simp [fE]⟩
    · exact .inl ⟨by simp [hr], by simp [fE, hr]⟩
theorem ed_mem : ∀ (t : List Int) (y : Int), y ∈ ed t → y ∈ t := by
  intro t
  induction t with
  | nil => intro y h; exact h
  | cons r t ih =>
    intro y h
    rw [ed] at h
    split at h
    · exact List.mem_cons_of_mem _ (ih y h)
    · unfold ed1 at h
      split at h
      · exact List.dropLast_subset _ h
      · exact h
theorem ed_len : ∀ (t : List Int), (ed t).length ≤ t.length := by
  intro t
  induction t with
  | nil => exact Nat.le_refl _
  | cons r t ih =>
    rw [ed]
    split
    · rw [List.length_cons]; omega
    · unfold ed1
      split
      · rw [List.length_dropLast]; omega
      · exact Nat.le_refl _
/-- how long a slice is -/
def vlen : Value → Nat | .slice _ n _ => n | _ => 0
end Go.Proofs.YtdfjokdknanlfaaGreatDoor.Sh
