/-
  Texts of bytes cut and joined; the scan one step at a time. Plain lists.
-/
import Derived.Test.YtgbhkkojkpndmaaGreatDoorShPlay
import Derived.Test.YtgbhkkojkpndmaaGreatDoorTChar
import Derived.Test.YtgbhkkojkpndmaaGreatDoorTMath
namespace Go.Proofs.YtgbhkkojkpndmaaGreatDoor.Sh
set_option linter.unusedSimpArgs false

abbrev Sr := List Int × List Int
def rl (x : Sr) : K.Rule := ⟨false, false, [], x.1.map fun c => [(c, c)], [], x.2, x.2.length⟩
def pfx (l : List Sr) (t : List Int) : Option Sr := l.find? fun x => x.1.isPrefixOf t
def sc (l : List Sr) : Nat → List Int → List Int
  | 0, t => t
  | _ + 1, [] => []
  | n + 1, r :: t => match pfx l (r :: t) with
    | some x => x.2 ++ sc l n ((r :: t).drop x.1.length)
    | none => r :: sc l n t
theorem runAt_pfx (done rest : List Int) : ∀ (src : List Int) (i : Nat), K.runAt (done ++ rest) ((done.length : Int) + (i : Nat)) (src.map fun c => [(c, c)]) = src.isPrefixOf (rest.drop i) := by
  intro src
  induction src with
  | nil => intro i; simp [K.runAt]
  | cons c src ih =>
    intro i
    have e : (done.length : Int) + (i : Nat) + 1 = (done.length : Int) + ((i + 1 : Nat) : Int) := by omega
    have em : ∀ z : Int, S.memb [(c, c)] z = decide (z = c) := fun z => by simp [S.memb]; rw [Bool.eq_iff_iff]; simp; omega
    rw [List.map_cons, K.runAt, e, ih, em]
    have h1 : decide ((0 : Int) ≤ (done.length : Int) + (i : Nat)) = true := by simp; omega
    have h3 : ((done.length : Int) + (i : Nat)).toNat = done.length + i := by omega
    rw [h1, h3, Bool.true_and]
    by_cases hi : i < rest.length
    · have h2 : decide ((done.length : Int) + (i : Nat) < ((done ++ rest).length : Int)) = true := by simp; omega
      have h4 : (done ++ rest).getD (done.length + i) 0 = rest[i] := by
        rw [List.getD_eq_getElem?_getD, List.getElem?_append_right (by omega), Nat.add_sub_cancel_left]; simp [hi]
      rw [h2, h4, Bool.true_and, List.drop_eq_getElem_cons hi, List.isPrefixOf]
      congr 1
      rw [Bool.eq_iff_iff]; simp
      exact eq_comm
    · have h2 : decide ((done.length : Int) + (i : Nat) < ((done ++ rest).length : Int)) = false := by simp; omega
      have h5 : rest.drop i = [] := List.drop_eq_nil_of_le (by omega)
      rw [h2, h5]
      simp [List.isPrefixOf]
theorem match_rl (x : Sr) (done rest : List Int) : K.matchB (rl x) (done ++ rest) done.length = x.1.isPrefixOf rest := by
  have h := runAt_pfx done rest x.1 0
  have e0 : (done.length : Int) - ((([] : List (List S.Sp)).length : Nat) : Int) = (done.length : Int) + ((0 : Nat) : Int) := by simp
  simp only [K.matchB, rl, List.nil_append, List.append_nil, Bool.false_and, Bool.not_false, Bool.and_true]
  rw [e0, h, List.drop_zero]
theorem which_rl (done rest : List Int) : ∀ (l : List Sr) (i : Nat), (K.whichN (done ++ rest) done.length i (l.map rl) = -1 ∧ pfx l rest = none) ∨ ∃ (j : Nat) (x : Sr), K.whichN (done ++ rest) done.length i (l.map rl) = ((i + j : Nat) : Int) ∧ l[j]? = some x ∧ pfx l rest = some x := by
  intro l
  induction l with
  | nil => intro i; exact .inl ⟨rfl, rfl⟩
  | cons x l ih =>
    intro i
    rw [List.map_cons, K.whichN, match_rl]
    unfold pfx
    rw [List.find?_cons]
    by_cases h : x.1.isPrefixOf rest = true
    · rw [if_pos h, h]
      exact .inr ⟨0, x, rfl, rfl, rfl⟩
    · have h' : x.1.isPrefixOf rest = false := Bool.eq_false_iff.2 h
      rw [if_neg h, h']
      rcases ih (i + 1) with ⟨h1, h2⟩ | ⟨j, y, h1, h2, h3⟩
      · exact .inl ⟨h1, h2⟩
      · exact .inr ⟨j + 1, y, by rw [h1]; congr 1; omega, by simpa using h2, h3⟩
theorem pfx_len {l : List Sr} {t : List Int} {x : Sr} (h : pfx l t = some x) : x ∈ l ∧ x.1.length ≤ t.length := by
  have h1 := List.mem_of_find?_eq_some h
  have h2 := List.find?_some h
  exact ⟨h1, (List.isPrefixOf_iff_prefix.1 h2).length_le⟩
theorem play_sc {l : List Sr} (hl : ∀ x ∈ l, 1 ≤ x.1.length ∧ x.2.length ≤ x.1.length) : ∀ (left : Nat) (rest done : List Int) (s p : Int), rest.length ≤ left → done.length + rest.length ≤ 4000 → ∃ s' p', K.play (l.map rl) left done rest s p = (0, done ++ sc l left rest, s', p') := by
  intro left
  induction left with
  | zero =>
    intro rest done s p h _
    obtain rfl := List.eq_nil_of_length_eq_zero (Nat.le_zero.1 h)
    exact ⟨s, p, by rw [K.zdl rfl]; simp [sc]⟩
  | succ n ih =>
    intro rest done s p hlen hd
    cases rest with
    | nil => exact ⟨s, p, by rw [K.zdl rfl]; simp [sc]⟩
    | cons r rest =>
      have hne : ¬ (r :: rest).length = 0 := by simp
      simp only [List.length_cons] at hlen hd
      rcases which_rl done (r :: rest) l 0 with ⟨h1, h2⟩ | ⟨j, x, h1, h2, h3⟩
      · rw [K.znn hne h1]
        obtain ⟨s', p', h⟩ := ih rest (done ++ [r]) (s + 1) p (by omega) (by simp; omega)
        refine ⟨s', p', ?_⟩
        show K.play _ n (done ++ [r]) rest (s + 1) p = _
        rw [h, sc, h2, List.append_assoc]
        rfl
      · obtain ⟨hm, hx⟩ := pfx_len h3
        obtain ⟨hx1, hx2⟩ := hl x hm
        have h1' : K.which (l.map rl) (done ++ r :: rest) done.length = (j : Int) := by unfold K.which; rw [h1, Nat.zero_add]
        have h2' : (l.map rl)[j]? = some (rl x) := by rw [List.getElem?_map, h2]; rfl
        have e : K.restOf (rl x) (r :: rest) = x.2 ++ (r :: rest).drop x.1.length := by unfold K.restOf rl; simp
        have hc : (rl x).cursor.toNat = x.2.length := by simp [rl]
        have hdl : ((r :: rest).drop x.1.length).length = rest.length + 1 - x.1.length := by simp
        simp only [List.length_cons] at hx
        rw [K.zj5 hne h1' h2' (by rw [e, List.length_append, hdl]; omega), e, hc, List.take_left, List.drop_left]
        obtain ⟨s', p', h⟩ := ih ((r :: rest).drop x.1.length) (done ++ x.2) (s + 1) (p + 1) (by rw [hdl]; omega) (by rw [hdl, List.length_append]; omega)
        refine ⟨s', p', ?_⟩
        rw [h, sc, h3, List.append_assoc]
theorem go_sc {pl : Cn.Pl} (hpl : Cn.PlOk pl) {l : List Sr} (hl : ∀ x ∈ l, 1 ≤ x.1.length ∧ x.2.length ≤ x.1.length) (hr : (K.rulesF (l.map rl)).1 = 0) (hed : (J.edgesL (l.map rl)).length ≤ 400) {t : List Int} (ht : t.length ≤ 1000) (hR : ∀ z ∈ t, M.right z = true) : Cn.goF pl (oneS (l.map rl)) t = (sc l (8 * t.length + 40) t, 0, 0) := by
  obtain ⟨s, p, hp⟩ := play_sc hl (8 * t.length + 40) t [] 0 0 (by omega) (by simp; omega)
  exact zst hpl hr hed ⟨by omega, by unfold K.allR; rw [List.all_eq_true]; exact hR⟩ hp
/-- the number of steps does not matter -/
theorem sc_fuel {l : List Sr} (hl : ∀ x ∈ l, 1 ≤ x.1.length) : ∀ (n m : Nat) (t : List Int), t.length ≤ n → t.length ≤ m → sc l n t = sc l m t := by
  intro n
  induction n with
  | zero =>
    intro m t h1 h2
    obtain rfl := List.eq_nil_of_length_eq_zero (Nat.le_zero.1 h1)
    cases m <;> rfl
  | succ n ih =>
    intro m t h1 h2
    cases t with
    | nil => cases m <;> rfl
    | cons r t =>
      obtain ⟨m, rfl⟩ : ∃ k, m = k + 1 := ⟨m - 1, by simp at h2; omega⟩
      simp only [List.length_cons] at h1 h2
      rw [sc, sc]
      cases hp : pfx l (r :: t) with
      | none => simp only; rw [ih m t (by omega) (by omega)]
      | some x =>
        have hx := pfx_len hp
        have h3 := hl x hx.1
        have hdl : ((r :: t).drop x.1.length).length = t.length + 1 - x.1.length := by simp
        simp only
        rw [ih m _ (by rw [hdl]; omega) (by rw [hdl]; omega)]
end Go.Proofs.YtgbhkkojkpndmaaGreatDoor.Sh
namespace Go.Proofs.YtgbhkkojkpndmaaGreatDoor.Sh
set_option linter.unusedSimpArgs false

abbrev Br := List UInt8 × List UInt8
def eb (x : Sr) : Br := (T.bytesR x.1, T.bytesR x.2)
def bpf (l : List Br) (t : List UInt8) : Option Br := l.find? fun x => x.1.isPrefixOf t
def bsc (l : List Br) : Nat → List UInt8 → List UInt8
  | 0, t => t
  | _ + 1, [] => []
  | n + 1, r :: t => match bpf l (r :: t) with
    | some x => x.2 ++ bsc l n ((r :: t).drop x.1.length)
    | none => r :: bsc l n t
def Asc (a : List Int) : Prop := ∀ z ∈ a, 0 ≤ z ∧ z < 128
theorem bR_cons (r : Int) (l : List Int) : T.bytesR (r :: l) = M.enc r ++ T.bytesR l := rfl
theorem bR_append (l m : List Int) : T.bytesR (l ++ m) = T.bytesR l ++ T.bytesR m := by simp [T.bytesR]
theorem zkh (r : Nat) (h : M.right (r : Int) = true) (h128 : 128 ≤ r) : M.enc (r : Int) ≠ [] ∧ ∀ b ∈ M.enc (r : Int), 128 ≤ b.toNat := by
  have hb := M.zeg h
  rw [M.zdr r h, if_neg (by omega)]
  have u : ∀ n : Nat, 128 ≤ n → n < 256 → 128 ≤ (UInt8.ofNat n).toNat := fun n h1 h2 => by rw [M.u8 n h2]; exact h1
  by_cases h2 : r < 2048
  · rw [if_pos h2]
    refine ⟨by simp, fun b hb' => ?_⟩
    simp only [List.mem_cons, List.not_mem_nil, or_false] at hb'
    rcases hb' with rfl | rfl <;> exact u _ (by omega) (by omega)
  · rw [if_neg h2]
    by_cases h3 : r < 65536
    · rw [if_pos h3]
      refine ⟨by simp, fun b hb' => ?_⟩
      simp only [List.mem_cons, List.not_mem_nil, or_false] at hb'
      rcases hb' with rfl | rfl | rfl <;> exact u _ (by omega) (by omega)
    · rw [if_neg h3]
      refine ⟨by simp, fun b hb' => ?_⟩
      simp only [List.mem_cons, List.not_mem_nil, or_false] at hb'
      rcases hb' with rfl | rfl | rfl | rfl <;> exact u _ (by omega) (by omega)
theorem zjh (r : Nat) (h128 : r < 128) : M.enc (r : Int) = [UInt8.ofNat r] := by
  rw [M.zdr r (by unfold M.right; simp; omega), if_pos h128]
/-- one rune: either one small byte or high bytes alone -/
theorem enc_cases {r : Int} (h : M.right r = true) : (∃ n : Nat, r = n ∧ n < 128 ∧ M.enc r = [UInt8.ofNat n]) ∨ (128 ≤ r ∧ M.enc r ≠ [] ∧ ∀ b ∈ M.enc r, 128 ≤ b.toNat) := by
  obtain ⟨n, rfl⟩ : ∃ n : Nat, r = n := ⟨r.toNat, (T.zez h).symm⟩
  by_cases h1 : n < 128
  · exact .inl ⟨n, rfl, h1, zjh n h1⟩
  · exact .inr ⟨by omega, zkh n h (by omega)⟩
theorem pre_bytes : ∀ (a t : List Int), Asc a → (∀ z ∈ t, M.right z = true) → (T.bytesR a).isPrefixOf (T.bytesR t) = a.isPrefixOf t := by
  intro a
  induction a with
  | nil => intro t _ _; simp [T.bytesR]
  | cons c a ih =>
    intro t ha ht
    have hc := ha c (List.mem_cons_self ..)
    obtain ⟨m, rfl⟩ : ∃ m : Nat, c = m := ⟨c.toNat, by omega⟩
    rw [bR_cons, zjh m (by omega)]
    cases t with
    | nil => simp [T.bytesR, List.isPrefixOf]
    | cons r t =>
      have hr := ht r (List.mem_cons_self ..)
      rw [bR_cons]
      rcases enc_cases hr with ⟨n, rfl, hn, he⟩ | ⟨h1, h2, h3⟩
      · rw [he]
        simp only [List.cons_append, List.nil_append, List.isPrefixOf_cons_cons]
        rw [ih t (fun z hz => ha z (List.mem_cons_of_mem _ hz)) (fun z hz => ht z (List.mem_cons_of_mem _ hz))]
        have e1 : (UInt8.ofNat m == UInt8.ofNat n) = ((m : Int) == (n : Int)) := by
          rw [Bool.eq_iff_iff]
          simp only [beq_iff_eq]
          constructor
          · intro h
            have := congrArg UInt8.toNat h
            rw [M.u8 m (by omega), M.u8 n (by omega)] at this
            omega
          · intro h
            have : m = n := by omega
            rw [this]
        rw [e1]
      · obtain ⟨b, u, hb⟩ := List.exists_cons_of_ne_nil h2
        have h4 := h3 b (by rw [hb]; exact List.mem_cons_self ..)
        rw [hb]
        simp only [List.cons_append, List.nil_append, List.isPrefixOf_cons_cons]
        have e1 : (UInt8.ofNat m == b) = false := by
          rw [beq_eq_false_iff_ne]
          intro h
          have := congrArg UInt8.toNat h
          rw [M.u8 m (by omega)] at this
          omega
        have e2 : ((m : Int) == r) = false := by
          rw [beq_eq_false_iff_ne]; omega
        rw [e1, e2]; rfl
theorem bpf_bytes {t : List Int} (ht : ∀ z ∈ t, M.right z = true) : ∀ l : List Sr, (∀ x ∈ l, Asc x.1) → bpf (l.map eb) (T.bytesR t) = (pfx l t).map eb := by
  intro l
  induction l with
  | nil => intro _; rfl
  | cons x l ih =>
    intro hl
    have h := pre_bytes x.1 t (hl x (List.mem_cons_self ..)) ht
    unfold bpf pfx at ih ⊢
    rw [List.map_cons, List.find?_cons, List.find?_cons]
    have h' : (eb x).1.isPrefixOf (T.bytesR t) = x.1.isPrefixOf t := h
    rw [h']
    cases x.1.isPrefixOf t
    · exact ih fun y hy => hl y (List.mem_cons_of_mem _ hy)
    · rfl
theorem asc_bytes : ∀ a : List Int, Asc a → ∀ b ∈ T.bytesR a, b.toNat < 128 := by
  intro a
  induction a with
  | nil => intro _ b hb; simp [T.bytesR] at hb
  | cons c a ih =>
    intro ha b hb
    have hc := ha c (List.mem_cons_self ..)
    obtain ⟨m, rfl⟩ : ∃ m : Nat, c = m := ⟨c.toNat, by omega⟩
    rw [bR_cons, zjh m (by omega)] at hb
    rcases List.mem_cons.1 hb with rfl | hb
    · rw [M.u8 m (by omega)]; omega
    · exact ih (fun z hz => ha z (List.mem_cons_of_mem _ hz)) b hb
theorem bpf_high {l : List Sr} (hl : ∀ x ∈ l, x.1 ≠ [] ∧ Asc x.1) {b : UInt8} (hb : 128 ≤ b.toNat) (u : List UInt8) : bpf (l.map eb) (b :: u) = none := by
  unfold bpf
  rw [List.find?_eq_none]
  intro y hy h
  obtain ⟨x, hx, rfl⟩ := List.mem_map.1 hy
  obtain ⟨h1, h2⟩ := hl x hx
  obtain ⟨c, a, e⟩ := List.exists_cons_of_ne_nil h1
  have h3 : (eb x).1 = T.bytesR (c :: a) := by rw [← e]; rfl
  rw [h3, bR_cons] at h
  have hc := h2 c (by rw [e]; exact List.mem_cons_self ..)
  obtain ⟨m, rfl⟩ : ∃ m : Nat, c = m := ⟨c.toNat, by omega⟩
  rw [zjh m (by omega)] at h
  have h4 : (UInt8.ofNat m == b && (T.bytesR a).isPrefixOf u) = true := h
  rw [Bool.and_eq_true, beq_iff_eq] at h4
  have := congrArg UInt8.toNat h4.1
  rw [M.u8 m (by omega)] at this
  omega
theorem bsc_high {l : List Sr} (hl : ∀ x ∈ l, x.1 ≠ [] ∧ Asc x.1) (u : List UInt8) : ∀ (hs : List UInt8), (∀ b ∈ hs, 128 ≤ b.toNat) → ∀ m, hs.length ≤ m → bsc (l.map eb) m (hs ++ u) = hs ++ bsc (l.map eb) (m - hs.length) u := by
  intro hs
  induction hs with
  | nil => intro _ m _; rfl
  | cons b hs ih =>
    intro h m hm
    cases m with
    | zero => simp at hm
    | succ m =>
      simp only [List.length_cons] at hm
      rw [List.cons_append, bsc, bpf_high hl (h b (List.mem_cons_self ..)), List.length_cons, Nat.add_sub_add_right]
      show b :: bsc _ m (hs ++ u) = _
      rw [ih (fun z hz => h z (List.mem_cons_of_mem _ hz)) m (by omega)]
      rfl
theorem bsc_bytes {l : List Sr} (hl : ∀ x ∈ l, x.1 ≠ [] ∧ Asc x.1) : ∀ (n : Nat) (t : List Int), (∀ z ∈ t, M.right z = true) → t.length ≤ n → ∀ m, (T.bytesR t).length ≤ m → bsc (l.map eb) m (T.bytesR t) = T.bytesR (sc l n t) := by
  intro n
  induction n with
  | zero =>
    intro t _ ht m _
    obtain rfl := List.eq_nil_of_length_eq_zero (Nat.le_zero.1 ht)
    cases m <;> rfl
  | succ n ih =>
    intro t hR ht m hm
    cases t with
    | nil => cases m <;> rfl
    | cons r t =>
      have hr := hR r (List.mem_cons_self ..)
      have hR' : ∀ z ∈ t, M.right z = true := fun z hz => hR z (List.mem_cons_of_mem _ hz)
      simp only [List.length_cons] at ht
      have HP := bpf_bytes hR l fun x hx => (hl x hx).2
      rcases enc_cases hr with ⟨k, rfl, hk, he⟩ | ⟨h1, h2, h3⟩
      · rw [bR_cons, he] at hm HP ⊢
        simp only [List.cons_append, List.nil_append, List.length_cons] at hm HP ⊢
        cases m with
        | zero => omega
        | succ m =>
          rw [bsc, HP, sc]
          cases hp : pfx l ((k : Int) :: t) with
          | none =>
            show UInt8.ofNat k :: bsc _ m _ = _
            rw [ih t hR' (by omega) m (by omega)]
            show _ = T.bytesR ((k : Int) :: sc l n t)
            rw [bR_cons, he]; rfl
          | some x =>
            obtain ⟨hm1, hm2⟩ := pfx_len hp
            have hpre := List.isPrefixOf_iff_prefix.1 (List.find?_some (p := fun x : Sr => x.1.isPrefixOf ((k : Int) :: t)) hp)
            obtain ⟨v, hv⟩ := hpre
            have hne := (hl x hm1).1
            show (eb x).2 ++ bsc _ m (List.drop (eb x).1.length _) = T.bytesR (x.2 ++ sc l n (List.drop x.1.length ((k : Int) :: t)))
            have hd : List.drop x.1.length ((k : Int) :: t) = v := by rw [← hv]; simp
            have hdb : List.drop (eb x).1.length (UInt8.ofNat k :: T.bytesR t) = T.bytesR v := by
              have : UInt8.ofNat k :: T.bytesR t = T.bytesR ((k : Int) :: t) := by rw [bR_cons, he]; rfl
              rw [this, ← hv, bR_append]
              show List.drop (T.bytesR x.1).length _ = _
              simp
            have hvl : x.1.length + v.length = t.length + 1 := by have := congrArg List.length hv; simpa using this
            have hx1 : 1 ≤ x.1.length := by cases hx : x.1 with
              | nil => exact absurd hx hne
              | cons => simp
            have hbl : (T.bytesR v).length ≤ m := by
              have e1 := congrArg List.length hdb
              rw [List.length_drop, List.length_cons] at e1
              have : 1 ≤ (eb x).1.length := by
                cases hx : x.1 with
                | nil => exact absurd hx hne
                | cons c a =>
                  show 1 ≤ (T.bytesR x.1).length
                  have hc := (hl x hm1).2 c (by rw [hx]; exact List.mem_cons_self ..)
                  obtain ⟨q, rfl⟩ : ∃ q : Nat, c = q := ⟨c.toNat, by omega⟩
                  rw [hx, bR_cons, zjh q (by omega)]
                  simp
              omega
            rw [hd, hdb, bR_append, ih v (fun z hz => hR z (by rw [← hv]; exact List.mem_append_right _ hz)) (by omega) m hbl]
            rfl
      · have hp : pfx l (r :: t) = none := by
          unfold pfx
          rw [List.find?_eq_none]
          intro x hx h
          obtain ⟨c, a, e⟩ := List.exists_cons_of_ne_nil (hl x hx).1
          rw [e] at h
          have h4 : (c == r && a.isPrefixOf t) = true := h
          rw [Bool.and_eq_true, beq_iff_eq] at h4
          have hc := (hl x hx).2 c (by rw [e]; exact List.mem_cons_self ..)
          omega
        rw [sc, hp]
        show _ = T.bytesR (r :: sc l n t)
        rw [bR_cons, bR_cons]
        rw [bR_cons, List.length_append] at hm
        rw [bsc_high hl _ _ h3 m (by omega), ih t hR' (by omega) _ (by omega)]

end Go.Proofs.YtgbhkkojkpndmaaGreatDoor.Sh
namespace Go.Proofs.YtgbhkkojkpndmaaGreatDoor
open Go.RowKit Go.Lib
set_option maxRecDepth 20000
set_option linter.unusedSimpArgs false
set_option linter.unusedVariables false

namespace Sh
def bL (s : ByteArray) : List UInt8 := s.data.toList
def bA (l : List UInt8) : ByteArray := ⟨l.toArray⟩
theorem bA_app (a b : List UInt8) : bA (a ++ b) = bA a ++ bA b := by
  apply ByteArray.ext
  rw [ByteArray.data_append]
  unfold bA; simp
theorem bL_bA (a : List UInt8) : bL (bA a) = a := rfl
theorem bA_bL (s : ByteArray) : bA (bL s) = s := by cases s; unfold bA bL; simp
theorem bA_size (a : List UInt8) : (bA a).size = a.length := by unfold bA; simp [ByteArray.size]
theorem ext_take (s : ByteArray) (i n : Nat) : s.extract i (i + n) = bA (((bL s).drop i).take n) := by
  apply ByteArray.ext
  rw [ByteArray.data_extract]
  unfold bA bL
  apply Array.toList_inj.1
  rw [Array.toList_extract]
  simp [List.extract]
theorem pre_iff (s : ByteArray) (i : Nat) (f : List UInt8) (h : i + f.length ≤ s.size) : f.isPrefixOf ((bL s).drop i) = decide (s.extract i (i + f.length) = bA f) := by
  rw [ext_take, Bool.eq_iff_iff, decide_eq_true_iff, List.isPrefixOf_iff_prefix, List.prefix_iff_eq_take]
  constructor
  · intro e; rw [← e]
  · intro e
    have := congrArg bL e
    rw [bL_bA, bL_bA] at this
    exact this.symm
theorem pre_no (s : ByteArray) (i : Nat) (f : List UInt8) (h : ¬ i + f.length ≤ s.size) (hf : f ≠ []) : f.isPrefixOf ((bL s).drop i) = false := by
  rw [Bool.eq_false_iff]
  intro h2
  have h3 := (List.isPrefixOf_iff_prefix.1 h2).length_le
  rw [List.length_drop] at h3
  have h4 : (bL s).length = s.size := Array.length_toList
  have : 0 < f.length := List.length_pos_iff.2 hf
  omega
theorem bpf_mem {l : List Br} {t : List UInt8} {x : Br} (h : bpf l t = some x) : x ∈ l ∧ x.1.length ≤ t.length :=
  ⟨List.mem_of_find?_eq_some h, (List.isPrefixOf_iff_prefix.1 (List.find?_some (p := fun x : Br => x.1.isPrefixOf t) h)).length_le⟩
theorem bsc_fuel {l : List Br} (hl : ∀ x ∈ l, 1 ≤ x.1.length) : ∀ (n m : Nat) (t : List UInt8), t.length ≤ n → t.length ≤ m → bsc l n t = bsc l m t := by
  intro n
  induction n with
  | zero =>
    intro m t h1 h2
    obtain rfl := List.eq_nil_of_length_eq_zero (Nat.le_zero.1 h1)
    cases m <;> rfl
  | succ n ih =>
    intro m t h1 h2
    cases t with
    | nil => cases m <;> rfl
    | cons r t =>
      simp only [List.length_cons] at h1 h2
      cases m with
      | zero => omega
      | succ m =>
        rw [bsc, bsc]
        cases hp : bpf l (r :: t) with
        | none => show r :: bsc l n t = r :: bsc l m t; rw [ih m t (by omega) (by omega)]
        | some x =>
          have hx := hl x (bpf_mem hp).1
          show x.2 ++ bsc l n _ = x.2 ++ bsc l m _
          rw [ih m _ (by rw [List.length_drop, List.length_cons]; omega) (by rw [List.length_drop, List.length_cons]; omega)]
/-- the scan itself, its steps counted by the text -/
def bs (l : List Br) (t : List UInt8) : List UInt8 := bsc l t.length t
theorem bs_nil (l : List Br) : bs l [] = [] := rfl
theorem bs_put {l : List Br} (hl : ∀ x ∈ l, 1 ≤ x.1.length) {t : List UInt8} {x : Br} (ht : t ≠ []) (h : bpf l t = some x) : bs l t = x.2 ++ bs l (t.drop x.1.length) := by
  obtain ⟨r, u, rfl⟩ := List.exists_cons_of_ne_nil ht
  have hx := hl x (bpf_mem h).1
  unfold bs
  rw [List.length_cons, bsc, h]
  show x.2 ++ bsc l u.length _ = _
  rw [bsc_fuel hl u.length _ _ (by rw [List.length_drop, List.length_cons]; omega) (Nat.le_refl _)]
theorem bs_on {l : List Br} {r : UInt8} {t : List UInt8} (h : bpf l (r :: t) = none) : bs l (r :: t) = r :: bs l t := by
  unfold bs
  rw [List.length_cons, bsc, h]
theorem bpf_take {l : List Br} {t : List UInt8} {k : Nat} {x : Br} (h : l[k]? = some x) : bpf (l.take (k + 1)) t = (bpf (l.take k) t).or (if x.1.isPrefixOf t then some x else none) := by
  unfold bpf
  rw [List.take_add_one, h]
  rw [List.find?_append]
  congr 1
  show [x].find? _ = _
  rw [List.find?_cons]
  cases x.1.isPrefixOf t <;> rfl
end Sh

end Go.Proofs.YtgbhkkojkpndmaaGreatDoor
