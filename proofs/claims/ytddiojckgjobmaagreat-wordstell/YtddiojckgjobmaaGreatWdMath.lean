/-
  Words of a text: plain.
-/
import Derived.Test.YtddiojckgjobmaaGreatCnMath
namespace Go.Proofs.YtddiojckgjobmaaGreat
namespace Wd
abbrev Wo := Nat × Nat × Bool
/-- the pieces of a text, the first of which began at fr, holds what is b, and has come up to i -/
def go (p : Int → Bool) : Nat → Nat → Bool → List Int → List Wo
  | fr, i, b, [] => [(fr, i, b)]
  | fr, i, b, r :: t => if p r = b then go p fr (i + 1) b t else (fr, i, b) :: go p i (i + 1) (p r) t
def rest (p : Int → Bool) (t : List Int) (k : Nat) : List Wo := if k < t.length then go p k (k + 1) (p (t.getD k 0)) (t.drop (k + 1)) else []
theorem drop_at {t : List Int} {i : Nat} (h : i < t.length) : t.drop i = t.getD i 0 :: t.drop (i + 1) := by
  rw [List.drop_eq_getElem_cons h]
  simp [List.getD, h]
theorem rest_end {p : Int → Bool} {t : List Int} {k : Nat} (h : t.length ≤ k) : rest p t k = [] := if_neg (by omega)
theorem go_step {p : Int → Bool} {t : List Int} {fr i : Nat} {b : Bool} (h : i < t.length) (hp : p (t.getD i 0) = b) : go p fr i b (t.drop i) = go p fr (i + 1) b (t.drop (i + 1)) := by
  rw [drop_at h, go, if_pos hp]
theorem go_cut {p : Int → Bool} {t : List Int} {fr i : Nat} {b : Bool} (h : i ≤ t.length) (hp : i < t.length → p (t.getD i 0) ≠ b) : go p fr i b (t.drop i) = (fr, i, b) :: rest p t i := by
  by_cases hi : i < t.length
  · rw [drop_at hi, go, if_neg (hp hi), rest, if_pos hi]
  · have : i = t.length := by omega
    subst this
    rw [List.drop_length, rest_end (Nat.le_refl _), go]
theorem go_len (p : Int → Bool) : ∀ (s : List Int) (fr i : Nat) (b : Bool), (go p fr i b s).length ≤ s.length + 1
  | [], fr, i, b => by simp [go]
  | r :: s, fr, i, b => by
    have h1 := go_len p s fr (i + 1) b
    have h2 := go_len p s i (i + 1) (p r)
    rw [go]
    split
    · simp only [List.length_cons]; omega
    · simp only [List.length_cons]; omega
theorem rest_len (p : Int → Bool) (t : List Int) (k : Nat) : (rest p t k).length ≤ t.length := by
  unfold rest
  split
  · have := go_len p (t.drop (k + 1)) k (k + 1) (p (t.getD k 0))
    rw [List.length_drop] at this
    omega
  · simp
theorem go_cons (p : Int → Bool) (t : List Int) (fr : Nat) (b : Bool) : ∀ (n i : Nat), t.length - i = n → i ≤ t.length → ∃ to, go p fr i b (t.drop i) = (fr, to, b) :: rest p t to ∧ i ≤ to ∧ to ≤ t.length
  | 0, i, h, hi => ⟨i, go_cut hi fun h2 => by omega, Nat.le_refl _, hi⟩
  | n + 1, i, h, hi => by
    by_cases hp : p (t.getD i 0) = b
    · obtain ⟨to, h1, h2, h3⟩ := go_cons p t fr b n (i + 1) (by omega) (by omega)
      exact ⟨to, by rw [go_step (by omega) hp, h1], by omega, h3⟩
    · exact ⟨i, go_cut hi fun _ => hp, Nat.le_refl _, hi⟩
theorem rest_cons {p : Int → Bool} {t : List Int} {k : Nat} (h : k < t.length) : ∃ to, rest p t k = (k, to, p (t.getD k 0)) :: rest p t to ∧ k < to ∧ to ≤ t.length := by
  obtain ⟨to, h1, h2, h3⟩ := go_cons p t k (p (t.getD k 0)) _ (k + 1) rfl (by omega)
  exact ⟨to, by rw [rest, if_pos h, h1], by omega, h3⟩
theorem rest_head {p : Int → Bool} {t : List Int} {k : Nat} {x : Wo} {l : List Wo} (h : rest p t k = x :: l) : k < t.length ∧ x.1 = k ∧ k < x.2.1 ∧ x.2.1 ≤ t.length ∧ l = rest p t x.2.1 := by
  by_cases hk : k < t.length
  · obtain ⟨to, h1, h2, h3⟩ := rest_cons (p := p) hk
    rw [h1] at h
    cases h
    exact ⟨hk, rfl, h2, h3, rfl⟩
  · rw [rest_end (by omega)] at h; cases h
/-- the whole -/
abbrev words (p : Int → Bool) (t : List Int) : List Wo := rest p t 0
def seg (t : List Int) (x : Wo) : List Int := (t.drop x.1).take (x.2.1 - x.1)
/-- the first one great, the others small -/
def cap1 : List Int → List Int
  | [] => []
  | r :: s => Cn.up r :: s.map Cn.low
def cap (b : Bool) (s : List Int) : List Int := if b = true then cap1 s else s
theorem cap_len (b : Bool) (s : List Int) : (cap b s).length = s.length := by
  unfold cap
  split
  · cases s <;> simp [cap1]
  · rfl
/-- how a rune is written, b: whether the one ahead of it is in -/
def ch (p : Int → Bool) (b : Bool) (r : Int) : Int := if p r = false then r else if b = true then Cn.low r else Cn.up r
def title (p : Int → Bool) : Bool → List Int → List Int
  | _, [] => []
  | b, r :: t => ch p b r :: title p (p r) t
theorem title_len (p : Int → Bool) : ∀ (t : List Int) (b : Bool), (title p b t).length = t.length
  | [], b => rfl
  | r :: t, b => by rw [title, List.length_cons, title_len p t, List.length_cons]
def capW (t : List Int) (x : Wo) : List Int := cap x.2.2 (seg t x)
theorem cap_more {b : Bool} {s : List Int} (r : Int) (h : s ≠ []) : cap b (s ++ [r]) = cap b s ++ [if b = true then Cn.low r else r] := by
  unfold cap
  cases s with
  | nil => exact absurd rfl h
  | cons a s => cases b <;> simp [cap1]
theorem title_go (p : Int → Bool) (t : List Int) : ∀ (s : List Int) (hd pre : List Int) (fr i : Nat) (b : Bool), t = hd ++ (pre ++ s) → hd.length = fr → pre.length = i - fr → fr ≤ i → pre ≠ [] → (go p fr i b s).flatMap (capW t) = cap b pre ++ title p b s
  | [], hd, pre, fr, i, b, ht, h1, h2, h3, h4 => by
    subst ht
    simp only [go, List.flatMap_cons, List.flatMap_nil, List.append_nil, title, capW, seg]
    rw [← h1, List.drop_left, ← show pre.length = i - hd.length by rw [h1, h2], List.take_length]
  | r :: s, hd, pre, fr, i, b, ht, h1, h2, h3, h4 => by
    rw [go]
    split
    · rename_i hp
      rw [title_go p t s hd (pre ++ [r]) fr (i + 1) b (by rw [ht]; simp) h1 (by simp; omega) (by omega) (by simp), cap_more r h4, title, List.append_assoc, hp]
      unfold ch
      rw [hp]
      cases b <;> simp
    · rename_i hp
      rw [List.flatMap_cons, title_go p t s (hd ++ pre) [r] i (i + 1) (p r) (by rw [ht]; simp) (by rw [List.length_append, h1, h2]; omega) (by simp) (by omega) (by simp), title]
      have e1 : capW t (fr, i, b) = cap b pre := by
        unfold capW seg
        simp only
        rw [ht, ← h1, List.drop_left, show i - hd.length = pre.length by rw [h1, h2], List.take_left]
      rw [e1]
      have e2 : cap (p r) [r] = [ch p b r] := by
        unfold cap ch
        cases hpr : p r with
        | false => rfl
        | true =>
          cases b with
          | false => rfl
          | true => exact absurd hpr hp
      rw [e2]
      simp
theorem title_words (p : Int → Bool) (t : List Int) : (words p t).flatMap (capW t) = title p false t := by
  cases t with
  | nil => rfl
  | cons r s =>
    have h := title_go p (r :: s) s [] [r] 0 1 (p r) rfl rfl rfl (by omega) (by simp)
    have e : words p (r :: s) = go p 0 1 (p r) s := by
      unfold words rest
      rw [if_pos (by simp)]
      rfl
    rw [e, h, title]
    unfold cap ch
    cases hpr : p r <;> simp [cap1]
/-- whether the rune ahead of k is in -/
def bf (p : Int → Bool) (t : List Int) : Nat → Bool
  | 0 => false
  | k + 1 => p (t.getD k 0)
theorem title_at {p : Int → Bool} {t : List Int} {k : Nat} (h : k < t.length) : title p (bf p t k) (t.drop k) = ch p (bf p t k) (t.getD k 0) :: title p (bf p t (k + 1)) (t.drop (k + 1)) := by
  rw [drop_at h, title]
  rfl
/-- what the words up to k come to, and the rest as it is -/
theorem seg_head {p : Int → Bool} {t : List Int} {k : Nat} {x : Wo} {l : List Wo} (h : rest p t k = x :: l) : t.drop k = seg t x ++ t.drop x.2.1 ∧ (seg t x).length = x.2.1 - x.1 := by
  obtain ⟨h1, h2, h3, h4, h5⟩ := rest_head h
  unfold seg
  rw [h2]
  constructor
  · have e : t.drop x.2.1 = (t.drop k).drop (x.2.1 - k) := by rw [List.drop_drop]; congr 1; omega
    rw [e, List.take_append_drop]
  · rw [List.length_take, List.length_drop]; omega
theorem rest_nil {p : Int → Bool} {t : List Int} {k : Nat} (h : rest p t k = []) : t.length ≤ k := by
  by_cases hk : k < t.length
  · obtain ⟨to, h1, _⟩ := rest_cons (p := p) hk
    rw [h1] at h; cases h
  · omega
theorem capW_len (t : List Int) (x : Wo) : (capW t x).length = (seg t x).length := cap_len _ _
/-- a script over each word, behind what has come -/
def each (pl : Cn.Pl) (s : V.Script) (t : List Int) : List Wo → List Int → List Int × Int × Int
  | [], acc => if 4000 < acc.length then ([], 4, (s.passes.length : Int)) else (acc, 0, 0)
  | x :: l, acc =>
    if x.2.2 = false then each pl s t l (acc ++ seg t x)
    else if (Cn.goF pl s (seg t x)).2.1 = 0 then each pl s t l (acc ++ (Cn.goF pl s (seg t x)).1) else ([], (Cn.goF pl s (seg t x)).2)
/-- what is wrong with letters, then with the text -/
def splitE (L : List S.Sp) (t : List Int) : Int := if S.wrongE L = 0 then K.textE t else S.wrongE L
def splitF (L : List S.Sp) (t : List Int) : List Wo := if splitE L t = 0 then words (S.memb L) t else []
def titleF (L : List S.Sp) (t : List Int) : List Int := if splitE L t = 0 then title (S.memb L) false t else []
def eachF (pl : Cn.Pl) (L : List S.Sp) (s : V.Script) (t : List Int) : List Int × Int × Int :=
  if (Cn.wrongF s).1 = 0 then (if splitE L t = 0 then each pl s t (words (S.memb L) t) [] else ([], splitE L t, 0)) else ([], Cn.wrongF s)
theorem seg_len (t : List Int) (x : Wo) : (seg t x).length ≤ t.length := by
  unfold seg
  rw [List.length_take, List.length_drop]
  omega
theorem goF_len (pl : Cn.Pl) (s : V.Script) (t : List Int) : (Cn.goF pl s t).1.length ≤ 4000 := by
  unfold Cn.goF
  repeat' split
  all_goals first | (simp; done) | (simp only; omega)
theorem each_len (pl : Cn.Pl) (s : V.Script) (t : List Int) : ∀ (l : List Wo) (acc : List Int), (each pl s t l acc).1.length ≤ 4000
  | [], acc => by
    unfold each
    split
    · simp
    · simp only; omega
  | x :: l, acc => by
    unfold each
    split
    · exact each_len pl s t l _
    · split
      · exact each_len pl s t l _
      · simp
theorem eachF_len (pl : Cn.Pl) (L : List S.Sp) (s : V.Script) (t : List Int) : (eachF pl L s t).1.length ≤ 4000 := by
  unfold eachF
  split
  · split
    · exact each_len _ _ _ _ _
    · simp
  · simp
/-- a row of words, cell by cell -/
def wcells (l : List Wo) : List Value := l.flatMap fun x => [.int .i64 (x.1 : Nat), .int .i64 (x.2.1 : Nat), .bool x.2.2]
theorem wcells_append (a b : List Wo) : wcells (a ++ b) = wcells a ++ wcells b := by simp [wcells]
theorem wcells_at : ∀ {l : List Wo} {k : Nat} {x : Wo}, l[k]? = some x → (wcells l)[k * 3]? = some (.int .i64 (x.1 : Nat)) ∧ (wcells l)[k * 3 + 1]? = some (.int .i64 (x.2.1 : Nat)) ∧ (wcells l)[k * 3 + 2]? = some (.bool x.2.2) := by
  intro l
  induction l with
  | nil => intro k x h; simp at h
  | cons y l ih =>
    intro k x h
    cases k with
    | zero => simp at h; subst h; exact ⟨rfl, rfl, rfl⟩
    | succ k =>
      have h1 := ih (k := k) (x := x) (by simpa using h)
      have e : wcells (y :: l) = .int .i64 (y.1 : Nat) :: .int .i64 (y.2.1 : Nat) :: .bool y.2.2 :: wcells l := rfl
      rw [e, show (k + 1) * 3 = k * 3 + 1 + 1 + 1 by omega]
      exact h1
end Wd
end Go.Proofs.YtddiojckgjobmaaGreat
