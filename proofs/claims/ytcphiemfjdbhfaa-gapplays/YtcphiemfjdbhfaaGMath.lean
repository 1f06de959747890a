/-
  Texts with a cursor: plain lists. A: the runes ahead of the cursor, Z: those behind it.
-/
import Derived.WalkKit
namespace Go.Proofs.Ytcphiemfjdbhfaa.G

/-- an edit: its kind, its number, its runes -/
structure Ed where
  kind : Int
  n : Int
  runes : List Int

abbrev St := List Int × List Int

/-- one edit: an error (not 0) or the text behind it -/
def step (e : Ed) (s : St) : Int × St :=
  if e.kind = 1 then
    if e.n < 0 ∨ (s.1.length + s.2.length : Int) < e.n then (3, s) else (0, (s.1 ++ s.2).take e.n.toNat, (s.1 ++ s.2).drop e.n.toNat)
  else if e.kind = 2 then
    if 4000 < (s.1.length + s.2.length + e.runes.length : Int) then (4, s) else (0, s.1 ++ e.runes, s.2)
  else if e.kind = 3 then
    if e.n < 0 ∨ (s.2.length : Int) < e.n then (3, s) else (0, s.1, s.2.drop e.n.toNat)
  else if e.kind = 4 then
    if e.n < 0 ∨ (s.1.length : Int) < e.n then (3, s) else (0, s.1.take (s.1.length - e.n.toNat), s.2)
  else (1, s)

/-- all edits, from number k on: the error and its place, the text -/
def play : Nat → List Ed → St → Int × Nat × St
  | _, [], s => (0, 0, s)
  | k, e :: l, s => if (step e s).1 = 0 then play (k + 1) l (step e s).2 else ((step e s).1, k, s)

theorem step_err (e : Ed) (s : St) : (step e s).1 = 0 ∨ (step e s).1 = 1 ∨ (step e s).1 = 3 ∨ (step e s).1 = 4 := by
  unfold step; repeat' split
  all_goals simp

theorem step_len (e : Ed) (s : St) (h : s.1.length + s.2.length ≤ 4000) (h0 : (step e s).1 = 0) : (step e s).2.1.length + (step e s).2.2.length ≤ 4000 := by
  unfold step at h0 ⊢
  repeat' split
  all_goals first
    | (simp [*] at h0; done)
    | (simp only [List.length_append, List.length_take, List.length_drop] at *; omega)

theorem play_step (k : Nat) (l : List Ed) (s : St) (e : Ed) (h : l[k]? = some e) : play k (l.drop k) s = if (step e s).1 = 0 then play (k + 1) (l.drop (k + 1)) (step e s).2 else ((step e s).1, k, s) := by
  rw [List.drop_eq_getElem_cons (List.getElem?_eq_some_iff.1 h).1, (List.getElem?_eq_some_iff.1 h).2]
  rfl
theorem play_end (k : Nat) (l : List Ed) (s : St) (h : l.length ≤ k) : play k (l.drop k) s = (0, 0, s) := by
  rw [List.drop_eq_nil_of_le h]; rfl

end Go.Proofs.Ytcphiemfjdbhfaa.G
