/-
  Files of rules: what is wrong with parts, and how they are written: plain functions.
-/
import Derived.Test.YtnalcmlhfmgfdaaTMath
namespace Go.Proofs.Ytnalcmlhfmgfdaa.R
open S (Sp)

structure Item where
  kind : Int
  rune : Int
  set : List Sp
  name : ByteArray

structure Side where
  start : Bool
  fin : Bool
  before : List Item
  source : List Item
  after : List Item
  cursor : Int

structure Part where
  kind : Int
  name : ByteArray
  set : List Sp
  dir : Int
  left : Side
  right : Side

def letter (r : Int) : Bool := (decide (97 ≤ r) && decide (r ≤ 122)) || decide (r = 95)
def digit (r : Int) : Bool := decide (48 ≤ r) && decide (r ≤ 57)

/-- bytes of a name, of which the first one stands at place i -/
def good (i : Nat) (b : UInt8) : Bool := letter b.toNat || (decide (i ≠ 0) && digit b.toNat)
def goodFrom : Nat → List UInt8 → Bool
  | _, [] => true
  | i, b :: l => good i b && goodFrom (i + 1) l
def named (s : ByteArray) : Bool := goodFrom 0 s.data.toList && decide (0 < s.size) && decide (s.size ≤ 20)

def passes (s : ByteArray) : Bool := decide (s.toList = [108, 111, 119, 101, 114] ∨ s.toList = [110, 117, 108, 108] ∨ s.toList = [114, 101, 109, 111, 118, 101] ∨ s.toList = [117, 112, 112, 101, 114])

def itemE (x : Item) : Int :=
  if x.kind = 1 then (if M.right x.rune = true then 0 else 3)
  else if x.kind = 2 then S.wrongE x.set
  else if x.kind = 3 then (if named x.name = true then 0 else 7)
  else 1

def firstE : List Int → Int
  | [] => 0
  | e :: l => if e = 0 then firstE l else e

def itemsE (l : List Item) : Int := if 20 < l.length then 5 else firstE (l.map itemE)

def sideE (s : Side) (must : Bool) : Int :=
  if itemsE s.before ≠ 0 then itemsE s.before
  else if itemsE s.source ≠ 0 then itemsE s.source
  else if itemsE s.after ≠ 0 then itemsE s.after
  else if s.cursor < -1 ∨ (s.source.length : Int) < s.cursor then 3
  else if must = true ∧ s.source.length = 0 then 6
  else 0

def gives (s : Side) : Bool := s.source.all fun x => decide (x.kind = 1)
def around (s : Side) : Bool := s.start || s.fin || decide (0 < s.before.length) || decide (0 < s.after.length)
def fits (p : Part) : Bool :=
  if p.dir = 1 then gives p.right && !around p.right && decide (p.left.cursor < 0)
  else if p.dir = 2 then gives p.left && !around p.left && decide (p.right.cursor < 0)
  else gives p.left && gives p.right
def ruleE (p : Part) : Int :=
  if p.dir ≠ 1 ∧ p.dir ≠ 2 ∧ p.dir ≠ 3 then 1
  else if sideE p.left (decide (p.dir ≠ 2)) ≠ 0 then sideE p.left (decide (p.dir ≠ 2))
  else if sideE p.right (decide (p.dir ≠ 1)) ≠ 0 then sideE p.right (decide (p.dir ≠ 1))
  else if fits p = true then 0 else 8
def partE (p : Part) : Int :=
  if p.kind = 1 then (if named p.name = true then S.wrongE p.set else 7)
  else if p.kind = 3 then S.wrongE p.set
  else if p.kind = 4 then (if passes p.name = true then 0 else 7)
  else if p.kind = 2 then ruleE p
  else 1

/-- the first part with which something is wrong, counted from i on -/
def firstW : Nat → List Part → Int × Nat
  | _, [] => (0, 0)
  | i, p :: l => if partE p = 0 then firstW (i + 1) l else (partE p, i)
def wrong (l : List Part) : Int × Nat := if 200 < l.length then (5, 0) else firstW 0 l

/-- how things are written -/
def setB (s : List Sp) : List UInt8 := if S.wrongE s = 0 then T.prt s else []
def itemB (x : Item) : List UInt8 :=
  if x.kind = 2 then setB x.set
  else if x.kind = 3 then 36 :: x.name.data.toList
  else T.quo x.rune
def bar : List UInt8 := [124, 32]
def itemsB : List Item → Int → List UInt8
  | [], c => if c = 0 then bar else []
  | x :: l, c => (if c = 0 then bar else []) ++ (itemB x ++ [32]) ++ itemsB l (c - 1)
def sideB (s : Side) : List UInt8 :=
  (if s.start = true then [94, 32] else []) ++ itemsB s.before (-1) ++ (if s.start = true ∨ 0 < s.before.length then [123, 32] else []) ++
    itemsB s.source s.cursor ++ (if s.fin = true ∨ 0 < s.after.length then [125, 32] else []) ++ itemsB s.after (-1) ++ (if s.fin = true then [36, 32] else [])
def arrowB (d : Int) : List UInt8 := if d = 1 then [62] else if d = 2 then [60] else [60, 62]
def wordsB (p : Part) : List UInt8 :=
  if p.kind = 1 then (36 :: p.name.data.toList) ++ [32] ++ [61, 32] ++ (setB p.set ++ [32])
  else if p.kind = 3 then [58, 58, 32] ++ (setB p.set ++ [32])
  else if p.kind = 4 then [58, 58, 32] ++ (p.name.data.toList ++ [32])
  else if p.kind = 2 then sideB p.left ++ (arrowB p.dir ++ [32]) ++ sideB p.right
  else []
def partB (p : Part) : List UInt8 := wordsB p ++ [59, 10]
def printB (l : List Part) : List UInt8 := l.flatMap partB

theorem firstE_zero {l : List Int} : firstE l = 0 ↔ ∀ e ∈ l, e = 0 := by
  induction l with
  | nil => simp [firstE]
  | cons e l ih =>
    rw [firstE]
    by_cases h : e = 0
    · simp [h, ih]
    · simp [h]
theorem itemsE_zero {l : List Item} : itemsE l = 0 ↔ l.length ≤ 20 ∧ ∀ x ∈ l, itemE x = 0 := by
  unfold itemsE
  by_cases h : 20 < l.length
  · rw [if_pos h]; constructor
    · intro h; cases h
    · intro h; omega
  · rw [if_neg h, firstE_zero]; constructor
    · intro h'; exact ⟨by omega, fun x hx => h' _ (List.mem_map.2 ⟨x, hx, rfl⟩)⟩
    · rintro ⟨_, h'⟩ e he
      obtain ⟨x, hx, rfl⟩ := List.mem_map.1 he
      exact h' x hx
theorem itemsE_drop {l : List Item} {k : Nat} {x : Item} (hx : l[k]? = some x) : firstE ((l.drop k).map itemE) = if itemE x = 0 then firstE ((l.drop (k + 1)).map itemE) else itemE x := by
  have hlt := (List.getElem?_eq_some_iff.1 hx).1
  rw [List.drop_eq_getElem_cons hlt]
  have : l[k] = x := by rw [List.getElem?_eq_getElem hlt] at hx; exact Option.some.inj hx
  rw [this]; rfl
theorem firstW_drop {l : List Part} {k : Nat} {x : Part} (hx : l[k]? = some x) : firstW k (l.drop k) = if partE x = 0 then firstW (k + 1) (l.drop (k + 1)) else (partE x, k) := by
  have hlt := (List.getElem?_eq_some_iff.1 hx).1
  rw [List.drop_eq_getElem_cons hlt]
  have : l[k] = x := by rw [List.getElem?_eq_getElem hlt] at hx; exact Option.some.inj hx
  rw [this]; rfl
theorem firstW_zero {l : List Part} : ∀ {i : Nat}, (firstW i l).1 = 0 → (∀ p ∈ l, partE p = 0) ∧ firstW i l = (0, 0) := by
  induction l with
  | nil => intro i _; exact ⟨by simp, rfl⟩
  | cons p l ih =>
    intro i h
    rw [firstW] at h ⊢
    by_cases hp : partE p = 0
    · rw [if_pos hp] at h ⊢
      have := ih h
      exact ⟨fun q hq => by rcases List.mem_cons.1 hq with rfl | hq; exact hp; exact this.1 q hq, this.2⟩
    · rw [if_neg hp] at h; exact absurd h hp
theorem wrong_zero {l : List Part} (h : (wrong l).1 = 0) : l.length ≤ 200 ∧ (∀ p ∈ l, partE p = 0) ∧ wrong l = (0, 0) := by
  unfold wrong at h ⊢
  by_cases hb : 200 < l.length
  · rw [if_pos hb] at h; cases h
  · rw [if_neg hb] at h ⊢
    have := firstW_zero h
    exact ⟨by omega, this.1, this.2⟩
theorem sideE_zero {s : Side} {m : Bool} (h : sideE s m = 0) : itemsE s.before = 0 ∧ itemsE s.source = 0 ∧ itemsE s.after = 0 ∧ -1 ≤ s.cursor ∧ s.cursor ≤ s.source.length := by
  unfold sideE at h
  by_cases h1 : itemsE s.before = 0
  · rw [if_neg (by simp [h1])] at h
    by_cases h2 : itemsE s.source = 0
    · rw [if_neg (by simp [h2])] at h
      by_cases h3 : itemsE s.after = 0
      · rw [if_neg (by simp [h3])] at h
        by_cases h4 : s.cursor < -1 ∨ (s.source.length : Int) < s.cursor
        · rw [if_pos h4] at h; cases h
        · exact ⟨h1, h2, h3, by omega, by omega⟩
      · rw [if_pos h3] at h; exact absurd h h3
    · rw [if_pos h2] at h; exact absurd h h2
  · rw [if_pos h1] at h; exact absurd h h1
theorem ruleE_zero {p : Part} (h : ruleE p = 0) : (p.dir = 1 ∨ p.dir = 2 ∨ p.dir = 3) ∧ sideE p.left (decide (p.dir ≠ 2)) = 0 ∧ sideE p.right (decide (p.dir ≠ 1)) = 0 ∧ fits p = true := by
  unfold ruleE at h
  by_cases h1 : p.dir ≠ 1 ∧ p.dir ≠ 2 ∧ p.dir ≠ 3
  · rw [if_pos h1] at h; cases h
  · rw [if_neg h1] at h
    by_cases h2 : sideE p.left (decide (p.dir ≠ 2)) = 0
    · rw [if_neg (by rw [h2]; simp)] at h
      by_cases h3 : sideE p.right (decide (p.dir ≠ 1)) = 0
      · rw [if_neg (by rw [h3]; simp)] at h
        by_cases h4 : fits p = true
        · exact ⟨by omega, h2, h3, h4⟩
        · rw [if_neg h4] at h; cases h
      · rw [if_pos h3] at h; exact absurd h h3
    · rw [if_pos h2] at h; exact absurd h h2

theorem itemsB_neg {l : List Item} : ∀ {c : Int}, c < 0 → itemsB l c = l.flatMap fun x => itemB x ++ [32] := by
  induction l with
  | nil => intro c hc; rw [itemsB, if_neg (by omega)]; rfl
  | cons x l ih => intro c hc; rw [itemsB, if_neg (by omega), ih (by omega)]; simp

end Go.Proofs.Ytnalcmlhfmgfdaa.R
