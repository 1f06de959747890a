/-
  Files of rules: what Read tells of any runes: plain functions.
-/
import Derived.Test.YtchkcjaahjhbcaaRMath
namespace Go.Proofs.Ytchkcjaahjhbcaa.R
open S (Sp)
open T (Out see skipW cut)

def notNl (r : Int) : Bool := !decide (r = 10) && !decide (r = -1)
def notQuo (r : Int) : Bool := !decide (r = 39) && !decide (r = -1)
def wordy (r : Int) : Bool := letter r || digit r

/-- behind blanks and remarks -/
def gapN : Nat → List Int → Nat → Nat
  | 0, _, p => p
  | f + 1, l, p => if see l (skipW T.blank l p) = 35 then gapN f l (skipW notNl l (skipW T.blank l p + 1)) else skipW T.blank l p
def gap (l : List Int) (p : Nat) : Nat := gapN (l.length + 1) l p

def wordEnd (l : List Int) (p : Nat) : Nat := if letter (see l p) = true then skipW wordy l p else p
def bytes (m : List Int) : ByteArray := ⟨(m.map fun r => UInt8.ofNat r.toNat).toArray⟩
def wordAt (l : List Int) (p : Nat) : ByteArray := bytes (cut l p (wordEnd l p))

/-- `$` and a name, at `$` -/
def varAt (l : List Int) (p : Nat) : Out ByteArray := if named (wordAt l (p + 1)) = true then .ok (wordAt l (p + 1)) (wordEnd l (p + 1)) else .bad 7 (p + 1)
def varNext (l : List Int) (p : Nat) : Bool := decide (see l p = 36) && letter (see l (p + 1))

def runeI (r : Int) : Item := ⟨1, r, [], ⟨#[]⟩⟩
def setI (s : List Sp) : Item := ⟨2, 0, s, ⟨#[]⟩⟩
def varI (n : ByteArray) : Item := ⟨3, 0, [], n⟩

/-- the items of the word at p; none, if there is no such word -/
noncomputable def item (l : List Int) (p : Nat) : Out (Option (List Item)) :=
  if see l p = 91 then
    match T.setN 20 l p with
    | .bad e q => .bad e q
    | .ok s q => .ok (some [setI s]) q
  else if varNext l p = true then
    match varAt l p with
    | .bad e q => .bad e q
    | .ok n q => .ok (some [varI n]) q
  else if see l p = 39 then
    if see l (skipW notQuo l (p + 1)) = 39 then .ok (some ((cut l (p + 1) (skipW notQuo l (p + 1))).map runeI)) (skipW notQuo l (p + 1) + 1)
    else .bad 2 (skipW notQuo l (p + 1))
  else if see l p = 92 ∨ T.ordy (see l p) = true then
    match T.chr l p with
    | .bad e q => .bad e q
    | .ok c q => if M.right c = true then .ok (some [runeI c]) q else .bad 3 p
  else .ok none p

/-- items from p on, with those that came and the cursor among them -/
noncomputable def itemsN : Nat → List Int → List Item → Int → Nat → Out (List Item × Int)
  | 0, _, _, _, p => .bad 0 p
  | f + 1, l, xs, c, p =>
    if see l (gap l p) = 124 then
      if 0 ≤ c then .bad 5 (gap l p) else itemsN f l xs xs.length (gap l p + 1)
    else
      match item l (gap l p) with
      | .bad e q => .bad e q
      | .ok none q => .ok (xs, c) q
      | .ok (some ys) q => if 20 < xs.length + ys.length then .bad 5 (gap l p) else itemsN f l (xs ++ ys) c q
noncomputable def items (l : List Int) (p : Nat) : Out (List Item × Int) := itemsN (l.length + 2) l [] (-1) p

/-- what stands behind `}`, if there is one -/
noncomputable def sideTail (l : List Int) (s : Side) (p : Nat) : Out Side :=
  if see l p = 125 then
    match items l (p + 1) with
    | .bad e q => .bad e q
    | .ok (xs, c) q =>
      if 0 ≤ c then .bad 8 (p + 1)
      else if see l q = 36 then .ok { s with after := xs, fin := true } (q + 1)
      else .ok { s with after := xs } q
  else .ok s p

noncomputable def side (l : List Int) (p0 : Nat) : Out Side :=
  let p := gap l p0
  let st := decide (see l p = 94)
  let b := if st = true then p + 1 else p
  match items l b with
  | .bad e q => .bad e q
  | .ok (xs, c) q =>
    if st = true ∨ see l q = 123 then
      if 0 ≤ c then .bad 8 b
      else if see l q ≠ 123 then .bad 2 q
      else
        match items l (q + 1) with
        | .bad e r => .bad e r
        | .ok (ys, d) r => sideTail l ⟨st, false, xs, ys, [], d⟩ r
    else sideTail l ⟨st, false, [], xs, [], c⟩ q

def dirAt (l : List Int) (p0 : Nat) : Out Int :=
  let p := gap l p0
  if see l p = 62 then .ok 1 (p + 1)
  else if see l p ≠ 60 then .bad 2 p
  else if see l (p + 1) = 62 then .ok 3 (p + 2)
  else .ok 2 (p + 1)

def noSide : Side := ⟨false, false, [], [], [], 0⟩
noncomputable def rule (l : List Int) (p : Nat) : Out Part :=
  match side l p with
  | .bad e q => .bad e q
  | .ok a q =>
    match dirAt l q with
    | .bad e r => .bad e r
    | .ok d r =>
      match side l r with
      | .bad e t => .bad e t
      | .ok b t => .ok ⟨2, ⟨#[]⟩, [], d, a, b⟩ t

/-- what tells something of all the text, behind `::` and what makes nothing -/
noncomputable def wholeAt (l : List Int) (p : Nat) : Out Part :=
  if see l p = 91 then
    match T.setN 20 l p with
    | .bad e q => .bad e q
    | .ok s q => .ok ⟨3, ⟨#[]⟩, s, 0, noSide, noSide⟩ q
  else if passes (wordAt l p) = true then .ok ⟨4, wordAt l p, [], 0, noSide, noSide⟩ (wordEnd l p)
  else .bad 7 p

noncomputable def part (l : List Int) (p : Nat) : Out Part :=
  if see l p = 58 then
    if see l (p + 1) ≠ 58 then .bad 2 (p + 1) else wholeAt l (gap l (p + 2))
  else if varNext l p = true then
    match varAt l p with
    | .bad e q => .bad e q
    | .ok n q =>
      if see l (gap l q) = 61 then
        match T.setN 20 l (gap l (gap l q + 1)) with
        | .bad e r => .bad e r
        | .ok s r => .ok ⟨1, n, s, 0, noSide, noSide⟩ r
      else rule l p
  else rule l p

/-- a part with its `;` -/
noncomputable def ended (l : List Int) (p : Nat) : Out Part :=
  match part l p with
  | .bad e q => .bad e q
  | .ok x q => if see l (gap l q) ≠ 59 then .bad 2 (gap l q) else if partE x ≠ 0 then .bad (partE x) p else .ok x (gap l q + 1)

/-- parts from p on, where a part begins or the end is -/
noncomputable def partsN : Nat → List Int → List Part → Nat → Out (List Part)
  | 0, _, _, p => .bad 0 p
  | f + 1, l, xs, p =>
    if see l p = -1 then .ok xs p
    else if xs.length = 200 then .bad 5 p
    else
      match ended l p with
      | .bad e q => .bad e q
      | .ok x q => partsN f l (xs ++ [x]) (gap l q)
noncomputable def parts (l : List Int) : Out (List Part) := partsN 202 l [] (gap l 0)

noncomputable def read (l : List Int) : Out (List Part) := if 16000 < l.length then .bad 4 0 else parts l

end Go.Proofs.Ytchkcjaahjhbcaa.R
