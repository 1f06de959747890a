/-
  Sets in texts: what Read tells of any runes, and what Print writes: plain functions.
-/
import Derived.Test.YtnalcmlhfmgfdaaSAlg
import Derived.Test.YtnalcmlhfmgfdaaUni2
namespace Go.Proofs.Ytnalcmlhfmgfdaa.T
open S (Sp)

/-- how a step of reading ends: with a value, and where it goes on; or with a fault -/
inductive Out (α : Type) where
  | ok (a : α) (p : Nat)
  | bad (e : Int) (p : Nat)

def see (l : List Int) (p : Nat) : Int := (l[p]?).getD (-1)
def blanks : List Int := [32, 9, 10]
def specials : List Int := [32, 9, 10, 91, 93, 38, 45, 94, 92, 58, 36, 40, 41, 123, 125, 60, 62, 124, 59, 35, 39, 34, 61, 44]
def hexes : List Int := [48, 49, 50, 51, 52, 53, 54, 55, 56, 57, 97, 98, 99, 100, 101, 102, 65, 66, 67, 68, 69, 70]
def blank (r : Int) : Bool := decide (r ∈ blanks)
def hexd (r : Int) : Bool := decide (r ∈ hexes)
def ordy (r : Int) : Bool := !decide (r = -1) && !decide (r ∈ specials)
def alnum (r : Int) : Bool := (decide (48 ≤ r) && decide (r ≤ 57)) || (decide (65 ≤ r) && decide (r ≤ 90)) || (decide (97 ≤ r) && decide (r ≤ 122))

def skipW (f : Int → Bool) (l : List Int) (p : Nat) : Nat := p + ((l.drop p).takeWhile f).length

theorem see_lt {l : List Int} {p : Nat} (h : p < l.length) : l[p]? = some (see l p) := by
  unfold see; rw [List.getElem?_eq_getElem h]; rfl
theorem see_ge {l : List Int} {p : Nat} (h : l.length ≤ p) : see l p = -1 := by
  unfold see; rw [List.getElem?_eq_none h]; rfl
theorem see_some {l : List Int} {p : Nat} {r : Int} (h : l[p]? = some r) : see l p = r := by unfold see; rw [h]; rfl

theorem skipW_eq {f : Int → Bool} {l : List Int} : ∀ {p k : Nat}, p ≤ k → k ≤ l.length → (∀ i, p ≤ i → i < k → f (see l i) = true) → f (see l k) = false → f (-1) = false → skipW f l p = k := by
  intro p k hp hk h1 h2 _
  obtain ⟨n, rfl⟩ : ∃ n, k = p + n := ⟨k - p, by omega⟩
  clear hp
  induction n generalizing p with
  | zero =>
    unfold skipW
    by_cases hlt : p < l.length
    · have : l.drop p = see l p :: l.drop (p + 1) := by
        rw [List.drop_eq_getElem_cons hlt]; congr 1; have := see_lt hlt; rw [List.getElem?_eq_getElem hlt] at this; exact Option.some.inj this
      rw [this, List.takeWhile_cons, if_neg (by rw [show see l p = see l (p + 0) from rfl, h2]; simp)]; rfl
    · rw [List.drop_eq_nil_of_le (by omega)]; rfl
  | succ n ih =>
    have hlt : p < l.length := by omega
    have hd : l.drop p = see l p :: l.drop (p + 1) := by
      rw [List.drop_eq_getElem_cons hlt]; congr 1; have := see_lt hlt; rw [List.getElem?_eq_getElem hlt] at this; exact Option.some.inj this
    have hi := ih (p := p + 1) (by omega) (fun i h3 h4 => h1 i (by omega) (by omega)) (by rw [show p + 1 + n = p + (n + 1) by omega]; exact h2)
    unfold skipW at hi ⊢
    rw [hd, List.takeWhile_cons, if_pos (h1 p (Nat.le_refl _) (by omega)), List.length_cons]
    omega

theorem skipW_ge (f : Int → Bool) (l : List Int) (p : Nat) : p ≤ skipW f l p := by unfold skipW; omega
theorem skipW_le {f : Int → Bool} {l : List Int} {p : Nat} (h : p ≤ l.length) : skipW f l p ≤ l.length := by
  unfold skipW
  have := (List.takeWhile_sublist f (l := l.drop p)).length_le
  rw [List.length_drop] at this
  omega
theorem skipW_here {f : Int → Bool} {l : List Int} {p : Nat} (h : p ≤ l.length) (h0 : f (-1) = false) (h2 : f (see l p) = false) : skipW f l p = p :=
  skipW_eq (Nat.le_refl _) h (fun i h1 h2 => by omega) h2 h0

/-- digits of base sixteen -/
def hexOne (r : Int) : Int := if r ≤ 57 then r - 48 else if r ≤ 70 then r - 55 else r - 87
def hexN (l : List Int) : Int := l.foldl (fun x r => 16 * x + hexOne r) 0

def cut (l : List Int) (p q : Nat) : List Int := (l.drop p).take (q - p)

/-- `u{..}`, at `u` -/
def num (l : List Int) (p : Nat) : Out Int :=
  if see l (p + 1) ≠ 123 then .bad 2 (p + 1)
  else if skipW hexd l (p + 2) - (p + 2) < 1 ∨ 6 < skipW hexd l (p + 2) - (p + 2) then .bad 2 (p + 2)
  else if see l (skipW hexd l (p + 2)) ≠ 125 then .bad 2 (skipW hexd l (p + 2))
  else if 1114111 < hexN (cut l (p + 2) (skipW hexd l (p + 2))) then .bad 3 p
  else .ok (hexN (cut l (p + 2) (skipW hexd l (p + 2)))) (skipW hexd l (p + 2) + 1)

/-- what follows a backslash -/
def esc (l : List Int) (p : Nat) : Out Int :=
  if see l p = 117 then num l p
  else if see l p = 110 then .ok 10 (p + 1)
  else if see l p = 116 then .ok 9 (p + 1)
  else if see l p = -1 ∨ alnum (see l p) = true then .bad 2 p
  else .ok (see l p) (p + 1)

def chr (l : List Int) (p : Nat) : Out Int :=
  if see l p = 92 then esc l (p + 1)
  else if ordy (see l p) = true then .ok (see l p) (p + 1)
  else .bad 2 p

def span (l : List Int) (p : Nat) : Out Sp :=
  match chr l p with
  | .bad e q => .bad e q
  | .ok lo q =>
    if see l q ≠ 45 ∨ see l (q + 1) = 91 then .ok (lo, lo) q
    else match chr l (q + 1) with
      | .bad e r => .bad e r
      | .ok hi r => if hi < lo then .bad 3 (q + 1) else .ok (lo, hi) r

def classOf (n : List Int) : Option (List Sp) :=
  if n = [100, 105, 103, 105, 116] then some [(48, 57)]
  else if n = [108, 111, 119, 101, 114] then some [(97, 122), (223, 246), (248, 255)]
  else if n = [117, 112, 112, 101, 114] then some [(65, 90), (192, 214), (216, 222)]
  else if n = [108, 101, 116, 116, 101, 114] then some [(65, 90), (97, 122), (192, 214), (216, 246), (248, 255)]
  else if n = [118, 111, 119, 101, 108] then some [(65, 65), (69, 69), (73, 73), (79, 79), (85, 85), (97, 97), (101, 101), (105, 105), (111, 111), (117, 117)]
  else if n = [103, 114, 101, 101, 107] then some [(880, 1023)]
  else if n = [99, 121, 114, 105, 108, 108, 105, 99] then some [(1024, 1279)]
  else if n = [115, 112, 97, 99, 101] then some [(9, 10), (32, 32)]
  else if n = [97, 110, 121] then some [(0, 1114111)]
  else none

/-- a class, at its `[` -/
def cls (l : List Int) (p : Nat) : Out (List Sp) :=
  match classOf (cut l (p + 2) (skipW ordy l (p + 2))) with
  | none => .bad 7 (p + 2)
  | some s =>
    if see l (skipW ordy l (p + 2)) ≠ 58 then .bad 2 (skipW ordy l (p + 2))
    else if see l (skipW ordy l (p + 2) + 1) ≠ 93 then .bad 2 (skipW ordy l (p + 2) + 1)
    else .ok s (skipW ordy l (p + 2) + 2)

noncomputable def made (P : Int → Bool) (p : Nat) : Out (List Sp) := if 200 < (S.nf P).length then .bad 5 p else .ok (S.nf P) p

noncomputable def part (sub : Nat → Out (List Sp)) (l : List Int) (s : List Sp) (p : Nat) : Out (List Sp) :=
  if see l p = 38 then
    match sub (skipW blank l (p + 1)) with
    | .bad e q => .bad e q
    | .ok t q => made (S.andP s t) q
  else if see l p = 45 then
    match sub (skipW blank l (p + 1)) with
    | .bad e q => .bad e q
    | .ok t q => made (S.minP s t) q
  else if see l p = 91 ∧ see l (p + 1) = 58 then
    match cls l p with
    | .bad e q => .bad e q
    | .ok t q => made (S.orP s t) q
  else if see l p = 91 then
    match sub p with
    | .bad e q => .bad e q
    | .ok t q => made (S.orP s t) q
  else
    match span l p with
    | .bad e q => .bad e q
    | .ok x q => made (S.orP s [x]) q

noncomputable def loop : Nat → (Nat → Out (List Sp)) → List Int → List Sp → Nat → Out (List Sp)
  | 0, _, _, _, p => .bad 0 p
  | f + 1, sub, l, s, p =>
    if see l p = 93 then .ok s (p + 1)
    else match part sub l s p with
      | .bad e q => .bad e q
      | .ok t q => loop f sub l t (skipW blank l q)

/-- a set, n sets deep at most, that one among them -/
noncomputable def setN : Nat → List Int → Nat → Out (List Sp)
  | 0, l, p => if see l p ≠ 91 then .bad 2 p else .bad 4 p
  | n + 1, l, p =>
    if see l p ≠ 91 then .bad 2 p
    else if see l (p + 1) = 94 then
      match loop (l.length + 1) (setN n l) l [] (skipW blank l (p + 2)) with
      | .bad e q => .bad e q
      | .ok s q => made (S.notP s) q
    else loop (l.length + 1) (setN n l) l [] (skipW blank l (p + 1))

noncomputable def whole (l : List Int) : Out (List Sp) :=
  match setN 20 l (skipW blank l 0) with
  | .bad e q => .bad e q
  | .ok s q => if see l (skipW blank l q) = -1 then .ok s q else .bad 2 (skipW blank l q)

noncomputable def read (l : List Int) : Out (List Sp) := if 4000 < l.length then .bad 4 0 else whole l

/-- digits -/
def dig (d : Nat) : UInt8 := if d < 10 then UInt8.ofNat (48 + d) else UInt8.ofNat (87 + d)
def hexL (n : Nat) : List UInt8 := if n < 16 then [dig n] else hexL (n / 16) ++ [dig (n % 16)]
termination_by n
decreasing_by omega

def plain (r : Int) : Bool := alnum r || (M.right r && decide (126 < r))
def quo (r : Int) : List UInt8 := if plain r = true then M.enc r else [92, 117, 123] ++ hexL r.toNat ++ [125]
def one (x : Sp) : List UInt8 := quo x.1 ++ if x.1 < x.2 then [45] ++ quo x.2 else []
def inner (s : List Sp) : List UInt8 := s.flatMap one
def prt (s : List Sp) : List UInt8 := [91] ++ inner s ++ [93]

theorem inner_snoc (s : List Sp) (x : Sp) : inner (s ++ [x]) = inner s ++ one x := by simp [inner]

theorem hexL_small {n : Nat} (h : n < 16) : hexL n = [dig n] := by rw [hexL, if_pos h]
theorem hexL_big {n : Nat} (h : ¬ n < 16) : hexL n = hexL (n / 16) ++ [dig (n % 16)] := by rw [hexL, if_neg h]
theorem hexL_len {n : Nat} : ∀ {k : Nat}, n < 16 ^ (k + 1) → (hexL n).length ≤ k + 1 := by
  intro k
  induction k generalizing n with
  | zero => intro h; rw [hexL_small (by simpa using h)]; simp
  | succ k ih =>
    intro h
    by_cases hs : n < 16
    · rw [hexL_small hs]; simp
    · rw [hexL_big hs, List.length_append]
      have := ih (n := n / 16) (by rw [Nat.div_lt_iff_lt_mul (by omega)]; rw [Nat.pow_succ] at h; exact h)
      simp; omega

end Go.Proofs.Ytnalcmlhfmgfdaa.T
