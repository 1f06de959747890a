/-
  Files become scripts, in plain lists.
-/
import Derived.Test.YtchkcjaahjhbcaaRMath
import Derived.Test.YtchkcjaahjhbcaaVLib
import Derived.Test.YtchkcjaahjhbcaaVSmall
import Derived.Test.YtchkcjaahjhbcaaVLook
namespace Go.Proofs.Ytchkcjaahjhbcaa.V

abbrev Known := ByteArray → Option (List S.Sp)
def unkP (kn : Known) (x : R.Item) : Bool := decide (x.kind = 3) && !(kn x.name).isSome
def unkSP (kn : Known) (s : R.Side) : Bool := s.before.any (unkP kn) || s.source.any (unkP kn) || s.after.any (unkP kn)
/-- what is wrong with a part beside those ahead of it -/
def stepE (kn : Known) (flt : Bool) (p : R.Part) : Int :=
  if p.kind = 1 then (if (kn p.name).isSome = true then 7 else 0)
  else if p.kind = 3 then (if flt = true then 5 else 0)
  else if p.kind = 2 then (if (unkSP kn p.left || unkSP kn p.right) = true then 7 else 0) else 0
def stepK (kn : Known) (p : R.Part) : Known := if p.kind = 1 then fun t => if t = p.name then some p.set else kn t else kn
def stepF (flt : Bool) (p : R.Part) : Bool := if p.kind = 3 then true else flt
def ordF : Nat → Known → Bool → List R.Part → (Int × Nat) × Known
  | _, kn, _, [] => ((0, 0), kn)
  | k, kn, flt, p :: l => if stepE kn flt p = 0 then ordF (k + 1) (stepK kn p) (stepF flt p) l else ((stepE kn flt p, k), fun _ => none)
/-- what is wrong, and all variables -/
def varsF (l : List R.Part) : (Int × Nat) × Known := if (R.wrong l).1 = 0 then ordF 0 (fun _ => none) false l else (R.wrong l, fun _ => none)
theorem ordF_drop {l : List R.Part} {k : Nat} {p : R.Part} {kn : Known} {flt : Bool} (h : l[k]? = some p) : ordF k kn flt (l.drop k) = if stepE kn flt p = 0 then ordF (k + 1) (stepK kn p) (stepF flt p) (l.drop (k + 1)) else ((stepE kn flt p, k), fun _ => none) := by
  have hlt := (List.getElem?_eq_some_iff.1 h).1
  rw [List.drop_eq_getElem_cons hlt]
  have : l[k] = p := by rw [List.getElem?_eq_getElem hlt] at h; exact Option.some.inj h
  rw [this]; rfl

/-- the set of a name -/
def gOf (kn : Known) (s : ByteArray) : List S.Sp := (kn s).getD []
def ruleOf (g : ByteArray → List S.Sp) (a b : R.Side) : K.Rule :=
  ⟨a.start, a.fin, a.before.map (setOf g), a.source.map (setOf g), a.after.map (setOf g), b.source.map (·.rune), if b.cursor < 0 then (b.source.length : Int) else b.cursor⟩
def putP (ps : List Pass) (r : K.Rule) : List Pass :=
  match ps.getLast? with
  | some p => if p.name.size = 0 then ps.dropLast ++ [⟨p.name, p.rules ++ [r]⟩] else ps ++ [⟨⟨#[]⟩, [r]⟩]
  | none => [⟨⟨#[]⟩, [r]⟩]
def scrStep (g : ByteArray → List S.Sp) (s : Script) (p : R.Part) : Script :=
  if p.kind = 3 then ⟨true, p.set, s.passes⟩
  else if p.kind = 4 then ⟨s.has, s.only, s.passes ++ [⟨p.name, []⟩]⟩
  else if p.kind = 2 then (if p.dir = 2 then s else ⟨s.has, s.only, putP s.passes (ruleOf g p.left p.right)⟩)
  else s
def scr (g : ByteArray → List S.Sp) (l : List R.Part) : Script := l.foldl (scrStep g) ⟨false, [], []⟩
/-- a part, if back were forth -/
def turn (p : R.Part) : R.Part :=
  if p.kind = 4 then { p with name := opp p.name }
  else if p.kind = 2 then { p with left := p.right, dir := against p.dir, right := p.left } else p
def forthF (l : List R.Part) : Script × Int × Nat := if (varsF l).1.1 = 0 then (scr (gOf (varsF l).2) l, 0, 0) else (⟨false, [], []⟩, (varsF l).1)
def backF (l : List R.Part) : Script × Int × Nat :=
  if (varsF l).1.1 = 0 then (⟨(scr (gOf (varsF l).2) (l.map turn)).has, (scr (gOf (varsF l).2) (l.map turn)).only, (scr (gOf (varsF l).2) (l.map turn)).passes.reverse⟩, 0, 0) else (⟨false, [], []⟩, (varsF l).1)

end Go.Proofs.Ytchkcjaahjhbcaa.V
