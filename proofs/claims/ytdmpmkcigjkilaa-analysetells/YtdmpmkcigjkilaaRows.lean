/-
  No cell of these rows narrows 'for every input' (looked for: loops, veiled, ifaces, maps, wideKeys, modest, calm, conditions, laid).
  DERIVED. THE GIVEN ROWS OF THIS SEAT. 5 by the template 'for every input the law returns true; each argument reads behind the call as it read before'; 0 by the template 'total and deterministic' (their statements: YtdmpmkcigjkilaaTotals.lean).
  GIVEN WITH THE SEED: the statements are not yours to turn. If you find one false, say at which input.
  Laid BY PROGRAM, IN A SANDBOX (cutbox-rows.mjs): the forced cells as the released guide's own fill.sh prints them over the translation fd54608e7619068b… (all of the seat's roots in one cut). By AI agents, Wed Nov 11 2026. No macro, syntax, notation, axiom, sorry.
-/
import Derived.Test.YtdmpmkcigjkilaaChecked
import GoSem.Claim
import GoSem.ClaimJoined
import GoSem.ClaimMapViews
import Derived.JoinedTies
import Derived.KernelRfl
namespace Go.Proofs.Ytdmpmkcigjkilaa
/- THE CELL 'sum', in the pinned program and in every row, IS THE sha256 OF THE DUMP (.gsa) THAT YtdmpmkcigjkilaaProg.lean LOADS. Nothing in Lean hashes anything: it is a label: what it is worth is what the hold of that sum in a sandbox is worth. -/
noncomputable def Try.pinned : Pinned := { name := "ytdmpmkcigjkilaa", sum := "fd54608e7619068b179316e5eeeb346b1feb719be63eed44bea2895441860897", checked := Try.checked }
namespace Rows
def none {H : Type} : Left H := { results := [], args := [] }

/-- 'scriptlaw6.ResolveTells': WHATEVER THE INPUT: true; the input reads as it did. -/
def resolveTellsSpec : ChangeSpec := { name := "resolveTells", fn := fun _ => fun
  | [d] => { results := [.lit (.bool true)], args := [d] }
  | _ => none }
def resolveTellsRow : OpenClaim := { program := "ytdmpmkcigjkilaa", sum := "fd54608e7619068b179316e5eeeb346b1feb719be63eed44bea2895441860897", func := "scriptshift/scriptlaw6.ResolveTells", spec := "resolveTells", unfollowed := true, recurses := true, apart := false }
def ResolveTellsSaid : Prop := resolveTellsRow.holds Try.pinned (OpenSpec.ofChange resolveTellsSpec)

/-- ITS FALSE NEIGHBOUR: 'it returns false'. Refute it at one input. -/
def resolveTellsWrong : ChangeSpec := { name := "resolveTells", fn := fun _ => fun
  | [d] => { results := [.lit (.bool false)], args := [d] }
  | _ => none }
def ResolveTellsWrongFalsely : Prop := resolveTellsRow.holds Try.pinned (OpenSpec.ofChange resolveTellsWrong)

/-- 'scriptlaw6.ResolveTurned': WHATEVER THE INPUT: true; the input reads as it did. -/
def resolveTurnedSpec : ChangeSpec := { name := "resolveTurned", fn := fun _ => fun
  | [d] => { results := [.lit (.bool true)], args := [d] }
  | _ => none }
def resolveTurnedRow : OpenClaim := { program := "ytdmpmkcigjkilaa", sum := "fd54608e7619068b179316e5eeeb346b1feb719be63eed44bea2895441860897", func := "scriptshift/scriptlaw6.ResolveTurned", spec := "resolveTurned", unfollowed := true, recurses := true, apart := false }
def ResolveTurnedSaid : Prop := resolveTurnedRow.holds Try.pinned (OpenSpec.ofChange resolveTurnedSpec)

/-- ITS FALSE NEIGHBOUR: 'it returns false'. Refute it at one input. -/
def resolveTurnedWrong : ChangeSpec := { name := "resolveTurned", fn := fun _ => fun
  | [d] => { results := [.lit (.bool false)], args := [d] }
  | _ => none }
def ResolveTurnedWrongFalsely : Prop := resolveTurnedRow.holds Try.pinned (OpenSpec.ofChange resolveTurnedWrong)

/-- 'scriptlaw6.ResolveVars': WHATEVER THE INPUT: true; the input reads as it did. -/
def resolveVarsSpec : ChangeSpec := { name := "resolveVars", fn := fun _ => fun
  | [d] => { results := [.lit (.bool true)], args := [d] }
  | _ => none }
def resolveVarsRow : OpenClaim := { program := "ytdmpmkcigjkilaa", sum := "fd54608e7619068b179316e5eeeb346b1feb719be63eed44bea2895441860897", func := "scriptshift/scriptlaw6.ResolveVars", spec := "resolveVars", unfollowed := true, recurses := true, apart := false }
def ResolveVarsSaid : Prop := resolveVarsRow.holds Try.pinned (OpenSpec.ofChange resolveVarsSpec)

/-- ITS FALSE NEIGHBOUR: 'it returns false'. Refute it at one input. -/
def resolveVarsWrong : ChangeSpec := { name := "resolveVars", fn := fun _ => fun
  | [d] => { results := [.lit (.bool false)], args := [d] }
  | _ => none }
def ResolveVarsWrongFalsely : Prop := resolveVarsRow.holds Try.pinned (OpenSpec.ofChange resolveVarsWrong)

/-- 'scriptlaw9.AnalyseTells': WHATEVER THE INPUT: true; the input reads as it did. -/
def analyseTellsSpec : ChangeSpec := { name := "analyseTells", fn := fun _ => fun
  | [d1, d2, d3] => { results := [.lit (.bool true)], args := [d1, d2, d3] }
  | _ => none }
def analyseTellsRow : OpenClaim := { program := "ytdmpmkcigjkilaa", sum := "fd54608e7619068b179316e5eeeb346b1feb719be63eed44bea2895441860897", func := "scriptshift/scriptlaw9.AnalyseTells", spec := "analyseTells", unfollowed := true, recurses := true, apart := false }
def AnalyseTellsSaid : Prop := analyseTellsRow.holds Try.pinned (OpenSpec.ofChange analyseTellsSpec)

/-- ITS FALSE NEIGHBOUR: 'it returns false'. Refute it at one input. -/
def analyseTellsWrong : ChangeSpec := { name := "analyseTells", fn := fun _ => fun
  | [d1, d2, d3] => { results := [.lit (.bool false)], args := [d1, d2, d3] }
  | _ => none }
def AnalyseTellsWrongFalsely : Prop := analyseTellsRow.holds Try.pinned (OpenSpec.ofChange analyseTellsWrong)

/-- 'scriptlaw9.AnalyseMasks': WHATEVER THE INPUT: true; the input reads as it did. -/
def analyseMasksSpec : ChangeSpec := { name := "analyseMasks", fn := fun _ => fun
  | [d1, d2, d3, d4, d5] => { results := [.lit (.bool true)], args := [d1, d2, d3, d4, d5] }
  | _ => none }
def analyseMasksRow : OpenClaim := { program := "ytdmpmkcigjkilaa", sum := "fd54608e7619068b179316e5eeeb346b1feb719be63eed44bea2895441860897", func := "scriptshift/scriptlaw9.AnalyseMasks", spec := "analyseMasks", unfollowed := true, recurses := true, apart := false }
def AnalyseMasksSaid : Prop := analyseMasksRow.holds Try.pinned (OpenSpec.ofChange analyseMasksSpec)

/-- ITS FALSE NEIGHBOUR: 'it returns false'. Refute it at one input. -/
def analyseMasksWrong : ChangeSpec := { name := "analyseMasks", fn := fun _ => fun
  | [d1, d2, d3, d4, d5] => { results := [.lit (.bool false)], args := [d1, d2, d3, d4, d5] }
  | _ => none }
def AnalyseMasksWrongFalsely : Prop := analyseMasksRow.holds Try.pinned (OpenSpec.ofChange analyseMasksWrong)

/- THE SECOND FORM. 'bulk': how many values and letters a reading holds, each counted each time it is reached (what is shared counts as often as it is met; a slice's spare places count too). A statement '..UptoSaid' is the law's where the arguments, and the package variables that the reading takes, are together of bulk at most 1048576: NARROWER than '..Said'. Prove '..Said' where nothing that the law and all that it calls make is longer than what came in: it says more and counts as full. Else prove '..UptoSaid'. A law counts once. -/
mutual
def uptoBulk {H : Type} : DataW H → Nat
  | .lit (.string bytes) => bytes.length + 1
  | .lit _ => 1
  | .nil => 1
  | .ptr d => uptoBulk d + 1
  | .slice elems spare => uptoBulkAll elems + uptoBulkAll spare + 1
  | .agg parts => uptoBulkAll parts + 1
  | .iface _ d => uptoBulk d + 1
  | .map entries => uptoBulkEntries entries + 1
  | .held _ => 1
def uptoBulkAll {H : Type} : List (DataW H) → Nat
  | [] => 0
  | d :: r => uptoBulk d + uptoBulkAll r
def uptoBulkEntries {H : Type} : List (Lit × DataW H) → Nat
  | [] => 0
  | x :: r => uptoBulkEntry x + uptoBulkEntries r
def uptoBulkEntry {H : Type} : Lit × DataW H → Nat
  | (.string bytes, d) => bytes.length + uptoBulk d + 1
  | (_, d) => uptoBulk d + 1
 end
def uptoSmall : (H : Type) → List (DataW H) → Bool := fun _ ds => decide (uptoBulkAll ds ≤ 1048576)
def OpenSpec.upto (s : _root_.Go.ChangeSpec) : _root_.Go.OpenSpec := { _root_.Go.OpenSpec.ofChange s with cond := some uptoSmall }

/-- 'scriptlaw6.ResolveTells', WHERE WHAT IT READS IS OF BULK AT MOST 1048576: true; the input reads as it did. -/
def resolveTellsUptoRow : OpenClaim := { program := "ytdmpmkcigjkilaa", sum := "fd54608e7619068b179316e5eeeb346b1feb719be63eed44bea2895441860897", func := "scriptshift/scriptlaw6.ResolveTells", spec := "resolveTells", unfollowed := true, recurses := true, apart := false, narrowed := true }
def ResolveTellsUptoSaid : Prop := resolveTellsUptoRow.holds Try.pinned (OpenSpec.upto resolveTellsSpec)

/-- 'scriptlaw6.ResolveTurned', WHERE WHAT IT READS IS OF BULK AT MOST 1048576: true; the input reads as it did. -/
def resolveTurnedUptoRow : OpenClaim := { program := "ytdmpmkcigjkilaa", sum := "fd54608e7619068b179316e5eeeb346b1feb719be63eed44bea2895441860897", func := "scriptshift/scriptlaw6.ResolveTurned", spec := "resolveTurned", unfollowed := true, recurses := true, apart := false, narrowed := true }
def ResolveTurnedUptoSaid : Prop := resolveTurnedUptoRow.holds Try.pinned (OpenSpec.upto resolveTurnedSpec)

/-- 'scriptlaw6.ResolveVars', WHERE WHAT IT READS IS OF BULK AT MOST 1048576: true; the input reads as it did. -/
def resolveVarsUptoRow : OpenClaim := { program := "ytdmpmkcigjkilaa", sum := "fd54608e7619068b179316e5eeeb346b1feb719be63eed44bea2895441860897", func := "scriptshift/scriptlaw6.ResolveVars", spec := "resolveVars", unfollowed := true, recurses := true, apart := false, narrowed := true }
def ResolveVarsUptoSaid : Prop := resolveVarsUptoRow.holds Try.pinned (OpenSpec.upto resolveVarsSpec)

/-- 'scriptlaw9.AnalyseTells', WHERE WHAT IT READS IS OF BULK AT MOST 1048576: true; the input reads as it did. -/
def analyseTellsUptoRow : OpenClaim := { program := "ytdmpmkcigjkilaa", sum := "fd54608e7619068b179316e5eeeb346b1feb719be63eed44bea2895441860897", func := "scriptshift/scriptlaw9.AnalyseTells", spec := "analyseTells", unfollowed := true, recurses := true, apart := false, narrowed := true }
def AnalyseTellsUptoSaid : Prop := analyseTellsUptoRow.holds Try.pinned (OpenSpec.upto analyseTellsSpec)

/-- 'scriptlaw9.AnalyseMasks', WHERE WHAT IT READS IS OF BULK AT MOST 1048576: true; the input reads as it did. -/
def analyseMasksUptoRow : OpenClaim := { program := "ytdmpmkcigjkilaa", sum := "fd54608e7619068b179316e5eeeb346b1feb719be63eed44bea2895441860897", func := "scriptshift/scriptlaw9.AnalyseMasks", spec := "analyseMasks", unfollowed := true, recurses := true, apart := false, narrowed := true }
def AnalyseMasksUptoSaid : Prop := analyseMasksUptoRow.holds Try.pinned (OpenSpec.upto analyseMasksSpec)

end Rows
end Go.Proofs.Ytdmpmkcigjkilaa
