/-
  No cell of these rows narrows 'for every input' (looked for: loops, veiled, ifaces, maps, wideKeys, modest, calm, conditions, laid).
  DERIVED. THE GIVEN ROWS OF THIS SEAT. 5 by the template 'for every input the law returns true; each argument reads behind the call as it read before'; 0 by the template 'total and deterministic' (their statements: YtdmpmkcigjkilabTotals.lean).
  GIVEN WITH THE SEED: the statements are not yours to turn. If you find one false, say at which input.
  Laid BY PROGRAM, IN A SANDBOX (cutbox-rows.mjs): the forced cells as the released guide's own fill.sh prints them over the translation 5869d34181e12cd7… (all of the seat's roots in one cut). By AI agents, Wed Nov 11 2026. No macro, syntax, notation, axiom, sorry.
-/
import Derived.Test.YtdmpmkcigjkilabChecked
import GoSem.Claim
import GoSem.ClaimJoined
import GoSem.ClaimMapViews
import Derived.JoinedTies
import Derived.KernelRfl
namespace Go.Proofs.Ytdmpmkcigjkilab
/- THE CELL 'sum', in the pinned program and in every row, IS THE sha256 OF THE DUMP (.gsa) THAT YtdmpmkcigjkilabProg.lean LOADS. Nothing in Lean hashes anything: it is a label: what it is worth is what the hold of that sum in a sandbox is worth. -/
noncomputable def Try.pinned : Pinned := { name := "ytdmpmkcigjkilab", sum := "5869d34181e12cd714ef6fc8923c4dae851289b916e2c8520471f7f2fdc48a06", checked := Try.checked }
namespace Rows
def none {H : Type} : Left H := { results := [], args := [] }

/-- 'scriptlaw9.AnalyseMasked': WHATEVER THE INPUT: true; the input reads as it did. -/
def analyseMaskedSpec : ChangeSpec := { name := "analyseMasked", fn := fun _ => fun
  | [d1, d2] => { results := [.lit (.bool true)], args := [d1, d2] }
  | _ => none }
def analyseMaskedRow : OpenClaim := { program := "ytdmpmkcigjkilab", sum := "5869d34181e12cd714ef6fc8923c4dae851289b916e2c8520471f7f2fdc48a06", func := "scriptshift/scriptlaw9.AnalyseMasked", spec := "analyseMasked", inPlace := ["slices.overlaps[rune]"], unfollowed := true, recurses := true, apart := false }
def AnalyseMaskedSaid : Prop := analyseMaskedRow.holds Try.pinned (OpenSpec.ofChange analyseMaskedSpec)

/-- ITS FALSE NEIGHBOUR: 'it returns false'. Refute it at one input. -/
def analyseMaskedWrong : ChangeSpec := { name := "analyseMasked", fn := fun _ => fun
  | [d1, d2] => { results := [.lit (.bool false)], args := [d1, d2] }
  | _ => none }
def AnalyseMaskedWrongFalsely : Prop := analyseMaskedRow.holds Try.pinned (OpenSpec.ofChange analyseMaskedWrong)

/-- 'scriptlaw9.AnalyseSure': WHATEVER THE INPUT: true; the input reads as it did. -/
def analyseSureSpec : ChangeSpec := { name := "analyseSure", fn := fun _ => fun
  | [d1, d2] => { results := [.lit (.bool true)], args := [d1, d2] }
  | _ => none }
def analyseSureRow : OpenClaim := { program := "ytdmpmkcigjkilab", sum := "5869d34181e12cd714ef6fc8923c4dae851289b916e2c8520471f7f2fdc48a06", func := "scriptshift/scriptlaw9.AnalyseSure", spec := "analyseSure", inPlace := ["slices.overlaps[rune]"], unfollowed := true, recurses := true, apart := false }
def AnalyseSureSaid : Prop := analyseSureRow.holds Try.pinned (OpenSpec.ofChange analyseSureSpec)

/-- ITS FALSE NEIGHBOUR: 'it returns false'. Refute it at one input. -/
def analyseSureWrong : ChangeSpec := { name := "analyseSure", fn := fun _ => fun
  | [d1, d2] => { results := [.lit (.bool false)], args := [d1, d2] }
  | _ => none }
def AnalyseSureWrongFalsely : Prop := analyseSureRow.holds Try.pinned (OpenSpec.ofChange analyseSureWrong)

/-- 'scriptlaw9.AnalyseReach': WHATEVER THE INPUT: true; the input reads as it did. -/
def analyseReachSpec : ChangeSpec := { name := "analyseReach", fn := fun _ => fun
  | [d1, d2, d3] => { results := [.lit (.bool true)], args := [d1, d2, d3] }
  | _ => none }
def analyseReachRow : OpenClaim := { program := "ytdmpmkcigjkilab", sum := "5869d34181e12cd714ef6fc8923c4dae851289b916e2c8520471f7f2fdc48a06", func := "scriptshift/scriptlaw9.AnalyseReach", spec := "analyseReach", unfollowed := true, recurses := true, apart := false }
def AnalyseReachSaid : Prop := analyseReachRow.holds Try.pinned (OpenSpec.ofChange analyseReachSpec)

/-- ITS FALSE NEIGHBOUR: 'it returns false'. Refute it at one input. -/
def analyseReachWrong : ChangeSpec := { name := "analyseReach", fn := fun _ => fun
  | [d1, d2, d3] => { results := [.lit (.bool false)], args := [d1, d2, d3] }
  | _ => none }
def AnalyseReachWrongFalsely : Prop := analyseReachRow.holds Try.pinned (OpenSpec.ofChange analyseReachWrong)

/-- 'scriptlaw9.AnalyseFirsts': WHATEVER THE INPUT: true; the input reads as it did. -/
def analyseFirstsSpec : ChangeSpec := { name := "analyseFirsts", fn := fun _ => fun
  | [d1, d2] => { results := [.lit (.bool true)], args := [d1, d2] }
  | _ => none }
def analyseFirstsRow : OpenClaim := { program := "ytdmpmkcigjkilab", sum := "5869d34181e12cd714ef6fc8923c4dae851289b916e2c8520471f7f2fdc48a06", func := "scriptshift/scriptlaw9.AnalyseFirsts", spec := "analyseFirsts", inPlace := ["slices.overlaps[rune]"], unfollowed := true, recurses := true, apart := false }
def AnalyseFirstsSaid : Prop := analyseFirstsRow.holds Try.pinned (OpenSpec.ofChange analyseFirstsSpec)

/-- ITS FALSE NEIGHBOUR: 'it returns false'. Refute it at one input. -/
def analyseFirstsWrong : ChangeSpec := { name := "analyseFirsts", fn := fun _ => fun
  | [d1, d2] => { results := [.lit (.bool false)], args := [d1, d2] }
  | _ => none }
def AnalyseFirstsWrongFalsely : Prop := analyseFirstsRow.holds Try.pinned (OpenSpec.ofChange analyseFirstsWrong)

/-- 'scriptlaw9.AnalyseSteady': WHATEVER THE INPUT: true; the input reads as it did. -/
def analyseSteadySpec : ChangeSpec := { name := "analyseSteady", fn := fun _ => fun
  | [d1, d2] => { results := [.lit (.bool true)], args := [d1, d2] }
  | _ => none }
def analyseSteadyRow : OpenClaim := { program := "ytdmpmkcigjkilab", sum := "5869d34181e12cd714ef6fc8923c4dae851289b916e2c8520471f7f2fdc48a06", func := "scriptshift/scriptlaw9.AnalyseSteady", spec := "analyseSteady", inPlace := ["slices.overlaps[rune]"], unfollowed := true, recurses := true, apart := false }
def AnalyseSteadySaid : Prop := analyseSteadyRow.holds Try.pinned (OpenSpec.ofChange analyseSteadySpec)

/-- ITS FALSE NEIGHBOUR: 'it returns false'. Refute it at one input. -/
def analyseSteadyWrong : ChangeSpec := { name := "analyseSteady", fn := fun _ => fun
  | [d1, d2] => { results := [.lit (.bool false)], args := [d1, d2] }
  | _ => none }
def AnalyseSteadyWrongFalsely : Prop := analyseSteadyRow.holds Try.pinned (OpenSpec.ofChange analyseSteadyWrong)

/- THE SECOND FORM. 'bulk': how many values and letters a reading holds, each counted each time it is reached (what is shared counts as often as it is met; a slice's spare places count too). A statement '..UptoSaid' is the law's where the arguments, and the package variables that the reading takes, are together of bulk at most 1048576: NARROWER than '..Said'. Prove '..Said' where nothing that the law and all that it calls make is longer than what came in: it says more and counts as full. Else prove '..UptoSaid'. A law counts once. -/
mutual
def uptoBulk {H : Type} : DataW H → Nat
  | .lit (.string bytes) => bytes.length + 1
  | .lit _ => 1
  | .nil => 1
  | .ptr d => uptoBulk d + 1
  | .slice elems spare => uptoBulkAll elems + uptoBulkAll spare + 1
  | .agg parts => uptoBulkAll parts + 1
  | .iface _ d => uptoBulk d + 1
  | .map entries => uptoBulkEntries entries + 1
  | .held _ => 1
def uptoBulkAll {H : Type} : List (DataW H) → Nat
  | [] => 0
  | d :: r => uptoBulk d + uptoBulkAll r
def uptoBulkEntries {H : Type} : List (Lit × DataW H) → Nat
  | [] => 0
  | x :: r => uptoBulkEntry x + uptoBulkEntries r
def uptoBulkEntry {H : Type} : Lit × DataW H → Nat
  | (.string bytes, d) => bytes.length + uptoBulk d + 1
  | (_, d) => uptoBulk d + 1
 end
def uptoSmall : (H : Type) → List (DataW H) → Bool := fun _ ds => decide (uptoBulkAll ds ≤ 1048576)
def OpenSpec.upto (s : _root_.Go.ChangeSpec) : _root_.Go.OpenSpec := { _root_.Go.OpenSpec.ofChange s with cond := some uptoSmall }

/-- 'scriptlaw9.AnalyseMasked', WHERE WHAT IT READS IS OF BULK AT MOST 1048576: true; the input reads as it did. -/
def analyseMaskedUptoRow : OpenClaim := { program := "ytdmpmkcigjkilab", sum := "5869d34181e12cd714ef6fc8923c4dae851289b916e2c8520471f7f2fdc48a06", func := "scriptshift/scriptlaw9.AnalyseMasked", spec := "analyseMasked", inPlace := ["slices.overlaps[rune]"], unfollowed := true, recurses := true, apart := false, narrowed := true }
def AnalyseMaskedUptoSaid : Prop := analyseMaskedUptoRow.holds Try.pinned (OpenSpec.upto analyseMaskedSpec)

/-- 'scriptlaw9.AnalyseSure', WHERE WHAT IT READS IS OF BULK AT MOST 1048576: true; the input reads as it did. -/
def analyseSureUptoRow : OpenClaim := { program := "ytdmpmkcigjkilab", sum := "5869d34181e12cd714ef6fc8923c4dae851289b916e2c8520471f7f2fdc48a06", func := "scriptshift/scriptlaw9.AnalyseSure", spec := "analyseSure", inPlace := ["slices.overlaps[rune]"], unfollowed := true, recurses := true, apart := false, narrowed := true }
def AnalyseSureUptoSaid : Prop := analyseSureUptoRow.holds Try.pinned (OpenSpec.upto analyseSureSpec)

/-- 'scriptlaw9.AnalyseReach', WHERE WHAT IT READS IS OF BULK AT MOST 1048576: true; the input reads as it did. -/
def analyseReachUptoRow : OpenClaim := { program := "ytdmpmkcigjkilab", sum := "5869d34181e12cd714ef6fc8923c4dae851289b916e2c8520471f7f2fdc48a06", func := "scriptshift/scriptlaw9.AnalyseReach", spec := "analyseReach", unfollowed := true, recurses := true, apart := false, narrowed := true }
def AnalyseReachUptoSaid : Prop := analyseReachUptoRow.holds Try.pinned (OpenSpec.upto analyseReachSpec)

/-- 'scriptlaw9.AnalyseFirsts', WHERE WHAT IT READS IS OF BULK AT MOST 1048576: true; the input reads as it did. -/
def analyseFirstsUptoRow : OpenClaim := { program := "ytdmpmkcigjkilab", sum := "5869d34181e12cd714ef6fc8923c4dae851289b916e2c8520471f7f2fdc48a06", func := "scriptshift/scriptlaw9.AnalyseFirsts", spec := "analyseFirsts", inPlace := ["slices.overlaps[rune]"], unfollowed := true, recurses := true, apart := false, narrowed := true }
def AnalyseFirstsUptoSaid : Prop := analyseFirstsUptoRow.holds Try.pinned (OpenSpec.upto analyseFirstsSpec)

/-- 'scriptlaw9.AnalyseSteady', WHERE WHAT IT READS IS OF BULK AT MOST 1048576: true; the input reads as it did. -/
def analyseSteadyUptoRow : OpenClaim := { program := "ytdmpmkcigjkilab", sum := "5869d34181e12cd714ef6fc8923c4dae851289b916e2c8520471f7f2fdc48a06", func := "scriptshift/scriptlaw9.AnalyseSteady", spec := "analyseSteady", inPlace := ["slices.overlaps[rune]"], unfollowed := true, recurses := true, apart := false, narrowed := true }
def AnalyseSteadyUptoSaid : Prop := analyseSteadyUptoRow.holds Try.pinned (OpenSpec.upto analyseSteadySpec)

end Rows
end Go.Proofs.Ytdmpmkcigjkilab
