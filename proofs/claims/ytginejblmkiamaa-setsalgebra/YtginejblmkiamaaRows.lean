/-
  No cell of these rows narrows 'for every input' (looked for: loops, veiled, ifaces, maps, wideKeys, modest, calm, conditions, laid).
  DERIVED. THE GIVEN ROWS OF THIS SEAT. 5 by the template 'for every input the law returns true; each argument reads behind the call as it read before'; 0 by the template 'total and deterministic' (their statements: YtginejblmkiamaaTotals.lean).
  GIVEN WITH THE SEED: the statements are not yours to turn. If you find one false, say at which input.
  Laid BY PROGRAM, IN A SANDBOX (cutbox-rows.mjs): the forced cells as the released guide's own fill.sh prints them over the translation c89abb68c686b69f… (all of the seat's roots in one cut). By AI agents, Wed Nov 11 2026. No macro, syntax, notation, axiom, sorry.
-/
import Derived.Test.YtginejblmkiamaaChecked
import GoSem.Claim
import GoSem.ClaimJoined
import GoSem.ClaimMapViews
import Derived.JoinedTies
import Derived.KernelRfl
namespace Go.Proofs.Ytginejblmkiamaa
/- THE CELL 'sum', in the pinned program and in every row, IS THE sha256 OF THE DUMP (.gsa) THAT YtginejblmkiamaaProg.lean LOADS. Nothing in Lean hashes anything: it is a label: what it is worth is what the hold of that sum in a sandbox is worth. -/
noncomputable def Try.pinned : Pinned := { name := "ytginejblmkiamaa", sum := "c89abb68c686b69f190c87da25af0047f95f020c31b751cd87ea9cb4cb362921", checked := Try.checked }
namespace Rows
def none {H : Type} : Left H := { results := [], args := [] }

/-- 'scriptlaw2.SetsTell': WHATEVER THE INPUT: true; the input reads as it did. -/
def setsTellSpec : ChangeSpec := { name := "setsTell", fn := fun _ => fun
  | [d1, d2, d3, d4] => { results := [.lit (.bool true)], args := [d1, d2, d3, d4] }
  | _ => none }
def setsTellRow : OpenClaim := { program := "ytginejblmkiamaa", sum := "c89abb68c686b69f190c87da25af0047f95f020c31b751cd87ea9cb4cb362921", func := "scriptshift/scriptlaw2.SetsTell", spec := "setsTell", unfollowed := true, recurses := true, apart := false }
def SetsTellSaid : Prop := setsTellRow.holds Try.pinned (OpenSpec.ofChange setsTellSpec)

/-- ITS FALSE NEIGHBOUR: 'it returns false'. Refute it at one input. -/
def setsTellWrong : ChangeSpec := { name := "setsTell", fn := fun _ => fun
  | [d1, d2, d3, d4] => { results := [.lit (.bool false)], args := [d1, d2, d3, d4] }
  | _ => none }
def SetsTellWrongFalsely : Prop := setsTellRow.holds Try.pinned (OpenSpec.ofChange setsTellWrong)

/-- 'scriptlaw2.SetsReckon': WHATEVER THE INPUT: true; the input reads as it did. -/
def setsReckonSpec : ChangeSpec := { name := "setsReckon", fn := fun _ => fun
  | [d1, d2] => { results := [.lit (.bool true)], args := [d1, d2] }
  | _ => none }
def setsReckonRow : OpenClaim := { program := "ytginejblmkiamaa", sum := "c89abb68c686b69f190c87da25af0047f95f020c31b751cd87ea9cb4cb362921", func := "scriptshift/scriptlaw2.SetsReckon", spec := "setsReckon", unfollowed := true, recurses := true, apart := false }
def SetsReckonSaid : Prop := setsReckonRow.holds Try.pinned (OpenSpec.ofChange setsReckonSpec)

/-- ITS FALSE NEIGHBOUR: 'it returns false'. Refute it at one input. -/
def setsReckonWrong : ChangeSpec := { name := "setsReckon", fn := fun _ => fun
  | [d1, d2] => { results := [.lit (.bool false)], args := [d1, d2] }
  | _ => none }
def SetsReckonWrongFalsely : Prop := setsReckonRow.holds Try.pinned (OpenSpec.ofChange setsReckonWrong)

/-- 'scriptlaw2.SetsAlgebra': WHATEVER THE INPUT: true; the input reads as it did. -/
def setsAlgebraSpec : ChangeSpec := { name := "setsAlgebra", fn := fun _ => fun
  | [d1, d2, d3] => { results := [.lit (.bool true)], args := [d1, d2, d3] }
  | _ => none }
def setsAlgebraRow : OpenClaim := { program := "ytginejblmkiamaa", sum := "c89abb68c686b69f190c87da25af0047f95f020c31b751cd87ea9cb4cb362921", func := "scriptshift/scriptlaw2.SetsAlgebra", spec := "setsAlgebra", unfollowed := true, recurses := true, apart := false }
def SetsAlgebraSaid : Prop := setsAlgebraRow.holds Try.pinned (OpenSpec.ofChange setsAlgebraSpec)

/-- ITS FALSE NEIGHBOUR: 'it returns false'. Refute it at one input. -/
def setsAlgebraWrong : ChangeSpec := { name := "setsAlgebra", fn := fun _ => fun
  | [d1, d2, d3] => { results := [.lit (.bool false)], args := [d1, d2, d3] }
  | _ => none }
def SetsAlgebraWrongFalsely : Prop := setsAlgebraRow.holds Try.pinned (OpenSpec.ofChange setsAlgebraWrong)

/-- 'scriptlaw2.SetsForm': WHATEVER THE INPUT: true; the input reads as it did. -/
def setsFormSpec : ChangeSpec := { name := "setsForm", fn := fun _ => fun
  | [d1, d2] => { results := [.lit (.bool true)], args := [d1, d2] }
  | _ => none }
def setsFormRow : OpenClaim := { program := "ytginejblmkiamaa", sum := "c89abb68c686b69f190c87da25af0047f95f020c31b751cd87ea9cb4cb362921", func := "scriptshift/scriptlaw2.SetsForm", spec := "setsForm", unfollowed := true, recurses := true, apart := false }
def SetsFormSaid : Prop := setsFormRow.holds Try.pinned (OpenSpec.ofChange setsFormSpec)

/-- ITS FALSE NEIGHBOUR: 'it returns false'. Refute it at one input. -/
def setsFormWrong : ChangeSpec := { name := "setsForm", fn := fun _ => fun
  | [d1, d2] => { results := [.lit (.bool false)], args := [d1, d2] }
  | _ => none }
def SetsFormWrongFalsely : Prop := setsFormRow.holds Try.pinned (OpenSpec.ofChange setsFormWrong)

/-- 'scriptlaw2.SetsCount': WHATEVER THE INPUT: true; the input reads as it did. -/
def setsCountSpec : ChangeSpec := { name := "setsCount", fn := fun _ => fun
  | [d1, d2, d3] => { results := [.lit (.bool true)], args := [d1, d2, d3] }
  | _ => none }
def setsCountRow : OpenClaim := { program := "ytginejblmkiamaa", sum := "c89abb68c686b69f190c87da25af0047f95f020c31b751cd87ea9cb4cb362921", func := "scriptshift/scriptlaw2.SetsCount", spec := "setsCount", unfollowed := true, recurses := true, apart := false }
def SetsCountSaid : Prop := setsCountRow.holds Try.pinned (OpenSpec.ofChange setsCountSpec)

/-- ITS FALSE NEIGHBOUR: 'it returns false'. Refute it at one input. -/
def setsCountWrong : ChangeSpec := { name := "setsCount", fn := fun _ => fun
  | [d1, d2, d3] => { results := [.lit (.bool false)], args := [d1, d2, d3] }
  | _ => none }
def SetsCountWrongFalsely : Prop := setsCountRow.holds Try.pinned (OpenSpec.ofChange setsCountWrong)

/- THE SECOND FORM. 'bulk': how many values and letters a reading holds, each counted each time it is reached (what is shared counts as often as it is met; a slice's spare places count too). A statement '..UptoSaid' is the law's where the arguments, and the package variables that the reading takes, are together of bulk at most 1048576: NARROWER than '..Said'. Prove '..Said' where nothing that the law and all that it calls make is longer than what came in: it says more and counts as full. Else prove '..UptoSaid'. A law counts once. -/
mutual
def uptoBulk {H : Type} : DataW H → Nat
  | .lit (.string bytes) => bytes.length + 1
  | .lit _ => 1
  | .nil => 1
  | .ptr d => uptoBulk d + 1
  | .slice elems spare => uptoBulkAll elems + uptoBulkAll spare + 1
  | .agg parts => uptoBulkAll parts + 1
  | .iface _ d => uptoBulk d + 1
  | .map entries => uptoBulkEntries entries + 1
  | .held _ => 1
def uptoBulkAll {H : Type} : List (DataW H) → Nat
  | [] => 0
  | d :: r => uptoBulk d + uptoBulkAll r
def uptoBulkEntries {H : Type} : List (Lit × DataW H) → Nat
  | [] => 0
  | x :: r => uptoBulkEntry x + uptoBulkEntries r
def uptoBulkEntry {H : Type} : Lit × DataW H → Nat
  | (.string bytes, d) => bytes.length + uptoBulk d + 1
  | (_, d) => uptoBulk d + 1
 end
def uptoSmall : (H : Type) → List (DataW H) → Bool := fun _ ds => decide (uptoBulkAll ds ≤ 1048576)
def OpenSpec.upto (s : _root_.Go.ChangeSpec) : _root_.Go.OpenSpec := { _root_.Go.OpenSpec.ofChange s with cond := some uptoSmall }

/-- 'scriptlaw2.SetsTell', WHERE WHAT IT READS IS OF BULK AT MOST 1048576: true; the input reads as it did. -/
def setsTellUptoRow : OpenClaim := { program := "ytginejblmkiamaa", sum := "c89abb68c686b69f190c87da25af0047f95f020c31b751cd87ea9cb4cb362921", func := "scriptshift/scriptlaw2.SetsTell", spec := "setsTell", unfollowed := true, recurses := true, apart := false, narrowed := true }
def SetsTellUptoSaid : Prop := setsTellUptoRow.holds Try.pinned (OpenSpec.upto setsTellSpec)

/-- 'scriptlaw2.SetsReckon', WHERE WHAT IT READS IS OF BULK AT MOST 1048576: true; the input reads as it did. -/
def setsReckonUptoRow : OpenClaim := { program := "ytginejblmkiamaa", sum := "c89abb68c686b69f190c87da25af0047f95f020c31b751cd87ea9cb4cb362921", func := "scriptshift/scriptlaw2.SetsReckon", spec := "setsReckon", unfollowed := true, recurses := true, apart := false, narrowed := true }
def SetsReckonUptoSaid : Prop := setsReckonUptoRow.holds Try.pinned (OpenSpec.upto setsReckonSpec)

/-- 'scriptlaw2.SetsAlgebra', WHERE WHAT IT READS IS OF BULK AT MOST 1048576: true; the input reads as it did. -/
def setsAlgebraUptoRow : OpenClaim := { program := "ytginejblmkiamaa", sum := "c89abb68c686b69f190c87da25af0047f95f020c31b751cd87ea9cb4cb362921", func := "scriptshift/scriptlaw2.SetsAlgebra", spec := "setsAlgebra", unfollowed := true, recurses := true, apart := false, narrowed := true }
def SetsAlgebraUptoSaid : Prop := setsAlgebraUptoRow.holds Try.pinned (OpenSpec.upto setsAlgebraSpec)

/-- 'scriptlaw2.SetsForm', WHERE WHAT IT READS IS OF BULK AT MOST 1048576: true; the input reads as it did. -/
def setsFormUptoRow : OpenClaim := { program := "ytginejblmkiamaa", sum := "c89abb68c686b69f190c87da25af0047f95f020c31b751cd87ea9cb4cb362921", func := "scriptshift/scriptlaw2.SetsForm", spec := "setsForm", unfollowed := true, recurses := true, apart := false, narrowed := true }
def SetsFormUptoSaid : Prop := setsFormUptoRow.holds Try.pinned (OpenSpec.upto setsFormSpec)

/-- 'scriptlaw2.SetsCount', WHERE WHAT IT READS IS OF BULK AT MOST 1048576: true; the input reads as it did. -/
def setsCountUptoRow : OpenClaim := { program := "ytginejblmkiamaa", sum := "c89abb68c686b69f190c87da25af0047f95f020c31b751cd87ea9cb4cb362921", func := "scriptshift/scriptlaw2.SetsCount", spec := "setsCount", unfollowed := true, recurses := true, apart := false, narrowed := true }
def SetsCountUptoSaid : Prop := setsCountUptoRow.holds Try.pinned (OpenSpec.upto setsCountSpec)

end Rows
end Go.Proofs.Ytginejblmkiamaa
