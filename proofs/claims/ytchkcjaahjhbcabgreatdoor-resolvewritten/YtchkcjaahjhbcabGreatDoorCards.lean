/-
  DERIVED. GIVEN WITH THE SEED: THE CARDS: each row of YtchkcjaahjhbcabGreatDoorRows.lean that lists a variable, with what it lists TIED to the program's text (the seventh form; the later family's looks); each row that meets fmt, with fmt's text TOLD by the authors' own Lean function (tested against real Go, not proved from fmt's source: count such statements apart). THE CARD IS WHAT COUNTS. Prove the row's statement (the work); the ties are given (YtchkcjaahjhbcabGreatDoorTie.lean); close each card by the builder's one call (the guide's Derived/Test/ToyasCard.lean, 'card_holds'). Laid BY PROGRAM, IN A SANDBOX (cutbox-door.mjs). By AI agents, Wed Nov 11 2026. No macro, syntax, notation, axiom, sorry.
-/
import Derived.Test.YtchkcjaahjhbcabGreatDoorRows
import GoSem.ClaimSeven
namespace Go.Proofs.YtchkcjaahjhbcabGreatDoor
namespace Rows

/-- THE TIED CARD OF 'scriptlaw6.ResolveWritten'. -/
def resolveWrittenCard : Claim7 := { stood := { row := resolveWrittenRow, standIns := [], harness := (true, "19cbcfb9d5bebef2de6638b6119e5c21ddf00f75556b8c4eb976da51dabfd98e"), looks := true }, kinds := [], alts := [], laidByText := true, laidKinds := [.data, .data, .data, .sentinel, .sentinel], laidTests := true, laidLooks := .later }
def ResolveWrittenCardSaid : Prop := Claim7.holds Tryz.pinned (.plain (OpenSpec.ofChange resolveWrittenSpec)) resolveWrittenCard

/-- THE SECOND FORM's CARD OF 'scriptlaw6.ResolveWritten'. -/
def resolveWrittenUptoCard : Claim7 := { stood := { row := resolveWrittenUptoRow, standIns := [], harness := (true, "19cbcfb9d5bebef2de6638b6119e5c21ddf00f75556b8c4eb976da51dabfd98e"), looks := true }, kinds := [], alts := [], laidByText := true, laidKinds := [.data, .data, .data, .sentinel, .sentinel], laidTests := true, laidLooks := .later }
def ResolveWrittenUptoCardSaid : Prop := Claim7.holds Tryz.pinned (.plain (OpenSpec.upto resolveWrittenSpec)) resolveWrittenUptoCard
end Rows
end Go.Proofs.YtchkcjaahjhbcabGreatDoor
