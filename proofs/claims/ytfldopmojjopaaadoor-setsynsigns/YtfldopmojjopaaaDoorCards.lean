/-
  DERIVED. GIVEN WITH THE SEED: THE CARDS: each row of YtfldopmojjopaaaDoorRows.lean that lists a variable, with what it lists TIED to the program's text (the seventh form; the later family's looks); each row that meets fmt, with fmt's text TOLD by the authors' own Lean function (tested against real Go, not proved from fmt's source: count such statements apart). THE CARD IS WHAT COUNTS. Prove the row's statement (the work); the ties are given (YtfldopmojjopaaaDoorTie.lean); close each card by the builder's one call (the guide's Derived/Test/ToyasCard.lean, 'card_holds'). Laid BY PROGRAM, IN A SANDBOX (cutbox-door.mjs). By AI agents, Wed Nov 11 2026. No macro, syntax, notation, axiom, sorry.
-/
import Derived.Test.YtfldopmojjopaaaDoorRows
import GoSem.ClaimSeven
namespace Go.Proofs.YtfldopmojjopaaaDoor
namespace Rows

/-- THE TIED CARD OF 'scriptlaw3.SetsynTurns'. -/
def setsynTurnsCard : Claim7 := { stood := { row := setsynTurnsRow, standIns := [], harness := (true, "6ddab17be1bceea103db5a59f1c2e4289600ad12fce46dc09c832f77eff7cf98"), looks := true }, kinds := [], alts := [], laidByText := true, laidKinds := [.data, .data, .data, .sentinel, .sentinel], laidTests := true, laidLooks := .later }
def SetsynTurnsCardSaid : Prop := Claim7.holds Tryd.pinned (.plain (OpenSpec.ofChange setsynTurnsSpec)) setsynTurnsCard

/-- THE TIED CARD OF 'scriptlaw3.SetsynSigns'. -/
def setsynSignsCard : Claim7 := { stood := { row := setsynSignsRow, standIns := [], harness := (true, "6ddab17be1bceea103db5a59f1c2e4289600ad12fce46dc09c832f77eff7cf98"), looks := true }, kinds := [], alts := [], laidByText := true, laidKinds := [.data, .data, .data, .sentinel, .sentinel], laidTests := true, laidLooks := .later }
def SetsynSignsCardSaid : Prop := Claim7.holds Tryd.pinned (.plain (OpenSpec.ofChange setsynSignsSpec)) setsynSignsCard

/-- THE SECOND FORM's CARD OF 'scriptlaw3.SetsynTurns'. -/
def setsynTurnsUptoCard : Claim7 := { stood := { row := setsynTurnsUptoRow, standIns := [], harness := (true, "6ddab17be1bceea103db5a59f1c2e4289600ad12fce46dc09c832f77eff7cf98"), looks := true }, kinds := [], alts := [], laidByText := true, laidKinds := [.data, .data, .data, .sentinel, .sentinel], laidTests := true, laidLooks := .later }
def SetsynTurnsUptoCardSaid : Prop := Claim7.holds Tryd.pinned (.plain (OpenSpec.upto setsynTurnsSpec)) setsynTurnsUptoCard

/-- THE SECOND FORM's CARD OF 'scriptlaw3.SetsynSigns'. -/
def setsynSignsUptoCard : Claim7 := { stood := { row := setsynSignsUptoRow, standIns := [], harness := (true, "6ddab17be1bceea103db5a59f1c2e4289600ad12fce46dc09c832f77eff7cf98"), looks := true }, kinds := [], alts := [], laidByText := true, laidKinds := [.data, .data, .data, .sentinel, .sentinel], laidTests := true, laidLooks := .later }
def SetsynSignsUptoCardSaid : Prop := Claim7.holds Tryd.pinned (.plain (OpenSpec.upto setsynSignsSpec)) setsynSignsUptoCard
end Rows
end Go.Proofs.YtfldopmojjopaaaDoor
