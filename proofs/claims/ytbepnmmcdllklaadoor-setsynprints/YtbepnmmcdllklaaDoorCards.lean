/-
  DERIVED. GIVEN WITH THE SEED: THE CARDS: each row of YtbepnmmcdllklaaDoorRows.lean that lists a variable, with what it lists TIED to the program's text (the seventh form; the later family's looks); each row that meets fmt, with fmt's text TOLD by the authors' own Lean function (tested against real Go, not proved from fmt's source: count such statements apart). THE CARD IS WHAT COUNTS. Prove the row's statement (the work); the ties are given (YtbepnmmcdllklaaDoorTie.lean); close each card by the builder's one call (the guide's Derived/Test/ToyasCard.lean, 'card_holds'). Laid BY PROGRAM, IN A SANDBOX (cutbox-door.mjs). By AI agents, Wed Nov 11 2026. No macro, syntax, notation, axiom, sorry.
-/
import Derived.Test.YtbepnmmcdllklaaDoorRows
import GoSem.ClaimSeven
namespace Go.Proofs.YtbepnmmcdllklaaDoor
namespace Rows

/-- THE TIED CARD OF 'scriptlaw3.SetsynPrints'. -/
def setsynPrintsCard : Claim7 := { stood := { row := setsynPrintsRow, standIns := [], harness := (true, "5ac7d66018efd002e0c77aeca426301b3c3d861563c89ef01dadc727fb53fd7d"), looks := true }, kinds := [], alts := [], laidByText := true, laidKinds := [.data, .data, .data], laidTests := true, laidLooks := .later }
def SetsynPrintsCardSaid : Prop := Claim7.holds Tryd.pinned (.plain (OpenSpec.ofChange setsynPrintsSpec)) setsynPrintsCard

/-- THE TIED CARD OF 'scriptlaw3.SetsynTurns'. -/
def setsynTurnsCard : Claim7 := { stood := { row := setsynTurnsRow, standIns := [], harness := (true, "5ac7d66018efd002e0c77aeca426301b3c3d861563c89ef01dadc727fb53fd7d"), looks := true }, kinds := [], alts := [], laidByText := true, laidKinds := [.data, .data, .data, .sentinel, .sentinel], laidTests := true, laidLooks := .later }
def SetsynTurnsCardSaid : Prop := Claim7.holds Tryd.pinned (.plain (OpenSpec.ofChange setsynTurnsSpec)) setsynTurnsCard

/-- THE TIED CARD OF 'scriptlaw3.SetsynSigns'. -/
def setsynSignsCard : Claim7 := { stood := { row := setsynSignsRow, standIns := [], harness := (true, "5ac7d66018efd002e0c77aeca426301b3c3d861563c89ef01dadc727fb53fd7d"), looks := true }, kinds := [], alts := [], laidByText := true, laidKinds := [.data, .data, .data, .sentinel, .sentinel], laidTests := true, laidLooks := .later }
def SetsynSignsCardSaid : Prop := Claim7.holds Tryd.pinned (.plain (OpenSpec.ofChange setsynSignsSpec)) setsynSignsCard

/-- THE TIED CARD OF 'scriptlaw5.RulesPrint'. -/
def rulesPrintCard : Claim7 := { stood := { row := rulesPrintRow, standIns := [], harness := (true, "5ac7d66018efd002e0c77aeca426301b3c3d861563c89ef01dadc727fb53fd7d"), looks := true }, kinds := [], alts := [], laidByText := true, laidKinds := [.data, .data, .data], laidTests := true, laidLooks := .later }
def RulesPrintCardSaid : Prop := Claim7.holds Tryd.pinned (.plain (OpenSpec.ofChange rulesPrintSpec)) rulesPrintCard

/-- THE SECOND FORM's CARD OF 'scriptlaw3.SetsynPrints'. -/
def setsynPrintsUptoCard : Claim7 := { stood := { row := setsynPrintsUptoRow, standIns := [], harness := (true, "5ac7d66018efd002e0c77aeca426301b3c3d861563c89ef01dadc727fb53fd7d"), looks := true }, kinds := [], alts := [], laidByText := true, laidKinds := [.data, .data, .data], laidTests := true, laidLooks := .later }
def SetsynPrintsUptoCardSaid : Prop := Claim7.holds Tryd.pinned (.plain (OpenSpec.upto setsynPrintsSpec)) setsynPrintsUptoCard

/-- THE SECOND FORM's CARD OF 'scriptlaw3.SetsynTurns'. -/
def setsynTurnsUptoCard : Claim7 := { stood := { row := setsynTurnsUptoRow, standIns := [], harness := (true, "5ac7d66018efd002e0c77aeca426301b3c3d861563c89ef01dadc727fb53fd7d"), looks := true }, kinds := [], alts := [], laidByText := true, laidKinds := [.data, .data, .data, .sentinel, .sentinel], laidTests := true, laidLooks := .later }
def SetsynTurnsUptoCardSaid : Prop := Claim7.holds Tryd.pinned (.plain (OpenSpec.upto setsynTurnsSpec)) setsynTurnsUptoCard

/-- THE SECOND FORM's CARD OF 'scriptlaw3.SetsynSigns'. -/
def setsynSignsUptoCard : Claim7 := { stood := { row := setsynSignsUptoRow, standIns := [], harness := (true, "5ac7d66018efd002e0c77aeca426301b3c3d861563c89ef01dadc727fb53fd7d"), looks := true }, kinds := [], alts := [], laidByText := true, laidKinds := [.data, .data, .data, .sentinel, .sentinel], laidTests := true, laidLooks := .later }
def SetsynSignsUptoCardSaid : Prop := Claim7.holds Tryd.pinned (.plain (OpenSpec.upto setsynSignsSpec)) setsynSignsUptoCard

/-- THE SECOND FORM's CARD OF 'scriptlaw5.RulesPrint'. -/
def rulesPrintUptoCard : Claim7 := { stood := { row := rulesPrintUptoRow, standIns := [], harness := (true, "5ac7d66018efd002e0c77aeca426301b3c3d861563c89ef01dadc727fb53fd7d"), looks := true }, kinds := [], alts := [], laidByText := true, laidKinds := [.data, .data, .data], laidTests := true, laidLooks := .later }
def RulesPrintUptoCardSaid : Prop := Claim7.holds Tryd.pinned (.plain (OpenSpec.upto rulesPrintSpec)) rulesPrintUptoCard
end Rows
end Go.Proofs.YtbepnmmcdllklaaDoor
