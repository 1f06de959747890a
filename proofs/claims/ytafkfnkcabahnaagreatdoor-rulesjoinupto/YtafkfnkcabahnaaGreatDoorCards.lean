/-
  DERIVED. GIVEN WITH THE SEED: THE CARDS: each row of YtafkfnkcabahnaaGreatDoorRows.lean that lists a variable, with what it lists TIED to the program's text (the seventh form; the later family's looks); each row that meets fmt, with fmt's text TOLD by the authors' own Lean function (tested against real Go, not proved from fmt's source: count such statements apart). THE CARD IS WHAT COUNTS. Prove the row's statement (the work); the ties are given (YtafkfnkcabahnaaGreatDoorTie.lean); close each card by the builder's one call (the guide's Derived/Test/ToyasCard.lean, 'card_holds'). Laid BY PROGRAM, IN A SANDBOX (cutbox-door.mjs). By AI agents, Wed Nov 11 2026. No macro, syntax, notation, axiom, sorry.
-/
import Derived.Test.YtafkfnkcabahnaaGreatDoorRows
import GoSem.ClaimSeven
namespace Go.Proofs.YtafkfnkcabahnaaGreatDoor
namespace Rows

/-- THE TIED CARD OF 'scriptlaw5.RulesTurn'. -/
def rulesTurnCard : Claim7 := { stood := { row := rulesTurnRow, standIns := [], harness := (true, "1f37b052dbe78e4803f3c2cf2a94d64254441e30ab0909afd10de1e78497cd0e"), looks := true }, kinds := [], alts := [], laidByText := true, laidKinds := [.data, .data, .data, .sentinel, .sentinel], laidTests := true, laidLooks := .later }
def RulesTurnCardSaid : Prop := Claim7.holds Tryz.pinned (.plain (OpenSpec.ofChange rulesTurnSpec)) rulesTurnCard

/-- THE TIED CARD OF 'scriptlaw5.RulesJoin'. -/
def rulesJoinCard : Claim7 := { stood := { row := rulesJoinRow, standIns := [], harness := (true, "1f37b052dbe78e4803f3c2cf2a94d64254441e30ab0909afd10de1e78497cd0e"), looks := true }, kinds := [], alts := [], laidByText := true, laidKinds := [.data, .data, .data, .sentinel, .sentinel], laidTests := true, laidLooks := .later }
def RulesJoinCardSaid : Prop := Claim7.holds Tryz.pinned (.plain (OpenSpec.ofChange rulesJoinSpec)) rulesJoinCard

/-- THE SECOND FORM's CARD OF 'scriptlaw5.RulesTurn'. -/
def rulesTurnUptoCard : Claim7 := { stood := { row := rulesTurnUptoRow, standIns := [], harness := (true, "1f37b052dbe78e4803f3c2cf2a94d64254441e30ab0909afd10de1e78497cd0e"), looks := true }, kinds := [], alts := [], laidByText := true, laidKinds := [.data, .data, .data, .sentinel, .sentinel], laidTests := true, laidLooks := .later }
def RulesTurnUptoCardSaid : Prop := Claim7.holds Tryz.pinned (.plain (OpenSpec.upto rulesTurnSpec)) rulesTurnUptoCard

/-- THE SECOND FORM's CARD OF 'scriptlaw5.RulesJoin'. -/
def rulesJoinUptoCard : Claim7 := { stood := { row := rulesJoinUptoRow, standIns := [], harness := (true, "1f37b052dbe78e4803f3c2cf2a94d64254441e30ab0909afd10de1e78497cd0e"), looks := true }, kinds := [], alts := [], laidByText := true, laidKinds := [.data, .data, .data, .sentinel, .sentinel], laidTests := true, laidLooks := .later }
def RulesJoinUptoCardSaid : Prop := Claim7.holds Tryz.pinned (.plain (OpenSpec.upto rulesJoinSpec)) rulesJoinUptoCard
end Rows
end Go.Proofs.YtafkfnkcabahnaaGreatDoor
