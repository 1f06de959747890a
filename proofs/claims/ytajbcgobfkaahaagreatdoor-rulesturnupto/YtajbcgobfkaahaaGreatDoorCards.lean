/-
  DERIVED. GIVEN WITH THE SEED: THE CARDS: each row of YtajbcgobfkaahaaGreatDoorRows.lean that lists a variable, with what it lists TIED to the program's text (the seventh form; the later family's looks); each row that meets fmt, with fmt's text TOLD by the authors' own Lean function (tested against real Go, not proved from fmt's source: count such statements apart). THE CARD IS WHAT COUNTS. Prove the row's statement (the work); the ties are given (YtajbcgobfkaahaaGreatDoorTie.lean); close each card by the builder's one call (the guide's Derived/Test/ToyasCard.lean, 'card_holds'). Laid BY PROGRAM, IN A SANDBOX (cutbox-door.mjs). By AI agents, Wed Nov 11 2026. No macro, syntax, notation, axiom, sorry.
-/
import Derived.Test.YtajbcgobfkaahaaGreatDoorRows
import GoSem.ClaimSeven
namespace Go.Proofs.YtajbcgobfkaahaaGreatDoor
namespace Rows

/-- THE TIED CARD OF 'scriptlaw5.RulesTurn'. -/
def rulesTurnCard : Claim7 := { stood := { row := rulesTurnRow, standIns := [], harness := (true, "403d7e71843ad53a9b83c80c0958976d134e99cefc9e4410556fbb754b140559"), looks := true }, kinds := [], alts := [], laidByText := true, laidKinds := [.data, .data, .data, .sentinel, .sentinel], laidTests := true, laidLooks := .later }
def RulesTurnCardSaid : Prop := Claim7.holds Tryz.pinned (.plain (OpenSpec.ofChange rulesTurnSpec)) rulesTurnCard

/-- THE TIED CARD OF 'scriptlaw5.RulesJoin'. -/
def rulesJoinCard : Claim7 := { stood := { row := rulesJoinRow, standIns := [], harness := (true, "403d7e71843ad53a9b83c80c0958976d134e99cefc9e4410556fbb754b140559"), looks := true }, kinds := [], alts := [], laidByText := true, laidKinds := [.data, .data, .data, .sentinel, .sentinel], laidTests := true, laidLooks := .later }
def RulesJoinCardSaid : Prop := Claim7.holds Tryz.pinned (.plain (OpenSpec.ofChange rulesJoinSpec)) rulesJoinCard

/-- THE TIED CARD OF 'scriptlaw6.ResolveWritten'. -/
def resolveWrittenCard : Claim7 := { stood := { row := resolveWrittenRow, standIns := [], harness := (true, "403d7e71843ad53a9b83c80c0958976d134e99cefc9e4410556fbb754b140559"), looks := true }, kinds := [], alts := [], laidByText := true, laidKinds := [.data, .data, .data, .sentinel, .sentinel], laidTests := true, laidLooks := .later }
def ResolveWrittenCardSaid : Prop := Claim7.holds Tryz.pinned (.plain (OpenSpec.ofChange resolveWrittenSpec)) resolveWrittenCard

/-- THE SECOND FORM's CARD OF 'scriptlaw5.RulesTurn'. -/
def rulesTurnUptoCard : Claim7 := { stood := { row := rulesTurnUptoRow, standIns := [], harness := (true, "403d7e71843ad53a9b83c80c0958976d134e99cefc9e4410556fbb754b140559"), looks := true }, kinds := [], alts := [], laidByText := true, laidKinds := [.data, .data, .data, .sentinel, .sentinel], laidTests := true, laidLooks := .later }
def RulesTurnUptoCardSaid : Prop := Claim7.holds Tryz.pinned (.plain (OpenSpec.upto rulesTurnSpec)) rulesTurnUptoCard

/-- THE SECOND FORM's CARD OF 'scriptlaw5.RulesJoin'. -/
def rulesJoinUptoCard : Claim7 := { stood := { row := rulesJoinUptoRow, standIns := [], harness := (true, "403d7e71843ad53a9b83c80c0958976d134e99cefc9e4410556fbb754b140559"), looks := true }, kinds := [], alts := [], laidByText := true, laidKinds := [.data, .data, .data, .sentinel, .sentinel], laidTests := true, laidLooks := .later }
def RulesJoinUptoCardSaid : Prop := Claim7.holds Tryz.pinned (.plain (OpenSpec.upto rulesJoinSpec)) rulesJoinUptoCard

/-- THE SECOND FORM's CARD OF 'scriptlaw6.ResolveWritten'. -/
def resolveWrittenUptoCard : Claim7 := { stood := { row := resolveWrittenUptoRow, standIns := [], harness := (true, "403d7e71843ad53a9b83c80c0958976d134e99cefc9e4410556fbb754b140559"), looks := true }, kinds := [], alts := [], laidByText := true, laidKinds := [.data, .data, .data, .sentinel, .sentinel], laidTests := true, laidLooks := .later }
def ResolveWrittenUptoCardSaid : Prop := Claim7.holds Tryz.pinned (.plain (OpenSpec.upto resolveWrittenSpec)) resolveWrittenUptoCard
end Rows
end Go.Proofs.YtajbcgobfkaahaaGreatDoor
