/-
  DERIVED. GIVEN WITH THE SEED: THE CARDS: each row of YteagjpnbiceafaaGreatDoorRows.lean that lists a variable, with what it lists TIED to the program's text (the seventh form; the later family's looks); each row that meets fmt, with fmt's text TOLD by the authors' own Lean function (tested against real Go, not proved from fmt's source: count such statements apart). THE CARD IS WHAT COUNTS. Prove the row's statement (the work); the ties are given (YteagjpnbiceafaaGreatDoorTie.lean); close each card by the builder's one call (the guide's Derived/Test/ToyasCard.lean, 'card_holds'). Laid BY PROGRAM, IN A SANDBOX (cutbox-door.mjs). By AI agents, Wed Nov 11 2026. No macro, syntax, notation, axiom, sorry.
-/
import Derived.Test.YteagjpnbiceafaaGreatDoorRows
import GoSem.ClaimSeven
namespace Go.Proofs.YteagjpnbiceafaaGreatDoor
namespace Rows

/-- THE TIED CARD OF 'scriptlaw16.ShelfTells'. -/
def shelfTellsCard : Claim7 := { stood := { row := shelfTellsRow, standIns := [], harness := (true, "508741146dfee3323b087444c806c5efc4a6cc1305089c6742fbde24b2cb0411"), looks := true }, kinds := [], alts := [], laidByText := true, laidKinds := [.data, .data, .data, .sentinel, .sentinel], laidTests := true, laidLooks := .later }
def ShelfTellsCardSaid : Prop := Claim7.holds Tryz.pinned (.plain (OpenSpec.ofChange shelfTellsSpec)) shelfTellsCard

/-- THE TIED CARD OF 'scriptlaw16.ShelfPasses'. -/
def shelfPassesCard : Claim7 := { stood := { row := shelfPassesRow, standIns := [], harness := (true, "508741146dfee3323b087444c806c5efc4a6cc1305089c6742fbde24b2cb0411"), looks := true }, kinds := [], alts := [], laidByText := true, laidKinds := [.data, .data, .data, .sentinel, .sentinel], laidTests := true, laidLooks := .later }
def ShelfPassesCardSaid : Prop := Claim7.holds Tryz.pinned (.plain (OpenSpec.ofChange shelfPassesSpec)) shelfPassesCard

/-- THE TIED CARD OF 'scriptlaw16.ShelfMorse'. -/
def shelfMorseCard : Claim7 := { stood := { row := shelfMorseRow, standIns := [], harness := (true, "508741146dfee3323b087444c806c5efc4a6cc1305089c6742fbde24b2cb0411"), looks := true }, kinds := [], alts := [], laidByText := true, laidKinds := [.data, .data, .data, .sentinel, .sentinel], laidTests := true, laidLooks := .later }
def ShelfMorseCardSaid : Prop := Claim7.holds Tryz.pinned (.plain (OpenSpec.ofChange shelfMorseSpec)) shelfMorseCard

/-- THE SECOND FORM's CARD OF 'scriptlaw16.ShelfTells'. -/
def shelfTellsUptoCard : Claim7 := { stood := { row := shelfTellsUptoRow, standIns := [], harness := (true, "508741146dfee3323b087444c806c5efc4a6cc1305089c6742fbde24b2cb0411"), looks := true }, kinds := [], alts := [], laidByText := true, laidKinds := [.data, .data, .data, .sentinel, .sentinel], laidTests := true, laidLooks := .later }
def ShelfTellsUptoCardSaid : Prop := Claim7.holds Tryz.pinned (.plain (OpenSpec.upto shelfTellsSpec)) shelfTellsUptoCard

/-- THE SECOND FORM's CARD OF 'scriptlaw16.ShelfPasses'. -/
def shelfPassesUptoCard : Claim7 := { stood := { row := shelfPassesUptoRow, standIns := [], harness := (true, "508741146dfee3323b087444c806c5efc4a6cc1305089c6742fbde24b2cb0411"), looks := true }, kinds := [], alts := [], laidByText := true, laidKinds := [.data, .data, .data, .sentinel, .sentinel], laidTests := true, laidLooks := .later }
def ShelfPassesUptoCardSaid : Prop := Claim7.holds Tryz.pinned (.plain (OpenSpec.upto shelfPassesSpec)) shelfPassesUptoCard

/-- THE SECOND FORM's CARD OF 'scriptlaw16.ShelfMorse'. -/
def shelfMorseUptoCard : Claim7 := { stood := { row := shelfMorseUptoRow, standIns := [], harness := (true, "508741146dfee3323b087444c806c5efc4a6cc1305089c6742fbde24b2cb0411"), looks := true }, kinds := [], alts := [], laidByText := true, laidKinds := [.data, .data, .data, .sentinel, .sentinel], laidTests := true, laidLooks := .later }
def ShelfMorseUptoCardSaid : Prop := Claim7.holds Tryz.pinned (.plain (OpenSpec.upto shelfMorseSpec)) shelfMorseUptoCard
end Rows
end Go.Proofs.YteagjpnbiceafaaGreatDoor
