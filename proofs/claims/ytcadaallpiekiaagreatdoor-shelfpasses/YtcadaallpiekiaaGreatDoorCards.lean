/-
  DERIVED. GIVEN WITH THE SEED: THE CARDS: each row of YtcadaallpiekiaaGreatDoorRows.lean that lists a variable, with what it lists TIED to the program's text (the seventh form; the later family's looks); each row that meets fmt, with fmt's text TOLD by the authors' own Lean function (tested against real Go, not proved from fmt's source: count such statements apart). THE CARD IS WHAT COUNTS. Prove the row's statement (the work); the ties are given (YtcadaallpiekiaaGreatDoorTie.lean); close each card by the builder's one call (the guide's Derived/Test/ToyasCard.lean, 'card_holds'). Laid BY PROGRAM, IN A SANDBOX (cutbox-door.mjs). By AI agents, Wed Nov 11 2026. No macro, syntax, notation, axiom, sorry.
-/
import Derived.Test.YtcadaallpiekiaaGreatDoorRows
import GoSem.ClaimSeven
namespace Go.Proofs.YtcadaallpiekiaaGreatDoor
namespace Rows

/-- THE TIED CARD OF 'scriptlaw16.ShelfTells'. -/
def shelfTellsCard : Claim7 := { stood := { row := shelfTellsRow, standIns := [], harness := (true, "82969de379bf0339b5d9535c10d04f3681280de3fd2288fd7f3101ee9b39b184"), looks := true }, kinds := [], alts := [], laidByText := true, laidKinds := [.data, .data, .data, .sentinel, .sentinel], laidTests := true, laidLooks := .later }
def ShelfTellsCardSaid : Prop := Claim7.holds Tryz.pinned (.plain (OpenSpec.ofChange shelfTellsSpec)) shelfTellsCard

/-- THE TIED CARD OF 'scriptlaw16.ShelfPasses'. -/
def shelfPassesCard : Claim7 := { stood := { row := shelfPassesRow, standIns := [], harness := (true, "82969de379bf0339b5d9535c10d04f3681280de3fd2288fd7f3101ee9b39b184"), looks := true }, kinds := [], alts := [], laidByText := true, laidKinds := [.data, .data, .data, .sentinel, .sentinel], laidTests := true, laidLooks := .later }
def ShelfPassesCardSaid : Prop := Claim7.holds Tryz.pinned (.plain (OpenSpec.ofChange shelfPassesSpec)) shelfPassesCard

/-- THE SECOND FORM's CARD OF 'scriptlaw16.ShelfTells'. -/
def shelfTellsUptoCard : Claim7 := { stood := { row := shelfTellsUptoRow, standIns := [], harness := (true, "82969de379bf0339b5d9535c10d04f3681280de3fd2288fd7f3101ee9b39b184"), looks := true }, kinds := [], alts := [], laidByText := true, laidKinds := [.data, .data, .data, .sentinel, .sentinel], laidTests := true, laidLooks := .later }
def ShelfTellsUptoCardSaid : Prop := Claim7.holds Tryz.pinned (.plain (OpenSpec.upto shelfTellsSpec)) shelfTellsUptoCard

/-- THE SECOND FORM's CARD OF 'scriptlaw16.ShelfPasses'. -/
def shelfPassesUptoCard : Claim7 := { stood := { row := shelfPassesUptoRow, standIns := [], harness := (true, "82969de379bf0339b5d9535c10d04f3681280de3fd2288fd7f3101ee9b39b184"), looks := true }, kinds := [], alts := [], laidByText := true, laidKinds := [.data, .data, .data, .sentinel, .sentinel], laidTests := true, laidLooks := .later }
def ShelfPassesUptoCardSaid : Prop := Claim7.holds Tryz.pinned (.plain (OpenSpec.upto shelfPassesSpec)) shelfPassesUptoCard
end Rows
end Go.Proofs.YtcadaallpiekiaaGreatDoor
