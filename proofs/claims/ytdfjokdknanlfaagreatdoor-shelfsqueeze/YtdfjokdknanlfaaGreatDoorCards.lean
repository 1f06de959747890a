/-
  DERIVED. GIVEN WITH THE SEED: THE CARDS: each row of YtdfjokdknanlfaaGreatDoorRows.lean that lists a variable, with what it lists TIED to the program's text (the seventh form; the later family's looks); each row that meets fmt, with fmt's text TOLD by the authors' own Lean function (tested against real Go, not proved from fmt's source: count such statements apart). THE CARD IS WHAT COUNTS. Prove the row's statement (the work); the ties are given (YtdfjokdknanlfaaGreatDoorTie.lean); close each card by the builder's one call (the guide's Derived/Test/ToyasCard.lean, 'card_holds'). Laid BY PROGRAM, IN A SANDBOX (cutbox-door.mjs). By AI agents, Wed Nov 11 2026. No macro, syntax, notation, axiom, sorry.
-/
import Derived.Test.YtdfjokdknanlfaaGreatDoorRows
import GoSem.ClaimSeven
namespace Go.Proofs.YtdfjokdknanlfaaGreatDoor
namespace Rows

/-- THE TIED CARD OF 'scriptlaw16.ShelfBlanks'. -/
def shelfBlanksCard : Claim7 := { stood := { row := shelfBlanksRow, standIns := [], harness := (true, "1b9b8385001b332763675d7d7e96ec4cead4e33d490e931f58d009f158c316a1"), looks := true }, kinds := [], alts := [], laidByText := true, laidKinds := [.data, .data, .data, .sentinel, .sentinel], laidTests := true, laidLooks := .later }
def ShelfBlanksCardSaid : Prop := Claim7.holds Tryz.pinned (.plain (OpenSpec.ofChange shelfBlanksSpec)) shelfBlanksCard

/-- THE TIED CARD OF 'scriptlaw16.ShelfEdges'. -/
def shelfEdgesCard : Claim7 := { stood := { row := shelfEdgesRow, standIns := [], harness := (true, "1b9b8385001b332763675d7d7e96ec4cead4e33d490e931f58d009f158c316a1"), looks := true }, kinds := [], alts := [], laidByText := true, laidKinds := [.data, .data, .data, .sentinel, .sentinel], laidTests := true, laidLooks := .later }
def ShelfEdgesCardSaid : Prop := Claim7.holds Tryz.pinned (.plain (OpenSpec.ofChange shelfEdgesSpec)) shelfEdgesCard

/-- THE TIED CARD OF 'scriptlaw16.ShelfSigma'. -/
def shelfSigmaCard : Claim7 := { stood := { row := shelfSigmaRow, standIns := [], harness := (true, "1b9b8385001b332763675d7d7e96ec4cead4e33d490e931f58d009f158c316a1"), looks := true }, kinds := [], alts := [], laidByText := true, laidKinds := [.data, .data, .data, .sentinel, .sentinel], laidTests := true, laidLooks := .later }
def ShelfSigmaCardSaid : Prop := Claim7.holds Tryz.pinned (.plain (OpenSpec.ofChange shelfSigmaSpec)) shelfSigmaCard

/-- THE TIED CARD OF 'scriptlaw16.ShelfSqueeze'. -/
def shelfSqueezeCard : Claim7 := { stood := { row := shelfSqueezeRow, standIns := [], harness := (true, "1b9b8385001b332763675d7d7e96ec4cead4e33d490e931f58d009f158c316a1"), looks := true }, kinds := [], alts := [], laidByText := true, laidKinds := [.data, .data, .data, .sentinel, .sentinel], laidTests := true, laidLooks := .later }
def ShelfSqueezeCardSaid : Prop := Claim7.holds Tryz.pinned (.plain (OpenSpec.ofChange shelfSqueezeSpec)) shelfSqueezeCard

/-- THE TIED CARD OF 'scriptlaw16.ShelfDots'. -/
def shelfDotsCard : Claim7 := { stood := { row := shelfDotsRow, standIns := [], harness := (true, "1b9b8385001b332763675d7d7e96ec4cead4e33d490e931f58d009f158c316a1"), looks := true }, kinds := [], alts := [], laidByText := true, laidKinds := [.data, .data, .data, .sentinel, .sentinel], laidTests := true, laidLooks := .later }
def ShelfDotsCardSaid : Prop := Claim7.holds Tryz.pinned (.plain (OpenSpec.ofChange shelfDotsSpec)) shelfDotsCard

/-- THE TIED CARD OF 'scriptlaw16.ShelfQuotes'. -/
def shelfQuotesCard : Claim7 := { stood := { row := shelfQuotesRow, standIns := [], harness := (true, "1b9b8385001b332763675d7d7e96ec4cead4e33d490e931f58d009f158c316a1"), looks := true }, kinds := [], alts := [], laidByText := true, laidKinds := [.data, .data, .data, .sentinel, .sentinel], laidTests := true, laidLooks := .later }
def ShelfQuotesCardSaid : Prop := Claim7.holds Tryz.pinned (.plain (OpenSpec.ofChange shelfQuotesSpec)) shelfQuotesCard

/-- THE SECOND FORM's CARD OF 'scriptlaw16.ShelfBlanks'. -/
def shelfBlanksUptoCard : Claim7 := { stood := { row := shelfBlanksUptoRow, standIns := [], harness := (true, "1b9b8385001b332763675d7d7e96ec4cead4e33d490e931f58d009f158c316a1"), looks := true }, kinds := [], alts := [], laidByText := true, laidKinds := [.data, .data, .data, .sentinel, .sentinel], laidTests := true, laidLooks := .later }
def ShelfBlanksUptoCardSaid : Prop := Claim7.holds Tryz.pinned (.plain (OpenSpec.upto shelfBlanksSpec)) shelfBlanksUptoCard

/-- THE SECOND FORM's CARD OF 'scriptlaw16.ShelfEdges'. -/
def shelfEdgesUptoCard : Claim7 := { stood := { row := shelfEdgesUptoRow, standIns := [], harness := (true, "1b9b8385001b332763675d7d7e96ec4cead4e33d490e931f58d009f158c316a1"), looks := true }, kinds := [], alts := [], laidByText := true, laidKinds := [.data, .data, .data, .sentinel, .sentinel], laidTests := true, laidLooks := .later }
def ShelfEdgesUptoCardSaid : Prop := Claim7.holds Tryz.pinned (.plain (OpenSpec.upto shelfEdgesSpec)) shelfEdgesUptoCard

/-- THE SECOND FORM's CARD OF 'scriptlaw16.ShelfSigma'. -/
def shelfSigmaUptoCard : Claim7 := { stood := { row := shelfSigmaUptoRow, standIns := [], harness := (true, "1b9b8385001b332763675d7d7e96ec4cead4e33d490e931f58d009f158c316a1"), looks := true }, kinds := [], alts := [], laidByText := true, laidKinds := [.data, .data, .data, .sentinel, .sentinel], laidTests := true, laidLooks := .later }
def ShelfSigmaUptoCardSaid : Prop := Claim7.holds Tryz.pinned (.plain (OpenSpec.upto shelfSigmaSpec)) shelfSigmaUptoCard

/-- THE SECOND FORM's CARD OF 'scriptlaw16.ShelfSqueeze'. -/
def shelfSqueezeUptoCard : Claim7 := { stood := { row := shelfSqueezeUptoRow, standIns := [], harness := (true, "1b9b8385001b332763675d7d7e96ec4cead4e33d490e931f58d009f158c316a1"), looks := true }, kinds := [], alts := [], laidByText := true, laidKinds := [.data, .data, .data, .sentinel, .sentinel], laidTests := true, laidLooks := .later }
def ShelfSqueezeUptoCardSaid : Prop := Claim7.holds Tryz.pinned (.plain (OpenSpec.upto shelfSqueezeSpec)) shelfSqueezeUptoCard

/-- THE SECOND FORM's CARD OF 'scriptlaw16.ShelfDots'. -/
def shelfDotsUptoCard : Claim7 := { stood := { row := shelfDotsUptoRow, standIns := [], harness := (true, "1b9b8385001b332763675d7d7e96ec4cead4e33d490e931f58d009f158c316a1"), looks := true }, kinds := [], alts := [], laidByText := true, laidKinds := [.data, .data, .data, .sentinel, .sentinel], laidTests := true, laidLooks := .later }
def ShelfDotsUptoCardSaid : Prop := Claim7.holds Tryz.pinned (.plain (OpenSpec.upto shelfDotsSpec)) shelfDotsUptoCard

/-- THE SECOND FORM's CARD OF 'scriptlaw16.ShelfQuotes'. -/
def shelfQuotesUptoCard : Claim7 := { stood := { row := shelfQuotesUptoRow, standIns := [], harness := (true, "1b9b8385001b332763675d7d7e96ec4cead4e33d490e931f58d009f158c316a1"), looks := true }, kinds := [], alts := [], laidByText := true, laidKinds := [.data, .data, .data, .sentinel, .sentinel], laidTests := true, laidLooks := .later }
def ShelfQuotesUptoCardSaid : Prop := Claim7.holds Tryz.pinned (.plain (OpenSpec.upto shelfQuotesSpec)) shelfQuotesUptoCard
end Rows
end Go.Proofs.YtdfjokdknanlfaaGreatDoor
