/-
  DERIVED. GIVEN WITH THE SEED: THE CARDS: each row of YtgbhkkojkpndmaaGreatDoorRows.lean that lists a variable, with what it lists TIED to the program's text (the seventh form; the later family's looks); each row that meets fmt, with fmt's text TOLD by the authors' own Lean function (tested against real Go, not proved from fmt's source: count such statements apart). THE CARD IS WHAT COUNTS. Prove the row's statement (the work); the ties are given (YtgbhkkojkpndmaaGreatDoorTie.lean); close each card by the builder's one call (the guide's Derived/Test/ToyasCard.lean, 'card_holds'). Laid BY PROGRAM, IN A SANDBOX (cutbox-door.mjs). By AI agents, Wed Nov 11 2026. No macro, syntax, notation, axiom, sorry.
-/
import Derived.Test.YtgbhkkojkpndmaaGreatDoorRows
import GoSem.ClaimSeven
namespace Go.Proofs.YtgbhkkojkpndmaaGreatDoor
namespace Rows

/-- THE TIED CARD OF 'scriptlaw16.ShelfGerman'. -/
def shelfGermanCard : Claim7 := { stood := { row := shelfGermanRow, standIns := [], harness := (true, "b8c11912f42e2f5caedd8771b66416403d5f3147056635a7315054b0e4aaf269"), looks := true }, kinds := [], alts := [], laidByText := true, laidKinds := [.data, .data, .data, .sentinel, .sentinel], laidTests := true, laidLooks := .later }
def ShelfGermanCardSaid : Prop := Claim7.holds Tryz.pinned (.plain (OpenSpec.ofChange shelfGermanSpec)) shelfGermanCard

/-- THE TIED CARD OF 'scriptlaw16.ShelfLeet'. -/
def shelfLeetCard : Claim7 := { stood := { row := shelfLeetRow, standIns := [], harness := (true, "b8c11912f42e2f5caedd8771b66416403d5f3147056635a7315054b0e4aaf269"), looks := true }, kinds := [], alts := [], laidByText := true, laidKinds := [.data, .data, .data, .sentinel, .sentinel], laidTests := true, laidLooks := .later }
def ShelfLeetCardSaid : Prop := Claim7.holds Tryz.pinned (.plain (OpenSpec.ofChange shelfLeetSpec)) shelfLeetCard

/-- THE TIED CARD OF 'scriptlaw16.ShelfSigns'. -/
def shelfSignsCard : Claim7 := { stood := { row := shelfSignsRow, standIns := [], harness := (true, "b8c11912f42e2f5caedd8771b66416403d5f3147056635a7315054b0e4aaf269"), looks := true }, kinds := [], alts := [], laidByText := true, laidKinds := [.data, .data, .data, .sentinel, .sentinel], laidTests := true, laidLooks := .later }
def ShelfSignsCardSaid : Prop := Claim7.holds Tryz.pinned (.plain (OpenSpec.ofChange shelfSignsSpec)) shelfSignsCard

/-- THE TIED CARD OF 'scriptlaw16.ShelfTelex'. -/
def shelfTelexCard : Claim7 := { stood := { row := shelfTelexRow, standIns := [], harness := (true, "b8c11912f42e2f5caedd8771b66416403d5f3147056635a7315054b0e4aaf269"), looks := true }, kinds := [], alts := [], laidByText := true, laidKinds := [.data, .data, .data, .sentinel, .sentinel], laidTests := true, laidLooks := .later }
def ShelfTelexCardSaid : Prop := Claim7.holds Tryz.pinned (.plain (OpenSpec.ofChange shelfTelexSpec)) shelfTelexCard

/-- THE TIED CARD OF 'scriptlaw16.ShelfRovar'. -/
def shelfRovarCard : Claim7 := { stood := { row := shelfRovarRow, standIns := [], harness := (true, "b8c11912f42e2f5caedd8771b66416403d5f3147056635a7315054b0e4aaf269"), looks := true }, kinds := [], alts := [], laidByText := true, laidKinds := [.data, .data, .data, .sentinel, .sentinel], laidTests := true, laidLooks := .later }
def ShelfRovarCardSaid : Prop := Claim7.holds Tryz.pinned (.plain (OpenSpec.ofChange shelfRovarSpec)) shelfRovarCard

/-- THE TIED CARD OF 'scriptlaw16.ShelfVowels'. -/
def shelfVowelsCard : Claim7 := { stood := { row := shelfVowelsRow, standIns := [], harness := (true, "b8c11912f42e2f5caedd8771b66416403d5f3147056635a7315054b0e4aaf269"), looks := true }, kinds := [], alts := [], laidByText := true, laidKinds := [.data, .data, .data, .sentinel, .sentinel], laidTests := true, laidLooks := .later }
def ShelfVowelsCardSaid : Prop := Claim7.holds Tryz.pinned (.plain (OpenSpec.ofChange shelfVowelsSpec)) shelfVowelsCard

/-- THE SECOND FORM's CARD OF 'scriptlaw16.ShelfGerman'. -/
def shelfGermanUptoCard : Claim7 := { stood := { row := shelfGermanUptoRow, standIns := [], harness := (true, "b8c11912f42e2f5caedd8771b66416403d5f3147056635a7315054b0e4aaf269"), looks := true }, kinds := [], alts := [], laidByText := true, laidKinds := [.data, .data, .data, .sentinel, .sentinel], laidTests := true, laidLooks := .later }
def ShelfGermanUptoCardSaid : Prop := Claim7.holds Tryz.pinned (.plain (OpenSpec.upto shelfGermanSpec)) shelfGermanUptoCard

/-- THE SECOND FORM's CARD OF 'scriptlaw16.ShelfLeet'. -/
def shelfLeetUptoCard : Claim7 := { stood := { row := shelfLeetUptoRow, standIns := [], harness := (true, "b8c11912f42e2f5caedd8771b66416403d5f3147056635a7315054b0e4aaf269"), looks := true }, kinds := [], alts := [], laidByText := true, laidKinds := [.data, .data, .data, .sentinel, .sentinel], laidTests := true, laidLooks := .later }
def ShelfLeetUptoCardSaid : Prop := Claim7.holds Tryz.pinned (.plain (OpenSpec.upto shelfLeetSpec)) shelfLeetUptoCard

/-- THE SECOND FORM's CARD OF 'scriptlaw16.ShelfSigns'. -/
def shelfSignsUptoCard : Claim7 := { stood := { row := shelfSignsUptoRow, standIns := [], harness := (true, "b8c11912f42e2f5caedd8771b66416403d5f3147056635a7315054b0e4aaf269"), looks := true }, kinds := [], alts := [], laidByText := true, laidKinds := [.data, .data, .data, .sentinel, .sentinel], laidTests := true, laidLooks := .later }
def ShelfSignsUptoCardSaid : Prop := Claim7.holds Tryz.pinned (.plain (OpenSpec.upto shelfSignsSpec)) shelfSignsUptoCard

/-- THE SECOND FORM's CARD OF 'scriptlaw16.ShelfTelex'. -/
def shelfTelexUptoCard : Claim7 := { stood := { row := shelfTelexUptoRow, standIns := [], harness := (true, "b8c11912f42e2f5caedd8771b66416403d5f3147056635a7315054b0e4aaf269"), looks := true }, kinds := [], alts := [], laidByText := true, laidKinds := [.data, .data, .data, .sentinel, .sentinel], laidTests := true, laidLooks := .later }
def ShelfTelexUptoCardSaid : Prop := Claim7.holds Tryz.pinned (.plain (OpenSpec.upto shelfTelexSpec)) shelfTelexUptoCard

/-- THE SECOND FORM's CARD OF 'scriptlaw16.ShelfRovar'. -/
def shelfRovarUptoCard : Claim7 := { stood := { row := shelfRovarUptoRow, standIns := [], harness := (true, "b8c11912f42e2f5caedd8771b66416403d5f3147056635a7315054b0e4aaf269"), looks := true }, kinds := [], alts := [], laidByText := true, laidKinds := [.data, .data, .data, .sentinel, .sentinel], laidTests := true, laidLooks := .later }
def ShelfRovarUptoCardSaid : Prop := Claim7.holds Tryz.pinned (.plain (OpenSpec.upto shelfRovarSpec)) shelfRovarUptoCard

/-- THE SECOND FORM's CARD OF 'scriptlaw16.ShelfVowels'. -/
def shelfVowelsUptoCard : Claim7 := { stood := { row := shelfVowelsUptoRow, standIns := [], harness := (true, "b8c11912f42e2f5caedd8771b66416403d5f3147056635a7315054b0e4aaf269"), looks := true }, kinds := [], alts := [], laidByText := true, laidKinds := [.data, .data, .data, .sentinel, .sentinel], laidTests := true, laidLooks := .later }
def ShelfVowelsUptoCardSaid : Prop := Claim7.holds Tryz.pinned (.plain (OpenSpec.upto shelfVowelsSpec)) shelfVowelsUptoCard
end Rows
end Go.Proofs.YtgbhkkojkpndmaaGreatDoor
