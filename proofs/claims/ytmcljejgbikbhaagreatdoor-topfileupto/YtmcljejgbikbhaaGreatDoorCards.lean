/-
  DERIVED. GIVEN WITH THE SEED: THE CARDS: each row of YtmcljejgbikbhaaGreatDoorRows.lean that lists a variable, with what it lists TIED to the program's text (the seventh form; the later family's looks); each row that meets fmt, with fmt's text TOLD by the authors' own Lean function (tested against real Go, not proved from fmt's source: count such statements apart). THE CARD IS WHAT COUNTS. Prove the row's statement (the work); the ties are given (YtmcljejgbikbhaaGreatDoorTie.lean); close each card by the builder's one call (the guide's Derived/Test/ToyasCard.lean, 'card_holds'). Laid BY PROGRAM, IN A SANDBOX (cutbox-door.mjs). By AI agents, Wed Nov 11 2026. No macro, syntax, notation, axiom, sorry.
-/
import Derived.Test.YtmcljejgbikbhaaGreatDoorRows
import GoSem.ClaimSeven
namespace Go.Proofs.YtmcljejgbikbhaaGreatDoor
namespace Rows

/-- THE TIED CARD OF 'scripttop.TopFile'. -/
def topFileCard : Claim7 := { stood := { row := topFileRow, standIns := [], harness := (true, "47ef360a7b823eb2e2b585abeaa3827167cad1a9026e83cf635798bf2d677764"), looks := true }, kinds := [], alts := [], laidByText := true, laidKinds := [.data, .data, .data, .sentinel, .sentinel], laidTests := true, laidLooks := .later }
def TopFileCardSaid : Prop := Claim7.holds Tryz.pinned (.plain (OpenSpec.ofChange topFileSpec)) topFileCard

/-- THE TIED CARD OF 'scripttop.TopWritten'. -/
def topWrittenCard : Claim7 := { stood := { row := topWrittenRow, standIns := [], harness := (true, "47ef360a7b823eb2e2b585abeaa3827167cad1a9026e83cf635798bf2d677764"), looks := true }, kinds := [], alts := [], laidByText := true, laidKinds := [.data, .data, .data, .sentinel, .sentinel], laidTests := true, laidLooks := .later }
def TopWrittenCardSaid : Prop := Claim7.holds Tryz.pinned (.plain (OpenSpec.ofChange topWrittenSpec)) topWrittenCard

/-- THE TIED CARD OF 'scripttop.TopStream'. -/
def topStreamCard : Claim7 := { stood := { row := topStreamRow, standIns := [], harness := (true, "47ef360a7b823eb2e2b585abeaa3827167cad1a9026e83cf635798bf2d677764"), looks := true }, kinds := [], alts := [], laidByText := true, laidKinds := [.data, .data, .data, .sentinel, .sentinel], laidTests := true, laidLooks := .later }
def TopStreamCardSaid : Prop := Claim7.holds Tryz.pinned (.plain (OpenSpec.ofChange topStreamSpec)) topStreamCard

/-- THE TIED CARD OF 'scripttop.TopMasked'. -/
def topMaskedCard : Claim7 := { stood := { row := topMaskedRow, standIns := [], harness := (true, "47ef360a7b823eb2e2b585abeaa3827167cad1a9026e83cf635798bf2d677764"), looks := true }, kinds := [], alts := [], laidByText := true, laidKinds := [.data, .data, .data, .sentinel, .sentinel], laidTests := true, laidLooks := .later }
def TopMaskedCardSaid : Prop := Claim7.holds Tryz.pinned (.plain (OpenSpec.ofChange topMaskedSpec)) topMaskedCard

/-- THE TIED CARD OF 'scripttop.TopUntouched'. -/
def topUntouchedCard : Claim7 := { stood := { row := topUntouchedRow, standIns := [], harness := (true, "47ef360a7b823eb2e2b585abeaa3827167cad1a9026e83cf635798bf2d677764"), looks := true }, kinds := [], alts := [], laidByText := true, laidKinds := [.data, .data, .data, .sentinel, .sentinel], laidTests := true, laidLooks := .later }
def TopUntouchedCardSaid : Prop := Claim7.holds Tryz.pinned (.plain (OpenSpec.ofChange topUntouchedSpec)) topUntouchedCard

/-- THE TIED CARD OF 'scripttop.TopUndone'. -/
def topUndoneCard : Claim7 := { stood := { row := topUndoneRow, standIns := [], harness := (true, "47ef360a7b823eb2e2b585abeaa3827167cad1a9026e83cf635798bf2d677764"), looks := true }, kinds := [], alts := [], laidByText := true, laidKinds := [.data, .data, .data, .sentinel, .sentinel], laidTests := true, laidLooks := .later }
def TopUndoneCardSaid : Prop := Claim7.holds Tryz.pinned (.plain (OpenSpec.ofChange topUndoneSpec)) topUndoneCard

/-- THE SECOND FORM's CARD OF 'scripttop.TopFile'. -/
def topFileUptoCard : Claim7 := { stood := { row := topFileUptoRow, standIns := [], harness := (true, "47ef360a7b823eb2e2b585abeaa3827167cad1a9026e83cf635798bf2d677764"), looks := true }, kinds := [], alts := [], laidByText := true, laidKinds := [.data, .data, .data, .sentinel, .sentinel], laidTests := true, laidLooks := .later }
def TopFileUptoCardSaid : Prop := Claim7.holds Tryz.pinned (.plain (OpenSpec.upto topFileSpec)) topFileUptoCard

/-- THE SECOND FORM's CARD OF 'scripttop.TopWritten'. -/
def topWrittenUptoCard : Claim7 := { stood := { row := topWrittenUptoRow, standIns := [], harness := (true, "47ef360a7b823eb2e2b585abeaa3827167cad1a9026e83cf635798bf2d677764"), looks := true }, kinds := [], alts := [], laidByText := true, laidKinds := [.data, .data, .data, .sentinel, .sentinel], laidTests := true, laidLooks := .later }
def TopWrittenUptoCardSaid : Prop := Claim7.holds Tryz.pinned (.plain (OpenSpec.upto topWrittenSpec)) topWrittenUptoCard

/-- THE SECOND FORM's CARD OF 'scripttop.TopStream'. -/
def topStreamUptoCard : Claim7 := { stood := { row := topStreamUptoRow, standIns := [], harness := (true, "47ef360a7b823eb2e2b585abeaa3827167cad1a9026e83cf635798bf2d677764"), looks := true }, kinds := [], alts := [], laidByText := true, laidKinds := [.data, .data, .data, .sentinel, .sentinel], laidTests := true, laidLooks := .later }
def TopStreamUptoCardSaid : Prop := Claim7.holds Tryz.pinned (.plain (OpenSpec.upto topStreamSpec)) topStreamUptoCard

/-- THE SECOND FORM's CARD OF 'scripttop.TopMasked'. -/
def topMaskedUptoCard : Claim7 := { stood := { row := topMaskedUptoRow, standIns := [], harness := (true, "47ef360a7b823eb2e2b585abeaa3827167cad1a9026e83cf635798bf2d677764"), looks := true }, kinds := [], alts := [], laidByText := true, laidKinds := [.data, .data, .data, .sentinel, .sentinel], laidTests := true, laidLooks := .later }
def TopMaskedUptoCardSaid : Prop := Claim7.holds Tryz.pinned (.plain (OpenSpec.upto topMaskedSpec)) topMaskedUptoCard

/-- THE SECOND FORM's CARD OF 'scripttop.TopUntouched'. -/
def topUntouchedUptoCard : Claim7 := { stood := { row := topUntouchedUptoRow, standIns := [], harness := (true, "47ef360a7b823eb2e2b585abeaa3827167cad1a9026e83cf635798bf2d677764"), looks := true }, kinds := [], alts := [], laidByText := true, laidKinds := [.data, .data, .data, .sentinel, .sentinel], laidTests := true, laidLooks := .later }
def TopUntouchedUptoCardSaid : Prop := Claim7.holds Tryz.pinned (.plain (OpenSpec.upto topUntouchedSpec)) topUntouchedUptoCard

/-- THE SECOND FORM's CARD OF 'scripttop.TopUndone'. -/
def topUndoneUptoCard : Claim7 := { stood := { row := topUndoneUptoRow, standIns := [], harness := (true, "47ef360a7b823eb2e2b585abeaa3827167cad1a9026e83cf635798bf2d677764"), looks := true }, kinds := [], alts := [], laidByText := true, laidKinds := [.data, .data, .data, .sentinel, .sentinel], laidTests := true, laidLooks := .later }
def TopUndoneUptoCardSaid : Prop := Claim7.holds Tryz.pinned (.plain (OpenSpec.upto topUndoneSpec)) topUndoneUptoCard
end Rows
end Go.Proofs.YtmcljejgbikbhaaGreatDoor
