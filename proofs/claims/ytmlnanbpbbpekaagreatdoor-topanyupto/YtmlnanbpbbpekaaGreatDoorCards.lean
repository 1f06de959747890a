/-
  DERIVED. GIVEN WITH THE SEED: THE CARDS: each row of YtmlnanbpbbpekaaGreatDoorRows.lean that lists a variable, with what it lists TIED to the program's text (the seventh form; the later family's looks); each row that meets fmt, with fmt's text TOLD by the authors' own Lean function (tested against real Go, not proved from fmt's source: count such statements apart). THE CARD IS WHAT COUNTS. Prove the row's statement (the work); the ties are given (YtmlnanbpbbpekaaGreatDoorTie.lean); close each card by the builder's one call (the guide's Derived/Test/ToyasCard.lean, 'card_holds'). Laid BY PROGRAM, IN A SANDBOX (cutbox-door.mjs). By AI agents, Wed Nov 11 2026. No macro, syntax, notation, axiom, sorry.
-/
import Derived.Test.YtmlnanbpbbpekaaGreatDoorRows
import GoSem.ClaimSeven
namespace Go.Proofs.YtmlnanbpbbpekaaGreatDoor
namespace Rows

/-- THE TIED CARD OF 'scripttop.TopFile'. -/
def topFileCard : Claim7 := { stood := { row := topFileRow, standIns := [], harness := (true, "26e649eb4a2237964eb6d84d869fa05ed16dbd30016f86ab2b6296fe8ba2458d"), looks := true }, kinds := [], alts := [], laidByText := true, laidKinds := [.data, .data, .data, .sentinel, .sentinel], laidTests := true, laidLooks := .later }
def TopFileCardSaid : Prop := Claim7.holds Tryz.pinned (.plain (OpenSpec.ofChange topFileSpec)) topFileCard

/-- THE TIED CARD OF 'scripttop.TopWritten'. -/
def topWrittenCard : Claim7 := { stood := { row := topWrittenRow, standIns := [], harness := (true, "26e649eb4a2237964eb6d84d869fa05ed16dbd30016f86ab2b6296fe8ba2458d"), looks := true }, kinds := [], alts := [], laidByText := true, laidKinds := [.data, .data, .data, .sentinel, .sentinel], laidTests := true, laidLooks := .later }
def TopWrittenCardSaid : Prop := Claim7.holds Tryz.pinned (.plain (OpenSpec.ofChange topWrittenSpec)) topWrittenCard

/-- THE TIED CARD OF 'scripttop.TopStream'. -/
def topStreamCard : Claim7 := { stood := { row := topStreamRow, standIns := [], harness := (true, "26e649eb4a2237964eb6d84d869fa05ed16dbd30016f86ab2b6296fe8ba2458d"), looks := true }, kinds := [], alts := [], laidByText := true, laidKinds := [.data, .data, .data, .sentinel, .sentinel], laidTests := true, laidLooks := .later }
def TopStreamCardSaid : Prop := Claim7.holds Tryz.pinned (.plain (OpenSpec.ofChange topStreamSpec)) topStreamCard

/-- THE TIED CARD OF 'scripttop.TopMasked'. -/
def topMaskedCard : Claim7 := { stood := { row := topMaskedRow, standIns := [], harness := (true, "26e649eb4a2237964eb6d84d869fa05ed16dbd30016f86ab2b6296fe8ba2458d"), looks := true }, kinds := [], alts := [], laidByText := true, laidKinds := [.data, .data, .data, .sentinel, .sentinel], laidTests := true, laidLooks := .later }
def TopMaskedCardSaid : Prop := Claim7.holds Tryz.pinned (.plain (OpenSpec.ofChange topMaskedSpec)) topMaskedCard

/-- THE TIED CARD OF 'scripttop.TopUntouched'. -/
def topUntouchedCard : Claim7 := { stood := { row := topUntouchedRow, standIns := [], harness := (true, "26e649eb4a2237964eb6d84d869fa05ed16dbd30016f86ab2b6296fe8ba2458d"), looks := true }, kinds := [], alts := [], laidByText := true, laidKinds := [.data, .data, .data, .sentinel, .sentinel], laidTests := true, laidLooks := .later }
def TopUntouchedCardSaid : Prop := Claim7.holds Tryz.pinned (.plain (OpenSpec.ofChange topUntouchedSpec)) topUntouchedCard

/-- THE TIED CARD OF 'scripttop.TopAny'. -/
def topAnyCard : Claim7 := { stood := { row := topAnyRow, standIns := [], harness := (true, "26e649eb4a2237964eb6d84d869fa05ed16dbd30016f86ab2b6296fe8ba2458d"), looks := true }, kinds := [], alts := [], laidByText := true, laidKinds := [.data, .data, .data, .sentinel, .sentinel], laidTests := true, laidLooks := .later }
def TopAnyCardSaid : Prop := Claim7.holds Tryz.pinned (.plain (OpenSpec.ofChange topAnySpec)) topAnyCard

/-- THE SECOND FORM's CARD OF 'scripttop.TopFile'. -/
def topFileUptoCard : Claim7 := { stood := { row := topFileUptoRow, standIns := [], harness := (true, "26e649eb4a2237964eb6d84d869fa05ed16dbd30016f86ab2b6296fe8ba2458d"), looks := true }, kinds := [], alts := [], laidByText := true, laidKinds := [.data, .data, .data, .sentinel, .sentinel], laidTests := true, laidLooks := .later }
def TopFileUptoCardSaid : Prop := Claim7.holds Tryz.pinned (.plain (OpenSpec.upto topFileSpec)) topFileUptoCard

/-- THE SECOND FORM's CARD OF 'scripttop.TopWritten'. -/
def topWrittenUptoCard : Claim7 := { stood := { row := topWrittenUptoRow, standIns := [], harness := (true, "26e649eb4a2237964eb6d84d869fa05ed16dbd30016f86ab2b6296fe8ba2458d"), looks := true }, kinds := [], alts := [], laidByText := true, laidKinds := [.data, .data, .data, .sentinel, .sentinel], laidTests := true, laidLooks := .later }
def TopWrittenUptoCardSaid : Prop := Claim7.holds Tryz.pinned (.plain (OpenSpec.upto topWrittenSpec)) topWrittenUptoCard

/-- THE SECOND FORM's CARD OF 'scripttop.TopStream'. -/
def topStreamUptoCard : Claim7 := { stood := { row := topStreamUptoRow, standIns := [], harness := (true, "26e649eb4a2237964eb6d84d869fa05ed16dbd30016f86ab2b6296fe8ba2458d"), looks := true }, kinds := [], alts := [], laidByText := true, laidKinds := [.data, .data, .data, .sentinel, .sentinel], laidTests := true, laidLooks := .later }
def TopStreamUptoCardSaid : Prop := Claim7.holds Tryz.pinned (.plain (OpenSpec.upto topStreamSpec)) topStreamUptoCard

/-- THE SECOND FORM's CARD OF 'scripttop.TopMasked'. -/
def topMaskedUptoCard : Claim7 := { stood := { row := topMaskedUptoRow, standIns := [], harness := (true, "26e649eb4a2237964eb6d84d869fa05ed16dbd30016f86ab2b6296fe8ba2458d"), looks := true }, kinds := [], alts := [], laidByText := true, laidKinds := [.data, .data, .data, .sentinel, .sentinel], laidTests := true, laidLooks := .later }
def TopMaskedUptoCardSaid : Prop := Claim7.holds Tryz.pinned (.plain (OpenSpec.upto topMaskedSpec)) topMaskedUptoCard

/-- THE SECOND FORM's CARD OF 'scripttop.TopUntouched'. -/
def topUntouchedUptoCard : Claim7 := { stood := { row := topUntouchedUptoRow, standIns := [], harness := (true, "26e649eb4a2237964eb6d84d869fa05ed16dbd30016f86ab2b6296fe8ba2458d"), looks := true }, kinds := [], alts := [], laidByText := true, laidKinds := [.data, .data, .data, .sentinel, .sentinel], laidTests := true, laidLooks := .later }
def TopUntouchedUptoCardSaid : Prop := Claim7.holds Tryz.pinned (.plain (OpenSpec.upto topUntouchedSpec)) topUntouchedUptoCard

/-- THE SECOND FORM's CARD OF 'scripttop.TopAny'. -/
def topAnyUptoCard : Claim7 := { stood := { row := topAnyUptoRow, standIns := [], harness := (true, "26e649eb4a2237964eb6d84d869fa05ed16dbd30016f86ab2b6296fe8ba2458d"), looks := true }, kinds := [], alts := [], laidByText := true, laidKinds := [.data, .data, .data, .sentinel, .sentinel], laidTests := true, laidLooks := .later }
def TopAnyUptoCardSaid : Prop := Claim7.holds Tryz.pinned (.plain (OpenSpec.upto topAnySpec)) topAnyUptoCard
end Rows
end Go.Proofs.YtmlnanbpbbpekaaGreatDoor
