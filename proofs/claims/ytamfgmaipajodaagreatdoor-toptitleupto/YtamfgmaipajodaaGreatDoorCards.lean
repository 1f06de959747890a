/-
  DERIVED. GIVEN WITH THE SEED: THE CARDS: each row of YtamfgmaipajodaaGreatDoorRows.lean that lists a variable, with what it lists TIED to the program's text (the seventh form; the later family's looks); each row that meets fmt, with fmt's text TOLD by the authors' own Lean function (tested against real Go, not proved from fmt's source: count such statements apart). THE CARD IS WHAT COUNTS. Prove the row's statement (the work); the ties are given (YtamfgmaipajodaaGreatDoorTie.lean); close each card by the builder's one call (the guide's Derived/Test/ToyasCard.lean, 'card_holds'). Laid BY PROGRAM, IN A SANDBOX (cutbox-door.mjs). By AI agents, Wed Nov 11 2026. No macro, syntax, notation, axiom, sorry.
-/
import Derived.Test.YtamfgmaipajodaaGreatDoorRows
import GoSem.ClaimSeven
namespace Go.Proofs.YtamfgmaipajodaaGreatDoor
namespace Rows

/-- THE TIED CARD OF 'scripttop.TopStream'. -/
def topStreamCard : Claim7 := { stood := { row := topStreamRow, standIns := [], harness := (true, "f08341d88c6c1639324c19a447fbf12644dd2776cfadd9657fdf8486bec36a88"), looks := true }, kinds := [], alts := [], laidByText := true, laidKinds := [.data, .data, .data, .sentinel, .sentinel], laidTests := true, laidLooks := .later }
def TopStreamCardSaid : Prop := Claim7.holds Tryz.pinned (.plain (OpenSpec.ofChange topStreamSpec)) topStreamCard

/-- THE TIED CARD OF 'scripttop.TopMasked'. -/
def topMaskedCard : Claim7 := { stood := { row := topMaskedRow, standIns := [], harness := (true, "f08341d88c6c1639324c19a447fbf12644dd2776cfadd9657fdf8486bec36a88"), looks := true }, kinds := [], alts := [], laidByText := true, laidKinds := [.data, .data, .data, .sentinel, .sentinel], laidTests := true, laidLooks := .later }
def TopMaskedCardSaid : Prop := Claim7.holds Tryz.pinned (.plain (OpenSpec.ofChange topMaskedSpec)) topMaskedCard

/-- THE TIED CARD OF 'scripttop.TopUndone'. -/
def topUndoneCard : Claim7 := { stood := { row := topUndoneRow, standIns := [], harness := (true, "f08341d88c6c1639324c19a447fbf12644dd2776cfadd9657fdf8486bec36a88"), looks := true }, kinds := [], alts := [], laidByText := true, laidKinds := [.data, .data, .data, .sentinel, .sentinel], laidTests := true, laidLooks := .later }
def TopUndoneCardSaid : Prop := Claim7.holds Tryz.pinned (.plain (OpenSpec.ofChange topUndoneSpec)) topUndoneCard

/-- THE TIED CARD OF 'scripttop.TopTitle'. -/
def topTitleCard : Claim7 := { stood := { row := topTitleRow, standIns := [], harness := (true, "f08341d88c6c1639324c19a447fbf12644dd2776cfadd9657fdf8486bec36a88"), looks := true }, kinds := [], alts := [], laidByText := true, laidKinds := [.data, .data, .data, .sentinel, .sentinel], laidTests := true, laidLooks := .later }
def TopTitleCardSaid : Prop := Claim7.holds Tryz.pinned (.plain (OpenSpec.ofChange topTitleSpec)) topTitleCard

/-- THE TIED CARD OF 'scripttop.TopForms'. -/
def topFormsCard : Claim7 := { stood := { row := topFormsRow, standIns := [], harness := (true, "f08341d88c6c1639324c19a447fbf12644dd2776cfadd9657fdf8486bec36a88"), looks := true }, kinds := [], alts := [], laidByText := true, laidKinds := [.data, .data, .data, .sentinel, .sentinel], laidTests := true, laidLooks := .later }
def TopFormsCardSaid : Prop := Claim7.holds Tryz.pinned (.plain (OpenSpec.ofChange topFormsSpec)) topFormsCard

/-- THE SECOND FORM's CARD OF 'scripttop.TopStream'. -/
def topStreamUptoCard : Claim7 := { stood := { row := topStreamUptoRow, standIns := [], harness := (true, "f08341d88c6c1639324c19a447fbf12644dd2776cfadd9657fdf8486bec36a88"), looks := true }, kinds := [], alts := [], laidByText := true, laidKinds := [.data, .data, .data, .sentinel, .sentinel], laidTests := true, laidLooks := .later }
def TopStreamUptoCardSaid : Prop := Claim7.holds Tryz.pinned (.plain (OpenSpec.upto topStreamSpec)) topStreamUptoCard

/-- THE SECOND FORM's CARD OF 'scripttop.TopMasked'. -/
def topMaskedUptoCard : Claim7 := { stood := { row := topMaskedUptoRow, standIns := [], harness := (true, "f08341d88c6c1639324c19a447fbf12644dd2776cfadd9657fdf8486bec36a88"), looks := true }, kinds := [], alts := [], laidByText := true, laidKinds := [.data, .data, .data, .sentinel, .sentinel], laidTests := true, laidLooks := .later }
def TopMaskedUptoCardSaid : Prop := Claim7.holds Tryz.pinned (.plain (OpenSpec.upto topMaskedSpec)) topMaskedUptoCard

/-- THE SECOND FORM's CARD OF 'scripttop.TopUndone'. -/
def topUndoneUptoCard : Claim7 := { stood := { row := topUndoneUptoRow, standIns := [], harness := (true, "f08341d88c6c1639324c19a447fbf12644dd2776cfadd9657fdf8486bec36a88"), looks := true }, kinds := [], alts := [], laidByText := true, laidKinds := [.data, .data, .data, .sentinel, .sentinel], laidTests := true, laidLooks := .later }
def TopUndoneUptoCardSaid : Prop := Claim7.holds Tryz.pinned (.plain (OpenSpec.upto topUndoneSpec)) topUndoneUptoCard

/-- THE SECOND FORM's CARD OF 'scripttop.TopTitle'. -/
def topTitleUptoCard : Claim7 := { stood := { row := topTitleUptoRow, standIns := [], harness := (true, "f08341d88c6c1639324c19a447fbf12644dd2776cfadd9657fdf8486bec36a88"), looks := true }, kinds := [], alts := [], laidByText := true, laidKinds := [.data, .data, .data, .sentinel, .sentinel], laidTests := true, laidLooks := .later }
def TopTitleUptoCardSaid : Prop := Claim7.holds Tryz.pinned (.plain (OpenSpec.upto topTitleSpec)) topTitleUptoCard

/-- THE SECOND FORM's CARD OF 'scripttop.TopForms'. -/
def topFormsUptoCard : Claim7 := { stood := { row := topFormsUptoRow, standIns := [], harness := (true, "f08341d88c6c1639324c19a447fbf12644dd2776cfadd9657fdf8486bec36a88"), looks := true }, kinds := [], alts := [], laidByText := true, laidKinds := [.data, .data, .data, .sentinel, .sentinel], laidTests := true, laidLooks := .later }
def TopFormsUptoCardSaid : Prop := Claim7.holds Tryz.pinned (.plain (OpenSpec.upto topFormsSpec)) topFormsUptoCard
end Rows
end Go.Proofs.YtamfgmaipajodaaGreatDoor
