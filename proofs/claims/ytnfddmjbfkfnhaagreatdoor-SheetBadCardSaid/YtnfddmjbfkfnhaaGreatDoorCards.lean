/-
  DERIVED. GIVEN WITH THE SEED: THE CARDS: each row of YtnfddmjbfkfnhaaGreatDoorRows.lean that lists a variable, with what it lists TIED to the program's text (the seventh form; the later family's looks); each row that meets fmt, with fmt's text TOLD by the authors' own Lean function (tested against real Go, not proved from fmt's source: count such statements apart). THE CARD IS WHAT COUNTS. Prove the row's statement (the work); the ties are given (YtnfddmjbfkfnhaaGreatDoorTie.lean); close each card by the builder's one call (the guide's Derived/Test/ToyasCard.lean, 'card_holds'). Laid BY PROGRAM, IN A SANDBOX (cutbox-door.mjs). By AI agents, Wed Nov 11 2026. No macro, syntax, notation, axiom, sorry.
-/
import Derived.Test.YtnfddmjbfkfnhaaGreatDoorRows
import GoSem.ClaimSeven
namespace Go.Proofs.YtnfddmjbfkfnhaaGreatDoor
namespace Rows

/-- THE TIED CARD OF 'vitrinelaw11.SheetNames'. -/
def sheetNamesCard : Claim7 := { stood := { row := sheetNamesRow, standIns := [], harness := (true, "13e53d46d7b98816fc90281062463a93df5840e1f61cca12d3138488e53be778"), looks := false }, kinds := [], alts := [], laidByText := true, laidKinds := [.data, .data, .data, .pinned], laidTests := true, laidLooks := .later }
def SheetNamesCardSaid : Prop := Claim7.holds Tryz.pinned (.plain (OpenSpec.ofChange sheetNamesSpec)) sheetNamesCard

/-- THE TIED CARD OF 'vitrinelaw11.SheetReads'. -/
def sheetReadsCard : Claim7 := { stood := { row := sheetReadsRow, standIns := [], harness := (true, "13e53d46d7b98816fc90281062463a93df5840e1f61cca12d3138488e53be778"), looks := false }, kinds := [], alts := [], laidByText := true, laidKinds := [.data, .data, .data, .pinned], laidTests := true, laidLooks := .later }
def SheetReadsCardSaid : Prop := Claim7.holds Tryz.pinned (.plain (OpenSpec.ofChange sheetReadsSpec)) sheetReadsCard

/-- THE TIED CARD OF 'vitrinelaw11.SheetBad'. -/
def sheetBadCard : Claim7 := { stood := { row := sheetBadRow, standIns := [], harness := (true, "13e53d46d7b98816fc90281062463a93df5840e1f61cca12d3138488e53be778"), looks := false }, kinds := [], alts := [], laidByText := true, laidKinds := [.data, .data, .data, .pinned], laidTests := true, laidLooks := .later }
def SheetBadCardSaid : Prop := Claim7.holds Tryz.pinned (.plain (OpenSpec.ofChange sheetBadSpec)) sheetBadCard

/-- THE TIED CARD OF 'vitrinelaw11.SheetKept'. -/
def sheetKeptCard : Claim7 := { stood := { row := sheetKeptRow, standIns := [], harness := (true, "13e53d46d7b98816fc90281062463a93df5840e1f61cca12d3138488e53be778"), looks := false }, kinds := [], alts := [], laidByText := true, laidKinds := [.data, .data, .data, .pinned], laidTests := true, laidLooks := .later }
def SheetKeptCardSaid : Prop := Claim7.holds Tryz.pinned (.plain (OpenSpec.ofChange sheetKeptSpec)) sheetKeptCard

/-- THE TIED CARD OF 'vitrinelaw11.SheetValid'. -/
def sheetValidCard : Claim7 := { stood := { row := sheetValidRow, standIns := [], harness := (true, "13e53d46d7b98816fc90281062463a93df5840e1f61cca12d3138488e53be778"), looks := false }, kinds := [], alts := [], laidByText := true, laidKinds := [.data, .data, .data, .pinned], laidTests := true, laidLooks := .later }
def SheetValidCardSaid : Prop := Claim7.holds Tryz.pinned (.plain (OpenSpec.ofChange sheetValidSpec)) sheetValidCard

/-- THE TIED CARD OF 'vitrinelaw11.SheetOne'. -/
def sheetOneCard : Claim7 := { stood := { row := sheetOneRow, standIns := [], harness := (true, "13e53d46d7b98816fc90281062463a93df5840e1f61cca12d3138488e53be778"), looks := false }, kinds := [], alts := [], laidByText := true, laidKinds := [.data, .data, .data, .pinned], laidTests := true, laidLooks := .later }
def SheetOneCardSaid : Prop := Claim7.holds Tryz.pinned (.plain (OpenSpec.ofChange sheetOneSpec)) sheetOneCard

/-- THE SECOND FORM's CARD OF 'vitrinelaw11.SheetNames'. -/
def sheetNamesUptoCard : Claim7 := { stood := { row := sheetNamesUptoRow, standIns := [], harness := (true, "13e53d46d7b98816fc90281062463a93df5840e1f61cca12d3138488e53be778"), looks := false }, kinds := [], alts := [], laidByText := true, laidKinds := [.data, .data, .data, .pinned], laidTests := true, laidLooks := .later }
def SheetNamesUptoCardSaid : Prop := Claim7.holds Tryz.pinned (.plain (OpenSpec.upto sheetNamesSpec)) sheetNamesUptoCard

/-- THE SECOND FORM's CARD OF 'vitrinelaw11.SheetReads'. -/
def sheetReadsUptoCard : Claim7 := { stood := { row := sheetReadsUptoRow, standIns := [], harness := (true, "13e53d46d7b98816fc90281062463a93df5840e1f61cca12d3138488e53be778"), looks := false }, kinds := [], alts := [], laidByText := true, laidKinds := [.data, .data, .data, .pinned], laidTests := true, laidLooks := .later }
def SheetReadsUptoCardSaid : Prop := Claim7.holds Tryz.pinned (.plain (OpenSpec.upto sheetReadsSpec)) sheetReadsUptoCard

/-- THE SECOND FORM's CARD OF 'vitrinelaw11.SheetBad'. -/
def sheetBadUptoCard : Claim7 := { stood := { row := sheetBadUptoRow, standIns := [], harness := (true, "13e53d46d7b98816fc90281062463a93df5840e1f61cca12d3138488e53be778"), looks := false }, kinds := [], alts := [], laidByText := true, laidKinds := [.data, .data, .data, .pinned], laidTests := true, laidLooks := .later }
def SheetBadUptoCardSaid : Prop := Claim7.holds Tryz.pinned (.plain (OpenSpec.upto sheetBadSpec)) sheetBadUptoCard

/-- THE SECOND FORM's CARD OF 'vitrinelaw11.SheetKept'. -/
def sheetKeptUptoCard : Claim7 := { stood := { row := sheetKeptUptoRow, standIns := [], harness := (true, "13e53d46d7b98816fc90281062463a93df5840e1f61cca12d3138488e53be778"), looks := false }, kinds := [], alts := [], laidByText := true, laidKinds := [.data, .data, .data, .pinned], laidTests := true, laidLooks := .later }
def SheetKeptUptoCardSaid : Prop := Claim7.holds Tryz.pinned (.plain (OpenSpec.upto sheetKeptSpec)) sheetKeptUptoCard

/-- THE SECOND FORM's CARD OF 'vitrinelaw11.SheetValid'. -/
def sheetValidUptoCard : Claim7 := { stood := { row := sheetValidUptoRow, standIns := [], harness := (true, "13e53d46d7b98816fc90281062463a93df5840e1f61cca12d3138488e53be778"), looks := false }, kinds := [], alts := [], laidByText := true, laidKinds := [.data, .data, .data, .pinned], laidTests := true, laidLooks := .later }
def SheetValidUptoCardSaid : Prop := Claim7.holds Tryz.pinned (.plain (OpenSpec.upto sheetValidSpec)) sheetValidUptoCard

/-- THE SECOND FORM's CARD OF 'vitrinelaw11.SheetOne'. -/
def sheetOneUptoCard : Claim7 := { stood := { row := sheetOneUptoRow, standIns := [], harness := (true, "13e53d46d7b98816fc90281062463a93df5840e1f61cca12d3138488e53be778"), looks := false }, kinds := [], alts := [], laidByText := true, laidKinds := [.data, .data, .data, .pinned], laidTests := true, laidLooks := .later }
def SheetOneUptoCardSaid : Prop := Claim7.holds Tryz.pinned (.plain (OpenSpec.upto sheetOneSpec)) sheetOneUptoCard
end Rows
end Go.Proofs.YtnfddmjbfkfnhaaGreatDoor
