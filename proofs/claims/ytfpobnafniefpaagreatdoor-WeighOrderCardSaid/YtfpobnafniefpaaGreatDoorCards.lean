/-
  DERIVED. GIVEN WITH THE SEED: THE CARDS: each row of YtfpobnafniefpaaGreatDoorRows.lean that lists a variable, with what it lists TIED to the program's text (the seventh form; the later family's looks); each row that meets fmt, with fmt's text TOLD by the authors' own Lean function (tested against real Go, not proved from fmt's source: count such statements apart). THE CARD IS WHAT COUNTS. Prove the row's statement (the work); the ties are given (YtfpobnafniefpaaGreatDoorTie.lean); close each card by the builder's one call (the guide's Derived/Test/ToyasCard.lean, 'card_holds'). Laid BY PROGRAM, IN A SANDBOX (cutbox-door.mjs). By AI agents, Wed Nov 11 2026. No macro, syntax, notation, axiom, sorry.
-/
import Derived.Test.YtfpobnafniefpaaGreatDoorRows
import GoSem.ClaimSeven
namespace Go.Proofs.YtfpobnafniefpaaGreatDoor
namespace Rows

/-- THE TIED CARD OF 'vitrinelaw09.WeighNames'. -/
def weighNamesCard : Claim7 := { stood := { row := weighNamesRow, standIns := [], harness := (true, "3c161d526185a335790c1f8c28518663a456ba2aa4fa3f94ffe6696d961fcf18"), looks := false }, kinds := [], alts := [], laidByText := true, laidKinds := [.data, .data, .data, .pinned], laidTests := true, laidLooks := .later }
def WeighNamesCardSaid : Prop := Claim7.holds Tryz.pinned (.plain (OpenSpec.ofChange weighNamesSpec)) weighNamesCard

/-- THE TIED CARD OF 'vitrinelaw09.WeighOrder'. -/
def weighOrderCard : Claim7 := { stood := { row := weighOrderRow, standIns := [], harness := (true, "3c161d526185a335790c1f8c28518663a456ba2aa4fa3f94ffe6696d961fcf18"), looks := false }, kinds := [], alts := [], laidByText := true, laidKinds := [.data, .data, .data, .pinned], laidTests := true, laidLooks := .later }
def WeighOrderCardSaid : Prop := Claim7.holds Tryz.pinned (.plain (OpenSpec.ofChange weighOrderSpec)) weighOrderCard

/-- THE SECOND FORM's CARD OF 'vitrinelaw09.WeighNames'. -/
def weighNamesUptoCard : Claim7 := { stood := { row := weighNamesUptoRow, standIns := [], harness := (true, "3c161d526185a335790c1f8c28518663a456ba2aa4fa3f94ffe6696d961fcf18"), looks := false }, kinds := [], alts := [], laidByText := true, laidKinds := [.data, .data, .data, .pinned], laidTests := true, laidLooks := .later }
def WeighNamesUptoCardSaid : Prop := Claim7.holds Tryz.pinned (.plain (OpenSpec.upto weighNamesSpec)) weighNamesUptoCard

/-- THE SECOND FORM's CARD OF 'vitrinelaw09.WeighOrder'. -/
def weighOrderUptoCard : Claim7 := { stood := { row := weighOrderUptoRow, standIns := [], harness := (true, "3c161d526185a335790c1f8c28518663a456ba2aa4fa3f94ffe6696d961fcf18"), looks := false }, kinds := [], alts := [], laidByText := true, laidKinds := [.data, .data, .data, .pinned], laidTests := true, laidLooks := .later }
def WeighOrderUptoCardSaid : Prop := Claim7.holds Tryz.pinned (.plain (OpenSpec.upto weighOrderSpec)) weighOrderUptoCard
end Rows
end Go.Proofs.YtfpobnafniefpaaGreatDoor
