/-
  DERIVED. GIVEN WITH THE SEED: THE CARDS: each row of YthjnkibldhfhmaaDoorRows.lean that lists a variable, with what it lists TIED to the program's text (the seventh form; the later family's looks); each row that meets fmt, with fmt's text TOLD by the authors' own Lean function (tested against real Go, not proved from fmt's source: count such statements apart). THE CARD IS WHAT COUNTS. Prove the row's statement (the work); the ties are given (YthjnkibldhfhmaaDoorTie.lean); close each card by the builder's one call (the guide's Derived/Test/ToyasCard.lean, 'card_holds'). Laid BY PROGRAM, IN A SANDBOX (cutbox-door.mjs). By AI agents, Wed Nov 11 2026. No macro, syntax, notation, axiom, sorry.
-/
import Derived.Test.YthjnkibldhfhmaaDoorRows
import GoSem.ClaimSeven
namespace Go.Proofs.YthjnkibldhfhmaaDoor
namespace Rows

/-- THE TIED CARD OF 'vitrinelaw06.FixedNames'. -/
def fixedNamesCard : Claim7 := { stood := { row := fixedNamesRow, standIns := [], harness := (true, "b9840749e2f54d8fc0ccac758db92033d213b94be3bd0ffe5515d68047dcb6be"), looks := false }, kinds := [], alts := [], laidByText := true, laidKinds := [.data, .data, .data, .data, .pinned], laidTests := true, laidLooks := .later }
def FixedNamesCardSaid : Prop := Claim7.holds Tryd.pinned (.plain (OpenSpec.ofChange fixedNamesSpec)) fixedNamesCard

/-- THE TIED CARD OF 'vitrinelaw06.FixedReads'. -/
def fixedReadsCard : Claim7 := { stood := { row := fixedReadsRow, standIns := [], harness := (true, "b9840749e2f54d8fc0ccac758db92033d213b94be3bd0ffe5515d68047dcb6be"), looks := false }, kinds := [], alts := [], laidByText := true, laidKinds := [.data, .data, .data, .data, .pinned], laidTests := true, laidLooks := .later }
def FixedReadsCardSaid : Prop := Claim7.holds Tryd.pinned (.plain (OpenSpec.ofChange fixedReadsSpec)) fixedReadsCard

/-- THE TIED CARD OF 'vitrinelaw06.FixedBack'. -/
def fixedBackCard : Claim7 := { stood := { row := fixedBackRow, standIns := [], harness := (true, "b9840749e2f54d8fc0ccac758db92033d213b94be3bd0ffe5515d68047dcb6be"), looks := false }, kinds := [], alts := [], laidByText := true, laidKinds := [.data, .data, .data, .data, .pinned], laidTests := true, laidLooks := .later }
def FixedBackCardSaid : Prop := Claim7.holds Tryd.pinned (.plain (OpenSpec.ofChange fixedBackSpec)) fixedBackCard

/-- THE TIED CARD OF 'vitrinelaw06.FixedOrder'. -/
def fixedOrderCard : Claim7 := { stood := { row := fixedOrderRow, standIns := [], harness := (true, "b9840749e2f54d8fc0ccac758db92033d213b94be3bd0ffe5515d68047dcb6be"), looks := false }, kinds := [], alts := [], laidByText := true, laidKinds := [.data, .data, .data], laidTests := true, laidLooks := .later }
def FixedOrderCardSaid : Prop := Claim7.holds Tryd.pinned (.plain (OpenSpec.ofChange fixedOrderSpec)) fixedOrderCard

/-- THE TIED CARD OF 'vitrinelaw06.FixedParts'. -/
def fixedPartsCard : Claim7 := { stood := { row := fixedPartsRow, standIns := [], harness := (true, "b9840749e2f54d8fc0ccac758db92033d213b94be3bd0ffe5515d68047dcb6be"), looks := false }, kinds := [], alts := [], laidByText := true, laidKinds := [.data, .data, .data], laidTests := true, laidLooks := .later }
def FixedPartsCardSaid : Prop := Claim7.holds Tryd.pinned (.plain (OpenSpec.ofChange fixedPartsSpec)) fixedPartsCard

/-- THE TIED CARD OF 'vitrinelaw06.FixedWithin'. -/
def fixedWithinCard : Claim7 := { stood := { row := fixedWithinRow, standIns := [], harness := (true, "b9840749e2f54d8fc0ccac758db92033d213b94be3bd0ffe5515d68047dcb6be"), looks := false }, kinds := [], alts := [], laidByText := true, laidKinds := [.data, .data, .data], laidTests := true, laidLooks := .later }
def FixedWithinCardSaid : Prop := Claim7.holds Tryd.pinned (.plain (OpenSpec.ofChange fixedWithinSpec)) fixedWithinCard

/-- THE SECOND FORM's CARD OF 'vitrinelaw06.FixedNames'. -/
def fixedNamesUptoCard : Claim7 := { stood := { row := fixedNamesUptoRow, standIns := [], harness := (true, "b9840749e2f54d8fc0ccac758db92033d213b94be3bd0ffe5515d68047dcb6be"), looks := false }, kinds := [], alts := [], laidByText := true, laidKinds := [.data, .data, .data, .data, .pinned], laidTests := true, laidLooks := .later }
def FixedNamesUptoCardSaid : Prop := Claim7.holds Tryd.pinned (.plain (OpenSpec.upto fixedNamesSpec)) fixedNamesUptoCard

/-- THE SECOND FORM's CARD OF 'vitrinelaw06.FixedReads'. -/
def fixedReadsUptoCard : Claim7 := { stood := { row := fixedReadsUptoRow, standIns := [], harness := (true, "b9840749e2f54d8fc0ccac758db92033d213b94be3bd0ffe5515d68047dcb6be"), looks := false }, kinds := [], alts := [], laidByText := true, laidKinds := [.data, .data, .data, .data, .pinned], laidTests := true, laidLooks := .later }
def FixedReadsUptoCardSaid : Prop := Claim7.holds Tryd.pinned (.plain (OpenSpec.upto fixedReadsSpec)) fixedReadsUptoCard

/-- THE SECOND FORM's CARD OF 'vitrinelaw06.FixedBack'. -/
def fixedBackUptoCard : Claim7 := { stood := { row := fixedBackUptoRow, standIns := [], harness := (true, "b9840749e2f54d8fc0ccac758db92033d213b94be3bd0ffe5515d68047dcb6be"), looks := false }, kinds := [], alts := [], laidByText := true, laidKinds := [.data, .data, .data, .data, .pinned], laidTests := true, laidLooks := .later }
def FixedBackUptoCardSaid : Prop := Claim7.holds Tryd.pinned (.plain (OpenSpec.upto fixedBackSpec)) fixedBackUptoCard

/-- THE SECOND FORM's CARD OF 'vitrinelaw06.FixedOrder'. -/
def fixedOrderUptoCard : Claim7 := { stood := { row := fixedOrderUptoRow, standIns := [], harness := (true, "b9840749e2f54d8fc0ccac758db92033d213b94be3bd0ffe5515d68047dcb6be"), looks := false }, kinds := [], alts := [], laidByText := true, laidKinds := [.data, .data, .data], laidTests := true, laidLooks := .later }
def FixedOrderUptoCardSaid : Prop := Claim7.holds Tryd.pinned (.plain (OpenSpec.upto fixedOrderSpec)) fixedOrderUptoCard

/-- THE SECOND FORM's CARD OF 'vitrinelaw06.FixedParts'. -/
def fixedPartsUptoCard : Claim7 := { stood := { row := fixedPartsUptoRow, standIns := [], harness := (true, "b9840749e2f54d8fc0ccac758db92033d213b94be3bd0ffe5515d68047dcb6be"), looks := false }, kinds := [], alts := [], laidByText := true, laidKinds := [.data, .data, .data], laidTests := true, laidLooks := .later }
def FixedPartsUptoCardSaid : Prop := Claim7.holds Tryd.pinned (.plain (OpenSpec.upto fixedPartsSpec)) fixedPartsUptoCard

/-- THE SECOND FORM's CARD OF 'vitrinelaw06.FixedWithin'. -/
def fixedWithinUptoCard : Claim7 := { stood := { row := fixedWithinUptoRow, standIns := [], harness := (true, "b9840749e2f54d8fc0ccac758db92033d213b94be3bd0ffe5515d68047dcb6be"), looks := false }, kinds := [], alts := [], laidByText := true, laidKinds := [.data, .data, .data], laidTests := true, laidLooks := .later }
def FixedWithinUptoCardSaid : Prop := Claim7.holds Tryd.pinned (.plain (OpenSpec.upto fixedWithinSpec)) fixedWithinUptoCard
end Rows
end Go.Proofs.YthjnkibldhfhmaaDoor
