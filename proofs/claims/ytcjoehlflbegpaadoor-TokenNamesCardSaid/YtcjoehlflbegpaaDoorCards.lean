/-
  DERIVED. GIVEN WITH THE SEED: THE CARDS: each row of YtcjoehlflbegpaaDoorRows.lean that lists a variable, with what it lists TIED to the program's text (the seventh form; the later family's looks); each row that meets fmt, with fmt's text TOLD by the authors' own Lean function (tested against real Go, not proved from fmt's source: count such statements apart). THE CARD IS WHAT COUNTS. Prove the row's statement (the work); the ties are given (YtcjoehlflbegpaaDoorTie.lean); close each card by the builder's one call (the guide's Derived/Test/ToyasCard.lean, 'card_holds'). Laid BY PROGRAM, IN A SANDBOX (cutbox-door.mjs). By AI agents, Wed Nov 11 2026. No macro, syntax, notation, axiom, sorry.
-/
import Derived.Test.YtcjoehlflbegpaaDoorRows
import GoSem.ClaimSeven
namespace Go.Proofs.YtcjoehlflbegpaaDoor
namespace Rows

/-- THE TIED CARD OF 'vitrinelaw02.TokenNames'. -/
def tokenNamesCard : Claim7 := { stood := { row := tokenNamesRow, standIns := [], harness := (true, "fb6b9000d0bf34ab4d8c8a225c3606bc7ba22ef7a8238874c4bb049ad719b562"), looks := false }, kinds := [], alts := [], laidByText := true, laidKinds := [.data, .data, .pinned], laidTests := true, laidLooks := .later }
def TokenNamesCardSaid : Prop := Claim7.holds Tryd.pinned (.plain (OpenSpec.ofChange tokenNamesSpec)) tokenNamesCard

/-- THE TIED CARD OF 'vitrinelaw02.TokenValues'. -/
def tokenValuesCard : Claim7 := { stood := { row := tokenValuesRow, standIns := [], harness := (true, "fb6b9000d0bf34ab4d8c8a225c3606bc7ba22ef7a8238874c4bb049ad719b562"), looks := false }, kinds := [], alts := [], laidByText := true, laidKinds := [.data, .pinned], laidTests := true, laidLooks := .later }
def TokenValuesCardSaid : Prop := Claim7.holds Tryd.pinned (.plain (OpenSpec.ofChange tokenValuesSpec)) tokenValuesCard

/-- THE TIED CARD OF 'vitrinelaw02.TokenCovers'. -/
def tokenCoversCard : Claim7 := { stood := { row := tokenCoversRow, standIns := [], harness := (true, "fb6b9000d0bf34ab4d8c8a225c3606bc7ba22ef7a8238874c4bb049ad719b562"), looks := false }, kinds := [], alts := [], laidByText := true, laidKinds := [.data, .data, .pinned], laidTests := true, laidLooks := .later }
def TokenCoversCardSaid : Prop := Claim7.holds Tryd.pinned (.plain (OpenSpec.ofChange tokenCoversSpec)) tokenCoversCard

/-- THE TIED CARD OF 'vitrinelaw02.TokenRest'. -/
def tokenRestCard : Claim7 := { stood := { row := tokenRestRow, standIns := [], harness := (true, "fb6b9000d0bf34ab4d8c8a225c3606bc7ba22ef7a8238874c4bb049ad719b562"), looks := false }, kinds := [], alts := [], laidByText := true, laidKinds := [.data, .data, .pinned], laidTests := true, laidLooks := .later }
def TokenRestCardSaid : Prop := Claim7.holds Tryd.pinned (.plain (OpenSpec.ofChange tokenRestSpec)) tokenRestCard

/-- THE TIED CARD OF 'vitrinelaw02.TokenShape'. -/
def tokenShapeCard : Claim7 := { stood := { row := tokenShapeRow, standIns := [], harness := (true, "fb6b9000d0bf34ab4d8c8a225c3606bc7ba22ef7a8238874c4bb049ad719b562"), looks := false }, kinds := [], alts := [], laidByText := true, laidKinds := [.data, .data, .pinned], laidTests := true, laidLooks := .later }
def TokenShapeCardSaid : Prop := Claim7.holds Tryd.pinned (.plain (OpenSpec.ofChange tokenShapeSpec)) tokenShapeCard

/-- THE TIED CARD OF 'vitrinelaw02.TokenNumbers'. -/
def tokenNumbersCard : Claim7 := { stood := { row := tokenNumbersRow, standIns := [], harness := (true, "fb6b9000d0bf34ab4d8c8a225c3606bc7ba22ef7a8238874c4bb049ad719b562"), looks := false }, kinds := [], alts := [], laidByText := true, laidKinds := [.data, .data, .pinned], laidTests := true, laidLooks := .later }
def TokenNumbersCardSaid : Prop := Claim7.holds Tryd.pinned (.plain (OpenSpec.ofChange tokenNumbersSpec)) tokenNumbersCard

/-- THE SECOND FORM's CARD OF 'vitrinelaw02.TokenNames'. -/
def tokenNamesUptoCard : Claim7 := { stood := { row := tokenNamesUptoRow, standIns := [], harness := (true, "fb6b9000d0bf34ab4d8c8a225c3606bc7ba22ef7a8238874c4bb049ad719b562"), looks := false }, kinds := [], alts := [], laidByText := true, laidKinds := [.data, .data, .pinned], laidTests := true, laidLooks := .later }
def TokenNamesUptoCardSaid : Prop := Claim7.holds Tryd.pinned (.plain (OpenSpec.upto tokenNamesSpec)) tokenNamesUptoCard

/-- THE SECOND FORM's CARD OF 'vitrinelaw02.TokenValues'. -/
def tokenValuesUptoCard : Claim7 := { stood := { row := tokenValuesUptoRow, standIns := [], harness := (true, "fb6b9000d0bf34ab4d8c8a225c3606bc7ba22ef7a8238874c4bb049ad719b562"), looks := false }, kinds := [], alts := [], laidByText := true, laidKinds := [.data, .pinned], laidTests := true, laidLooks := .later }
def TokenValuesUptoCardSaid : Prop := Claim7.holds Tryd.pinned (.plain (OpenSpec.upto tokenValuesSpec)) tokenValuesUptoCard

/-- THE SECOND FORM's CARD OF 'vitrinelaw02.TokenCovers'. -/
def tokenCoversUptoCard : Claim7 := { stood := { row := tokenCoversUptoRow, standIns := [], harness := (true, "fb6b9000d0bf34ab4d8c8a225c3606bc7ba22ef7a8238874c4bb049ad719b562"), looks := false }, kinds := [], alts := [], laidByText := true, laidKinds := [.data, .data, .pinned], laidTests := true, laidLooks := .later }
def TokenCoversUptoCardSaid : Prop := Claim7.holds Tryd.pinned (.plain (OpenSpec.upto tokenCoversSpec)) tokenCoversUptoCard

/-- THE SECOND FORM's CARD OF 'vitrinelaw02.TokenRest'. -/
def tokenRestUptoCard : Claim7 := { stood := { row := tokenRestUptoRow, standIns := [], harness := (true, "fb6b9000d0bf34ab4d8c8a225c3606bc7ba22ef7a8238874c4bb049ad719b562"), looks := false }, kinds := [], alts := [], laidByText := true, laidKinds := [.data, .data, .pinned], laidTests := true, laidLooks := .later }
def TokenRestUptoCardSaid : Prop := Claim7.holds Tryd.pinned (.plain (OpenSpec.upto tokenRestSpec)) tokenRestUptoCard

/-- THE SECOND FORM's CARD OF 'vitrinelaw02.TokenShape'. -/
def tokenShapeUptoCard : Claim7 := { stood := { row := tokenShapeUptoRow, standIns := [], harness := (true, "fb6b9000d0bf34ab4d8c8a225c3606bc7ba22ef7a8238874c4bb049ad719b562"), looks := false }, kinds := [], alts := [], laidByText := true, laidKinds := [.data, .data, .pinned], laidTests := true, laidLooks := .later }
def TokenShapeUptoCardSaid : Prop := Claim7.holds Tryd.pinned (.plain (OpenSpec.upto tokenShapeSpec)) tokenShapeUptoCard

/-- THE SECOND FORM's CARD OF 'vitrinelaw02.TokenNumbers'. -/
def tokenNumbersUptoCard : Claim7 := { stood := { row := tokenNumbersUptoRow, standIns := [], harness := (true, "fb6b9000d0bf34ab4d8c8a225c3606bc7ba22ef7a8238874c4bb049ad719b562"), looks := false }, kinds := [], alts := [], laidByText := true, laidKinds := [.data, .data, .pinned], laidTests := true, laidLooks := .later }
def TokenNumbersUptoCardSaid : Prop := Claim7.holds Tryd.pinned (.plain (OpenSpec.upto tokenNumbersSpec)) tokenNumbersUptoCard
end Rows
end Go.Proofs.YtcjoehlflbegpaaDoor
