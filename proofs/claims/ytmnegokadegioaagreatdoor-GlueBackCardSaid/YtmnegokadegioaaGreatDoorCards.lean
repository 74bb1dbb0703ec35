/-
  DERIVED. GIVEN WITH THE SEED: THE CARDS: each row of YtmnegokadegioaaGreatDoorRows.lean that lists a variable, with what it lists TIED to the program's text (the seventh form; the later family's looks); each row that meets fmt, with fmt's text TOLD by the authors' own Lean function (tested against real Go, not proved from fmt's source: count such statements apart). THE CARD IS WHAT COUNTS. Prove the row's statement (the work); the ties are given (YtmnegokadegioaaGreatDoorTie.lean); close each card by the builder's one call (the guide's Derived/Test/ToyasCard.lean, 'card_holds'). Laid BY PROGRAM, IN A SANDBOX (cutbox-door.mjs). By AI agents, Wed Nov 11 2026. No macro, syntax, notation, axiom, sorry.
-/
import Derived.Test.YtmnegokadegioaaGreatDoorRows
import GoSem.ClaimSeven
namespace Go.Proofs.YtmnegokadegioaaGreatDoor
namespace Rows

/-- THE TIED CARD OF 'vitrinelaw03.GlueWrites'. -/
def glueWritesCard : Claim7 := { stood := { row := glueWritesRow, standIns := [], harness := (true, "c5fdb9e70148711e1c1dfa4bfe753f87aa69520c19f6d367a41fdfb90ef67742"), looks := false }, kinds := [], alts := [], laidByText := true, laidKinds := [.data, .data, .data, .data, .data, .pinned], laidTests := true, laidLooks := .later }
def GlueWritesCardSaid : Prop := Claim7.holds Tryz.pinned (.plain (OpenSpec.ofChange glueWritesSpec)) glueWritesCard

/-- THE TIED CARD OF 'vitrinelaw03.GlueBack'. -/
def glueBackCard : Claim7 := { stood := { row := glueBackRow, standIns := [], harness := (true, "c5fdb9e70148711e1c1dfa4bfe753f87aa69520c19f6d367a41fdfb90ef67742"), looks := false }, kinds := [], alts := [], laidByText := true, laidKinds := [.data, .data, .data, .data, .data, .pinned], laidTests := true, laidLooks := .later }
def GlueBackCardSaid : Prop := Claim7.holds Tryz.pinned (.plain (OpenSpec.ofChange glueBackSpec)) glueBackCard

/-- THE TIED CARD OF 'vitrinelaw03.GlueTexts'. -/
def glueTextsCard : Claim7 := { stood := { row := glueTextsRow, standIns := [], harness := (true, "c5fdb9e70148711e1c1dfa4bfe753f87aa69520c19f6d367a41fdfb90ef67742"), looks := false }, kinds := [], alts := [], laidByText := true, laidKinds := [.data, .data, .data, .data, .data, .pinned], laidTests := true, laidLooks := .later }
def GlueTextsCardSaid : Prop := Claim7.holds Tryz.pinned (.plain (OpenSpec.ofChange glueTextsSpec)) glueTextsCard

/-- THE TIED CARD OF 'vitrinelaw03.GlueParts'. -/
def gluePartsCard : Claim7 := { stood := { row := gluePartsRow, standIns := [], harness := (true, "c5fdb9e70148711e1c1dfa4bfe753f87aa69520c19f6d367a41fdfb90ef67742"), looks := false }, kinds := [], alts := [], laidByText := true, laidKinds := [.data, .data, .data, .data, .data, .pinned], laidTests := true, laidLooks := .later }
def GluePartsCardSaid : Prop := Claim7.holds Tryz.pinned (.plain (OpenSpec.ofChange gluePartsSpec)) gluePartsCard

/-- THE SECOND FORM's CARD OF 'vitrinelaw03.GlueWrites'. -/
def glueWritesUptoCard : Claim7 := { stood := { row := glueWritesUptoRow, standIns := [], harness := (true, "c5fdb9e70148711e1c1dfa4bfe753f87aa69520c19f6d367a41fdfb90ef67742"), looks := false }, kinds := [], alts := [], laidByText := true, laidKinds := [.data, .data, .data, .data, .data, .pinned], laidTests := true, laidLooks := .later }
def GlueWritesUptoCardSaid : Prop := Claim7.holds Tryz.pinned (.plain (OpenSpec.upto glueWritesSpec)) glueWritesUptoCard

/-- THE SECOND FORM's CARD OF 'vitrinelaw03.GlueBack'. -/
def glueBackUptoCard : Claim7 := { stood := { row := glueBackUptoRow, standIns := [], harness := (true, "c5fdb9e70148711e1c1dfa4bfe753f87aa69520c19f6d367a41fdfb90ef67742"), looks := false }, kinds := [], alts := [], laidByText := true, laidKinds := [.data, .data, .data, .data, .data, .pinned], laidTests := true, laidLooks := .later }
def GlueBackUptoCardSaid : Prop := Claim7.holds Tryz.pinned (.plain (OpenSpec.upto glueBackSpec)) glueBackUptoCard

/-- THE SECOND FORM's CARD OF 'vitrinelaw03.GlueTexts'. -/
def glueTextsUptoCard : Claim7 := { stood := { row := glueTextsUptoRow, standIns := [], harness := (true, "c5fdb9e70148711e1c1dfa4bfe753f87aa69520c19f6d367a41fdfb90ef67742"), looks := false }, kinds := [], alts := [], laidByText := true, laidKinds := [.data, .data, .data, .data, .data, .pinned], laidTests := true, laidLooks := .later }
def GlueTextsUptoCardSaid : Prop := Claim7.holds Tryz.pinned (.plain (OpenSpec.upto glueTextsSpec)) glueTextsUptoCard

/-- THE SECOND FORM's CARD OF 'vitrinelaw03.GlueParts'. -/
def gluePartsUptoCard : Claim7 := { stood := { row := gluePartsUptoRow, standIns := [], harness := (true, "c5fdb9e70148711e1c1dfa4bfe753f87aa69520c19f6d367a41fdfb90ef67742"), looks := false }, kinds := [], alts := [], laidByText := true, laidKinds := [.data, .data, .data, .data, .data, .pinned], laidTests := true, laidLooks := .later }
def GluePartsUptoCardSaid : Prop := Claim7.holds Tryz.pinned (.plain (OpenSpec.upto gluePartsSpec)) gluePartsUptoCard
end Rows
end Go.Proofs.YtmnegokadegioaaGreatDoor
