/-
  DERIVED. GIVEN WITH THE SEED: THE CARDS: each row of YtelpcbkjbfgaiaaGreatDoorRows.lean that lists a variable, with what it lists TIED to the program's text (the seventh form; the later family's looks); each row that meets fmt, with fmt's text TOLD by the authors' own Lean function (tested against real Go, not proved from fmt's source: count such statements apart). THE CARD IS WHAT COUNTS. Prove the row's statement (the work); the ties are given (YtelpcbkjbfgaiaaGreatDoorTie.lean); close each card by the builder's one call (the guide's Derived/Test/ToyasCard.lean, 'card_holds'). Laid BY PROGRAM, IN A SANDBOX (cutbox-door.mjs). By AI agents, Wed Nov 11 2026. No macro, syntax, notation, axiom, sorry.
-/
import Derived.Test.YtelpcbkjbfgaiaaGreatDoorRows
import GoSem.ClaimSeven
namespace Go.Proofs.YtelpcbkjbfgaiaaGreatDoor
namespace Rows

/-- THE TIED CARD OF 'vitrinelaw04.NestNames'. -/
def nestNamesCard : Claim7 := { stood := { row := nestNamesRow, standIns := [], harness := (true, "501e948e1ae7b8938e1770a2e4665cce2d7c027b2b02d534eaf06bc3cb44fec8"), looks := false }, kinds := [], alts := [], laidByText := true, laidKinds := [.data, .data, .data, .data, .data, .pinned], laidTests := true, laidLooks := .later }
def NestNamesCardSaid : Prop := Claim7.holds Tryz.pinned (.plain (OpenSpec.ofChange nestNamesSpec)) nestNamesCard

/-- THE TIED CARD OF 'vitrinelaw05.DeclNames'. -/
def declNamesCard : Claim7 := { stood := { row := declNamesRow, standIns := [], harness := (true, "501e948e1ae7b8938e1770a2e4665cce2d7c027b2b02d534eaf06bc3cb44fec8"), looks := false }, kinds := [], alts := [], laidByText := true, laidKinds := [.data, .data, .data, .data, .data, .pinned], laidTests := true, laidLooks := .later }
def DeclNamesCardSaid : Prop := Claim7.holds Tryz.pinned (.plain (OpenSpec.ofChange declNamesSpec)) declNamesCard

/-- THE TIED CARD OF 'vitrinelaw08.SeltextNames'. -/
def seltextNamesCard : Claim7 := { stood := { row := seltextNamesRow, standIns := [], harness := (true, "501e948e1ae7b8938e1770a2e4665cce2d7c027b2b02d534eaf06bc3cb44fec8"), looks := false }, kinds := [], alts := [], laidByText := true, laidKinds := [.data, .data, .data, .data, .data, .data, .pinned], laidTests := true, laidLooks := .later }
def SeltextNamesCardSaid : Prop := Claim7.holds Tryz.pinned (.plain (OpenSpec.ofChange seltextNamesSpec)) seltextNamesCard

/-- THE SECOND FORM's CARD OF 'vitrinelaw04.NestNames'. -/
def nestNamesUptoCard : Claim7 := { stood := { row := nestNamesUptoRow, standIns := [], harness := (true, "501e948e1ae7b8938e1770a2e4665cce2d7c027b2b02d534eaf06bc3cb44fec8"), looks := false }, kinds := [], alts := [], laidByText := true, laidKinds := [.data, .data, .data, .data, .data, .pinned], laidTests := true, laidLooks := .later }
def NestNamesUptoCardSaid : Prop := Claim7.holds Tryz.pinned (.plain (OpenSpec.upto nestNamesSpec)) nestNamesUptoCard

/-- THE SECOND FORM's CARD OF 'vitrinelaw05.DeclNames'. -/
def declNamesUptoCard : Claim7 := { stood := { row := declNamesUptoRow, standIns := [], harness := (true, "501e948e1ae7b8938e1770a2e4665cce2d7c027b2b02d534eaf06bc3cb44fec8"), looks := false }, kinds := [], alts := [], laidByText := true, laidKinds := [.data, .data, .data, .data, .data, .pinned], laidTests := true, laidLooks := .later }
def DeclNamesUptoCardSaid : Prop := Claim7.holds Tryz.pinned (.plain (OpenSpec.upto declNamesSpec)) declNamesUptoCard

/-- THE SECOND FORM's CARD OF 'vitrinelaw08.SeltextNames'. -/
def seltextNamesUptoCard : Claim7 := { stood := { row := seltextNamesUptoRow, standIns := [], harness := (true, "501e948e1ae7b8938e1770a2e4665cce2d7c027b2b02d534eaf06bc3cb44fec8"), looks := false }, kinds := [], alts := [], laidByText := true, laidKinds := [.data, .data, .data, .data, .data, .data, .pinned], laidTests := true, laidLooks := .later }
def SeltextNamesUptoCardSaid : Prop := Claim7.holds Tryz.pinned (.plain (OpenSpec.upto seltextNamesSpec)) seltextNamesUptoCard
end Rows
end Go.Proofs.YtelpcbkjbfgaiaaGreatDoor
