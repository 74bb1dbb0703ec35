/-
  DERIVED. GIVEN WITH THE SEED: THE CARDS: each row of YtbpbaicbaehhjaaDoorRows.lean that lists a variable, with what it lists TIED to the program's text (the seventh form; the later family's looks); each row that meets fmt, with fmt's text TOLD by the authors' own Lean function (tested against real Go, not proved from fmt's source: count such statements apart). THE CARD IS WHAT COUNTS. Prove the row's statement (the work); the ties are given (YtbpbaicbaehhjaaDoorTie.lean); close each card by the builder's one call (the guide's Derived/Test/ToyasCard.lean, 'card_holds'). Laid BY PROGRAM, IN A SANDBOX (cutbox-door.mjs). By AI agents, Wed Nov 11 2026. No macro, syntax, notation, axiom, sorry.
-/
import Derived.Test.YtbpbaicbaehhjaaDoorRows
import GoSem.ClaimSeven
namespace Go.Proofs.YtbpbaicbaehhjaaDoor
namespace Rows

/-- THE TIED CARD OF 'vitrinelaw07.AnbTells'. -/
def anbTellsCard : Claim7 := { stood := { row := anbTellsRow, standIns := [], harness := (true, "b7f47e88dc8b09b73ceb5a9bc0363fe228929c4c88560655fac1aeeeaa9f47f8"), looks := false }, kinds := [], alts := [], laidByText := true, laidKinds := [.data, .data, .data], laidTests := true, laidLooks := .later }
def AnbTellsCardSaid : Prop := Claim7.holds Tryd.pinned (.plain (OpenSpec.ofChange anbTellsSpec)) anbTellsCard

/-- THE SECOND FORM's CARD OF 'vitrinelaw07.AnbTells'. -/
def anbTellsUptoCard : Claim7 := { stood := { row := anbTellsUptoRow, standIns := [], harness := (true, "b7f47e88dc8b09b73ceb5a9bc0363fe228929c4c88560655fac1aeeeaa9f47f8"), looks := false }, kinds := [], alts := [], laidByText := true, laidKinds := [.data, .data, .data], laidTests := true, laidLooks := .later }
def AnbTellsUptoCardSaid : Prop := Claim7.holds Tryd.pinned (.plain (OpenSpec.upto anbTellsSpec)) anbTellsUptoCard
end Rows
end Go.Proofs.YtbpbaicbaehhjaaDoor
