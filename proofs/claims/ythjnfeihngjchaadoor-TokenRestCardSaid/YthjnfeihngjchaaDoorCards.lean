/-
  DERIVED. GIVEN WITH THE SEED: THE CARDS: each row of YthjnfeihngjchaaDoorRows.lean that lists a variable, with what it lists TIED to the program's text (the seventh form; the later family's looks); each row that meets fmt, with fmt's text TOLD by the authors' own Lean function (tested against real Go, not proved from fmt's source: count such statements apart). THE CARD IS WHAT COUNTS. Prove the row's statement (the work); the ties are given (YthjnfeihngjchaaDoorTie.lean); close each card by the builder's one call (the guide's Derived/Test/ToyasCard.lean, 'card_holds'). Laid BY PROGRAM, IN A SANDBOX (cutbox-door.mjs). By AI agents, Wed Nov 11 2026. No macro, syntax, notation, axiom, sorry.
-/
import Derived.Test.YthjnfeihngjchaaDoorRows
import GoSem.ClaimSeven
namespace Go.Proofs.YthjnfeihngjchaaDoor
namespace Rows

/-- THE TIED CARD OF 'vitrinelaw02.TokenRest'. -/
def tokenRestCard : Claim7 := { stood := { row := tokenRestRow, standIns := [], harness := (true, "d58756c6a47af3097c39b5641ad351bc673965a36923af9511220031fd6efa0e"), looks := false }, kinds := [], alts := [], laidByText := true, laidKinds := [.data, .data, .pinned], laidTests := true, laidLooks := .later }
def TokenRestCardSaid : Prop := Claim7.holds Tryd.pinned (.plain (OpenSpec.ofChange tokenRestSpec)) tokenRestCard

/-- THE SECOND FORM's CARD OF 'vitrinelaw02.TokenRest'. -/
def tokenRestUptoCard : Claim7 := { stood := { row := tokenRestUptoRow, standIns := [], harness := (true, "d58756c6a47af3097c39b5641ad351bc673965a36923af9511220031fd6efa0e"), looks := false }, kinds := [], alts := [], laidByText := true, laidKinds := [.data, .data, .pinned], laidTests := true, laidLooks := .later }
def TokenRestUptoCardSaid : Prop := Claim7.holds Tryd.pinned (.plain (OpenSpec.upto tokenRestSpec)) tokenRestUptoCard
end Rows
end Go.Proofs.YthjnfeihngjchaaDoor
