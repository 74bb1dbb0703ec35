/-
 strconv.AppendInt at a slice of bytes: what it does before it appends. Nothing is claimed here.
-/
import Derived.Shelf.Strconv.AppendIntPublic10
import Derived.Shelf.Spec.TrailingZeros
import Derived.Lib.AppendZeros
import Derived.LoopN
import Derived.Test.YtbpbaicbaehhjaaGreatDoorVa4
set_option linter.unusedVariables false
set_option linter.unusedSimpArgs false
namespace Go.Vm
open Go.Proofs Go.Shelf Go.RowKit Go.Sort Go.Lib
variable {P : Program} {ρ : Ren}
end Go.Vm
set_option linter.unusedVariables false
set_option linter.unusedSimpArgs false
namespace Go.Vm
open Go.Proofs Go.Shelf Go.RowKit Go.Sort Go.Lib
variable {P : Program} {ρ : Ren} {w : World}
def ZdN (n : Nat) : UInt8 := if n < 10 then UInt8.ofNat (48 + n) else UInt8.ofNat (87 + n)
def JgZ (u : Nat) : List UInt8 := if u < 16 then [ZdN u] else [ZdN (u / 16), ZdN (u % 16)]
end Go.Vm
set_option linter.unusedVariables false
set_option linter.unusedSimpArgs false
namespace Go.Vm
open Go.Proofs Go.Shelf Go.RowKit Go.Sort Go.Lib
variable {P : Program} {ρ : Ren}
structure Tabs (ρ : Ren) (B : World) : Prop where
 p10 : ∃ e fz, B.heap[ρ.g 17]? = some (.cells (Lib.pow10Tab.map fun z => Value.int .u64 z).toArray e fz)
 db : B.cell? ⟨ρ.g 19, 15, none⟩ = some (.int .u8 4)
end Go.Vm
