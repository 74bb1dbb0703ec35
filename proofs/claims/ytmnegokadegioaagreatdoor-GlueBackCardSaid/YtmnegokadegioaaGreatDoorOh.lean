/-
 A delimiter, byte by byte, by the evaluator. Nothing is claimed here.
-/
import Derived.Test.YtmnegokadegioaaGreatDoorOd
namespace Go.Proofs.YtmnegokadegioaaGreatDoor
open Go.Vm Go.RowKit
set_option maxRecDepth 100000000 in
theorem Zik:jik 84 (fun k=>dlE (k+172))=true:=by kernel_rfl
end Go.Proofs.YtmnegokadegioaaGreatDoor
