/-
 A delimiter, byte by byte, by the evaluator. Nothing is claimed here.
-/
import Derived.Test.YtmnegokadegioaaGreatDoorOd
namespace Go.Proofs.YtmnegokadegioaaGreatDoor
open Go.Vm Go.RowKit
set_option maxRecDepth 100000000 in
theorem ji8:jik 86 (fun k=>dlE (k+0))=true:=by kernel_rfl
end Go.Proofs.YtmnegokadegioaaGreatDoor
