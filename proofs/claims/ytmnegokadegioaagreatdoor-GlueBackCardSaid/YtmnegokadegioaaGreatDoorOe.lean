/-
 The examples, by the evaluator. Nothing is claimed here.
-/
import Derived.Test.YtmnegokadegioaaGreatDoorOd
namespace Go.Proofs.YtmnegokadegioaaGreatDoor
open Go.Vm Go.RowKit
set_option maxRecDepth 100000000 in
theorem zi8:alE=true:=by kernel_rfl
end Go.Proofs.YtmnegokadegioaaGreatDoor
