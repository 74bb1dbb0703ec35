/- Lemmas. -/
import Derived.Test.YtplpmeednhcjkaaGreatDoorOd
namespace Go.Proofs.YtplpmeednhcjkaaGreatDoor
open Go.Vm Go.RowKit
set_option maxRecDepth 100000000 in
theorem ZjH:alE=true:=by kernel_rfl
