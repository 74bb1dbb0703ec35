/- Lemmas. -/
import Derived.Test.YtplpmeednhcjkaaGreatDoorOd
namespace Go.Proofs.YtplpmeednhcjkaaGreatDoor
open Go.Vm Go.RowKit
set_option maxRecDepth 100000000 in
theorem JjH:jiR 86 (λk=>dlE (k+0))=true:=by kernel_rfl
