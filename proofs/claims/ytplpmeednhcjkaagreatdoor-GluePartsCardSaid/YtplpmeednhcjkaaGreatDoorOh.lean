/- Lemmas. -/
import Derived.Test.YtplpmeednhcjkaaGreatDoorOd
namespace Go.Proofs.YtplpmeednhcjkaaGreatDoor
open Go.Vm Go.RowKit
set_option maxRecDepth 100000000 in
theorem ZiR:jiR 84 (λk=>dlE (k+172))=true:=by kernel_rfl
