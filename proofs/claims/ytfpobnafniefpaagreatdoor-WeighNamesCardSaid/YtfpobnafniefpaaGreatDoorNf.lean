/-
  Answers by the kernel. Nothing is claimed here.
-/
import Derived.Test.YtfpobnafniefpaaGreatDoorNa
namespace Go.Proofs.YtfpobnafniefpaaGreatDoor
open Go.Vm Go.Vk Go.RowKit
set_option maxRecDepth 100000000 in
set_option maxHeartbeats 0 in
theorem ans4 : (tab4.all (ansB 5)) = true := by kernel_rfl
end Go.Proofs.YtfpobnafniefpaaGreatDoor
