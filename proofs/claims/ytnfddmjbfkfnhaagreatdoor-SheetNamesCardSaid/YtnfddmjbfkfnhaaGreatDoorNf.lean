/-
  Answers by the kernel. Nothing is claimed here.
-/
import Derived.Test.YtnfddmjbfkfnhaaGreatDoorNa
namespace Go.Proofs.YtnfddmjbfkfnhaaGreatDoor
open Go.Vm Go.Vk Go.RowKit
set_option maxRecDepth 100000000 in
set_option maxHeartbeats 0 in
theorem run4 : chainM tab4 = true := by kernel_rfl
end Go.Proofs.YtnfddmjbfkfnhaaGreatDoor
