/-
  Answers by the kernel. Nothing is claimed here.
-/
import Derived.Test.YtelpcbkjbfgaiaaGreatDoorNa
namespace Go.Proofs.YtelpcbkjbfgaiaaGreatDoor
open Go.Vm Go.Vk Go.RowKit
set_option maxRecDepth 100000000 in
set_option maxHeartbeats 0 in
theorem ans9 : chainB 25 tab9 = true := by kernel_rfl
set_option maxRecDepth 100000000 in
set_option maxHeartbeats 0 in
theorem ans10 : chainB 25 tab10 = true := by kernel_rfl
end Go.Proofs.YtelpcbkjbfgaiaaGreatDoor
