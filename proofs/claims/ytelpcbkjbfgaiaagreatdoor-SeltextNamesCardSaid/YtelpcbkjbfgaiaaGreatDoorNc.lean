/-
  Answers by the kernel. Nothing is claimed here.
-/
import Derived.Test.YtelpcbkjbfgaiaaGreatDoorNa
namespace Go.Proofs.YtelpcbkjbfgaiaaGreatDoor
open Go.Vm Go.Vk Go.RowKit
set_option maxRecDepth 100000000 in
set_option maxHeartbeats 0 in
theorem ans2 : chainB 24 tab2 = true := by kernel_rfl
set_option maxRecDepth 100000000 in
set_option maxHeartbeats 0 in
theorem ans3 : chainB 24 tab3 = true := by kernel_rfl
set_option maxRecDepth 100000000 in
set_option maxHeartbeats 0 in
theorem ans4 : chainB 25 tab4 = true := by kernel_rfl
end Go.Proofs.YtelpcbkjbfgaiaaGreatDoor
