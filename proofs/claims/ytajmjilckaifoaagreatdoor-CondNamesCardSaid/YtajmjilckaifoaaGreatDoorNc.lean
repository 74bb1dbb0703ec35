/-
  Answers by the kernel. Nothing is claimed here.
-/
import Derived.Test.YtajmjilckaifoaaGreatDoorNa
namespace Go.Proofs.YtajmjilckaifoaaGreatDoor
open Go.Vm Go.Vk Go.RowKit
set_option maxRecDepth 100000000 in
set_option maxHeartbeats 0 in
theorem ans2 : chainB 9 tab2 = true := by kernel_rfl
set_option maxRecDepth 100000000 in
set_option maxHeartbeats 0 in
theorem ans3 : chainB 9 tab3 = true := by kernel_rfl
end Go.Proofs.YtajmjilckaifoaaGreatDoor
