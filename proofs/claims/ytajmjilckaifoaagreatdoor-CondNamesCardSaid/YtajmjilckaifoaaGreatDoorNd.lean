/-
  Answers by the kernel. Nothing is claimed here.
-/
import Derived.Test.YtajmjilckaifoaaGreatDoorNa
namespace Go.Proofs.YtajmjilckaifoaaGreatDoor
open Go.Vm Go.Vk Go.RowKit
set_option maxRecDepth 100000000 in
set_option maxHeartbeats 0 in
theorem ans4 : chainB 9 tab4 = true := by kernel_rfl
set_option maxRecDepth 100000000 in
set_option maxHeartbeats 0 in
theorem ans5 : chainB 9 tab5 = true := by kernel_rfl
set_option maxRecDepth 100000000 in
set_option maxHeartbeats 0 in
theorem ans6 : chainB 10 tab6 = true := by kernel_rfl
end Go.Proofs.YtajmjilckaifoaaGreatDoor
