/-
  Answers by the kernel. Nothing is claimed here.
-/
import Derived.Test.YtajmjilckaifoaaGreatDoorNa
namespace Go.Proofs.YtajmjilckaifoaaGreatDoor
open Go.Vm Go.Vk Go.RowKit
set_option maxRecDepth 100000000 in
set_option maxHeartbeats 0 in
theorem ans0 : chainB 9 tab0 = true := by kernel_rfl
set_option maxRecDepth 100000000 in
set_option maxHeartbeats 0 in
theorem ans1 : chainB 9 tab1 = true := by kernel_rfl
end Go.Proofs.YtajmjilckaifoaaGreatDoor
