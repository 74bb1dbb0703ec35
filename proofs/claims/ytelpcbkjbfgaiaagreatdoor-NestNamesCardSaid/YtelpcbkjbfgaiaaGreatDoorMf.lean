/-
  An answer by the kernel. Nothing is claimed here.
-/
import Derived.Test.YtelpcbkjbfgaiaaGreatDoorMc
namespace Go.Proofs.YtelpcbkjbfgaiaaGreatDoor
open Go.Vm Go.Vk Go.RowKit
set_option maxRecDepth 100000000 in
set_option maxHeartbeats 0 in
theorem me2r : runB me2 me2.f me2.args me2.small = true := by kernel_rfl
end Go.Proofs.YtelpcbkjbfgaiaaGreatDoor
