/-
  An answer by the kernel. Nothing is claimed here.
-/
import Derived.Test.YtelpcbkjbfgaiaaGreatDoorMc
namespace Go.Proofs.YtelpcbkjbfgaiaaGreatDoor
open Go.Vm Go.Vk Go.RowKit
set_option maxRecDepth 100000000 in
set_option maxHeartbeats 0 in
theorem me1r : runB me1 me1.f me1.args me1.small = true := by kernel_rfl
end Go.Proofs.YtelpcbkjbfgaiaaGreatDoor
