/-
  Answers by the kernel. Nothing is claimed here.
-/
import Derived.Test.YtnfddmjbfkfnhaaGreatDoorOb
namespace Go.Proofs.YtnfddmjbfkfnhaaGreatDoor
open Go.Vm Go.Vk Go.RowKit
set_option maxRecDepth 100000000 in
set_option maxHeartbeats 0 in
theorem bad17 : kAnswers Tryz.prog live (ovA GL) gs1 100000 200 5 [.i .i64 (.ofNat 17)] = true := by kernel_rfl
set_option maxRecDepth 100000000 in
set_option maxHeartbeats 0 in
theorem bad18 : kAnswers Tryz.prog live (ovA GL) gs1 100000 200 5 [.i .i64 (.ofNat 18)] = true := by kernel_rfl
set_option maxRecDepth 100000000 in
set_option maxHeartbeats 0 in
theorem bad19 : kAnswers Tryz.prog live (ovA GL) gs1 100000 200 5 [.i .i64 (.ofNat 19)] = true := by kernel_rfl
set_option maxRecDepth 100000000 in
set_option maxHeartbeats 0 in
theorem bad20 : kAnswers Tryz.prog live (ovA GL) gs1 100000 200 5 [.i .i64 (.ofNat 20)] = true := by kernel_rfl
end Go.Proofs.YtnfddmjbfkfnhaaGreatDoor
