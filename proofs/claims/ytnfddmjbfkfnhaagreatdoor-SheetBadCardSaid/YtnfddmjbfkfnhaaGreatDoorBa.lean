/-
  Answers by the kernel. Nothing is claimed here.
-/
import Derived.Test.YtnfddmjbfkfnhaaGreatDoorOb
namespace Go.Proofs.YtnfddmjbfkfnhaaGreatDoor
open Go.Vm Go.Vk Go.RowKit
set_option maxRecDepth 100000000 in
set_option maxHeartbeats 0 in
theorem bad0 : kAnswers Tryz.prog live (ovA GL) gs1 100000 200 5 [.i .i64 (.ofNat 0)] = true := by kernel_rfl
set_option maxRecDepth 100000000 in
set_option maxHeartbeats 0 in
theorem bad1 : kAnswers Tryz.prog live (ovA GL) gs1 100000 200 5 [.i .i64 (.ofNat 1)] = true := by kernel_rfl
set_option maxRecDepth 100000000 in
set_option maxHeartbeats 0 in
theorem bad2 : kAnswers Tryz.prog live (ovA GL) gs1 100000 200 5 [.i .i64 (.ofNat 2)] = true := by kernel_rfl
set_option maxRecDepth 100000000 in
set_option maxHeartbeats 0 in
theorem bad3 : kAnswers Tryz.prog live (ovA GL) gs1 100000 200 5 [.i .i64 (.ofNat 3)] = true := by kernel_rfl
set_option maxRecDepth 100000000 in
set_option maxHeartbeats 0 in
theorem bad4 : kAnswers Tryz.prog live (ovA GL) gs1 100000 200 5 [.i .i64 (.ofNat 4)] = true := by kernel_rfl
set_option maxRecDepth 100000000 in
set_option maxHeartbeats 0 in
theorem bad5 : kAnswers Tryz.prog live (ovA GL) gs1 100000 200 5 [.i .i64 (.ofNat 5)] = true := by kernel_rfl
set_option maxRecDepth 100000000 in
set_option maxHeartbeats 0 in
theorem bad6 : kAnswers Tryz.prog live (ovA GL) gs1 100000 200 5 [.i .i64 (.ofNat 6)] = true := by kernel_rfl
set_option maxRecDepth 100000000 in
set_option maxHeartbeats 0 in
theorem bad7 : kAnswers Tryz.prog live (ovA GL) gs1 100000 200 5 [.i .i64 (.ofNat 7)] = true := by kernel_rfl
set_option maxRecDepth 100000000 in
set_option maxHeartbeats 0 in
theorem bad8 : kAnswers Tryz.prog live (ovA GL) gs1 100000 200 5 [.i .i64 (.ofNat 8)] = true := by kernel_rfl
end Go.Proofs.YtnfddmjbfkfnhaaGreatDoor
