/-
  Answers by the kernel. Nothing is claimed here.
-/
import Derived.Test.YtnfddmjbfkfnhaaGreatDoorOb
namespace Go.Proofs.YtnfddmjbfkfnhaaGreatDoor
open Go.Vm Go.Vk Go.RowKit
set_option maxRecDepth 100000000 in
set_option maxHeartbeats 0 in
theorem bad9 : kAnswers Tryz.prog live (ovA GL) gs1 100000 200 5 [.i .i64 (.ofNat 9)] = true := by kernel_rfl
set_option maxRecDepth 100000000 in
set_option maxHeartbeats 0 in
theorem bad10 : kAnswers Tryz.prog live (ovA GL) gs1 100000 200 5 [.i .i64 (.ofNat 10)] = true := by kernel_rfl
set_option maxRecDepth 100000000 in
set_option maxHeartbeats 0 in
theorem bad11 : kAnswers Tryz.prog live (ovA GL) gs1 100000 200 5 [.i .i64 (.ofNat 11)] = true := by kernel_rfl
set_option maxRecDepth 100000000 in
set_option maxHeartbeats 0 in
theorem bad12 : kAnswers Tryz.prog live (ovA GL) gs1 100000 200 5 [.i .i64 (.ofNat 12)] = true := by kernel_rfl
set_option maxRecDepth 100000000 in
set_option maxHeartbeats 0 in
theorem bad13 : kAnswers Tryz.prog live (ovA GL) gs1 100000 200 5 [.i .i64 (.ofNat 13)] = true := by kernel_rfl
set_option maxRecDepth 100000000 in
set_option maxHeartbeats 0 in
theorem bad14 : kAnswers Tryz.prog live (ovA GL) gs1 100000 200 5 [.i .i64 (.ofNat 14)] = true := by kernel_rfl
set_option maxRecDepth 100000000 in
set_option maxHeartbeats 0 in
theorem bad15 : kAnswers Tryz.prog live (ovA GL) gs1 100000 200 5 [.i .i64 (.ofNat 15)] = true := by kernel_rfl
set_option maxRecDepth 100000000 in
set_option maxHeartbeats 0 in
theorem bad16 : kAnswers Tryz.prog live (ovA GL) gs1 100000 200 5 [.i .i64 (.ofNat 16)] = true := by kernel_rfl
end Go.Proofs.YtnfddmjbfkfnhaaGreatDoor
