/-
  AnbNames: it answers. Nothing is claimed here.
-/
import Derived.Test.YtbpbaicbaehhjaaGreatDoorOb
namespace Go.Proofs.YtbpbaicbaehhjaaGreatDoor
open Go.Vm Go.Vk Go.RowKit
set_option maxRecDepth 100000000 in
theorem names1 : kAnswers Tryz.prog live (ov1 GL) gs1 100000 200 3 [] = true := by kernel_rfl
end Go.Proofs.YtbpbaicbaehhjaaGreatDoor
