/-
 GlueNames in the evaluator. Nothing is claimed here.
-/
import Derived.Test.YtkokbidbmidlbaaGreatDoorHh1
namespace Go.Proofs.YtkokbidbmidlbaaGreatDoor
open Go.Vm Go.Vk Go.RowKit
set_option maxRecDepth 100000000 in
theorem Zgu : zc0 Tryz.prog jdf ovB gs1 100000 200 3 [] = true := by kernel_rfl
end Go.Proofs.YtkokbidbmidlbaaGreatDoor
