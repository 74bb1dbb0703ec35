/-
  The law WeighNames in the evaluator. Nothing is claimed here.
-/
import Derived.Test.YtfpobnafniefpaaGreatDoorNb
import Derived.Test.YtfpobnafniefpaaGreatDoorNc
import Derived.Test.YtfpobnafniefpaaGreatDoorNd
import Derived.Test.YtfpobnafniefpaaGreatDoorNe
import Derived.Test.YtfpobnafniefpaaGreatDoorNf
namespace Go.Proofs.YtfpobnafniefpaaGreatDoor
open Go.Vm Go.Vk Go.RowKit
theorem fineW : Tw.all fineB = true := by kernel_rfl
def ovW : Ov0 := fun g a => cond (Nat.beq g 5) (scan Tw a) none
theorem ovW_ok {B : World} (hB : B.ShapedOpen Tryz.prog) (hG : GOn B gs1) : Ov0OK Tryz.prog B ovW := known Tw ⟨_, _, Tryz.func5, rfl⟩ fineW (all_app ans0 (all_app ans1 (all_app ans2 (all_app ans3 ans4)))) hB hG
def ovS : Ov := fun f args st => match ofOv0 ovW f args st with
  | some r => some r
  | none => ov1 GL f args st
theorem ovS_ok {B : World} (hB : B.ShapedOpen Tryz.prog) (hG : GOn B gs1) : OvOK Tryz.prog B ovS := ov_or (ofOv0_ok (ovW_ok hB hG)) (ov1_ok hB)
set_option maxRecDepth 100000000 in
set_option maxHeartbeats 0 in
theorem names1 : kAnswers Tryz.prog live ovS gs1 100000 200 3 [] = true := by kernel_rfl
end Go.Proofs.YtfpobnafniefpaaGreatDoor
