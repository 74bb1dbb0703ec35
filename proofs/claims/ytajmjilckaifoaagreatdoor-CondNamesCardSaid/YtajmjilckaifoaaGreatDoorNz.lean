/-
  The law CondNames in the evaluator. Nothing is claimed here.
-/
import Derived.Test.YtajmjilckaifoaaGreatDoorNb
import Derived.Test.YtajmjilckaifoaaGreatDoorNc
import Derived.Test.YtajmjilckaifoaaGreatDoorNd
import Derived.Test.YtajmjilckaifoaaGreatDoorNe
namespace Go.Proofs.YtajmjilckaifoaaGreatDoor
open Go.Vm Go.Vk Go.RowKit
theorem fine0 : T0.all fineB = true := by kernel_rfl
def ov_0 : Ov0 := fun g a => cond (Nat.beq g 9) (scan T0 a) none
theorem ov_0_ok {B : World} (hB : B.ShapedOpen Tryz.prog) (hG : GOn B gs1) : Ov0OK Tryz.prog B ov_0 := known T0 ⟨_, _, Tryz.func9, rfl⟩ fine0 (mem_app (chain_ok ans0) (mem_app (chain_ok ans1) (mem_app (chain_ok ans2) (mem_app (chain_ok ans3) (mem_app (chain_ok ans4) (chain_ok ans5)))))) hB hG
theorem fine1 : T1.all fineB = true := by kernel_rfl
def ov_1 : Ov0 := fun g a => cond (Nat.beq g 10) (scan T1 a) none
theorem ov_1_ok {B : World} (hB : B.ShapedOpen Tryz.prog) (hG : GOn B gs1) : Ov0OK Tryz.prog B ov_1 := known T1 ⟨_, _, Tryz.func10, rfl⟩ fine1 (mem_app (chain_ok ans6) (mem_app (chain_ok ans7) (chain_ok ans8))) hB hG
def ovK : Ov0 := (fun f args => match ov_0 f args with | some r => some r | none => ov_1 f args)
theorem ovK_ok {B : World} (hB : B.ShapedOpen Tryz.prog) (hG : GOn B gs1) : Ov0OK Tryz.prog B ovK := (orK (ov_0_ok hB hG) (ov_1_ok hB hG))
def ovS : Ov := fun f args st => match ofOv0 ovK f args st with
  | some r => some r
  | none => ov1 GL f args st
theorem ovS_ok {B : World} (hB : B.ShapedOpen Tryz.prog) (hG : GOn B gs1) : OvOK Tryz.prog B ovS := ov_or (ofOv0_ok (ovK_ok hB hG)) (ov1_ok hB)
set_option maxRecDepth 100000000 in
set_option maxHeartbeats 0 in
theorem names1 : kAnswers Tryz.prog live ovS gs1 100000 200 3 [] = true := by kernel_rfl
end Go.Proofs.YtajmjilckaifoaaGreatDoor
