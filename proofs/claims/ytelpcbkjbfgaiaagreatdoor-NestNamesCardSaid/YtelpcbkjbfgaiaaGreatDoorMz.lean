/-
  The law NestNames in the evaluator. Nothing is claimed here.
-/
import Derived.Test.YtelpcbkjbfgaiaaGreatDoorMb
import Derived.Test.YtelpcbkjbfgaiaaGreatDoorMd
import Derived.Test.YtelpcbkjbfgaiaaGreatDoorMf
namespace Go.Proofs.YtelpcbkjbfgaiaaGreatDoor
open Go.Vm Go.Vk Go.RowKit
theorem fine0 : T0.all fineB = true := by kernel_rfl
def ov_0 : Ov0 := fun g a => cond (Nat.beq g 9) (scan T0 a) none
theorem ov_0_ok {B : World} (hB : B.ShapedOpen Tryz.prog) (hG : GOn B gs1) : Ov0OK Tryz.prog B ov_0 := known T0 ⟨_, _, Tryz.func9, rfl⟩ fine0 (chain_ok ans0) hB hG
def ovK : Ov0 := ov_0
theorem ovK_ok {B : World} (hB : B.ShapedOpen Tryz.prog) (hG : GOn B gs1) : Ov0OK Tryz.prog B ovK := (ov_0_ok hB hG)
def ovM1 : Ov := fun f args st => match me1.ov f args st with
  | some r => some r
  | none => me2.ov f args st
def ovM2 : Ov := fun f args st => match ofOv0 ovK f args st with
  | some r => some r
  | none => ovM1 f args st
def ovS : Ov := fun f args st => match ovM2 f args st with
  | some r => some r
  | none => ov1 GL f args st
theorem ovS_ok {B : World} (hB : B.ShapedOpen Tryz.prog) (hG : GOn B gs1) : OvOK Tryz.prog B ovS :=
  ov_or (ov_or (ofOv0_ok (ovK_ok hB hG)) (ov_or (memo_ok (ov1_ok hB) mixed name_of me1 (run_ok me1r)) (memo_ok (ov1_ok hB) mixed name_of me2 (run_ok me2r)))) (ov1_ok hB)
set_option maxRecDepth 100000000 in
set_option maxHeartbeats 0 in
theorem names1 : kAnswers Tryz.prog live ovS gs1 100000 200 3 [] = true := by kernel_rfl
end Go.Proofs.YtelpcbkjbfgaiaaGreatDoor
