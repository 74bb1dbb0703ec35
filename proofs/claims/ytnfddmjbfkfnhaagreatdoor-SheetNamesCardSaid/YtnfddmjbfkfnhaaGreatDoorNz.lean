/-
  The law SheetNames in the evaluator. Nothing is claimed here.
-/
import Derived.Test.YtnfddmjbfkfnhaaGreatDoorNb
import Derived.Test.YtnfddmjbfkfnhaaGreatDoorNc
import Derived.Test.YtnfddmjbfkfnhaaGreatDoorNd
import Derived.Test.YtnfddmjbfkfnhaaGreatDoorNe
import Derived.Test.YtnfddmjbfkfnhaaGreatDoorNf
namespace Go.Proofs.YtnfddmjbfkfnhaaGreatDoor
open Go.Vm Go.Vk Go.RowKit
def tabs : List Me := tab0 ++ (tab1 ++ (tab2 ++ (tab3 ++ (tab4))))
theorem tabs_ok : ∀ e ∈ tabs, MeP e := (mem_app (chainM_ok run0) (mem_app (chainM_ok run1) (mem_app (chainM_ok run2) (mem_app (chainM_ok run3) (chainM_ok run4)))))
def ovS : Ov := fun f args st => match ovMs tabs f args st with
  | some r => some r
  | none => ov1 GL f args st
theorem ovS_ok {B : World} (hB : B.ShapedOpen Tryz.prog) : OvOK Tryz.prog B ovS := ov_or (ovMs_ok hB tabs_ok) (ov1_ok hB)
set_option maxRecDepth 100000000 in
set_option maxHeartbeats 0 in
theorem names1 : kAnswers Tryz.prog live ovS gs1 100000 200 3 [] = true := by kernel_rfl
end Go.Proofs.YtnfddmjbfkfnhaaGreatDoor
