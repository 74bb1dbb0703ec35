/-
  The law FixedNames, in the faster evaluator. Nothing is claimed here.
-/
import Derived.Test.YthjnkibldhfhmaaDoorOb
namespace Go.Proofs.YthjnkibldhfhmaaDoor
open Go.Vm Go.Vk Go.RowKit
set_option maxRecDepth 100000000 in
theorem names1 : kAnswers Tryd.prog live (ovA GL) gs1 100000 200 3 [] = true := by kernel_rfl
end Go.Proofs.YthjnkibldhfhmaaDoor
