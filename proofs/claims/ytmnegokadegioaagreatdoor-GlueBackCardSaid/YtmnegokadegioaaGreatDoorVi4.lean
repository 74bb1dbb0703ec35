/-
 The fast evaluator is sound. Nothing is claimed here. (The texts Vi, Vi2, Vi3, Vi4, one behind the other.)
-/
import Derived.Test.YtmnegokadegioaaGreatDoorVj
namespace Go.Vk
open Go.Vm
section
variable {P:Program} {ro:Nat}
end
end Go.Vk
namespace Go.Vk
open Go.Vm
section
variable {P:Program} {ro:Nat}
end
end Go.Vk
namespace Go.Vk
open Go.Vm
section
variable {P:Program} {ro:Nat}
end
end Go.Vk
namespace Go.Vk
open Go.Vm
section
variable {P:Program} {ro:Nat}
end
end Go.Vk
