/-
 The faster evaluator tells nothing but what the evaluator tells: code and zgY. Nothing is claimed here.
-/
import Derived.Test.YtmnegokadegioaaGreatDoorVh
namespace Go.Vk
open Go.Vm
section
variable {P:Program} {ov:Ov} {ro mask nt L:Nat} {ZaN:List Nat} {fr fr0:T V} {ls:List V} {st:St}
end
end Go.Vk
