/- Lemmas. -/
import Derived.Test.YtplpmeednhcjkaaGreatDoorVh
namespace Go.Vk
open Go.Vm
section
variable {P:Program} {ov:Ov} {ro mask nt L:Nat} {JaR:List Nat} {fr fr0:T V} {ls:List V} {st:St}
end
