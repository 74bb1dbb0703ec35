/- Lemmas. -/
import Derived.Test.YtplpmeednhcjkaaGreatDoorVj
namespace Go.Vk
open Go.Vm
section
variable {P:Program} {ro:Nat}
end
end Go.Vk
namespace Go.Vk
open Go.Vm
section
variable {P:Program} {ro:Nat}
end
end Go.Vk
namespace Go.Vk
open Go.Vm
section
variable {P:Program} {ro:Nat}
end
end Go.Vk
namespace Go.Vk
open Go.Vm
section
variable {P:Program} {ro:Nat}
end
