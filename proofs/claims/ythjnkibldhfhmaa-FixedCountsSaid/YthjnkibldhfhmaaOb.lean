/-
  What is known beforehand of this program: Mul64. Nothing is claimed here.
-/
import Derived.Test.YthjnkibldhfhmaaLp
import Derived.Test.YthjnkibldhfhmaaAx
import Derived.Test.YthjnkibldhfhmaaRows
import Derived.KernelRfl
namespace Go.Proofs.Ythjnkibldhfhmaa
open Go.Vm Go.RowKit

theorem mixed : Try.prog.follows .mixedOrders = true := by kernel_rfl
theorem names : (Try.prog.funcs.toList.all fun fn => !(fn.name == "runtime.NumGoroutine")) = true := by kernel_rfl
theorem name_of (f : Nat) (fn : Func) (h : Try.prog.funcs[f]? = some fn) : (fn.name == "runtime.NumGoroutine") = false := by
  have := List.all_eq_true.1 names fn (Array.mem_toList_iff.2 (Array.mem_of_getElem? h))
  simpa using this
def ov2 : Ov0 := vmul 16
def ovA (_ : Nat) : Ov := ofOv0 ov2
theorem ovA_ok {ro : Nat} {B : World} : OvR Try.prog ro B (ovA ro) := ofOv0_ok (vmul_ok Try.lays264)
end Go.Proofs.Ythjnkibldhfhmaa
