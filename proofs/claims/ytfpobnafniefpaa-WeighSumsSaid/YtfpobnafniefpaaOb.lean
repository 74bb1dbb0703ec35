/-
  Nothing is known beforehand of this program. Nothing is claimed here.
-/
import Derived.Test.YtfpobnafniefpaaOc
import Derived.Test.YtfpobnafniefpaaRows
import Derived.KernelRfl
namespace Go.Proofs.Ytfpobnafniefpaa
open Go.Vm Go.RowKit

theorem mixed : Try.prog.follows .mixedOrders = true := by kernel_rfl
theorem names : (Try.prog.funcs.toList.all fun fn => !(fn.name == "runtime.NumGoroutine")) = true := by kernel_rfl
theorem name_of (f : Nat) (fn : Func) (h : Try.prog.funcs[f]? = some fn) : (fn.name == "runtime.NumGoroutine") = false := by
  have := List.all_eq_true.1 names fn (Array.mem_toList_iff.2 (Array.mem_of_getElem? h))
  simpa using this
def ovA (_ : Nat) : Ov := fun _ _ _ => none
theorem ovA_ok {ro : Nat} {B : World} : OvR Try.prog ro B (ovA ro) := fun _ _ _ _ _ _ _ h => by cases h
end Go.Proofs.Ytfpobnafniefpaa
