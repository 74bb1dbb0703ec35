/-
  What is known beforehand of this program: strconv.FormatInt; what the listed variables hold. Nothing is claimed here.
-/
import Derived.Test.YtbpbaicbaehhjaaDoorOc
import Derived.Test.YtbpbaicbaehhjaaDoorLp
import Derived.Test.YtbpbaicbaehhjaaDoorAy
import Derived.Test.YtbpbaicbaehhjaaDoorRows
import Derived.KernelRfl
import Derived.MakeChecks
namespace Go.Proofs.YtbpbaicbaehhjaaDoor
open Go.Vm Go.RowKit

theorem mixed : Tryd.prog.follows .mixedOrders = true := by kernel_rfl
theorem names : (Tryd.prog.funcs.toList.all fun fn => !(fn.name == "runtime.NumGoroutine")) = true := by kernel_rfl
theorem name_of (f : Nat) (fn : Func) (h : Tryd.prog.funcs[f]? = some fn) : (fn.name == "runtime.NumGoroutine") = false := by
  have := List.all_eq_true.1 names fn (Array.mem_toList_iff.2 (Array.mem_of_getElem? h))
  simpa using this

def gv1 : List V := [0,1,28,2,29,14,24,3,30,22,20,15,25,17,4,8,31,27,13,23,21,19,16,7,26,12,18,6,11,5,10,9].map fun n => .i .u8 (.ofNat n)
def gv2 : List V := [0,1,56,2,57,49,28,3,61,58,42,50,38,29,17,4,62,47,59,36,45,43,51,22,53,39,33,30,24,18,12,5,63,55,48,27,60,41,37,16,46,35,44,21,52,32,23,11,54,26,40,15,34,20,31,10,25,14,19,9,13,8,7,6].map fun n => .i .u8 (.ofNat n)
def gv0 : List V := [1,10,100,1000,10000,100000,1000000,10000000,100000000,1000000000,10000000000,100000000000,1000000000000,10000000000000,100000000000000,1000000000000000,10000000000000000,100000000000000000,1000000000000000000,10000000000000000000].map fun n => .i .u64 (.ofNat n)
def gs1 : List (Nat × List V) := [(1, gv1), (2, gv2), (0, gv0)]
theorem gon {W : World} (h : laidMetH Tryd.prog Rows.anbTellsRow.laid W) : GOn W gs1 := by
  rw [MakeChecks.laidMetH_plain _ _ _ (by kernel_rfl)] at h
  have hr := fun n d hm => Lib.laidMet.reads (n := n) (d := d) h hm
  intro x hx
  simp only [gs1, List.mem_cons, List.not_mem_nil, or_false] at hx
  rcases hx with rfl | rfl | rfl
  · exact laid_at (hr _ _ (List.mem_cons_self ..)) 4 (t0 := 65) (by kernel_rfl) (by kernel_rfl) (by decide) (by kernel_rfl)
  · exact laid_at (hr _ _ (List.mem_cons_of_mem _ (List.mem_cons_self ..))) 4 (t0 := 66) (by kernel_rfl) (by kernel_rfl) (by decide) (by kernel_rfl)
  · exact laid_at (hr _ _ (List.mem_cons_of_mem _ (List.mem_cons_of_mem _ (List.mem_cons_self ..)))) 4 (t0 := 58) (by kernel_rfl) (by kernel_rfl) (by decide) (by kernel_rfl)
theorem p10 {B : World} (hG : GOn B gs1) : ∃ e fz, B.heap[Tryd.lays173_ren.g 17]? = some (.cells (Lib.pow10Tab.map fun z => Value.int .u64 z).toArray e fz) := by
  obtain ⟨_, _, c, e, fz, h1, h2⟩ := hG (0, gv0) (List.mem_cons_of_mem _ (List.mem_cons_of_mem _ (List.mem_cons_self ..)))
  refine ⟨e, fz, ?_⟩
  show B.heap[0]? = _
  rw [h1]
  have : c = (Lib.pow10Tab.map fun z => Value.int .u64 z).toArray := Array.ext' (by rw [h2]; rfl)
  rw [this]
def ov2 : Ov0 := vfmt 20
theorem ov2_ok {B : World} (hG : GOn B gs1) : Ov0OK Tryd.prog B ov2 := vfmt_ok Tryd.lays173 (p10 hG)
def ovA (_ : Nat) : Ov := ofOv0 ov2
theorem ovA_ok {ro : Nat} {B : World} (hG : GOn B gs1) : OvR Tryd.prog ro B (ovA ro) := ofOv0_ok (ov2_ok hG)
end Go.Proofs.YtbpbaicbaehhjaaDoor
