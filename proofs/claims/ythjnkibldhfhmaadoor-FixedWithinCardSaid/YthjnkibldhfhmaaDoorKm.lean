/-
  What the listed variables hold, for the laws that list three. Nothing is claimed here.
-/
import Derived.Test.YthjnkibldhfhmaaDoorOb
namespace Go.Proofs.YthjnkibldhfhmaaDoor
open Go.Vm Go.Vk Go.RowKit
theorem gon2 {W : World} (h : laidMetH Tryd.prog Rows.fixedOrderRow.laid W) : GOn W gs1 := by
  rw [MakeChecks.laidMetH_plain _ _ _ (by kernel_rfl)] at h
  have hr := fun n d hm => Lib.laidMet.reads (n := n) (d := d) h hm
  intro x hx
  simp only [gs1, List.mem_cons, List.not_mem_nil, or_false] at hx
  rcases hx with rfl | rfl | rfl
  · exact laid_at (hr _ _ (List.mem_cons_self ..)) 4 (t0 := 95) (by kernel_rfl) (by kernel_rfl) (by decide) (by kernel_rfl)
  · exact laid_at (hr _ _ (List.mem_cons_of_mem _ (List.mem_cons_self ..))) 4 (t0 := 96) (by kernel_rfl) (by kernel_rfl) (by decide) (by kernel_rfl)
  · exact laid_at (hr _ _ (List.mem_cons_of_mem _ (List.mem_cons_of_mem _ (List.mem_cons_self ..)))) 4 (t0 := 81) (by kernel_rfl) (by kernel_rfl) (by decide) (by kernel_rfl)

end Go.Proofs.YthjnkibldhfhmaaDoor
