/-
  The law SheetBad holds at every input: it returns true, and what came in reads as it did. The listed package-level variables hold what the program's text lays; that is tied to the text by the card.
-/
import Derived.Test.YtnfddmjbfkfnhaaGreatDoorEb
import Derived.Test.YtnfddmjbfkfnhaaGreatDoorCards
import Derived.Test.YtnfddmjbfkfnhaaGreatDoorTie
namespace Go.Proofs.YtnfddmjbfkfnhaaGreatDoor.sheetBadLaw
open Go.RowKit Go.ChangeShapes Go.WideShapes Go.ChangeAt Go.Vm Go.Vk
open Go.ChangeMaps (open_string shut_string)

theorem pd_wf : Rows.sheetBadRow.wfByText (OpenSpec.ofChange Rows.sheetBadSpec) = true := by kernel_rfl
theorem pd_main : Tryz.prog.mainIs = some (true, "13e53d46d7b98816fc90281062463a93df5840e1f61cca12d3138488e53be778".toList) := by kernel_rfl
theorem pd_named : Tryz.prog.funcNamed Rows.sheetBadRow.func = some 5 := by kernel_rfl
theorem pd_looks : false = Tryz.prog.looks [] := by kernel_rfl
theorem pd_goes : false = Rows.sheetBadRow.goesBy Tryz.prog := by kernel_rfl
theorem proved : Rows.SheetBadCardSaid :=
  Claim7.holds_tied_plain_at .later [] [.data, .data, .data, .pinned] true (true, "13e53d46d7b98816fc90281062463a93df5840e1f61cca12d3138488e53be778") false row_holds (fun _ h => by cases h) pd_wf (fun _ h => by cases h) sheetBad_row_tie rfl ⟨rfl, rfl⟩ pd_main rfl
    (fun f fn hf hfn => by
      obtain rfl : f = 5 := Option.some.inj ((pd_named).symm.trans hf) |>.symm
      obtain rfl : fn = Tryz.f5 := (Option.some.inj (Tryz.func5.symm.trans hfn)).symm
      exact ⟨pd_looks, fun j t ht => by
        rw [Tryz.params5] at ht
        have hm : t ∈ ([3] : List TypeId) := by simpa using Array.mem_of_getElem? ht
        have hall : (([3] : List TypeId).all fun u => !Tryz.prog.wantsStandIn u) = true := by kernel_rfl
        exact (show Tryz.prog.wantsStandIn t = false by simpa using List.all_eq_true.1 hall t hm)⟩)
    pd_goes
end Go.Proofs.YtnfddmjbfkfnhaaGreatDoor.sheetBadLaw
