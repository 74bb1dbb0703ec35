/-
  The law WeighOrder holds at every input: it returns true, and what came in reads as it did. The listed package-level variables hold what the program's text lays; that is tied to the text by the card.
-/
import Derived.Test.YtfpobnafniefpaaGreatDoorRows
import Derived.Test.YtfpobnafniefpaaGreatDoorCards
import Derived.Test.YtfpobnafniefpaaGreatDoorTie
import Derived.SevenTiedAt
import Derived.Lay
import Derived.Test.YtfpobnafniefpaaGreatDoorAt
import Derived.Test.YtfpobnafniefpaaGreatDoorAn
import Derived.Test.YtfpobnafniefpaaGreatDoorKe
namespace Go.Proofs.YtfpobnafniefpaaGreatDoor.weighOrderLaw
open Go.RowKit Go.ChangeShapes Go.WideShapes Go.ChangeAt Go.Vm
open Go.ChangeMaps (open_string shut_string)

theorem own : ownKnob Tryz.prog.godebug = none := by kernel_rfl
theorem kids : Kids Tryz.prog (· < Tryz.prog.types.size) := kids_rows (by kernel_rfl) (by kernel_rfl)
theorem full : ∀ t e, t < Tryz.prog.types.size → Tryz.prog.underlying t = some (.slice e) → 0 < Tryz.prog.cellsOf e := slices_full_of _ (by kernel_rfl)
theorem calls (a1 a2 a3 : Int) (b1 b2 b3 : Int) (c1 c2 c3 : Int) (W : World) (hL : laidMetH Tryz.prog Rows.weighOrderRow.laid W) (hB : W.ShapedOpen Tryz.prog) : Calls Tryz.prog 4 #[.agg #[.int .i64 a1, .int .i64 a2, .int .i64 a3], .agg #[.int .i64 b1, .int .i64 b2, .int .i64 b3], .agg #[.int .i64 c1, .int .i64 c2, .int .i64 c3]] W fun e w' => e = .returned (.bool true) ∧ Below W.heap.size W w' :=
  law_calls (gon hL) (ovA_ok (ro := GL) hB (gon hL)) mixed name_of (args := [.a [.i .i64 a1, .i .i64 a2, .i .i64 a3], .a [.i .i64 b1, .i .i64 b2, .i .i64 b3], .a [.i .i64 c1, .i .i64 c2, .i .i64 c3]]) (by simp only [V.oks, V.ok, and_self]) (law_ev a1 a2 a3 b1 b2 b3 c1 c2 c3) _ (fun J => by simp only [V.reals, V.real])

set_option maxRecDepth 100000 in
theorem contract (H : Type) (enc : TypeId × Value → H) (W : World) (base : Nat) (args : Array Value) (ds gs : List (DataW H)) (before : List MemPlace)
    (hval : ∀ (j : Nat) t v, Tryz.f4.params[j]? = some t → args[j]? = some v → Value.okWide Tryz.prog W .any base t v)
    (hW : DataW.Whole enc Tryz.prog Tryz.f4.params.toList Rows.weighOrderSpec.vars false W args.toList ds gs before) (hL : laidMetH Tryz.prog Rows.weighOrderRow.laid W) (hB : W.ShapedOpen Tryz.prog) :
    Calls Tryz.prog 4 args W fun e W' => ∃ v, e = .returned v ∧ Rows.weighOrderSpec.post enc Tryz.prog Tryz.f4 false true false false W args v W' := by
  have hW' := hW
  obtain ⟨p, q, hA0, hV, rfl, -, -⟩ := hW
  have hA : DataW.TrodAll enc Tryz.prog W 0 (fun _ => true) true Tryz.f4.params.toList args.toList ds p := hA0
  rw [Tryz.params4] at hA hval
  obtain ⟨v0, r0, d0, e0, p0, q0, hargs, rfl, rfl, t0, u0⟩ := trodAll_cons hA
  obtain ⟨v1, r1, d1, e1, p1, q1, rfl, rfl, rfl, t1, u1⟩ := trodAll_cons u0
  obtain ⟨v2, r2, d2, e2, p2, q2, rfl, rfl, rfl, t2, u2⟩ := trodAll_cons u1
  obtain ⟨rfl, rfl, rfl⟩ := trodAll_nil u2
  obtain rfl : args = #[v0, v1, v2] := by cases args; simp_all
  obtain ⟨rfl, rfl⟩ := trodVars_none hV
  obtain ⟨a1, a2, a3, rfl⟩ := open_three Tryz.underlying28 (by kernel_rfl) (by kernel_rfl) Tryz.underlying3 t0
  obtain ⟨b1, b2, b3, rfl⟩ := open_three Tryz.underlying28 (by kernel_rfl) (by kernel_rfl) Tryz.underlying3 t1
  obtain ⟨c1, c2, c3, rfl⟩ := open_three Tryz.underlying28 (by kernel_rfl) (by kernel_rfl) Tryz.underlying3 t2
  clear hA0
  simp only [List.append_nil] at hW'
  refine (calls a1 a2 a3 b1 b2 b3 c1 c2 c3 W hL hB).mono fun e W' ⟨he, hb⟩ => ⟨_, he, ?_⟩
  exact law_postW (tb := 4) kids full (by decide) rfl hW' rfl rfl Tryz.underlying4 hb

set_option maxRecDepth 100000 in
theorem lifted (os : Os) (started : os.Started) (H : Type) (enc : TypeId × Value → H) :
    ReturnsInHanded {} Tryz.checked os 4 .any (fun w args => (Rows.weighOrderSpec.pre enc Tryz.prog Tryz.f4 [] false w args ∧ laidMetH Tryz.prog Rows.weighOrderRow.laid w) ∧ sizedMet enc Tryz.prog Tryz.f4 (OpenSpec.ofChange Rows.weighOrderSpec) false w args)
      (Rows.weighOrderSpec.post enc Tryz.prog Tryz.f4 false true false false) := by
  refine handed_laid (C := Tryz.checked) (X := fun w _ => laidMetH Tryz.prog Rows.weighOrderRow.laid w) (fun _ _ _ hh h => h.of_heap hh) own started (by kernel_rfl) Tryz.func4
    (ChangeSpec.witness_shaped (enc := enc) (C := Tryz.checked) (os := os) (X := fun w _ => laidMetH Tryz.prog Rows.weighOrderRow.laid w) false (World.laidAll Tryz.prog os Rows.weighOrderRow.laid) #[.agg #[.int .i64 0, .int .i64 0, .int .i64 0], .agg #[.int .i64 0, .int .i64 0, .int .i64 0], .agg #[.int .i64 0, .int .i64 0, .int .i64 0]] 8 (World.laidAll_os _ _ _) (World.shaped_of_ZipB (by kernel_rfl) (by kernel_rfl)) (by kernel_rfl) (by kernel_rfl) (by kernel_rfl)
      (by rw [MakeChecks.laidMetH_plain _ _ _ (by kernel_rfl)]; exact laidMet_laidAll _ (by kernel_rfl) (by kernel_rfl))) ?_
  intro W base args ds gs before hval hW hL hB
  exact contract H enc W base args ds gs before hval hW hL hB

theorem row_holds : Rows.weighOrderRow.holds Tryz.pinned (OpenSpec.ofChange Rows.weighOrderSpec) :=
  OpenClaim.holds_of_wide 4 Tryz.f4 rfl rfl rfl rfl rfl rfl rfl ⟨rfl, rfl, rfl, rfl, rfl⟩ rfl rfl rfl rfl rfl (by kernel_rfl) Tryz.func4 (by kernel_rfl)
    (of_decide_eq_true (by kernel_rfl)) (by unfold Func.isWrapper; first | (rw [if_pos (by decide +kernel)]; kernel_rfl) | (rw [if_neg (by decide +kernel)]; exact ⟨rfl, rfl⟩))
    (fun os started H enc _ => lifted os started H enc)

theorem proved : Rows.WeighOrderCardSaid :=
  Claim7.holds_tied_plain_at .later [] [.data, .data, .data, .pinned] true (true, "3c161d526185a335790c1f8c28518663a456ba2aa4fa3f94ffe6696d961fcf18") false row_holds (fun _ h => by cases h) (by kernel_rfl) (fun _ h => by cases h) weighOrder_row_tie rfl ⟨rfl, rfl⟩ (by kernel_rfl) rfl
    (fun f fn hf hfn => by
      obtain rfl : f = 4 := Option.some.inj ((show Tryz.pinned.checked.prog.funcNamed Rows.weighOrderRow.func = some 4 by kernel_rfl).symm.trans hf) |>.symm
      obtain rfl : fn = Tryz.f4 := (Option.some.inj (Tryz.func4.symm.trans hfn)).symm
      exact ⟨by kernel_rfl, fun j t ht => by
        rw [Tryz.params4] at ht
        have hm : t ∈ ([28, 28, 28] : List TypeId) := by simpa using Array.mem_of_getElem? ht
        have hall : (([28, 28, 28] : List TypeId).all fun u => !Tryz.prog.wantsStandIn u) = true := by kernel_rfl
        exact (show Tryz.prog.wantsStandIn t = false by simpa using List.all_eq_true.1 hall t hm)⟩)
    (by kernel_rfl)
end Go.Proofs.YtfpobnafniefpaaGreatDoor.weighOrderLaw
