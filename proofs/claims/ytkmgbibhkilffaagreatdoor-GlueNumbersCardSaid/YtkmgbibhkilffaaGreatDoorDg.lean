/-
  The law GlueNumbers holds at every input: it returns true, and what came in reads as it did. The listed package-level variables hold what the program's text lays; that is tied to the text by the card.
-/
import Derived.Test.YtkmgbibhkilffaaGreatDoorRows
import Derived.Test.YtkmgbibhkilffaaGreatDoorCards
import Derived.Test.YtkmgbibhkilffaaGreatDoorTie
import Derived.SevenTiedAt
import Derived.Lay
import Derived.Test.YtkmgbibhkilffaaGreatDoorGp
namespace Go.Proofs.YtkmgbibhkilffaaGreatDoor.glueNumbersLaw
open Go.RowKit Go.ChangeShapes Go.WideShapes Go.ChangeAt Go.Vm Go.Vk
open Go.ChangeMaps (open_string shut_string)

theorem own : ownKnob Tryz.prog.godebug = none := by kernel_rfl

theorem calls (a : Int) (b : Bool) (W : World) (hL : laidMetH Tryz.prog Rows.glueNumbersRow.laid W) (hB : W.ShapedOpen Tryz.prog) : Calls Tryz.prog 9 #[.int .i64 a, .bool b] W fun e w' => e = .returned (.bool true) ∧ Below W.heap.size W w' :=
  law_calls (gon hL) (ovA_ok hB (gon hL)) mixed name_of (args := [.i .i64 a, .b b]) (by simp only [V.oks, V.str, V.ok, packL_lt, and_self]) (numbers a b) _ (fun J => by simp only [V.reals, V.real])

set_option maxRecDepth 100000 in
theorem contract (H : Type) (enc : TypeId × Value → H) (W : World) (base : Nat) (args : Array Value) (ds gs : List (DataW H)) (before : List MemPlace)
    (hval : ∀ (j : Nat) t v, Tryz.f9.params[j]? = some t → args[j]? = some v → Value.okWide Tryz.prog W .any base t v)
    (hW : DataW.Whole enc Tryz.prog Tryz.f9.params.toList Rows.glueNumbersSpec.vars false W args.toList ds gs before) (hL : laidMetH Tryz.prog Rows.glueNumbersRow.laid W) (hB : W.ShapedOpen Tryz.prog) :
    Calls Tryz.prog 9 args W fun e W' => ∃ v, e = .returned v ∧ Rows.glueNumbersSpec.post enc Tryz.prog Tryz.f9 false true false false W args v W' := by
  have hW' := hW
  obtain ⟨p, q, hA0, hV, rfl, -, -⟩ := hW
  have hA : DataW.TrodAll enc Tryz.prog W 0 (fun _ => true) true Tryz.f9.params.toList args.toList ds p := hA0
  rw [Tryz.params9] at hA hval
  obtain ⟨v0, r0, d0, e0, p0, q0, hargs, rfl, rfl, t0, u0⟩ := trodAll_cons hA
  obtain ⟨v1, r1, d1, e1, p1, q1, rfl, rfl, rfl, t1, u1⟩ := trodAll_cons u0
  obtain ⟨rfl, rfl, rfl⟩ := trodAll_nil u1
  obtain rfl : args = #[v0, v1] := by cases args; simp_all
  obtain ⟨rfl, rfl⟩ := trodVars_none hV
  obtain ⟨a, rfl, rfl, rfl, wa⟩ := open_int Tryz.underlying2 (hval 0 2 v0 rfl rfl) t0
  obtain ⟨b, rfl, rfl, rfl⟩ := open_bool Tryz.underlying4 (hval 1 4 v1 rfl rfl) t1
  clear hA0
  simp only [List.append_nil] at hW'
  refine (calls a b W hL hB).mono fun e W' ⟨he, hb⟩ => ⟨_, he, ?_⟩
  exact law_post (pa := []) (tb := 4) rfl hW' rfl rfl Tryz.underlying4 (trodAll_cons_mk (shut_int Tryz.underlying2 wa) (trodAll_cons_mk (shut_bool Tryz.underlying4 b) trodAll_mk0)) hb

set_option maxRecDepth 100000 in
theorem lifted (os : Os) (started : os.Started) (H : Type) (enc : TypeId × Value → H) :
    ReturnsInHanded {} Tryz.checked os 9 .any (fun w args => (Rows.glueNumbersSpec.pre enc Tryz.prog Tryz.f9 [] false w args ∧ laidMetH Tryz.prog Rows.glueNumbersRow.laid w) ∧ sizedMet enc Tryz.prog Tryz.f9 (OpenSpec.ofChange Rows.glueNumbersSpec) false w args)
      (Rows.glueNumbersSpec.post enc Tryz.prog Tryz.f9 false true false false) := by
  refine handed_laid (C := Tryz.checked) (X := fun w _ => laidMetH Tryz.prog Rows.glueNumbersRow.laid w) (fun _ _ _ hh h => h.of_heap hh) own started (by kernel_rfl) Tryz.func9
    (ChangeSpec.witness_shaped (enc := enc) (C := Tryz.checked) (os := os) (X := fun w _ => laidMetH Tryz.prog Rows.glueNumbersRow.laid w) false (World.laidAll Tryz.prog os Rows.glueNumbersRow.laid) #[.int .i64 0, .bool false] 8 (World.laidAll_os _ _ _) (World.shaped_of_ZipB (by kernel_rfl) (by kernel_rfl)) (by kernel_rfl) (by kernel_rfl) (by kernel_rfl)
      (by rw [MakeChecks.laidMetH_plain _ _ _ (by kernel_rfl)]; exact laidMet_laidAll _ (by kernel_rfl) (by kernel_rfl))) ?_
  intro W base args ds gs before hval hW hL hB
  exact contract H enc W base args ds gs before hval hW hL hB

theorem row_holds : Rows.glueNumbersRow.holds Tryz.pinned (OpenSpec.ofChange Rows.glueNumbersSpec) :=
  OpenClaim.holds_of_wide 9 Tryz.f9 rfl rfl rfl rfl rfl rfl rfl ⟨rfl, rfl, rfl, rfl, rfl⟩ rfl rfl rfl rfl rfl (by kernel_rfl) Tryz.func9 (by kernel_rfl)
    (of_decide_eq_true (by kernel_rfl)) (by unfold Func.isWrapper; first | (rw [if_pos (by decide +kernel)]; kernel_rfl) | (rw [if_neg (by decide +kernel)]; exact ⟨rfl, rfl⟩))
    (fun os started H enc _ => lifted os started H enc)

theorem proved : Rows.GlueNumbersCardSaid :=
  Claim7.holds_tied_plain_at .later [] [.data, .data, .data, .data, .data, .pinned] true (true, "69d4fbfff14cc08ffae8d15603b9c38e430f6510d985936ccecb9af7e75d720c") false row_holds (fun _ h => by cases h) (by kernel_rfl) (fun _ h => by cases h) glueNumbers_row_tie rfl ⟨rfl, rfl⟩ (by kernel_rfl) rfl
    (fun f fn hf hfn => by
      obtain rfl : f = 9 := Option.some.inj ((show Tryz.pinned.checked.prog.funcNamed Rows.glueNumbersRow.func = some 9 by kernel_rfl).symm.trans hf) |>.symm
      obtain rfl : fn = Tryz.f9 := (Option.some.inj (Tryz.func9.symm.trans hfn)).symm
      exact ⟨by kernel_rfl, fun j t ht => by
        rw [Tryz.params9] at ht
        have hm : t ∈ ([2, 4] : List TypeId) := by simpa using Array.mem_of_getElem? ht
        have hall : (([2, 4] : List TypeId).all fun u => !Tryz.prog.wantsStandIn u) = true := by kernel_rfl
        exact (show Tryz.prog.wantsStandIn t = false by simpa using List.all_eq_true.1 hall t hm)⟩)
    (by kernel_rfl)
end Go.Proofs.YtkmgbibhkilffaaGreatDoor.glueNumbersLaw
