/-
 The law AnbBack holds at every input: it returns true, and what came in reads as it did. The listed package-level variables hold what the program's text lays; that is tied to the text by the card.
-/
import Derived.Test.YtbpbaicbaehhjaaGreatDoorRows
import Derived.Test.YtbpbaicbaehhjaaGreatDoorCards
import Derived.Test.YtbpbaicbaehhjaaGreatDoorTie
import Derived.SevenTiedAt
import Derived.Lay
import Derived.Test.YtbpbaicbaehhjaaGreatDoorAt1
import Derived.Test.YtbpbaicbaehhjaaGreatDoorRa1
namespace Go.Proofs.YtbpbaicbaehhjaaGreatDoor.anbBackLaw
open Go.RowKit Go.ChangeShapes Go.WideShapes Go.ChangeAt Go.Vm
open Go.ChangeMaps (open_string shut_string)
theorem own : ownKnob Tryz.prog.godebug = none := by kernel_rfl
theorem kids : Kids Tryz.prog (· < Tryz.prog.types.size) := kids_rows (by kernel_rfl) (by kernel_rfl)
theorem full : ∀ t e, t < Tryz.prog.types.size → Tryz.prog.underlying t = some (.slice e) → 0 < Tryz.prog.cellsOf e := slices_full_of _ (by kernel_rfl)
theorem calls (a1 a2 : Int) (b1 b2 : Int) (W : World) (hL : laidMetH Tryz.prog Rows.anbBackRow.laid W) (hB : W.ShapedOpen Tryz.prog) : Calls Tryz.prog 5 #[.agg #[.int .i64 a1, .int .i64 a2], .agg #[.int .i64 b1, .int .i64 b2]] W fun e w' => e = .returned (.bool true) ∧ Below W.heap.size W w' :=
 Zfh (gon hL) (zg9 (ro := GL) hB (gon hL)) mixed Jfv (args := [.a [.i .i64 a1, .i .i64 a2], .a [.i .i64 b1, .i .i64 b2]]) (by simp only [V.oks, V.ok, and_self]) (Zhm a1 a2 b1 b2) _ (fun J => by simp only [V.reals, V.real])
set_option maxRecDepth 100000 in
theorem contract (H : Type) (enc : TypeId × Value → H) (W : World) (base : Nat) (args : Array Value) (ds gs : List (DataW H)) (before : List MemPlace)
  (hval : ∀ (j : Nat) t v, Tryz.f5.params[j]? = some t → args[j]? = some v → Value.okWide Tryz.prog W .any base t v)
  (hW : DataW.Whole enc Tryz.prog Tryz.f5.params.toList Rows.anbBackSpec.vars false W args.toList ds gs before) (hL : laidMetH Tryz.prog Rows.anbBackRow.laid W) (hB : W.ShapedOpen Tryz.prog) :
  Calls Tryz.prog 5 args W fun e W' => ∃ v, e = .returned v ∧ Rows.anbBackSpec.post enc Tryz.prog Tryz.f5 false true false false W args v W' := by
 have hW' := hW
 obtain ⟨p, q, hA0, hV, rfl, -, -⟩ := hW
 have hA : DataW.TrodAll enc Tryz.prog W 0 (fun _ => true) true Tryz.f5.params.toList args.toList ds p := hA0
 rw [Tryz.params5] at hA hval
 obtain ⟨v0, r0, d0, e0, p0, q0, hargs, rfl, rfl, t0, u0⟩ := trodAll_cons hA
 obtain ⟨v1, r1, d1, e1, p1, q1, rfl, rfl, rfl, t1, u1⟩ := trodAll_cons u0
 obtain ⟨rfl, rfl, rfl⟩ := trodAll_nil u1
 obtain rfl : args = #[v0, v1] := by cases args; simp_all
 obtain ⟨rfl, rfl⟩ := trodVars_none hV
 obtain ⟨a1, a2, rfl⟩ := jdS Tryz.underlying25 (by kernel_rfl) rfl rfl (by kernel_rfl) (by kernel_rfl) Tryz.underlying2 Tryz.underlying2 t0
 obtain ⟨b1, b2, rfl⟩ := jdS Tryz.underlying25 (by kernel_rfl) rfl rfl (by kernel_rfl) (by kernel_rfl) Tryz.underlying2 Tryz.underlying2 t1
 clear hA0
 simp only [List.append_nil] at hW'
 refine (calls a1 a2 b1 b2 W hL hB).mono fun e W' ⟨he, hb⟩ => ⟨_, he, ?_⟩
 exact zfi (tb := 4) kids full (by decide) rfl hW' rfl rfl Tryz.underlying4 hb
set_option maxRecDepth 100000 in
theorem lifted (os : Os) (started : os.Started) (H : Type) (enc : TypeId × Value → H) :
  ReturnsInHanded {} Tryz.checked os 5 .any (fun w args => (Rows.anbBackSpec.pre enc Tryz.prog Tryz.f5 [] false w args ∧ laidMetH Tryz.prog Rows.anbBackRow.laid w) ∧ sizedMet enc Tryz.prog Tryz.f5 (OpenSpec.ofChange Rows.anbBackSpec) false w args)
   (Rows.anbBackSpec.post enc Tryz.prog Tryz.f5 false true false false) := by
 refine zer (C := Tryz.checked) (X := fun w _ => laidMetH Tryz.prog Rows.anbBackRow.laid w) (fun _ _ _ hh h => h.of_heap hh) own started (by kernel_rfl) Tryz.func5
  (ChangeSpec.witness_shaped (enc := enc) (C := Tryz.checked) (os := os) (X := fun w _ => laidMetH Tryz.prog Rows.anbBackRow.laid w) false (World.laidAll Tryz.prog os Rows.anbBackRow.laid) #[.agg #[.int .i64 0, .int .i64 0], .agg #[.int .i64 0, .int .i64 0]] 8 (World.laidAll_os _ _ _) (World.shaped_of_ZipB (by kernel_rfl) (by kernel_rfl)) (by kernel_rfl) (by kernel_rfl) (by kernel_rfl)
   (by rw [MakeChecks.laidMetH_plain _ _ _ (by kernel_rfl)]; exact laidMet_laidAll _ (by kernel_rfl) (by kernel_rfl))) ?_
 intro W base args ds gs before hval hW hL hB
 exact contract H enc W base args ds gs before hval hW hL hB
theorem row_holds : Rows.anbBackRow.holds Tryz.pinned (OpenSpec.ofChange Rows.anbBackSpec) :=
 OpenClaim.holds_of_wide 5 Tryz.f5 rfl rfl rfl rfl rfl rfl rfl ⟨rfl, rfl, rfl, rfl, rfl⟩ rfl rfl rfl rfl rfl (by kernel_rfl) Tryz.func5 (by kernel_rfl)
  (of_decide_eq_true (by kernel_rfl)) (by unfold Func.isWrapper; first | (rw [if_pos (by decide +kernel)]; kernel_rfl) | (rw [if_neg (by decide +kernel)]; exact ⟨rfl, rfl⟩))
  (fun os started H enc _ => lifted os started H enc)
theorem proved : Rows.AnbBackCardSaid :=
 Claim7.holds_tied_plain_at .later [] [.data, .data, .data, .data, .data, .pinned] true (true, "d562571c1d7c45da2632f8dc362c56de00bd0454228fa177ea414258d41ad9f6") false row_holds (fun _ h => by cases h) (by kernel_rfl) (fun _ h => by cases h) anbBack_row_tie rfl ⟨rfl, rfl⟩ (by kernel_rfl) rfl
  (fun f fn hf hfn => by
   obtain rfl : f = 5 := Option.some.inj ((show Tryz.pinned.checked.prog.funcNamed Rows.anbBackRow.func = some 5 by kernel_rfl).symm.trans hf) |>.symm
   obtain rfl : fn = Tryz.f5 := (Option.some.inj (Tryz.func5.symm.trans hfn)).symm
   exact ⟨by kernel_rfl, fun j t ht => by
    rw [Tryz.params5] at ht
    have hm : t ∈ ([25, 25] : List TypeId) := by simpa using Array.mem_of_getElem? ht
    have hall : (([25, 25] : List TypeId).all fun u => !Tryz.prog.wantsStandIn u) = true := by kernel_rfl
    exact (show Tryz.prog.wantsStandIn t = false by simpa using List.all_eq_true.1 hall t hm)⟩)
  (by kernel_rfl)
end Go.Proofs.YtbpbaicbaehhjaaGreatDoor.anbBackLaw
