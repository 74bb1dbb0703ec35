/-
  The law InputBytes holds at every input: it returns true, and what came in reads as it did. No condition.
-/
import Derived.Test.YtonihkpcblfafaaRows
import Derived.Test.YtonihkpcblfafaaVl
import Derived.Test.YtonihkpcblfafaaOa
import Derived.Test.YtonihkpcblfafaaFi
namespace Go.Proofs.Ytonihkpcblfafaa.inputBytesLaw
open Go.RowKit Go.ChangeShapes Go.WideShapes Go.ChangeAt Go.Vm
open Go.ChangeMaps (open_string shut_string)

theorem own : ownKnob Try.prog.godebug = none := by kernel_rfl
theorem calls (a : ByteArray)  (w : World) : Calls Try.prog 8 #[.string a] w fun e w' => e = .returned (.bool true) ∧ Below w.heap.size w w' := by
  refine law_calls ov1_ok mixed name_of (args := [V.str a.data.toList]) ?_ ?_ w _ (fun J => ?_)
  · simp only [V.oks, V.str, V.ok, packL_lt, and_self]
  · obtain ⟨v, st', h, hv⟩ := InputBytes_ev a.data.toList ⟨0, .e, 0⟩ (Nat.le_refl 5000)
    exact ⟨_, st', by rw [h, hv]⟩
  · simp only [V.reals, str_in]

theorem contract (H : Type) (enc : TypeId × Value → H) (W : World) (base : Nat) (args : Array Value) (ds gs : List (DataW H)) (before : List MemPlace)
    (hval : ∀ (j : Nat) t v, Try.f8.params[j]? = some t → args[j]? = some v → Value.okWide Try.prog W .any base t v)
    (hW : DataW.Whole enc Try.prog Try.f8.params.toList Rows.inputBytesSpec.vars false W args.toList ds gs before) :
    Calls Try.prog 8 args W fun e W' => ∃ v, e = .returned v ∧ Rows.inputBytesSpec.post enc Try.prog Try.f8 false true false false W args v W' := by
  have hW' := hW
  obtain ⟨p, q, hA0, hV, rfl, -, -⟩ := hW
  have hA : DataW.TrodAll enc Try.prog W 0 (fun _ => true) true Try.f8.params.toList args.toList ds p := hA0
  rw [Try.params8] at hA hval
  obtain ⟨v0, r0, d0, e0, p0, q0, hargs, rfl, rfl, t0, u0⟩ := trodAll_cons hA
  obtain ⟨rfl, rfl, rfl⟩ := trodAll_nil u0
  obtain rfl : args = #[v0] := by cases args; simp_all
  obtain ⟨rfl, rfl⟩ := trodVars_none hV
  obtain ⟨a, rfl, rfl, rfl, wa⟩ := open_string Try.underlying9 (hval 0 9 v0 rfl rfl) t0
  clear hA0
  simp only [List.append_nil] at hW'
  refine (calls a W).mono fun e W' ⟨he, hb⟩ => ⟨_, he, ?_⟩
  exact law_post (pa := []) (tb := 4) rfl hW' rfl rfl Try.underlying4 (trodAll_cons_mk (shut_string Try.underlying9 wa) trodAll_mk0) hb

set_option maxRecDepth 100000 in
theorem lifted (os : Os) (started : os.Started) (H : Type) (enc : TypeId × Value → H) :
    ReturnsInHanded {} Try.checked os 8 .any (Rows.inputBytesSpec.pre6 enc Try.prog Try.f8 Rows.inputBytesRow.domain false) (Rows.inputBytesSpec.post enc Try.prog Try.f8 false true false false) := by
  refine returnsInHanded_of_change (C := Try.checked) own started (by kernel_rfl) Try.func8
    (ChangeSpec.witness6 (enc := enc) (C := Try.checked) false ⟨#[], #[.string .empty], []⟩ 8 (by kernel_rfl) (by kernel_rfl) (by kernel_rfl) (by kernel_rfl)) ?_
  intro W base args ds gs before hval hW _ _
  exact contract H enc W base args ds gs before hval hW

theorem proved : Rows.InputBytesSaid :=
  OpenClaim.holds_of_wide 8 Try.f8 rfl rfl rfl rfl rfl rfl rfl ⟨rfl, rfl, rfl, rfl, rfl⟩ rfl rfl rfl rfl rfl (by kernel_rfl) Try.func8 (by kernel_rfl)
    (of_decide_eq_true (by kernel_rfl)) (by unfold Func.isWrapper; first | (rw [if_pos (by decide +kernel)]; kernel_rfl) | (rw [if_neg (by decide +kernel)]; exact ⟨rfl, rfl⟩))
    (fun os started H enc _ => lifted os started H enc)
end Go.Proofs.Ytonihkpcblfafaa.inputBytesLaw
