/-
  What is known beforehand of this program: that it is alive. Nothing is claimed here.
-/
import Derived.Test.YtonihkpcblfafaaVv
import Derived.Test.YtonihkpcblfafaaProg
import Derived.KernelRfl
namespace Go.Proofs.Ytonihkpcblfafaa
open Go.Vm Go.RowKit

theorem mixed : Try.prog.follows .mixedOrders = true := by kernel_rfl
theorem names : (Try.prog.funcs.toList.all fun fn => !(fn.name == "runtime.NumGoroutine")) = true := by kernel_rfl
theorem name_of (f : Nat) (fn : Func) (h : Try.prog.funcs[f]? = some fn) : (fn.name == "runtime.NumGoroutine") = false := by
  have := List.all_eq_true.1 names fn (Array.mem_toList_iff.2 (Array.mem_of_getElem? h))
  simpa using this
theorem alive : answersTrue Try.prog 200 17 [] = true := by kernel_rfl

def ov1 : Ov := fun f args => cond (Nat.beq f 17) (match args with | [] => some (.b true) | _ :: _ => none) none
theorem ov1_ok : OvOK Try.prog ov1 := by
  intro f args v h
  unfold ov1 at h
  cases hf : Nat.beq f 17 with
  | false => rw [hf] at h; cases h
  | true =>
    rw [hf] at h
    rw [Nat.beq_eq] at hf
    subst hf
    cases args with
    | cons _ _ => cases h
    | nil =>
      cases h
      refine ⟨rfl, by simp [V.ok], ⟨_, _, Try.func17, rfl⟩, fun J w _ => ?_⟩
      refine (answersTrue_sound mixed name_of alive w).mono ?_
      rintro e w' ⟨he, hb⟩
      exact ⟨by rw [he]; simp [V.real], hb⟩
end Go.Proofs.Ytonihkpcblfafaa
