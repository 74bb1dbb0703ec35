/-
  TokenNames in the evaluator. Nothing is claimed here.
-/
import Derived.Test.YtcjoehlflbegpaaDoorEa
namespace Go.Proofs.YtcjoehlflbegpaaDoor
open Go.Vm Go.Vk Go.RowKit
def ovC (N : Nat) : Ov := fun f args => cond (Nat.beq f 9) (match args with
  | [.s l x] => cond (Nat.beq l 1501 && Nat.beq x N) (some manyV) none
  | _ => none) (ovA f args)
theorem oksS {n m l x : Nat} (h : V.oks n [V.s l x]) : V.oks m [V.s l x] := by
  simp only [V.oks, V.ok] at h ⊢
  exact h
theorem ovC_ok (N : Nat) (hN : forceK (.s 1501 N) (fun a => kcall Tryd.prog live ovA GL 100000 200 9 [a] (st0 gs1) fun v _ => eqT v manyV) = true) {B : World} (hB : B.ShapedOpen Tryd.prog) (hG : GOn B gs1) : OvOK Tryd.prog B (ovC N) := by
  intro f args v h
  unfold ovC at h
  cases hf : Nat.beq f 9 with
  | false => rw [hf] at h; exact ovA_ok hB hG f args v h
  | true =>
    rw [hf] at h
    rw [Nat.beq_eq] at hf
    subst hf
    simp only [cond_true] at h
    split at h
    · rename_i l x
      cases hc : (Nat.beq l 1501 && Nat.beq x N) with
      | false => rw [hc] at h; cases h
      | true =>
        rw [hc] at h
        obtain rfl := Option.some.inj h
        simp only [Bool.and_eq_true, Nat.beq_eq] at hc
        obtain ⟨rfl, rfl⟩ := hc
        refine ⟨rfl, by simp [manyV, V.ok, V.oks], ⟨_, _, Tryd.func9, rfl⟩, fun J w ha hw => ?_⟩
        have hk := hN
        rw [forceK_eq] at hk
        obtain ⟨u, st', ⟨m, he⟩, hu⟩ := kcall_true _ 9 _ (st0 gs1) _ hk
        obtain rfl := eqT_true hu
        have hx : V.oks 0 [V.s 1501 x] := oksS ha
        refine (answers_sound hG (ovA_ok hB hG) mixed name_of hx (he m (Nat.le_refl _)) w hw).mono ?_
        rintro e w' ⟨J', h1, h3⟩
        exact ⟨by rw [h1, V.real_plainT J J' manyV rfl], h3⟩
    · cases h
def ovB : Ov := ovC commasN
theorem ovB_ok {B : World} (hB : B.ShapedOpen Tryd.prog) (hG : GOn B gs1) : OvOK Tryd.prog B ovB := ovC_ok commasN commas1 hB hG
set_option maxRecDepth 100000000 in
theorem names1 : kAnswers Tryd.prog live ovB gs1 100000 200 3 [] = true := by kernel_rfl
end Go.Proofs.YtcjoehlflbegpaaDoor
