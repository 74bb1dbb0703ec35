/-
  The law SheetBad, number by number. Nothing is claimed here.
-/
import Derived.Test.YtnfddmjbfkfnhaaGreatDoorTg
import Derived.Test.YtnfddmjbfkfnhaaGreatDoorVl
import Derived.Test.YtnfddmjbfkfnhaaGreatDoorBa
import Derived.Test.YtnfddmjbfkfnhaaGreatDoorBb
import Derived.Test.YtnfddmjbfkfnhaaGreatDoorBc
namespace Go.Proofs.YtnfddmjbfkfnhaaGreatDoor
open Go.Vm Go.Sx Go.RowKit
variable {ro : Nat}
def s_alive : T_vitrinelaw11_alive := fun K => K true
def s_law : T_vitrinelaw11_SheetBad := fun i K => (i < 0 ∨ 20 < i) ∧ K true
theorem t_14 : FnOK sy Tryz.prog GT (ovD ro) ro 14 (q_vitrinelaw11_alive s_alive) := by
  intro o0 us k h st vs hn hg ho hr
  unfold q_vitrinelaw11_alive at h
  split at h
  · have e : vs = [] := hr
    subst e
    exact ⟨.b true, st, ⟨1, fun n hn => by
      cases n with
      | zero => omega
      | succ n => rfl⟩, .b true, rfl, ⟨Nat.le_refl _, fun _ _ => rfl, fun _ _ q => q⟩, h⟩
  · exact h.elim

theorem p_law : ∀ (a0 : Int) K, s_law a0 K → F_vitrinelaw11_SheetBad s_alive a0 K := by
  intro a K h
  obtain ⟨h, hk⟩ := h
  refine ⟨fun q1 => ⟨fun _ => hk, fun q2 => ?_⟩, fun _ => hk⟩
  have q1 := of_decide_eq_false q1
  have q2 := of_decide_eq_false q2
  omega
theorem t_law : FnOK sy Tryz.prog GT (ovD ro) ro 5 (q_vitrinelaw11_SheetBad s_law) := q_vitrinelaw11_SheetBad_weak (ok_vitrinelaw11_SheetBad s_alive t_14) p_law
theorem gok' : GOK GT GL (st0 gs1) := fun g k l h => by cases h
theorem far {a : Int} (q : a < 0 ∨ 20 < a) : ∃ m st', evF Tryz.prog (ovA GL) GL m 5 [.i .i64 a] (st0 gs1) = some (.b true, st') := by
  obtain ⟨v, st', ⟨M, h1⟩, u, h2, _, h3⟩ := t_law (ro := GL) (fun _ => False) [.i .i64 a] (fun u => u = .b true) ⟨q, rfl⟩ (st0 gs1) [.i .i64 a] (Nat.le_refl _) gok' (fun _ q => q.elim) ⟨_, _, rfl, rfl, rfl⟩
  subst h3
  have e : v = .b true := h2
  subst e
  exact ⟨M, st', h1 M (Nat.le_refl _)⟩
theorem numbers (a : Int) : ∃ m st', evF Tryz.prog (ovA GL) GL m 5 [.i .i64 a] (st0 gs1) = some (.b true, st') := by
  rcases Int.lt_or_le a 0 with q | q
  · exact far (.inl q)
  · rcases Int.lt_or_le 20 a with q2 | q2
    · exact far (.inr q2)
    · obtain ⟨k, rfl⟩ : ∃ k : Nat, a = .ofNat k := ⟨a.toNat, by show a = (a.toNat : Int); omega⟩
      have hk : k ≤ 20 := by have : (k : Int) ≤ 20 := q2; omega
      match k, hk with
      | 0, _ => exact Go.Vk.kAnswers_true bad0
      | 1, _ => exact Go.Vk.kAnswers_true bad1
      | 2, _ => exact Go.Vk.kAnswers_true bad2
      | 3, _ => exact Go.Vk.kAnswers_true bad3
      | 4, _ => exact Go.Vk.kAnswers_true bad4
      | 5, _ => exact Go.Vk.kAnswers_true bad5
      | 6, _ => exact Go.Vk.kAnswers_true bad6
      | 7, _ => exact Go.Vk.kAnswers_true bad7
      | 8, _ => exact Go.Vk.kAnswers_true bad8
      | 9, _ => exact Go.Vk.kAnswers_true bad9
      | 10, _ => exact Go.Vk.kAnswers_true bad10
      | 11, _ => exact Go.Vk.kAnswers_true bad11
      | 12, _ => exact Go.Vk.kAnswers_true bad12
      | 13, _ => exact Go.Vk.kAnswers_true bad13
      | 14, _ => exact Go.Vk.kAnswers_true bad14
      | 15, _ => exact Go.Vk.kAnswers_true bad15
      | 16, _ => exact Go.Vk.kAnswers_true bad16
      | 17, _ => exact Go.Vk.kAnswers_true bad17
      | 18, _ => exact Go.Vk.kAnswers_true bad18
      | 19, _ => exact Go.Vk.kAnswers_true bad19
      | 20, _ => exact Go.Vk.kAnswers_true bad20
      | k + 21, hk => exact absurd hk (by omega)
end Go.Proofs.YtnfddmjbfkfnhaaGreatDoor
