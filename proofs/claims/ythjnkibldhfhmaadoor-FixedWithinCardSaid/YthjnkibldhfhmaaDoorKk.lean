/-
  The law FixedWithin: its ties. Nothing is claimed here.
-/
import Derived.Test.YthjnkibldhfhmaaDoorKf
namespace Go.Proofs.YthjnkibldhfhmaaDoor
open Go.Vm Go.Sx Go.RowKit
variable {ro : Nat}

theorem t_18 : FnOK sy Tryd.prog GT (ovD ro) ro 18 (q_vitrinelaw06_alive s_alive) := by
  intro o0 us k h st vs hn hg ho hr
  unfold q_vitrinelaw06_alive at h
  split at h
  · have e : vs = [] := hr
    subst e
    exact ⟨.b true, st, ⟨1, fun n hn => by
      cases n with
      | zero => omega
      | succ n => rfl⟩, .b true, rfl, ⟨Nat.le_refl _, fun _ _ => rfl, fun _ _ q => q⟩, h⟩
  · exact h.elim
theorem t_23 : FnOK sy Tryd.prog GT (ovD ro) ro 23 (q_r6_Is s_rIs) := q_r6_Is_weak (ok_r6_Is) p_rIs
theorem t_24 : FnOK sy Tryd.prog GT (ovD ro) ro 24 (q_fixed_checkAll s_chk) := q_fixed_checkAll_weak (ok_fixed_checkAll) p_chk
theorem t_13 : FnOK sy Tryd.prog GT (ovD ro) ro 13 (q_fixed_Within s_Within) := q_fixed_Within_weak (ok_fixed_Within s_chk t_24) p_Within
theorem t_12 : FnOK sy Tryd.prog GT (ovD ro) ro 12 (q_fixed_Whole s_Whole) := q_fixed_Whole_weak (ok_fixed_Whole s_chk t_24) p_Whole
theorem t_law : FnOK sy Tryd.prog GT (ovD ro) ro 8 (q_vitrinelaw06_FixedWithin (fun _ _ _ K => K true)) :=
  q_vitrinelaw06_FixedWithin_weak (ok_vitrinelaw06_FixedWithin s_rIs s_alive s_Within s_Whole t_23 t_18 t_13 t_12) law_within

theorem gok' : GOK GT GL (st0 gs1) := fun g k l h => by cases h
theorem law_ev (a : Int) (b : Int) (c : Int) : ∃ m st', evF Tryd.prog (ovA GL) GL m 8 [.i .i64 a, .i .i64 b, .i .i64 c] (st0 gs1) = some (.b true, st') := by
  obtain ⟨v, st', ⟨M, h1⟩, u, h2, _, h3⟩ := t_law (ro := GL) (fun _ => False) [.i .i64 a, .i .i64 b, .i .i64 c] (fun u => u = .b true) rfl (st0 gs1) [.i .i64 a, .i .i64 b, .i .i64 c] (Nat.le_refl _) gok' (fun _ q => q.elim) ⟨_, _, rfl, rfl, _, _, rfl, rfl, _, _, rfl, rfl, rfl⟩
  subst h3
  have e : v = .b true := h2
  subst e
  exact ⟨M, st', h1 M (Nat.le_refl _)⟩
end Go.Proofs.YthjnkibldhfhmaaDoor
