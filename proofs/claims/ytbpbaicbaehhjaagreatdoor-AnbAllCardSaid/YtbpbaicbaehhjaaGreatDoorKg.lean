/-
  The law AnbAll: its ties. Nothing is claimed here.
-/
import Derived.Test.YtbpbaicbaehhjaaGreatDoorKb
import Derived.Test.YtbpbaicbaehhjaaGreatDoorVl
namespace Go.Proofs.YtbpbaicbaehhjaaGreatDoor
open Go.Vm Go.Sx Go.RowKit
variable {ro : Nat}

theorem t_15 : FnOK sy Tryz.prog GT (ovD ro) ro 15 (q_vitrinelaw07_alive s_alive) := by
  intro o0 us k h st vs hn hg ho hr
  unfold q_vitrinelaw07_alive at h
  split at h
  · have e : vs = [] := hr
    subst e
    exact ⟨.b true, st, ⟨1, fun n hn => by
      cases n with
      | zero => omega
      | succ n => rfl⟩, .b true, rfl, ⟨Nat.le_refl _, fun _ _ => rfl, fun _ _ q => q⟩, h⟩
  · exact h.elim
theorem t_16 : FnOK sy Tryz.prog GT (ovD ro) ro 16 (q_vitrineref07_Valid s_Val) := q_vitrineref07_Valid_weak (ok_vitrineref07_Valid) p_Val
theorem t_23 : FnOK sy Tryz.prog GT (ovD ro) ro 23 (q_anb_isWithin s_isW) := q_anb_isWithin_weak (ok_anb_isWithin) p_isW
theorem t_14 : FnOK sy Tryz.prog GT (ovD ro) ro 14 (q_anb_Check s_Chk) := q_anb_Check_weak (ok_anb_Check s_isW t_23) p_Chk
theorem t_19 : FnOK sy Tryz.prog GT (ovD ro) ro 19 (q_anb_has s_has) := q_anb_has_weak (ok_anb_has) p_has
theorem t_12 : FnOK sy Tryz.prog GT (ovD ro) ro 12 (q_anb_All s_All) := q_anb_All_weak (ok_anb_All s_Chk s_has t_14 t_19) p_All
theorem t_11 : FnOK sy Tryz.prog GT (ovD ro) ro 11 (q_anb_In s_In) := q_anb_In_weak (ok_anb_In s_Chk s_has t_14 t_19) p_In
theorem t_inG : FnOK sy Tryz.prog GT (ovD ro) ro 11 (q_anb_In s_InG) := q_anb_In_weak t_11 inG
theorem t_law : FnOK sy Tryz.prog GT (ovD ro) ro 7 (q_vitrinelaw07_AnbAll (fun _ _ K => K true)) :=
  q_vitrinelaw07_AnbAll_weak (ok_vitrinelaw07_AnbAll s_Val s_alive s_All s_InG t_16 t_15 t_12 t_inG) (fun a p K h => p_AllLaw a p K h)

theorem gok' : GOK GT GL (st0 gs1) := gok0
theorem law_ev (x y p : Int) : ∃ m st', evF Tryz.prog (ovA GL) GL m 7 [.a [.i .i64 x, .i .i64 y], .i .i64 p] (st0 gs1) = some (.b true, st') := by
  obtain ⟨v, st', ⟨M, h1⟩, u, h2, _, h3⟩ := t_law (ro := GL) (fun _ => False) [.a [.i .i64 x, .i .i64 y], .i .i64 p] (fun u => u = .b true) rfl (st0 gs1) [.a [.i .i64 x, .i .i64 y], .i .i64 p] (Nat.le_refl _) gok' (fun _ q => q.elim) ⟨_, _, rfl, ⟨_, rfl, _, _, rfl, rfl, _, _, rfl, rfl, rfl⟩, _, _, rfl, rfl, rfl⟩
  subst h3
  have e : v = .b true := h2
  subst e
  exact ⟨M, st', h1 M (Nat.le_refl _)⟩
end Go.Proofs.YtbpbaicbaehhjaaGreatDoor
