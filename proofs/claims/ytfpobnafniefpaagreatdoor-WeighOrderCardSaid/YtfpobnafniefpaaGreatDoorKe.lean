/-
  The law WeighOrder: its ties. Nothing is claimed here.
-/
import Derived.Test.YtfpobnafniefpaaGreatDoorKd
import Derived.Test.YtfpobnafniefpaaGreatDoorVl
namespace Go.Proofs.YtfpobnafniefpaaGreatDoor
open Go.Vm Go.Sx Go.RowKit
variable {ro : Nat}

theorem t_10 : FnOK sy Tryz.prog GT (ovD ro) ro 10 (q_vitrinelaw09_alive s_alive) := by
  intro o0 us k h st vs hn hg ho hr
  unfold q_vitrinelaw09_alive at h
  split at h
  · have e : vs = [] := hr
    subst e
    exact ⟨.b true, st, ⟨1, fun n hn => by
      cases n with
      | zero => omega
      | succ n => rfl⟩, .b true, rfl, ⟨Nat.le_refl _, fun _ _ => rfl, fun _ _ q => q⟩, h⟩
  · exact h.elim
theorem t_11 : FnOK sy Tryz.prog GT (ovD ro) ro 11 (q_r9_Valid s_rVl) := q_r9_Valid_weak (ok_r9_Valid) p_rVl
theorem t_16 : FnOK sy Tryz.prog GT (ovD ro) ro 16 (q_w_isValid s_vl) := q_w_isValid_weak (ok_w_isValid) p_vl
theorem t_47 : FnOK sy Tryz.prog GT (ovD ro) ro 47 (q_cmp_isNaN s_nan) := q_cmp_isNaN_weak (ok_cmp_isNaN) p_nan
theorem t_36 : FnOK sy Tryz.prog GT (ovD ro) ro 36 (q_cmp_Compare s_cmp) := q_cmp_Compare_weak (ok_cmp_Compare s_nan t_47) p_cmp
theorem t_24 : FnOK sy Tryz.prog GT (ovD ro) ro 24 (q_sl_Compare s_slC) := q_sl_Compare_weak (ok_sl_Compare s_cmp t_36) p_slC
theorem t_17 : FnOK sy Tryz.prog GT (ovD ro) ro 17 (q_w_cmp s_cw) := q_w_cmp_weak (ok_w_cmp s_slC t_24) p_cw
theorem t_8 : FnOK sy Tryz.prog GT (ovD ro) ro 8 (q_w_Compare s_Cmp) := q_w_Compare_weak (ok_w_Compare s_vl s_cw t_16 t_17) p_Cmp
theorem t_18 : FnOK sy Tryz.prog GT (ovD ro) ro 18 (q_w_sum s_ad) := q_w_sum_weak (ok_w_sum) p_ad
theorem t_9 : FnOK sy Tryz.prog GT (ovD ro) ro 9 (q_w_Sum s_Sum) := q_w_Sum_weak (ok_w_Sum s_vl s_ad t_16 t_18) p_Sum
theorem t_law : FnOK sy Tryz.prog GT (ovD ro) ro 4 (q_vitrinelaw09_WeighOrder (fun _ _ _ K => K true)) :=
  q_vitrinelaw09_WeighOrder_weak (ok_vitrinelaw09_WeighOrder s_rVl s_alive s_Cmp s_Sum t_11 t_10 t_8 t_9) (fun a b c K h => law_order a b c K h)

theorem gok' : GOK GT GL (st0 gs1) := fun g k l h => by cases h
theorem law_ev (a1 a2 a3 b1 b2 b3 c1 c2 c3 : Int) : ∃ m st', evF Tryz.prog (ovA GL) GL m 4 [.a [.i .i64 a1, .i .i64 a2, .i .i64 a3], .a [.i .i64 b1, .i .i64 b2, .i .i64 b3], .a [.i .i64 c1, .i .i64 c2, .i .i64 c3]] (st0 gs1) = some (.b true, st') := by
  obtain ⟨v, st', ⟨M, h1⟩, u, h2, _, h3⟩ := t_law (ro := GL) (fun _ => False) [.a [.i .i64 a1, .i .i64 a2, .i .i64 a3], .a [.i .i64 b1, .i .i64 b2, .i .i64 b3], .a [.i .i64 c1, .i .i64 c2, .i .i64 c3]] (fun u => u = .b true) rfl (st0 gs1) [.a [.i .i64 a1, .i .i64 a2, .i .i64 a3], .a [.i .i64 b1, .i .i64 b2, .i .i64 b3], .a [.i .i64 c1, .i .i64 c2, .i .i64 c3]] (Nat.le_refl _) gok' (fun _ q => q.elim) ⟨_, _, rfl, ⟨_, rfl, _, _, rfl, rfl, _, _, rfl, rfl, _, _, rfl, rfl, rfl⟩, _, _, rfl, ⟨_, rfl, _, _, rfl, rfl, _, _, rfl, rfl, _, _, rfl, rfl, rfl⟩, _, _, rfl, ⟨_, rfl, _, _, rfl, rfl, _, _, rfl, rfl, _, _, rfl, rfl, rfl⟩, rfl⟩
  subst h3
  have e : v = .b true := h2
  subst e
  exact ⟨M, st', h1 M (Nat.le_refl _)⟩
end Go.Proofs.YtfpobnafniefpaaGreatDoor
