/-
  The law WeighSums: its ties. Nothing is claimed here.
-/
import Derived.Test.YtfpobnafniefpaaKd
import Derived.Test.YtfpobnafniefpaaAs
import Derived.Test.YtfpobnafniefpaaVl
namespace Go.Proofs.Ytfpobnafniefpaa
open Go.Vm Go.Sx Go.RowKit
variable {ro : Nat}

theorem t_8 : FnOK sy Try.prog GT (ovD ro) ro 8 (q_w_isValid s_vl) := q_w_isValid_weak (ok_w_isValid) p_vl
theorem t_16 : FnOK sy Try.prog GT (ovD ro) ro 16 (q_cmp_isNaN s_nan) := q_cmp_isNaN_weak (ok_cmp_isNaN) p_nan
theorem t_15 : FnOK sy Try.prog GT (ovD ro) ro 15 (q_cmp_Compare s_cmp) := q_cmp_Compare_weak (ok_cmp_Compare s_nan t_16) p_cmp
theorem t_14 : FnOK sy Try.prog GT (ovD ro) ro 14 (q_sl_Compare s_slC) := q_sl_Compare_weak (ok_sl_Compare s_cmp t_15) p_slC
theorem t_9 : FnOK sy Try.prog GT (ovD ro) ro 9 (q_w_cmp s_cw) := q_w_cmp_weak (ok_w_cmp s_slC t_14) p_cw
theorem t_4 : FnOK sy Try.prog GT (ovD ro) ro 4 (q_w_Compare s_Cmp) := q_w_Compare_weak (ok_w_Compare s_vl s_cw t_8 t_9) p_Cmp
theorem t_10 : FnOK sy Try.prog GT (ovD ro) ro 10 (q_r9_Valid s_rVl) := q_r9_Valid_weak (ok_r9_Valid) p_rVl
theorem t_11 : FnOK sy Try.prog GT (ovD ro) ro 11 (q_r9_Order s_rOr) := q_r9_Order_weak (ok_r9_Order) p_rOr
theorem t_5 : FnOK sy Try.prog GT (ovD ro) ro 5 (q_r9_Compare s_rCmp) := q_r9_Compare_weak (ok_r9_Compare s_rVl s_rOr t_10 t_11) p_rCmp
theorem t_12 : FnOK sy Try.prog GT (ovD ro) ro 12 (q_w_sum s_ad) := q_w_sum_weak (ok_w_sum) p_ad
theorem t_6 : FnOK sy Try.prog GT (ovD ro) ro 6 (q_w_Sum s_Sum) := q_w_Sum_weak (ok_w_Sum s_vl s_ad t_8 t_12) p_Sum
theorem t_13 : FnOK sy Try.prog GT (ovD ro) ro 13 (q_r9_Add s_rAd) := q_r9_Add_weak (ok_r9_Add) p_rAd
theorem t_7 : FnOK sy Try.prog GT (ovD ro) ro 7 (q_r9_Sum s_rSum) := q_r9_Sum_weak (ok_r9_Sum s_rVl s_rAd t_10 t_13) p_rSum
theorem t_law : FnOK sy Try.prog GT (ovD ro) ro 3 (q_vitrinelaw09_WeighSums (fun _ _ K => K true)) :=
  q_vitrinelaw09_WeighSums_weak (ok_vitrinelaw09_WeighSums s_Cmp s_rCmp s_Sum s_rSum t_4 t_5 t_6 t_7) law_sums

theorem calls (a1 a2 a3 b1 b2 b3 : Int) (W : World) : Calls Try.prog 3 #[.agg #[.int .i64 a1, .int .i64 a2, .int .i64 a3], .agg #[.int .i64 b1, .int .i64 b2, .int .i64 b3]] W fun e w' => e = .returned (.bool true) ∧ Below W.heap.size W w' := by
  refine law_callsW (ov := ovA (GL + W.heap.size)) ovA_ok mixed name_of (args := [.a [.i .i64 a1, .i .i64 a2, .i .i64 a3], .a [.i .i64 b1, .i .i64 b2, .i .i64 b3]]) (by simp [V.oks, V.ok]) ?_ _ (by simp [V.reals, V.real])
  obtain ⟨v', st', ⟨M, h1⟩, u, h2, _, h3⟩ := t_law (ro := GL + W.heap.size) (fun _ => False) [.a [.i .i64 a1, .i .i64 a2, .i .i64 a3], .a [.i .i64 b1, .i .i64 b2, .i .i64 b3]] (fun u => u = .b true) rfl (stW W) [.a [.i .i64 a1, .i .i64 a2, .i .i64 a3], .a [.i .i64 b1, .i .i64 b2, .i .i64 b3]] (Nat.le_refl _) (fun g k l h => by cases h) (fun _ q => q.elim) ⟨_, _, rfl, ⟨_, rfl, _, _, rfl, rfl, _, _, rfl, rfl, _, _, rfl, rfl, rfl⟩, _, _, rfl, ⟨_, rfl, _, _, rfl, rfl, _, _, rfl, rfl, _, _, rfl, rfl, rfl⟩, rfl⟩
  subst h3
  have e : v' = .b true := h2
  subst e
  exact ⟨M, st', h1 M (Nat.le_refl _)⟩
end Go.Proofs.Ytfpobnafniefpaa
