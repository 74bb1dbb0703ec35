/-
  The law FixedParts: its ties. Nothing is claimed here.
-/
import Derived.Test.YthjnkibldhfhmaaDoorKf
namespace Go.Proofs.YthjnkibldhfhmaaDoor
open Go.Vm Go.Sx Go.RowKit
variable {ro : Nat}

theorem t_33 : FnOK sy Tryd.prog GT (ovD ro) ro 33 (q_bits_Mul64 s_mul64) := by
  intro o0 us k h st vs hn hg ho hr
  unfold q_bits_Mul64 at h
  split at h
  · rename_i a0 a1
    obtain ⟨⟨h0, h1, h2, h3⟩, hk⟩ := h
    obtain ⟨v0, r0, rfl, hv0, hr0⟩ := hr
    obtain ⟨v1, r1, rfl, hv1, hr1⟩ := hr0
    have hr1 : r1 = [] := hr1
    have hv0 : v0 = .i .u64 a0 := hv0
    have hv1 : v1 = .i .u64 a1 := hv1
    subst hr1 hv0 hv1
    obtain ⟨x, rfl⟩ : ∃ c : Nat, a0 = .ofNat c := ⟨a0.toNat, by show a0 = (a0.toNat : Int); omega⟩
    obtain ⟨y, rfl⟩ : ∃ c : Nat, a1 = .ofNat c := ⟨a1.toNat, by show a1 = (a1.toNat : Int); omega⟩
    have hx : x < 18446744073709551616 := by have : ((x : Nat) : Int) < 18446744073709551616 := h1; omega
    have hy : y < 18446744073709551616 := by have : ((y : Nat) : Int) < 18446744073709551616 := h3; omega
    refine ⟨V.t [.i .u64 (.ofNat (x * y / 18446744073709551616)), .i .u64 (.ofNat (x * y % 18446744073709551616))], st, ⟨1, fun n hn => ?_⟩, .t [.i .u64 (.ofNat (x * y / 18446744073709551616)), .i .u64 (.ofNat (x * y % 18446744073709551616))], ⟨_, rfl, _, _, rfl, rfl, _, _, rfl, rfl, rfl⟩, ⟨Nat.le_refl _, fun _ _ => rfl, fun _ _ q => q⟩, hk⟩
    cases n with
    | zero => omega
    | succ n =>
      have e : ovD ro 33 [.i .u64 (.ofNat x), .i .u64 (.ofNat y)] st = some (V.t [.i .u64 (.ofNat (x * y / 18446744073709551616)), .i .u64 (.ofNat (x * y % 18446744073709551616))], st) := by
        have hb : mulB x y = true := by unfold mulB; rw [Bool.and_eq_true, Nat.blt_eq, Nat.blt_eq]; exact ⟨hx, hy⟩
        have h0 : ov2 33 [.i .u64 (.ofNat x), .i .u64 (.ofNat y)] = some (V.t [.i .u64 (.ofNat (x * y / 18446744073709551616)), .i .u64 (.ofNat (x * y % 18446744073709551616))]) := by
          show cond (mulB x y) (some (V.t [.i .u64 (.ofNat (x * y / 18446744073709551616)), .i .u64 (.ofNat (x * y % 18446744073709551616))])) none = _
          rw [hb]
          rfl
        show ofOv0 ov2 33 [.i .u64 (.ofNat x), .i .u64 (.ofNat y)] st = _
        unfold ofOv0
        rw [h0]
      unfold evF callGo
      rw [e]
  · exact h.elim
theorem t_18 : FnOK sy Tryd.prog GT (ovD ro) ro 18 (q_vitrinelaw06_alive s_alive) := by
  intro o0 us k h st vs hn hg ho hr
  unfold q_vitrinelaw06_alive at h
  split at h
  · have e : vs = [] := hr
    subst e
    exact ⟨.b true, st, ⟨1, fun n hn => by
      cases n with
      | zero => omega
      | succ n => rfl⟩, .b true, rfl, ⟨Nat.le_refl _, fun _ _ => rfl, fun _ _ q => q⟩, h⟩
  · exact h.elim
theorem t_23 : FnOK sy Tryd.prog GT (ovD ro) ro 23 (q_r6_Is s_rIs) := q_r6_Is_weak (ok_r6_Is) p_rIs
theorem t_24 : FnOK sy Tryd.prog GT (ovD ro) ro 24 (q_fixed_checkAll s_chk) := q_fixed_checkAll_weak (ok_fixed_checkAll) p_chk
theorem t_28 : FnOK sy Tryd.prog GT (ovD ro) ro 28 (q_fixed_size s_size) := q_fixed_size_weak (ok_fixed_size) p_size
theorem t_60 : FnOK sy Tryd.prog GT (ovD ro) ro 60 (q_bits_Len64 s_len) := q_bits_Len64_weak (ok_bits_Len64) p_len
theorem t_45 : FnOK sy Tryd.prog GT (ovD ro) ro 45 (q_bits_LeadingZeros64 s_lz) := q_bits_LeadingZeros64_weak (ok_bits_LeadingZeros64 s_len t_60) p_lz
theorem t_34 : FnOK sy Tryd.prog GT (ovD ro) ro 34 (q_bits_Div64 s_div) := q_bits_Div64_weak (ok_bits_Div64 s_lz t_45) p_div
theorem t_27 : FnOK sy Tryd.prog GT (ovD ro) ro 27 (q_fixed_heldProduct s_hp) := q_fixed_heldProduct_weak (ok_fixed_heldProduct s_mul64 s_div t_33 t_34) p_hp
theorem t_11 : FnOK sy Tryd.prog GT (ovD ro) ro 11 (q_fixed_Mul s_Mul) := q_fixed_Mul_weak (ok_fixed_Mul s_chk s_size s_hp t_24 t_28 t_27) p_Mul
theorem t_10 : FnOK sy Tryd.prog GT (ovD ro) ro 10 (q_fixed_Sum s_Sum) := q_fixed_Sum_weak (ok_fixed_Sum s_chk t_24) p_Sum
theorem t_law : FnOK sy Tryd.prog GT (ovD ro) ro 7 (q_vitrinelaw06_FixedParts (fun _ _ K => K true)) :=
  q_vitrinelaw06_FixedParts_weak (ok_vitrinelaw06_FixedParts s_rIs s_alive s_Mul s_Sum t_23 t_18 t_11 t_10) law_parts

theorem gok' : GOK GT GL (st0 gs1) := fun g k l h => by cases h
theorem law_ev (a : Int) (b : Int) : ∃ m st', evF Tryd.prog (ovA GL) GL m 7 [.i .i64 a, .i .i64 b] (st0 gs1) = some (.b true, st') := by
  obtain ⟨v, st', ⟨M, h1⟩, u, h2, _, h3⟩ := t_law (ro := GL) (fun _ => False) [.i .i64 a, .i .i64 b] (fun u => u = .b true) rfl (st0 gs1) [.i .i64 a, .i .i64 b] (Nat.le_refl _) gok' (fun _ q => q.elim) ⟨_, _, rfl, rfl, _, _, rfl, rfl, rfl⟩
  subst h3
  have e : v = .b true := h2
  subst e
  exact ⟨M, st', h1 M (Nat.le_refl _)⟩
end Go.Proofs.YthjnkibldhfhmaaDoor
