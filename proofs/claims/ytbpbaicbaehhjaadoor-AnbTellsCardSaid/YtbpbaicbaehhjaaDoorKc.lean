/-
  The law AnbTells: its ties. Nothing is claimed here.
-/
import Derived.Test.YtbpbaicbaehhjaaDoorKb
import Derived.Test.YtbpbaicbaehhjaaDoorVl
namespace Go.Proofs.YtbpbaicbaehhjaaDoor
open Go.Vm Go.Sx Go.RowKit
variable {ro : Nat}

theorem t_20 : FnOK sy Tryd.prog GT (ovD ro) ro 20 (q_strconv_FormatInt s_fmt) := by
  intro o0 us k h st vs hn hg ho hr
  unfold q_strconv_FormatInt at h
  split at h
  · rename_i a0 a1
    obtain ⟨⟨rfl, h0, h1⟩, hk⟩ := h
    obtain ⟨v0, r0, rfl, hv0, hr0⟩ := hr
    obtain ⟨v1, r1, rfl, hv1, hr1⟩ := hr0
    have hr1 : r1 = [] := hr1
    have hv0 : v0 = .i .i64 a0 := hv0
    have hv1 : v1 = .i .i64 10 := hv1
    subst hr1 hv0 hv1
    refine ⟨V.str (Lib.itoa a0), st, ⟨1, fun n hn => ?_⟩, .s (Lib.itoa a0), rfl, ⟨Nat.le_refl _, fun _ _ => rfl, fun _ _ q => q⟩, hk⟩
    cases n with
    | zero => omega
    | succ n =>
      have e : ovD ro 20 [.i .i64 a0, .i .i64 (.ofNat 10)] st = some (V.str (Lib.itoa a0), st) := by
        cases a0 with
        | ofNat c =>
          have hc : c < 9223372036854775808 := by have : ((c : Nat) : Int) < 9223372036854775808 := h1; omega
          have hb : fmtB 10 c 9223372036854775808 = true := by unfold fmtB; rw [Bool.and_eq_true, Nat.beq_eq, Nat.blt_eq]; exact ⟨rfl, hc⟩
          have hi : Lib.itoa (Int.ofNat c) = Lib.decDigits c := by unfold Lib.itoa; rw [if_neg (by simp)]; rfl
          have h0 : ov2 20 [.i .i64 (.ofNat c), .i .i64 (.ofNat 10)] = some (V.str (Lib.itoa (Int.ofNat c))) := by
            rw [hi]
            show cond (fmtB 10 c 9223372036854775808) (some (V.str (dgF 20 c []))) none = _
            rw [hb, cond_true, dgF_eq 19 c [] (Nat.lt_trans hc (by decide)), List.append_nil]
          show ofOv0 ov2 20 _ st = _
          unfold ofOv0
          rw [h0]
        | negSucc c =>
          have hc : c < 9223372036854775808 := by omega
          have hb : fmtB 10 c 9223372036854775808 = true := by unfold fmtB; rw [Bool.and_eq_true, Nat.beq_eq, Nat.blt_eq]; exact ⟨rfl, hc⟩
          have hi : Lib.itoa (Int.negSucc c) = 45 :: Lib.decDigits (c + 1) := by unfold Lib.itoa; rw [if_pos (Int.negSucc_lt_zero _)]; rfl
          have h0 : ov2 20 [.i .i64 (.negSucc c), .i .i64 (.ofNat 10)] = some (V.str (Lib.itoa (Int.negSucc c))) := by
            rw [hi]
            show cond (fmtB 10 c 9223372036854775808) (some (V.str (45 :: dgF 20 (c + 1) []))) none = _
            rw [hb, cond_true, dgF_eq 19 (c + 1) [] (Nat.lt_of_le_of_lt hc (by decide)), List.append_nil]
          show ofOv0 ov2 20 _ st = _
          unfold ofOv0
          rw [h0]
      unfold evF callGo
      rw [show ((10 : Int)) = .ofNat 10 from rfl, e]
  · exact h.elim
theorem t_dgk : ∀ k, FnOK sy Tryd.prog GT (ovD ro) ro 22 (q_r7_digits (sD k))
  | 0 => fun o0 us k h => by unfold q_r7_digits at h; split at h <;> exact h.elim
  | k + 1 => q_r7_digits_weak (ok_r7_digits (sD k) (t_dgk k)) (p_rD k)
theorem t_22 : FnOK sy Tryd.prog GT (ovD ro) ro 22 (q_r7_digits s_rdg) := t_dgk 13
theorem t_19 : FnOK sy Tryd.prog GT (ovD ro) ro 19 (q_anb_isWithin s_isW) := q_anb_isWithin_weak (ok_anb_isWithin) p_isW
theorem t_10 : FnOK sy Tryd.prog GT (ovD ro) ro 10 (q_anb_Check s_Chk) := q_anb_Check_weak (ok_anb_Check s_isW t_19) p_Chk
theorem t_12 : FnOK sy Tryd.prog GT (ovD ro) ro 12 (q_anb_has s_has) := q_anb_has_weak (ok_anb_has) p_has
theorem t_4 : FnOK sy Tryd.prog GT (ovD ro) ro 4 (q_anb_In s_In) := q_anb_In_weak (ok_anb_In s_Chk s_has t_10 t_12) p_In
theorem t_13 : FnOK sy Tryd.prog GT (ovD ro) ro 13 (q_r7_Valid s_rVal) := q_r7_Valid_weak (ok_r7_Valid) p_rVal
theorem t_14 : FnOK sy Tryd.prog GT (ovD ro) ro 14 (q_r7_Has s_rHas) := q_r7_Has_weak (ok_r7_Has) p_rHas
theorem t_5 : FnOK sy Tryd.prog GT (ovD ro) ro 5 (q_r7_In s_rIn) := q_r7_In_weak (ok_r7_In s_rVal s_rHas t_13 t_14) p_rIn
theorem t_6 : FnOK sy Tryd.prog GT (ovD ro) ro 6 (q_anb_All s_All) := q_anb_All_weak (ok_anb_All s_Chk s_has t_10 t_12) p_All
theorem t_7 : FnOK sy Tryd.prog GT (ovD ro) ro 7 (q_r7_All s_rAll) := q_r7_All_weak (ok_r7_All s_rVal s_rHas t_13 t_14) p_rAll
theorem t_15 : FnOK sy Tryd.prog GT (ovD ro) ro 15 (q_anb_decimal s_dec) := q_anb_decimal_weak (ok_anb_decimal s_fmt t_20) p_dec
theorem t_16 : FnOK sy Tryd.prog GT (ovD ro) ro 16 (q_anb_factor s_fac) := q_anb_factor_weak (ok_anb_factor s_dec t_15) p_fac
theorem t_17 : FnOK sy Tryd.prog GT (ovD ro) ro 17 (q_anb_addend s_add) := q_anb_addend_weak (ok_anb_addend s_dec t_15) p_add
theorem t_8 : FnOK sy Tryd.prog GT (ovD ro) ro 8 (q_anb_Text s_Txt) := q_anb_Text_weak (ok_anb_Text s_Chk s_dec s_fac s_add t_10 t_15 t_16 t_17) p_Txt
theorem t_21 : FnOK sy Tryd.prog GT (ovD ro) ro 21 (q_r7_signed s_rSig) := q_r7_signed_weak (ok_r7_signed s_rdg t_22) p_rSig
theorem t_18 : FnOK sy Tryd.prog GT (ovD ro) ro 18 (q_r7_Written s_rWri) := q_r7_Written_weak (ok_r7_Written s_rSig s_rdg t_21 t_22) p_rWri
theorem t_9 : FnOK sy Tryd.prog GT (ovD ro) ro 9 (q_r7_Text s_rTxt) := q_r7_Text_weak (ok_r7_Text s_rVal s_rWri t_13 t_18) p_rTxt
theorem t_11 : FnOK sy Tryd.prog GT (ovD ro) ro 11 (q_r7_Check s_rChk) := q_r7_Check_weak (ok_r7_Check s_rVal t_13) p_rChk
theorem t_law : FnOK sy Tryd.prog GT (ovD ro) ro 3 (q_vitrinelaw07_AnbTells (fun _ _ _ K => K true)) :=
  q_vitrinelaw07_AnbTells_weak (ok_vitrinelaw07_AnbTells s_In s_rIn s_All s_rAll s_Txt s_rTxt s_Chk s_rChk t_4 t_5 t_6 t_7 t_8 t_9 t_10 t_11) (fun a p n K h => p_tells a p n K h)

theorem gok' : GOK GT GL (st0 gs1) := fun g k l h => by cases h
theorem law_ev (x y p q : Int) : ∃ m st', evF Tryd.prog (ovA GL) GL m 3 [.a [.i .i64 x, .i .i64 y], .i .i64 p, .i .i64 q] (st0 gs1) = some (.b true, st') := by
  obtain ⟨v, st', ⟨M, h1⟩, u, h2, _, h3⟩ := t_law (ro := GL) (fun _ => False) [.a [.i .i64 x, .i .i64 y], .i .i64 p, .i .i64 q] (fun u => u = .b true) rfl (st0 gs1) [.a [.i .i64 x, .i .i64 y], .i .i64 p, .i .i64 q] (Nat.le_refl _) gok' (fun _ q => q.elim) ⟨_, _, rfl, ⟨_, rfl, _, _, rfl, rfl, _, _, rfl, rfl, rfl⟩, _, _, rfl, rfl, _, _, rfl, rfl, rfl⟩
  subst h3
  have e : v = .b true := h2
  subst e
  exact ⟨M, st', h1 M (Nat.le_refl _)⟩
end Go.Proofs.YtbpbaicbaehhjaaDoor
