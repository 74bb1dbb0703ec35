/-
  The law FixedReads: its ties. Nothing is claimed here.
-/
import Derived.Test.YthjnkibldhfhmaaDoorKf
namespace Go.Proofs.YthjnkibldhfhmaaDoor
open Go.Vm Go.Sx Go.RowKit
variable {ro : Nat}

theorem t_25 : FnOK sy Tryd.prog GT (ovD ro) ro 25 (q_strconv_FormatInt s_fmt) := by
  intro o0 us k h st vs hn hg ho hr
  unfold q_strconv_FormatInt at h
  split at h
  · rename_i a0 a1
    obtain ⟨⟨rfl, h0, h1⟩, hk⟩ := h
    obtain ⟨v0, r0, rfl, hv0, hr0⟩ := hr
    obtain ⟨v1, r1, rfl, hv1, hr1⟩ := hr0
    have hr1 : r1 = [] := hr1
    have hv0 : v0 = .i .i64 a0 := hv0
    have hv1 : v1 = .i .i64 10 := hv1
    subst hr1 hv0 hv1
    obtain ⟨c, rfl⟩ : ∃ c : Nat, a0 = .ofNat c := ⟨a0.toNat, by show a0 = (a0.toNat : Int); omega⟩
    have hc : c < 9223372036854775808 := by have : ((c : Nat) : Int) < 9223372036854775808 := h1; omega
    refine ⟨V.str (Lib.decDigits c), st, ⟨1, fun n hn => ?_⟩, .s (Lib.decDigits c), rfl, ⟨Nat.le_refl _, fun _ _ => rfl, fun _ _ q => q⟩, hk⟩
    cases n with
    | zero => omega
    | succ n =>
      have e : ovD ro 25 [.i .i64 (.ofNat c), .i .i64 (.ofNat 10)] st = some (V.str (Lib.decDigits c), st) := by
        have hb : fmtB c 10 = true := by unfold fmtB; rw [Bool.and_eq_true, Nat.beq_eq, Nat.blt_eq]; exact ⟨rfl, hc⟩
        have h0 : ov2 25 [.i .i64 (.ofNat c), .i .i64 (.ofNat 10)] = some (V.str (Lib.decDigits c)) := by
          show (match cond (fmtB c 10) (some (V.str (dgF 20 c []))) none with | some r => some r | none => _) = _
          rw [hb, cond_true, dgF_eq 19 c [] (Nat.lt_trans hc (by decide)), List.append_nil]
        show ofOv0 ov2 25 [.i .i64 (.ofNat c), .i .i64 (.ofNat 10)] st = _
        unfold ofOv0
        rw [h0]
      unfold evF callGo
      rw [show ((10 : Int)) = .ofNat 10 from rfl, e]
  · exact h.elim
theorem t_26 : FnOK sy Tryd.prog GT (ovD ro) ro 26 (q_fixed_fraction s_fra) := by
  intro o0 us k h st vs hn hg ho hr
  unfold q_fixed_fraction at h
  split at h
  · rename_i a0
    obtain ⟨⟨h0, h1⟩, hk⟩ := h
    obtain ⟨v0, r0, rfl, hv0, hr0⟩ := hr
    have hr0 : r0 = [] := hr0
    have hv0 : v0 = .i .i64 a0 := hv0
    subst hr0 hv0
    obtain ⟨c, rfl⟩ : ∃ c : Nat, a0 = .ofNat c := ⟨a0.toNat, by show a0 = (a0.toNat : Int); omega⟩
    have hc : c < 1000 := by have : ((c : Nat) : Int) < 1000 := h1; omega
    refine ⟨V.str (frV c), st, ⟨1, fun n hn => ?_⟩, .s (frV c), rfl, ⟨Nat.le_refl _, fun _ _ => rfl, fun _ _ q => q⟩, hk⟩
    cases n with
    | zero => omega
    | succ n =>
      have e : ovD ro 26 [.i .i64 (.ofNat c)] st = some (V.str (frV c), st) := by
        have hb : Nat.blt c 1000 = true := by rw [Nat.blt_eq]; exact hc
        have h0 : ov2 26 [.i .i64 (.ofNat c)] = some (V.str (frV c)) := by
          have hl : ovL 26 [.i .i64 (.ofNat c)] = none := rfl
          have hf : ovF 26 [.i .i64 (.ofNat c)] = some (V.str (frV c)) := by
            show cond (Nat.blt c 1000) (some (V.str (frV c))) none = _
            rw [hb]
            rfl
          simp only [ov2, ov1, hl, hf]
        show ofOv0 ov2 26 [.i .i64 (.ofNat c)] st = _
        unfold ofOv0
        rw [h0]
      unfold evF callGo
      rw [e]
  · exact h.elim
theorem t_dgk : ∀ k, FnOK sy Tryd.prog GT (ovD ro) ro 40 (q_r6_digits (sD k))
  | 0 => fun o0 us k h => by unfold q_r6_digits at h; split at h <;> exact h.elim
  | k + 1 => q_r6_digits_weak (ok_r6_digits (sD k) (t_dgk k)) (p_rD k)
theorem t_40 : FnOK sy Tryd.prog GT (ovD ro) ro 40 (q_r6_digits s_dg6) := t_dgk 13
theorem t_txk : ∀ k, FnOK sy Tryd.prog GT (ovD ro) ro 31 (q_r6_Text (sT k))
  | 0 => fun o0 us k h => by unfold q_r6_Text at h; split at h <;> exact h.elim
  | k + 1 => q_r6_Text_weak (ok_r6_Text (sT k) s_dg6 (t_txk k) t_40) (p_rT k)
theorem t_31 : FnOK sy Tryd.prog GT (ovD ro) ro 31 (q_r6_Text s_rText) := t_txk 2
theorem t_47 : FnOK sy Tryd.prog GT (ovD ro) ro 47 (q_token_byteAt s_byteAt) := q_token_byteAt_weak (ok_token_byteAt) p_byteAt
theorem t_46 : FnOK sy Tryd.prog GT (ovD ro) ro 46 (q_token_isSign s_isSign) := q_token_isSign_weak (ok_token_isSign) p_isSign
theorem t_48 : FnOK sy Tryd.prog GT (ovD ro) ro 48 (q_char_IsDigit s_isD) := q_char_IsDigit_weak (ok_char_IsDigit) p_isD
theorem t_49 : FnOK sy Tryd.prog GT (ovD ro) ro 49 (q_token_fractionStarts s_frac) := q_token_fractionStarts_weak (ok_token_fractionStarts s_byteAt s_isD t_47 t_48) p_frac
theorem t_35 : FnOK sy Tryd.prog GT (ovD ro) ro 35 (q_token_numberStarts s_numS) := q_token_numberStarts_weak (ok_token_numberStarts s_byteAt s_isSign s_isD s_frac t_47 t_46 t_48 t_49) p_numS
theorem t_52 : FnOK sy Tryd.prog GT (ovD ro) ro 52 (q_token_isExponentMark s_isExp) := q_token_isExponentMark_weak (ok_token_isExponentMark) p_isExp
theorem t_53 : FnOK sy Tryd.prog GT (ovD ro) ro 53 (q_token_digitStarts s_digS) := q_token_digitStarts_weak (ok_token_digitStarts s_byteAt s_isSign s_isD t_47 t_46 t_48) p_digS
theorem t_54 : FnOK sy Tryd.prog GT (ovD ro) ro 54 (q_token_wholeNumber s_whole) := q_token_wholeNumber_weak (ok_token_wholeNumber) p_whole
theorem t_67 : FnOK sy Tryd.prog GT (ovD ro) ro 67 (q_strings_trimLeftByte s_trimB) := q_strings_trimLeftByte_weak (ok_strings_trimLeftByte) p_trimB
theorem t_64 : FnOK sy Tryd.prog GT (ovD ro) ro 64 (q_strings_TrimLeft s_trim) := q_strings_TrimLeft_weak (ok_strings_TrimLeft s_trimB t_67) p_trim
theorem t_55 : FnOK sy Tryd.prog GT (ovD ro) ro 55 (q_token_cutNumber s_cut) := q_token_cutNumber_weak (ok_token_cutNumber s_trim t_64) p_cut
theorem t_36 : FnOK sy Tryd.prog GT (ovD ro) ro 36 (q_token_readNumber s_num) := q_token_readNumber_weak (ok_token_readNumber s_frac s_byteAt s_isExp s_digS s_whole s_cut s_isSign s_isD t_49 t_47 t_52 t_53 t_54 t_55 t_46 t_48) p_num
theorem t_29 : FnOK sy Tryd.prog GT (ovD ro) ro 29 (q_token_Value s_val) := q_token_Value_weak (ok_token_Value s_numS s_num t_35 t_36) p_val
theorem t_15 : FnOK sy Tryd.prog GT (ovD ro) ro 15 (q_fixed_Read s_Read) := q_fixed_Read_weak (ok_fixed_Read s_val t_29) p_Read
theorem t_56 : FnOK sy Tryd.prog GT (ovD ro) ro 56 (q_ref_At s_rAt) := q_ref_At_weak (ok_ref_At) p_rAt
theorem t_57 : FnOK sy Tryd.prog GT (ovD ro) ro 57 (q_ref_Digit s_rDg) := q_ref_Digit_weak (ok_ref_Digit) p_rDg
theorem t_37 : FnOK sy Tryd.prog GT (ovD ro) ro 37 (q_ref_NumberAt s_rNumAt) := q_ref_NumberAt_weak (ok_ref_NumberAt s_rAt s_rDg t_56 t_57) p_rNumAt
theorem t_58 : FnOK sy Tryd.prog GT (ovD ro) ro 58 (q_ref_digits s_rDigs) := q_ref_digits_weak (ok_ref_digits s_rAt s_rDg t_56 t_57) p_rDigs
theorem t_38 : FnOK sy Tryd.prog GT (ovD ro) ro 38 (q_ref_NumberEnd s_rNumEnd) := q_ref_NumberEnd_weak (ok_ref_NumberEnd s_rAt s_rDigs s_rDg t_56 t_58 t_57) p_rNumEnd
theorem t_39 : FnOK sy Tryd.prog GT (ovD ro) ro 39 (q_ref_Thousandths s_rTh) := q_ref_Thousandths_weak (ok_ref_Thousandths s_rAt s_rDg t_56 t_57) p_rTh
theorem t_30 : FnOK sy Tryd.prog GT (ovD ro) ro 30 (q_ref_Value s_rVal) := q_ref_Value_weak (ok_ref_Value s_rNumAt s_rNumEnd s_rTh t_37 t_38 t_39) p_rVal
theorem t_19 : FnOK sy Tryd.prog GT (ovD ro) ro 19 (q_r6_Read s_rRead) := q_r6_Read_weak (ok_r6_Read s_rVal t_30) p_rRead
theorem t_24 : FnOK sy Tryd.prog GT (ovD ro) ro 24 (q_fixed_checkAll s_chk) := q_fixed_checkAll_weak (ok_fixed_checkAll) p_chk
theorem t_9 : FnOK sy Tryd.prog GT (ovD ro) ro 9 (q_fixed_Write s_Write) := q_fixed_Write_weak (ok_fixed_Write s_chk s_fmt s_fra t_24 t_25 t_26) p_Write
theorem t_23 : FnOK sy Tryd.prog GT (ovD ro) ro 23 (q_r6_Is s_rIs) := q_r6_Is_weak (ok_r6_Is) p_rIs
theorem t_20 : FnOK sy Tryd.prog GT (ovD ro) ro 20 (q_r6_Write s_rWrite) := q_r6_Write_weak (ok_r6_Write s_rIs s_rText t_23 t_31) p_rWrite
theorem t_12 : FnOK sy Tryd.prog GT (ovD ro) ro 12 (q_fixed_Whole s_Whole) := q_fixed_Whole_weak (ok_fixed_Whole s_chk t_24) p_Whole
theorem t_21 : FnOK sy Tryd.prog GT (ovD ro) ro 21 (q_r6_Whole s_rWhole) := q_r6_Whole_weak (ok_r6_Whole s_rIs t_23) p_rWhole
theorem t_14 : FnOK sy Tryd.prog GT (ovD ro) ro 14 (q_fixed_Check s_Check) := q_fixed_Check_weak (ok_fixed_Check s_chk t_24) p_Check
theorem t_22 : FnOK sy Tryd.prog GT (ovD ro) ro 22 (q_r6_Check s_rCheck) := q_r6_Check_weak (ok_r6_Check s_rIs t_23) p_rCheck
theorem t_law : FnOK sy Tryd.prog GT (ovD ro) ro 4 (q_vitrinelaw06_FixedReads (fun _ _ K => K true)) :=
  q_vitrinelaw06_FixedReads_weak (ok_vitrinelaw06_FixedReads s_Read s_rRead s_Write s_rWrite s_Whole s_rWhole s_Check s_rCheck t_15 t_19 t_9 t_20 t_12 t_21 t_14 t_22) law_reads

theorem gok' : GOK GT GL (st0 gs1) := fun g k l h => by cases h
theorem law_ev (a : Int) (b : List UInt8) : ∃ m st', evF Tryd.prog (ovA GL) GL m 4 [.i .i64 a, V.str b] (st0 gs1) = some (.b true, st') := by
  obtain ⟨v, st', ⟨M, h1⟩, u, h2, _, h3⟩ := t_law (ro := GL) (fun _ => False) [.i .i64 a, .s b] (fun u => u = .b true) rfl (st0 gs1) [.i .i64 a, V.str b] (Nat.le_refl _) gok' (fun _ q => q.elim) ⟨_, _, rfl, rfl, _, _, rfl, rfl, rfl⟩
  subst h3
  have e : v = .b true := h2
  subst e
  exact ⟨M, st', h1 M (Nat.le_refl _)⟩
end Go.Proofs.YthjnkibldhfhmaaDoor
