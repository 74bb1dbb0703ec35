/-
  Tokens do what the model says. Nothing is claimed here.
-/
import Derived.Test.YthjnfeihngjchaaDoorWd
import Derived.Test.YthjnfeihngjchaaDoorWe
import Derived.Lib.Index
namespace Go.Proofs.YthjnfeihngjchaaDoor
open Go.Vm Go.Sx Go.RowKit

/-! ### Lengths -/
theorem signN_len (w : List UInt8) : signN w ≤ w.length := by
  unfold signN
  split
  · rename_i q
    cases w with
    | nil => exact absurd q (by decide)
    | cons c w => simp
  · exact Nat.zero_le _
theorem drop_ne {w : List UInt8} {n : Nat} (h : hb (w.drop n) ≠ 0) : n < w.length := by
  by_cases q : n < w.length
  · exact q
  · rw [List.drop_of_length_le (by omega)] at h; exact absurd rfl h
theorem behindW_len (w : List UInt8) : behindW w ≤ w.length := by
  have h := digs_len (w.drop (signN w))
  have h2 := signN_len w
  rw [List.length_drop] at h
  unfold behindW wholeD
  omega
theorem fracS_hb {w : List UInt8} (h : fracS w = true) : hb w = 46 := by
  unfold fracS at h
  rw [Bool.and_eq_true] at h
  exact of_decide_eq_true h.1
theorem behindF_len (w : List UInt8) : behindF w ≤ w.length := by
  have h := behindW_len w
  unfold behindF
  split
  · rename_i q
    have hl := drop_ne (w := w) (n := behindW w) (by rw [fracS_hb q]; decide)
    have h2 := digs_len (w.drop (behindW w)).tail
    unfold fracD
    rw [if_pos q]
    rw [List.length_tail, List.length_drop] at h2
    omega
  · omega
theorem expM_len (w : List UInt8) : (expM w).2 ≤ w.length := by
  unfold expM
  split
  · rename_i q
    rw [Bool.and_eq_true] at q
    cases w with
    | nil => exact absurd q.1 (by decide)
    | cons c w =>
      by_cases q2 : mSg (hb (c :: w).tail) = true
      · rw [if_pos q2, if_pos q2]
        cases w with
        | nil => exact absurd (show mSg (hb []) = true from q2) (by decide)
        | cons d w =>
          have := digs_len w
          show 2 + (digs w).length ≤ w.length + 1 + 1
          omega
      · rw [if_neg q2, if_neg q2]
        have := digs_len w
        show 1 + (digs w).length ≤ w.length + 1
        omega
  · simp
theorem behindE_len (w : List UInt8) : behindE w ≤ w.length := by
  have h := expM_len (w.drop (behindF w))
  have h2 := behindF_len w
  rw [List.length_drop] at h
  unfold behindE
  omega
theorem behindE_pos {w : List UInt8} (h : numS w = true) : 1 ≤ behindE w := by
  unfold behindE
  suffices q : 1 ≤ behindF w by omega
  unfold behindF
  cases q : mSg (hb w) with
  | true =>
    have : 1 ≤ behindW w := by unfold behindW signN; rw [if_pos q]; omega
    omega
  | false =>
    have e : signN w = 0 := by unfold signN; rw [if_neg (by rw [q]; decide)]
    unfold numS at h
    rw [if_neg (by rw [q]; decide), Bool.or_eq_true] at h
    cases w with
    | nil => rcases h with h | h <;> exact absurd h (by decide)
    | cons c w =>
    cases q2 : mD (c.toNat : Int) with
    | true =>
      have : behindW (c :: w) = (digs (c :: w)).length := by unfold behindW wholeD; rw [e, Nat.zero_add, List.drop_zero]
      rw [digs_pos q2, List.length_cons] at this
      omega
    | false =>
      have : behindW (c :: w) = 0 := by unfold behindW wholeD; rw [e, Nat.zero_add, List.drop_zero, digs_neg q2]; rfl
      rw [this, List.drop_zero]
      rcases h with h | h
      · rw [hb_cons, q2] at h; cases h
      · rw [if_pos h]; omega
theorem nSp_pos {w : List UInt8} (h : mSp (hb w) = true) : 1 ≤ nSp w := by
  cases w with
  | nil => exact absurd h (by decide)
  | cons c w => rw [hb_cons] at h; unfold nSp; rw [if_pos h]; omega
theorem escS_hb {w : List UInt8} (h : escS w = true) : hb w = 92 := by
  unfold escS at h
  rw [Bool.and_eq_true] at h
  exact of_decide_eq_true h.1
theorem nameM_pos {w : List UInt8} (h : nameG w = true) : 1 ≤ (nameM w).2 := by
  cases w with
  | nil => exact absurd h (by decide)
  | cons c w =>
    rw [nameM, if_pos h]
    split <;> simp only <;> omega
theorem nameS_G {w : List UInt8} (h : nameS w = true) : nameG w = true := by
  unfold nameS at h
  unfold nameG mN
  split at h
  · rw [Bool.or_eq_true] at h
    rcases h with h | h <;> rw [h] <;> simp
  · rename_i q
    have q : hb w = 45 := by simpa using q
    rw [q]
    have e : (mD 45 || decide ((45 : Int) = 45)) = true := by decide
    rw [e, Bool.or_true, Bool.true_or]
theorem strM_len (q : Int) (w : List UInt8) : (strM q w).2.2 ≤ w.length := by
  induction hn : w.length using Nat.strongRecOn generalizing w with
  | _ n ih =>
    cases w with
    | nil => rw [strM]; simp
    | cons c w =>
      rw [List.length_cons] at hn
      rw [strM.eq_def]
      simp only
      split
      · simp only; omega
      · split
        · simp
        · split
          · have := ih w.length (by omega) w rfl
            simp only
            omega
          · cases w with
            | nil => simp only [List.length_nil] at hn ⊢; omega
            | cons d v =>
              rw [List.length_cons] at hn
              simp only
              split
              · have := ih v.length (by omega) v rfl
                simp only
                omega
              · have he := escM_len (d :: v)
                rw [List.length_cons] at he
                have := ih ((d :: v).drop (escM (d :: v)).2).length (by rw [List.length_drop, List.length_cons]; omega) _ rfl
                rw [List.length_drop, List.length_cons] at this
                simp only
                omega
theorem badM_len (w : List UInt8) : badM w ≤ w.length := by
  induction hn : w.length using Nat.strongRecOn generalizing w with
  | _ n ih =>
    cases w with
    | nil => rw [badM]; simp
    | cons c w =>
      rw [List.length_cons] at hn
      rw [badM]
      split
      · omega
      · split
        · have he := escM_len w
          have := ih (w.drop (escM w).2).length (by rw [List.length_drop]; omega) (w.drop (escM w).2) rfl
          rw [List.length_drop] at this
          omega
        · have := ih w.length (by omega) w rfl
          omega
theorem readUrlM_len (w : List UInt8) : (readUrlM w).2 ≤ w.length := by
  have ha := nSp_len w
  have hu := urlM_len (w.drop (nSp w))
  have hb := badM_len (w.drop (nSp w + (urlM (w.drop (nSp w))).2))
  rw [List.length_drop] at hu hb
  unfold readUrlM
  simp only
  split
  · simp only; omega
  · split
    · rename_i q
      have := drop_ne (w := w) (n := nSp w + (urlM (w.drop (nSp w))).2) (by rw [q]; decide)
      simp only
      omega
    · simp only; omega
theorem namedM_len {w : List UInt8} : (namedM w).2 ≤ w.length := by
  have hn := nameM_len w
  unfold namedM
  simp only
  split
  · simp only; omega
  · rename_i q
    have q : hb (w.drop (nameM w).2) = 40 := by simpa using q
    have hl := drop_ne (w := w) (n := (nameM w).2) (by rw [q]; decide)
    have hu := readUrlM_len (w.drop (nameM w).2).tail
    rw [List.length_tail, List.length_drop] at hu
    split
    · simp only; omega
    · simp only; omega
theorem namedM_pos {w : List UInt8} (h : nameS w = true) : 1 ≤ (namedM w).2 := by
  have := nameM_pos (nameS_G h)
  unfold namedM
  simp only
  split
  · simp only; omega
  · split <;> simp only <;> omega
theorem numericM_len (w : List UInt8) : (numericM w).2 ≤ w.length := by
  have h := behindE_len w
  have e : (numM w).2.2 = behindE w := rfl
  have hn := nameM_len (w.drop (numM w).2.2)
  rw [List.length_drop] at hn
  unfold numericM
  simp only
  split
  · simp only; omega
  · split
    · rename_i q
      have := drop_ne (w := w) (n := (numM w).2.2) (by rw [q]; decide)
      simp only
      omega
    · simp only; omega
theorem numericM_pos {w : List UInt8} (h : numS w = true) : 1 ≤ (numericM w).2 := by
  have h := behindE_pos h
  have e : (numM w).2.2 = behindE w := rfl
  unfold numericM
  simp only
  split
  · simp only; omega
  · split <;> simp only <;> omega
theorem pre_len {a w : List UInt8} (h : a.isPrefixOf w = true) : a.length ≤ w.length := (List.isPrefixOf_iff_prefix.mp h).length_le
theorem tok5_len {w : List UInt8} (hw : w ≠ []) : 1 ≤ (tok5 w).2 ∧ (tok5 w).2 ≤ w.length := by
  have hl : 1 ≤ w.length := by cases w with | nil => exact absurd rfl hw | cons c w => simp
  unfold tok5
  split
  · rename_i q; exact ⟨namedM_pos q, namedM_len⟩
  · split <;> exact ⟨Nat.le_refl _, hl⟩
theorem tok4_len {w : List UInt8} (hw : w ≠ []) : 1 ≤ (tok4 w).2 ∧ (tok4 w).2 ≤ w.length := by
  unfold tok4
  split
  · have := nameM_len w.tail
    cases w with
    | nil => exact absurd rfl hw
    | cons c w => simp only [List.tail_cons, List.length_cons] at this ⊢; omega
  · exact tok5_len hw
theorem tok2_len {w : List UInt8} (hw : w ≠ []) : 1 ≤ (tok2 w).2 ∧ (tok2 w).2 ≤ w.length := by
  unfold tok2
  split
  · rename_i q; exact ⟨numericM_pos q, numericM_len w⟩
  · split
    · rename_i q; exact ⟨by decide, pre_len q⟩
    · split
      · rename_i q; exact ⟨by decide, pre_len q⟩
      · exact tok4_len hw
theorem tokM_len {w : List UInt8} (hw : w ≠ []) : 1 ≤ (tokM w).2 ∧ (tokM w).2 ≤ w.length := by
  unfold tokM
  split
  · rename_i q; exact ⟨nSp_pos q, nSp_len w⟩
  · split
    · have := strM_len (hb w) w.tail
      cases w with
      | nil => exact absurd rfl hw
      | cons c w => simp only [List.tail_cons, List.length_cons] at this ⊢; omega
    · split
      · have := nameM_len w.tail
        cases w with
        | nil => exact absurd rfl hw
        | cons c w => simp only [List.tail_cons, List.length_cons] at this ⊢; omega
      · exact tok2_len hw
theorem closM_len : ∀ (w : List UInt8) (k : Nat), closM w = some k → k + 2 ≤ w.length
  | [], k, h => by cases h
  | c :: w, k, h => by
    unfold closM at h
    split at h
    · rename_i q
      obtain rfl := Option.some.inj h
      cases w with
      | nil => exact absurd q.2 (by decide)
      | cons d w => simp
    · cases hc : closM w with
      | none => rw [hc] at h; cases h
      | some m =>
        rw [hc] at h
        have h : m + 1 = k := Option.some.inj h
        have := closM_len w m hc
        rw [List.length_cons]
        omega
theorem comM_len (w : List UInt8) : comM w ≤ w.length := by
  induction hn : w.length using Nat.strongRecOn generalizing w with
  | _ n ih =>
    rw [comM]
    split
    · rename_i q
      have hp := pre_len q
      simp only [List.length_cons, List.length_nil] at hp
      split
      · omega
      · rename_i k hk
        have := closM_len _ _ hk
        rw [List.length_drop] at this
        split
        · exact Nat.zero_le _
        · have h2 := ih (w.drop (2 + (k + 2))).length (by rw [List.length_drop]; omega) _ rfl
          rw [List.length_drop] at h2
          omega
    · exact Nat.zero_le _

/-! ### Beginnings, and comments -/
def s_HP1 : T_stringslite_HasPrefix := fun s c K => K (c.isPrefixOf s)
theorem p_HP1 (s c K) (h : s_HP1 s c K) : F_stringslite_HasPrefix s c K := by
  unfold s_HP1 at h
  refine ⟨fun q => ⟨⟨by omega, of_decide_eq_true q⟩, ?_⟩, fun q => ?_⟩
  · have e : (s.take (c.length : Int).toNat == c) = c.isPrefixOf s := by
      rw [Int.toNat_natCast]
      cases q : c.isPrefixOf s with
      | true =>
        have := List.prefix_iff_eq_take.mp (List.isPrefixOf_iff_prefix.mp q)
        rw [← this]; exact beq_self_eq_true _
      | false =>
        cases q2 : s.take c.length == c with
        | false => rfl
        | true =>
          have := List.isPrefixOf_iff_prefix.mpr (List.prefix_iff_eq_take.mpr (eq_of_beq q2).symm)
          rw [q] at this; cases this
    rw [e]; exact h
  · have q := of_decide_eq_false q
    cases q2 : c.isPrefixOf s with
    | false => rw [q2] at h; exact h
    | true => have := pre_len q2; exfalso; omega
def s_HP : T_strings_HasPrefix := fun s c K => K (c.isPrefixOf s)
theorem p_HP (s c K) (h : s_HP s c K) : F_strings_HasPrefix s_HP1 s c K := h
def s_Ind1 : T_stringslite_Index := fun s c K => s.length ≤ 1000000 ∧ K (Lib.index s c)
def s_Ind : T_strings_Index := fun s c K => s.length ≤ 1000000 ∧ K (Lib.index s c)
theorem p_Ind (s c K) (h : s_Ind s c K) : F_strings_Index s_Ind1 s c K := h
theorem closM_index : ∀ w : List UInt8, Lib.index w [42, 47] = match closM w with | none => -1 | some k => (k : Int)
  | [] => rfl
  | c :: w => by
    have ih := closM_index w
    have hp : ([42, 47] : List UInt8).isPrefixOf (c :: w) = decide (c = 42 ∧ hb w = 47) := by
      by_cases q : c = 42
      · cases w with
        | nil => subst q; rfl
        | cons d w =>
          subst q
          by_cases q2 : (d.toNat : Int) = 47
          · have : d = 47 := UInt8.toNat_inj.mp (by show d.toNat = 47; omega)
            subst this
            simp [List.isPrefixOf]
          · have : (47 : UInt8) ≠ d := fun e => q2 (by rw [← e]; rfl)
            simp [List.isPrefixOf, q2, this]
      · have : (42 : UInt8) ≠ c := fun e => q e.symm
        simp [List.isPrefixOf, q, this]
    unfold Lib.index closM
    rw [hp]
    by_cases q : c = 42 ∧ hb w = 47
    · rw [if_pos (decide_eq_true q), if_pos q]; rfl
    · rw [if_neg (by rw [decide_eq_false q]; decide), if_neg q, ih]
      cases closM w with
      | none => rfl
      | some k =>
        simp only [Option.map_some]
        rw [if_neg (by simp only [beq_iff_eq]; omega), Int.natCast_add]
        rfl
theorem p_comL (s : List UInt8) (hs : s.length ≤ 1000000) (K : Int → Prop) : ∀ (n : Nat) (w : List UInt8) (i : Int), w.length ≤ n → s.drop i.toNat = w → 0 ≤ i → i ≤ s.length → K (i + (comM w : Int)) → ∃ m, F_behindCommentsA_l1 s_HP s_Ind m s i (fun y => K y) (fun y => K y) := by
  intro n
  induction n with
  | zero =>
    intro w i hn hd h0 hi h
    have : w = [] := List.length_eq_zero_iff.mp (by omega)
    subst this
    rw [comM] at h
    refine ⟨1, ⟨h0, hi⟩, fun q => ?_, fun _ => by simpa [List.isPrefixOf] using h⟩
    rw [hd] at q; exact absurd q (by decide)
  | succ n ih =>
    intro w i hn hd h0 hi h
    have hlw := congrArg List.length hd
    rw [List.length_drop] at hlw
    rw [comM] at h
    cases q : ([47, 42] : List UInt8).isPrefixOf w with
    | false =>
      rw [q] at h
      refine ⟨1, ⟨h0, hi⟩, fun q2 => ?_, fun _ => by simpa using h⟩
      rw [hd, q] at q2; cases q2
    | true =>
      have hp := pre_len q
      simp only [List.length_cons, List.length_nil] at hp
      rw [q, if_pos rfl] at h
      have e2 : s.drop (i + 2).toNat = w.drop 2 := by rw [← hd]; exact dropN h0 2
      have hidx := closM_index (w.drop 2)
      cases hc : closM (w.drop 2) with
      | none =>
        rw [hc] at h hidx
        refine ⟨1, ⟨h0, hi⟩, fun _ => ⟨I64b (by omega), ⟨by omega, by omega⟩, by rw [List.length_drop]; omega, ?_⟩, fun q2 => ?_⟩
        · rw [e2, hidx]
          refine ⟨fun _ => ?_, fun q2 => absurd q2 (by decide)⟩
          have e : i + (w.length : Int) = s.length := by omega
          simp only at h
          rw [e] at h
          exact h
        · rw [hd, q] at q2; cases q2
      | some k =>
        rw [hc] at h hidx
        simp only at h hidx
        have hk := closM_len _ _ hc
        rw [List.length_drop] at hk
        rw [if_neg (fun e => by rw [e] at hp; simp at hp)] at h
        obtain ⟨m, hm⟩ := ih (w.drop (2 + (k + 2))) (i + 2 + ((k : Int) + 2)) (by rw [List.length_drop]; omega) (by
          rw [← hd, ← dropN h0]
          congr 2
          omega) (by omega) (by omega) (by
          have e : i + 2 + ((k : Int) + 2) + (comM (w.drop (2 + (k + 2))) : Int) = i + ((2 + (k + 2) + comM (w.drop (2 + (k + 2))) : Nat) : Int) := by omega
          rw [e]; exact h)
        refine ⟨m + 1, ⟨h0, hi⟩, fun _ => ⟨I64b (by omega), ⟨by omega, by omega⟩, by rw [List.length_drop]; omega, ?_⟩, fun q2 => ?_⟩
        · rw [e2, hidx]
          exact ⟨fun q2 => (by exfalso; have := of_decide_eq_true q2; omega), fun _ => ⟨I64b (by omega), I64b (by omega), hm⟩⟩
        · rw [hd, q] at q2; cases q2
def s_com : T_behindCommentsA := fun s i K => (0 ≤ i ∧ i ≤ s.length ∧ s.length ≤ 1000000) ∧ K (i + (comM (s.drop i.toNat) : Int))
theorem p_com (s i K) (h : s_com s i K) : F_behindCommentsA s_HP s_Ind s i K := p_comL s h.1.2.2 K _ _ _ (Nat.le_refl _) rfl h.1.1 h.1.2.1 h.2

/-! ### Marks and numeric tokens -/
theorem marks_eq : marksL = marksA := rfl
def s_mark : T_token_isMark := fun c K => (0 ≤ c ∧ c ≤ 255) ∧ K (decide (markM c ≠ 0))
theorem p_mark (c K) (h : s_mark c K) : F_token_isMark c K := by
  obtain ⟨⟨h0, h1⟩, h⟩ := h
  unfold markM at h
  refine ⟨I64b (by omega), fun q => ⟨⟨h0, of_decide_eq_true q⟩, ?_, ?_⟩, fun q => ?_⟩
  · have := of_decide_eq_true q
    show 0 + c.toNat * 1 < 126
    omega
  · rw [if_pos (of_decide_eq_true q)] at h
    rw [Nat.zero_add, Nat.mul_one, marks_eq]
    exact h
  · rw [if_neg (of_decide_eq_false q)] at h
    exact h
def s_numeric : T_readNumericA := fun s i K => (0 ≤ i ∧ i ≤ s.length ∧ s.length ≤ 400000) ∧ K (numericM (s.drop i.toNat)).1 (i + ((numericM (s.drop i.toNat)).2 : Int))
theorem p_numeric (s i K) (h : s_numeric s i K) : F_readNumericA s_num s_nameS s_name s_byteAt s i K := by
  obtain ⟨⟨h0, hi, hs⟩, h⟩ := h
  have hl := behindE_len (s.drop i.toNat)
  rw [List.length_drop] at hl
  have e : (numM (s.drop i.toNat)).2.2 = behindE (s.drop i.toNat) := rfl
  unfold numericM at h
  simp only at h
  rw [← dropN h0] at h
  rw [e] at h
  refine ⟨⟨h0, hi, hs⟩, ?_⟩
  rw [e]
  refine ⟨⟨⟨by omega, by omega, by omega⟩, by omega⟩, fun q => ⟨⟨by omega, by omega, by omega⟩, ?_⟩, fun q => ⟨by omega, fun q2 => ⟨I64b (by omega), ?_⟩, fun q2 => ?_⟩⟩
  · rw [if_pos q] at h
    simp only [Int.natCast_add, ← Int.add_assoc] at h
    exact h
  · rw [if_neg (by rw [q]; decide), if_pos (of_decide_eq_true q2)] at h
    simp only [Int.natCast_add, ← Int.add_assoc] at h
    exact h
  · rw [if_neg (by rw [q]; decide), if_neg (of_decide_eq_false q2)] at h
    exact h

/-! ### One token -/
theorem p_tok5 {s : List UInt8} {i : Int} {c : UInt8} {v : List UInt8} {K : Tok → Int → Prop} (h0 : 0 ≤ i) (hs : s.length ≤ 400000) (hd : s.drop i.toNat = c :: v) (h : K (tok5 (c :: v)).1 (i + ((tok5 (c :: v)).2 : Int))) :
    (s_nameS s i (fun y18 => ((y18 = true → (s_named s i (fun y19 y20 => K (Tok.mk y19.kind y19.text y19.num y19.unit y19.flag) y20))) ∧ (y18 = false → ((0 ≤ i ∧ i < (s.length : Int)) ∧ (s_mark ((s.getD i.toNat 0).toNat : Int) (fun y21 => ((y21 = true → ((0 ≤ i ∧ i < (s.length : Int)) ∧ ((0 ≤ ((s.getD i.toNat 0).toNat : Int) ∧ ((s.getD i.toNat 0).toNat : Int) < (126 : Int)) ∧ (0 + ((s.getD i.toNat 0).toNat : Int).toNat * 1 < marksL.length ∧ (I64 (i + (1 : Int)) ∧ K (Tok.mk (marksL.getD (0 + ((s.getD i.toNat 0).toNat : Int).toNat * 1) 0) ([] : List UInt8) (0 : Int) ([] : List UInt8) false) (i + (1 : Int))))))) ∧ (y21 = false → (I64 (i + (1 : Int)) ∧ ((0 ≤ i ∧ i ≤ (i + (1 : Int)) ∧ (i + (1 : Int)) ≤ (s.length : Int)) ∧ (I64 (i + (1 : Int)) ∧ K (Tok.mk (9 : Int) ((s.drop i.toNat).take ((i + (1 : Int)).toNat - i.toNat)) (0 : Int) ([] : List UInt8) false) (i + (1 : Int)))))))))))))) := by
  obtain ⟨hl, hc, hn, _⟩ := drop_cons h0 hd
  unfold tok5 at h
  refine ⟨⟨⟨h0, by omega, by omega⟩, by omega⟩, ?_⟩
  rw [hd, hc]
  refine ⟨fun q => ⟨⟨h0, by omega, by omega⟩, by omega, ?_⟩, fun q => ⟨⟨h0, hl⟩, u8in c, fun q2 => ?_, fun q2 => ?_⟩⟩
  · rw [hd]
    rw [if_pos q] at h
    generalize namedM (c :: v) = r at h ⊢
    exact h
  · have q3 := of_decide_eq_true q2
    rw [if_neg (by rw [q]; decide), hb_cons, if_pos q3] at h
    have hlt : (c.toNat : Int) < 126 := by
      by_cases q4 : (c.toNat : Int) < 126
      · exact q4
      · unfold markM at q3; rw [if_neg q4] at q3; exact absurd rfl q3
    refine ⟨⟨h0, hl⟩, ⟨(u8in c).1, hlt⟩, by show 0 + (c.toNat : Int).toNat * 1 < 126; omega, I64b (by omega), ?_⟩
    rw [Nat.zero_add, Nat.mul_one, marks_eq]
    unfold markM at h
    rw [if_pos hlt] at h
    exact h
  · have q3 := of_decide_eq_false q2
    rw [if_neg (by rw [q]; decide), hb_cons, if_neg q3] at h
    refine ⟨I64b (by omega), ⟨h0, by omega, by omega⟩, I64b (by omega), ?_⟩
    have e : (i + 1).toNat - i.toNat = 1 := by omega
    rw [e]
    exact h
theorem p_tok4 {s : List UInt8} {i : Int} {c : UInt8} {v : List UInt8} {K : Tok → Int → Prop} (h0 : 0 ≤ i) (hs : s.length ≤ 400000) (hd : s.drop i.toNat = c :: v) (h : K (tok4 (c :: v)).1 (i + ((tok4 (c :: v)).2 : Int))) :
    ((0 ≤ i ∧ i < (s.length : Int)) ∧ (((decide (((s.getD i.toNat 0).toNat : Int) = (64 : Int))) = true → (I64 (i + (1 : Int)) ∧ (s_nameS s (i + (1 : Int)) (fun y15 => ((y15 = true → (I64 (i + (1 : Int)) ∧ (s_name s (i + (1 : Int)) (fun y16 y17 => K (Tok.mk (3 : Int) y16 (0 : Int) ([] : List UInt8) false) y17)))) ∧ (y15 = false → (s_nameS s i (fun y18 => ((y18 = true → (s_named s i (fun y19 y20 => K (Tok.mk y19.kind y19.text y19.num y19.unit y19.flag) y20))) ∧ (y18 = false → ((0 ≤ i ∧ i < (s.length : Int)) ∧ (s_mark ((s.getD i.toNat 0).toNat : Int) (fun y21 => ((y21 = true → ((0 ≤ i ∧ i < (s.length : Int)) ∧ ((0 ≤ ((s.getD i.toNat 0).toNat : Int) ∧ ((s.getD i.toNat 0).toNat : Int) < (126 : Int)) ∧ (0 + ((s.getD i.toNat 0).toNat : Int).toNat * 1 < marksL.length ∧ (I64 (i + (1 : Int)) ∧ K (Tok.mk (marksL.getD (0 + ((s.getD i.toNat 0).toNat : Int).toNat * 1) 0) ([] : List UInt8) (0 : Int) ([] : List UInt8) false) (i + (1 : Int))))))) ∧ (y21 = false → (I64 (i + (1 : Int)) ∧ ((0 ≤ i ∧ i ≤ (i + (1 : Int)) ∧ (i + (1 : Int)) ≤ (s.length : Int)) ∧ (I64 (i + (1 : Int)) ∧ K (Tok.mk (9 : Int) ((s.drop i.toNat).take ((i + (1 : Int)).toNat - i.toNat)) (0 : Int) ([] : List UInt8) false) (i + (1 : Int)))))))))))))))))))) ∧ ((decide (((s.getD i.toNat 0).toNat : Int) = (64 : Int))) = false → (s_nameS s i (fun y22 => ((y22 = true → (s_named s i (fun y23 y24 => K (Tok.mk y23.kind y23.text y23.num y23.unit y23.flag) y24))) ∧ (y22 = false → ((0 ≤ i ∧ i < (s.length : Int)) ∧ (s_mark ((s.getD i.toNat 0).toNat : Int) (fun y25 => ((y25 = true → ((0 ≤ i ∧ i < (s.length : Int)) ∧ ((0 ≤ ((s.getD i.toNat 0).toNat : Int) ∧ ((s.getD i.toNat 0).toNat : Int) < (126 : Int)) ∧ (0 + ((s.getD i.toNat 0).toNat : Int).toNat * 1 < marksL.length ∧ (I64 (i + (1 : Int)) ∧ K (Tok.mk (marksL.getD (0 + ((s.getD i.toNat 0).toNat : Int).toNat * 1) 0) ([] : List UInt8) (0 : Int) ([] : List UInt8) false) (i + (1 : Int))))))) ∧ (y25 = false → (I64 (i + (1 : Int)) ∧ ((0 ≤ i ∧ i ≤ (i + (1 : Int)) ∧ (i + (1 : Int)) ≤ (s.length : Int)) ∧ (I64 (i + (1 : Int)) ∧ K (Tok.mk (9 : Int) ((s.drop i.toNat).take ((i + (1 : Int)).toNat - i.toNat)) (0 : Int) ([] : List UInt8) false) (i + (1 : Int))))))))))))))))) := by
  obtain ⟨hl, hc, hn, _⟩ := drop_cons h0 hd
  unfold tok4 at h
  refine ⟨⟨h0, hl⟩, fun q => ?_, fun q => ?_⟩
  · have q := of_decide_eq_true q
    rw [hc] at q
    refine ⟨I64b (by omega), ⟨⟨⟨by omega, by omega, by omega⟩, by omega⟩, ?_⟩⟩
    rw [hn]
    refine ⟨fun q2 => ⟨I64b (by omega), ⟨by omega, by omega, by omega⟩, ?_⟩, fun q2 => ?_⟩
    · rw [hb_cons, if_pos ⟨q, q2⟩] at h
      rw [hn]
      have e : i + ((1 + (nameM v).2 : Nat) : Int) = i + 1 + ((nameM v).2 : Int) := by omega
      rw [List.tail_cons, e] at h
      exact h
    · rw [if_neg (fun x => by have := x.2; rw [List.tail_cons, q2] at this; cases this)] at h
      exact p_tok5 (K := K) h0 hs hd h
  · have q := of_decide_eq_false q
    rw [hc] at q
    rw [if_neg (fun x => q (by rw [hb_cons] at x; exact x.1))] at h
    exact p_tok5 (K := K) h0 hs hd h
theorem p_tok2 {s : List UInt8} {i : Int} {c : UInt8} {v : List UInt8} {K : Tok → Int → Prop} (h0 : 0 ≤ i) (hs : s.length ≤ 400000) (hd : s.drop i.toNat = c :: v) (h : K (tok2 (c :: v)).1 (i + ((tok2 (c :: v)).2 : Int))) :
    (s_numS s i (fun y10 => ((y10 = true → (s_numeric s i (fun y11 y12 => K (Tok.mk y11.kind y11.text y11.num y11.unit y11.flag) y12))) ∧ (y10 = false → ((0 ≤ i ∧ i ≤ (s.length : Int)) ∧ (s_HP (s.drop i.toNat) ([45, 45, 62] : List UInt8) (fun y13 => ((y13 = true → (I64 (i + (3 : Int)) ∧ K (Tok.mk (15 : Int) ([] : List UInt8) (0 : Int) ([] : List UInt8) false) (i + (3 : Int)))) ∧ (y13 = false → ((0 ≤ i ∧ i ≤ (s.length : Int)) ∧ (s_HP (s.drop i.toNat) ([60, 33, 45, 45] : List UInt8) (fun y14 => ((y14 = true → (I64 (i + (4 : Int)) ∧ K (Tok.mk (14 : Int) ([] : List UInt8) (0 : Int) ([] : List UInt8) false) (i + (4 : Int)))) ∧ (y14 = false → ((0 ≤ i ∧ i < (s.length : Int)) ∧ (((decide (((s.getD i.toNat 0).toNat : Int) = (64 : Int))) = true → (I64 (i + (1 : Int)) ∧ (s_nameS s (i + (1 : Int)) (fun y15 => ((y15 = true → (I64 (i + (1 : Int)) ∧ (s_name s (i + (1 : Int)) (fun y16 y17 => K (Tok.mk (3 : Int) y16 (0 : Int) ([] : List UInt8) false) y17)))) ∧ (y15 = false → (s_nameS s i (fun y18 => ((y18 = true → (s_named s i (fun y19 y20 => K (Tok.mk y19.kind y19.text y19.num y19.unit y19.flag) y20))) ∧ (y18 = false → ((0 ≤ i ∧ i < (s.length : Int)) ∧ (s_mark ((s.getD i.toNat 0).toNat : Int) (fun y21 => ((y21 = true → ((0 ≤ i ∧ i < (s.length : Int)) ∧ ((0 ≤ ((s.getD i.toNat 0).toNat : Int) ∧ ((s.getD i.toNat 0).toNat : Int) < (126 : Int)) ∧ (0 + ((s.getD i.toNat 0).toNat : Int).toNat * 1 < marksL.length ∧ (I64 (i + (1 : Int)) ∧ K (Tok.mk (marksL.getD (0 + ((s.getD i.toNat 0).toNat : Int).toNat * 1) 0) ([] : List UInt8) (0 : Int) ([] : List UInt8) false) (i + (1 : Int))))))) ∧ (y21 = false → (I64 (i + (1 : Int)) ∧ ((0 ≤ i ∧ i ≤ (i + (1 : Int)) ∧ (i + (1 : Int)) ≤ (s.length : Int)) ∧ (I64 (i + (1 : Int)) ∧ K (Tok.mk (9 : Int) ((s.drop i.toNat).take ((i + (1 : Int)).toNat - i.toNat)) (0 : Int) ([] : List UInt8) false) (i + (1 : Int)))))))))))))))))))) ∧ ((decide (((s.getD i.toNat 0).toNat : Int) = (64 : Int))) = false → (s_nameS s i (fun y22 => ((y22 = true → (s_named s i (fun y23 y24 => K (Tok.mk y23.kind y23.text y23.num y23.unit y23.flag) y24))) ∧ (y22 = false → ((0 ≤ i ∧ i < (s.length : Int)) ∧ (s_mark ((s.getD i.toNat 0).toNat : Int) (fun y25 => ((y25 = true → ((0 ≤ i ∧ i < (s.length : Int)) ∧ ((0 ≤ ((s.getD i.toNat 0).toNat : Int) ∧ ((s.getD i.toNat 0).toNat : Int) < (126 : Int)) ∧ (0 + ((s.getD i.toNat 0).toNat : Int).toNat * 1 < marksL.length ∧ (I64 (i + (1 : Int)) ∧ K (Tok.mk (marksL.getD (0 + ((s.getD i.toNat 0).toNat : Int).toNat * 1) 0) ([] : List UInt8) (0 : Int) ([] : List UInt8) false) (i + (1 : Int))))))) ∧ (y25 = false → (I64 (i + (1 : Int)) ∧ ((0 ≤ i ∧ i ≤ (i + (1 : Int)) ∧ (i + (1 : Int)) ≤ (s.length : Int)) ∧ (I64 (i + (1 : Int)) ∧ K (Tok.mk (9 : Int) ((s.drop i.toNat).take ((i + (1 : Int)).toNat - i.toNat)) (0 : Int) ([] : List UInt8) false) (i + (1 : Int))))))))))))))))))))))))))))))) := by
  obtain ⟨hl, hc, hn, hv⟩ := drop_cons h0 hd
  unfold tok2 at h
  refine ⟨⟨⟨h0, by omega, by omega⟩, by omega⟩, ?_⟩
  refine ⟨fun q => ⟨⟨h0, by omega, hs⟩, ?_⟩, fun q => ⟨⟨h0, by omega⟩, fun q2 => ?_, fun q2 => ⟨⟨h0, by omega⟩, fun q3 => ?_, fun q3 => ?_⟩⟩⟩
  · rw [hd] at q
    rw [if_pos q] at h
    rw [hd]
    generalize numericM (c :: v) = r at h ⊢
    exact h
  · rw [hd] at q q2
    rw [if_neg (by rw [q]; decide), if_pos q2] at h
    have h3 := pre_len q2
    have h3 : 3 ≤ v.length + 1 := h3
    have h4 : -100000000 ≤ i + 3 ∧ i + 3 ≤ 100000000 := by omega
    exact ⟨I64b h4, h⟩
  · rw [hd] at q q2 q3
    rw [if_neg (by rw [q]; decide), if_neg (by rw [q2]; decide), if_pos q3] at h
    have h3 := pre_len q3
    have h3 : 4 ≤ v.length + 1 := h3
    have h4 : -100000000 ≤ i + 4 ∧ i + 4 ≤ 100000000 := by omega
    exact ⟨I64b h4, h⟩
  · rw [hd] at q q2 q3
    rw [if_neg (by rw [q]; decide), if_neg (by rw [q2]; decide), if_neg (by rw [q3]; decide)] at h
    exact p_tok4 (K := K) h0 hs hd h
def s_token : T_readTokenA := fun s i K => (0 ≤ i ∧ i < s.length ∧ s.length ≤ 400000) ∧ K (tokM (s.drop i.toNat)).1 (i + ((tokM (s.drop i.toNat)).2 : Int))
theorem p_token (s i K) (h : s_token s i K) : F_readTokenA s_isSp s_sp s_isQ s_str s_nameG s_nameS s_name s_numS s_numeric s_HP s_named s_mark s i K := by
  obtain ⟨⟨h0, hl, hs⟩, h⟩ := h
  cases hd : s.drop i.toNat with
  | nil => have := drop_nil hd; exfalso; omega
  | cons c v =>
  obtain ⟨_, hc, hn, hv⟩ := drop_cons h0 hd
  rw [hd] at h
  unfold tokM at h
  refine ⟨⟨h0, hl⟩, fun q => ⟨⟨h0, by omega, by omega⟩, ?_⟩, fun q => ⟨⟨h0, hl⟩, fun q2 => ⟨⟨h0, hl, by omega⟩, ?_⟩, fun q2 => ⟨⟨h0, hl⟩, fun q3 => ⟨I64b (by omega), ⟨by omega, by omega, by omega⟩, fun q4 => ⟨I64b (by omega), ⟨⟨by omega, by omega, by omega⟩, by omega⟩, I64b (by omega), ⟨by omega, by omega, by omega⟩, ?_⟩, fun q4 => ?_⟩, fun q3 => ?_⟩⟩⟩
  · rw [hc] at q
    rw [hb_cons, if_pos q] at h
    rw [hd]
    exact h
  · rw [hc] at q q2
    rw [hb_cons, if_neg (by rw [q]; decide), if_pos q2, List.tail_cons] at h
    rw [hd, hn, hb_cons]
    unfold strK
    have e : i + ((1 + (strM (c.toNat : Int) v).2.2 : Nat) : Int) = i + 1 + ((strM (c.toNat : Int) v).2.2 : Int) := by omega
    rw [e] at h
    generalize strM (c.toNat : Int) v = r at h ⊢
    exact h
  · rw [hc] at q q2
    have q3 := of_decide_eq_true q3
    rw [hc] at q3
    rw [hn] at q4 ⊢
    rw [hb_cons, if_neg (by rw [q]; decide), if_neg (by rw [q2]; decide), if_pos ⟨q3, q4⟩, List.tail_cons] at h
    have e : i + ((1 + (nameM v).2 : Nat) : Int) = i + 1 + ((nameM v).2 : Int) := by omega
    rw [e] at h
    exact h
  · rw [hc] at q q2
    rw [hn] at q4
    rw [hb_cons, if_neg (by rw [q]; decide), if_neg (by rw [q2]; decide), if_neg (fun x => by have := x.2; rw [List.tail_cons, q4] at this; cases this)] at h
    exact p_tok2 (K := K) h0 hs hd h
  · rw [hc] at q q2
    have q3 := of_decide_eq_false q3
    rw [hc] at q3
    rw [hb_cons, if_neg (by rw [q]; decide), if_neg (by rw [q2]; decide), if_neg (fun x => q3 x.1)] at h
    exact p_tok2 (K := K) h0 hs hd h
end Go.Proofs.YthjnfeihngjchaaDoor
