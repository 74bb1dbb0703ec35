/-
  The numbers of the reference. Nothing is claimed here.
-/
import Derived.Test.YthjnkibldhfhmaaDoorKa
import Derived.Test.YthjnkibldhfhmaaDoorTe
set_option linter.unusedVariables false
set_option linter.unusedSimpArgs false
namespace Go.Proofs.YthjnkibldhfhmaaDoor
open Go.Vm Go.Sx Go.RowKit Go.Vk
/-! ### Lengths -/
theorem signN_len (w : List UInt8) : signN w ≤ w.length := by
  unfold signN
  split
  · rename_i q
    cases w with
    | nil => exact absurd q (by decide)
    | cons c w => simp
  · exact Nat.zero_le _
theorem drop_ne {w : List UInt8} {n : Nat} (h : hb (w.drop n) ≠ 0) : n < w.length := by
  by_cases q : n < w.length
  · exact q
  · rw [List.drop_of_length_le (by omega)] at h; exact absurd rfl h
theorem behindW_len (w : List UInt8) : behindW w ≤ w.length := by
  have h := digs_len (w.drop (signN w))
  have h2 := signN_len w
  rw [List.length_drop] at h
  unfold behindW wholeD
  omega
theorem fracS_hb {w : List UInt8} (h : fracS w = true) : hb w = 46 := by
  unfold fracS at h
  rw [Bool.and_eq_true] at h
  exact of_decide_eq_true h.1
theorem behindF_len (w : List UInt8) : behindF w ≤ w.length := by
  have h := behindW_len w
  unfold behindF
  split
  · rename_i q
    have hl := drop_ne (w := w) (n := behindW w) (by rw [fracS_hb q]; decide)
    have h2 := digs_len (w.drop (behindW w)).tail
    unfold fracD
    rw [if_pos q]
    rw [List.length_tail, List.length_drop] at h2
    omega
  · omega
theorem expM_len (w : List UInt8) : (expM w).2 ≤ w.length := by
  unfold expM
  split
  · rename_i q
    rw [Bool.and_eq_true] at q
    cases w with
    | nil => exact absurd q.1 (by decide)
    | cons c w =>
      by_cases q2 : mSg (hb (c :: w).tail) = true
      · rw [if_pos q2, if_pos q2]
        cases w with
        | nil => exact absurd (show mSg (hb []) = true from q2) (by decide)
        | cons d w =>
          have := digs_len w
          show 2 + (digs w).length ≤ w.length + 1 + 1
          omega
      · rw [if_neg q2, if_neg q2]
        have := digs_len w
        show 1 + (digs w).length ≤ w.length + 1
        omega
  · simp
theorem behindE_len (w : List UInt8) : behindE w ≤ w.length := by
  have h := expM_len (w.drop (behindF w))
  have h2 := behindF_len w
  rw [List.length_drop] at h
  unfold behindE
  omega
theorem behindE_pos {w : List UInt8} (h : numS w = true) : 1 ≤ behindE w := by
  unfold behindE
  suffices q : 1 ≤ behindF w by omega
  unfold behindF
  cases q : mSg (hb w) with
  | true =>
    have : 1 ≤ behindW w := by unfold behindW signN; rw [if_pos q]; omega
    omega
  | false =>
    have e : signN w = 0 := by unfold signN; rw [if_neg (by rw [q]; decide)]
    unfold numS at h
    rw [if_neg (by rw [q]; decide), Bool.or_eq_true] at h
    cases w with
    | nil => rcases h with h | h <;> exact absurd h (by decide)
    | cons c w =>
    cases q2 : mD (c.toNat : Int) with
    | true =>
      have : behindW (c :: w) = (digs (c :: w)).length := by unfold behindW wholeD; rw [e, Nat.zero_add, List.drop_zero]
      rw [digs_pos q2, List.length_cons] at this
      omega
    | false =>
      have : behindW (c :: w) = 0 := by unfold behindW wholeD; rw [e, Nat.zero_add, List.drop_zero, digs_neg q2]; rfl
      rw [this, List.drop_zero]
      rcases h with h | h
      · rw [hb_cons, q2] at h; cases h
      · rw [if_pos h]; omega
theorem expM_zero {w : List UInt8} (h : (expM w).2 = 0) : (expM w).1 = 0 := by
  unfold expM at h ⊢
  split
  · rename_i q
    rw [if_pos q] at h
    simp only at h
    split at h <;> omega
  · rfl
def s_rAt : T_ref_At := fun s i K => 0 ≤ i ∧ K (hb (s.drop i.toNat))
theorem p_rAt (s i K) (h : s_rAt s i K) : F_ref_At s i K := by
  obtain ⟨h0, h⟩ := h
  unfold F_ref_At
  refine ⟨fun q => ⟨⟨h0, of_decide_eq_true q⟩, ?_⟩, fun q => ?_⟩
  · rwa [hb_getD] at h
  · have q := of_decide_eq_false q
    rwa [List.drop_of_length_le (by omega)] at h
def s_rDg : T_ref_Digit := fun c K => K (mD c)
theorem p_rDg (c K) (h : s_rDg c K) : F_ref_Digit c K := by
  unfold F_ref_Digit
  unfold s_rDg mD at h
  refine ⟨fun q => ?_, fun q => ?_⟩ <;> rw [q] at h <;> exact h

/-! ### Where a number is -/
theorem p_rDigL (s : List UInt8) (hs : s.length ≤ 1000000) (Ke : Int → Prop) : ∀ (w : List UInt8) (i : Int), s.drop i.toNat = w → okP s i → Ke (i + ((digs w).length : Int)) → ∃ m, F_ref_digits_l1 s_rAt s_rDg m s i Ke
  | [], i, hd, hi, h => by
    refine ⟨1, hi.1, fun q => ?_, fun _ => ?_⟩
    · rw [hd] at q; exact absurd q (by decide)
    · simpa [digs_nil] using h
  | c :: w, i, hd, hi, h => by
    obtain ⟨hl, hc, hn, _⟩ := drop_cons hi.1 hd
    cases q : mD (c.toNat : Int) with
    | false =>
      rw [digs_neg q] at h
      refine ⟨1, hi.1, fun q2 => ?_, fun _ => ?_⟩
      · rw [hd, hb_cons, q] at q2; cases q2
      · simpa using h
    | true =>
      rw [digs_pos q] at h
      obtain ⟨m, hm⟩ := p_rDigL s hs Ke w (i + 1) hn ⟨by omega, by omega, hs⟩ (by
        have : i + 1 + ((digs w).length : Int) = i + ((c :: digs w).length : Int) := by rw [List.length_cons]; omega
        rw [this]; exact h)
      refine ⟨m + 1, hi.1, fun _ => ⟨I64b (by omega), hm⟩, fun q2 => ?_⟩
      rw [hd, hb_cons, q] at q2; cases q2
def s_rDigs : T_ref_digits := fun s i K => okP s i ∧ K (i + ((digs (s.drop i.toNat)).length : Int))
theorem p_rDigs (s i K) (h : s_rDigs s i K) : F_ref_digits s_rAt s_rDg s i K := p_rDigL s h.1.2.2 _ _ _ rfl h.1 h.2
theorem numAt_alt (v : List UInt8) : (if hb v = 46 then mD (hb v.tail) else mD (hb v)) = (mD (hb v) || fracS v) := by
  unfold fracS
  by_cases q : hb v = 46
  · rw [if_pos q, q, decide_eq_true rfl, Bool.true_and, show mD 46 = false by decide, Bool.false_or]
  · rw [if_neg q, decide_eq_false q, Bool.false_and, Bool.or_false]
def s_rNumAt : T_ref_NumberAt := fun s i K => (okP s i ∧ i < 1999990) ∧ K (numS (s.drop i.toNat))
theorem p_rNumAt (s i K) (h : s_rNumAt s i K) : F_ref_NumberAt s_rAt s_rDg s i K := by
  obtain ⟨⟨⟨h0, h1, h2⟩, h3⟩, h⟩ := h
  unfold numS at h
  have k1 : mSg (hb (s.drop i.toNat)) = true → K (if hb (s.drop i.toNat).tail = 46 then mD (hb (s.drop i.toNat).tail.tail) else mD (hb (s.drop i.toNat).tail)) := fun q => by
    rw [if_pos q] at h
    rw [numAt_alt]; exact h
  have k2 : mSg (hb (s.drop i.toNat)) = false → K (if hb (s.drop i.toNat) = 46 then mD (hb (s.drop i.toNat).tail) else mD (hb (s.drop i.toNat))) := fun q => by
    rw [if_neg (by rw [q]; decide)] at h
    rw [numAt_alt]; exact h
  unfold F_ref_NumberAt s_rAt s_rDg
  rw [dropS (i := i + 1) (by omega), dropS h0]
  unfold mSg at k1 k2
  refine ⟨h0, fun q => ⟨fun q2 => ⟨I64b (by omega), by omega, fun q3 => ⟨I64b (by omega), by omega, ?_⟩, fun q3 => ⟨by omega, ?_⟩⟩, fun q2 => ⟨h0, fun q3 => ⟨I64b (by omega), by omega, ?_⟩, fun q3 => ⟨h0, ?_⟩⟩⟩, fun q => ⟨I64b (by omega), by omega, fun q3 => ⟨I64b (by omega), by omega, ?_⟩, fun q3 => ⟨by omega, ?_⟩⟩⟩
  · have := k1 (by rw [q2, Bool.or_true]); rw [if_pos (of_decide_eq_true q3)] at this; exact this
  · have := k1 (by rw [q2, Bool.or_true]); rw [if_neg (of_decide_eq_false q3)] at this; exact this
  · have := k2 (by rw [q, q2]; rfl); rw [if_pos (of_decide_eq_true q3)] at this; exact this
  · have := k2 (by rw [q, q2]; rfl); rw [if_neg (of_decide_eq_false q3)] at this; exact this
  · have := k1 (by rw [q, Bool.true_or]); rw [if_pos (of_decide_eq_true q3)] at this; exact this
  · have := k1 (by rw [q, Bool.true_or]); rw [if_neg (of_decide_eq_false q3)] at this; exact this
theorem p_rExpT {s : List UInt8} {j : Int} (hs : s.length ≤ 400000) (h0 : 0 ≤ j) (hj : j ≤ s.length) (K : Int → Bool → Prop) (b : Bool) (h : K (j + ((expM (s.drop j.toNat)).2 : Int)) (b && decide ((expM (s.drop j.toNat)).2 = 0))) :
    (s_rAt s j (fun y7 => (((decide (y7 = (101 : Int))) = false → (((decide (y7 = (69 : Int))) = true → (I64 (j + (1 : Int)) ∧ (s_rAt s (j + (1 : Int)) (fun y8 => (((decide (y8 = (43 : Int))) = false → (((decide (y8 = (45 : Int))) = true → (I64 ((j + (1 : Int)) + (1 : Int)) ∧ (s_rAt s ((j + (1 : Int)) + (1 : Int)) (fun z1 => (s_rDg z1 (fun z2 => ((z2 = true → (s_rDigs s ((j + (1 : Int)) + (1 : Int)) (fun z3 => K z3 false))) ∧ (z2 = false → K j b)))))))) ∧ ((decide (y8 = (45 : Int))) = false → (s_rAt s (j + (1 : Int)) (fun z1 => (s_rDg z1 (fun z2 => ((z2 = true → (s_rDigs s (j + (1 : Int)) (fun z3 => K z3 false))) ∧ (z2 = false → K j b))))))))) ∧ ((decide (y8 = (43 : Int))) = true → (I64 ((j + (1 : Int)) + (1 : Int)) ∧ (s_rAt s ((j + (1 : Int)) + (1 : Int)) (fun z1 => (s_rDg z1 (fun z2 => ((z2 = true → (s_rDigs s ((j + (1 : Int)) + (1 : Int)) (fun z3 => K z3 false))) ∧ (z2 = false → K j b))))))))))))) ∧ ((decide (y7 = (69 : Int))) = false → K j b))) ∧ ((decide (y7 = (101 : Int))) = true → (I64 (j + (1 : Int)) ∧ (s_rAt s (j + (1 : Int)) (fun y8 => (((decide (y8 = (43 : Int))) = false → (((decide (y8 = (45 : Int))) = true → (I64 ((j + (1 : Int)) + (1 : Int)) ∧ (s_rAt s ((j + (1 : Int)) + (1 : Int)) (fun z1 => (s_rDg z1 (fun z2 => ((z2 = true → (s_rDigs s ((j + (1 : Int)) + (1 : Int)) (fun z3 => K z3 false))) ∧ (z2 = false → K j b)))))))) ∧ ((decide (y8 = (45 : Int))) = false → (s_rAt s (j + (1 : Int)) (fun z1 => (s_rDg z1 (fun z2 => ((z2 = true → (s_rDigs s (j + (1 : Int)) (fun z3 => K z3 false))) ∧ (z2 = false → K j b))))))))) ∧ ((decide (y8 = (43 : Int))) = true → (I64 ((j + (1 : Int)) + (1 : Int)) ∧ (s_rAt s ((j + (1 : Int)) + (1 : Int)) (fun z1 => (s_rDg z1 (fun z2 => ((z2 = true → (s_rDigs s ((j + (1 : Int)) + (1 : Int)) (fun z3 => K z3 false))) ∧ (z2 = false → K j b)))))))))))))))) := by
  have none : (mE (hb (s.drop j.toNat)) && digS (s.drop j.toNat).tail) = false → K j b := fun q => by
    have e : expM (s.drop j.toNat) = (0, 0) := by unfold expM; rw [if_neg (by rw [q]; decide)]
    rw [e] at h; simpa using h
  have sg : mE (hb (s.drop j.toNat)) = true → mSg (hb (s.drop j.toNat).tail) = true → mD (hb (s.drop j.toNat).tail.tail) = true → K (j + 1 + 1 + ((digs (s.drop j.toNat).tail.tail).length : Int)) false := fun q1 q2 q3 => by
    have e : (expM (s.drop j.toNat)).2 = 2 + (digs (s.drop j.toNat).tail.tail).length := by
      unfold expM
      have : digS (s.drop j.toNat).tail = true := by unfold digS; rw [if_pos q2]; exact q3
      rw [q1, this, Bool.and_self, if_pos rfl]
      simp only [q2, if_true]
    rw [e] at h
    have e2 : j + ((2 + (digs (s.drop j.toNat).tail.tail).length : Nat) : Int) = j + 1 + 1 + ((digs (s.drop j.toNat).tail.tail).length : Int) := by omega
    rw [e2] at h
    simpa using h
  have ns : mE (hb (s.drop j.toNat)) = true → mSg (hb (s.drop j.toNat).tail) = false → mD (hb (s.drop j.toNat).tail) = true → K (j + 1 + ((digs (s.drop j.toNat).tail).length : Int)) false := fun q1 q2 q3 => by
    have e : (expM (s.drop j.toNat)).2 = 1 + (digs (s.drop j.toNat).tail).length := by
      unfold expM
      have : digS (s.drop j.toNat).tail = true := by unfold digS; rw [if_neg (by rw [q2]; decide)]; exact q3
      rw [q1, this, Bool.and_self, if_pos rfl]
      simp only [q2, Bool.false_eq_true, if_false]
    rw [e] at h
    have e2 : j + ((1 + (digs (s.drop j.toNat).tail).length : Nat) : Int) = j + 1 + ((digs (s.drop j.toNat).tail).length : Int) := by omega
    rw [e2] at h
    simpa using h
  have dno : mE (hb (s.drop j.toNat)) = true → mSg (hb (s.drop j.toNat).tail) = true → mD (hb (s.drop j.toNat).tail.tail) = false → K j b := fun q1 q2 q3 => none (by unfold digS; rw [if_pos q2, q3, Bool.and_false])
  have dno2 : mE (hb (s.drop j.toNat)) = true → mSg (hb (s.drop j.toNat).tail) = false → mD (hb (s.drop j.toNat).tail) = false → K j b := fun q1 q2 q3 => none (by unfold digS; rw [if_neg (by rw [q2]; decide), q3, Bool.and_false])
  have hok : ∀ x : Int, 0 ≤ x → x ≤ s.length + 10 → okP s x := fun x a b => ⟨a, by omega, by omega⟩
  have d1 : s.drop (j + 1).toNat = (s.drop j.toNat).tail := dropS h0
  have d2 : s.drop (j + 1 + 1).toNat = (s.drop j.toNat).tail.tail := by rw [dropS (by omega), d1]
  have body : mE (hb (s.drop j.toNat)) = true → (I64 (j + (1 : Int)) ∧ (s_rAt s (j + (1 : Int)) (fun y8 => (((decide (y8 = (43 : Int))) = false → (((decide (y8 = (45 : Int))) = true → (I64 ((j + (1 : Int)) + (1 : Int)) ∧ (s_rAt s ((j + (1 : Int)) + (1 : Int)) (fun z1 => (s_rDg z1 (fun z2 => ((z2 = true → (s_rDigs s ((j + (1 : Int)) + (1 : Int)) (fun z3 => K z3 false))) ∧ (z2 = false → K j b)))))))) ∧ ((decide (y8 = (45 : Int))) = false → (s_rAt s (j + (1 : Int)) (fun z1 => (s_rDg z1 (fun z2 => ((z2 = true → (s_rDigs s (j + (1 : Int)) (fun z3 => K z3 false))) ∧ (z2 = false → K j b))))))))) ∧ ((decide (y8 = (43 : Int))) = true → (I64 ((j + (1 : Int)) + (1 : Int)) ∧ (s_rAt s ((j + (1 : Int)) + (1 : Int)) (fun z1 => (s_rDg z1 (fun z2 => ((z2 = true → (s_rDigs s ((j + (1 : Int)) + (1 : Int)) (fun z3 => K z3 false))) ∧ (z2 = false → K j b)))))))))))) := fun q1 => by
    have sgn : mSg (hb (s.drop j.toNat).tail) = true → (I64 ((j + (1 : Int)) + (1 : Int)) ∧ (s_rAt s ((j + (1 : Int)) + (1 : Int)) (fun z1 => (s_rDg z1 (fun z2 => ((z2 = true → (s_rDigs s ((j + (1 : Int)) + (1 : Int)) (fun z3 => K z3 false))) ∧ (z2 = false → K j b))))))) := fun q2 => by
      refine ⟨I64b (by omega), by omega, fun q3 => ⟨hok _ (by omega) (by omega), ?_⟩, fun q3 => ?_⟩
      · rw [d2] at q3 ⊢; exact sg q1 q2 q3
      · rw [d2] at q3; exact dno q1 q2 q3
    refine ⟨I64b (by omega), by omega, fun q => ⟨fun q2 => sgn ?_, fun q2 => ⟨by omega, fun q3 => ⟨hok _ (by omega) (by omega), ?_⟩, fun q3 => ?_⟩⟩, fun q => sgn ?_⟩
    · unfold mSg; rw [d1] at q2; rw [q2, Bool.or_true]
    · rw [d1] at q q2 q3 ⊢
      exact ns q1 (by unfold mSg; rw [q, q2]; rfl) q3
    · rw [d1] at q q2 q3
      exact dno2 q1 (by unfold mSg; rw [q, q2]; rfl) q3
    · unfold mSg; rw [d1] at q; rw [q, Bool.true_or]
  refine ⟨h0, fun q => ⟨fun q2 => body ?_, fun q2 => none ?_⟩, fun q => body ?_⟩
  · unfold mE; rw [q2, Bool.or_true]
  · unfold mE; rw [q, q2]; rfl
  · unfold mE; rw [q, Bool.true_or]
theorem p_rNumT {s w : List UInt8} {i j0 : Int} (hs : s.length ≤ 400000) (h0 : 0 ≤ i) (hw : s.drop i.toNat = w) (hj : i ≤ s.length) (ej : j0 = i + (signN w : Int)) (K : Int → Bool → Prop) (h : K (i + (behindE w : Int)) (!(fracS (w.drop (behindW w))) && decide ((expM (w.drop (behindF w))).2 = 0))) :
    (s_rDigs s j0 (fun y2 => (s_rAt s y2 (fun y3 => (((decide (y3 = (46 : Int))) = true → (I64 (y2 + (1 : Int)) ∧ (s_rAt s (y2 + (1 : Int)) (fun y4 => (s_rDg y4 (fun y5 => ((y5 = true → (I64 (y2 + (1 : Int)) ∧ (s_rDigs s (y2 + (1 : Int)) (fun y6 => (s_rAt s y6 (fun y7 => (((decide (y7 = (101 : Int))) = false → (((decide (y7 = (69 : Int))) = true → (I64 (y6 + (1 : Int)) ∧ (s_rAt s (y6 + (1 : Int)) (fun y8 => (((decide (y8 = (43 : Int))) = false → (((decide (y8 = (45 : Int))) = true → (I64 ((y6 + (1 : Int)) + (1 : Int)) ∧ (s_rAt s ((y6 + (1 : Int)) + (1 : Int)) (fun z1 => (s_rDg z1 (fun z2 => ((z2 = true → (s_rDigs s ((y6 + (1 : Int)) + (1 : Int)) (fun z3 => K z3 false))) ∧ (z2 = false → K y6 false)))))))) ∧ ((decide (y8 = (45 : Int))) = false → (s_rAt s (y6 + (1 : Int)) (fun z1 => (s_rDg z1 (fun z2 => ((z2 = true → (s_rDigs s (y6 + (1 : Int)) (fun z3 => K z3 false))) ∧ (z2 = false → K y6 false))))))))) ∧ ((decide (y8 = (43 : Int))) = true → (I64 ((y6 + (1 : Int)) + (1 : Int)) ∧ (s_rAt s ((y6 + (1 : Int)) + (1 : Int)) (fun z1 => (s_rDg z1 (fun z2 => ((z2 = true → (s_rDigs s ((y6 + (1 : Int)) + (1 : Int)) (fun z3 => K z3 false))) ∧ (z2 = false → K y6 false))))))))))))) ∧ ((decide (y7 = (69 : Int))) = false → K y6 false))) ∧ ((decide (y7 = (101 : Int))) = true → (I64 (y6 + (1 : Int)) ∧ (s_rAt s (y6 + (1 : Int)) (fun y8 => (((decide (y8 = (43 : Int))) = false → (((decide (y8 = (45 : Int))) = true → (I64 ((y6 + (1 : Int)) + (1 : Int)) ∧ (s_rAt s ((y6 + (1 : Int)) + (1 : Int)) (fun z1 => (s_rDg z1 (fun z2 => ((z2 = true → (s_rDigs s ((y6 + (1 : Int)) + (1 : Int)) (fun z3 => K z3 false))) ∧ (z2 = false → K y6 false)))))))) ∧ ((decide (y8 = (45 : Int))) = false → (s_rAt s (y6 + (1 : Int)) (fun z1 => (s_rDg z1 (fun z2 => ((z2 = true → (s_rDigs s (y6 + (1 : Int)) (fun z3 => K z3 false))) ∧ (z2 = false → K y6 false))))))))) ∧ ((decide (y8 = (43 : Int))) = true → (I64 ((y6 + (1 : Int)) + (1 : Int)) ∧ (s_rAt s ((y6 + (1 : Int)) + (1 : Int)) (fun z1 => (s_rDg z1 (fun z2 => ((z2 = true → (s_rDigs s ((y6 + (1 : Int)) + (1 : Int)) (fun z3 => K z3 false))) ∧ (z2 = false → K y6 false)))))))))))))))))))) ∧ (y5 = false → (s_rAt s y2 (fun y7 => (((decide (y7 = (101 : Int))) = false → (((decide (y7 = (69 : Int))) = true → (I64 (y2 + (1 : Int)) ∧ (s_rAt s (y2 + (1 : Int)) (fun y8 => (((decide (y8 = (43 : Int))) = false → (((decide (y8 = (45 : Int))) = true → (I64 ((y2 + (1 : Int)) + (1 : Int)) ∧ (s_rAt s ((y2 + (1 : Int)) + (1 : Int)) (fun z1 => (s_rDg z1 (fun z2 => ((z2 = true → (s_rDigs s ((y2 + (1 : Int)) + (1 : Int)) (fun z3 => K z3 false))) ∧ (z2 = false → K y2 true)))))))) ∧ ((decide (y8 = (45 : Int))) = false → (s_rAt s (y2 + (1 : Int)) (fun z1 => (s_rDg z1 (fun z2 => ((z2 = true → (s_rDigs s (y2 + (1 : Int)) (fun z3 => K z3 false))) ∧ (z2 = false → K y2 true))))))))) ∧ ((decide (y8 = (43 : Int))) = true → (I64 ((y2 + (1 : Int)) + (1 : Int)) ∧ (s_rAt s ((y2 + (1 : Int)) + (1 : Int)) (fun z1 => (s_rDg z1 (fun z2 => ((z2 = true → (s_rDigs s ((y2 + (1 : Int)) + (1 : Int)) (fun z3 => K z3 false))) ∧ (z2 = false → K y2 true))))))))))))) ∧ ((decide (y7 = (69 : Int))) = false → K y2 true))) ∧ ((decide (y7 = (101 : Int))) = true → (I64 (y2 + (1 : Int)) ∧ (s_rAt s (y2 + (1 : Int)) (fun y8 => (((decide (y8 = (43 : Int))) = false → (((decide (y8 = (45 : Int))) = true → (I64 ((y2 + (1 : Int)) + (1 : Int)) ∧ (s_rAt s ((y2 + (1 : Int)) + (1 : Int)) (fun z1 => (s_rDg z1 (fun z2 => ((z2 = true → (s_rDigs s ((y2 + (1 : Int)) + (1 : Int)) (fun z3 => K z3 false))) ∧ (z2 = false → K y2 true)))))))) ∧ ((decide (y8 = (45 : Int))) = false → (s_rAt s (y2 + (1 : Int)) (fun z1 => (s_rDg z1 (fun z2 => ((z2 = true → (s_rDigs s (y2 + (1 : Int)) (fun z3 => K z3 false))) ∧ (z2 = false → K y2 true))))))))) ∧ ((decide (y8 = (43 : Int))) = true → (I64 ((y2 + (1 : Int)) + (1 : Int)) ∧ (s_rAt s ((y2 + (1 : Int)) + (1 : Int)) (fun z1 => (s_rDg z1 (fun z2 => ((z2 = true → (s_rDigs s ((y2 + (1 : Int)) + (1 : Int)) (fun z3 => K z3 false))) ∧ (z2 = false → K y2 true)))))))))))))))))))))))) ∧ ((decide (y3 = (46 : Int))) = false → (s_rAt s y2 (fun y7 => (((decide (y7 = (101 : Int))) = false → (((decide (y7 = (69 : Int))) = true → (I64 (y2 + (1 : Int)) ∧ (s_rAt s (y2 + (1 : Int)) (fun y8 => (((decide (y8 = (43 : Int))) = false → (((decide (y8 = (45 : Int))) = true → (I64 ((y2 + (1 : Int)) + (1 : Int)) ∧ (s_rAt s ((y2 + (1 : Int)) + (1 : Int)) (fun z1 => (s_rDg z1 (fun z2 => ((z2 = true → (s_rDigs s ((y2 + (1 : Int)) + (1 : Int)) (fun z3 => K z3 false))) ∧ (z2 = false → K y2 true)))))))) ∧ ((decide (y8 = (45 : Int))) = false → (s_rAt s (y2 + (1 : Int)) (fun z1 => (s_rDg z1 (fun z2 => ((z2 = true → (s_rDigs s (y2 + (1 : Int)) (fun z3 => K z3 false))) ∧ (z2 = false → K y2 true))))))))) ∧ ((decide (y8 = (43 : Int))) = true → (I64 ((y2 + (1 : Int)) + (1 : Int)) ∧ (s_rAt s ((y2 + (1 : Int)) + (1 : Int)) (fun z1 => (s_rDg z1 (fun z2 => ((z2 = true → (s_rDigs s ((y2 + (1 : Int)) + (1 : Int)) (fun z3 => K z3 false))) ∧ (z2 = false → K y2 true))))))))))))) ∧ ((decide (y7 = (69 : Int))) = false → K y2 true))) ∧ ((decide (y7 = (101 : Int))) = true → (I64 (y2 + (1 : Int)) ∧ (s_rAt s (y2 + (1 : Int)) (fun y8 => (((decide (y8 = (43 : Int))) = false → (((decide (y8 = (45 : Int))) = true → (I64 ((y2 + (1 : Int)) + (1 : Int)) ∧ (s_rAt s ((y2 + (1 : Int)) + (1 : Int)) (fun z1 => (s_rDg z1 (fun z2 => ((z2 = true → (s_rDigs s ((y2 + (1 : Int)) + (1 : Int)) (fun z3 => K z3 false))) ∧ (z2 = false → K y2 true)))))))) ∧ ((decide (y8 = (45 : Int))) = false → (s_rAt s (y2 + (1 : Int)) (fun z1 => (s_rDg z1 (fun z2 => ((z2 = true → (s_rDigs s (y2 + (1 : Int)) (fun z3 => K z3 false))) ∧ (z2 = false → K y2 true))))))))) ∧ ((decide (y8 = (43 : Int))) = true → (I64 ((y2 + (1 : Int)) + (1 : Int)) ∧ (s_rAt s ((y2 + (1 : Int)) + (1 : Int)) (fun z1 => (s_rDg z1 (fun z2 => ((z2 = true → (s_rDigs s ((y2 + (1 : Int)) + (1 : Int)) (fun z3 => K z3 false))) ∧ (z2 = false → K y2 true)))))))))))))))))))))) := by
  have hl : w.length = s.length - i.toNat := by rw [← hw, List.length_drop]
  have l1 := signN_len w
  have l2 := behindW_len w
  have l3 := behindF_len w
  have eS : s.drop j0.toNat = w.drop (signN w) := by rw [ej, dropN h0, hw]
  have eW : i + (behindW w : Int) = j0 + ((digs (s.drop j0.toNat)).length : Int) := by
    rw [eS, ej]
    show i + ((signN w + (wholeD w).length : Nat) : Int) = i + (signN w : Int) + ((wholeD w).length : Int)
    omega
  have dW : s.drop (i + (behindW w : Int)).toNat = w.drop (behindW w) := by rw [dropN h0, hw]
  have hok : ∀ x : Int, 0 ≤ x → x ≤ s.length + 10 → okP s x := fun x a b => ⟨a, by omega, by omega⟩
  have nofrac : fracS (w.drop (behindW w)) = false → K (i + (behindW w : Int) + ((expM (s.drop (i + (behindW w : Int)).toNat)).2 : Int)) (true && decide ((expM (s.drop (i + (behindW w : Int)).toNat)).2 = 0)) := fun q => by
    have eF : behindF w = behindW w := by unfold behindF; rw [if_neg (by rw [q]; decide), Nat.add_zero]
    rw [dW]
    unfold behindE at h
    rw [q, eF] at h
    simpa only [Bool.not_false, Bool.not_true, Int.natCast_add, ← Int.add_assoc] using h
  refine ⟨hok _ (by omega) (by omega), ?_⟩
  rw [← eW]
  refine ⟨by omega, fun q => ⟨I64b (by omega), by omega, fun q2 => ⟨I64b (by omega), hok _ (by omega) (by omega), ?_⟩, fun q2 => p_rExpT hs (by omega) (by omega) K true (nofrac ?_)⟩, fun q => p_rExpT hs (by omega) (by omega) K true (nofrac ?_)⟩
  · have d1 : s.drop (i + (behindW w : Int) + 1).toNat = (w.drop (behindW w)).tail := by rw [dropS (by omega), dW]
    rw [dW] at q
    rw [d1] at q2
    have qf : fracS (w.drop (behindW w)) = true := by unfold fracS; rw [q, q2]; rfl
    have eF : behindF w = behindW w + (1 + (fracD w).length) := by unfold behindF; rw [if_pos qf]
    have eD : fracD w = digs (w.drop (behindW w)).tail := by unfold fracD; rw [if_pos qf]
    have e1 : i + (behindW w : Int) + 1 + ((digs (s.drop (i + (behindW w : Int) + 1).toNat)).length : Int) = i + (behindF w : Int) := by
      rw [d1, ← eD, eF]; omega
    rw [e1]
    have dF : s.drop (i + (behindF w : Int)).toNat = w.drop (behindF w) := by rw [dropN h0, hw]
    refine p_rExpT hs (by omega) (by omega) K false ?_
    rw [dF]
    unfold behindE at h
    rw [qf] at h
    simpa only [Bool.not_false, Bool.not_true, Int.natCast_add, ← Int.add_assoc] using h
  · have d1 : s.drop (i + (behindW w : Int) + 1).toNat = (w.drop (behindW w)).tail := by rw [dropS (by omega), dW]
    rw [d1] at q2
    unfold fracS; rw [q2, Bool.and_false]
  · rw [dW] at q
    unfold fracS; rw [q, Bool.false_and]
def s_rNumEnd : T_ref_NumberEnd := fun s i K => (0 ≤ i ∧ i ≤ s.length ∧ s.length ≤ 400000) ∧ K (i + (behindE (s.drop i.toNat) : Int)) (!(fracS ((s.drop i.toNat).drop (behindW (s.drop i.toNat)))) && decide ((expM ((s.drop i.toNat).drop (behindF (s.drop i.toNat)))).2 = 0))
theorem p_rNumEnd (s i K) (h : s_rNumEnd s i K) : F_ref_NumberEnd s_rAt s_rDigs s_rDg s i K := by
  obtain ⟨⟨h0, hi, hs⟩, h⟩ := h
  generalize hw : s.drop i.toNat = w at h
  have hbw : hb (s.drop i.toNat) = hb w := by rw [hw]
  refine ⟨h0, fun q => ⟨fun q2 => ⟨I64b (by omega), p_rNumT hs h0 hw hi ?_ K h⟩, fun q2 => p_rNumT hs h0 hw hi ?_ K h⟩, fun q => ⟨I64b (by omega), p_rNumT hs h0 hw hi ?_ K h⟩⟩
  · have : signN w = 1 := by unfold signN mSg; rw [← hbw, q2, Bool.or_true, if_pos rfl]
    rw [this]; rfl
  · have : signN w = 0 := by unfold signN mSg; rw [← hbw, q, q2, if_neg (by decide)]
    rw [this]; omega
  · have : signN w = 1 := by unfold signN mSg; rw [← hbw, q, Bool.true_or, if_pos rfl]
    rw [this]; rfl

/-! ### Held values -/
def mn (a : Int) : Int := if a < 1000000000000 then a else 1000000000000
def capF : Nat → List UInt8 → Int → Int
  | 0, _, n => n
  | _ + 1, [], n => n
  | r + 1, c :: w, n => capF r w (mn (10 * n + ((c.toNat : Int) - 48)))
theorem capF_zero (w : List UInt8) (n : Int) : capF 0 w n = n := by cases w <;> rfl
def mulF : Nat → Int → Int
  | 0, n => n
  | t + 1, n => if 0 < n ∧ n < 1000000000000 then mulF t (mn (10 * n)) else n
def thM (w : List UInt8) (p : Int) : Int := mn (firstM p.toNat w 0)
theorem mn_in {a : Int} (h : 0 ≤ a) : 0 ≤ mn a ∧ mn a ≤ 1000000000000 := by unfold mn; split <;> omega
theorem mn_step {a d : Int} (h : 0 ≤ a) (hd : 0 ≤ d) : mn (10 * mn a + d) = mn (a * 10 + d) := by
  unfold mn
  split <;> split <;> (try split) <;> omega
theorem capF_first : ∀ (r : Nat) (w : List UInt8) (a : Int), r ≤ w.length → AllDg w → 0 ≤ a → capF r w (mn a) = mn (firstM r w a)
  | 0, w, a, _, _, _ => by rw [capF_zero]; cases w <;> rfl
  | r + 1, [], a, h, _, _ => by simp at h
  | r + 1, c :: w, a, h, hw, ha => by
    have hd := mD_in (hw c (List.mem_cons_self ..))
    rw [capF, firstM, mn_step ha (by omega)]
    exact capF_first r w _ (by rw [List.length_cons] at h; omega) (fun b hb => hw b (List.mem_cons_of_mem _ hb)) (by omega)
theorem pow10 (t : Nat) : (1 : Int) ≤ 10 ^ t := by
  have := Nat.pow_pos (n := t) (show 0 < 10 by decide)
  have e : ((10 ^ t : Nat) : Int) = (10 : Int) ^ t := by simp
  omega
theorem mulF_mn : ∀ (t : Nat) (a : Int), 0 ≤ a → mulF t (mn a) = mn (a * 10 ^ t)
  | 0, a, _ => by rw [Int.pow_zero, Int.mul_one]; rfl
  | t + 1, a, ha => by
    rw [mulF]
    by_cases h1 : a < 1000000000000
    · have e : mn a = a := by unfold mn; rw [if_pos h1]
      by_cases h0 : 0 < a
      · rw [e, if_pos ⟨h0, h1⟩, mulF_mn t (10 * a) (by omega), Int.pow_succ]
        congr 1
        rw [Int.mul_comm 10 a, Int.mul_assoc, Int.mul_comm 10 (10 ^ t)]
      · have : a = 0 := by omega
        subst this
        rw [e, if_neg (by omega), Int.zero_mul]
        rfl
    · have e : mn a = 1000000000000 := by unfold mn; rw [if_neg h1]
      rw [e, if_neg (by omega)]
      have h2 := pow10 (t + 1)
      have h3 : a * 1 ≤ a * 10 ^ (t + 1) := Int.mul_le_mul_of_nonneg_left h2 ha
      unfold mn
      rw [if_neg (by omega)]
theorem firstM_more : ∀ (w : List UInt8) (t : Nat) (a : Int), firstM (w.length + t) w a = firstM w.length w a * 10 ^ t
  | [], t, a => by
    rw [List.length_nil, Nat.zero_add, firstM_nil]
    rfl
  | c :: w, t, a => by
    rw [List.length_cons, show w.length + 1 + t = (w.length + t) + 1 by omega, firstM, firstM]
    exact firstM_more w t _
theorem firstM_ge : ∀ (k : Nat) (w : List UInt8) (a : Int), AllDg w → 0 ≤ a → a * 10 ^ k ≤ firstM k w a
  | 0, w, a, _, _ => by rw [Int.pow_zero, Int.mul_one]; cases w <;> exact Int.le_refl _
  | k + 1, [], a, hw, ha => by rw [firstM_nil]; exact Int.le_refl _
  | k + 1, c :: w, a, hw, ha => by
    have hd := mD_in (hw c (List.mem_cons_self ..))
    rw [firstM]
    have h := firstM_ge k w (a * 10 + ((c.toNat : Int) - 48)) (fun b hb => hw b (List.mem_cons_of_mem _ hb)) (by omega)
    have h2 := pow10 k
    have h3 : a * 10 * 10 ^ k ≤ (a * 10 + ((c.toNat : Int) - 48)) * 10 ^ k := Int.mul_le_mul_of_nonneg_right (by omega) (by omega)
    rw [Int.pow_succ, Int.mul_comm (10 ^ k) 10, ← Int.mul_assoc]
    omega
theorem first_zeros : ∀ (w : List UInt8) (p : Int), firstM p.toNat w 0 = firstM (p - ((w.length : Int) - ((zeros0 w).length : Int))).toNat (zeros0 w) 0
  | [], p => by
    have : zeros0 [] = [] := rfl
    rw [this]
    congr 1
    simp
  | c :: w, p => by
    cases q : c == 48 with
    | false =>
      have : zeros0 (c :: w) = c :: w := by unfold zeros0; rw [List.dropWhile_cons, if_neg (by rw [q]; decide)]
      rw [this, Int.sub_self, Int.sub_zero]
    | true =>
      have e : c = 48 := eq_of_beq q
      have ez : zeros0 (c :: w) = zeros0 w := by unfold zeros0; rw [List.dropWhile_cons, if_pos q]
      have hz := zeros0_len w
      rw [ez, List.length_cons]
      by_cases hp : p ≤ 0
      · rw [show p.toNat = 0 by omega, show (p - (((w.length + 1 : Nat) : Int) - ((zeros0 w).length : Int))).toNat = 0 by omega]
        cases zeros0 w <;> rfl
      · obtain ⟨n, hn⟩ : ∃ n : Nat, p.toNat = n + 1 := ⟨p.toNat - 1, by omega⟩
        rw [hn, firstM, e]
        have e0 : (0 : Int) * 10 + (((48 : UInt8).toNat : Int) - 48) = 0 := by decide
        have en : n = (p - 1).toNat := by omega
        rw [e0, en, first_zeros w (p - 1)]
        congr 1
        omega
theorem thM_cut {w : List UInt8} (h : AllDg w) (p : Int) : thM w p = cutM w p := by
  unfold thM cutM
  rw [first_zeros w p]
  simp only
  have hz := zeros0_all h
  have hh : ∀ c v, zeros0 w = c :: v → 1 ≤ (c.toNat : Int) - 48 := fun c v e => by
    have hd := mD_in (hz c (by rw [e]; exact List.mem_cons_self ..))
    have hne : c ≠ 48 := fun e48 => by
      have := List.head_dropWhile_not (p := fun c : UInt8 => c == 48) (l := w) (by show zeros0 w ≠ []; rw [e]; simp)
      have e2 : (w.dropWhile fun c : UInt8 => c == 48) = c :: v := e
      simp only [e2, List.head_cons, e48] at this
      exact absurd this (by decide)
    have : (c.toNat : Int) ≠ 48 := fun e48 => hne (UInt8.toNat_inj.mp (by show c.toNat = 48; omega))
    omega
  generalize p - ((w.length : Int) - ((zeros0 w).length : Int)) = q
  cases hv : zeros0 w with
  | nil =>
    rw [if_pos (Or.inl rfl), firstM_nil, Int.zero_mul]
    rfl
  | cons c v =>
    by_cases hq : q ≤ 0
    · rw [if_pos (Or.inr hq), show q.toNat = 0 by omega]
      rfl
    · rw [if_neg (fun x => x.elim (fun y => by cases y) hq)]
      rw [hv] at hz
      split
      · rename_i h13
        have hc := hh c v hv
        have hge := firstM_ge q.toNat (c :: v) 0 hz (by omega)
        obtain ⟨n, hn⟩ : ∃ n : Nat, q.toNat = n + 1 := ⟨q.toNat - 1, by omega⟩
        rw [hn, firstM]
        have h1 := firstM_ge n v (0 * 10 + ((c.toNat : Int) - 48)) (fun b hb => hz b (List.mem_cons_of_mem _ hb)) (by omega)
        have h2 : ((10 ^ 13 : Nat) : Int) ≤ ((10 ^ n : Nat) : Int) := by
          have := Nat.pow_le_pow_right (n := 10) (by decide) (show 13 ≤ n by omega)
          omega
        have e1 : ((10 ^ n : Nat) : Int) = (10 : Int) ^ n := by simp
        have e2 : ((10 ^ 13 : Nat) : Int) = 10000000000000 := by decide
        have h3 : 1 * 10 ^ n ≤ (0 * 10 + ((c.toNat : Int) - 48)) * 10 ^ n := Int.mul_le_mul_of_nonneg_right (by omega) (by have := pow10 n; omega)
        rw [e1, e2] at h2
        rw [Int.one_mul] at h3
        unfold mn
        rw [if_neg (by omega)]
      · unfold mn
        split <;> omega
theorem cut_far {w : List UInt8} {p p' : Int} (hl : w.length ≤ 4000) (h : 5000 ≤ p) (h' : 5000 ≤ p') : cutM w p = cutM w p' := by
  have hz := zeros0_len w
  unfold cutM
  simp only
  by_cases hv : zeros0 w = []
  · rw [if_pos (Or.inl hv), if_pos (Or.inl hv)]
  · have a1 : ¬ (zeros0 w = [] ∨ p - ((w.length : Int) - ((zeros0 w).length : Int)) ≤ 0) := fun x => by
      rcases x with x | x
      · exact hv x
      · omega
    have a2 : ¬ (zeros0 w = [] ∨ p' - ((w.length : Int) - ((zeros0 w).length : Int)) ≤ 0) := fun x => by
      rcases x with x | x
      · exact hv x
      · omega
    rw [if_neg a1, if_neg a2, if_pos (by omega), if_pos (by omega)]
theorem cut_low {w : List UInt8} {p : Int} (h : p ≤ 0) : cutM w p = 0 := by
  have hz := zeros0_len w
  unfold cutM
  simp only
  rw [if_pos (Or.inr (by omega))]

/-! ### Exponents -/
def wholeR (a : Int) (c : UInt8) : Int := if 10 * a + ((c.toNat : Int) - 48) < 10000 then 10 * a + ((c.toNat : Int) - 48) else 10000
def expR (a b : Int) : Prop := (0 ≤ a ∧ a ≤ 8000 ∧ 0 ≤ b ∧ b ≤ 10000) ∧ (a = b ∨ a = 8000 ∧ 8000 ≤ b)
theorem expR_step {a b : Int} {c : UInt8} (h : expR a b) (hc : mD (c.toNat : Int) = true) : expR (wholeF a c) (wholeR b c) := by
  have hd := mD_in hc
  unfold expR wholeF wholeR at *
  split <;> omega
theorem expR_fold : ∀ (w : List UInt8) (a b : Int), AllDg w → expR a b → expR (w.foldl wholeF a) (w.foldl wholeR b)
  | [], _, _, _, h => h
  | c :: w, a, b, hw, h => expR_fold w _ _ (fun x hx => hw x (List.mem_cons_of_mem _ hx)) (expR_step h (hw c (List.mem_cons_self ..)))
theorem cut_exp {w : List UInt8} (hl : w.length ≤ 4000) {a b n : Int} (h : expR a b) (h0 : 0 ≤ n) (h1 : n ≤ 4003) : cutM w (n + a) = cutM w (n + b) ∧ cutM w (n - a) = cutM w (n - b) := by
  rcases h.2 with h2 | h2
  · rw [h2]; exact ⟨rfl, rfl⟩
  · have := h.1
    refine ⟨cut_far hl (by omega) (by omega), ?_⟩
    rw [cut_low (by omega), cut_low (by omega)]

/-! ### Loops -/
theorem p_l28 (al : List UInt8) (hl : al.length ≤ 100000) (ha : AllDg al) (pw : Int) (hp : -100000 ≤ pw ∧ pw ≤ 100000) (mi : Bool) (Ke : Int → Bool → Int → Prop) : ∀ (w : List UInt8) (k : Nat) (n : Int), al.drop k = w → k ≤ al.length → 0 ≤ n → n ≤ 1000000000000 → Ke pw mi (capF (min w.length (((al.length : Int) + pw - k).toNat)) w n) → ∃ m, F_ref_Thousandths_l28 s_rAt s_rDg m al pw mi n (k : Int) Ke
  | [], k, n, hd, hk, h0, h1, h => by
    have hd' : al.drop (k : Int).toNat = [] := hd
    have hlen := drop_nil hd'
    rw [List.length_nil, Nat.zero_min, capF_zero] at h
    refine ⟨1, I64b (by omega), fun _ => ⟨fun q => (by exfalso; have := of_decide_eq_true q; omega), fun _ => h⟩, fun _ => h⟩
  | c :: w, k, n, hd, hk, h0, h1, h => by
    have hd' : al.drop (k : Int).toNat = c :: w := hd
    obtain ⟨hlt, hc, hn, hv⟩ := drop_cons (by omega) hd'
    have hmem : c ∈ al := List.mem_of_mem_drop (by rw [hd]; exact List.mem_cons_self ..)
    have hb := mD_in (ha c hmem)
    by_cases hq : (k : Int) < (al.length : Int) + pw
    · have er : min (c :: w).length (((al.length : Int) + pw - k).toNat) = min w.length (((al.length : Int) + pw - ((k + 1 : Nat) : Int)).toNat) + 1 := by
        rw [List.length_cons]; omega
      rw [er, capF] at h
      have hm := mn_in (a := 10 * n + ((c.toNat : Int) - 48)) (by omega)
      obtain ⟨m, hm2⟩ := p_l28 al hl ha pw hp mi Ke w (k + 1) (mn (10 * n + ((c.toNat : Int) - 48))) hn (by omega) hm.1 hm.2 h
      refine ⟨m + 1, I64b (by omega), fun _ => ⟨fun _ => ⟨by unfold I64; omega, ⟨by omega, hlt⟩, ?_⟩, fun q => (by exfalso; have := of_decide_eq_false q; omega)⟩, fun q => (by exfalso; have := of_decide_eq_false q; omega)⟩
      rw [hc, w8' (by omega) (by omega)]
      exact ⟨I64b (by omega), by unfold I64; omega, I64b (by omega), hm2⟩
    · have er : min (c :: w).length (((al.length : Int) + pw - k).toNat) = 0 := by omega
      rw [er, capF_zero] at h
      refine ⟨1, I64b (by omega), fun q => (by exfalso; have := of_decide_eq_true q; omega), fun _ => h⟩
theorem p_l31 (mi : Bool) (Ke : Bool → Int → Prop) : ∀ (t : Nat) (x n : Int), x.toNat = t → x ≤ 100000 → -100000 ≤ x → 0 ≤ n → n ≤ 1000000000000 → Ke mi (mulF t n) → ∃ m, F_ref_Thousandths_l31 s_rAt s_rDg m x mi n Ke
  | 0, x, n, hx, _, _, h0, h1, h => ⟨1, fun q => (by exfalso; have := of_decide_eq_true q; omega), fun _ => h⟩
  | t + 1, x, n, hx, hx1, hx0, h0, h1, h => by
    rw [mulF] at h
    by_cases hq : 0 < n ∧ n < 1000000000000
    · rw [if_pos hq] at h
      have hm := mn_in (a := 10 * n) (by omega)
      obtain ⟨m, hm2⟩ := p_l31 mi Ke t (x - 1) (mn (10 * n)) (by omega) (by omega) (by omega) hm.1 hm.2 h
      exact ⟨m + 1, fun _ => ⟨fun _ => ⟨fun _ => ⟨by unfold I64; omega, I64b (by omega), hm2⟩, fun q => (by exfalso; have := of_decide_eq_false q; omega)⟩, fun q => (by exfalso; have := of_decide_eq_false q; omega)⟩, fun q => (by exfalso; have := of_decide_eq_false q; omega)⟩
    · rw [if_neg hq] at h
      exact ⟨1, fun _ => ⟨fun q0 => ⟨fun q => (hq ⟨of_decide_eq_true q0, of_decide_eq_true q⟩).elim, fun _ => h⟩, fun _ => h⟩, fun _ => h⟩
theorem p_fin {al : List UInt8} {pw c : Int} {K : Int → Prop} (hl : al.length ≤ 100000) (ha : AllDg al) (hp : -100000 ≤ pw ∧ pw ≤ 100000) (h : K (if c = 45 then 0 - cutM al ((al.length : Int) + pw) else cutM al ((al.length : Int) + pw))) : (∃ m, F_ref_Thousandths_l28 s_rAt s_rDg m al pw (decide (c = (45 : Int))) (0 : Int) (0 : Int) (fun y17 y18 y19 => (∃ m, F_ref_Thousandths_l31 s_rAt s_rDg m y17 y18 y19 (fun y20 y21 => ((y20 = true → (I64 (0 - y21) ∧ K (0 - y21))) ∧ (y20 = false → K y21)))))) := by
  have e : mulF pw.toNat (capF (min al.length (((al.length : Int) + pw - ((0 : Nat) : Int)).toNat)) al 0) = cutM al ((al.length : Int) + pw) := by
    rw [← thM_cut ha]
    have e0 : (0 : Int) = mn 0 := rfl
    conv => lhs; rw [e0]
    by_cases hq : pw ≤ 0
    · rw [capF_first _ _ _ (by omega) ha (by omega), show pw.toNat = 0 by omega, show min al.length (((al.length : Int) + pw - ((0 : Nat) : Int)).toNat) = ((al.length : Int) + pw).toNat by omega]
      rfl
    · rw [show min al.length (((al.length : Int) + pw - ((0 : Nat) : Int)).toNat) = al.length by omega, capF_first _ _ _ (Nat.le_refl _) ha (by omega), mulF_mn _ _ (firstM_in _ _ _ ha (by omega)), ← firstM_more, show al.length + pw.toNat = ((al.length : Int) + pw).toNat by omega]
      rfl
  have hin := cutM_in ha ((al.length : Int) + pw)
  have hcap : ∀ (r : Nat) (w : List UInt8) (n : Int), AllDg w → 0 ≤ n → n ≤ 1000000000000 → 0 ≤ capF r w n ∧ capF r w n ≤ 1000000000000 := by
    intro r
    induction r with
    | zero => intro w n _ h0 h1; rw [capF_zero]; exact ⟨h0, h1⟩
    | succ r ih =>
      intro w n hw h0 h1
      cases w with
      | nil => exact ⟨h0, h1⟩
      | cons x w =>
        have hd := mD_in (hw x (List.mem_cons_self ..))
        have hm := mn_in (a := 10 * n + ((x.toNat : Int) - 48)) (by omega)
        exact ih w _ (fun b hb => hw b (List.mem_cons_of_mem _ hb)) hm.1 hm.2
  have hcp := hcap (min al.length (((al.length : Int) + pw - ((0 : Nat) : Int)).toNat)) al 0 ha (by omega) (by omega)
  refine p_l28 al hl ha pw hp _ _ al 0 0 rfl (Nat.zero_le _) (by omega) (by omega) ?_
  refine p_l31 _ _ pw.toNat pw _ rfl hp.2 hp.1 hcp.1 hcp.2 ?_
  rw [e]
  refine ⟨fun q => ⟨by unfold I64; omega, ?_⟩, fun q => ?_⟩
  · rw [if_pos (of_decide_eq_true q)] at h; exact h
  · rw [if_neg (of_decide_eq_false q)] at h; exact h
theorem p_l20 (s : List UInt8) (hs : s.length ≤ 100000) (al : List UInt8) (pw : Int) (mi dn : Bool) (Ke : List UInt8 → Int → Bool → Bool → Int → Prop) : ∀ (w : List UInt8) (i a : Int), s.drop i.toNat = w → AllDg w → 0 ≤ i → 0 ≤ a → a ≤ 10000 → Ke al pw mi dn (w.foldl wholeR a) → ∃ m, F_ref_Thousandths_l20 s_rAt s_rDg m s al pw i mi dn a Ke
  | [], i, a, hd, _, h0, ha0, ha1, h => by
    have := drop_nil hd
    exact ⟨1, fun q => (by exfalso; have := of_decide_eq_true q; omega), fun _ => h⟩
  | c :: w, i, a, hd, hw, h0, ha0, ha1, h => by
    obtain ⟨hl, hc, hn, _⟩ := drop_cons h0 hd
    have hb := mD_in (hw c (List.mem_cons_self ..))
    have hr : 0 ≤ wholeR a c ∧ wholeR a c ≤ 10000 := by unfold wholeR; split <;> omega
    obtain ⟨m, hm⟩ := p_l20 s hs al pw mi dn Ke w (i + 1) (wholeR a c) hn (fun b hb => hw b (List.mem_cons_of_mem _ hb)) (by omega) hr.1 hr.2 h
    refine ⟨m + 1, fun _ => ⟨I64b (by omega), ⟨h0, hl⟩, ?_⟩, fun q => (by exfalso; have := of_decide_eq_false q; omega)⟩
    rw [hc, w8' (by omega) (by omega)]
    exact ⟨I64b (by omega), I64b (by omega), I64b (by omega), hm⟩
theorem p_l5 (s : List UInt8) (hs : s.length ≤ 100000) (pw : Int) (mi : Bool) (Ke : List UInt8 → List UInt8 → Int → Int → Bool → Prop) : ∀ (w : List UInt8) (i : Int) (b : List UInt8), s.drop i.toNat = w → 0 ≤ i → i ≤ s.length + 10 → b.length + w.length ≤ 1000000 → Ke s (b ++ digs w) pw (i + ((digs w).length : Int)) mi → ∃ m, F_ref_Thousandths_l5 s_rAt s_rDg m s b pw i mi Ke
  | [], i, b, hd, h0, hi, hbb, h => by
    refine ⟨1, h0, fun q => ?_, fun _ => ?_⟩
    · rw [hd] at q; exact absurd q (by decide)
    · simpa [digs_nil] using h
  | c :: w, i, b, hd, h0, hi, hbb, h => by
    obtain ⟨hl, hc, hn, _⟩ := drop_cons h0 hd
    rw [List.length_cons] at hbb
    cases q : mD (c.toNat : Int) with
    | false =>
      rw [digs_neg q] at h
      refine ⟨1, h0, fun q2 => ?_, fun _ => ?_⟩
      · rw [hd, hb_cons, q] at q2; cases q2
      · simpa using h
    | true =>
      rw [digs_pos q] at h
      obtain ⟨m, hm⟩ := p_l5 s hs pw mi Ke w (i + 1) (b ++ [c]) hn (by omega) (by omega) (by rw [List.length_append, List.length_singleton]; omega) (by
        have : i + 1 + ((digs w).length : Int) = i + ((c :: digs w).length : Int) := by rw [List.length_cons]; omega
        rw [this, List.append_assoc]; exact h)
      refine ⟨m + 1, h0, fun _ => ⟨I64b (by omega), ⟨h0, by omega, by omega⟩, ?_⟩, fun q2 => ?_⟩
      · have e1 : (i + 1).toNat - i.toNat = 1 := by omega
        rw [e1, hd]
        exact ⟨by show b.length + 1 ≤ _; omega, I64b (by omega), hm⟩
      · rw [hd, hb_cons, q] at q2; cases q2
theorem p_l10 (s : List UInt8) (hs : s.length ≤ 100000) (mi : Bool) (Ke : List UInt8 → List UInt8 → Int → Int → Bool → Prop) : ∀ (w : List UInt8) (i : Int) (b : List UInt8) (pw : Int), s.drop i.toNat = w → 0 ≤ i → i ≤ s.length + 10 → b.length + w.length ≤ 1000000 → -1000000 ≤ pw - w.length → pw ≤ 10 → Ke s (b ++ digs w) (pw - ((digs w).length : Int)) (i + ((digs w).length : Int)) mi → ∃ m, F_ref_Thousandths_l10 s_rAt s_rDg m s b pw i mi Ke
  | [], i, b, pw, hd, h0, hi, hbb, hp, hp2, h => by
    refine ⟨1, h0, fun q => ?_, fun _ => ?_⟩
    · rw [hd] at q; exact absurd q (by decide)
    · simpa [digs_nil] using h
  | c :: w, i, b, pw, hd, h0, hi, hbb, hp, hp2, h => by
    obtain ⟨hl, hc, hn, _⟩ := drop_cons h0 hd
    rw [List.length_cons] at hbb hp
    cases q : mD (c.toNat : Int) with
    | false =>
      rw [digs_neg q] at h
      refine ⟨1, h0, fun q2 => ?_, fun _ => ?_⟩
      · rw [hd, hb_cons, q] at q2; cases q2
      · simpa using h
    | true =>
      rw [digs_pos q] at h
      obtain ⟨m, hm⟩ := p_l10 s hs mi Ke w (i + 1) (b ++ [c]) (pw - 1) hn (by omega) (by omega) (by rw [List.length_append, List.length_singleton]; omega) (by omega) (by omega) (by
        have e1 : i + 1 + ((digs w).length : Int) = i + ((c :: digs w).length : Int) := by rw [List.length_cons]; omega
        have e2 : pw - 1 - ((digs w).length : Int) = pw - ((c :: digs w).length : Int) := by rw [List.length_cons]; omega
        rw [e1, e2, List.append_assoc]; exact h)
      refine ⟨m + 1, h0, fun _ => ⟨I64b (by omega), ⟨h0, by omega, by omega⟩, ?_⟩, fun q2 => ?_⟩
      · have e1 : (i + 1).toNat - i.toNat = 1 := by omega
        rw [e1, hd]
        exact ⟨by show b.length + 1 ≤ _; omega, I64b (by omega), I64b (by omega), hm⟩
      · rw [hd, hb_cons, q] at q2; cases q2
/-! ### The exponent's part -/
theorem p_th2 {s al : List UInt8} {pw i c : Int} {K : Int → Prop} (hs : s.length ≤ 4000) (h0 : 0 ≤ i) (hi : i ≤ s.length) (hl : al.length ≤ 4000) (ha : AllDg al) (hp : -4000 ≤ pw ∧ pw ≤ 3) (hn : 0 ≤ (al.length : Int) + pw) (hend : (expM (s.drop i.toNat)).2 = (s.drop i.toNat).length)
    (h : K (if c = 45 then 0 - cutM al ((al.length : Int) + pw + (expM (s.drop i.toNat)).1) else cutM al ((al.length : Int) + pw + (expM (s.drop i.toNat)).1))) :
    (((decide (i < (s.length : Int))) = true → (I64 (i + (1 : Int)) ∧ ((0 ≤ (i + (1 : Int)) ∧ (i + (1 : Int)) < (s.length : Int)) ∧ ((0 ≤ (i + (1 : Int)) ∧ (i + (1 : Int)) < (s.length : Int)) ∧ (((decide (((s.getD (i + (1 : Int)).toNat 0).toNat : Int) = (43 : Int))) = false → (((decide (((s.getD (i + (1 : Int)).toNat 0).toNat : Int) = (45 : Int))) = true → (I64 ((i + (1 : Int)) + (1 : Int)) ∧ (∃ m, F_ref_Thousandths_l20 s_rAt s_rDg m s al pw ((i + (1 : Int)) + (1 : Int)) (decide (c = (45 : Int))) (decide (((s.getD (i + (1 : Int)).toNat 0).toNat : Int) = (45 : Int))) (0 : Int) (fun y12 y13 y14 y15 y16 => ((y15 = true → (I64 (0 - y16) ∧ (I64 (y13 + (0 - y16)) ∧ (∃ m, F_ref_Thousandths_l28 s_rAt s_rDg m y12 (y13 + (0 - y16)) y14 (0 : Int) (0 : Int) (fun y17 y18 y19 => (∃ m, F_ref_Thousandths_l31 s_rAt s_rDg m y17 y18 y19 (fun y20 y21 => ((y20 = true → (I64 (0 - y21) ∧ K (0 - y21))) ∧ (y20 = false → K y21))))))))) ∧ (y15 = false → (I64 (y13 + y16) ∧ (∃ m, F_ref_Thousandths_l28 s_rAt s_rDg m y12 (y13 + y16) y14 (0 : Int) (0 : Int) (fun y17 y18 y19 => (∃ m, F_ref_Thousandths_l31 s_rAt s_rDg m y17 y18 y19 (fun y20 y21 => ((y20 = true → (I64 (0 - y21) ∧ K (0 - y21))) ∧ (y20 = false → K y21))))))))))))) ∧ ((decide (((s.getD (i + (1 : Int)).toNat 0).toNat : Int) = (45 : Int))) = false → (∃ m, F_ref_Thousandths_l20 s_rAt s_rDg m s al pw (i + (1 : Int)) (decide (c = (45 : Int))) (decide (((s.getD (i + (1 : Int)).toNat 0).toNat : Int) = (45 : Int))) (0 : Int) (fun y12 y13 y14 y15 y16 => ((y15 = true → (I64 (0 - y16) ∧ (I64 (y13 + (0 - y16)) ∧ (∃ m, F_ref_Thousandths_l28 s_rAt s_rDg m y12 (y13 + (0 - y16)) y14 (0 : Int) (0 : Int) (fun y17 y18 y19 => (∃ m, F_ref_Thousandths_l31 s_rAt s_rDg m y17 y18 y19 (fun y20 y21 => ((y20 = true → (I64 (0 - y21) ∧ K (0 - y21))) ∧ (y20 = false → K y21))))))))) ∧ (y15 = false → (I64 (y13 + y16) ∧ (∃ m, F_ref_Thousandths_l28 s_rAt s_rDg m y12 (y13 + y16) y14 (0 : Int) (0 : Int) (fun y17 y18 y19 => (∃ m, F_ref_Thousandths_l31 s_rAt s_rDg m y17 y18 y19 (fun y20 y21 => ((y20 = true → (I64 (0 - y21) ∧ K (0 - y21))) ∧ (y20 = false → K y21)))))))))))))) ∧ ((decide (((s.getD (i + (1 : Int)).toNat 0).toNat : Int) = (43 : Int))) = true → (I64 ((i + (1 : Int)) + (1 : Int)) ∧ (∃ m, F_ref_Thousandths_l20 s_rAt s_rDg m s al pw ((i + (1 : Int)) + (1 : Int)) (decide (c = (45 : Int))) (decide (((s.getD (i + (1 : Int)).toNat 0).toNat : Int) = (45 : Int))) (0 : Int) (fun y12 y13 y14 y15 y16 => ((y15 = true → (I64 (0 - y16) ∧ (I64 (y13 + (0 - y16)) ∧ (∃ m, F_ref_Thousandths_l28 s_rAt s_rDg m y12 (y13 + (0 - y16)) y14 (0 : Int) (0 : Int) (fun y17 y18 y19 => (∃ m, F_ref_Thousandths_l31 s_rAt s_rDg m y17 y18 y19 (fun y20 y21 => ((y20 = true → (I64 (0 - y21) ∧ K (0 - y21))) ∧ (y20 = false → K y21))))))))) ∧ (y15 = false → (I64 (y13 + y16) ∧ (∃ m, F_ref_Thousandths_l28 s_rAt s_rDg m y12 (y13 + y16) y14 (0 : Int) (0 : Int) (fun y17 y18 y19 => (∃ m, F_ref_Thousandths_l31 s_rAt s_rDg m y17 y18 y19 (fun y20 y21 => ((y20 = true → (I64 (0 - y21) ∧ K (0 - y21))) ∧ (y20 = false → K y21)))))))))))))))))) ∧ ((decide (i < (s.length : Int))) = false → (∃ m, F_ref_Thousandths_l28 s_rAt s_rDg m al pw (decide (c = (45 : Int))) (0 : Int) (0 : Int) (fun y17 y18 y19 => (∃ m, F_ref_Thousandths_l31 s_rAt s_rDg m y17 y18 y19 (fun y20 y21 => ((y20 = true → (I64 (0 - y21) ∧ K (0 - y21))) ∧ (y20 = false → K y21)))))))) := by
  refine ⟨fun q => ?_, fun q => ?_⟩
  · have q := of_decide_eq_true q
    have hne : (expM (s.drop i.toNat)).2 ≠ 0 := by rw [hend, List.length_drop]; omega
    have hx : (mE (hb (s.drop i.toNat)) && digS (s.drop i.toNat).tail) = true := by
      cases hx : (mE (hb (s.drop i.toNat)) && digS (s.drop i.toNat).tail) with
      | true => rfl
      | false => exact absurd (by unfold expM; rw [if_neg (by rw [hx]; decide)]) hne
    have d1 : s.drop (i + 1).toNat = (s.drop i.toNat).tail := dropS h0
    have hlt : i + 1 < s.length := by
      by_cases q2 : i + 1 < s.length
      · exact q2
      · exfalso
        have e0 : s.drop (i + 1).toNat = [] := List.drop_of_length_le (by omega)
        rw [Bool.and_eq_true, ← d1, e0] at hx
        exact absurd hx.2 (by decide)
    have eb : ((s.getD (i + 1).toNat 0).toNat : Int) = hb (s.drop i.toNat).tail := by rw [← hb_getD, d1]
    have d2 : s.drop (i + 1 + 1).toNat = (s.drop i.toNat).tail.tail := by rw [dropS (by omega), d1]
    have lt : (s.drop i.toNat).length = s.length - i.toNat := List.length_drop ..
    -- what is behind the mark is digits alone
    have key : ∀ v : List UInt8, (if mSg (hb (s.drop i.toNat).tail) then (s.drop i.toNat).tail.tail else (s.drop i.toNat).tail) = v → digs v = v ∧ (expM (s.drop i.toNat)).1 = (if hb (s.drop i.toNat).tail = 45 then 0 - wholeM v else wholeM v) := fun v hv => by
      have e : expM (s.drop i.toNat) = (if hb (s.drop i.toNat).tail = 45 then 0 - wholeM (digs v) else wholeM (digs v), (if mSg (hb (s.drop i.toNat).tail) then 2 else 1) + (digs v).length) := by
        unfold expM
        rw [if_pos hx]
        simp only [hv]
      have el : (digs v).length = v.length := by
        have h2 := digs_len v
        have h3 : (expM (s.drop i.toNat)).2 = (if mSg (hb (s.drop i.toNat).tail) then 2 else 1) + (digs v).length := by rw [e]
        rw [hend, lt] at h3
        have h4 : v.length = s.length - i.toNat - (if mSg (hb (s.drop i.toNat).tail) then 2 else 1) := by
          rw [← hv]
          split
          · rename_i q5
            rw [List.length_tail, List.length_tail, lt]; omega
          · rename_i q5
            rw [List.length_tail, lt]
        split at h3 <;> rename_i q5
        · rw [if_pos q5] at h4; omega
        · rw [if_neg q5] at h4; omega
      have ed : digs v = v := by
        have := take_digs v
        rw [el, List.take_length] at this
        exact this.symm
      refine ⟨ed, ?_⟩
      rw [e, ed]
    have done : ∀ v : List UInt8, (if mSg (hb (s.drop i.toNat).tail) then (s.drop i.toNat).tail.tail else (s.drop i.toNat).tail) = v → ((decide (((s.getD (i + 1).toNat 0).toNat : Int) = 45) = true → (I64 (0 - v.foldl wholeR 0) ∧ (I64 (pw + (0 - v.foldl wholeR 0)) ∧ (∃ m, F_ref_Thousandths_l28 s_rAt s_rDg m al (pw + (0 - v.foldl wholeR 0)) (decide (c = (45 : Int))) (0 : Int) (0 : Int) (fun y17 y18 y19 => (∃ m, F_ref_Thousandths_l31 s_rAt s_rDg m y17 y18 y19 (fun y20 y21 => ((y20 = true → (I64 (0 - y21) ∧ K (0 - y21))) ∧ (y20 = false → K y21))))))))) ∧ (decide (((s.getD (i + 1).toNat 0).toNat : Int) = 45) = false → (I64 (pw + v.foldl wholeR 0) ∧ (∃ m, F_ref_Thousandths_l28 s_rAt s_rDg m al (pw + v.foldl wholeR 0) (decide (c = (45 : Int))) (0 : Int) (0 : Int) (fun y17 y18 y19 => (∃ m, F_ref_Thousandths_l31 s_rAt s_rDg m y17 y18 y19 (fun y20 y21 => ((y20 = true → (I64 (0 - y21) ∧ K (0 - y21))) ∧ (y20 = false → K y21))))))))) := fun v hv => by
      obtain ⟨hd, he⟩ := key v hv
      have hA : AllDg v := by rw [← hd]; exact digs_all _
      have hR := expR_fold v 0 0 hA ⟨by omega, Or.inl rfl⟩
      have hin := hR.1
      have hcut := cut_exp (w := al) hl hR hn (by omega)
      rw [he] at h
      rw [eb]
      refine ⟨fun q5 => ⟨I64b (by omega), I64b (by omega), p_fin (by omega) ha (by omega) ?_⟩, fun q5 => ⟨I64b (by omega), p_fin (by omega) ha (by omega) ?_⟩⟩
      · have q5 := of_decide_eq_true q5
        rw [if_pos q5] at h
        have e1 : (al.length : Int) + (pw + (0 - v.foldl wholeR 0)) = (al.length : Int) + pw - v.foldl wholeR 0 := by omega
        have e2 : (al.length : Int) + pw + (0 - wholeM v) = (al.length : Int) + pw - v.foldl wholeF 0 := by unfold wholeM; omega
        rw [e1, ← hcut.2]
        rw [e2] at h
        exact h
      · have q5 := of_decide_eq_false q5
        rw [if_neg q5] at h
        have e1 : (al.length : Int) + (pw + v.foldl wholeR 0) = (al.length : Int) + pw + v.foldl wholeR 0 := by omega
        rw [e1, ← hcut.1]
        exact h
    have hi1 : I64 (i + 1) := I64b (by omega)
    have sgn : mSg (hb (s.drop i.toNat).tail) = true → (I64 ((i + (1 : Int)) + (1 : Int)) ∧ (∃ m, F_ref_Thousandths_l20 s_rAt s_rDg m s al pw ((i + (1 : Int)) + (1 : Int)) (decide (c = (45 : Int))) (decide (((s.getD (i + (1 : Int)).toNat 0).toNat : Int) = (45 : Int))) (0 : Int) (fun y12 y13 y14 y15 y16 => ((y15 = true → (I64 (0 - y16) ∧ (I64 (y13 + (0 - y16)) ∧ (∃ m, F_ref_Thousandths_l28 s_rAt s_rDg m y12 (y13 + (0 - y16)) y14 (0 : Int) (0 : Int) (fun y17 y18 y19 => (∃ m, F_ref_Thousandths_l31 s_rAt s_rDg m y17 y18 y19 (fun y20 y21 => ((y20 = true → (I64 (0 - y21) ∧ K (0 - y21))) ∧ (y20 = false → K y21))))))))) ∧ (y15 = false → (I64 (y13 + y16) ∧ (∃ m, F_ref_Thousandths_l28 s_rAt s_rDg m y12 (y13 + y16) y14 (0 : Int) (0 : Int) (fun y17 y18 y19 => (∃ m, F_ref_Thousandths_l31 s_rAt s_rDg m y17 y18 y19 (fun y20 y21 => ((y20 = true → (I64 (0 - y21) ∧ K (0 - y21))) ∧ (y20 = false → K y21)))))))))))) := fun q5 => by
      obtain ⟨hd, _⟩ := key _ (by rw [if_pos q5])
      refine ⟨I64b (by omega), p_l20 s (by omega) al pw _ _ _ (s.drop i.toNat).tail.tail (i + 1 + 1) 0 d2 (by rw [← hd]; exact digs_all _) (by omega) (by omega) (by omega) (done _ (by rw [if_pos q5]))⟩
    refine ⟨hi1, ⟨by omega, hlt⟩, ⟨by omega, hlt⟩, fun q5 => ⟨fun q6 => sgn ?_, fun q6 => ?_⟩, fun q5 => sgn ?_⟩
    · rw [eb] at q6; unfold mSg; rw [q6, Bool.or_true]
    · have q7 : mSg (hb (s.drop i.toNat).tail) = false := by rw [eb] at q5 q6; unfold mSg; rw [q5, q6]; rfl
      obtain ⟨hd, _⟩ := key _ (by rw [if_neg (by rw [q7]; decide)])
      exact p_l20 s (by omega) al pw _ _ _ (s.drop i.toNat).tail (i + 1) 0 d1 (by rw [← hd]; exact digs_all _) (by omega) (by omega) (by omega) (done _ (by rw [if_neg (by rw [q7]; decide)]))
    · rw [eb] at q5; unfold mSg; rw [q5, Bool.true_or]
  · have q := of_decide_eq_false q
    have e : (expM (s.drop i.toNat)).1 = 0 := by
      apply expM_zero
      rw [hend, List.length_drop]
      omega
    rw [e, Int.add_zero] at h
    exact p_fin (by omega) ha (by omega) h

/-! ### The value -/
theorem p_th1 {s al : List UInt8} {pw i c : Int} {K : Int → Prop} (hs : s.length ≤ 4000) (hE : behindE s = s.length) (ei : i = (behindW s : Int)) (eal : al = wholeD s) (epw : pw = 3) (hc : c = hb s) (h : K (numM s).1) :
    (s_rAt s i (fun y6 => (((decide (y6 = (46 : Int))) = true → (I64 (i + (1 : Int)) ∧ (∃ m, F_ref_Thousandths_l10 s_rAt s_rDg m s al pw (i + (1 : Int)) (decide (c = (45 : Int))) (fun y7 y8 y9 y10 y11 => (((decide (y10 < (y7.length : Int))) = true → (I64 (y10 + (1 : Int)) ∧ ((0 ≤ (y10 + (1 : Int)) ∧ (y10 + (1 : Int)) < (y7.length : Int)) ∧ ((0 ≤ (y10 + (1 : Int)) ∧ (y10 + (1 : Int)) < (y7.length : Int)) ∧ (((decide (((y7.getD (y10 + (1 : Int)).toNat 0).toNat : Int) = (43 : Int))) = false → (((decide (((y7.getD (y10 + (1 : Int)).toNat 0).toNat : Int) = (45 : Int))) = true → (I64 ((y10 + (1 : Int)) + (1 : Int)) ∧ (∃ m, F_ref_Thousandths_l20 s_rAt s_rDg m y7 y8 y9 ((y10 + (1 : Int)) + (1 : Int)) y11 (decide (((y7.getD (y10 + (1 : Int)).toNat 0).toNat : Int) = (45 : Int))) (0 : Int) (fun y12 y13 y14 y15 y16 => ((y15 = true → (I64 (0 - y16) ∧ (I64 (y13 + (0 - y16)) ∧ (∃ m, F_ref_Thousandths_l28 s_rAt s_rDg m y12 (y13 + (0 - y16)) y14 (0 : Int) (0 : Int) (fun y17 y18 y19 => (∃ m, F_ref_Thousandths_l31 s_rAt s_rDg m y17 y18 y19 (fun y20 y21 => ((y20 = true → (I64 (0 - y21) ∧ K (0 - y21))) ∧ (y20 = false → K y21))))))))) ∧ (y15 = false → (I64 (y13 + y16) ∧ (∃ m, F_ref_Thousandths_l28 s_rAt s_rDg m y12 (y13 + y16) y14 (0 : Int) (0 : Int) (fun y17 y18 y19 => (∃ m, F_ref_Thousandths_l31 s_rAt s_rDg m y17 y18 y19 (fun y20 y21 => ((y20 = true → (I64 (0 - y21) ∧ K (0 - y21))) ∧ (y20 = false → K y21))))))))))))) ∧ ((decide (((y7.getD (y10 + (1 : Int)).toNat 0).toNat : Int) = (45 : Int))) = false → (∃ m, F_ref_Thousandths_l20 s_rAt s_rDg m y7 y8 y9 (y10 + (1 : Int)) y11 (decide (((y7.getD (y10 + (1 : Int)).toNat 0).toNat : Int) = (45 : Int))) (0 : Int) (fun y12 y13 y14 y15 y16 => ((y15 = true → (I64 (0 - y16) ∧ (I64 (y13 + (0 - y16)) ∧ (∃ m, F_ref_Thousandths_l28 s_rAt s_rDg m y12 (y13 + (0 - y16)) y14 (0 : Int) (0 : Int) (fun y17 y18 y19 => (∃ m, F_ref_Thousandths_l31 s_rAt s_rDg m y17 y18 y19 (fun y20 y21 => ((y20 = true → (I64 (0 - y21) ∧ K (0 - y21))) ∧ (y20 = false → K y21))))))))) ∧ (y15 = false → (I64 (y13 + y16) ∧ (∃ m, F_ref_Thousandths_l28 s_rAt s_rDg m y12 (y13 + y16) y14 (0 : Int) (0 : Int) (fun y17 y18 y19 => (∃ m, F_ref_Thousandths_l31 s_rAt s_rDg m y17 y18 y19 (fun y20 y21 => ((y20 = true → (I64 (0 - y21) ∧ K (0 - y21))) ∧ (y20 = false → K y21)))))))))))))) ∧ ((decide (((y7.getD (y10 + (1 : Int)).toNat 0).toNat : Int) = (43 : Int))) = true → (I64 ((y10 + (1 : Int)) + (1 : Int)) ∧ (∃ m, F_ref_Thousandths_l20 s_rAt s_rDg m y7 y8 y9 ((y10 + (1 : Int)) + (1 : Int)) y11 (decide (((y7.getD (y10 + (1 : Int)).toNat 0).toNat : Int) = (45 : Int))) (0 : Int) (fun y12 y13 y14 y15 y16 => ((y15 = true → (I64 (0 - y16) ∧ (I64 (y13 + (0 - y16)) ∧ (∃ m, F_ref_Thousandths_l28 s_rAt s_rDg m y12 (y13 + (0 - y16)) y14 (0 : Int) (0 : Int) (fun y17 y18 y19 => (∃ m, F_ref_Thousandths_l31 s_rAt s_rDg m y17 y18 y19 (fun y20 y21 => ((y20 = true → (I64 (0 - y21) ∧ K (0 - y21))) ∧ (y20 = false → K y21))))))))) ∧ (y15 = false → (I64 (y13 + y16) ∧ (∃ m, F_ref_Thousandths_l28 s_rAt s_rDg m y12 (y13 + y16) y14 (0 : Int) (0 : Int) (fun y17 y18 y19 => (∃ m, F_ref_Thousandths_l31 s_rAt s_rDg m y17 y18 y19 (fun y20 y21 => ((y20 = true → (I64 (0 - y21) ∧ K (0 - y21))) ∧ (y20 = false → K y21)))))))))))))))))) ∧ ((decide (y10 < (y7.length : Int))) = false → (∃ m, F_ref_Thousandths_l28 s_rAt s_rDg m y8 y9 y11 (0 : Int) (0 : Int) (fun y17 y18 y19 => (∃ m, F_ref_Thousandths_l31 s_rAt s_rDg m y17 y18 y19 (fun y20 y21 => ((y20 = true → (I64 (0 - y21) ∧ K (0 - y21))) ∧ (y20 = false → K y21)))))))))))) ∧ ((decide (y6 = (46 : Int))) = false → (((decide (i < (s.length : Int))) = true → (I64 (i + (1 : Int)) ∧ ((0 ≤ (i + (1 : Int)) ∧ (i + (1 : Int)) < (s.length : Int)) ∧ ((0 ≤ (i + (1 : Int)) ∧ (i + (1 : Int)) < (s.length : Int)) ∧ (((decide (((s.getD (i + (1 : Int)).toNat 0).toNat : Int) = (43 : Int))) = false → (((decide (((s.getD (i + (1 : Int)).toNat 0).toNat : Int) = (45 : Int))) = true → (I64 ((i + (1 : Int)) + (1 : Int)) ∧ (∃ m, F_ref_Thousandths_l20 s_rAt s_rDg m s al pw ((i + (1 : Int)) + (1 : Int)) (decide (c = (45 : Int))) (decide (((s.getD (i + (1 : Int)).toNat 0).toNat : Int) = (45 : Int))) (0 : Int) (fun y12 y13 y14 y15 y16 => ((y15 = true → (I64 (0 - y16) ∧ (I64 (y13 + (0 - y16)) ∧ (∃ m, F_ref_Thousandths_l28 s_rAt s_rDg m y12 (y13 + (0 - y16)) y14 (0 : Int) (0 : Int) (fun y17 y18 y19 => (∃ m, F_ref_Thousandths_l31 s_rAt s_rDg m y17 y18 y19 (fun y20 y21 => ((y20 = true → (I64 (0 - y21) ∧ K (0 - y21))) ∧ (y20 = false → K y21))))))))) ∧ (y15 = false → (I64 (y13 + y16) ∧ (∃ m, F_ref_Thousandths_l28 s_rAt s_rDg m y12 (y13 + y16) y14 (0 : Int) (0 : Int) (fun y17 y18 y19 => (∃ m, F_ref_Thousandths_l31 s_rAt s_rDg m y17 y18 y19 (fun y20 y21 => ((y20 = true → (I64 (0 - y21) ∧ K (0 - y21))) ∧ (y20 = false → K y21))))))))))))) ∧ ((decide (((s.getD (i + (1 : Int)).toNat 0).toNat : Int) = (45 : Int))) = false → (∃ m, F_ref_Thousandths_l20 s_rAt s_rDg m s al pw (i + (1 : Int)) (decide (c = (45 : Int))) (decide (((s.getD (i + (1 : Int)).toNat 0).toNat : Int) = (45 : Int))) (0 : Int) (fun y12 y13 y14 y15 y16 => ((y15 = true → (I64 (0 - y16) ∧ (I64 (y13 + (0 - y16)) ∧ (∃ m, F_ref_Thousandths_l28 s_rAt s_rDg m y12 (y13 + (0 - y16)) y14 (0 : Int) (0 : Int) (fun y17 y18 y19 => (∃ m, F_ref_Thousandths_l31 s_rAt s_rDg m y17 y18 y19 (fun y20 y21 => ((y20 = true → (I64 (0 - y21) ∧ K (0 - y21))) ∧ (y20 = false → K y21))))))))) ∧ (y15 = false → (I64 (y13 + y16) ∧ (∃ m, F_ref_Thousandths_l28 s_rAt s_rDg m y12 (y13 + y16) y14 (0 : Int) (0 : Int) (fun y17 y18 y19 => (∃ m, F_ref_Thousandths_l31 s_rAt s_rDg m y17 y18 y19 (fun y20 y21 => ((y20 = true → (I64 (0 - y21) ∧ K (0 - y21))) ∧ (y20 = false → K y21)))))))))))))) ∧ ((decide (((s.getD (i + (1 : Int)).toNat 0).toNat : Int) = (43 : Int))) = true → (I64 ((i + (1 : Int)) + (1 : Int)) ∧ (∃ m, F_ref_Thousandths_l20 s_rAt s_rDg m s al pw ((i + (1 : Int)) + (1 : Int)) (decide (c = (45 : Int))) (decide (((s.getD (i + (1 : Int)).toNat 0).toNat : Int) = (45 : Int))) (0 : Int) (fun y12 y13 y14 y15 y16 => ((y15 = true → (I64 (0 - y16) ∧ (I64 (y13 + (0 - y16)) ∧ (∃ m, F_ref_Thousandths_l28 s_rAt s_rDg m y12 (y13 + (0 - y16)) y14 (0 : Int) (0 : Int) (fun y17 y18 y19 => (∃ m, F_ref_Thousandths_l31 s_rAt s_rDg m y17 y18 y19 (fun y20 y21 => ((y20 = true → (I64 (0 - y21) ∧ K (0 - y21))) ∧ (y20 = false → K y21))))))))) ∧ (y15 = false → (I64 (y13 + y16) ∧ (∃ m, F_ref_Thousandths_l28 s_rAt s_rDg m y12 (y13 + y16) y14 (0 : Int) (0 : Int) (fun y17 y18 y19 => (∃ m, F_ref_Thousandths_l31 s_rAt s_rDg m y17 y18 y19 (fun y20 y21 => ((y20 = true → (I64 (0 - y21) ∧ K (0 - y21))) ∧ (y20 = false → K y21)))))))))))))))))) ∧ ((decide (i < (s.length : Int))) = false → (∃ m, F_ref_Thousandths_l28 s_rAt s_rDg m al pw (decide (c = (45 : Int))) (0 : Int) (0 : Int) (fun y17 y18 y19 => (∃ m, F_ref_Thousandths_l31 s_rAt s_rDg m y17 y18 y19 (fun y20 y21 => ((y20 = true → (I64 (0 - y21) ∧ K (0 - y21))) ∧ (y20 = false → K y21)))))))))))) := by
  have l2 := behindW_len s
  have l3 := behindF_len s
  have l4 := digs_len (s.drop (signN s))
  rw [List.length_drop] at l4
  have lW : (wholeD s).length ≤ 4000 := by unfold wholeD; omega
  have aW : AllDg (wholeD s) := digs_all _
  have dW : s.drop i.toNat = s.drop (behindW s) := by rw [ei]; rfl
  have h0 : 0 ≤ i := by omega
  have hend : (expM (s.drop (behindF s))).2 = (s.drop (behindF s)).length := by
    have : behindE s = behindF s + (expM (s.drop (behindF s))).2 := rfl
    rw [List.length_drop]; omega
  unfold numM at h
  simp only at h
  have nofr : fracS (s.drop (behindW s)) = false → (((decide (i < (s.length : Int))) = true → (I64 (i + (1 : Int)) ∧ ((0 ≤ (i + (1 : Int)) ∧ (i + (1 : Int)) < (s.length : Int)) ∧ ((0 ≤ (i + (1 : Int)) ∧ (i + (1 : Int)) < (s.length : Int)) ∧ (((decide (((s.getD (i + (1 : Int)).toNat 0).toNat : Int) = (43 : Int))) = false → (((decide (((s.getD (i + (1 : Int)).toNat 0).toNat : Int) = (45 : Int))) = true → (I64 ((i + (1 : Int)) + (1 : Int)) ∧ (∃ m, F_ref_Thousandths_l20 s_rAt s_rDg m s al pw ((i + (1 : Int)) + (1 : Int)) (decide (c = (45 : Int))) (decide (((s.getD (i + (1 : Int)).toNat 0).toNat : Int) = (45 : Int))) (0 : Int) (fun y12 y13 y14 y15 y16 => ((y15 = true → (I64 (0 - y16) ∧ (I64 (y13 + (0 - y16)) ∧ (∃ m, F_ref_Thousandths_l28 s_rAt s_rDg m y12 (y13 + (0 - y16)) y14 (0 : Int) (0 : Int) (fun y17 y18 y19 => (∃ m, F_ref_Thousandths_l31 s_rAt s_rDg m y17 y18 y19 (fun y20 y21 => ((y20 = true → (I64 (0 - y21) ∧ K (0 - y21))) ∧ (y20 = false → K y21))))))))) ∧ (y15 = false → (I64 (y13 + y16) ∧ (∃ m, F_ref_Thousandths_l28 s_rAt s_rDg m y12 (y13 + y16) y14 (0 : Int) (0 : Int) (fun y17 y18 y19 => (∃ m, F_ref_Thousandths_l31 s_rAt s_rDg m y17 y18 y19 (fun y20 y21 => ((y20 = true → (I64 (0 - y21) ∧ K (0 - y21))) ∧ (y20 = false → K y21))))))))))))) ∧ ((decide (((s.getD (i + (1 : Int)).toNat 0).toNat : Int) = (45 : Int))) = false → (∃ m, F_ref_Thousandths_l20 s_rAt s_rDg m s al pw (i + (1 : Int)) (decide (c = (45 : Int))) (decide (((s.getD (i + (1 : Int)).toNat 0).toNat : Int) = (45 : Int))) (0 : Int) (fun y12 y13 y14 y15 y16 => ((y15 = true → (I64 (0 - y16) ∧ (I64 (y13 + (0 - y16)) ∧ (∃ m, F_ref_Thousandths_l28 s_rAt s_rDg m y12 (y13 + (0 - y16)) y14 (0 : Int) (0 : Int) (fun y17 y18 y19 => (∃ m, F_ref_Thousandths_l31 s_rAt s_rDg m y17 y18 y19 (fun y20 y21 => ((y20 = true → (I64 (0 - y21) ∧ K (0 - y21))) ∧ (y20 = false → K y21))))))))) ∧ (y15 = false → (I64 (y13 + y16) ∧ (∃ m, F_ref_Thousandths_l28 s_rAt s_rDg m y12 (y13 + y16) y14 (0 : Int) (0 : Int) (fun y17 y18 y19 => (∃ m, F_ref_Thousandths_l31 s_rAt s_rDg m y17 y18 y19 (fun y20 y21 => ((y20 = true → (I64 (0 - y21) ∧ K (0 - y21))) ∧ (y20 = false → K y21)))))))))))))) ∧ ((decide (((s.getD (i + (1 : Int)).toNat 0).toNat : Int) = (43 : Int))) = true → (I64 ((i + (1 : Int)) + (1 : Int)) ∧ (∃ m, F_ref_Thousandths_l20 s_rAt s_rDg m s al pw ((i + (1 : Int)) + (1 : Int)) (decide (c = (45 : Int))) (decide (((s.getD (i + (1 : Int)).toNat 0).toNat : Int) = (45 : Int))) (0 : Int) (fun y12 y13 y14 y15 y16 => ((y15 = true → (I64 (0 - y16) ∧ (I64 (y13 + (0 - y16)) ∧ (∃ m, F_ref_Thousandths_l28 s_rAt s_rDg m y12 (y13 + (0 - y16)) y14 (0 : Int) (0 : Int) (fun y17 y18 y19 => (∃ m, F_ref_Thousandths_l31 s_rAt s_rDg m y17 y18 y19 (fun y20 y21 => ((y20 = true → (I64 (0 - y21) ∧ K (0 - y21))) ∧ (y20 = false → K y21))))))))) ∧ (y15 = false → (I64 (y13 + y16) ∧ (∃ m, F_ref_Thousandths_l28 s_rAt s_rDg m y12 (y13 + y16) y14 (0 : Int) (0 : Int) (fun y17 y18 y19 => (∃ m, F_ref_Thousandths_l31 s_rAt s_rDg m y17 y18 y19 (fun y20 y21 => ((y20 = true → (I64 (0 - y21) ∧ K (0 - y21))) ∧ (y20 = false → K y21)))))))))))))))))) ∧ ((decide (i < (s.length : Int))) = false → (∃ m, F_ref_Thousandths_l28 s_rAt s_rDg m al pw (decide (c = (45 : Int))) (0 : Int) (0 : Int) (fun y17 y18 y19 => (∃ m, F_ref_Thousandths_l31 s_rAt s_rDg m y17 y18 y19 (fun y20 y21 => ((y20 = true → (I64 (0 - y21) ∧ K (0 - y21))) ∧ (y20 = false → K y21)))))))) := fun q => by
    have eF : behindF s = behindW s := by unfold behindF; rw [if_neg (by rw [q]; decide), Nat.add_zero]
    have eD : fracD s = [] := by unfold fracD; rw [if_neg (by rw [q]; decide)]
    rw [eF] at hend h
    rw [eD, List.append_nil] at h
    subst eal epw hc
    refine p_th2 hs h0 (by omega) lW aW (by omega) (by omega) (by rw [dW]; exact hend) ?_
    rw [dW]
    have e : ((wholeD s).length : Int) + 3 + (expM (s.drop (behindW s))).1 = ((wholeD s).length : Int) + (expM (s.drop (behindW s))).1 + 3 := by omega
    rw [e]
    exact h
  refine ⟨h0, fun q => ?_, fun q => nofr ?_⟩
  · cases qf : fracS (s.drop (behindW s)) with
    | false =>
      -- a point that no digit follows: then the number would have ended here
      exfalso
      have eF : behindF s = behindW s := by unfold behindF; rw [if_neg (by rw [qf]; decide), Nat.add_zero]
      rw [dW] at q
      have q := of_decide_eq_true q
      have hx : (expM (s.drop (behindF s))).2 = 0 := by
        unfold expM
        rw [eF, q, if_neg (by rw [show mE 46 = false by decide]; simp)]
      have hlt := drop_ne (w := s) (n := behindW s) (by rw [q]; decide)
      rw [hx, eF, List.length_drop] at hend
      omega
    | true =>
      have d1 : s.drop (i + 1).toNat = (s.drop (behindW s)).tail := by rw [dropS h0, dW]
      have eF : behindF s = behindW s + (1 + (fracD s).length) := by unfold behindF; rw [if_pos qf]
      have eD : fracD s = digs (s.drop (behindW s)).tail := by unfold fracD; rw [if_pos qf]
      have l5 := digs_len (s.drop (behindW s)).tail
      rw [← eD, List.length_tail, List.length_drop] at l5
      have lsum : (wholeD s).length + (fracD s).length ≤ 4000 := by
        have : behindW s = signN s + (wholeD s).length := rfl
        omega
      have lt : (s.drop (behindW s)).tail.length = s.length - behindW s - 1 := by rw [List.length_tail, List.length_drop]
      refine ⟨I64b (by omega), p_l10 s (by omega) _ _ (s.drop (behindW s)).tail (i + 1) al pw d1 (by omega) (by omega) (by rw [eal, lt]; omega) (by rw [lt, epw]; omega) (by omega) ?_⟩
      rw [← eD]
      subst eal epw hc
      have e1 : i + 1 + ((fracD s).length : Int) = (behindF s : Int) := by omega
      rw [e1]
      have dF : s.drop (behindF s : Int).toNat = s.drop (behindF s) := rfl
      refine p_th2 hs (by omega) (by omega) (by rw [List.length_append]; omega) (fun b hb => (List.mem_append.mp hb).elim (aW b) (fun x => by rw [eD] at x; exact digs_all _ b x)) (by omega) (by rw [List.length_append]; omega) (by rw [dF]; exact hend) ?_
      rw [dF, List.length_append]
      have e : (((wholeD s).length + (fracD s).length : Nat) : Int) + (3 - ((fracD s).length : Int)) + (expM (s.drop (behindF s))).1 = ((wholeD s).length : Int) + (expM (s.drop (behindF s))).1 + 3 := by omega
      rw [e]
      exact h
  · rw [dW] at q
    unfold fracS; rw [q, Bool.false_and]
def s_rTh : T_ref_Thousandths := fun s K => (0 < s.length ∧ s.length ≤ 4000 ∧ behindE s = s.length) ∧ K (numM s).1
theorem p_rTh (s K) (h : s_rTh s K) : F_ref_Thousandths s_rAt s_rDg s K := by
  obtain ⟨⟨hl, hs, hE⟩, h⟩ := h
  have l1 := signN_len s
  have eb : ((s.getD 0 0).toNat : Int) = hb s := by rw [← hb_getD]; rfl
  refine ⟨⟨by omega, by omega⟩, ⟨by omega, by omega⟩, ?_⟩
  have one : mSg (hb s) = true → signN s = 1 := fun q => by unfold signN; rw [if_pos q]
  have zero : mSg (hb s) = false → signN s = 0 := fun q => by unfold signN; rw [if_neg (by rw [q]; decide)]
  have hW : behindW s = signN s + (digs (s.drop (signN s))).length := rfl
  refine ⟨fun q => ⟨fun q2 => ⟨I64b (by omega), ?_⟩, fun q2 => ?_⟩, fun q => ⟨I64b (by omega), ?_⟩⟩
  · have hg := one (by rw [eb] at q2; unfold mSg; rw [q2, Bool.or_true])
    rw [hg] at hW
    refine p_l5 s (by omega) _ _ _ (s.drop 1) (0 + 1) [] rfl (by omega) (by omega) (by rw [List.length_drop]; simp only [List.length_nil]; omega) ?_
    exact p_th1 (c := ((s.getD 0 0).toNat : Int)) hs hE (by rw [hW]; omega) (by unfold wholeD; rw [hg]; rfl) rfl eb h
  · have hg := zero (by rw [eb] at q q2; unfold mSg; rw [q, q2]; rfl)
    rw [hg] at hW
    refine p_l5 s (by omega) _ _ _ s 0 [] rfl (by omega) (by omega) (by simp only [List.length_nil]; omega) ?_
    exact p_th1 (c := ((s.getD 0 0).toNat : Int)) hs hE (by rw [hW, List.drop_zero]; omega) (by unfold wholeD; rw [hg]; rfl) rfl eb h
  · have hg := one (by rw [eb] at q; unfold mSg; rw [q, Bool.true_or])
    rw [hg] at hW
    refine p_l5 s (by omega) _ _ _ (s.drop 1) (0 + 1) [] rfl (by omega) (by omega) (by rw [List.length_drop]; simp only [List.length_nil]; omega) ?_
    exact p_th1 (c := ((s.getD 0 0).toNat : Int)) hs hE (by rw [hW]; omega) (by unfold wholeD; rw [hg]; rfl) rfl eb h
def s_rVal : T_ref_Value := fun s K => (4000 < s.length → K 0 false 28) ∧ (s.length ≤ 4000 → (numS s = false ∨ (numM s).2.2 ≠ s.length) → K 0 false 12) ∧ (s.length ≤ 4000 → numS s = true → (numM s).2.2 = s.length → K (numM s).1 (numM s).2.1 0)
theorem p_rVal (s K) (h : s_rVal s K) : F_ref_Value s_rNumAt s_rNumEnd s_rTh s K := by
  obtain ⟨h1, h2, h3⟩ := h
  refine ⟨fun q => h1 (by have := of_decide_eq_true q; omega), fun q => ?_⟩
  have q := of_decide_eq_false q
  have e0 : s.drop (0 : Int).toNat = s := rfl
  have eE : (numM s).2.2 = behindE s := rfl
  refine ⟨⟨⟨by omega, by omega, by omega⟩, by omega⟩, ?_⟩
  rw [e0]
  refine ⟨fun q2 => h2 (by omega) (Or.inl (by simpa using q2)), fun q2 => ⟨⟨by omega, by omega, by omega⟩, ?_⟩⟩
  rw [e0]
  refine ⟨fun q3 => h2 (by omega) (Or.inr (by have := of_decide_eq_true q3; omega)), fun q3 => ?_⟩
  have q3 : (0 : Int) + (behindE s : Int) = s.length := by have := of_decide_eq_false q3; omega
  have q2 : numS s = true := by simpa using q2
  have hp := behindE_pos q2
  exact ⟨⟨by omega, by omega, by omega⟩, h3 (by omega) q2 (by omega)⟩

end Go.Proofs.YthjnkibldhfhmaaDoor
