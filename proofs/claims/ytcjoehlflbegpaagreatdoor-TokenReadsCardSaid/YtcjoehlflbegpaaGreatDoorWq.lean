/-
  The reference's tokens do what the model says. Nothing is claimed here.
-/
import Derived.Test.YtcjoehlflbegpaaGreatDoorWz
namespace Go.Proofs.YtcjoehlflbegpaaGreatDoor
open Go.Vm Go.Sx Go.RowKit

def s_rSps : T_ref_spaces := fun s i K => okP s i ∧ K (i + (nSp (s.drop i.toNat) : Int))
theorem p_rSpL (s : Bt) (hs : s.length ≤ 1000000) (Ke : Int → Prop) : ∀ (w : Bt) (i : Int), s.drop i.toNat = w → okP s i → Ke (i + (nSp w : Int)) → ∃ m, F_ref_spaces_l1 s_rAt s_rSp m s i Ke
  | [], i, hd, hi, h => by
    refine ⟨1, hi.1, fun q => ?_, fun _ => ?_⟩
    · rw [hd] at q; exact absurd q (by decide)
    · simpa [nSp] using h
  | c :: w, i, hd, hi, h => by
    obtain ⟨hl, hc, hn, _⟩ := drop_cons hi.1 hd
    cases q : mSp (c.toNat : Int) with
    | false =>
      unfold nSp at h
      rw [q] at h
      refine ⟨1, hi.1, fun q2 => ?_, fun _ => ?_⟩
      · rw [hd, hb_cons, q] at q2; cases q2
      · simpa using h
    | true =>
      unfold nSp at h
      rw [q] at h
      obtain ⟨m, hm⟩ := p_rSpL s hs Ke w (i + 1) hn ⟨by omega, by omega, hs⟩ (by
        have : i + 1 + (nSp w : Int) = i + ((nSp w + 1 : Nat) : Int) := by omega
        rw [this]
        simpa using h)
      refine ⟨m + 1, hi.1, fun _ => ⟨I64b (by omega), hm⟩, fun q2 => ?_⟩
      rw [hd, hb_cons, q] at q2; cases q2
theorem p_rSps (s i K) (h : s_rSps s i K) : F_ref_spaces s_rAt s_rSp s i K := p_rSpL s h.1.2.2 _ _ _ rfl h.1 h.2
def unp (c : Int) : Bool := decide (c ≤ 8) || (decide (c = 11) || ((decide (14 ≤ c) && decide (c ≤ 31)) || decide (c = 127)))
def s_rUnp : T_ref_Unprintable := fun c K => K (unp c)
theorem p_rUnp (c K) (h : s_rUnp c K) : F_ref_Unprintable c K := by
  unfold s_rUnp unp at h
  unfold F_ref_Unprintable
  refine ⟨fun q => ⟨fun q2 => ⟨fun q3 => ⟨fun q4 => ?_, fun q4 => ?_⟩, fun q3 => ?_⟩, fun q2 => ?_⟩, fun q => ?_⟩ <;> simpa only [*, Bool.true_or, Bool.false_or, Bool.or_true, Bool.or_false, Bool.true_and, Bool.false_and] using h
theorem p_rBadL (s : Bt) (hs : s.length ≤ 1000000) (K : Tok → Int → Prop) : ∀ (n : Nat) (w : Bt) (i : Int), w.length ≤ n → s.drop i.toNat = w → 0 ≤ i → i ≤ s.length → K (tk 8) (i + (badM w : Int)) → ∃ m, F_ref_bad_l1 s_rEsc s_rEscd m s i 0 [] 0 [] false (fun y1 y2 _ _ _ _ _ => (I64 (y2 + (1 : Int)) ∧ K (Tok.mk (8 : Int) ([] : Bt) (0 : Int) ([] : Bt) false) (if (y2 + (1 : Int)) < (y1.length : Int) then (y2 + (1 : Int)) else (y1.length : Int)))) := by
  intro n
  induction n with
  | zero =>
    intro w i hn hd h0 hi h
    have : w = [] := List.length_eq_zero_iff.mp (by omega)
    subst this
    have hl := drop_nil hd
    rw [badM] at h
    refine ⟨1, fun q => (by exfalso; have := of_decide_eq_true q; omega), fun _ => ⟨I64b (by omega), ?_⟩⟩
    rw [if_neg (by omega)]
    have e : i + ((0 : Nat) : Int) = s.length := by omega
    rw [e] at h; exact h
  | succ n ih =>
    intro w i hn hd h0 hi h
    cases w with
    | nil =>
      have hl := drop_nil hd
      rw [badM] at h
      refine ⟨1, fun q => (by exfalso; have := of_decide_eq_true q; omega), fun _ => ⟨I64b (by omega), ?_⟩⟩
      rw [if_neg (by omega)]
      have e : i + ((0 : Nat) : Int) = s.length := by omega
      rw [e] at h; exact h
    | cons c w =>
    obtain ⟨hl, hc, hnx, hlen⟩ := drop_cons h0 hd
    have nofin : decide (i < (s.length : Int)) = false → False := fun q => by have := of_decide_eq_false q; omega
    rw [List.length_cons] at hn
    rw [badM] at h
    by_cases c1 : (c.toNat : Int) = 41
    · rw [if_pos c1] at h
      refine ⟨1, fun _ => ⟨⟨h0, hl⟩, fun p => ?_, fun _ => ⟨I64b (by omega), ?_⟩⟩, fun q => (nofin q).elim⟩
      · exact absurd (by rw [hc]; exact c1) (of_decide_eq_true p)
      · have e : (if i + 1 < (s.length : Int) then i + 1 else (s.length : Int)) = i + ((1 : Nat) : Int) := by split <;> omega
        rw [e]; exact h
    · rw [if_neg c1] at h
      have n1 : ¬ decide (((s.getD i.toNat 0).toNat : Int) ≠ 41) = false := fun p => (of_decide_eq_false p) (by rw [hc]; exact c1)
      cases q : escS (c :: w) with
      | true =>
        rw [q, if_pos rfl] at h
        have he := escM_len w
        obtain ⟨m, hm⟩ := ih (w.drop (escM w).2) (i + 1 + ((escM w).2 : Int)) (by rw [List.length_drop]; omega) (by rw [dropN (by omega), hnx]) (by omega) (by omega) (by
          have : i + 1 + ((escM w).2 : Int) + (badM (w.drop (escM w).2) : Int) = i + ((1 + (escM w).2 + badM (w.drop (escM w).2) : Nat) : Int) := by omega
          rw [this]; exact h)
        refine ⟨m + 1, fun _ => ⟨⟨h0, hl⟩, fun _ => ⟨⟨h0, by omega, hs⟩, fun _ => ⟨⟨h0, hl, hs⟩, ?_⟩, fun p => ?_⟩, fun p => absurd p n1⟩, fun q => (nofin q).elim⟩
        · rw [hnx]; exact hm
        · rw [hd, q] at p; cases p
      | false =>
        rw [q] at h
        obtain ⟨m, hm⟩ := ih w (i + 1) (by omega) hnx (by omega) (by omega) (by
          have : i + 1 + (badM w : Int) = i + ((1 + badM w : Nat) : Int) := by omega
          rw [this]; simpa using h)
        refine ⟨m + 1, fun _ => ⟨⟨h0, hl⟩, fun _ => ⟨⟨h0, by omega, hs⟩, fun p => ?_, fun _ => ⟨I64b (by omega), hm⟩⟩, fun p => absurd p n1⟩, fun q => (nofin q).elim⟩
        rw [hd, q] at p; cases p
def s_rBad : T_ref_bad := fun s i K => (0 ≤ i ∧ i ≤ s.length ∧ s.length ≤ 1000000) ∧ K (tk 8) (i + (badM (s.drop i.toNat) : Int))
theorem p_rBad (s i K) (h : s_rBad s i K) : F_ref_bad s_rEsc s_rEscd s i K := p_rBadL s h.1.2.2 K _ _ _ (Nat.le_refl _) rfl h.1.1 h.1.2.1 h.2
def s_rMark : T_ref_mark := fun c K => (0 ≤ c ∧ c ≤ 255) ∧ K (markM c)
theorem mark_tab : ∀ c : Fin 256, (if (c.val : Int) = 58 then (16 : Int) else if (c.val : Int) = 59 then 17 else if (c.val : Int) = 44 then 18 else if (c.val : Int) = 91 then 19 else if (c.val : Int) = 93 then 20 else if (c.val : Int) = 40 then 21 else if (c.val : Int) = 41 then 22 else if (c.val : Int) = 123 then 23 else if (c.val : Int) = 125 then 24 else 0) = markM (c.val : Int) := by decide +kernel
theorem p_rMark (c K) (h : s_rMark c K) : F_ref_mark c K := by
  obtain ⟨⟨h0, h1⟩, h⟩ := h
  have e := mark_tab ⟨c.toNat, by omega⟩
  have ec : ((c.toNat : Nat) : Int) = c := by omega
  simp only [ec] at e
  rw [← e] at h
  unfold F_ref_mark
  simp only [decide_eq_true_eq, decide_eq_false_iff_not]
  refine ⟨fun q => ?_, fun q => ⟨fun q2 => ?_, fun q2 => ⟨fun q3 => ?_, fun q3 => ⟨fun q4 => ?_, fun q4 => ⟨fun q5 => ?_, fun q5 => ⟨fun q6 => ?_, fun q6 => ⟨fun q7 => ?_, fun q7 => ⟨fun q8 => ?_, fun q8 => ⟨fun q9 => ?_, fun q9 => ?_⟩⟩⟩⟩⟩⟩⟩⟩⟩ <;> simpa [*] using h
def s_rHas : T_ref_has := fun s i a K => (0 ≤ i ∧ i ≤ s.length ∧ s.length ≤ 1000000 ∧ a.length ≤ 100) ∧ K (a.isPrefixOf (s.drop i.toNat))
theorem p_rHas (s i a K) (h : s_rHas s i a K) : F_ref_has s i a K := by
  obtain ⟨⟨h0, hi, hs, ha⟩, h⟩ := h
  refine ⟨I64b (by omega), fun q => ⟨I64b (by omega), ⟨h0, by omega, by have := of_decide_eq_true q; omega⟩, ?_⟩, fun q => ?_⟩
  · have e : (i + (a.length : Int)).toNat - i.toNat = a.length := by omega
    rw [e]
    have e2 : ((s.drop i.toNat).take a.length == a) = a.isPrefixOf (s.drop i.toNat) := by
      cases q : a.isPrefixOf (s.drop i.toNat) with
      | true =>
        have := List.prefix_iff_eq_take.mp (List.isPrefixOf_iff_prefix.mp q)
        rw [← this]; exact beq_self_eq_true _
      | false =>
        cases q2 : (s.drop i.toNat).take a.length == a with
        | false => rfl
        | true =>
          have := List.isPrefixOf_iff_prefix.mpr (List.prefix_iff_eq_take.mpr (eq_of_beq q2).symm)
          rw [q] at this; cases this
    rw [e2]; exact h
  · have q := of_decide_eq_false q
    cases q2 : a.isPrefixOf (s.drop i.toNat) with
    | false => rw [q2] at h; exact h
    | true =>
      have := pre_len q2
      rw [List.length_drop] at this
      exfalso; omega
theorem pre_clos (c : UInt8) (w : Bt) : ([42, 47] : Bt).isPrefixOf (c :: w) = decide (c = 42 ∧ hb w = 47) := by
  by_cases q : c = 42
  · cases w with
    | nil => subst q; rfl
    | cons d w =>
      subst q
      by_cases q2 : (d.toNat : Int) = 47
      · have : d = 47 := UInt8.toNat_inj.mp (by show d.toNat = 47; omega)
        subst this
        simp [List.isPrefixOf]
      · have : (47 : UInt8) ≠ d := fun e => q2 (by rw [← e]; rfl)
        simp [List.isPrefixOf, q2, this]
  · have : (42 : UInt8) ≠ c := fun e => q e.symm
    simp [List.isPrefixOf, q, this]
def stopC (w : Bt) : Nat := match closM w with
  | none => w.length
  | some k => k
theorem stopC_cons (c : UInt8) (w : Bt) : stopC (c :: w) = if c = 42 ∧ hb w = 47 then 0 else stopC w + 1 := by
  by_cases q : c = 42 ∧ hb w = 47
  · have e : closM (c :: w) = some 0 := by rw [closM, if_pos q]
    rw [if_pos q]
    unfold stopC
    rw [e]
  · have e : closM (c :: w) = (closM w).map (· + 1) := by rw [closM, if_neg q]
    rw [if_neg q]
    unfold stopC
    rw [e]
    cases closM w <;> rfl
theorem p_rPaI (s : Bt) (hs : s.length ≤ 1000000) (Ke : Bt → Int → Prop) : ∀ (w : Bt) (i : Int), s.drop i.toNat = w → 0 ≤ i → i ≤ s.length → Ke s (i + (stopC w : Int)) → ∃ m, F_ref_Past_l3 s_rHas m s i Ke
  | [], i, hd, h0, hi, h => by
    have := drop_nil hd
    refine ⟨1, fun q => (by exfalso; have := of_decide_eq_true q; omega), fun _ => ?_⟩
    have e : i + (stopC [] : Int) = i := by show i + ((0 : Nat) : Int) = i; omega
    rw [e] at h; exact h
  | c :: w, i, hd, h0, hi, h => by
    obtain ⟨hl, hc, hn, hv⟩ := drop_cons h0 hd
    have nofin : decide (i < (s.length : Int)) = false → False := fun q => by have := of_decide_eq_false q; omega
    rw [stopC_cons] at h
    by_cases q : c = 42 ∧ hb w = 47
    · rw [if_pos q] at h
      refine ⟨1, fun _ => ⟨⟨h0, hi, hs, by decide⟩, ?_⟩, fun q => (nofin q).elim⟩
      rw [hd, pre_clos, decide_eq_true q]
      exact ⟨fun p => absurd p (by decide), fun _ => by simpa using h⟩
    · rw [if_neg q] at h
      obtain ⟨m, hm⟩ := p_rPaI s hs Ke w (i + 1) hn (by omega) (by omega) (by
        have e : i + 1 + (stopC w : Int) = i + ((stopC w + 1 : Nat) : Int) := by omega
        rw [e]; exact h)
      refine ⟨m + 1, fun _ => ⟨⟨h0, hi, hs, by decide⟩, ?_⟩, fun q => (nofin q).elim⟩
      rw [hd, pre_clos, decide_eq_false q]
      exact ⟨fun _ => ⟨I64b (by omega), hm⟩, fun p => absurd p (by decide)⟩
theorem p_rPaL (s : Bt) (hs : s.length ≤ 1000000) (K : Int → Prop) : ∀ (n : Nat) (w : Bt) (i : Int), w.length ≤ n → s.drop i.toNat = w → 0 ≤ i → i ≤ s.length → K (i + (comM w : Int)) → ∃ m, F_ref_Past_l1 s_rHas m s i (fun y => K y) := by
  intro n
  induction n with
  | zero =>
    intro w i hn hd h0 hi h
    have : w = [] := List.length_eq_zero_iff.mp (by omega)
    subst this
    rw [comM] at h
    refine ⟨1, ⟨h0, hi, hs, by decide⟩, fun q => ?_, fun _ => by simpa [List.isPrefixOf] using h⟩
    rw [hd] at q; exact absurd q (by decide)
  | succ n ih =>
    intro w i hn hd h0 hi h
    have hlw := congrArg List.length hd
    rw [List.length_drop] at hlw
    rw [comM] at h
    cases q : ([47, 42] : Bt).isPrefixOf w with
    | false =>
      rw [q] at h
      refine ⟨1, ⟨h0, hi, hs, by decide⟩, fun q2 => ?_, fun _ => by simpa using h⟩
      rw [hd, q] at q2; cases q2
    | true =>
      have hp := pre_len q
      simp only [List.length_cons, List.length_nil] at hp
      rw [q, if_pos rfl] at h
      have e2 : s.drop (i + 2).toNat = w.drop 2 := by rw [← hd]; exact dropN h0 2
      cases hc : closM (w.drop 2) with
      | none =>
        rw [hc] at h
        simp only at h
        have es : stopC (w.drop 2) = w.length - 2 := by unfold stopC; rw [hc]; exact List.length_drop ..
        refine ⟨2, ⟨h0, hi, hs, by decide⟩, fun _ => ⟨I64b (by omega), p_rPaI s hs _ (w.drop 2) (i + 2) e2 (by omega) (by omega) ⟨I64b (by omega), ?_⟩⟩, fun q2 => ?_⟩
        · rw [es, if_neg (by omega)]
          have e : i + (w.length : Int) = s.length := by omega
          rw [e] at h
          refine ⟨⟨by omega, by omega, hs, by decide⟩, fun q2 => ?_, fun _ => h⟩
          rw [List.drop_of_length_le (by omega)] at q2; exact absurd q2 (by decide)
        · rw [hd, q] at q2; cases q2
      | some k =>
        rw [hc] at h
        simp only at h
        have hk := closM_len _ _ hc
        rw [List.length_drop] at hk
        rw [if_neg (fun e => by rw [e] at hp; simp at hp)] at h
        have es : stopC (w.drop 2) = k := by unfold stopC; rw [hc]
        obtain ⟨m, hm⟩ := ih (w.drop (2 + (k + 2))) (i + 2 + (k : Int) + 2) (by rw [List.length_drop]; omega) (by
          rw [← hd, ← dropN h0]
          congr 2
          omega) (by omega) (by omega) (by
          have e : i + 2 + (k : Int) + 2 + (comM (w.drop (2 + (k + 2))) : Int) = i + ((2 + (k + 2) + comM (w.drop (2 + (k + 2))) : Nat) : Int) := by omega
          rw [e]; exact h)
        refine ⟨m + 1, ⟨h0, hi, hs, by decide⟩, fun _ => ⟨I64b (by omega), p_rPaI s hs _ (w.drop 2) (i + 2) e2 (by omega) (by omega) ⟨I64b (by omega), ?_⟩⟩, fun q2 => ?_⟩
        · rw [es]
          have e : (if i + 2 + (k : Int) + 2 < (s.length : Int) then i + 2 + (k : Int) + 2 else (s.length : Int)) = i + 2 + (k : Int) + 2 := by split <;> omega
          rw [e]
          exact hm
        · rw [hd, q] at q2; cases q2
def s_rPast : T_ref_Past := fun s i K => (0 ≤ i ∧ i ≤ s.length ∧ s.length ≤ 1000000) ∧ K (i + (comM (s.drop i.toNat) : Int))
theorem p_rPast (s i K) (h : s_rPast s i K) : F_ref_Past s_rHas s i K := p_rPaL s h.1.2.2 K _ _ _ (Nat.le_refl _) rfl h.1.1 h.1.2.1 h.2

def s_rNumeric : T_ref_numeric := fun s i K => (0 ≤ i ∧ i ≤ s.length ∧ s.length ≤ 400000 ∧ numS (s.drop i.toNat) = true ∧ behindE (s.drop i.toNat) ≤ 4000) ∧ K (numericM (s.drop i.toNat)).1 (i + ((numericM (s.drop i.toNat)).2 : Int))
theorem p_rNumeric (s i K) (h : s_rNumeric s i K) : F_ref_numeric s_rNumEnd s_rTh s_rNameAt s_rNamed s_rAt s i K := by
  obtain ⟨⟨h0, hi, hs, hN, hE⟩, h⟩ := h
  have hl := behindE_len (s.drop i.toNat)
  have hp := behindE_pos hN
  obtain ⟨t1, t2, t3⟩ := numM_take hN
  rw [List.length_drop] at hl
  have e : (numM (s.drop i.toNat)).2.2 = behindE (s.drop i.toNat) := rfl
  unfold numericM at h
  simp only at h
  rw [← dropN h0] at h
  rw [e] at h
  have ec : (i + (behindE (s.drop i.toNat) : Int)).toNat - i.toNat = behindE (s.drop i.toNat) := by omega
  refine ⟨⟨h0, hi, hs⟩, ⟨h0, by omega, by omega⟩, ?_⟩
  rw [ec]
  refine ⟨⟨by rw [t2]; omega, by rw [t2]; omega, by rw [t1, t2]⟩, ?_⟩
  rw [t3]
  refine ⟨⟨⟨by omega, by omega, by omega⟩, by omega⟩, fun q => ⟨⟨by omega, by omega, by omega⟩, ?_⟩, fun q => ⟨by omega, fun q2 => ⟨I64b (by omega), ?_⟩, fun q2 => ?_⟩⟩
  · rw [if_pos q] at h
    simp only [Int.natCast_add, ← Int.add_assoc] at h
    exact h
  · rw [if_neg (by rw [q]; decide), if_pos (of_decide_eq_true q2)] at h
    simp only [Int.natCast_add, ← Int.add_assoc] at h
    exact h
  · rw [if_neg (by rw [q]; decide), if_neg (of_decide_eq_false q2)] at h
    exact h
end Go.Proofs.YtcjoehlflbegpaaGreatDoor
