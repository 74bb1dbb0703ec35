/-
  The reference of progressions; the law AnbTells. Nothing is claimed here.
-/
import Derived.Test.YtbpbaicbaehhjaaDoorKa
import Derived.Test.YtbpbaicbaehhjaaDoorTj
set_option linter.unusedVariables false
set_option linter.unusedSimpArgs false
namespace Go.Proofs.YtbpbaicbaehhjaaDoor
open Go.Vm Go.Sx Go.RowKit

def s_rVal : T_r7_Valid := fun a K => K (vldM a)
theorem p_rVal (a K) (h : s_rVal a K) : F_r7_Valid a K := by
  have h : K (vldM a) := h
  unfold vldM inW at h
  refine ⟨fun q => ⟨fun q2 => ⟨fun q3 => ?_, fun q3 => ?_⟩, fun q2 => ?_⟩, fun q => ?_⟩
  · rwa [q, q2, q3, Bool.true_and, Bool.true_and, Bool.true_and] at h
  · rwa [q, q2, q3, Bool.true_and, Bool.true_and, Bool.false_and] at h
  · rwa [q, q2, Bool.true_and, Bool.false_and] at h
  · rwa [q, Bool.false_and, Bool.false_and] at h
def s_rChk : T_r7_Check := fun a K => K (if vldM a = true then 0 else 8)
theorem p_rChk (a K) (h : s_rChk a K) : F_r7_Check s_rVal a K := by
  have h : K (if vldM a = true then 0 else 8) := h
  refine ⟨fun q => ?_, fun q => ?_⟩
  · have q : vldM a = false := by simpa using q
    rwa [q, if_neg (by decide)] at h
  · have q : vldM a = true := by simpa using q
    rwa [if_pos q] at h
def s_rHas : T_r7_Has := fun a p K => (vldM a = true ∧ -1000000000 ≤ p ∧ p ≤ 1000000000) ∧ K (hasM a p)
theorem p_rHas (a p K) (h : s_rHas a p K) : F_r7_Has a p K := p_has a p K h
def s_rIn : T_r7_In := fun a p K => K (inM a p).1 (inM a p).2
theorem p_rIn (a p K) (h : s_rIn a p K) : F_r7_In s_rVal s_rHas a p K := by
  have h : K (inM a p).1 (inM a p).2 := h
  unfold inM at h
  show ((!vldM a) = true → _) ∧ _
  cases hv : vldM a with
  | false =>
    rw [hv, if_neg (by decide)] at h
    exact ⟨fun _ => h, fun q => by simp at q⟩
  | true =>
    rw [hv, if_pos rfl] at h
    refine ⟨fun q => by simp at q, fun _ => ⟨fun q => ⟨fun z => ?_, fun z => ?_⟩, fun q => ?_⟩⟩
    · have z := of_decide_eq_true z
      rwa [if_pos (.inr z)] at h
    · have q := of_decide_eq_false q
      have z := of_decide_eq_false z
      rw [if_neg (by omega)] at h
      exact ⟨⟨hv, by omega, by omega⟩, h⟩
    · have q := of_decide_eq_true q
      rwa [if_pos (.inl q)] at h
theorem p_rAllL (a : Int × Int) (hv : vldM a = true) (most : Int) (h0 : 0 ≤ most) (h1 : most ≤ 64) (Ke : List Int → Prop) (hK : Ke (plc a most.toNat)) : ∀ (k i : Nat), i + k = most.toNat → ∃ m, F_r7_All_l7 s_rVal s_rHas m most ((i : Int) + 1) a.1 a.2 (plc a i) Ke
  | 0, i, hi => by
    refine ⟨1, ?_⟩
    simp only [F_r7_All_l7]
    refine ⟨fun q => by have := of_decide_eq_true q; omega, fun _ => ?_⟩
    rw [Nat.add_zero] at hi
    rw [hi]
    exact hK
  | k + 1, i, hi => by
    obtain ⟨m, hm⟩ := p_rAllL a hv most h0 h1 Ke hK k (i + 1) (by omega)
    have hl := plc_len a i
    rw [plc_succ] at hm
    have e : ((i + 1 : Nat) : Int) + 1 = (i : Int) + 1 + 1 := by omega
    rw [e] at hm
    refine ⟨m + 1, ?_⟩
    simp only [F_r7_All_l7]
    refine ⟨fun _ => ⟨⟨hv, by omega, by omega⟩, fun q => ⟨?_, by unfold I64; omega, ?_⟩, fun q => ⟨by unfold I64; omega, ?_⟩⟩, fun q => by have := of_decide_eq_false q; omega⟩
    · simp only [List.length_cons, List.length_nil]; omega
    · rw [if_pos q] at hm
      exact hm
    · rw [if_neg (by rw [q]; decide), List.append_nil] at hm
      exact hm
def s_rAll : T_r7_All := fun a n K => K (allM7 a n).1 (allM7 a n).2
theorem p_rAll (a n K) (h : s_rAll a n K) : F_r7_All s_rVal s_rHas a n K := by
  have h : K (allM7 a n).1 (allM7 a n).2 := h
  unfold allM7 at h
  show ((!vldM a) = true → _) ∧ _
  cases hv : vldM a with
  | false =>
    rw [hv, if_neg (by decide)] at h
    exact ⟨fun _ => h, fun q => by simp at q⟩
  | true =>
    rw [hv, if_pos rfl] at h
    refine ⟨fun q => by simp at q, fun _ => ⟨fun q => ⟨fun z => ?_, fun z => ?_⟩, fun q => ?_⟩⟩
    · have z := of_decide_eq_true z
      rwa [if_pos (.inr z)] at h
    · have q := of_decide_eq_false q
      have z := of_decide_eq_false z
      rw [if_neg (by omega)] at h
      exact p_rAllL a hv n (by omega) (by omega) (fun y => K y 0) h n.toNat 0 (by omega)
    · have q := of_decide_eq_true q
      rwa [if_pos (.inl q)] at h
def sD : Nat → T_r7_digits
  | 0 => fun _ _ => False
  | k + 1 => fun n K => (0 ≤ n ∧ n < 10 ^ (k + 1) ∧ n ≤ 1000000000000) ∧ K (Lib.decDigits n.toNat)
theorem dig_byte {n : Int} (h : 0 ≤ n) : IntKind.u8.wrap ((48 : Int) + n.tmod 10) = ((48 + n.toNat % 10 : Nat) : Int) := by
  rw [Int.tmod_eq_emod_of_nonneg h, IntKind.wrap_u8]
  omega
theorem dec_len13 {a : Nat} (h : a < 10 ^ 13) : (Lib.decDigits a).length ≤ 13 := by
  rw [Lib.decDigits_length]
  exact lenD 13 a (by decide) h
where
  lenD : ∀ (k a : Nat), 0 < k → a < 10 ^ k → Lib.nDigits a ≤ k
    | k + 1, a, _, h => by
      by_cases q : a < 10
      · rw [Lib.nDigits_small q]; omega
      · rw [Lib.nDigits_big q]
        cases k with
        | zero => omega
        | succ k => have := lenD (k + 1) (a / 10) (by omega) (by rw [Nat.pow_succ] at h; exact Nat.div_lt_of_lt_mul (by omega)); omega
theorem p_rD : ∀ (k : Nat) (n K), sD (k + 1) n K → F_r7_digits (sD k) n K
  | k, n, K, ⟨⟨h0, h1, h2⟩, hK⟩ => by
    have eb := dig_byte h0
    have em := Int.tmod_eq_emod_of_nonneg h0 (b := 10)
    have ed := Int.tdiv_eq_ediv_of_nonneg h0 (b := 10)
    unfold F_r7_digits
    rw [eb]
    refine ⟨by decide, by unfold I64; omega, ⟨by omega, by omega⟩, fun q => ?_, fun q => ⟨by decide, by unfold I64; omega, ?_⟩⟩
    · have q := of_decide_eq_true q
      rw [Lib.decDigits, dif_pos (by omega)] at hK
      rw [Int.toNat_natCast]
      rwa [show n.toNat % 10 = n.toNat from by omega]
    · have q := of_decide_eq_false q
      have e10 : (n.tdiv 10).toNat = n.toNat / 10 := by rw [ed]; omega
      have hl : (Lib.decDigits n.toNat).length ≤ 13 := dec_len13 (by omega)
      rw [Lib.decDigits, dif_neg (by omega)] at hK hl
      rw [List.length_append] at hl
      cases k with
      | zero => omega
      | succ k =>
        refine ⟨⟨by rw [ed]; omega, ?_, by rw [ed]; omega⟩, ?_⟩
        · rw [ed]
          have : (10 : Int) ^ (k + 1 + 1) = 10 ^ (k + 1) * 10 := Int.pow_succ ..
          rw [this] at h1
          omega
        · rw [e10, Int.toNat_natCast]
          exact ⟨by simp only [List.length_cons, List.length_nil] at hl ⊢; omega, hK⟩
def s_rdg : T_r7_digits := sD 13
theorem dgOK {n : Int} (h : n ≤ 1000000000) : n < 10 ^ (12 + 1) := Int.lt_of_le_of_lt h (by decide)
def s_rSig : T_r7_signed := fun n K => inW n = true ∧ K (Lib.itoa n)
theorem p_rSig (n K) (h : s_rSig n K) : F_r7_signed s_rdg n K := by
  obtain ⟨hw, hK⟩ := h
  have hl := itoa_len hw
  have hw := inW_iff.1 hw
  unfold Lib.itoa at hK hl
  refine ⟨fun q => ⟨by unfold I64; omega, ?_⟩, fun q => ?_⟩
  · have q := of_decide_eq_true q
    rw [if_pos q] at hK hl
    have e : (0 - n).toNat = n.natAbs := by omega
    refine ⟨⟨by omega, dgOK (by omega), by omega⟩, ?_⟩
    rw [e]
    refine ⟨?_, hK⟩
    simp only [List.length_cons, List.length_nil] at hl ⊢
    omega
  · have q := of_decide_eq_false q
    rw [if_neg q] at hK
    exact ⟨⟨by omega, dgOK (by omega), by omega⟩, hK⟩
def s_rWri : T_r7_Written := fun a K => vldM a = true ∧ K (txtM a)
theorem itoa_nn {n : Int} (h : 0 ≤ n) : Lib.itoa n = Lib.decDigits n.toNat := by unfold Lib.itoa; rw [if_neg (by omega)]
theorem p_rWri (a K) (h : s_rWri a K) : F_r7_Written s_rSig s_rdg a K := by
  obtain ⟨hv, hK⟩ := h
  unfold vldM at hv
  rw [Bool.and_eq_true] at hv
  obtain ⟨h1, h2⟩ := hv
  have l1 := itoa_len h1
  have l2 := itoa_len h2
  have w1 := inW_iff.1 h1
  have w2 := inW_iff.1 h2
  unfold txtM facM addM at hK
  obtain ⟨A, B⟩ := a
  dsimp only at *
  -- what stands behind the letter
  have tail : ∀ (y : List UInt8), y.length ≤ 12 → K (y ++ [110] ++ (if B = 0 then [] else if 0 < B then [43] ++ Lib.itoa B else Lib.itoa B)) →
      ((decide ((0 : Int) < B)) = true → ((y ++ ([110] : List UInt8)).length + ([43] : List UInt8).length ≤ 1099511627776 ∧ (s_rdg B (fun y9 => (((y ++ ([110] : List UInt8)) ++ ([43] : List UInt8)).length + y9.length ≤ 1099511627776 ∧ K (((y ++ ([110] : List UInt8)) ++ ([43] : List UInt8)) ++ y9)))))) ∧ ((decide ((0 : Int) < B)) = false → (((decide (B < (0 : Int))) = true → (s_rSig B (fun y10 => ((y ++ ([110] : List UInt8)).length + y10.length ≤ 1099511627776 ∧ K ((y ++ ([110] : List UInt8)) ++ y10))))) ∧ ((decide (B < (0 : Int))) = false → K (y ++ ([110] : List UInt8))))) := by
    intro y hy hk
    refine ⟨fun q => ?_, fun q => ⟨fun z => ?_, fun z => ?_⟩⟩
    · have q := of_decide_eq_true q
      rw [if_neg (by omega), if_pos q, itoa_nn (by omega)] at hk
      rw [itoa_nn (by omega)] at l2
      refine ⟨by simp only [List.length_append, List.length_cons, List.length_nil]; omega, ⟨by omega, dgOK (by omega), by omega⟩, by simp only [List.length_append, List.length_cons, List.length_nil]; omega, ?_⟩
      rw [← List.append_assoc] at hk
      exact hk
    · have z := of_decide_eq_true z
      rw [if_neg (by omega), if_neg (by omega)] at hk
      exact ⟨h2, by simp only [List.length_append, List.length_cons, List.length_nil]; omega, hk⟩
    · have q := of_decide_eq_false q
      have z := of_decide_eq_false z
      rw [if_pos (by omega), List.append_nil] at hk
      exact hk
  refine ⟨fun q => ?_, fun q => ?_⟩
  · have q : A = 0 := of_decide_eq_true q
    rw [if_pos q] at hK
    exact ⟨h2, hK⟩
  have q : ¬ A = 0 := of_decide_eq_false q
  rw [if_neg q] at hK
  refine ⟨h1, fun q1 => ⟨fun q2 => ?_, fun q2 => ?_⟩, fun q1 => ⟨fun q2 => ?_, fun q2 => ?_⟩⟩
  · have q1 : A = 1 := of_decide_eq_true q1
    have q2 : A = -1 := of_decide_eq_true q2
    omega
  · have q1 : A = 1 := of_decide_eq_true q1
    rw [if_pos q1] at hK
    exact ⟨by decide, tail [] (by decide) hK⟩
  · have q1 : ¬ A = 1 := of_decide_eq_false q1
    have q2 : A = -1 := of_decide_eq_true q2
    rw [if_neg q1, if_pos q2] at hK
    exact ⟨by decide, tail [45] (by decide) hK⟩
  · have q1 : ¬ A = 1 := of_decide_eq_false q1
    have q2 : ¬ A = -1 := of_decide_eq_false q2
    rw [if_neg q1, if_neg q2] at hK
    exact ⟨by simp only [List.length_cons, List.length_nil]; omega, tail _ l1 hK⟩
def s_rTxt : T_r7_Text := fun a K => K (textM a).1 (textM a).2
theorem p_rTxt (a K) (h : s_rTxt a K) : F_r7_Text s_rVal s_rWri a K := by
  have h : K (textM a).1 (textM a).2 := h
  unfold textM at h
  refine ⟨fun q => ?_, fun q => ?_⟩
  · have q : vldM a = false := by simpa using q
    rwa [q, if_neg (by decide)] at h
  · have q : vldM a = true := by simpa using q
    rw [if_pos q] at h
    exact ⟨q, h⟩

theorem p_tellsL (x7 x8 x9 x10) (l : List Int) (hl : l.length ≤ 64) (x12 x14 x15 x16 x17 x18 : _) (A B : Int) (Ke : Bool → Int → Bool → Int → Int → Int → List UInt8 → Int → List UInt8 → Int → Int → Int → Prop) (Kr : Bool → Prop) (hK : Ke x7 x8 x9 x10 x12 x14 x15 x16 x17 x18 A B) :
    ∀ (k i : Nat), i + k = l.length → ∃ m, F_vitrinelaw07_AnbTells_l10 s_In s_rIn s_All s_rAll s_Txt s_rTxt s_Chk s_rChk m x7 x8 x9 x10 l x12 l x14 x15 x16 x17 x18 (i : Int) A B Ke Kr
  | 0, i, hi => ⟨1, by
    simp only [F_vitrinelaw07_AnbTells_l10]
    exact ⟨fun q => by have := of_decide_eq_true q; omega, fun _ => hK⟩⟩
  | k + 1, i, hi => by
    obtain ⟨m, hm⟩ := p_tellsL x7 x8 x9 x10 l hl x12 x14 x15 x16 x17 x18 A B Ke Kr hK k (i + 1) (by omega)
    refine ⟨m + 1, ?_⟩
    simp only [F_vitrinelaw07_AnbTells_l10]
    exact ⟨fun _ => ⟨⟨by omega, by omega⟩, ⟨by omega, by omega⟩, fun q => absurd rfl (of_decide_eq_true q), fun _ => ⟨by unfold I64; omega, by rw [show ((i : Int) + 1) = ((i + 1 : Nat) : Int) from by omega]; exact hm⟩⟩, fun q => by have := of_decide_eq_false q; omega⟩
theorem all_len (a : Int × Int) (n : Int) : (allM7 a n).1.length ≤ 64 := by
  unfold allM7
  split
  · split
    · simp
    · have := plc_len a n.toNat
      show (plc a n.toNat).length ≤ 64
      omega
  · simp
theorem p_tells (a p n K) (h : K true) : F_vitrinelaw07_AnbTells s_In s_rIn s_All s_rAll s_Txt s_rTxt s_Chk s_rChk a p n K := by
  refine ⟨fun q => absurd rfl (of_decide_eq_true q), fun _ => p_tellsL _ _ _ _ _ (all_len a n) _ _ _ _ _ _ _ _ _ _ ?_ (allM7 a n).1.length 0 (by omega)⟩
  have e : ∀ b : Bool, (b == b) = true := fun b => by cases b <;> rfl
  refine ⟨fun _ => ⟨fun _ => ⟨fun _ => ⟨fun _ => ⟨fun _ => ?_, fun q => ?_⟩, fun q => ?_⟩, fun q => ?_⟩, fun q => ?_⟩, fun q => ?_⟩
  · rw [decide_eq_true rfl]; exact h
  · rw [beq_self_eq_true] at q; cases q
  · exact absurd rfl (of_decide_eq_false q)
  · exact absurd rfl (of_decide_eq_false q)
  · rw [e] at q; cases q
  · exact absurd rfl (of_decide_eq_false q)
end Go.Proofs.YtbpbaicbaehhjaaDoor
