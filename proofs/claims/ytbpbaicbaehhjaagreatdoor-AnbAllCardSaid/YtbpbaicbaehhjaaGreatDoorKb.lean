/-
  Progressions: what their functions do; the laws of sums, steps, all places. Nothing is claimed here. (The texts Ka, Kb, one behind the other.)
-/
import Derived.Test.YtbpbaicbaehhjaaGreatDoorTi
import Derived.Lib.ItoaNum
set_option linter.unusedVariables false
set_option linter.unusedSimpArgs false
namespace Go.Proofs.YtbpbaicbaehhjaaGreatDoor
open Go.Vm Go.Sx Go.RowKit

def inW (n : Int) : Bool := decide (-1000000000 ≤ n) && decide (n ≤ 1000000000)
theorem inW_iff {n : Int} : inW n = true ↔ -1000000000 ≤ n ∧ n ≤ 1000000000 := by unfold inW; simp
def vldM (a : Int × Int) : Bool := inW a.1 && inW a.2
theorem vldM_iff {a : Int × Int} : vldM a = true ↔ (-1000000000 ≤ a.1 ∧ a.1 ≤ 1000000000) ∧ (-1000000000 ≤ a.2 ∧ a.2 ≤ 1000000000) := by unfold vldM; rw [Bool.and_eq_true, inW_iff, inW_iff]
/-- A place is in a progression. -/
def hasM (a : Int × Int) (p : Int) : Bool := if a.1 = 0 then decide (p - a.2 = 0) else decide ((p - a.2).tmod a.1 = 0) && decide (0 ≤ (p - a.2).tdiv a.1)
def s_fmt : T_strconv_FormatInt := fun n b K => (b = 10 ∧ -9223372036854775808 ≤ n ∧ n < 9223372036854775808) ∧ K (Lib.itoa n)
def s_isW : T_anb_isWithin := fun n K => K (inW n)
theorem p_isW (n K) (h : s_isW n K) : F_anb_isWithin n K := by
  have h : K (inW n) := h
  unfold inW at h
  refine ⟨fun q => ?_, fun q => ?_⟩
  · rwa [q, Bool.true_and] at h
  · rwa [q, Bool.false_and] at h
theorem tdiv_le (x y : Int) : (x.tdiv y).natAbs ≤ x.natAbs := by rw [Int.natAbs_tdiv]; exact Nat.div_le_self _ _
def s_has : T_anb_has := fun a p K => (vldM a = true ∧ -1000000000 ≤ p ∧ p ≤ 1000000000) ∧ K (hasM a p)
theorem p_has (a p K) (h : s_has a p K) : F_anb_has a p K := by
  obtain ⟨⟨hv, h0, h1⟩, hK⟩ := h
  have hv := vldM_iff.1 hv
  have hd := tdiv_le (p - a.2) a.1
  unfold hasM at hK
  refine ⟨by unfold I64; omega, fun q => ?_, fun q => ?_⟩
  · have q := of_decide_eq_true q
    rwa [if_pos q] at hK
  · have q := of_decide_eq_false q
    rw [if_neg q] at hK
    refine ⟨q, fun z => ⟨q, by unfold I64; omega, ?_⟩, fun z => ?_⟩
    · rwa [z, Bool.true_and] at hK
    · rwa [z, Bool.false_and] at hK
def s_Chk : T_anb_Check := fun a K => K (if vldM a = true then 0 else 8)
theorem p_Chk (a K) (h : s_Chk a K) : F_anb_Check s_isW a K := by
  have h : K (if vldM a = true then 0 else 8) := h
  unfold vldM at h
  refine ⟨fun q => ⟨fun z => ?_, fun z => ?_⟩, fun q => ?_⟩
  · have q : inW a.1 = true := by simpa using q
    have z : inW a.2 = false := by simpa using z
    rwa [q, z, if_neg (by decide)] at h
  · have q : inW a.1 = true := by simpa using q
    have z : inW a.2 = true := by simpa using z
    rwa [q, z, if_pos (by decide)] at h
  · have q : inW a.1 = false := by simpa using q
    rwa [q, Bool.false_and, if_neg (by decide)] at h
/-- In: the answer, and the error. -/
def inM (a : Int × Int) (p : Int) : Bool × Int := if vldM a = true then (if p < 1 ∨ 1000000000 < p then (false, 2) else (hasM a p, 0)) else (false, 8)
theorem inM_in {a : Int × Int} {p : Int} (hv : vldM a = true) (h0 : 1 ≤ p) (h1 : p ≤ 1000000000) : inM a p = (hasM a p, 0) := by unfold inM; rw [if_pos hv, if_neg (by omega)]
def s_In : T_anb_In := fun a p K => K (inM a p).1 (inM a p).2
theorem p_In (a p K) (h : s_In a p K) : F_anb_In s_Chk s_has a p K := by
  have h : K (inM a p).1 (inM a p).2 := h
  unfold inM at h
  show ((decide ((if vldM a = true then (0 : Int) else 8) ≠ 0)) = true → _) ∧ _
  cases hv : vldM a with
  | false =>
    rw [hv, if_neg (by decide)] at h
    exact ⟨fun _ => h, fun q => by simp at q⟩
  | true =>
    rw [hv, if_pos rfl] at h
    refine ⟨fun q => by simp at q, fun _ => ⟨fun q => ⟨fun z => ?_, fun z => ?_⟩, fun q => ?_⟩⟩
    · have z := of_decide_eq_true z
      rwa [if_pos (.inr z)] at h
    · have q := of_decide_eq_false q
      have z := of_decide_eq_false z
      rw [if_neg (by omega)] at h
      exact ⟨⟨hv, by omega, by omega⟩, h⟩
    · have q := of_decide_eq_true q
      rwa [if_pos (.inl q)] at h
/-- In at a valid progression and a place. -/
def s_InG : T_anb_In := fun a p K => (vldM a = true ∧ 1 ≤ p ∧ p ≤ 1000000000) ∧ K (hasM a p) 0
theorem inG (a p K) (h : s_InG a p K) : s_In a p K := by
  obtain ⟨⟨hv, h0, h1⟩, hK⟩ := h
  show K (inM a p).1 (inM a p).2
  rw [inM_in hv h0 h1]
  exact hK

/-- The places up to n that are in a progression. -/
def plc (a : Int × Int) (n : Nat) : List Int := ((List.range n).map fun k : Nat => (k : Int) + 1).filter (hasM a)
theorem plc_succ (a : Int × Int) (n : Nat) : plc a (n + 1) = plc a n ++ (if hasM a ((n : Int) + 1) = true then [(n : Int) + 1] else []) := by
  unfold plc
  rw [List.range_succ, List.map_append, List.filter_append]
  congr 1
  simp only [List.map_cons, List.map_nil, List.filter_cons, List.filter_nil]
theorem plc_len (a : Int × Int) : ∀ n, (plc a n).length ≤ n
  | 0 => by simp [plc]
  | n + 1 => by
    have := plc_len a n
    rw [plc_succ, List.length_append]
    split <;> simp <;> omega
def allM7 (a : Int × Int) (most : Int) : List Int × Int := if vldM a = true then (if most < 0 ∨ 64 < most then ([], 2) else (plc a most.toNat, 0)) else ([], 8)
theorem p_AllL (a : Int × Int) (hv : vldM a = true) (most : Int) (h0 : 0 ≤ most) (h1 : most ≤ 64) (Ke : List Int → Prop) (hK : Ke (plc a most.toNat)) : ∀ (k i : Nat), i + k = most.toNat → ∃ m, F_anb_All_l8 s_Chk s_has m most ((i : Int) + 1) a.1 a.2 (plc a i) Ke
  | 0, i, hi => by
    refine ⟨1, ?_⟩
    simp only [F_anb_All_l8]
    refine ⟨fun q => by have := of_decide_eq_true q; omega, fun _ => ?_⟩
    rw [Nat.add_zero] at hi
    rw [hi]
    exact hK
  | k + 1, i, hi => by
    obtain ⟨m, hm⟩ := p_AllL a hv most h0 h1 Ke hK k (i + 1) (by omega)
    have hl := plc_len a i
    rw [plc_succ] at hm
    have e : ((i + 1 : Nat) : Int) + 1 = (i : Int) + 1 + 1 := by omega
    rw [e] at hm
    refine ⟨m + 1, ?_⟩
    simp only [F_anb_All_l8]
    refine ⟨fun _ => ⟨⟨hv, by omega, by omega⟩, fun q => ⟨?_, by unfold I64; omega, ?_⟩, fun q => ⟨by unfold I64; omega, ?_⟩⟩, fun q => by have := of_decide_eq_false q; omega⟩
    · simp only [List.length_cons, List.length_nil]; omega
    · rw [if_pos q] at hm
      exact hm
    · rw [if_neg (by rw [q]; decide), List.append_nil] at hm
      exact hm
def s_All : T_anb_All := fun a n K => K (allM7 a n).1 (allM7 a n).2
theorem p_All (a n K) (h : s_All a n K) : F_anb_All s_Chk s_has a n K := by
  have h : K (allM7 a n).1 (allM7 a n).2 := h
  unfold allM7 at h
  show ((decide ((if vldM a = true then (0 : Int) else 8) ≠ 0)) = true → _) ∧ _
  cases hv : vldM a with
  | false =>
    rw [hv, if_neg (by decide)] at h
    exact ⟨fun _ => h, fun q => by simp at q⟩
  | true =>
    rw [hv, if_pos rfl] at h
    refine ⟨fun q => by simp at q, fun _ => ⟨fun q => ⟨fun z => ?_, fun z => ?_⟩, fun q => ?_⟩⟩
    · have z := of_decide_eq_true z
      rwa [if_pos (.inr z)] at h
    · have q := of_decide_eq_false q
      have z := of_decide_eq_false z
      rw [if_neg (by omega)] at h
      exact p_AllL a hv n (by omega) (by omega) (fun y => K y 0) h n.toNat 0 (by omega)
    · have q := of_decide_eq_true q
      rwa [if_pos (.inl q)] at h

/-! ### The text -/
theorem itoa_len {n : Int} (h : inW n = true) : (Lib.itoa n).length ≤ 12 := by
  have h := inW_iff.1 h
  have key : ∀ (k m : Nat), m < 10 ^ (k + 1) → (Lib.decDigits m).length ≤ k + 1 := by
    intro k
    induction k with
    | zero => intro m hm; rw [Lib.decDigits, dif_pos (by omega)]; simp
    | succ k ih =>
      intro m hm
      rw [Lib.decDigits]
      split
      · simp
      · have := ih (m / 10) (by rw [Nat.pow_succ] at hm; exact Nat.div_lt_of_lt_mul (by omega))
        rw [List.length_append, List.length_singleton]
        omega
  unfold Lib.itoa
  split
  · have := key 10 n.natAbs (by omega)
    rw [List.length_cons]; omega
  · have := key 10 n.toNat (by omega)
    omega
def s_dec : T_anb_decimal := fun n K => inW n = true ∧ K (Lib.itoa n)
theorem p_dec (n K) (h : s_dec n K) : F_anb_decimal s_fmt n K := ⟨⟨rfl, by have := inW_iff.1 h.1; omega, by have := inW_iff.1 h.1; omega⟩, h.2⟩
def facM (n : Int) : List UInt8 := if n = 1 then [] else if n = -1 then [45] else Lib.itoa n
def addM (n : Int) : List UInt8 := if n = 0 then [] else if 0 < n then [43] ++ Lib.itoa n else Lib.itoa n
def s_fac : T_anb_factor := fun n K => inW n = true ∧ K (facM n)
theorem p_fac (n K) (h : s_fac n K) : F_anb_factor s_dec n K := by
  obtain ⟨hw, hK⟩ := h
  unfold facM at hK
  refine ⟨fun q => ?_, fun q => ⟨fun z => ?_, fun z => ?_⟩⟩
  · rwa [if_pos (of_decide_eq_true q)] at hK
  · rwa [if_neg (of_decide_eq_false q), if_pos (of_decide_eq_true z)] at hK
  · rw [if_neg (of_decide_eq_false q), if_neg (of_decide_eq_false z)] at hK
    exact ⟨hw, hK⟩
def s_add : T_anb_addend := fun n K => inW n = true ∧ K (addM n)
theorem p_add (n K) (h : s_add n K) : F_anb_addend s_dec n K := by
  obtain ⟨hw, hK⟩ := h
  have hl := itoa_len hw
  unfold addM at hK
  refine ⟨fun q => ?_, fun q => ⟨fun z => ?_, fun z => ?_⟩⟩
  · rwa [if_pos (of_decide_eq_true q)] at hK
  · rw [if_neg (of_decide_eq_false q), if_pos (of_decide_eq_true z)] at hK
    exact ⟨hw, by simp only [List.length_cons, List.length_nil]; omega, hK⟩
  · rw [if_neg (of_decide_eq_false q), if_neg (of_decide_eq_false z)] at hK
    exact ⟨hw, hK⟩
def txtM (a : Int × Int) : List UInt8 := if a.1 = 0 then Lib.itoa a.2 else (facM a.1 ++ [110]) ++ addM a.2
def textM (a : Int × Int) : List UInt8 × Int := if vldM a = true then (txtM a, 0) else ([], 8)
theorem fac_len {n : Int} (h : inW n = true) : (facM n).length ≤ 12 := by
  have := itoa_len h
  unfold facM
  split
  · simp
  · split
    · simp
    · exact this
theorem add_len {n : Int} (h : inW n = true) : (addM n).length ≤ 13 := by
  have := itoa_len h
  unfold addM
  split
  · simp
  · split
    · rw [List.length_append, List.length_singleton]; omega
    · omega
def s_Txt : T_anb_Text := fun a K => K (textM a).1 (textM a).2
theorem p_Txt (a K) (h : s_Txt a K) : F_anb_Text s_Chk s_dec s_fac s_add a K := by
  have h : K (textM a).1 (textM a).2 := h
  unfold textM at h
  show ((decide ((if vldM a = true then (0 : Int) else 8) ≠ 0)) = true → _) ∧ _
  cases hv : vldM a with
  | false =>
    rw [hv, if_neg (by decide)] at h
    exact ⟨fun _ => h, fun q => by simp at q⟩
  | true =>
    rw [hv, if_pos rfl] at h
    unfold vldM at hv
    rw [Bool.and_eq_true] at hv
    have l1 := fac_len hv.1
    have l2 := add_len hv.2
    unfold txtM at h
    refine ⟨fun q => by simp at q, fun _ => ⟨fun z => ?_, fun z => ?_⟩⟩
    · rw [if_pos (of_decide_eq_true z)] at h
      exact ⟨hv.2, h⟩
    · rw [if_neg (of_decide_eq_false z)] at h
      exact ⟨hv.1, by simp only [List.length_cons, List.length_nil]; omega, hv.2, by simp only [List.length_append, List.length_cons, List.length_nil]; omega, h⟩
end Go.Proofs.YtbpbaicbaehhjaaGreatDoor

set_option linter.unusedVariables false
set_option linter.unusedSimpArgs false
namespace Go.Proofs.YtbpbaicbaehhjaaGreatDoor
open Go.Vm Go.Sx Go.RowKit

def s_alive : T_vitrinelaw07_alive := fun K => K true
def s_Val : T_vitrineref07_Valid := fun a K => K (vldM a)
theorem p_Val (a K) (h : s_Val a K) : F_vitrineref07_Valid a K := by
  have h : K (vldM a) := h
  unfold vldM inW at h
  refine ⟨fun q => ⟨fun q2 => ⟨fun q3 => ?_, fun q3 => ?_⟩, fun q2 => ?_⟩, fun q => ?_⟩
  · rwa [q, q2, q3, Bool.true_and, Bool.true_and, Bool.true_and] at h
  · rwa [q, q2, q3, Bool.true_and, Bool.true_and, Bool.false_and] at h
  · rwa [q, q2, Bool.true_and, Bool.false_and] at h
  · rwa [q, Bool.false_and, Bool.false_and] at h

/-! ### What a place in a progression is -/
theorem has_iff {a : Int × Int} {p : Int} : hasM a p = true ↔ ∃ n : Int, 0 ≤ n ∧ a.1 * n + a.2 = p ∧ n.natAbs ≤ (p - a.2).natAbs := by
  unfold hasM
  by_cases h0 : a.1 = 0
  · rw [if_pos h0, decide_eq_true_eq, h0]
    constructor
    · intro h; exact ⟨0, by omega, by omega, by omega⟩
    · rintro ⟨n, _, h, _⟩; rw [Int.zero_mul] at h; omega
  · rw [if_neg h0, Bool.and_eq_true, decide_eq_true_eq, decide_eq_true_eq]
    constructor
    · rintro ⟨h1, h2⟩
      refine ⟨(p - a.2).tdiv a.1, h2, ?_, tdiv_le _ _⟩
      have := Int.mul_tdiv_add_tmod (p - a.2) a.1
      omega
    · rintro ⟨n, h1, h2, _⟩
      have e : p - a.2 = a.1 * n := by omega
      rw [e, Int.mul_tmod_right, Int.mul_tdiv_cancel_left _ h0]
      exact ⟨rfl, h1⟩
theorem has_self (a : Int × Int) : hasM a a.2 = true := has_iff.2 ⟨0, by omega, by omega, by omega⟩
theorem has_next {a : Int × Int} {p : Int} (h : hasM a p = true) : hasM a (p + a.1) = true := by
  obtain ⟨n, h1, h2, h3⟩ := has_iff.1 h
  unfold hasM
  by_cases h0 : a.1 = 0
  · rw [if_pos h0]
    rw [h0] at h2 ⊢
    rw [decide_eq_true_eq]
    omega
  · rw [if_neg h0, Bool.and_eq_true, decide_eq_true_eq, decide_eq_true_eq]
    have e : p + a.1 - a.2 = a.1 * (n + 1) := by rw [Int.mul_add, Int.mul_one]; omega
    rw [e, Int.mul_tmod_right, Int.mul_tdiv_cancel_left _ h0]
    exact ⟨rfl, by omega⟩
theorem has_side {a : Int × Int} {p : Int} (h : hasM a p = true) : (a.1 = 0 → p = a.2) ∧ (a.1 < 0 → p ≤ a.2) ∧ (0 < a.1 → a.2 ≤ p) := by
  obtain ⟨n, h1, h2, _⟩ := has_iff.1 h
  refine ⟨fun q => ?_, fun q => ?_, fun q => ?_⟩
  · rw [q, Int.zero_mul] at h2; omega
  · have := Int.mul_nonneg (show 0 ≤ -a.1 by omega) h1
    rw [Int.neg_mul] at this
    omega
  · have := Int.mul_nonneg (show 0 ≤ a.1 by omega) h1
    omega

/-! ### AnbSum -/
def sumB (a : Int × Int) (p : Int) (k : Nat) : Bool := (List.range k).any fun n : Nat => decide (a.1 * (n : Int) + a.2 = p)
theorem sumB_succ (a : Int × Int) (p : Int) (k : Nat) : sumB a p (k + 1) = (sumB a p k || decide (a.1 * (k : Int) + a.2 = p)) := by
  unfold sumB
  rw [List.range_succ, List.any_append]
  simp
theorem sum_has {a : Int × Int} {p : Int} (ha : -200 ≤ a.2 ∧ a.2 ≤ 200) (hp : 1 ≤ p ∧ p ≤ 200) : sumB a p 401 = hasM a p := by
  rw [Bool.eq_iff_iff, has_iff]
  unfold sumB
  rw [List.any_eq_true]
  constructor
  · rintro ⟨n, hn, h⟩
    have h := of_decide_eq_true h
    by_cases h0 : a.1 = 0
    · exact ⟨0, by omega, by rw [h0] at h ⊢; omega, by omega⟩
    · refine ⟨n, by omega, h, ?_⟩
      have e : p - a.2 = a.1 * n := by omega
      rw [e, Int.natAbs_mul]
      exact Nat.le_mul_of_pos_left _ (by omega)
  · rintro ⟨n, h1, h2, h3⟩
    exact ⟨n.toNat, List.mem_range.2 (by omega), by rw [decide_eq_true_eq, Int.toNat_of_nonneg h1]; exact h2⟩
theorem mul_in {x y : Int} {k : Nat} (hx : x.natAbs ≤ 200) (hy : y.natAbs ≤ 400) : -80000 ≤ x * y ∧ x * y ≤ 80000 := by
  have : (x * y).natAbs ≤ 200 * 400 := by rw [Int.natAbs_mul]; exact Nat.mul_le_mul hx hy
  omega
theorem p_sumL (a : Int × Int) (p : Int) (h1 : a.1.natAbs ≤ 200) (h2 : a.2.natAbs ≤ 200) (Ke : Int → Bool → Int → Int → Prop) (hK : Ke p (sumB a p 401) a.1 a.2) : ∀ (j k : Nat), k + j = 401 → ∃ m, F_vitrinelaw07_AnbSum_l5 s_alive s_InG m p (sumB a p k) (k : Int) a.1 a.2 Ke
  | 0, k, hk => by
    refine ⟨1, ?_⟩
    rw [Nat.add_zero] at hk
    subst hk
    simp only [F_vitrinelaw07_AnbSum_l5]
    exact ⟨fun q => by have := of_decide_eq_true q; omega, fun _ => hK⟩
  | j + 1, k, hk => by
    obtain ⟨m, hm⟩ := p_sumL a p h1 h2 Ke hK j (k + 1) (by omega)
    have hb := mul_in (k := 0) h1 (show (k : Int).natAbs ≤ 400 by omega)
    rw [sumB_succ, show ((k + 1 : Nat) : Int) = (k : Int) + 1 from by omega] at hm
    refine ⟨m + 1, ?_⟩
    simp only [F_vitrinelaw07_AnbSum_l5]
    refine ⟨fun _ => ⟨fun q => ⟨by unfold I64; omega, by unfold I64; omega, by unfold I64; omega, ?_⟩, fun q => ⟨by unfold I64; omega, ?_⟩⟩, fun q => by have := of_decide_eq_false q; omega⟩
    · rw [q, Bool.false_or] at hm; exact hm
    · rw [q, Bool.true_or] at hm; exact hm
theorem p_Sum (a p K) (h : K true) : F_vitrinelaw07_AnbSum s_alive s_InG a p K := by
  refine ⟨fun q1 => ⟨fun q2 => ⟨fun q3 => ⟨fun q4 => ⟨fun q5 => ⟨fun q6 => h, fun q6 => ?_⟩, fun _ => h⟩, fun _ => h⟩, fun _ => h⟩, fun _ => h⟩, fun _ => h⟩
  have q1 := of_decide_eq_false q1
  have q2 := of_decide_eq_false q2
  have q3 := of_decide_eq_false q3
  have q4 := of_decide_eq_false q4
  have q5 := of_decide_eq_false q5
  have q6 := of_decide_eq_false q6
  refine p_sumL a p (by omega) (by omega) _ ?_ 401 0 (by omega)
  rw [sum_has (by omega) (by omega)]
  refine ⟨⟨vldM_iff.2 (by omega), by omega, by omega⟩, fun _ => ⟨fun _ => h, fun z => ?_⟩, fun z => ?_⟩
  · have e : ∀ b : Bool, (b == b) = true := fun b => by cases b <;> rfl
    rw [e] at z
    cases z
  · exact absurd rfl (of_decide_eq_false z)

/-! ### AnbStep -/
theorem p_Step (a p K) (h : K true) : F_vitrinelaw07_AnbStep s_Val s_alive s_InG a p K := by
  show ((!vldM a) = false → _) ∧ _
  cases hv : vldM a with
  | false => exact ⟨fun q => by simp at q, fun _ => h⟩
  | true =>
    refine ⟨fun _ => ⟨fun q5 => ⟨fun q6 => h, fun q6 => ⟨⟨hv, ?_, ?_⟩, ?_⟩⟩, fun _ => h⟩, fun q => by simp at q⟩
    · have := of_decide_eq_false q5; omega
    · have := of_decide_eq_false q6; omega
    have q5 := of_decide_eq_false q5
    have q6 := of_decide_eq_false q6
    have f2 := has_self a
    have w := vldM_iff.1 hv
    cases hp : hasM a p with
    | false =>
      simp only [s_InG, s_alive, f2, hv, decide_eq_true_eq, decide_eq_false_iff_not, ne_eq, not_true_eq_false, not_false_eq_true, Bool.not_true, Bool.not_false, Bool.false_eq_true, reduceCtorEq, false_implies, true_implies, and_true, true_and, Int.not_lt, Int.not_le, forall_const, h, and_self, implies_true]
      repeat' (first | apply And.intro | intro)
      all_goals first | exact h | omega | (unfold I64; omega)
    | true =>
      obtain ⟨s1, s2, s3⟩ := has_side hp
      have f3 := has_next hp
      simp only [s_InG, s_alive, f2, f3, hv, decide_eq_true_eq, decide_eq_false_iff_not, ne_eq, not_true_eq_false, not_false_eq_true, Bool.not_true, Bool.not_false, Bool.false_eq_true, reduceCtorEq, false_implies, true_implies, and_true, true_and, Int.not_lt, Int.not_le, forall_const, h, and_self, implies_true]
      repeat' (first | apply And.intro | intro)
      all_goals first | exact h | omega | (unfold I64; omega) | (exfalso; omega)

/-! ### AnbAll -/
theorem plc_pre (a : Int × Int) (i : Nat) : ∀ k : Nat, ∃ r, plc a (i + k) = plc a i ++ r
  | 0 => ⟨[], by rw [List.append_nil]; rfl⟩
  | k + 1 => by
    obtain ⟨r, hr⟩ := plc_pre a i k
    refine ⟨r ++ (if hasM a (((i + k : Nat) : Int) + 1) = true then [((i + k : Nat) : Int) + 1] else []), ?_⟩
    rw [← Nat.add_assoc, plc_succ, hr, List.append_assoc]
theorem getD_mid (x : List Int) (y : Int) (r : List Int) (d : Int) : (x ++ [y] ++ r).getD x.length d = y := by
  rw [List.getD_eq_getElem?_getD, List.append_assoc, List.getElem?_append_right (Nat.le_refl _), Nat.sub_self]
  rfl
theorem p_AllL2 (a : Int × Int) (hv : vldM a = true) (most : Int) (h0 : 0 ≤ most) (h1 : most ≤ 64) (x6 : Int) (Ke : List Int → Int → Int → Prop) (Kr : Bool → Prop) (hK : Ke (plc a most.toNat) x6 ((plc a most.toNat).length : Int)) :
    ∀ (k i : Nat), i + k = most.toNat → ∃ m, F_vitrinelaw07_AnbAll_l6 s_Val s_alive s_All s_InG m most (plc a most.toNat) x6 ((plc a i).length : Int) ((i : Int) + 1) a.1 a.2 Ke Kr
  | 0, i, hi => by
    refine ⟨1, ?_⟩
    rw [Nat.add_zero] at hi
    rw [hi]
    simp only [F_vitrinelaw07_AnbAll_l6]
    exact ⟨fun q => by have := of_decide_eq_true q; omega, fun _ => hK⟩
  | k + 1, i, hi => by
    obtain ⟨m, hm⟩ := p_AllL2 a hv most h0 h1 x6 Ke Kr hK k (i + 1) (by omega)
    obtain ⟨r, hr⟩ := plc_pre a (i + 1) k
    rw [show i + 1 + k = most.toNat from by omega, plc_succ] at hr
    have hl := plc_len a i
    have e : ((i + 1 : Nat) : Int) + 1 = (i : Int) + 1 + 1 := by omega
    rw [e, plc_succ] at hm
    refine ⟨m + 1, ?_⟩
    simp only [F_vitrinelaw07_AnbAll_l6]
    refine ⟨fun _ => ⟨⟨hv, by omega, by omega⟩, fun q => absurd rfl (of_decide_eq_true q), fun _ => ⟨fun q => ?_, fun q => ?_⟩⟩, fun q => by have := of_decide_eq_false q; omega⟩
    · rw [if_pos q] at hr hm
      have hlen : (plc a i).length < (plc a most.toNat).length := by rw [hr]; simp only [List.length_append, List.length_cons]; omega
      have hg : (plc a most.toNat).getD ((plc a i).length : Int).toNat (dfltD Cd.i64) = (i : Int) + 1 := by
        rw [Int.toNat_natCast, hr]
        exact getD_mid _ _ _ _
      rw [hg]
      refine ⟨fun _ => ⟨⟨by omega, by omega⟩, fun z => absurd rfl (of_decide_eq_true z), fun _ => ⟨by unfold I64; omega, by unfold I64; omega, ?_⟩⟩, fun z => by have := of_decide_eq_true z; omega⟩
      rw [List.length_append, List.length_singleton] at hm
      exact hm
    · rw [if_neg (by rw [q]; decide), List.append_nil] at hm
      exact ⟨by unfold I64; omega, hm⟩
theorem p_AllLaw (a n K) (h : K true) : F_vitrinelaw07_AnbAll s_Val s_alive s_All s_InG a n K := by
  show ((!vldM a) = false → _) ∧ _
  cases hv : vldM a with
  | false => exact ⟨fun q => by simp at q, fun _ => h⟩
  | true =>
    refine ⟨fun _ => ⟨fun q5 => ⟨fun q6 => h, fun q6 => ?_⟩, fun _ => h⟩, fun q => by simp at q⟩
    have q5 := of_decide_eq_false q5
    have q6 := of_decide_eq_false q6
    have e : allM7 a n = (plc a n.toNat, 0) := by unfold allM7; rw [if_pos hv, if_neg (by omega)]
    show ∃ m, F_vitrinelaw07_AnbAll_l6 s_Val s_alive s_All s_InG m n (allM7 a n).1 (allM7 a n).2 0 1 a.1 a.2 _ _
    rw [e]
    refine p_AllL2 a hv n (by omega) (by omega) 0 _ _ ?_ n.toNat 0 (by omega)
    exact ⟨fun _ => ⟨fun _ => h, fun z => absurd rfl (of_decide_eq_false z)⟩, fun z => absurd rfl (of_decide_eq_false z)⟩
theorem gok0 : GOK GT GL (st0 gs1) := by
  intro g k l h
  match g, h with
  | 0, h =>
    obtain ⟨rfl, rfl⟩ : IntKind.u8 = k ∧ marksL = l := by
      have h2 := Option.some.inj h
      exact ⟨congrArg Prod.fst h2, congrArg Prod.snd h2⟩
    have e : ((st0 gs1).hp.get 0).map (fun b => (List.range 126).map fun j => b.get j) = some ((List.range 126).map fun j => some (V.i .u8 (marksL.getD j 0))) := by kernel_rfl
    cases hh : (st0 gs1).hp.get 0 with
    | none => rw [hh] at e; cases e
    | some b =>
    rw [hh] at e
    have h2 := Option.some.inj e
    refine ⟨by decide, b, rfl, fun j hj => ?_⟩
    have hj2 : j < 126 := hj
    have h3 := congrArg (fun x => x[j]?) h2
    simpa [hj2] using h3
  | _ + 1, h => cases h
end Go.Proofs.YtbpbaicbaehhjaaGreatDoor

