/-
  Progressions: what their functions do. Nothing is claimed here.
-/
import Derived.Test.YtbpbaicbaehhjaaDoorTi
import Derived.Lib.ItoaNum
set_option linter.unusedVariables false
set_option linter.unusedSimpArgs false
namespace Go.Proofs.YtbpbaicbaehhjaaDoor
open Go.Vm Go.Sx Go.RowKit

def inW (n : Int) : Bool := decide (-1000000000 ≤ n) && decide (n ≤ 1000000000)
theorem inW_iff {n : Int} : inW n = true ↔ -1000000000 ≤ n ∧ n ≤ 1000000000 := by unfold inW; simp
def vldM (a : Int × Int) : Bool := inW a.1 && inW a.2
theorem vldM_iff {a : Int × Int} : vldM a = true ↔ (-1000000000 ≤ a.1 ∧ a.1 ≤ 1000000000) ∧ (-1000000000 ≤ a.2 ∧ a.2 ≤ 1000000000) := by unfold vldM; rw [Bool.and_eq_true, inW_iff, inW_iff]
/-- A place is in a progression. -/
def hasM (a : Int × Int) (p : Int) : Bool := if a.1 = 0 then decide (p - a.2 = 0) else decide ((p - a.2).tmod a.1 = 0) && decide (0 ≤ (p - a.2).tdiv a.1)
def s_fmt : T_strconv_FormatInt := fun n b K => (b = 10 ∧ -9223372036854775808 ≤ n ∧ n < 9223372036854775808) ∧ K (Lib.itoa n)
def s_isW : T_anb_isWithin := fun n K => K (inW n)
theorem p_isW (n K) (h : s_isW n K) : F_anb_isWithin n K := by
  have h : K (inW n) := h
  unfold inW at h
  refine ⟨fun q => ?_, fun q => ?_⟩
  · rwa [q, Bool.true_and] at h
  · rwa [q, Bool.false_and] at h
theorem tdiv_le (x y : Int) : (x.tdiv y).natAbs ≤ x.natAbs := by rw [Int.natAbs_tdiv]; exact Nat.div_le_self _ _
def s_has : T_anb_has := fun a p K => (vldM a = true ∧ -1000000000 ≤ p ∧ p ≤ 1000000000) ∧ K (hasM a p)
theorem p_has (a p K) (h : s_has a p K) : F_anb_has a p K := by
  obtain ⟨⟨hv, h0, h1⟩, hK⟩ := h
  have hv := vldM_iff.1 hv
  have hd := tdiv_le (p - a.2) a.1
  unfold hasM at hK
  refine ⟨by unfold I64; omega, fun q => ?_, fun q => ?_⟩
  · have q := of_decide_eq_true q
    rwa [if_pos q] at hK
  · have q := of_decide_eq_false q
    rw [if_neg q] at hK
    refine ⟨q, fun z => ⟨q, by unfold I64; omega, ?_⟩, fun z => ?_⟩
    · rwa [z, Bool.true_and] at hK
    · rwa [z, Bool.false_and] at hK
def s_Chk : T_anb_Check := fun a K => K (if vldM a = true then 0 else 8)
theorem p_Chk (a K) (h : s_Chk a K) : F_anb_Check s_isW a K := by
  have h : K (if vldM a = true then 0 else 8) := h
  unfold vldM at h
  refine ⟨fun q => ⟨fun z => ?_, fun z => ?_⟩, fun q => ?_⟩
  · have q : inW a.1 = true := by simpa using q
    have z : inW a.2 = false := by simpa using z
    rwa [q, z, if_neg (by decide)] at h
  · have q : inW a.1 = true := by simpa using q
    have z : inW a.2 = true := by simpa using z
    rwa [q, z, if_pos (by decide)] at h
  · have q : inW a.1 = false := by simpa using q
    rwa [q, Bool.false_and, if_neg (by decide)] at h
/-- In: the answer, and the error. -/
def inM (a : Int × Int) (p : Int) : Bool × Int := if vldM a = true then (if p < 1 ∨ 1000000000 < p then (false, 2) else (hasM a p, 0)) else (false, 8)
theorem inM_in {a : Int × Int} {p : Int} (hv : vldM a = true) (h0 : 1 ≤ p) (h1 : p ≤ 1000000000) : inM a p = (hasM a p, 0) := by unfold inM; rw [if_pos hv, if_neg (by omega)]
def s_In : T_anb_In := fun a p K => K (inM a p).1 (inM a p).2
theorem p_In (a p K) (h : s_In a p K) : F_anb_In s_Chk s_has a p K := by
  have h : K (inM a p).1 (inM a p).2 := h
  unfold inM at h
  show ((decide ((if vldM a = true then (0 : Int) else 8) ≠ 0)) = true → _) ∧ _
  cases hv : vldM a with
  | false =>
    rw [hv, if_neg (by decide)] at h
    exact ⟨fun _ => h, fun q => by simp at q⟩
  | true =>
    rw [hv, if_pos rfl] at h
    refine ⟨fun q => by simp at q, fun _ => ⟨fun q => ⟨fun z => ?_, fun z => ?_⟩, fun q => ?_⟩⟩
    · have z := of_decide_eq_true z
      rwa [if_pos (.inr z)] at h
    · have q := of_decide_eq_false q
      have z := of_decide_eq_false z
      rw [if_neg (by omega)] at h
      exact ⟨⟨hv, by omega, by omega⟩, h⟩
    · have q := of_decide_eq_true q
      rwa [if_pos (.inl q)] at h
/-- In at a valid progression and a place. -/
def s_InG : T_anb_In := fun a p K => (vldM a = true ∧ 1 ≤ p ∧ p ≤ 1000000000) ∧ K (hasM a p) 0
theorem inG (a p K) (h : s_InG a p K) : s_In a p K := by
  obtain ⟨⟨hv, h0, h1⟩, hK⟩ := h
  show K (inM a p).1 (inM a p).2
  rw [inM_in hv h0 h1]
  exact hK

/-- The places up to n that are in a progression. -/
def plc (a : Int × Int) (n : Nat) : List Int := ((List.range n).map fun k : Nat => (k : Int) + 1).filter (hasM a)
theorem plc_succ (a : Int × Int) (n : Nat) : plc a (n + 1) = plc a n ++ (if hasM a ((n : Int) + 1) = true then [(n : Int) + 1] else []) := by
  unfold plc
  rw [List.range_succ, List.map_append, List.filter_append]
  congr 1
  simp only [List.map_cons, List.map_nil, List.filter_cons, List.filter_nil]
theorem plc_len (a : Int × Int) : ∀ n, (plc a n).length ≤ n
  | 0 => by simp [plc]
  | n + 1 => by
    have := plc_len a n
    rw [plc_succ, List.length_append]
    split <;> simp <;> omega
def allM7 (a : Int × Int) (most : Int) : List Int × Int := if vldM a = true then (if most < 0 ∨ 64 < most then ([], 2) else (plc a most.toNat, 0)) else ([], 8)
theorem p_AllL (a : Int × Int) (hv : vldM a = true) (most : Int) (h0 : 0 ≤ most) (h1 : most ≤ 64) (Ke : List Int → Prop) (hK : Ke (plc a most.toNat)) : ∀ (k i : Nat), i + k = most.toNat → ∃ m, F_anb_All_l8 s_Chk s_has m most ((i : Int) + 1) a.1 a.2 (plc a i) Ke
  | 0, i, hi => by
    refine ⟨1, ?_⟩
    simp only [F_anb_All_l8]
    refine ⟨fun q => by have := of_decide_eq_true q; omega, fun _ => ?_⟩
    rw [Nat.add_zero] at hi
    rw [hi]
    exact hK
  | k + 1, i, hi => by
    obtain ⟨m, hm⟩ := p_AllL a hv most h0 h1 Ke hK k (i + 1) (by omega)
    have hl := plc_len a i
    rw [plc_succ] at hm
    have e : ((i + 1 : Nat) : Int) + 1 = (i : Int) + 1 + 1 := by omega
    rw [e] at hm
    refine ⟨m + 1, ?_⟩
    simp only [F_anb_All_l8]
    refine ⟨fun _ => ⟨⟨hv, by omega, by omega⟩, fun q => ⟨?_, by unfold I64; omega, ?_⟩, fun q => ⟨by unfold I64; omega, ?_⟩⟩, fun q => by have := of_decide_eq_false q; omega⟩
    · simp only [List.length_cons, List.length_nil]; omega
    · rw [if_pos q] at hm
      exact hm
    · rw [if_neg (by rw [q]; decide), List.append_nil] at hm
      exact hm
def s_All : T_anb_All := fun a n K => K (allM7 a n).1 (allM7 a n).2
theorem p_All (a n K) (h : s_All a n K) : F_anb_All s_Chk s_has a n K := by
  have h : K (allM7 a n).1 (allM7 a n).2 := h
  unfold allM7 at h
  show ((decide ((if vldM a = true then (0 : Int) else 8) ≠ 0)) = true → _) ∧ _
  cases hv : vldM a with
  | false =>
    rw [hv, if_neg (by decide)] at h
    exact ⟨fun _ => h, fun q => by simp at q⟩
  | true =>
    rw [hv, if_pos rfl] at h
    refine ⟨fun q => by simp at q, fun _ => ⟨fun q => ⟨fun z => ?_, fun z => ?_⟩, fun q => ?_⟩⟩
    · have z := of_decide_eq_true z
      rwa [if_pos (.inr z)] at h
    · have q := of_decide_eq_false q
      have z := of_decide_eq_false z
      rw [if_neg (by omega)] at h
      exact p_AllL a hv n (by omega) (by omega) (fun y => K y 0) h n.toNat 0 (by omega)
    · have q := of_decide_eq_true q
      rwa [if_pos (.inl q)] at h

/-! ### The text -/
theorem itoa_len {n : Int} (h : inW n = true) : (Lib.itoa n).length ≤ 12 := by
  have h := inW_iff.1 h
  have key : ∀ (k m : Nat), m < 10 ^ (k + 1) → (Lib.decDigits m).length ≤ k + 1 := by
    intro k
    induction k with
    | zero => intro m hm; rw [Lib.decDigits, dif_pos (by omega)]; simp
    | succ k ih =>
      intro m hm
      rw [Lib.decDigits]
      split
      · simp
      · have := ih (m / 10) (by rw [Nat.pow_succ] at hm; exact Nat.div_lt_of_lt_mul (by omega))
        rw [List.length_append, List.length_singleton]
        omega
  unfold Lib.itoa
  split
  · have := key 10 n.natAbs (by omega)
    rw [List.length_cons]; omega
  · have := key 10 n.toNat (by omega)
    omega
def s_dec : T_anb_decimal := fun n K => inW n = true ∧ K (Lib.itoa n)
theorem p_dec (n K) (h : s_dec n K) : F_anb_decimal s_fmt n K := ⟨⟨rfl, by have := inW_iff.1 h.1; omega, by have := inW_iff.1 h.1; omega⟩, h.2⟩
def facM (n : Int) : List UInt8 := if n = 1 then [] else if n = -1 then [45] else Lib.itoa n
def addM (n : Int) : List UInt8 := if n = 0 then [] else if 0 < n then [43] ++ Lib.itoa n else Lib.itoa n
def s_fac : T_anb_factor := fun n K => inW n = true ∧ K (facM n)
theorem p_fac (n K) (h : s_fac n K) : F_anb_factor s_dec n K := by
  obtain ⟨hw, hK⟩ := h
  unfold facM at hK
  refine ⟨fun q => ?_, fun q => ⟨fun z => ?_, fun z => ?_⟩⟩
  · rwa [if_pos (of_decide_eq_true q)] at hK
  · rwa [if_neg (of_decide_eq_false q), if_pos (of_decide_eq_true z)] at hK
  · rw [if_neg (of_decide_eq_false q), if_neg (of_decide_eq_false z)] at hK
    exact ⟨hw, hK⟩
def s_add : T_anb_addend := fun n K => inW n = true ∧ K (addM n)
theorem p_add (n K) (h : s_add n K) : F_anb_addend s_dec n K := by
  obtain ⟨hw, hK⟩ := h
  have hl := itoa_len hw
  unfold addM at hK
  refine ⟨fun q => ?_, fun q => ⟨fun z => ?_, fun z => ?_⟩⟩
  · rwa [if_pos (of_decide_eq_true q)] at hK
  · rw [if_neg (of_decide_eq_false q), if_pos (of_decide_eq_true z)] at hK
    exact ⟨hw, by simp only [List.length_cons, List.length_nil]; omega, hK⟩
  · rw [if_neg (of_decide_eq_false q), if_neg (of_decide_eq_false z)] at hK
    exact ⟨hw, hK⟩
def txtM (a : Int × Int) : List UInt8 := if a.1 = 0 then Lib.itoa a.2 else (facM a.1 ++ [110]) ++ addM a.2
def textM (a : Int × Int) : List UInt8 × Int := if vldM a = true then (txtM a, 0) else ([], 8)
theorem fac_len {n : Int} (h : inW n = true) : (facM n).length ≤ 12 := by
  have := itoa_len h
  unfold facM
  split
  · simp
  · split
    · simp
    · exact this
theorem add_len {n : Int} (h : inW n = true) : (addM n).length ≤ 13 := by
  have := itoa_len h
  unfold addM
  split
  · simp
  · split
    · rw [List.length_append, List.length_singleton]; omega
    · omega
def s_Txt : T_anb_Text := fun a K => K (textM a).1 (textM a).2
theorem p_Txt (a K) (h : s_Txt a K) : F_anb_Text s_Chk s_dec s_fac s_add a K := by
  have h : K (textM a).1 (textM a).2 := h
  unfold textM at h
  show ((decide ((if vldM a = true then (0 : Int) else 8) ≠ 0)) = true → _) ∧ _
  cases hv : vldM a with
  | false =>
    rw [hv, if_neg (by decide)] at h
    exact ⟨fun _ => h, fun q => by simp at q⟩
  | true =>
    rw [hv, if_pos rfl] at h
    unfold vldM at hv
    rw [Bool.and_eq_true] at hv
    have l1 := fac_len hv.1
    have l2 := add_len hv.2
    unfold txtM at h
    refine ⟨fun q => by simp at q, fun _ => ⟨fun z => ?_, fun z => ?_⟩⟩
    · rw [if_pos (of_decide_eq_true z)] at h
      exact ⟨hv.2, h⟩
    · rw [if_neg (of_decide_eq_false z)] at h
      exact ⟨hv.1, by simp only [List.length_cons, List.length_nil]; omega, hv.2, by simp only [List.length_append, List.length_cons, List.length_nil]; omega, h⟩
end Go.Proofs.YtbpbaicbaehhjaaDoor
