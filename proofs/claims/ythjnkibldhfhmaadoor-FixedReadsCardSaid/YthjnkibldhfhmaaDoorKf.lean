/-
  The reference of fixed, and its laws. Nothing is claimed here. (The texts Ke, Kf, one behind the other.)
-/
import Derived.Test.YthjnkibldhfhmaaDoorKd
import Derived.Test.YthjnkibldhfhmaaDoorKb
import Derived.Test.YthjnkibldhfhmaaDoorTg
set_option linter.unusedVariables false
set_option linter.unusedSimpArgs false
namespace Go.Proofs.YthjnkibldhfhmaaDoor
open Go.Vm Go.Sx Go.RowKit

def s_rIs : T_r6_Is := fun n K => K (isM n)
theorem p_rIs (n K) (h : s_rIs n K) : F_r6_Is n K := by
  unfold s_rIs isM at h
  refine ⟨fun q => ?_, fun q => ?_⟩
  · rwa [q, Bool.true_and] at h
  · rwa [q, Bool.false_and] at h
def s_rRead : T_r6_Read := fun s K => s_rVal s (fun a _ c => K a c)
theorem p_rRead (s K) (h : s_rRead s K) : F_r6_Read s_rVal s K := h
theorem isM_chk (n : Int) : chkM [n] = if isM n then 0 else 8 := by unfold chkM; simp
def s_rCheck : T_r6_Check := fun n K => K (chkM [n])
theorem p_rCheck (n K) (h : s_rCheck n K) : F_r6_Check s_rIs n K := by
  unfold s_rCheck at h
  rw [isM_chk] at h
  unfold F_r6_Check s_rIs
  cases hc : isM n with
  | true => rw [hc] at h; exact ⟨fun q => (by cases q), fun _ => h⟩
  | false => rw [hc] at h; exact ⟨fun _ => h, fun q => (by cases q)⟩

/-! ### Digits: a function that calls itself -/
def sD : Nat → T_r6_digits
  | 0 => fun _ _ => False
  | k + 1 => fun n K => (0 ≤ n ∧ n < 10 ^ (k + 1) ∧ n ≤ 1000000000000) ∧ K (Lib.decDigits n.toNat)
theorem dig_byte {n : Int} (h : 0 ≤ n) : IntKind.u8.wrap ((48 : Int) + n.tmod 10) = ((48 + n.toNat % 10 : Nat) : Int) := by
  rw [Int.tmod_eq_emod_of_nonneg h, IntKind.wrap_u8]
  omega
theorem dec_len13 {a : Nat} (h : a < 10 ^ 13) : (Lib.decDigits a).length ≤ 13 := by
  rw [Lib.decDigits_length]
  exact lenD 13 a (by decide) h
where
  lenD : ∀ (k a : Nat), 0 < k → a < 10 ^ k → Lib.nDigits a ≤ k
    | k + 1, a, _, h => by
      by_cases q : a < 10
      · rw [Lib.nDigits_small q]; omega
      · rw [Lib.nDigits_big q]
        cases k with
        | zero => omega
        | succ k => have := lenD (k + 1) (a / 10) (by omega) (by rw [Nat.pow_succ] at h; exact Nat.div_lt_of_lt_mul (by omega)); omega
theorem p_rD : ∀ (k : Nat) (n K), sD (k + 1) n K → F_r6_digits (sD k) n K
  | k, n, K, ⟨⟨h0, h1, h2⟩, hK⟩ => by
    have eb := dig_byte h0
    have em := Int.tmod_eq_emod_of_nonneg h0 (b := 10)
    have ed := Int.tdiv_eq_ediv_of_nonneg h0 (b := 10)
    unfold F_r6_digits
    rw [eb]
    refine ⟨by decide, by unfold I64; omega, ⟨by omega, by omega⟩, fun q => ?_, fun q => ⟨by decide, by unfold I64; omega, ?_⟩⟩
    · have q := of_decide_eq_true q
      rw [Lib.decDigits, dif_pos (by omega)] at hK
      rw [Int.toNat_natCast]
      rwa [show n.toNat % 10 = n.toNat from by omega]
    · have q := of_decide_eq_false q
      have e10 : (n.tdiv 10).toNat = n.toNat / 10 := by rw [ed]; omega
      have hl : (Lib.decDigits n.toNat).length ≤ 13 := dec_len13 (by omega)
      rw [Lib.decDigits, dif_neg (by omega)] at hK hl
      rw [List.length_append] at hl
      cases k with
      | zero => omega
      | succ k =>
        refine ⟨⟨by rw [ed]; omega, ?_, by rw [ed]; omega⟩, ?_⟩
        · rw [ed]
          have : (10 : Int) ^ (k + 1 + 1) = 10 ^ (k + 1) * 10 := Int.pow_succ ..
          rw [this] at h1
          omega
        · rw [e10, Int.toNat_natCast]
          exact ⟨by simp only [List.length_cons, List.length_nil] at hl ⊢; omega, hK⟩
def s_dg6 : T_r6_digits := sD 13

/-! ### The text of a number -/
theorem dec1 {n : Int} (h0 : 0 ≤ n) (h : n < 10) {K : List UInt8 → Prop} (hK : K [bb n.toNat]) : s_dg6 n K := by
  have e13 : (10 : Int) ^ (12 + 1) = 10000000000000 := by decide
  refine ⟨⟨h0, by rw [e13]; omega, by omega⟩, ?_⟩
  rw [Lib.decDigits_one (by omega)]
  exact hK
theorem p_l9 (A : T_r6_Text) (w : List UInt8) (hw : w.length ≤ 100) (p : Nat) (hp : 0 < p) (hp2 : p < 1000) (Ke : List UInt8 → Prop) (h : Ke (w ++ (frV p).tail)) : ∃ m, F_r6_Text_l9 A s_dg6 m w (p : Int) 100 Ke := by
  have e1 : (p : Int).tdiv 100 = ((p / 100 : Nat) : Int) := td rfl 100
  have e2 : (p : Int).tmod 100 = ((p % 100 : Nat) : Int) := tm rfl 100
  have e3 : ((p % 100 : Nat) : Int).tdiv 10 = ((p / 10 % 10 : Nat) : Int) := by rw [show p / 10 % 10 = p % 100 / 10 from by omega]; exact td rfl 10
  have e4 : ((p % 100 : Nat) : Int).tmod 10 = ((p % 10 : Nat) : Int) := by rw [show p % 10 = p % 100 % 10 from by omega]; exact tm rfl 10
  have e5 : ((p % 10 : Nat) : Int).tdiv 1 = ((p % 10 : Nat) : Int) := Int.tdiv_one _
  have e6 : ((p % 10 : Nat) : Int).tmod 1 = 0 := Int.tmod_one _
  have t1 : (100 : Int).tdiv 10 = 10 := rfl
  have t2 : (10 : Int).tdiv 10 = 1 := rfl
  have t3 : (1 : Int).tdiv 10 = 0 := rfl
  have n0 : (Nat.beq p 0) = false := by cases hc : Nat.beq p 0 with | false => rfl | true => rw [Nat.beq_eq] at hc; omega
  unfold frV at h
  rw [n0, cond_false] at h
  have stop : ∀ n x y u, ¬ 0 < x → Ke u → F_r6_Text_l9 A s_dg6 (n + 1) u x y Ke := fun n x y u hx hk => by
    simp only [F_r6_Text_l9]
    exact ⟨fun q => absurd (of_decide_eq_true q) hx, fun _ => hk⟩
  have step : ∀ n (x y z v : Int) (u : List UInt8), 0 < x → x < 1000 → 0 < y → y ≤ 100 → x.tdiv y = z → 0 ≤ z → z < 10 → x.tmod y = v → u.length ≤ 110 → F_r6_Text_l9 A s_dg6 n (u ++ [bb z.toNat]) v (y.tdiv 10) Ke → F_r6_Text_l9 A s_dg6 (n + 1) u x y Ke := fun n x y z v u hx hx2 hy hy2 ez hz hz2 ev hu hk => by
    simp only [F_r6_Text_l9, ez, ev]
    refine ⟨fun _ => ⟨by omega, by unfold I64; omega, dec1 hz hz2 ⟨by simp only [List.length_cons, List.length_nil]; omega, by omega, by decide, ?_, hk⟩⟩, fun q => absurd hx (of_decide_eq_false q)⟩
    have : y.tdiv 10 = y / 10 := Int.tdiv_eq_ediv_of_nonneg (by omega)
    rw [this]
    unfold I64
    omega
  cases c1 : Nat.beq (p % 100) 0 with
  | true =>
    rw [c1, cond_true] at h
    rw [Nat.beq_eq] at c1
    exact ⟨2, step 1 p 100 _ _ w (by omega) (by omega) (by omega) (by omega) e1 (by omega) (by omega) e2 (by omega) (stop 0 _ _ _ (by omega) h)⟩
  | false =>
    rw [c1, cond_false] at h
    have c1' : p % 100 ≠ 0 := fun q => by rw [q] at c1; cases c1
    cases c2 : Nat.beq (p % 10) 0 with
    | true =>
      rw [c2, cond_true] at h
      rw [Nat.beq_eq] at c2
      refine ⟨3, step 2 p 100 _ _ w (by omega) (by omega) (by omega) (by omega) e1 (by omega) (by omega) e2 (by omega) ?_⟩
      rw [t1]
      refine step 1 _ 10 _ _ _ (by omega) (by omega) (by omega) (by omega) e3 (by omega) (by omega) e4 (by simp; omega) (stop 0 _ _ _ (by omega) ?_)
      simp only [Int.toNat_natCast, List.append_assoc, List.singleton_append, List.cons_append, List.nil_append]
      exact h
    | false =>
      rw [c2, cond_false] at h
      have c2' : p % 10 ≠ 0 := fun q => by rw [q] at c2; cases c2
      refine ⟨4, step 3 p 100 _ _ w (by omega) (by omega) (by omega) (by omega) e1 (by omega) (by omega) e2 (by omega) ?_⟩
      rw [t1]
      refine step 2 _ 10 _ _ _ (by omega) (by omega) (by omega) (by omega) e3 (by omega) (by omega) e4 (by simp; omega) ?_
      rw [t2]
      refine step 1 _ 1 _ _ _ (by omega) (by omega) (by omega) (by omega) e5 (by omega) (by omega) e6 (by simp; omega) (stop 0 _ _ _ (by omega) ?_)
      simp only [Int.toNat_natCast, List.append_assoc, List.singleton_append, List.cons_append, List.nil_append]
      exact h
def sT : Nat → T_r6_Text
  | 0 => fun _ _ => False
  | k + 1 => fun n K => (inM n ∧ (k = 0 → 0 ≤ n)) ∧ K (numW n)
theorem p_rT : ∀ (k : Nat) (n K), sT (k + 1) n K → F_r6_Text (sT k) s_dg6 n K
  | k, n, K, ⟨⟨⟨h0, h1⟩, hk⟩, hK⟩ => by
    have hl := numW_len ⟨h0, h1⟩
    rw [numW_eq] at hK hl
    refine ⟨fun q => ⟨by unfold I64; omega, ?_⟩, fun q => ⟨by decide, ?_, ?_⟩⟩
    · have q := of_decide_eq_true q
      cases k with
      | zero => have := hk rfl; omega
      | succ k =>
        refine ⟨⟨⟨by omega, by omega⟩, fun _ => by omega⟩, ?_⟩
        rw [numW_eq, if_neg (by omega), List.nil_append, show (0 - n).natAbs = n.natAbs from by omega]
        rw [if_pos q] at hK hl
        exact ⟨by simp only [List.length_append, List.length_cons, List.length_nil] at hl ⊢; omega, hK⟩
    · have q := of_decide_eq_false q
      have e := td (show n = (n.natAbs : Int) from by omega) 1000
      have e' : n.tdiv 1000 = ((n.natAbs / 1000 : Nat) : Int) := e
      rw [e']
      unfold I64
      omega
    · have q := of_decide_eq_false q
      have e := td (show n = (n.natAbs : Int) from by omega) 1000
      have e' : n.tdiv 1000 = ((n.natAbs / 1000 : Nat) : Int) := e
      have f := tm (show n = (n.natAbs : Int) from by omega) 1000
      have f' : n.tmod 1000 = ((n.natAbs % 1000 : Nat) : Int) := f
      rw [e', f']
      rw [if_neg q, List.nil_append] at hK hl
      rw [List.length_append] at hl
      have e13 : (10 : Int) ^ (12 + 1) = 10000000000000 := by decide
      refine ⟨⟨by omega, by rw [e13]; omega, by omega⟩, ?_⟩
      rw [Int.toNat_natCast]
      refine ⟨by decide, fun z => ?_, fun z => ?_⟩
      · have z := of_decide_eq_true z
        have z' : n.natAbs % 1000 = 0 := by omega
        rw [z'] at hK
        rwa [show frV 0 = [] from rfl, List.append_nil] at hK
      · have z := of_decide_eq_false z
        refine ⟨by simp only [List.length_cons, List.length_nil]; omega, ?_⟩
        refine p_l9 _ _ (by simp; omega) (n.natAbs % 1000) (by omega) (by omega) _ ?_
        have n0 : (Nat.beq (n.natAbs % 1000) 0) = false := by cases hc : Nat.beq (n.natAbs % 1000) 0 with | false => rfl | true => rw [Nat.beq_eq] at hc; omega
        have ef : frV (n.natAbs % 1000) = 46 :: (frV (n.natAbs % 1000)).tail := by
          unfold frV
          rw [n0, cond_false]
          cases Nat.beq (n.natAbs % 1000 % 100) 0 with
          | true => rfl
          | false =>
            cases Nat.beq (n.natAbs % 1000 % 10) 0 <;> rfl
        rw [ef] at hK
        rwa [List.append_assoc, List.singleton_append]
def s_rText : T_r6_Text := sT 2
def s_rWrite : T_r6_Write := fun n K => if inM n then K (numW n) 0 else K [] 8
theorem p_rWrite (n K) (h : s_rWrite n K) : F_r6_Write s_rIs s_rText n K := by
  unfold s_rWrite at h
  unfold F_r6_Write s_rIs
  cases hc : isM n with
  | true =>
    have hn := isM_iff.1 hc
    rw [if_pos hn] at h
    exact ⟨fun q => (by cases q), fun _ => ⟨⟨hn, fun z => by cases z⟩, h⟩⟩
  | false =>
    rw [if_neg (fun z => by rw [isM_iff.2 z] at hc; cases hc)] at h
    exact ⟨fun _ => h, fun q => (by cases q)⟩
theorem whole_eq (n : Int) : n.tdiv 1000 * 1000 = n - n.tmod 1000 := by have := Int.mul_tdiv_add_tmod n 1000; omega
def s_rWhole : T_r6_Whole := fun n K => if inM n then K (n - n.tmod 1000) 0 else K 0 8
theorem p_rWhole (n K) (h : s_rWhole n K) : F_r6_Whole s_rIs n K := by
  unfold s_rWhole at h
  unfold F_r6_Whole s_rIs
  have hm := tmod_in n
  have he := whole_eq n
  cases hc : isM n with
  | true =>
    have hn := isM_iff.1 hc
    rw [if_pos hn] at h
    unfold inM at hn
    refine ⟨fun q => (by cases q), fun _ => ⟨by decide, by unfold I64; omega, by unfold I64; omega, ?_⟩⟩
    rwa [he]
  | false =>
    rw [if_neg (fun z => by rw [isM_iff.2 z] at hc; cases hc)] at h
    exact ⟨fun _ => h, fun q => (by cases q)⟩
end Go.Proofs.YthjnkibldhfhmaaDoor

set_option linter.unusedVariables false
set_option linter.unusedSimpArgs false
namespace Go.Proofs.YthjnkibldhfhmaaDoor
open Go.Vm Go.Sx Go.RowKit

def s_alive : T_vitrinelaw06_alive := fun K => K true
theorem inM_of {n : Int} (h : (!isM n) = false) : inM n := isM_iff.1 (by simpa using h)

/-! ### FixedReads -/
theorem read_both (s : List UInt8) (K : Int → Int → Int → Int → Prop) (h : ∀ a e, K a e a e) : s_Read s (fun a e => s_rRead s (fun b f => K a e b f)) := by
  refine ⟨fun q => ⟨fun _ => h _ _, fun z => by omega, fun z => by omega⟩, fun q q2 => ⟨fun z => by omega, fun _ _ => h _ _, fun _ z1 z2 => ?_⟩, fun q q1 q2 => ⟨fun z => by omega, fun _ z => ?_, fun _ _ _ => h _ _⟩⟩
  · exfalso
    rcases q2 with q2 | q2
    · rw [q2] at z1; cases z1
    · exact q2 z2
  · exfalso
    rcases z with z | z
    · rw [q1] at z; cases z
    · exact z q2
theorem write_both (n : Int) (K : List UInt8 → Int → List UInt8 → Int → Prop) (h : ∀ a e, K a e a e) : s_Write n (fun a e => s_rWrite n (fun b f => K a e b f)) := by
  unfold s_Write s_rWrite
  split <;> exact h _ _
theorem whole_both (n : Int) (K : Int → Int → Int → Int → Prop) (h : ∀ a e, K a e a e) : s_Whole n (fun a e => s_rWhole n (fun b f => K a e b f)) := by
  unfold s_Whole s_rWhole
  split <;> exact h _ _
theorem law_reads (n s K) (hK : K true) : F_vitrinelaw06_FixedReads s_Read s_rRead s_Write s_rWrite s_Whole s_rWhole s_Check s_rCheck n s K := by
  refine ⟨fun _ => ⟨fun _ => ⟨fun _ => hK, fun _ => ?_⟩, fun _ => hK⟩, fun _ => ⟨fun _ => hK, fun _ => ?_⟩⟩ <;>
  · refine read_both s _ fun a e => write_both n _ fun b f => whole_both n _ fun c g => ?_
    show _ ∧ _
    simpa using hK

/-! ### FixedBack -/
theorem numW_back {n : Int} (h : inM n) : numS (numW n) = true ∧ numM (numW n) = (n, decide (n.tmod 1000 = 0), (numW n).length) := num_back h _ fun q => of_decide_eq_true q
theorem read_numW {n : Int} (h : inM n) {K : Int → Int → Prop} (hK : K n 0) : s_Read (numW n) K := by
  obtain ⟨h1, h2⟩ := numW_back h
  have hl := numW_len h
  refine ⟨fun q => by omega, fun _ z => ?_, fun _ _ _ => ?_⟩
  · exfalso
    rcases z with z | z
    · rw [h1] at z; cases z
    · rw [h2] at z; exact z rfl
  · rw [h2]; exact hK
theorem numW_inj {a b : Int} (ha : inM a) (hb : inM b) : (numW a == numW b) = decide (a = b) := by
  by_cases e : a = b
  · subst e; simp
  · rw [decide_eq_false e]
    cases hc : numW a == numW b with
    | false => rfl
    | true =>
      exfalso
      have q := eq_of_beq hc
      have h1 := (numW_back ha).2
      rw [q, (numW_back hb).2] at h1
      exact e (congrArg Prod.fst h1).symm
theorem write_ok {n : Int} (h : inM n) {K : List UInt8 → Int → Prop} (hK : K (numW n) 0) : s_Write n K := by unfold s_Write; rwa [if_pos h]
theorem numW_pos (n : Int) : 1 ≤ (numW n).length := by
  rw [numW_eq]
  have := (dec_ok (n.natAbs / 1000)).2.1
  have := List.length_pos_iff.2 this
  simp only [List.length_append]
  omega
theorem law_back (a b K) (hK : K true) : F_vitrinelaw06_FixedBack s_rIs s_alive s_Write s_Read a b K := by
  refine ⟨fun ha => ⟨fun _ => hK, fun hb => ?_⟩, fun _ => hK⟩
  have ha := inM_of ha
  have hb := inM_of hb
  refine write_ok ha (write_ok hb (read_numW ha ?_))
  have h1 := numW_len ha
  have h2 := numW_pos a
  rw [numW_inj ha hb]
  refine ⟨fun _ => ⟨fun _ => ⟨fun _ => ⟨fun _ => ⟨fun _ => ⟨fun _ => ⟨fun _ => hK, fun q => ?_⟩, fun q => ?_⟩, fun q => ?_⟩, fun q => ?_⟩, fun q => absurd q (by decide)⟩, fun q => absurd q (by decide)⟩, fun q => absurd q (by decide)⟩
  · have := of_decide_eq_false q; omega
  · have := of_decide_eq_false q; omega
  · simp at q
  · have := of_decide_eq_false q; omega

/-! ### Products -/
theorem mulM_abs (a b : Int) : ((a.natAbs : Int) * (b.natAbs : Int)) = ((a * b).natAbs : Int) := by rw [Int.natAbs_mul]; exact (Int.natCast_mul _ _).symm
theorem sgn (a b : Int) : (a < 0 → b < 0 → 0 < a * b) ∧ (a < 0 → 0 ≤ b → a * b ≤ 0) ∧ (0 ≤ a → b < 0 → a * b ≤ 0) ∧ (0 ≤ a → 0 ≤ b → 0 ≤ a * b) := by
  refine ⟨fun h k => Int.mul_pos_of_neg_of_neg h k, fun h k => ?_, fun h k => ?_, fun h k => Int.mul_nonneg h k⟩
  · have := Int.mul_nonneg (a := 0 - a) (b := b) (by omega) k
    rw [Int.sub_mul, Int.zero_mul] at this
    omega
  · have := Int.mul_nonneg (a := a) (b := 0 - b) h (by omega)
    rw [Int.mul_sub, Int.mul_zero] at this
    omega
theorem sgn_pos {a b : Int} (h : 0 < a * b) : (0 < a ∧ 0 < b) ∨ (a < 0 ∧ b < 0) := by
  obtain ⟨h1, h2, h3, h4⟩ := sgn a b
  rcases Int.lt_trichotomy a 0 with q | q | q
  · rcases Int.lt_trichotomy b 0 with z | z | z
    · exact .inr ⟨q, z⟩
    · have := h2 q (by omega); omega
    · have := h2 q (by omega); omega
  · rw [q, Int.zero_mul] at h; omega
  · rcases Int.lt_trichotomy b 0 with z | z | z
    · have := h3 (by omega) z; omega
    · rw [z, Int.mul_zero] at h; omega
    · exact .inl ⟨q, z⟩
theorem mulM_val (a b : Int) : (0 ≤ a * b ∧ mulM a b = min (a * b / 1000) 1000000000000) ∨ (a * b ≤ 0 ∧ mulM a b = 0 - min ((0 - a * b) / 1000) 1000000000000) := by
  obtain ⟨h1, h2, h3, h4⟩ := sgn a b
  have e := mulM_abs a b
  unfold mulM hpM
  rw [e]
  generalize a * b = p at *
  rcases Int.lt_or_le a 0 with ha | ha <;> rcases Int.lt_or_le b 0 with hb | hb
  · rw [decide_eq_true ha, decide_eq_true hb]
    have := h1 ha hb
    left
    refine ⟨by omega, ?_⟩
    simp only [beq_self_eq_true, Bool.not_true, Bool.false_eq_true, if_false]
    split <;> omega
  · rw [decide_eq_true ha, decide_eq_false (by omega : ¬ b < 0)]
    have := h2 ha hb
    right
    refine ⟨by omega, ?_⟩
    simp only [show (!(true == false)) = true from rfl, if_true]
    split <;> omega
  · rw [decide_eq_false (by omega : ¬ a < 0), decide_eq_true hb]
    have := h3 ha hb
    right
    refine ⟨by omega, ?_⟩
    simp only [show (!(false == true)) = true from rfl, if_true]
    split <;> omega
  · rw [decide_eq_false (by omega : ¬ a < 0), decide_eq_false (by omega : ¬ b < 0)]
    have := h4 ha hb
    left
    refine ⟨by omega, ?_⟩
    simp only [beq_self_eq_true, Bool.not_true, Bool.false_eq_true, if_false]
    split <;> omega
theorem mul_ok {a b : Int} (ha : inM a) (hb : inM b) {K : Int → Int → Prop} (hK : K (mulM a b) 0) : s_Mul a b K := by unfold s_Mul; rwa [if_pos ⟨ha, hb⟩]
theorem sum_ok {l : List Int} (h : l.length ≤ 1000000) (hin : ∀ n ∈ l, inM n) {K : Int → Int → Prop} (hK : K (sumM l 0) 0) : s_Sum l K := ⟨h, fun _ => hK, fun q => absurd (chkM_zero.2 hin) q⟩
theorem holdM_eq (n : Int) : holdM n = max (-1000000000000) (min 1000000000000 n) := by unfold holdM; split <;> split <;> omega
theorem law_parts (a b K) (hK : K true) : F_vitrinelaw06_FixedParts s_rIs s_alive s_Mul s_Sum a b K := by
  refine ⟨fun ha => ⟨fun _ => hK, fun hb => ?_⟩, fun _ => hK⟩
  have ha := inM_of ha
  have hb := inM_of hb
  have hs : sumM [a, b] 0 = holdM (a + b) := by
    show holdM (holdM (0 + a) + b) = _
    rw [Int.zero_add, holdM_id ha]
  have hs2 : sumM [b, a] 0 = holdM (a + b) := by
    show holdM (holdM (0 + b) + a) = _
    rw [Int.zero_add, holdM_id hb, Int.add_comm]
  have hs3 : sumM [holdM (a + b), 0 - b] 0 = holdM (holdM (a + b) - b) := by
    show holdM (holdM (0 + holdM (a + b)) + (0 - b)) = _
    rw [Int.zero_add, holdM_id (holdM_in _)]
    congr 1
    omega
  have hi := holdM_in (a + b)
  have hv : holdM (a + b) = max (-1000000000000) (min 1000000000000 (a + b)) := holdM_eq _
  have hv2 : holdM (holdM (a + b) - b) = max (-1000000000000) (min 1000000000000 (holdM (a + b) - b)) := holdM_eq _
  have ht : (a.tdiv 1000).natAbs = a.natAbs / 1000 := Int.natAbs_tdiv a 1000
  have ht4 : (0 ≤ a → 0 ≤ a.tdiv 1000) ∧ (a ≤ 0 → a.tdiv 1000 ≤ 0) := ⟨fun q => Int.tdiv_nonneg q (by decide), fun q => by have := Int.tdiv_nonneg (a := -a) (b := 1000) (by omega) (by decide); rw [Int.neg_tdiv] at this; omega⟩
  have ha' : -1000000000000 ≤ a ∧ a ≤ 1000000000000 := ha
  have m1 : mulM a 1000 = a := by rcases mulM_val a 1000 with ⟨q1, q2⟩ | ⟨q1, q2⟩ <;> rw [q2] <;> omega
  have m2 : mulM a 1 = a.tdiv 1000 := by
    rcases mulM_val a 1 with ⟨q1, q2⟩ | ⟨q1, q2⟩ <;> rw [q2, Int.mul_one] <;> rw [Int.mul_one] at q1 <;> generalize a.tdiv 1000 = d at * <;> omega
  have hb4 : -1000000000000 ≤ a + b → a + b ≤ 1000000000000 → holdM (a + b) = a + b ∧ holdM (holdM (a + b) - b) = a := fun h1 h2 => by
    rw [holdM_id (n := a + b) ⟨h1, h2⟩, show a + b - b = a from by omega, holdM_id ha]
    exact ⟨rfl, rfl⟩
  have hb5 : 1000000000000 < a + b → holdM (a + b) = 1000000000000 := fun h => by rw [holdM_eq]; omega
  have hb6 : a + b < -1000000000000 → holdM (a + b) = -1000000000000 := fun h => by rw [holdM_eq]; omega
  clear hv hv2
  refine mul_ok ha (by unfold inM; omega) (mul_ok ha (by unfold inM; omega) (sum_ok (by simp) (by simp only [List.mem_cons, List.not_mem_nil, or_false]; rintro x (rfl | rfl); exact ha; exact hb) (sum_ok (by simp) (by simp only [List.mem_cons, List.not_mem_nil, or_false]; rintro x (rfl | rfl); exact hb; exact ha) ⟨by unfold I64; unfold inM at hb; omega, ?_⟩)))
  rw [hs]
  refine sum_ok (by simp) (by simp only [List.mem_cons, List.not_mem_nil, or_false]; rintro x (rfl | rfl); exact hi; unfold inM at hb ⊢; omega) ?_
  rw [hs2, hs3, m1, m2]
  clear m1 m2 hs hs2 hs3 ht4
  unfold inM at ha hb hi
  generalize holdM (holdM (a + b) - b) = y12 at *
  generalize holdM (a + b) = y8 at *
  generalize a.tdiv 1000 = d at *
  simp only [decide_eq_true_eq, decide_eq_false_iff_not, ne_eq, not_true_eq_false, not_false_eq_true, false_implies, true_implies, and_true, true_and, I64]
  repeat' (first | apply And.intro | intro)
  all_goals first | exact hK | omega | (exfalso; omega)

/-! ### FixedOrder -/
theorem mulM_comm (a b : Int) : mulM b a = mulM a b := by
  have h1 := mulM_val a b
  have h2 := mulM_val b a
  rw [Int.mul_comm b a] at h2
  omega
set_option maxHeartbeats 4000000 in
theorem law_order (a b c K) (hK : K true) : F_vitrinelaw06_FixedOrder s_rIs s_alive s_Mul a b c K := by
  refine ⟨fun ha => ⟨fun hb => ⟨fun _ => hK, fun hc => ?_⟩, fun _ => hK⟩, fun _ => hK⟩
  have ha := inM_of ha
  have hb := inM_of hb
  have hc := inM_of hc
  have hn : inM (0 - a) := by unfold inM at ha ⊢; omega
  have m1 := mulM_val a b
  have m2 : mulM b a = mulM a b := mulM_comm a b
  have m3 := mulM_val c b
  have m4 := mulM_val (0 - a) b
  have e4 : (0 - a) * b = 0 - a * b := by rw [Int.sub_mul, Int.zero_mul]
  rw [e4] at m4
  have hsg := fun h : 0 < a * b => sgn_pos h
  have mo : 0 ≤ b → (a ≤ c → a * b ≤ c * b) ∧ (c ≤ a → c * b ≤ a * b) := fun h => ⟨fun q => Int.mul_le_mul_of_nonneg_right q h, fun q => Int.mul_le_mul_of_nonneg_right q h⟩
  refine mul_ok ha hb (mul_ok hb ha (mul_ok hc hb ⟨by unfold I64; unfold inM at ha; omega, mul_ok hn hb ?_⟩))
  rw [m2]
  unfold inM at ha hb hc
  have hP : -1000000000 < a → a < 1000000000 → -1000000000 < b → b < 1000000000 → -1000000000000000000 ≤ a * b ∧ a * b ≤ 1000000000000000000 := fun h1 h2 h3 h4 => by
    have := mulM_abs a b
    have h5 : a.natAbs * b.natAbs ≤ 1000000000 * 1000000000 := Nat.mul_le_mul (by omega) (by omega)
    have h6 : (a * b).natAbs = a.natAbs * b.natAbs := Int.natAbs_mul a b
    omega
  generalize mulM a b = x at *
  generalize mulM c b = z at *
  generalize mulM (0 - a) b = m at *
  generalize a * b = p at *
  generalize c * b = q at *
  have hxin : isM x = true := isM_iff.2 (by unfold inM; omega)
  have f1 : m = 0 - x := by omega
  have f2 : 0 ≤ b → (a ≤ c → x ≤ z) ∧ (c ≤ a → z ≤ x) := fun h => by
    obtain ⟨o1, o2⟩ := mo h
    exact ⟨fun h => by have := o1 h; omega, fun h => by have := o2 h; omega⟩
  have f3 : -1000000000000 ≤ x ∧ x ≤ 1000000000000 := by omega
  have f4 : 0 < x → (0 < a ↔ 0 < b) := fun h => by
    have := hsg (by omega)
    omega
  have f5 : x = 1000000000000 ∨ x = -1000000000000 ∨ ((-1000 < p - 1000 * x ∧ p - 1000 * x < 1000) ∧ (p - 1000 * x ≠ 0 → (p - 1000 * x < 0 ↔ p < 0))) := by omega
  clear m1 m2 m3 m4 mo hsg e4
  subst f1
  unfold s_rIs s_alive
  rw [hxin]
  simp only [decide_eq_true_eq, decide_eq_false_iff_not, ne_eq, not_true_eq_false, not_false_eq_true, false_implies, true_implies, and_true, true_and, I64, Bool.not_eq_true', Bool.not_eq_false', beq_iff_eq, decide_eq_decide, Bool.not_true, Bool.not_false, Bool.true_eq_false, Bool.false_eq_true, beq_eq_false_iff_ne]
  repeat' (first | apply And.intro | intro)
  all_goals first | exact hK | omega | (exfalso; omega)

/-! ### FixedWithin -/
theorem within_ok {n a b : Int} (hn : inM n) (ha : inM a) (hb : inM b) (h : ¬ b < a) {K : Int → Int → Prop} (hK : K (witM n a b) 0) : s_Within n a b K := by unfold s_Within; rwa [if_pos ⟨hn, ha, hb⟩, if_neg h]
theorem whole_ok {n : Int} (hn : inM n) {K : Int → Int → Prop} (hK : K (n - n.tmod 1000) 0) : s_Whole n K := by unfold s_Whole; rwa [if_pos hn]
theorem witM_eq {n a b : Int} (h : ¬ b < a) : witM n a b = min (max n a) b := by
  unfold witM
  by_cases h1 : n < a
  · rw [if_pos h1, if_neg h]; omega
  · rw [if_neg h1]; split <;> omega
set_option maxHeartbeats 4000000 in
theorem law_within (n a b K) (hK : K true) : F_vitrinelaw06_FixedWithin s_rIs s_alive s_Within s_Whole n a b K := by
  refine ⟨fun hn => ⟨fun ha => ⟨fun hb => ⟨fun _ => hK, fun hlt => ?_⟩, fun _ => hK⟩, fun _ => hK⟩, fun _ => hK⟩
  have hn := inM_of hn
  have ha := inM_of ha
  have hb := inM_of hb
  have hlt := of_decide_eq_false hlt
  have hx : witM n a b = min (max n a) b := witM_eq hlt
  have hxin : inM (witM n a b) := by unfold inM at *; omega
  have hy : witM (witM n a b) a b = min (max (witM n a b) a) b := witM_eq hlt
  refine within_ok hn ha hb hlt (within_ok hxin ha hb hlt (whole_ok hn ?_))
  have ht2 : n.tdiv 1000 * 1000 = n - n.tmod 1000 := whole_eq n
  have ht3 : (n.tmod 1000).natAbs = n.natAbs % 1000 := Int.natAbs_tmod n 1000
  have ht4 : (0 ≤ n → 0 ≤ n.tmod 1000) ∧ (n ≤ 0 → n.tmod 1000 ≤ 0) := ⟨fun q => Int.tmod_nonneg _ q, fun q => by have := Int.tmod_nonneg (a := -n) 1000 (by omega); rw [Int.neg_tmod] at this; omega⟩
  have ht5 : (n - n.tmod 1000).tmod 1000 = 0 := by rw [← ht2]; exact Int.mul_tmod_left _ _
  unfold inM at *
  generalize witM (witM n a b) a b = y at *
  generalize witM n a b = x at *
  generalize hw : n - n.tmod 1000 = w at *
  simp only [ht5]
  generalize n.tmod 1000 = e at *
  generalize n.tdiv 1000 = d at *
  unfold s_alive
  simp only [decide_eq_true_eq, decide_eq_false_iff_not, ne_eq, not_true_eq_false, not_false_eq_true, false_implies, true_implies, and_true, true_and, I64, Bool.not_eq_true', Bool.not_eq_false', beq_iff_eq, decide_eq_decide, beq_eq_false_iff_ne]
  repeat' (first | apply And.intro | intro)
  all_goals first | exact hK | omega | (exfalso; omega)
end Go.Proofs.YthjnkibldhfhmaaDoor

