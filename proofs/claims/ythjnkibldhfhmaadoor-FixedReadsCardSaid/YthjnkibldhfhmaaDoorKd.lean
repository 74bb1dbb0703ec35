/-
  The functions of fixed. Nothing is claimed here. (The texts Kc, Kd, one behind the other.)
-/
import Derived.Test.YthjnkibldhfhmaaDoorKa
import Derived.Test.YthjnkibldhfhmaaDoorTf
import Derived.Laws.Bits64b
set_option linter.unusedVariables false
set_option linter.unusedSimpArgs false
namespace Go.Proofs.YthjnkibldhfhmaaDoor
open Go.Vm Go.Sx Go.RowKit

/-! ### What is known beforehand -/
def s_fmt : T_strconv_FormatInt := fun n b K => (b = 10 ∧ 0 ≤ n ∧ n < 9223372036854775808) ∧ K (Lib.decDigits n.toNat)
def s_fra : T_fixed_fraction := fun n K => (0 ≤ n ∧ n < 1000) ∧ K (frV n.toNat)
def s_mul64 : T_bits_Mul64 := fun x y K => (0 ≤ x ∧ x < 18446744073709551616 ∧ 0 ≤ y ∧ y < 18446744073709551616) ∧ K (x * y / 18446744073709551616) (x * y % 18446744073709551616)

/-! ### The quotient of two words by 1000 -/
def s_len : T_bits_Len64 := fun n K => n = 1000 ∧ K 10
theorem p_len (n K) (h : s_len n K) : F_bits_Len64 n K := by
  obtain ⟨rfl, h⟩ := h
  have e1 : (1000 : Int).fdiv (2 ^ (min 8 IntKind.u64.bits)) = 3 := by decide
  have e2 : IntKind.u8.wrap (3 : Int) = 3 := by decide
  refine ⟨fun q => absurd q (by decide), fun _ => ⟨fun q => absurd q (by decide), fun _ => ⟨fun _ => ⟨by decide, ?_⟩, fun q => absurd q (by decide)⟩⟩⟩
  rw [e1, e2]
  refine ⟨by unfold I64; decide, ⟨by decide, of_decide_eq_true (by kernel_rfl)⟩, by unfold I64; exact of_decide_eq_true (by kernel_rfl), by unfold I64; exact of_decide_eq_true (by kernel_rfl), ?_⟩
  refine (congrArg K (?_ : (10 : Int) = _)).mp h
  kernel_rfl
def s_lz : T_bits_LeadingZeros64 := fun n K => n = 1000 ∧ K 54
theorem p_lz (n K) (h : s_lz n K) : F_bits_LeadingZeros64 s_len n K := ⟨h.1, by unfold I64; decide, h.2⟩

theorem wrapI {n : Int} (h : 0 ≤ n ∧ n < 18446744073709551616) : IntKind.u64.wrap n = n := by rw [IntKind.wrap_u64]; omega
theorem fdivP {n : Int} (m : Int) (hm : 0 ≤ m) : n.fdiv m = n / m := Int.fdiv_eq_ediv_of_nonneg n hm
theorem or_hi (hi lo : Int) (h : 0 ≤ hi ∧ hi < 1000) (l : 0 ≤ lo ∧ lo < 18446744073709551616) :
    IntKind.u64.wrap ((BitVec.ofInt IntKind.u64.bits (hi * 18014398509481984) ||| BitVec.ofInt IntKind.u64.bits (lo / 1024)).toNat : Int) = hi * 18014398509481984 + lo / 1024 := by
  obtain ⟨a, rfl⟩ : ∃ a : Nat, hi = a := ⟨hi.toNat, by omega⟩
  obtain ⟨b, rfl⟩ : ∃ b : Nat, lo = b := ⟨lo.toNat, by omega⟩
  have e1 : (a : Int) * 18014398509481984 = ((2 ^ 54 * a : Nat) : Int) := by omega
  have e2 : (b : Int) / 1024 = ((b / 1024 : Nat) : Int) := by omega
  rw [e1, e2]
  have hb := bits_or_u64_nat (2 ^ 54 * a) (b / 1024) (by omega) (by omega)
  have e3 := Nat.two_pow_add_eq_or_of_lt (i := 54) (b := b / 1024) (by omega) a
  rw [← e3] at hb
  have hb' : IntKind.u64.wrap ((BitVec.ofInt IntKind.u64.bits ((2 ^ 54 * a : Nat) : Int) ||| BitVec.ofInt IntKind.u64.bits ((b / 1024 : Nat) : Int)).toNat : Int) = ((2 ^ 54 * a + b / 1024 : Nat) : Int) := hb
  rw [hb']
  omega
theorem and_lo (x : Int) (h : 0 ≤ x ∧ x < 18446744073709551616) : IntKind.u64.wrap ((BitVec.ofInt IntKind.u64.bits x &&& BitVec.ofInt IntKind.u64.bits (4294967295 : Int)).toNat : Int) = x % 4294967296 := by
  obtain ⟨a, rfl⟩ : ∃ a : Nat, x = a := ⟨x.toNat, by omega⟩
  have hb := bits_and_u64_nat a 4294967295 (by omega) (by omega)
  have e : a &&& 4294967295 = a % 4294967296 := Nat.and_two_pow_sub_one_eq_mod a 32
  rw [e] at hb
  have hb' : IntKind.u64.wrap ((BitVec.ofInt IntKind.u64.bits (a : Int) &&& BitVec.ofInt IntKind.u64.bits (4294967295 : Int)).toNat : Int) = ((a % 4294967296 : Nat) : Int) := hb
  rw [hb']
  omega
def s_div : T_bits_Div64 := fun x y d K => (d = 1000 ∧ 0 ≤ x ∧ x < 1000 ∧ 0 ≤ y ∧ y < 18446744073709551616) ∧ K ((x * 18446744073709551616 + y) / 1000) ((x * 18446744073709551616 + y) % 1000)
theorem p_div (hi lo d K) (h : s_div hi lo d K) : F_bits_Div64 s_lz hi lo d K := by
  obtain ⟨⟨rfl, h0, h1, l0, l1⟩, hK⟩ := h
  have m54 : min (IntKind.u64.wrap (54 : Int)).toNat IntKind.u64.bits = 54 := by decide
  have m32 : min 32 IntKind.u64.bits = 32 := by decide
  have m10 : min (IntKind.u64.wrap ((64 : Int) - IntKind.u64.wrap (54 : Int))).toNat IntKind.u64.bits = 10 := by decide
  have w54 : IntKind.u64.wrap (54 : Int) = 54 := by decide
  have p54 : (2 : Int) ^ 54 = 18014398509481984 := by decide
  have p32 : (2 : Int) ^ 32 = 4294967296 := by decide
  have p10 : (2 : Int) ^ 10 = 1024 := by decide
  refine ⟨fun q => absurd q (by decide), fun _ => ⟨fun q => by have := of_decide_eq_true q; omega, fun _ => ⟨fun q => ?_, fun q => ⟨rfl, ?_⟩⟩⟩⟩
  · have q := of_decide_eq_true q
    subst q
    refine ⟨by decide, by decide, ?_⟩
    rw [Int.tdiv_eq_ediv_of_nonneg l0, Int.tmod_eq_emod_of_nonneg l0, wrapI (by omega)]
    rw [Int.zero_mul, Int.zero_add] at hK
    exact hK
  · have q := of_decide_eq_false q
    refine ⟨by rw [w54]; decide, by decide, by rw [w54]; decide, by rw [w54]; decide, by rw [w54]; decide, by decide, ?_⟩
    have y1 : IntKind.u64.wrap ((1000 : Int) * 2 ^ 54) = 18014398509481984000 := by decide
    have y2 : Int.fdiv 18014398509481984000 (2 ^ 32) = 4194304000 := by decide
    simp only [m54, m32, m10, y1, y2]
    rw [w54]
    refine ⟨by decide, ?_⟩
    have a1 : IntKind.u64.wrap (hi * 2 ^ 54) = hi * 18014398509481984 := by rw [p54]; exact wrapI (by omega)
    have a2 : lo.fdiv (2 ^ 10) = lo / 1024 := by rw [p10]; exact fdivP _ (by decide)
    have a3 : IntKind.u64.wrap (lo * 2 ^ 54) = (lo % 1024) * 18014398509481984 := by rw [p54, IntKind.wrap_u64]; omega
    rw [a1, a2, a3, or_hi hi lo ⟨h0, h1⟩ ⟨l0, l1⟩, and_lo _ (by omega), and_lo _ (by omega), p32, fdivP _ (by decide)]
    have b1 : (18014398509481984000 : Int) % 4294967296 = 0 := by decide
    have b2 : lo % 1024 * 18014398509481984 / 4294967296 = lo % 1024 * 4194304 := by omega
    have b3 : lo % 1024 * 18014398509481984 % 4294967296 = 0 := by omega
    rw [b1, b2, b3]
    have hu0 : 0 ≤ hi * 18014398509481984 + lo / 1024 := by omega
    generalize hu : hi * 18014398509481984 + lo / 1024 = u at *
    have c1 : u.tdiv 4194304000 = u / 4194304000 := Int.tdiv_eq_ediv_of_nonneg hu0
    rw [c1]
    have c2 : IntKind.u64.wrap (u / 4194304000) = u / 4194304000 := wrapI (by omega)
    rw [c2]
    have c3 : IntKind.u64.wrap (u / 4194304000 * 4194304000) = u / 4194304000 * 4194304000 := wrapI (by omega)
    rw [c3]
    have c4 : IntKind.u64.wrap (u - u / 4194304000 * 4194304000) = u % 4194304000 := by rw [wrapI (by omega)]; omega
    rw [c4]
    refine ⟨1, ?_⟩
    simp only [F_bits_Div64_l17]
    have nz : ∀ x y : Int, decide (IntKind.u64.wrap y < IntKind.u64.wrap (x * 0)) = false := fun x y => by
      rw [decide_eq_false_iff_not, Int.mul_zero, IntKind.wrap_u64, IntKind.wrap_u64]
      omega
    refine ⟨fun _ => ⟨fun z => (by rw [nz] at z; cases z), fun _ => ⟨by decide, ?_⟩⟩, fun z => by have := of_decide_eq_true z; omega⟩
    have d1 : IntKind.u64.wrap (IntKind.u64.wrap (IntKind.u64.wrap (u * 4294967296) + lo % 1024 * 4194304) - IntKind.u64.wrap (u / 4194304000 * 18014398509481984000)) = u % 4194304000 * 4294967296 + lo % 1024 * 4194304 := by
      simp only [IntKind.wrap_u64]; omega
    rw [d1]
    have hv0 : 0 ≤ u % 4194304000 * 4294967296 + lo % 1024 * 4194304 := by omega
    generalize hv : u % 4194304000 * 4294967296 + lo % 1024 * 4194304 = v at *
    have c5 : v.tdiv 4194304000 = v / 4194304000 := Int.tdiv_eq_ediv_of_nonneg hv0
    rw [c5]
    have c6 : IntKind.u64.wrap (v / 4194304000) = v / 4194304000 := wrapI (by omega)
    rw [c6]
    refine ⟨1, ?_⟩
    simp only [F_bits_Div64_l24]
    refine ⟨fun _ => ⟨fun z => (by rw [nz] at z; cases z), fun _ => ⟨by decide, ?_⟩⟩, fun z => by have := of_decide_eq_true z; omega⟩
    have g54 : min (54 : Int).toNat IntKind.u64.bits = 54 := by decide
    rw [g54]
    have f1 : IntKind.u64.wrap (IntKind.u64.wrap (u / 4194304000 * 4294967296) + v / 4194304000) = (hi * 18446744073709551616 + lo) / 1000 := by
      simp only [IntKind.wrap_u64]; omega
    have f2 : Int.fdiv (IntKind.u64.wrap (IntKind.u64.wrap (IntKind.u64.wrap (v * 4294967296) + 0) - IntKind.u64.wrap (v / 4194304000 * 18014398509481984000))) (2 ^ 54) = (hi * 18446744073709551616 + lo) % 1000 := by
      rw [p54, fdivP _ (by decide)]
      simp only [IntKind.wrap_u64]; omega
    rw [f1, f2]
    exact hK
end Go.Proofs.YthjnkibldhfhmaaDoor

set_option linter.unusedVariables false
set_option linter.unusedSimpArgs false
namespace Go.Proofs.YthjnkibldhfhmaaDoor
open Go.Vm Go.Sx Go.RowKit

/-- A number of thousandths. -/
abbrev inM (n : Int) : Prop := -1000000000000 ≤ n ∧ n ≤ 1000000000000
def s_size : T_fixed_size := fun n K => inM n ∧ K (n.natAbs : Int)
theorem p_size (n K) (h : s_size n K) : F_fixed_size n K := by
  obtain ⟨⟨h0, h1⟩, hK⟩ := h
  refine ⟨fun q => ⟨by unfold I64; omega, ?_⟩, fun q => ?_⟩
  · have q := of_decide_eq_true q
    rw [wrapI (by omega)]
    rwa [show 0 - n = (n.natAbs : Int) from by omega]
  · have q := of_decide_eq_false q
    rw [wrapI (by omega)]
    rwa [show n = (n.natAbs : Int) from by omega]
/-- A product of sizes, in thousandths, held. -/
def hpM (x y : Int) : Int := if 1000000000000 < x * y / 1000 then 1000000000000 else x * y / 1000
def s_hp : T_fixed_heldProduct := fun x y K => (0 ≤ x ∧ x ≤ 1000000000000 ∧ 0 ≤ y ∧ y ≤ 1000000000000) ∧ K (hpM x y)
theorem hpM_in {x y : Int} (h0 : 0 ≤ x) (h1 : 0 ≤ y) : 0 ≤ hpM x y ∧ hpM x y ≤ 1000000000000 := by
  have := Int.mul_nonneg h0 h1
  unfold hpM
  split <;> omega
theorem p_hp (x y K) (h : s_hp x y K) : F_fixed_heldProduct s_mul64 s_div x y K := by
  obtain ⟨⟨h0, h1, h2, h3⟩, hK⟩ := h
  refine ⟨⟨h0, by omega, h2, by omega⟩, ?_⟩
  have hp := Int.mul_nonneg h0 h2
  unfold hpM at hK
  generalize x * y = p at hp hK ⊢
  refine ⟨fun q => ?_, fun q => ?_⟩
  · have q := of_decide_eq_true q
    rwa [if_pos (by omega)] at hK
  · have q := of_decide_eq_false q
    refine ⟨⟨rfl, by omega, by omega, by omega, by omega⟩, ?_⟩
    rw [show p / 18446744073709551616 * 18446744073709551616 + p % 18446744073709551616 = p from by omega]
    refine ⟨?_, hK⟩
    unfold I64
    split <;> omega

/-! ### Are all numbers? -/
def isM (n : Int) : Bool := decide (-1000000000000 ≤ n) && decide (n ≤ 1000000000000)
theorem isM_iff {n : Int} : isM n = true ↔ inM n := by unfold isM inM; simp
def chkM (l : List Int) : Int := if l.all isM then 0 else 8
def s_chk : T_fixed_checkAll := fun l K => l.length ≤ 1000000 ∧ K (chkM l)
theorem getD_at {l w : List Int} {i : Nat} {x : Int} (h : l.drop i = x :: w) (d : Int) : l.getD i d = x := by
  have := congrArg (·[0]?) h
  simp only [List.getElem?_drop, List.getElem?_cons_zero, Nat.add_zero] at this
  rw [List.getD_eq_getElem?_getD, this]
  rfl
theorem drop_more {α : Type} {l w : List α} {i : Nat} {x : α} (h : l.drop i = x :: w) : l.drop (i + 1) = w ∧ i < l.length := by
  constructor
  · rw [← List.drop_drop, h]; rfl
  · rcases Nat.lt_or_ge i l.length with q | q
    · exact q
    · rw [List.drop_eq_nil_of_le q] at h; cases h
theorem p_chkL (l : List Int) (hl : l.length ≤ 1000000) (Ke : Unit → Prop) (Kr : Int → Prop) : ∀ (w : List Int) (i : Int), l.drop i.toNat = w → 0 ≤ i → i ≤ l.length → (w.all isM = true → Ke ()) → (w.all isM = false → Kr 8) → ∃ m, F_fixed_checkAll_l2 m l (l.length : Int) i Ke Kr
  | [], i, hw, h0, hi, he, hr => by
    have hle : l.length ≤ i.toNat := List.drop_eq_nil_iff.1 hw
    refine ⟨1, ?_⟩
    simp only [F_fixed_checkAll_l2]
    exact ⟨fun q => by have := of_decide_eq_true q; omega, fun _ => he rfl⟩
  | x :: w, i, hw, h0, hi, he, hr => by
    obtain ⟨h1, h2⟩ := drop_more hw
    have ex : l.getD i.toNat (dfltD Cd.i64) = x := getD_at hw _
    have e1 : (i + 1).toNat = i.toNat + 1 := by omega
    rw [List.all_cons] at he hr
    by_cases hx : inM x
    · have hx2 := isM_iff.2 hx
      rw [hx2, Bool.true_and] at he hr
      obtain ⟨m, hm⟩ := p_chkL l hl Ke Kr w (i + 1) (by rw [e1]; exact h1) (by omega) (by omega) he hr
      refine ⟨m + 1, ?_⟩
      simp only [F_fixed_checkAll_l2, ex, id]
      exact ⟨fun _ => ⟨by omega, fun _ => ⟨fun q => by have := of_decide_eq_true q; unfold inM at hx; omega, fun _ => ⟨by unfold I64; omega, hm⟩⟩, fun q => by have := of_decide_eq_true q; unfold inM at hx; omega⟩, fun q => by have := of_decide_eq_false q; omega⟩
    · have hx2 : isM x = false := by
        cases hc : isM x with
        | false => rfl
        | true => exact absurd (isM_iff.1 hc) hx
      rw [hx2, Bool.false_and] at he hr
      have hr := hr rfl
      refine ⟨1, ?_⟩
      simp only [F_fixed_checkAll_l2, ex, id]
      exact ⟨fun _ => ⟨by omega, fun q => ⟨fun _ => hr, fun q2 => by have := of_decide_eq_false q; have := of_decide_eq_false q2; unfold inM at hx; omega⟩, fun _ => hr⟩, fun q => by have := of_decide_eq_false q; omega⟩
theorem p_chk (l K) (h : s_chk l K) : F_fixed_checkAll l K := by
  obtain ⟨hl, hK⟩ := h
  refine p_chkL l hl _ _ l 0 rfl (by omega) (by omega) (fun q => ?_) (fun q => ?_)
  · unfold chkM at hK; rwa [if_pos q] at hK
  · unfold chkM at hK; rwa [if_neg (by rw [q]; decide)] at hK
theorem chk1 {a : Int} : chkM [a] = if inM a then 0 else 8 := by
  unfold chkM
  by_cases h : inM a
  · rw [if_pos h, if_pos (by simp [isM_iff.2 h])]
  · rw [if_neg h, if_neg (by simp; cases hc : isM a with | false => rfl | true => exact absurd (isM_iff.1 hc) h)]
theorem chkM_two (l : List Int) : chkM l = 0 ∨ chkM l = 8 := by unfold chkM; split <;> simp
theorem chkM_zero {l : List Int} : chkM l = 0 ↔ ∀ n ∈ l, inM n := by
  unfold chkM
  cases h : l.all isM with
  | true => simp only [if_true, true_iff]; intro n hn; exact isM_iff.1 (List.all_eq_true.1 h n hn)
  | false =>
    simp only [Bool.false_eq_true, if_false]
    constructor
    · intro q; omega
    · intro q
      have : l.all isM = true := List.all_eq_true.2 fun n hn => isM_iff.2 (q n hn)
      rw [h] at this; cases this

/-! ### Check, Write, Whole, Within -/
def s_Check : T_fixed_Check := fun n K => K (chkM [n])
theorem p_Check (n K) (h : s_Check n K) : F_fixed_Check s_chk n K := ⟨by simp, h⟩
def s_Read : T_fixed_Read := fun s K => s_val s (fun a _ c => K a c)
theorem p_Read (s K) (h : s_Read s K) : F_fixed_Read s_val s K := h

/-- A number's text: that of glue, with a point for a fraction alone. -/
def numW (n : Int) : List UInt8 := numT n (decide (n.tmod 1000 = 0))
theorem frV_all : (List.range 1000).all (fun r => frV r == if r = 0 then [] else 46 :: fr3 3 r) = true := by decide +kernel
theorem frV_eq {r : Nat} (h : r < 1000) : frV r = if r = 0 then [] else 46 :: fr3 3 r := eq_of_beq (List.all_eq_true.1 frV_all r (List.mem_range.2 h))
theorem numW_eq (n : Int) : numW n = (if n < 0 then [45] else []) ++ (Lib.decDigits (n.natAbs / 1000) ++ frV (n.natAbs % 1000)) := by
  unfold numW numT
  rw [frV_eq (Nat.mod_lt _ (by decide))]
  have e : n.tmod 1000 = 0 ↔ n.natAbs % 1000 = 0 := by
    have := Int.natAbs_tmod n 1000
    constructor
    · intro q; rw [q] at this; exact this.symm
    · intro q; rw [show (1000 : Int).natAbs = 1000 from rfl, q] at this; omega
  by_cases h : n.natAbs % 1000 = 0
  · rw [if_pos h, decide_eq_true (e.2 h)]; rfl
  · rw [if_neg h, decide_eq_false (fun q => h (e.1 q))]; rfl
theorem numW_len {n : Int} (h : inM n) : (numW n).length ≤ 15 := numT_len h _
def s_Write : T_fixed_Write := fun n K => if inM n then K (numW n) 0 else K [] 8
theorem p_Write (n K) (h : s_Write n K) : F_fixed_Write s_chk s_fmt s_fra n K := by
  unfold s_Write at h
  refine ⟨by simp, ?_⟩
  rw [chk1]
  by_cases hn : inM n
  · rw [if_pos hn] at h ⊢
    have hl := numW_len hn
    rw [numW_eq] at h hl
    simp only [List.length_append] at hl
    obtain ⟨h0, h1⟩ := hn
    refine ⟨fun q => absurd q (by decide), fun _ => ⟨fun q => ?_, fun q => ?_⟩⟩
    · have q := of_decide_eq_true q
      have hx : 0 - n = (n.natAbs : Int) := by omega
      have ed := td hx 1000
      have em := tm hx 1000
      have ed' : (0 - n).tdiv 1000 = ((n.natAbs / 1000 : Nat) : Int) := ed
      have em' : (0 - n).tmod 1000 = ((n.natAbs % 1000 : Nat) : Int) := em
      rw [ed', em']
      rw [if_pos q] at h hl
      refine ⟨by unfold I64; omega, by decide, by unfold I64; omega, ⟨rfl, by omega, by omega⟩, ?_⟩
      rw [Int.toNat_natCast]
      refine ⟨by simp only [List.length_cons, List.length_nil] at hl ⊢; omega, by decide, ⟨by omega, by omega⟩, ?_⟩
      rw [Int.toNat_natCast]
      refine ⟨by simp only [List.length_append, List.length_cons, List.length_nil] at hl ⊢; omega, ?_⟩
      rwa [List.append_assoc]
    · have q := of_decide_eq_false q
      have hx : n = (n.natAbs : Int) := by omega
      have ed := td hx 1000
      have em := tm hx 1000
      have ed' : n.tdiv 1000 = ((n.natAbs / 1000 : Nat) : Int) := ed
      have em' : n.tmod 1000 = ((n.natAbs % 1000 : Nat) : Int) := em
      rw [ed', em']
      rw [if_neg q] at h hl
      refine ⟨by decide, by unfold I64; omega, ⟨rfl, by omega, by omega⟩, ?_⟩
      rw [Int.toNat_natCast]
      refine ⟨by simp only [List.length_nil] at hl ⊢; omega, by decide, ⟨by omega, by omega⟩, ?_⟩
      rw [Int.toNat_natCast]
      refine ⟨by simp only [List.length_append, List.length_nil] at hl ⊢; omega, ?_⟩
      rwa [List.append_assoc]
  · rw [if_neg hn] at h ⊢
    exact ⟨fun _ => h, fun q => absurd q (by decide)⟩

def s_Whole : T_fixed_Whole := fun n K => if inM n then K (n - n.tmod 1000) 0 else K 0 8
theorem tmod_in (n : Int) : -1000 < n.tmod 1000 ∧ n.tmod 1000 < 1000 := by
  have : (n.tmod 1000).natAbs = n.natAbs % 1000 := Int.natAbs_tmod n 1000
  omega
theorem p_Whole (n K) (h : s_Whole n K) : F_fixed_Whole s_chk n K := by
  unfold s_Whole at h
  refine ⟨by simp, ?_⟩
  rw [chk1]
  by_cases hn : inM n
  · rw [if_pos hn] at h ⊢
    have := tmod_in n
    exact ⟨fun q => absurd q (by decide), fun _ => ⟨by decide, by unfold I64; omega, h⟩⟩
  · rw [if_neg hn] at h ⊢
    exact ⟨fun _ => h, fun q => absurd q (by decide)⟩
def witM (n a b : Int) : Int := if b < (if n < a then a else n) then b else (if n < a then a else n)
def s_Within : T_fixed_Within := fun n a b K => if inM n ∧ inM a ∧ inM b then (if b < a then K 0 2 else K (witM n a b) 0) else K 0 8
theorem p_Within (n a b K) (h : s_Within n a b K) : F_fixed_Within s_chk n a b K := by
  unfold s_Within at h
  refine ⟨by simp, ?_⟩
  by_cases hn : inM n ∧ inM a ∧ inM b
  · rw [if_pos hn] at h
    rw [chkM_zero.2 (by simp only [List.mem_cons, List.not_mem_nil, or_false]; rintro x (rfl | rfl | rfl); exact hn.1; exact hn.2.1; exact hn.2.2)]
    refine ⟨fun q => absurd q (by decide), fun _ => ⟨fun q => ?_, fun q => ?_⟩⟩
    · rwa [if_pos (of_decide_eq_true q)] at h
    · rwa [if_neg (of_decide_eq_false q)] at h
  · rw [if_neg hn] at h
    have e : chkM [n, a, b] = 8 := by
      rcases chkM_two [n, a, b] with q | q
      · have := chkM_zero.1 q
        exact absurd ⟨this n (by simp), this a (by simp), this b (by simp)⟩ hn
      · exact q
    rw [e]
    exact ⟨fun _ => h, fun q => absurd q (by decide)⟩

/-! ### Sums and products -/
def holdM (n : Int) : Int := if 1000000000000 < (if n < -1000000000000 then -1000000000000 else n) then 1000000000000 else (if n < -1000000000000 then -1000000000000 else n)
theorem holdM_in (n : Int) : inM (holdM n) := by unfold holdM inM; split <;> split <;> omega
theorem holdM_id {n : Int} (h : inM n) : holdM n = n := by unfold inM at h; unfold holdM; split <;> split <;> omega
def sumM (l : List Int) (a : Int) : Int := l.foldl (fun s n => holdM (s + n)) a
theorem p_sumL (l : List Int) (hl : l.length ≤ 1000000) (hin : ∀ n ∈ l, inM n) (Ke : Int → Prop) : ∀ (w : List Int) (i a : Int), l.drop i.toNat = w → 0 ≤ i → i ≤ l.length → inM a → Ke (sumM w a) → ∃ m, F_fixed_Sum_l6 s_chk m a l (l.length : Int) i Ke
  | [], i, a, hw, h0, hi, ha, h => by
    have hle : l.length ≤ i.toNat := List.drop_eq_nil_iff.1 hw
    refine ⟨1, ?_⟩
    simp only [F_fixed_Sum_l6]
    exact ⟨fun q => by have := of_decide_eq_true q; omega, fun _ => h⟩
  | x :: w, i, a, hw, h0, hi, ha, h => by
    obtain ⟨h1, h2⟩ := drop_more hw
    have ex : l.getD i.toNat (dfltD Cd.i64) = x := getD_at hw _
    have e1 : (i + 1).toNat = i.toNat + 1 := by omega
    have hx : inM x := hin x (List.mem_of_mem_drop (by rw [hw]; exact List.mem_cons_self ..))
    obtain ⟨m, hm⟩ := p_sumL l hl hin Ke w (i + 1) (holdM (a + x)) (by rw [e1]; exact h1) (by omega) (by omega) (holdM_in _) h
    refine ⟨m + 1, ?_⟩
    simp only [F_fixed_Sum_l6, ex, id]
    unfold inM at ha hx
    exact ⟨fun _ => ⟨by omega, by unfold I64; omega, by unfold I64; omega, hm⟩, fun q => by have := of_decide_eq_false q; omega⟩
def s_Sum : T_fixed_Sum := fun l K => l.length ≤ 1000000 ∧ (chkM l = 0 → K (sumM l 0) 0) ∧ (chkM l ≠ 0 → K 0 8)
theorem p_Sum (l K) (h : s_Sum l K) : F_fixed_Sum s_chk l K := by
  obtain ⟨hl, h1, h2⟩ := h
  refine ⟨hl, fun q => ?_, fun q => ?_⟩
  · have q := of_decide_eq_true q
    have e : chkM l = 8 := (chkM_two l).resolve_left q
    rw [e]
    exact h2 q
  · have q : chkM l = 0 := by have := of_decide_eq_false q; omega
    exact p_sumL l hl (chkM_zero.1 q) _ l 0 0 rfl (by omega) (by omega) (by unfold inM; omega) (h1 q)

/-- The product of two numbers. -/
def mulM (a b : Int) : Int := if !((decide (a < 0)) == (decide (b < 0))) then 0 - hpM a.natAbs b.natAbs else hpM a.natAbs b.natAbs
def s_Mul : T_fixed_Mul := fun a b K => if inM a ∧ inM b then K (mulM a b) 0 else K 0 8
theorem p_Mul (a b K) (h : s_Mul a b K) : F_fixed_Mul s_chk s_size s_hp a b K := by
  unfold s_Mul at h
  refine ⟨by simp, ?_⟩
  by_cases hn : inM a ∧ inM b
  · rw [if_pos hn] at h
    rw [chkM_zero.2 (by simp only [List.mem_cons, List.not_mem_nil, or_false]; rintro x (rfl | rfl); exact hn.1; exact hn.2)]
    obtain ⟨⟨a0, a1⟩, b0, b1⟩ := hn
    refine ⟨fun q => absurd q (by decide), fun _ => ⟨⟨a0, a1⟩, ⟨b0, b1⟩, ⟨by omega, by omega, by omega, by omega⟩, ?_⟩⟩
    have hin := hpM_in (x := (a.natAbs : Int)) (y := (b.natAbs : Int)) (by omega) (by omega)
    unfold mulM at h
    refine ⟨fun q => ⟨by unfold I64; omega, ?_⟩, fun q => ?_⟩
    · rwa [if_pos q] at h
    · rwa [if_neg (by rw [q]; decide)] at h
  · rw [if_neg hn] at h
    have e : chkM [a, b] = 8 := by
      rcases chkM_two [a, b] with q | q
      · have := chkM_zero.1 q
        exact absurd ⟨this a (by simp), this b (by simp)⟩ hn
      · exact q
    rw [e]
    exact ⟨fun _ => h, fun q => absurd q (by decide)⟩
end Go.Proofs.YthjnkibldhfhmaaDoor

