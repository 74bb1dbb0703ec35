/-
  Weights: what the functions that compare and add them come to. Nothing is claimed here.
-/
import Derived.Test.YtfpobnafniefpaaTg
set_option linter.unusedVariables false
set_option linter.unusedSimpArgs false
namespace Go.Proofs.Ytfpobnafniefpaa
open Go.Vm Go.Sx Go.RowKit

abbrev Wt := Int × Int × Int
def cmI (a b : Int) : Int := if a < b then -1 else if b < a then 1 else 0
def cmW (a b : Wt) : Int := if cmI a.1 b.1 ≠ 0 then cmI a.1 b.1 else if cmI a.2.1 b.2.1 ≠ 0 then cmI a.2.1 b.2.1 else cmI a.2.2 b.2.2
def vlI (a : Int) : Bool := decide (0 ≤ a) && decide (a ≤ 4000)
def vlW (a : Wt) : Bool := vlI a.1 && (vlI a.2.1 && vlI a.2.2)
def adW (a b : Wt) : Wt := (a.1 + b.1, a.2.1 + b.2.1, a.2.2 + b.2.2)

theorem I64s {n : Int} (h1 : -10 ≤ n) (h2 : n ≤ 10) : I64 n := ⟨by omega, by omega⟩

def s_nan : T_cmp_isNaN := fun _ K => K false
theorem p_nan (a K) (h : s_nan a K) : F_cmp_isNaN a K := by
  show K (decide (a ≠ a))
  simpa [s_nan] using h
def s_cmp : T_cmp_Compare := fun a b K => K (cmI a b)
theorem p_cmp (a b K) (h : s_cmp a b K) : F_cmp_Compare s_nan a b K := by
  unfold s_cmp cmI at h
  refine ⟨fun q => (by cases q), fun _ => ⟨fun q => (by cases q), fun _ => ⟨fun q => ?_, fun q => ⟨fun r => ?_, fun r => ?_⟩⟩⟩⟩
  · rw [if_pos (of_decide_eq_true q)] at h; exact h
  · rw [if_neg (of_decide_eq_false q), if_pos (of_decide_eq_true r)] at h; exact h
  · rw [if_neg (of_decide_eq_false q), if_neg (of_decide_eq_false r)] at h; exact h

def s_slC : T_sl_Compare := fun l m K => ∃ a b : Wt, l = [a.1, a.2.1, a.2.2] ∧ m = [b.1, b.2.1, b.2.2] ∧ K (cmW a b)
theorem p_slC (l m K) (h : s_slC l m K) : F_sl_Compare s_cmp l m K := by
  obtain ⟨a, b, rfl, rfl, h⟩ := h
  unfold cmW at h
  have one : ∀ (n : Nat) (i : Nat) (Ke : List Int → List Int → Prop) (Kr : Int → Prop) (x y : Int), i < 3 → [a.1, a.2.1, a.2.2].getD i (dfltD Cd.i64) = x → [b.1, b.2.1, b.2.2].getD i (dfltD Cd.i64) = y → (cmI x y ≠ 0 → Kr (cmI x y)) → (cmI x y = 0 → F_sl_Compare_l2 s_cmp n [a.1, a.2.1, a.2.2] [b.1, b.2.1, b.2.2] [a.1, a.2.1, a.2.2] (3 : Int) ((i : Int) + 1) Ke Kr) →
      F_sl_Compare_l2 s_cmp (n + 1) [a.1, a.2.1, a.2.2] [b.1, b.2.1, b.2.2] [a.1, a.2.1, a.2.2] (3 : Int) (i : Int) Ke Kr := by
    intro n i Ke Kr x y hi hx hy h1 h2
    refine ⟨fun _ => ⟨⟨by omega, by show (i : Int) < 3; omega⟩, fun q => ?_, fun q => ⟨⟨by omega, by show (i : Int) < 3; omega⟩, ?_⟩⟩, fun q => ?_⟩
    · have := of_decide_eq_true q
      have : (3 : Int) ≤ i := this
      omega
    · show (_ ∧ _)
      rw [Int.toNat_natCast, hx, hy]
      refine ⟨fun q => h1 (by simpa using of_decide_eq_true q), fun q => ⟨I64s (by omega) (by omega), h2 (by simpa using of_decide_eq_false q)⟩⟩
    · have := of_decide_eq_false q
      omega
  refine ⟨4, ?_⟩
  refine one 3 0 _ _ a.1 b.1 (by omega) rfl rfl (fun q => ?_) (fun q => ?_)
  · rw [if_pos q] at h; exact h
  rw [if_neg (by simpa using q)] at h
  refine one 2 1 _ _ a.2.1 b.2.1 (by omega) rfl rfl (fun q => ?_) (fun q => ?_)
  · rw [if_pos q] at h; exact h
  rw [if_neg (by simpa using q)] at h
  refine one 1 2 _ _ a.2.2 b.2.2 (by omega) rfl rfl (fun q => h) (fun q => ?_)
  rw [q] at h
  exact ⟨fun z => absurd (of_decide_eq_true z) (by decide), fun _ => ⟨fun z => absurd (of_decide_eq_true z) (by simp), fun _ => h⟩⟩

def s_cw : T_w_cmp := fun a b K => K (cmW a b)
theorem p_cw (a b K) (h : s_cw a b K) : F_w_cmp s_slC a b K := ⟨a, b, rfl, rfl, h⟩

def s_vl : T_w_isValid := fun a K => K (vlW a)
theorem p_vl (a K) (h : s_vl a K) : F_w_isValid a K := by
  obtain ⟨x, y, z⟩ := a
  unfold s_vl vlW vlI at h
  refine ⟨4, ?_⟩
  simp only [F_w_isValid_l2]
  simp [I64]
  simp at h
  have key : ∀ b : Bool, (decide (0 ≤ x) && decide (x ≤ 4000) && (decide (0 ≤ y) && decide (y ≤ 4000) && (decide (0 ≤ z) && decide (z ≤ 4000)))) = b → K b := by
    intro b hb; rw [← hb]; exact h
  have fls : (x < 0 ∨ 4000 < x ∨ y < 0 ∨ 4000 < y ∨ z < 0 ∨ 4000 < z) → K false := fun q => key false (by
    rw [Bool.eq_false_iff]; intro w; simp at w; omega)
  have tru : (0 ≤ x ∧ x ≤ 4000 ∧ 0 ≤ y ∧ y ≤ 4000 ∧ 0 ≤ z ∧ z ≤ 4000) → K true := fun q => key true (by simp; omega)
  (repeat' (first | apply And.intro | intro)) <;> first
    | exact fls (by omega)
    | exact tru (by omega)

def s_ad : T_w_sum := fun a b K => (vlW a = true ∧ vlW b = true) ∧ K (adW a b)
theorem vlW_iff (a : Wt) : vlW a = true ↔ 0 ≤ a.1 ∧ a.1 ≤ 4000 ∧ 0 ≤ a.2.1 ∧ a.2.1 ≤ 4000 ∧ 0 ≤ a.2.2 ∧ a.2.2 ≤ 4000 := by
  unfold vlW vlI; simp; omega
theorem p_ad (a b K) (h : s_ad a b K) : F_w_sum a b K := by
  obtain ⟨x, y, z⟩ := a
  obtain ⟨u, v, w⟩ := b
  obtain ⟨⟨h1, h2⟩, h⟩ := h
  rw [vlW_iff] at h1 h2
  dsimp only at h1 h2
  have a1 : I64 (x + u) := ⟨by omega, by omega⟩
  have a2 : I64 (y + v) := ⟨by omega, by omega⟩
  have a3 : I64 (z + w) := ⟨by omega, by omega⟩
  refine ⟨4, ?_⟩
  refine ⟨fun _ => ⟨⟨by decide, by decide⟩, ⟨fun _ => ⟨⟨by decide, by decide⟩, ⟨by decide, by decide⟩, ⟨fun _ => ⟨⟨by decide, by decide⟩, a1, ⟨by decide, by decide⟩, ⟨fun _ => ⟨⟨by decide, by decide⟩, I64s (by decide) (by decide), ?_⟩, fun q => absurd q (by decide), fun q => absurd q (by decide), trivial⟩⟩, fun q => absurd q (by decide), fun q => absurd q (by decide), trivial⟩⟩, fun q => absurd q (by decide), fun q => absurd q (by decide), trivial⟩⟩, fun q => absurd (of_decide_eq_false q) (by decide)⟩
  refine ⟨fun _ => ⟨⟨by decide, by decide⟩, ⟨fun q => absurd q (by decide), fun _ => ⟨⟨by decide, by decide⟩, ⟨by decide, by decide⟩, ⟨fun q => absurd q (by decide), fun _ => ⟨⟨by decide, by decide⟩, a2, ⟨by decide, by decide⟩, ⟨fun q => absurd q (by decide), fun _ => ⟨⟨by decide, by decide⟩, I64s (by decide) (by decide), ?_⟩, fun q => absurd q (by decide), trivial⟩⟩, fun q => absurd q (by decide), trivial⟩⟩, fun q => absurd q (by decide), trivial⟩⟩, fun q => absurd (of_decide_eq_false q) (by decide)⟩
  refine ⟨fun _ => ⟨⟨by decide, by decide⟩, ⟨fun q => absurd q (by decide), fun q => absurd q (by decide), fun _ => ⟨⟨by decide, by decide⟩, ⟨by decide, by decide⟩, ⟨fun q => absurd q (by decide), fun q => absurd q (by decide), fun _ => ⟨⟨by decide, by decide⟩, a3, ⟨by decide, by decide⟩, ⟨fun q => absurd q (by decide), fun q => absurd q (by decide), fun _ => ⟨⟨by decide, by decide⟩, I64s (by decide) (by decide), ?_⟩, trivial⟩⟩, trivial⟩⟩, trivial⟩⟩, fun q => absurd (of_decide_eq_false q) (by decide)⟩
  exact ⟨fun q => absurd (of_decide_eq_true q) (by decide), fun _ => h⟩

def s_Cmp : T_w_Compare := fun a b K => if vlW a = true ∧ vlW b = true then K (cmW a b) 0 else K 0 8
theorem not_f {b : Bool} (q : (!b) = false) : b = true := by cases b <;> simp_all
theorem not_t {b : Bool} (q : (!b) = true) : b = false := by cases b <;> simp_all
theorem p_Cmp (a b K) (h : s_Cmp a b K) : F_w_Compare s_vl s_cw a b K := by
  unfold s_Cmp at h
  show (_ ∧ _)
  refine ⟨fun q => ?_, fun q => ?_⟩
  · show (_ ∧ _)
    refine ⟨fun r => ?_, fun r => ?_⟩
    · rw [if_neg (by rw [show vlW b = false from not_t r]; simp)] at h; exact h
    · rw [if_pos ⟨not_f q, not_f r⟩] at h; exact h
  · rw [if_neg (by rw [show vlW a = false from not_t q]; simp)] at h; exact h
def s_Sum : T_w_Sum := fun a b K => if vlW a = true ∧ vlW b = true ∧ vlW (adW a b) = true then K (adW a b) 0 else K (0, 0, 0) 8
theorem p_Sum (a b K) (h : s_Sum a b K) : F_w_Sum s_vl s_ad a b K := by
  unfold s_Sum at h
  show (_ ∧ _)
  refine ⟨fun q => ?_, fun q => ?_⟩
  · show (_ ∧ _)
    refine ⟨fun r => ?_, fun r => ?_⟩
    · rw [if_neg (by rw [show vlW b = false from not_t r]; simp)] at h; exact h
    · refine ⟨⟨not_f q, not_f r⟩, ?_⟩
      show (_ ∧ _)
      refine ⟨fun s => ?_, fun s => ?_⟩
      · rw [if_neg (by rw [show vlW (adW a b) = false from not_t s]; simp)] at h; exact h
      · rw [if_pos ⟨not_f q, not_f r, not_f s⟩] at h; exact h
  · rw [if_neg (by rw [show vlW a = false from not_t q]; simp)] at h; exact h

def s_rAd : T_r9_Add := fun a b K => (vlW a = true ∧ vlW b = true) ∧ K (adW a b)
theorem p_rAd (a b K) (h : s_rAd a b K) : F_r9_Add a b K := by
  obtain ⟨⟨h1, h2⟩, h⟩ := h
  rw [vlW_iff] at h1 h2
  exact ⟨⟨by decide, by decide⟩, ⟨by decide, by decide⟩, ⟨by omega, by omega⟩, ⟨by decide, by decide⟩, ⟨by decide, by decide⟩, ⟨by omega, by omega⟩, ⟨by decide, by decide⟩, ⟨by decide, by decide⟩, ⟨by omega, by omega⟩, h⟩
def s_rVl : T_r9_Valid := fun a K => K (vlW a)
theorem p_rVl (a K) (h : s_rVl a K) : F_r9_Valid a K := by
  obtain ⟨x, y, z⟩ := a
  unfold s_rVl vlW vlI at h
  refine ⟨4, ?_⟩
  dsimp only at h
  have key : ∀ b : Bool, (decide (0 ≤ x) && decide (x ≤ 4000) && (decide (0 ≤ y) && decide (y ≤ 4000) && (decide (0 ≤ z) && decide (z ≤ 4000)))) = b → K b := by
    intro b hb; rw [← hb]; exact h
  have fls : (x < 0 ∨ 4000 < x ∨ y < 0 ∨ 4000 < y ∨ z < 0 ∨ 4000 < z) → K false := fun q => key false (by
    rw [Bool.eq_false_iff]; intro w; simp at w; omega)
  have tru : (0 ≤ x ∧ x ≤ 4000 ∧ 0 ≤ y ∧ y ≤ 4000 ∧ 0 ≤ z ∧ z ≤ 4000) → K true := fun q => key true (by simp; omega)
  refine ⟨fun _ => ⟨⟨by decide, by decide⟩, ⟨fun _ => ⟨⟨by decide, by decide⟩, ⟨fun p0 => ⟨⟨by decide, by decide⟩, ⟨fun _ => ⟨⟨by decide, by decide⟩, ⟨fun q => fls (by have e : 4000 < x := of_decide_eq_true q; omega), fun r0 => ⟨I64s (by decide) (by decide), ?_⟩⟩⟩, fun q => absurd q (by decide), fun q => absurd q (by decide), trivial⟩⟩, fun q => fls (by have e : x < 0 := of_decide_eq_true q; omega)⟩⟩, fun q => absurd q (by decide), fun q => absurd q (by decide), trivial⟩⟩, fun q => absurd (of_decide_eq_false q) (by decide)⟩
  refine ⟨fun _ => ⟨⟨by decide, by decide⟩, ⟨fun q => absurd q (by decide), fun _ => ⟨⟨by decide, by decide⟩, ⟨fun p1 => ⟨⟨by decide, by decide⟩, ⟨fun q => absurd q (by decide), fun _ => ⟨⟨by decide, by decide⟩, ⟨fun q => fls (by have e : 4000 < y := of_decide_eq_true q; omega), fun r1 => ⟨I64s (by decide) (by decide), ?_⟩⟩⟩, fun q => absurd q (by decide), trivial⟩⟩, fun q => fls (by have e : y < 0 := of_decide_eq_true q; omega)⟩⟩, fun q => absurd q (by decide), trivial⟩⟩, fun q => absurd (of_decide_eq_false q) (by decide)⟩
  refine ⟨fun _ => ⟨⟨by decide, by decide⟩, ⟨fun q => absurd q (by decide), fun q => absurd q (by decide), fun _ => ⟨⟨by decide, by decide⟩, ⟨fun p2 => ⟨⟨by decide, by decide⟩, ⟨fun q => absurd q (by decide), fun q => absurd q (by decide), fun _ => ⟨⟨by decide, by decide⟩, ⟨fun q => fls (by have e : 4000 < z := of_decide_eq_true q; omega), fun r2 => ⟨I64s (by decide) (by decide), ?_⟩⟩⟩, trivial⟩⟩, fun q => fls (by have e : z < 0 := of_decide_eq_true q; omega)⟩⟩, trivial⟩⟩, fun q => absurd (of_decide_eq_false q) (by decide)⟩
  refine ⟨fun q => absurd (of_decide_eq_true q) (by decide), fun _ => tru ?_⟩
  have e0 : ¬ x < 0 := of_decide_eq_false p0
  have e1 : ¬ 4000 < x := of_decide_eq_false r0
  have e2 : ¬ y < 0 := of_decide_eq_false p1
  have e3 : ¬ 4000 < y := of_decide_eq_false r1
  have e4 : ¬ z < 0 := of_decide_eq_false p2
  have e5 : ¬ 4000 < z := of_decide_eq_false r2
  omega
def s_rOr : T_r9_Order := fun a b K => K (cmW a b)
theorem p_rOr (a b K) (h : s_rOr a b K) : F_r9_Order a b K := by
  obtain ⟨x, y, z⟩ := a
  obtain ⟨u, v, w⟩ := b
  have lt : ∀ {a b : Int}, a < b → cmI a b = -1 := fun q => by unfold cmI; rw [if_pos q]
  have gt : ∀ {a b : Int}, b < a → cmI a b = 1 := fun q => by unfold cmI; rw [if_neg (by omega), if_pos q]
  have eq : ∀ {a b : Int}, a = b → cmI a b = 0 := fun q => by unfold cmI; rw [if_neg (by omega), if_neg (by omega)]
  unfold s_rOr cmW at h
  dsimp only at h
  have l0 : x < u → K (-1) := fun q => by rw [lt q] at h; exact h
  have g0 : u < x → K 1 := fun q => by rw [gt q] at h; exact h
  have l1 : x = u → y < v → K (-1) := fun p q => by rw [eq p, lt q] at h; exact h
  have g1 : x = u → v < y → K 1 := fun p q => by rw [eq p, gt q] at h; exact h
  have l2 : x = u → y = v → z < w → K (-1) := fun p p' q => by rw [eq p, eq p', lt q] at h; exact h
  have g2 : x = u → y = v → w < z → K 1 := fun p p' q => by rw [eq p, eq p', gt q] at h; exact h
  have e2 : x = u → y = v → z = w → K 0 := fun p p' q => by rw [eq p, eq p', eq q] at h; exact h
  refine ⟨4, ?_⟩
  refine ⟨fun _ => ⟨⟨by decide, by decide⟩, ⟨fun _ => ⟨⟨by decide, by decide⟩, ⟨by decide, by decide⟩, ⟨fun _ => ⟨⟨by decide, by decide⟩, ⟨fun q => l0  (of_decide_eq_true q), fun p0 => ⟨⟨by decide, by decide⟩, ⟨fun _ => ⟨⟨by decide, by decide⟩, ⟨by decide, by decide⟩, ⟨fun _ => ⟨⟨by decide, by decide⟩, ⟨fun q => g0  (of_decide_eq_true q), fun r0 => ⟨I64s (by decide) (by decide), ?_⟩⟩⟩, fun q => absurd q (by decide), fun q => absurd q (by decide), trivial⟩⟩, fun q => absurd q (by decide), fun q => absurd q (by decide), trivial⟩⟩⟩⟩, fun q => absurd q (by decide), fun q => absurd q (by decide), trivial⟩⟩, fun q => absurd q (by decide), fun q => absurd q (by decide), trivial⟩⟩, fun q => absurd (of_decide_eq_false q) (by decide)⟩
  have q0 : x = u := by
    have e0 : ¬ x < u := of_decide_eq_false p0
    have e1 : ¬ u < x := of_decide_eq_false r0
    omega
  refine ⟨fun _ => ⟨⟨by decide, by decide⟩, ⟨fun q => absurd q (by decide), fun _ => ⟨⟨by decide, by decide⟩, ⟨by decide, by decide⟩, ⟨fun q => absurd q (by decide), fun _ => ⟨⟨by decide, by decide⟩, ⟨fun q => l1 q0 (of_decide_eq_true q), fun p1 => ⟨⟨by decide, by decide⟩, ⟨fun q => absurd q (by decide), fun _ => ⟨⟨by decide, by decide⟩, ⟨by decide, by decide⟩, ⟨fun q => absurd q (by decide), fun _ => ⟨⟨by decide, by decide⟩, ⟨fun q => g1 q0 (of_decide_eq_true q), fun r1 => ⟨I64s (by decide) (by decide), ?_⟩⟩⟩, fun q => absurd q (by decide), trivial⟩⟩, fun q => absurd q (by decide), trivial⟩⟩⟩⟩, fun q => absurd q (by decide), trivial⟩⟩, fun q => absurd q (by decide), trivial⟩⟩, fun q => absurd (of_decide_eq_false q) (by decide)⟩
  have q1 : y = v := by
    have e0 : ¬ y < v := of_decide_eq_false p1
    have e1 : ¬ v < y := of_decide_eq_false r1
    omega
  refine ⟨fun _ => ⟨⟨by decide, by decide⟩, ⟨fun q => absurd q (by decide), fun q => absurd q (by decide), fun _ => ⟨⟨by decide, by decide⟩, ⟨by decide, by decide⟩, ⟨fun q => absurd q (by decide), fun q => absurd q (by decide), fun _ => ⟨⟨by decide, by decide⟩, ⟨fun q => l2 q0 q1 (of_decide_eq_true q), fun p2 => ⟨⟨by decide, by decide⟩, ⟨fun q => absurd q (by decide), fun q => absurd q (by decide), fun _ => ⟨⟨by decide, by decide⟩, ⟨by decide, by decide⟩, ⟨fun q => absurd q (by decide), fun q => absurd q (by decide), fun _ => ⟨⟨by decide, by decide⟩, ⟨fun q => g2 q0 q1 (of_decide_eq_true q), fun r2 => ⟨I64s (by decide) (by decide), ?_⟩⟩⟩, trivial⟩⟩, trivial⟩⟩⟩⟩, trivial⟩⟩, trivial⟩⟩, fun q => absurd (of_decide_eq_false q) (by decide)⟩
  have q2 : z = w := by
    have e0 : ¬ z < w := of_decide_eq_false p2
    have e1 : ¬ w < z := of_decide_eq_false r2
    omega
  exact ⟨fun q => absurd (of_decide_eq_true q) (by decide), fun _ => e2 q0 q1 q2⟩
def s_rCmp : T_r9_Compare := fun a b K => if vlW a = true ∧ vlW b = true then K (cmW a b) 0 else K 0 8
theorem p_rCmp (a b K) (h : s_rCmp a b K) : F_r9_Compare s_rVl s_rOr a b K := by
  unfold s_rCmp at h
  show (_ ∧ _)
  refine ⟨fun q => ?_, fun q => ?_⟩
  · show (_ ∧ _)
    refine ⟨fun r => ?_, fun r => ?_⟩
    · rw [if_neg (by rw [show vlW b = false from not_t r]; simp)] at h; exact h
    · rw [if_pos ⟨not_f q, not_f r⟩] at h; exact h
  · rw [if_neg (by rw [show vlW a = false from not_t q]; simp)] at h; exact h
def s_rSum : T_r9_Sum := fun a b K => if vlW a = true ∧ vlW b = true ∧ vlW (adW a b) = true then K (adW a b) 0 else K (0, 0, 0) 8
theorem p_rSum (a b K) (h : s_rSum a b K) : F_r9_Sum s_rVl s_rAd a b K := by
  unfold s_rSum at h
  show (_ ∧ _)
  refine ⟨fun q => ?_, fun q => ?_⟩
  · show (_ ∧ _)
    refine ⟨fun r => ?_, fun r => ?_⟩
    · refine ⟨⟨not_f q, not_f r⟩, ?_⟩
      show (_ ∧ _)
      refine ⟨fun s => ?_, fun s => ⟨⟨not_f q, not_f r⟩, ?_⟩⟩
      · rw [if_neg (by rw [show vlW (adW a b) = false from not_t s]; simp)] at h; exact h
      · rw [if_pos ⟨not_f q, not_f r, not_f s⟩] at h; exact h
    · rw [if_neg (by rw [show vlW b = false from not_t r]; simp)] at h; exact h
  · rw [if_neg (by rw [show vlW a = false from not_t q]; simp)] at h; exact h
theorem law_sums (a b : Wt) (K) (h : K true) : F_vitrinelaw09_WeighSums s_Cmp s_rCmp s_Sum s_rSum a b K := by
  have dt : ∀ p : Prop, [Decidable p] → p → decide p = true := fun p _ h => decide_eq_true h
  have one : ∀ (c1 c2 : Int) (w : Wt) (e : Int), (((decide (c1 = c1)) = true → (((decide (c2 = c2)) = true → (((decide (w.1 = w.1) && (decide (w.2.1 = w.2.1) && (decide (w.2.2 = w.2.2) && true))) = true → K (decide (e = e))) ∧ ((decide (w.1 = w.1) && (decide (w.2.1 = w.2.1) && (decide (w.2.2 = w.2.2) && true))) = false → K false))) ∧ ((decide (c2 = c2)) = false → K false))) ∧ ((decide (c1 = c1)) = false → K false)) := by
    intro c1 c2 w e
    simp only [decide_true, Bool.and_self, Bool.true_eq_false, false_implies, and_true, true_implies]
    exact h
  show (if _ then _ else _)
  split
  · rename_i q
    show (if _ then _ else _)
    rw [if_pos q]
    show (if _ then _ else _)
    split
    · rename_i r
      show (if _ then _ else _)
      rw [if_pos r]
      exact one _ _ _ _
    · rename_i r
      show (if _ then _ else _)
      rw [if_neg r]
      exact one _ _ _ _
  · rename_i q
    show (if _ then _ else _)
    rw [if_neg q]
    show (if _ then _ else _)
    split
    · rename_i r
      show (if _ then _ else _)
      rw [if_pos r]
      exact one _ _ _ _
    · rename_i r
      show (if _ then _ else _)
      rw [if_neg r]
      exact one _ _ _ _
end Go.Proofs.Ytfpobnafniefpaa
