/-
  Weights: what the functions that compare and add them come to. Nothing is claimed here.
-/
import Derived.Test.YtfpobnafniefpaaGreatDoorTg
set_option linter.unusedVariables false
set_option linter.unusedSimpArgs false
namespace Go.Proofs.YtfpobnafniefpaaGreatDoor
open Go.Vm Go.Sx Go.RowKit

abbrev Wt := Int × Int × Int
def cmI (a b : Int) : Int := if a < b then -1 else if b < a then 1 else 0
def cmW (a b : Wt) : Int := if cmI a.1 b.1 ≠ 0 then cmI a.1 b.1 else if cmI a.2.1 b.2.1 ≠ 0 then cmI a.2.1 b.2.1 else cmI a.2.2 b.2.2
def vlI (a : Int) : Bool := decide (0 ≤ a) && decide (a ≤ 4000)
def vlW (a : Wt) : Bool := vlI a.1 && (vlI a.2.1 && vlI a.2.2)
def adW (a b : Wt) : Wt := (a.1 + b.1, a.2.1 + b.2.1, a.2.2 + b.2.2)

theorem I64s {n : Int} (h1 : -10 ≤ n) (h2 : n ≤ 10) : I64 n := ⟨by omega, by omega⟩

def s_nan : T_cmp_isNaN := fun _ K => K false
theorem p_nan (a K) (h : s_nan a K) : F_cmp_isNaN a K := by
  show K (decide (a ≠ a))
  simpa [s_nan] using h
def s_cmp : T_cmp_Compare := fun a b K => K (cmI a b)
theorem p_cmp (a b K) (h : s_cmp a b K) : F_cmp_Compare s_nan a b K := by
  unfold s_cmp cmI at h
  refine ⟨fun q => (by cases q), fun _ => ⟨fun q => (by cases q), fun _ => ⟨fun q => ?_, fun q => ⟨fun r => ?_, fun r => ?_⟩⟩⟩⟩
  · rw [if_pos (of_decide_eq_true q)] at h; exact h
  · rw [if_neg (of_decide_eq_false q), if_pos (of_decide_eq_true r)] at h; exact h
  · rw [if_neg (of_decide_eq_false q), if_neg (of_decide_eq_false r)] at h; exact h

def s_slC : T_sl_Compare := fun l m K => ∃ a b : Wt, l = [a.1, a.2.1, a.2.2] ∧ m = [b.1, b.2.1, b.2.2] ∧ K (cmW a b)
theorem p_slC (l m K) (h : s_slC l m K) : F_sl_Compare s_cmp l m K := by
  obtain ⟨a, b, rfl, rfl, h⟩ := h
  unfold cmW at h
  have one : ∀ (n : Nat) (i : Nat) (Ke : List Int → List Int → Prop) (Kr : Int → Prop) (x y : Int), i < 3 → [a.1, a.2.1, a.2.2].getD i (dfltD Cd.i64) = x → [b.1, b.2.1, b.2.2].getD i (dfltD Cd.i64) = y → (cmI x y ≠ 0 → Kr (cmI x y)) → (cmI x y = 0 → F_sl_Compare_l2 s_cmp n [a.1, a.2.1, a.2.2] [b.1, b.2.1, b.2.2] [a.1, a.2.1, a.2.2] (3 : Int) ((i : Int) + 1) Ke Kr) →
      F_sl_Compare_l2 s_cmp (n + 1) [a.1, a.2.1, a.2.2] [b.1, b.2.1, b.2.2] [a.1, a.2.1, a.2.2] (3 : Int) (i : Int) Ke Kr := by
    intro n i Ke Kr x y hi hx hy h1 h2
    refine ⟨fun _ => ⟨⟨by omega, by show (i : Int) < 3; omega⟩, fun q => ?_, fun q => ⟨⟨by omega, by show (i : Int) < 3; omega⟩, ?_⟩⟩, fun q => ?_⟩
    · have := of_decide_eq_true q
      have : (3 : Int) ≤ i := this
      omega
    · show (_ ∧ _)
      rw [Int.toNat_natCast, hx, hy]
      refine ⟨fun q => h1 (by simpa using of_decide_eq_true q), fun q => ⟨I64s (by omega) (by omega), h2 (by simpa using of_decide_eq_false q)⟩⟩
    · have := of_decide_eq_false q
      omega
  refine ⟨4, ?_⟩
  refine one 3 0 _ _ a.1 b.1 (by omega) rfl rfl (fun q => ?_) (fun q => ?_)
  · rw [if_pos q] at h; exact h
  rw [if_neg (by simpa using q)] at h
  refine one 2 1 _ _ a.2.1 b.2.1 (by omega) rfl rfl (fun q => ?_) (fun q => ?_)
  · rw [if_pos q] at h; exact h
  rw [if_neg (by simpa using q)] at h
  refine one 1 2 _ _ a.2.2 b.2.2 (by omega) rfl rfl (fun q => h) (fun q => ?_)
  rw [q] at h
  exact ⟨fun z => absurd (of_decide_eq_true z) (by decide), fun _ => ⟨fun z => absurd (of_decide_eq_true z) (by simp), fun _ => h⟩⟩

def s_cw : T_w_cmp := fun a b K => K (cmW a b)
theorem p_cw (a b K) (h : s_cw a b K) : F_w_cmp s_slC a b K := ⟨a, b, rfl, rfl, h⟩

def s_vl : T_w_isValid := fun a K => K (vlW a)
theorem p_vl (a K) (h : s_vl a K) : F_w_isValid a K := by
  obtain ⟨x, y, z⟩ := a
  unfold s_vl vlW vlI at h
  refine ⟨4, ?_⟩
  simp only [F_w_isValid_l2]
  simp [I64]
  simp at h
  have key : ∀ b : Bool, (decide (0 ≤ x) && decide (x ≤ 4000) && (decide (0 ≤ y) && decide (y ≤ 4000) && (decide (0 ≤ z) && decide (z ≤ 4000)))) = b → K b := by
    intro b hb; rw [← hb]; exact h
  have fls : (x < 0 ∨ 4000 < x ∨ y < 0 ∨ 4000 < y ∨ z < 0 ∨ 4000 < z) → K false := fun q => key false (by
    rw [Bool.eq_false_iff]; intro w; simp at w; omega)
  have tru : (0 ≤ x ∧ x ≤ 4000 ∧ 0 ≤ y ∧ y ≤ 4000 ∧ 0 ≤ z ∧ z ≤ 4000) → K true := fun q => key true (by simp; omega)
  (repeat' (first | apply And.intro | intro)) <;> first
    | exact fls (by omega)
    | exact tru (by omega)

def s_ad : T_w_sum := fun a b K => (vlW a = true ∧ vlW b = true) ∧ K (adW a b)
theorem vlW_iff (a : Wt) : vlW a = true ↔ 0 ≤ a.1 ∧ a.1 ≤ 4000 ∧ 0 ≤ a.2.1 ∧ a.2.1 ≤ 4000 ∧ 0 ≤ a.2.2 ∧ a.2.2 ≤ 4000 := by
  unfold vlW vlI; simp; omega
theorem p_ad (a b K) (h : s_ad a b K) : F_w_sum a b K := by
  obtain ⟨x, y, z⟩ := a
  obtain ⟨u, v, w⟩ := b
  obtain ⟨⟨h1, h2⟩, h⟩ := h
  rw [vlW_iff] at h1 h2
  dsimp only at h1 h2
  have a1 : I64 (x + u) := ⟨by omega, by omega⟩
  have a2 : I64 (y + v) := ⟨by omega, by omega⟩
  have a3 : I64 (z + w) := ⟨by omega, by omega⟩
  refine ⟨4, ?_⟩
  refine ⟨fun _ => ⟨⟨by decide, by decide⟩, ⟨fun _ => ⟨⟨by decide, by decide⟩, ⟨by decide, by decide⟩, ⟨fun _ => ⟨⟨by decide, by decide⟩, a1, ⟨by decide, by decide⟩, ⟨fun _ => ⟨⟨by decide, by decide⟩, I64s (by decide) (by decide), ?_⟩, fun q => absurd q (by decide), fun q => absurd q (by decide), trivial⟩⟩, fun q => absurd q (by decide), fun q => absurd q (by decide), trivial⟩⟩, fun q => absurd q (by decide), fun q => absurd q (by decide), trivial⟩⟩, fun q => absurd (of_decide_eq_false q) (by decide)⟩
  refine ⟨fun _ => ⟨⟨by decide, by decide⟩, ⟨fun q => absurd q (by decide), fun _ => ⟨⟨by decide, by decide⟩, ⟨by decide, by decide⟩, ⟨fun q => absurd q (by decide), fun _ => ⟨⟨by decide, by decide⟩, a2, ⟨by decide, by decide⟩, ⟨fun q => absurd q (by decide), fun _ => ⟨⟨by decide, by decide⟩, I64s (by decide) (by decide), ?_⟩, fun q => absurd q (by decide), trivial⟩⟩, fun q => absurd q (by decide), trivial⟩⟩, fun q => absurd q (by decide), trivial⟩⟩, fun q => absurd (of_decide_eq_false q) (by decide)⟩
  refine ⟨fun _ => ⟨⟨by decide, by decide⟩, ⟨fun q => absurd q (by decide), fun q => absurd q (by decide), fun _ => ⟨⟨by decide, by decide⟩, ⟨by decide, by decide⟩, ⟨fun q => absurd q (by decide), fun q => absurd q (by decide), fun _ => ⟨⟨by decide, by decide⟩, a3, ⟨by decide, by decide⟩, ⟨fun q => absurd q (by decide), fun q => absurd q (by decide), fun _ => ⟨⟨by decide, by decide⟩, I64s (by decide) (by decide), ?_⟩, trivial⟩⟩, trivial⟩⟩, trivial⟩⟩, fun q => absurd (of_decide_eq_false q) (by decide)⟩
  exact ⟨fun q => absurd (of_decide_eq_true q) (by decide), fun _ => h⟩

def s_Cmp : T_w_Compare := fun a b K => if vlW a = true ∧ vlW b = true then K (cmW a b) 0 else K 0 8
theorem not_f {b : Bool} (q : (!b) = false) : b = true := by cases b <;> simp_all
theorem not_t {b : Bool} (q : (!b) = true) : b = false := by cases b <;> simp_all
theorem p_Cmp (a b K) (h : s_Cmp a b K) : F_w_Compare s_vl s_cw a b K := by
  unfold s_Cmp at h
  show (_ ∧ _)
  refine ⟨fun q => ?_, fun q => ?_⟩
  · show (_ ∧ _)
    refine ⟨fun r => ?_, fun r => ?_⟩
    · rw [if_neg (by rw [show vlW b = false from not_t r]; simp)] at h; exact h
    · rw [if_pos ⟨not_f q, not_f r⟩] at h; exact h
  · rw [if_neg (by rw [show vlW a = false from not_t q]; simp)] at h; exact h
def s_Sum : T_w_Sum := fun a b K => if vlW a = true ∧ vlW b = true ∧ vlW (adW a b) = true then K (adW a b) 0 else K (0, 0, 0) 8
theorem p_Sum (a b K) (h : s_Sum a b K) : F_w_Sum s_vl s_ad a b K := by
  unfold s_Sum at h
  show (_ ∧ _)
  refine ⟨fun q => ?_, fun q => ?_⟩
  · show (_ ∧ _)
    refine ⟨fun r => ?_, fun r => ?_⟩
    · rw [if_neg (by rw [show vlW b = false from not_t r]; simp)] at h; exact h
    · refine ⟨⟨not_f q, not_f r⟩, ?_⟩
      show (_ ∧ _)
      refine ⟨fun s => ?_, fun s => ?_⟩
      · rw [if_neg (by rw [show vlW (adW a b) = false from not_t s]; simp)] at h; exact h
      · rw [if_pos ⟨not_f q, not_f r, not_f s⟩] at h; exact h
  · rw [if_neg (by rw [show vlW a = false from not_t q]; simp)] at h; exact h

def s_rVl : T_r9_Valid := fun a K => K (vlW a)
theorem p_rVl (a K) (h : s_rVl a K) : F_r9_Valid a K := by
  obtain ⟨x, y, z⟩ := a
  unfold s_rVl vlW vlI at h
  refine ⟨4, ?_⟩
  dsimp only at h
  have key : ∀ b : Bool, (decide (0 ≤ x) && decide (x ≤ 4000) && (decide (0 ≤ y) && decide (y ≤ 4000) && (decide (0 ≤ z) && decide (z ≤ 4000)))) = b → K b := by
    intro b hb; rw [← hb]; exact h
  have fls : (x < 0 ∨ 4000 < x ∨ y < 0 ∨ 4000 < y ∨ z < 0 ∨ 4000 < z) → K false := fun q => key false (by
    rw [Bool.eq_false_iff]; intro w; simp at w; omega)
  have tru : (0 ≤ x ∧ x ≤ 4000 ∧ 0 ≤ y ∧ y ≤ 4000 ∧ 0 ≤ z ∧ z ≤ 4000) → K true := fun q => key true (by simp; omega)
  refine ⟨fun _ => ⟨⟨by decide, by decide⟩, ⟨fun _ => ⟨⟨by decide, by decide⟩, ⟨fun p0 => ⟨⟨by decide, by decide⟩, ⟨fun _ => ⟨⟨by decide, by decide⟩, ⟨fun q => fls (by have e : 4000 < x := of_decide_eq_true q; omega), fun r0 => ⟨I64s (by decide) (by decide), ?_⟩⟩⟩, fun q => absurd q (by decide), fun q => absurd q (by decide), trivial⟩⟩, fun q => fls (by have e : x < 0 := of_decide_eq_true q; omega)⟩⟩, fun q => absurd q (by decide), fun q => absurd q (by decide), trivial⟩⟩, fun q => absurd (of_decide_eq_false q) (by decide)⟩
  refine ⟨fun _ => ⟨⟨by decide, by decide⟩, ⟨fun q => absurd q (by decide), fun _ => ⟨⟨by decide, by decide⟩, ⟨fun p1 => ⟨⟨by decide, by decide⟩, ⟨fun q => absurd q (by decide), fun _ => ⟨⟨by decide, by decide⟩, ⟨fun q => fls (by have e : 4000 < y := of_decide_eq_true q; omega), fun r1 => ⟨I64s (by decide) (by decide), ?_⟩⟩⟩, fun q => absurd q (by decide), trivial⟩⟩, fun q => fls (by have e : y < 0 := of_decide_eq_true q; omega)⟩⟩, fun q => absurd q (by decide), trivial⟩⟩, fun q => absurd (of_decide_eq_false q) (by decide)⟩
  refine ⟨fun _ => ⟨⟨by decide, by decide⟩, ⟨fun q => absurd q (by decide), fun q => absurd q (by decide), fun _ => ⟨⟨by decide, by decide⟩, ⟨fun p2 => ⟨⟨by decide, by decide⟩, ⟨fun q => absurd q (by decide), fun q => absurd q (by decide), fun _ => ⟨⟨by decide, by decide⟩, ⟨fun q => fls (by have e : 4000 < z := of_decide_eq_true q; omega), fun r2 => ⟨I64s (by decide) (by decide), ?_⟩⟩⟩, trivial⟩⟩, fun q => fls (by have e : z < 0 := of_decide_eq_true q; omega)⟩⟩, trivial⟩⟩, fun q => absurd (of_decide_eq_false q) (by decide)⟩
  refine ⟨fun q => absurd (of_decide_eq_true q) (by decide), fun _ => tru ?_⟩
  have e0 : ¬ x < 0 := of_decide_eq_false p0
  have e1 : ¬ 4000 < x := of_decide_eq_false r0
  have e2 : ¬ y < 0 := of_decide_eq_false p1
  have e3 : ¬ 4000 < y := of_decide_eq_false r1
  have e4 : ¬ z < 0 := of_decide_eq_false p2
  have e5 : ¬ 4000 < z := of_decide_eq_false r2
  omega
/-- The order, told by its parts. -/
theorem cmW_cases (a b : Wt) : (cmW a b = -1 ∧ (a.1 < b.1 ∨ a.1 = b.1 ∧ (a.2.1 < b.2.1 ∨ a.2.1 = b.2.1 ∧ a.2.2 < b.2.2))) ∨ (cmW a b = 1 ∧ (b.1 < a.1 ∨ a.1 = b.1 ∧ (b.2.1 < a.2.1 ∨ a.2.1 = b.2.1 ∧ b.2.2 < a.2.2))) ∨ (cmW a b = 0 ∧ a.1 = b.1 ∧ a.2.1 = b.2.1 ∧ a.2.2 = b.2.2) := by
  have key : ∀ x y : Int, (cmI x y = -1 ∧ x < y) ∨ (cmI x y = 1 ∧ y < x) ∨ (cmI x y = 0 ∧ x = y) := by
    intro x y
    unfold cmI
    split
    · exact .inl ⟨rfl, by assumption⟩
    · split
      · exact .inr (.inl ⟨rfl, by assumption⟩)
      · exact .inr (.inr ⟨rfl, by omega⟩)
  unfold cmW
  rcases key a.1 b.1 with ⟨e, q⟩ | ⟨e, q⟩ | ⟨e, q⟩ <;> rw [e]
  · exact .inl ⟨rfl, .inl q⟩
  · exact .inr (.inl ⟨rfl, .inl q⟩)
  rw [if_neg (by decide)]
  rcases key a.2.1 b.2.1 with ⟨e, r⟩ | ⟨e, r⟩ | ⟨e, r⟩ <;> rw [e]
  · exact .inl ⟨rfl, .inr ⟨q, .inl r⟩⟩
  · exact .inr (.inl ⟨rfl, .inr ⟨q, .inl r⟩⟩)
  rw [if_neg (by decide)]
  rcases key a.2.2 b.2.2 with ⟨e, s⟩ | ⟨e, s⟩ | ⟨e, s⟩ <;> rw [e]
  · exact .inl ⟨rfl, .inr ⟨q, .inr ⟨r, s⟩⟩⟩
  · exact .inr (.inl ⟨rfl, .inr ⟨q, .inr ⟨r, s⟩⟩⟩)
  · exact .inr (.inr ⟨rfl, q, r, s⟩)
theorem cmW_neg (a b : Wt) : cmW b a = -cmW a b := by
  rcases cmW_cases a b with h | h | h <;> rcases cmW_cases b a with k | k | k <;> omega
theorem cmW_add (a b c : Wt) : cmW (adW a c) (adW b c) = cmW a b := by
  rcases cmW_cases a b with h | h | h <;> rcases cmW_cases (adW a c) (adW b c) with k | k | k <;> simp only [adW] at k <;> simp only [adW] <;> omega
theorem cmW_tr (a b c : Wt) (h : cmW a b ≤ 0) (k : cmW b c ≤ 0) : cmW a c ≤ 0 := by
  rcases cmW_cases a b with p | p | p <;> rcases cmW_cases b c with q | q | q <;> rcases cmW_cases a c with r | r | r <;> omega
theorem cmW_eq (a b : Wt) : decide (cmW a b = 0) = (decide (a.1 = b.1) && (decide (a.2.1 = b.2.1) && (decide (a.2.2 = b.2.2) && true))) := by
  rw [Bool.eq_iff_iff]
  simp only [decide_eq_true_eq, Bool.and_eq_true, and_true]
  rcases cmW_cases a b with h | h | h <;> constructor <;> intro k <;> omega

def s_alive : T_vitrinelaw09_alive := fun K => K true
theorem law_order (a b c : Wt) (K) (h : K true) : F_vitrinelaw09_WeighOrder s_rVl s_alive s_Cmp s_Sum a b c K := by
  show (_ ∧ _)
  refine ⟨fun q1 => ?_, fun _ => h⟩
  show (_ ∧ _)
  refine ⟨fun q2 => ?_, fun _ => h⟩
  show (_ ∧ _)
  refine ⟨fun _ => h, fun q3 => ?_⟩
  have va : vlW a = true := not_f q1
  have vb : vlW b = true := not_f q2
  have vc : vlW c = true := not_f q3
  have e1 : ∀ (x y : Wt) K, vlW x = true → vlW y = true → K (cmW x y) 0 → s_Cmp x y K := fun x y K hx hy hk => by unfold s_Cmp; rw [if_pos ⟨hx, hy⟩]; exact hk
  refine e1 a b _ va vb ?_
  refine e1 b a _ vb va ?_
  refine e1 b c _ vb vc ?_
  refine e1 a c _ va vc ?_
  have e2 : ∀ (x y : Wt) K, vlW x = true → vlW y = true → (vlW (adW x y) = true → K (adW x y) 0) → K (0, 0, 0) 8 → s_Sum x y K := fun x y K hx hy h1 h2 => by
    unfold s_Sum
    split
    · rename_i q; exact h1 q.2.2
    · exact h2
  have hb : -1 ≤ cmW a b ∧ cmW a b ≤ 1 := by rcases cmW_cases a b with p | p | p <;> omega
  have dT : ∀ {p : Prop} [Decidable p], p → ¬ (decide p = false) := fun hp q => of_decide_eq_false q hp
  have dF : ∀ {p : Prop} [Decidable p], ¬ p → ¬ (decide p = true) := fun hp q => hp (of_decide_eq_true q)
  have tail : s_Sum a c (fun y13 y14 => s_Sum b c (fun y15 y16 => (((decide (y14 ≠ (0 : Int))) = false → (((decide (y16 ≠ (0 : Int))) = true → K true) ∧ ((decide (y16 ≠ (0 : Int))) = false → (s_Cmp (y13.1, y13.2.1, y13.2.2) (y15.1, y15.2.1, y15.2.2) (fun y18 y19 => (((decide (y19 = (0 : Int))) = true → (((decide (y18 = cmW a b)) = true → K true) ∧ ((decide (y18 = cmW a b)) = false → K false))) ∧ ((decide (y19 = (0 : Int))) = false → K false))))))) ∧ ((decide (y14 ≠ (0 : Int))) = true → K true)))) := by
    refine e2 a c _ va vc (fun w1 => ?_) ?_
    · refine e2 b c _ vb vc (fun w2 => ?_) ?_
      · refine ⟨fun _ => ⟨fun _ => h, fun _ => ?_⟩, fun _ => h⟩
        refine e1 (adW a c) (adW b c) _ w1 w2 ?_
        exact ⟨fun _ => ⟨fun _ => h, fun q => absurd q (dT (cmW_add a b c))⟩, fun q => absurd q (dT rfl)⟩
      · exact ⟨fun _ => ⟨fun _ => h, fun q => absurd q (dT (by decide))⟩, fun _ => h⟩
    · refine e2 b c _ vb vc (fun w2 => ?_) ?_
      · exact ⟨fun q => absurd q (dT (by decide)), fun _ => h⟩
      · exact ⟨fun q => absurd q (dT (by decide)), fun _ => h⟩
  refine ⟨fun _ => ⟨fun _ => ⟨fun _ => ⟨fun _ => ⟨?_, ⟨fun _ => ⟨fun _ => ⟨fun _ => ⟨fun _ => ⟨fun h1 => ⟨fun h2 => ⟨fun h3 => ?_, fun _ => tail⟩, fun _ => tail⟩, fun _ => tail⟩, fun q => ?_⟩, fun q => ?_⟩, fun q => ?_⟩, fun q => ?_⟩⟩, fun q => ?_⟩, fun q => ?_⟩, fun q => ?_⟩, fun q => ?_⟩
  · rw [cmW_neg a b]; exact I64s (by omega) (by omega)
  · have := cmW_tr a b c (of_decide_eq_true h1) (of_decide_eq_true h2)
    have h3 := of_decide_eq_true h3
    omega
  · have := of_decide_eq_true q; omega
  · have := of_decide_eq_true q; omega
  · rw [cmW_eq a b] at q
    simp at q
  · have q := of_decide_eq_true q
    rw [cmW_neg a b] at q
    omega
  · exact absurd q (dF (by decide))
  · exact absurd q (dF (by decide))
  · exact absurd q (dF (by decide))
  · exact absurd q (dF (by decide))
end Go.Proofs.YtfpobnafniefpaaGreatDoor
