/-
  The law GlueNumbers about the printed definitions, and its ties. Nothing is claimed here. (The texts Gm, Gn, Go, Gp, one behind the other.)
-/
import Derived.Test.YtkmgbibhkilffaaGreatDoorWv
import Derived.Test.YtkmgbibhkilffaaGreatDoorTi
set_option linter.unusedVariables false
namespace Go.Proofs.YtkmgbibhkilffaaGreatDoor
open Go.Vm Go.Sx Go.RowKit

/-! ### The text of a number -/
/-- Digits behind the point. -/
def fr3 : Nat → Nat → List UInt8
  | 0, _ => []
  | k + 1, r => UInt8.ofNat (48 + r * 10 / 1000) :: if r * 10 % 1000 = 0 then [] else fr3 k (r * 10 % 1000)
def numT (n : Int) (whole : Bool) : List UInt8 := (if n < 0 then [45] else []) ++ (Lib.decDigits (n.natAbs / 1000) ++ (if whole then [] else 46 :: fr3 3 (n.natAbs % 1000)))

theorem fr3_len : ∀ k r, (fr3 k r).length ≤ k
  | 0, _ => Nat.le_refl _
  | k + 1, r => by
    simp only [fr3, List.length_cons]
    split
    · simp
    · have := fr3_len k (r * 10 % 1000); omega
theorem dec_len {a : Nat} (h : a ≤ 1000000000) : (Lib.decDigits a).length ≤ 10 := by
  rw [Lib.decDigits_length]
  have h10 : ∀ k u, u < 10 ^ (k + 1) → Lib.nDigits u ≤ k + 1 := by
    intro k
    induction k with
    | zero => intro u hu; rw [Lib.nDigits_small (by simpa using hu)]; omega
    | succ k ih =>
      intro u hu
      by_cases q : u < 10
      · rw [Lib.nDigits_small q]; omega
      · rw [Lib.nDigits_big q]
        have := ih (u / 10) (by rw [Nat.pow_succ] at hu; omega)
        omega
  exact h10 9 a (by omega)
theorem numT_len {n : Int} (h : -1000000000000 ≤ n ∧ n ≤ 1000000000000) (w : Bool) : (numT n w).length ≤ 15 := by
  have h1 := dec_len (a := n.natAbs / 1000) (by omega)
  have h2 := fr3_len 3 (n.natAbs % 1000)
  unfold numT
  rw [List.length_append, List.length_append]
  have h3 : (if n < 0 then [(45 : UInt8)] else []).length ≤ 1 := by split <;> simp
  have h4 : (if w then ([] : List UInt8) else 46 :: fr3 3 (n.natAbs % 1000)).length ≤ 4 := by split <;> simp <;> omega
  omega

theorem td {x : Int} {y : Nat} (h : x = (y : Int)) (k : Nat) : x.tdiv (k : Int) = ((y / k : Nat) : Int) := by
  subst h
  rw [Int.tdiv_eq_ediv_of_nonneg (by omega)]
  omega
theorem tm {x : Int} {y : Nat} (h : x = (y : Int)) (k : Nat) : x.tmod (k : Int) = ((y % k : Nat) : Int) := by
  subst h
  rw [Int.tmod_eq_emod_of_nonneg (by omega)]
  omega

theorem p_frL (c0 : Int) (c1 : List UInt8) (c2 : Int) (c3 : List UInt8) (c4 : Bool) (Kr : List UInt8 → Int → List UInt8 → Int → List UInt8 → Bool → Prop) :
    ∀ (k r : Nat) (b : List UInt8), r < 1000 → r * 10 ^ (k + 1) % 1000 = 0 → b.length + k ≤ 10000000 → Kr (b ++ fr3 (k + 1) r) c0 c1 c2 c3 c4 → ∃ m, F_glue_appendNumber_n_l9 m (r : Int) b c0 c1 c2 c3 c4 Kr := by
  intro k
  induction k with
  | zero =>
    intro r b hr hz hb hk
    have e1 := td (x := (r : Int) * 10) (y := r * 10) (by omega) 1000
    have e2 := tm (x := (r : Int) * 10) (y := r * 10) (by omega) 1000
    rw [Nat.zero_add, Nat.pow_one] at hz
    refine ⟨1, ?_⟩
    simp only [F_glue_appendNumber_n_l9]
    rw [show ((1000 : Nat) : Int) = 1000 from rfl] at e1 e2
    rw [e1, e2]
    have q1 : IntKind.u8.wrap ((r * 10 / 1000 : Nat) : Int) = ((r * 10 / 1000 : Nat) : Int) := w8' (by omega) (by omega)
    have q2 : IntKind.u8.wrap ((48 : Int) + ((r * 10 / 1000 : Nat) : Int)) = ((48 + r * 10 / 1000 : Nat) : Int) := by rw [w8' (by omega) (by omega)]; omega
    rw [q1, q2]
    have q3 : (((48 + r * 10 / 1000 : Nat) : Int)).toNat = 48 + r * 10 / 1000 := by omega
    rw [q3]
    simp only [fr3, hz, if_true] at hk
    refine ⟨by unfold I64; omega, by decide, by unfold I64; omega, by omega, by simp; omega, by decide, fun _ => hk, fun q => ?_⟩
    exfalso
    have := of_decide_eq_false q
    omega
  | succ k ih =>
    intro r b hr hz hb hk
    have e1 := td (x := (r : Int) * 10) (y := r * 10) (by omega) 1000
    have e2 := tm (x := (r : Int) * 10) (y := r * 10) (by omega) 1000
    rw [show ((1000 : Nat) : Int) = 1000 from rfl] at e1 e2
    have q1 : IntKind.u8.wrap ((r * 10 / 1000 : Nat) : Int) = ((r * 10 / 1000 : Nat) : Int) := w8' (by omega) (by omega)
    have q2 : IntKind.u8.wrap ((48 : Int) + ((r * 10 / 1000 : Nat) : Int)) = ((48 + r * 10 / 1000 : Nat) : Int) := by rw [w8' (by omega) (by omega)]; omega
    have q3 : (((48 + r * 10 / 1000 : Nat) : Int)).toNat = 48 + r * 10 / 1000 := by omega
    have fin : ∀ m, (r * 10 % 1000 ≠ 0 → F_glue_appendNumber_n_l9 m ((r * 10 % 1000 : Nat) : Int) (b ++ [UInt8.ofNat (48 + r * 10 / 1000)]) c0 c1 c2 c3 c4 Kr) → (r * 10 % 1000 = 0 → Kr (b ++ [UInt8.ofNat (48 + r * 10 / 1000)]) c0 c1 c2 c3 c4) → F_glue_appendNumber_n_l9 (m + 1) (r : Int) b c0 c1 c2 c3 c4 Kr := by
      intro m h1 h2
      simp only [F_glue_appendNumber_n_l9]
      rw [e1, e2, q1, q2, q3]
      refine ⟨by unfold I64; omega, by decide, by unfold I64; omega, by omega, by simp; omega, by decide, fun q => h2 (by have := of_decide_eq_true q; omega), fun q => h1 (by have := of_decide_eq_false q; omega)⟩
    simp only [fr3] at hk
    by_cases q : r * 10 % 1000 = 0
    · rw [if_pos q] at hk
      exact ⟨1, fin 0 (fun z => absurd q z) (fun _ => hk)⟩
    · rw [if_neg q] at hk
      have hz2 : (r * 10 % 1000) * 10 ^ (k + 1) % 1000 = 0 := by
        rw [Nat.mod_mul_mod]
        rw [Nat.pow_succ] at hz
        rw [show r * 10 * 10 ^ (k + 1) = r * (10 ^ (k + 1) * 10) from by rw [Nat.mul_assoc, Nat.mul_comm 10]]
        exact hz
      obtain ⟨m, hm⟩ := ih (r * 10 % 1000) (b ++ [UInt8.ofNat (48 + r * 10 / 1000)]) (Nat.mod_lt _ (by decide)) hz2 (by simp; omega) (by rw [List.append_assoc]; exact hk)
      exact ⟨m + 1, fin m (fun _ => hm) (fun z => absurd z q)⟩

/-! ### Functions of glue -/
def s_apN : T_glue_appendNumber_n := fun x w b c0 c1 c2 c3 c4 K => ((-1000000000000 ≤ x ∧ x ≤ 1000000000000) ∧ b.length ≤ 5000000) ∧ K (b ++ numT x w) c0 c1 c2 c3 c4
theorem intB10 {a : Nat} (h : a ≤ 1000000000) : intB (a : Int) 10 = true := by unfold intB; simp; omega
theorem intT10 (a : Nat) : intT (a : Int) 10 = Lib.decDigits a := by unfold intT; simp
theorem p_apN (x w b c0 c1 c2 c3 c4 K) (h : s_apN x w b c0 c1 c2 c3 c4 K) : F_glue_appendNumber_n x w b c0 c1 c2 c3 c4 K := by
  obtain ⟨⟨hx, hb⟩, hk⟩ := h
  have hl := dec_len (a := x.natAbs / 1000) (by omega)
  have body : ∀ (b2 : List UInt8) (y : Int), y = (x.natAbs : Int) → b2.length ≤ 5000001 → K (b2 ++ (Lib.decDigits (x.natAbs / 1000) ++ (if w then [] else 46 :: fr3 3 (x.natAbs % 1000)))) c0 c1 c2 c3 c4 →
      I64 (y.tdiv (1000 : Int)) ∧ intB (y.tdiv (1000 : Int)) (10 : Int) = true ∧ (b2.length + (intT (y.tdiv (1000 : Int)) (10 : Int)).length) * 1 ≤ 1099511627776 ∧ (w = true → K (b2 ++ (intT (y.tdiv (1000 : Int)) (10 : Int))) c0 c1 c2 c3 c4) ∧ (w = false → (0 ≤ (46 : Int) ∧ (46 : Int) ≤ 255) ∧ ((b2 ++ (intT (y.tdiv (1000 : Int)) (10 : Int))).length + [UInt8.ofNat 46].length) * 1 ≤ 1099511627776 ∧ (1000 : Int) ≠ 0 ∧ ∃ m, F_glue_appendNumber_n_l9 m (y.tmod (1000 : Int)) ((b2 ++ (intT (y.tdiv (1000 : Int)) (10 : Int))) ++ [UInt8.ofNat 46]) c0 c1 c2 c3 c4 K) := by
    intro b2 y hy hb2 hk2
    have e1 := td hy 1000
    have e2 := tm hy 1000
    rw [show ((1000 : Nat) : Int) = 1000 from rfl] at e1 e2
    rw [e1, e2, intT10]
    refine ⟨by unfold I64; omega, intB10 (by omega), by omega, fun q => ?_, fun q => ⟨by omega, by simp; omega, by decide, ?_⟩⟩
    · rw [q] at hk2
      simpa using hk2
    · rw [q] at hk2
      refine p_frL c0 c1 c2 c3 c4 K 2 (x.natAbs % 1000) _ (Nat.mod_lt _ (by decide)) (by omega) (by simp; omega) ?_
      simpa using hk2
  unfold numT at hk
  refine ⟨fun q => ?_, fun q => ?_⟩
  · have q := of_decide_eq_true q
    rw [if_pos q] at hk
    exact ⟨by omega, by simp; omega, by unfold I64; omega, by decide, body (b ++ [UInt8.ofNat 45]) (0 - x) (by omega) (by simp; omega) (by simpa using hk)⟩
  · have q := of_decide_eq_false q
    rw [if_neg q] at hk
    exact ⟨by decide, body b x (by omega) (by omega) (by simpa using hk)⟩
def s_isW : T_glue_isWhole := fun n K => K (decide (n.tmod 1000 = 0))
theorem p_isW (n K) (h : s_isW n K) : F_glue_isWhole n K := ⟨by decide, h⟩

def s_apT : T_glue_appendToken_n := fun k t n u f b K => ((k = 10 ∨ k = 11) ∧ (-1000000000000 ≤ n ∧ n ≤ 1000000000000) ∧ b.length ≤ 4000000) ∧ K (b ++ (if k = 10 then numT n f else numT n (decide (n.tmod 1000 = 0)) ++ [37]))
theorem p_apT (k t n u f b K) (h : s_apT k t n u f b K) : F_glue_appendToken_n s_apN s_isW k t n u f b K := by
  obtain ⟨⟨hkd, hn, hb⟩, hk⟩ := h
  have hl := fun w => numT_len hn w
  unfold F_glue_appendToken_n
  rcases hkd with rfl | rfl
  · rw [if_pos rfl] at hk
    refine ⟨fun q => by simp at q, fun _ => ⟨fun q => by simp at q, fun _ => ⟨fun q => by simp at q, fun _ => ⟨fun q => by simp at q, fun _ => ⟨fun q => by simp at q, fun _ => ⟨fun q => by simp at q, fun _ => ⟨fun q => by simp at q, fun _ => ⟨fun _ => ?_, fun q => by simp at q⟩⟩⟩⟩⟩⟩⟩⟩
    exact ⟨⟨hn, by omega⟩, hk⟩
  · rw [if_neg (by decide)] at hk
    refine ⟨fun q => by simp at q, fun _ => ⟨fun q => by simp at q, fun _ => ⟨fun q => by simp at q, fun _ => ⟨fun q => by simp at q, fun _ => ⟨fun q => by simp at q, fun _ => ⟨fun q => by simp at q, fun _ => ⟨fun q => by simp at q, fun _ => ⟨fun q => by simp at q, fun _ => ⟨fun _ => ?_, fun q => by simp at q⟩⟩⟩⟩⟩⟩⟩⟩⟩
    refine ⟨⟨hn, by omega⟩, by omega, ?_, ?_⟩
    · have := hl (decide (n.tmod 1000 = 0))
      simp only [List.length_append, List.length_cons, List.length_nil]
      omega
    · rw [List.append_assoc]
      exact hk

def s_ib : T_stringslite_IndexByte := fun s c K => (0 ≤ c ∧ c < 256) ∧ K (Lib.indexByte s (UInt8.ofNat c.toNat))
def s_ibS : T_strings_IndexByte := fun s c K => (0 ≤ c ∧ c < 256) ∧ K (Lib.indexByte s (UInt8.ofNat c.toNat))
theorem p_ibS (s c K) (h : s_ibS s c K) : F_strings_IndexByte s_ib s c K := h
/-- A number, or a percentage. -/
def isNP (t : Tok) : Prop := (t.kind = 10 ∨ t.kind = 11 ∧ t.flag = false) ∧ t.text = [] ∧ t.unit = [] ∧ (-1000000000000 ≤ t.num ∧ t.num ≤ 1000000000000) ∧ (t.flag = true → t.num.tmod 1000 = 0)
def s_used : T_glue_used := fun t K => isNP t ∧ K t
theorem p_used (t K) (h : s_used t K) : F_glue_used t K := by
  obtain ⟨k, tx, n, u, f⟩ := t
  obtain ⟨⟨h1, rfl, rfl, h4, h5⟩, hk⟩ := h
  dsimp only at h1 h4 h5
  unfold F_glue_used
  dsimp only
  rcases h1 with rfl | ⟨rfl, rfl⟩
  · refine ⟨fun q => by simp at q, fun _ => ⟨fun q => by simp at q, fun _ => ⟨fun q => by simp at q, fun _ => ⟨fun q => by simp at q, fun _ => ⟨fun q => by simp at q, fun _ => ⟨fun q => by simp at q, fun _ => ⟨fun q => by simp at q, fun _ => ⟨fun _ => hk, fun q => by simp at q⟩⟩⟩⟩⟩⟩⟩⟩
  · refine ⟨fun q => by simp at q, fun _ => ⟨fun q => by simp at q, fun _ => ⟨fun q => by simp at q, fun _ => ⟨fun q => by simp at q, fun _ => ⟨fun q => by simp at q, fun _ => ⟨fun q => by simp at q, fun _ => ⟨fun q => by simp at q, fun _ => ⟨fun q => by simp at q, fun _ => ⟨fun _ => hk, fun q => by simp at q⟩⟩⟩⟩⟩⟩⟩⟩⟩
def s_isNum : T_glue_isNumber := fun t K => isNP t ∧ K true
theorem p_isNum (t K) (h : s_isNum t K) : F_glue_isNumber s_isW t K := by
  obtain ⟨⟨h1, h2, h3, h4, h5⟩, hk⟩ := h
  unfold F_glue_isNumber
  refine ⟨fun _ => ⟨fun q => ?_, fun _ => ⟨fun q => ?_, fun _ => hk⟩⟩, fun q => ?_⟩
  · have := of_decide_eq_true q; omega
  · have : t.flag = true := by simpa using q
    show s_isW t.num K
    unfold s_isW
    rw [h5 this]
    exact hk
  · have := of_decide_eq_true q; omega
def s_isNm : T_glue_isName := fun _ _ => False
theorem p_isNm (s K) (h : s_isNm s K) : F_glue_isName s K := h.elim
def s_can : T_glue_canBeWritten := fun t K => isNP t ∧ K true
theorem p_can (t K) (h : s_can t K) : F_glue_canBeWritten s_used s_ibS s_isNm s_isNum t K := by
  obtain ⟨hN, hk⟩ := h
  obtain ⟨k, tx, n, u, f⟩ := t
  obtain ⟨h1, h2, h3, h4, h5⟩ := id hN
  dsimp only at h1 h2 h3 h4 h5
  subst h2 h3
  unfold F_glue_canBeWritten
  dsimp only
  refine ⟨hN, fun _ => ⟨by decide, fun _ => ⟨by decide, fun q => by exact absurd q (by decide), fun _ => ?_⟩, fun q => by exact absurd q (by decide)⟩, fun q => by simp at q⟩
  rcases h1 with rfl | ⟨rfl, rfl⟩
  · refine ⟨fun q => by simp at q, fun _ => ⟨fun q => by simp at q, fun _ => ⟨fun q => by simp at q, fun _ => ⟨fun q => by simp at q, fun _ => ⟨fun q => by simp at q, fun _ => ⟨fun _ => ⟨hN, hk⟩, fun q => by simp at q⟩⟩⟩⟩⟩⟩
  · refine ⟨fun q => by simp at q, fun _ => ⟨fun q => by simp at q, fun _ => ⟨fun q => by simp at q, fun _ => ⟨fun q => by simp at q, fun _ => ⟨fun q => by simp at q, fun _ => ⟨fun q => by simp at q, fun _ => ⟨fun _ => ⟨hN, hk⟩, fun q => by simp at q⟩⟩⟩⟩⟩⟩⟩
def oneT (t : Tok) : List UInt8 := if t.kind = 10 then numT t.num t.flag else numT t.num (decide (t.num.tmod 1000 = 0)) ++ [37]
def s_One : T_glue_One := fun t K => isNP t ∧ K (oneT t) 0
theorem p_One (t K) (h : s_One t K) : F_glue_One s_can s_apT t K := by
  obtain ⟨hN, hk⟩ := h
  obtain ⟨h1, h2, h3, h4, h5⟩ := id hN
  unfold F_glue_One
  refine ⟨hN, fun q => by simp at q, fun _ => ⟨⟨h1.imp id (·.1), h4, by simp⟩, ?_⟩⟩
  exact hk
end Go.Proofs.YtkmgbibhkilffaaGreatDoor

set_option linter.unusedVariables false
namespace Go.Proofs.YtkmgbibhkilffaaGreatDoor
open Go.Vm Go.Sx Go.RowKit

/-- The number of some digits. -/
def dvG (a : Int) (c : UInt8) : Int := a * 10 + ((c.toNat : Int) - 48)
def dv (w : List UInt8) : Int := w.foldl dvG 0
theorem dv_fold : ∀ (w : List UInt8) (a : Int), w.foldl dvG a = a * 10 ^ w.length + dv w
  | [], a => by simp [dv]
  | c :: w, a => by
    have h1 := dv_fold w (dvG a c)
    have h2 := dv_fold w (dvG 0 c)
    show w.foldl dvG (dvG a c) = _
    rw [h1]
    show _ = a * 10 ^ (w.length + 1) + w.foldl dvG (dvG 0 c)
    rw [h2, Int.pow_succ]
    unfold dvG
    rw [Int.add_mul, Int.add_mul, Int.mul_assoc, Int.mul_comm 10]
    omega
theorem dv_app (u v : List UInt8) : dv (u ++ v) = dv u * 10 ^ v.length + dv v := by
  unfold dv
  rw [List.foldl_append]
  exact dv_fold v _
theorem firstM_nil : ∀ (k : Nat) (a : Int), firstM k [] a = a * 10 ^ k
  | 0, a => by simp [firstM]
  | k + 1, a => by rw [firstM, firstM_nil k, Int.mul_assoc, Int.pow_succ, Int.mul_comm (10 ^ k)]
theorem firstM_all : ∀ (w : List UInt8) (k : Nat) (a : Int), firstM (w.length + k) w a = w.foldl dvG a * 10 ^ k
  | [], k, a => by rw [List.length_nil, Nat.zero_add]; exact firstM_nil k a
  | c :: w, k, a => by
    rw [List.length_cons, show w.length + 1 + k = (w.length + k) + 1 from by omega]
    exact firstM_all w k _
theorem dv_zeros : ∀ w : List UInt8, dv (zeros0 w) = dv w
  | [] => rfl
  | c :: w => by
    unfold zeros0
    rw [List.dropWhile_cons]
    split
    · rename_i h
      have e : c = 48 := eq_of_beq h
      subst e
      exact dv_zeros w
    · rfl
theorem dec_ok (a : Nat) : AllDg (Lib.decDigits a) ∧ Lib.decDigits a ≠ [] ∧ dv (Lib.decDigits a) = a := by
  induction a using Nat.strongRecOn with
  | _ a ih =>
    have one : ∀ d, d < 10 → mD ((UInt8.ofNat (48 + d)).toNat : Int) = true ∧ ((UInt8.ofNat (48 + d)).toNat : Int) - 48 = d := by
      intro d hd
      have : (UInt8.ofNat (48 + d)).toNat = 48 + d := by rw [UInt8.toNat_ofNat']; omega
      rw [this]
      refine ⟨?_, by omega⟩
      unfold mD
      simp
      omega
    by_cases h : a < 10
    · rw [Lib.decDigits_one h]
      refine ⟨fun b hb => ?_, by simp, ?_⟩
      · rw [List.mem_singleton] at hb
        subst hb
        exact (one a h).1
      · show dvG 0 _ = _
        unfold dvG
        have := (one a h).2
        omega
    · rw [Lib.decDigits, dif_neg h]
      obtain ⟨h1, h2, h3⟩ := ih (a / 10) (by omega)
      refine ⟨fun b hb => ?_, by simp, ?_⟩
      · rcases List.mem_append.1 hb with q | q
        · exact h1 b q
        · rw [List.mem_singleton] at q
          subst q
          exact (one _ (Nat.mod_lt _ (by decide))).1
      · rw [dv_app, h3]
        have := (one (a % 10) (Nat.mod_lt _ (by decide))).2
        show _ + dvG 0 _ = _
        unfold dvG
        simp only [List.length_cons, List.length_nil]
        omega

/-- What the digits of a rest are. -/
def frB (r : Nat) : Bool := (fr3 3 r).all (fun c => mD (c.toNat : Int)) && (!(fr3 3 r).isEmpty && (decide (dv (fr3 3 r) * 10 ^ (3 - (fr3 3 r).length) = (r : Int)) && (!((fr3 3 r).getLast? == some 48) || decide ((fr3 3 r).length = 1))))
theorem frB_all : (List.range 1000).all frB = true := by decide +kernel
theorem fr_ok {r : Nat} (h : r < 1000) : AllDg (fr3 3 r) ∧ fr3 3 r ≠ [] ∧ dv (fr3 3 r) * 10 ^ (3 - (fr3 3 r).length) = (r : Int) ∧ ((fr3 3 r).getLast? ≠ some 48 ∨ (fr3 3 r).length = 1) := by
  have := List.all_eq_true.1 frB_all r (List.mem_range.2 h)
  unfold frB at this
  simp only [Bool.and_eq_true, Bool.or_eq_true, Bool.not_eq_true', decide_eq_true_eq, List.all_eq_true] at this
  obtain ⟨h1, h2, h3, h4⟩ := this
  refine ⟨h1, fun q => (by rw [q] at h2; cases h2), h3, h4.imp (fun q z => ?_) id⟩
  rw [z] at q
  simp at q

theorem digs_app {D rest : List UInt8} (hD : AllDg D) (hr : mD (hb rest) = false) : digs (D ++ rest) = D := by
  induction D with
  | nil =>
    cases rest with
    | nil => rfl
    | cons c r => exact digs_neg hr
  | cons c D ih =>
    rw [List.cons_append, digs_pos (hD c (List.mem_cons_self ..)), ih fun b hb => hD b (List.mem_cons_of_mem _ hb)]
theorem mD_not {c : Int} (h : mD c = true) : mSg c = false ∧ (c = 46) = False ∧ (c = 45) = False ∧ mE c = false := by
  unfold mD at h
  simp only [Bool.and_eq_true, decide_eq_true_eq] at h
  refine ⟨?_, ?_, ?_, ?_⟩
  · unfold mSg; simp; omega
  · simp; omega
  · simp; omega
  · unfold mE; simp; omega

theorem cut_val {a r : Nat} (ha : a ≤ 1000000000) (hv : a * 1000 + r ≤ 1000000000000) (F : List UInt8) (hF : F.length ≤ 3) (hd : dv F * 10 ^ (3 - F.length) = (r : Int)) :
    cutM (Lib.decDigits a ++ F) (((Lib.decDigits a).length : Int) + 0 + 3) = ((a * 1000 + r : Nat) : Int) := by
  obtain ⟨h1, h2, h3⟩ := dec_ok a
  have hl := dec_len ha
  have hp : (0 : Int) < 10 ^ (3 - F.length) := Int.pow_pos (by decide)
  have key : dv (Lib.decDigits a ++ F) * 10 ^ (3 - F.length) = ((a * 1000 + r : Nat) : Int) := by
    rw [dv_app, h3, Int.add_mul, hd, Int.mul_assoc, ← Int.pow_add, show F.length + (3 - F.length) = 3 from by omega]
    omega
  unfold cutM
  dsimp only
  have hz := zeros0_len (Lib.decDigits a ++ F)
  rw [List.length_append] at hz
  have hdz := dv_zeros (Lib.decDigits a ++ F)
  generalize hvv : zeros0 (Lib.decDigits a ++ F) = v at hz hdz ⊢
  rw [List.length_append]
  by_cases hv0 : v = []
  · rw [if_pos (.inl hv0)]
    rw [hv0] at hdz
    have hdz : (0 : Int) = dv (Lib.decDigits a ++ F) := hdz
    rw [← hdz] at key
    omega
  · have hvl : 0 < v.length := List.length_pos_iff.2 hv0
    rw [if_neg (fun z => z.elim hv0 (fun z => by omega)), if_neg (by omega)]
    have hq : (((Lib.decDigits a).length : Int) + 0 + 3 - (((((Lib.decDigits a).length + F.length : Nat) : Int)) - (v.length : Int))).toNat = v.length + (3 - F.length) := by omega
    rw [hq, firstM_all]
    show min (dv v * _) _ = _
    rw [hdz, key]
    omega

theorem num_back {n : Int} (h : -1000000000000 ≤ n ∧ n ≤ 1000000000000) (f : Bool) (hf : f = true → n.tmod 1000 = 0) :
    numS (numT n f) = true ∧ numM (numT n f) = (n, f, (numT n f).length) := by
  obtain ⟨d1, d2, d3⟩ := dec_ok (n.natAbs / 1000)
  obtain ⟨f1, f2, f3, _⟩ := fr_ok (r := n.natAbs % 1000) (Nat.mod_lt _ (by decide))
  have hlF := fr3_len 3 (n.natAbs % 1000)
  generalize hDD : Lib.decDigits (n.natAbs / 1000) = D at d1 d2 d3
  generalize hFF : fr3 3 (n.natAbs % 1000) = F at f1 f2 f3 hlF
  obtain ⟨d, D', rfl⟩ := List.exists_cons_of_ne_nil d2
  have hd := d1 d (List.mem_cons_self ..)
  obtain ⟨m1, m2, m3, m4⟩ := mD_not hd
  have hw : numT n f = (if n < 0 then [45] else []) ++ ((d :: D') ++ (if f then [] else 46 :: F)) := by unfold numT; rw [hDD, hFF]
  have hrest : mD (hb (if f then ([] : List UInt8) else 46 :: F)) = false := by cases f <;> rfl
  -- behind the sign
  have hsign : signN (numT n f) = (if n < 0 then 1 else 0) ∧ (numT n f).drop (signN (numT n f)) = (d :: D') ++ (if f then [] else 46 :: F) ∧ numS (numT n f) = true ∧ (hb (numT n f) = 45 ↔ n < 0) := by
    rw [hw]
    by_cases q : n < 0
    · simp only [if_pos q, List.cons_append, List.nil_append]
      refine ⟨rfl, rfl, ?_, ⟨fun _ => q, fun _ => rfl⟩⟩
      unfold numS
      rw [if_pos (by rfl)]
      simp only [List.tail_cons, hb_cons, hd, Bool.true_or]
    · simp only [if_neg q, List.nil_append, List.cons_append]
      have hs : signN (d :: (D' ++ if f then [] else 46 :: F)) = 0 := by unfold signN; rw [hb_cons, m1]; rfl
      refine ⟨hs, by rw [hs]; rfl, ?_, ⟨fun z => ?_, fun z => absurd z q⟩⟩
      · unfold numS
        rw [hb_cons, m1]
        simp only [Bool.false_eq_true, if_false, hd, Bool.true_or]
      · rw [hb_cons, m3] at z
        exact z.elim
  obtain ⟨s1, s2, s3, s4⟩ := hsign
  have hwd : wholeD (numT n f) = d :: D' := by unfold wholeD; rw [s2]; exact digs_app d1 hrest
  have hbw : behindW (numT n f) = signN (numT n f) + (d :: D').length := by unfold behindW; rw [hwd]
  have hdw : (numT n f).drop (behindW (numT n f)) = (if f then [] else 46 :: F) := by
    rw [hbw, ← List.drop_drop, s2, List.drop_left]
  have hlen : (numT n f).length = signN (numT n f) + ((d :: D').length + (if f then ([] : List UInt8) else 46 :: F).length) := by
    rw [s1, hw]
    by_cases q : n < 0
    · simp only [if_pos q, List.length_append, List.length_cons, List.length_nil] <;> omega
    · simp only [if_neg q, List.length_append, List.length_cons, List.length_nil] <;> omega
  refine ⟨s3, ?_⟩
  have hnat : n.natAbs = n.natAbs / 1000 * 1000 + n.natAbs % 1000 := by omega
  cases f with
  | true =>
    simp only [if_true, reduceIte] at hdw hlen
    have hfr : fracS ((numT n true).drop (behindW (numT n true))) = false := by rw [hdw]; rfl
    have hfd : fracD (numT n true) = [] := by unfold fracD; rw [hfr]; rfl
    have hbf : behindF (numT n true) = (numT n true).length := by
      unfold behindF
      rw [hfr, hbw, hlen]
      simp
    have hbe : (numT n true).drop (behindF (numT n true)) = [] := by rw [hbf, List.drop_length]
    have hex : expM ([] : List UInt8) = (0, 0) := rfl
    have hr0 : n.natAbs % 1000 = 0 := by
      have := hf rfl
      rcases Int.le_total 0 n with q | q
      · have h2 := tm (x := n) (y := n.natAbs) (by omega) 1000
        rw [show ((1000 : Nat) : Int) = 1000 from rfl, this] at h2
        omega
      · have h2 := Int.neg_tmod n 1000
        have h3 := tm (x := -n) (y := n.natAbs) (by omega) 1000
        rw [show ((1000 : Nat) : Int) = 1000 from rfl, h2, this] at h3
        omega
    unfold numM behindE
    simp only [hbe, hex, hwd, hfd, hfr]
    rw [← hDD]
    have := cut_val (a := n.natAbs / 1000) (r := 0) (by omega) (by omega) [] (by simp) (by simp [dv])
    rw [this, hbf]
    refine Prod.ext ?_ (Prod.ext rfl rfl)
    dsimp only
    by_cases q : n < 0
    · rw [if_pos (s4.2 q)]; omega
    · rw [if_neg (fun z => q (s4.1 z))]; omega
  | false =>
    simp only [Bool.false_eq_true, if_false, reduceIte] at hdw hlen
    obtain ⟨e, F', rfl⟩ := List.exists_cons_of_ne_nil f2
    have he := f1 e (List.mem_cons_self ..)
    have hfr : fracS ((numT n false).drop (behindW (numT n false))) = true := by
      rw [hdw]
      unfold fracS
      simp only [hb_cons, List.tail_cons, he]
      rfl
    have hfd : fracD (numT n false) = e :: F' := by
      unfold fracD
      rw [hfr, if_pos rfl, hdw, List.tail_cons]
      have := digs_app (rest := []) f1 (by decide)
      rwa [List.append_nil] at this
    have hbf : behindF (numT n false) = (numT n false).length := by
      unfold behindF
      rw [hfr, hfd, hbw, hlen]
      simp only [if_true, List.length_cons]
      omega
    have hbe : (numT n false).drop (behindF (numT n false)) = [] := by rw [hbf, List.drop_length]
    have hex : expM ([] : List UInt8) = (0, 0) := rfl
    unfold numM behindE
    simp only [hbe, hex, hwd, hfd, hfr]
    rw [← hDD]
    have := cut_val (a := n.natAbs / 1000) (r := n.natAbs % 1000) (by omega) (by omega) (e :: F') hlF f3
    rw [this, hbf]
    refine Prod.ext ?_ (Prod.ext rfl rfl)
    dsimp only
    by_cases q : n < 0
    · rw [if_pos (s4.2 q)]; omega
    · rw [if_neg (fun z => q (s4.1 z))]; omega
end Go.Proofs.YtkmgbibhkilffaaGreatDoor

set_option linter.unusedVariables false
namespace Go.Proofs.YtkmgbibhkilffaaGreatDoor
open Go.Vm Go.Sx Go.RowKit
variable {ro : Nat}

theorem numT_cnt (n : Int) (f : Bool) : (numT n f).countP (fun c => c == 46) = if f then 0 else 1 := by
  obtain ⟨d1, _, _⟩ := dec_ok (n.natAbs / 1000)
  obtain ⟨f1, _, _, _⟩ := fr_ok (r := n.natAbs % 1000) (Nat.mod_lt _ (by decide))
  have none : ∀ w : List UInt8, AllDg w → w.countP (fun c => c == 46) = 0 := fun w hw => by
    rw [List.countP_eq_zero]
    intro c hc q
    have e : c = 46 := eq_of_beq q
    subst e
    exact absurd (hw 46 hc) (by decide)
  unfold numT
  rw [List.countP_append, List.countP_append, none _ d1]
  have h0 : (if n < 0 then [(45 : UInt8)] else []).countP (fun c => c == 46) = 0 := by split <;> rfl
  rw [h0]
  cases f with
  | true => rfl
  | false =>
    show 0 + (0 + ((46 : UInt8) :: fr3 3 (n.natAbs % 1000)).countP (fun c => c == 46)) = 1
    rw [List.countP_cons, none _ f1]
    rfl
theorem numT_last (n : Int) : (numT n false).getD ((numT n false).length - 1) 0 ≠ 48 ∨ (numT n false).getD ((numT n false).length - 2) 0 = 46 := by
  obtain ⟨_, f2, _, f4⟩ := fr_ok (r := n.natAbs % 1000) (Nat.mod_lt _ (by decide))
  have hw : ∃ A, numT n false = A ++ 46 :: fr3 3 (n.natAbs % 1000) := ⟨(if n < 0 then [45] else []) ++ Lib.decDigits (n.natAbs / 1000), by unfold numT; simp⟩
  obtain ⟨A, hw⟩ := hw
  generalize fr3 3 (n.natAbs % 1000) = F at f2 f4 hw
  rw [hw]
  have h1 : (A ++ 46 :: F).getD ((A ++ 46 :: F).length - 1) 0 = (F.getLast?).getD 0 := by
    rw [List.getD_eq_getElem?_getD, ← List.getLast?_eq_getElem?, List.getLast?_append, List.getLast?_cons]
    cases hF : F.getLast? with
    | none => rw [List.getLast?_eq_none_iff] at hF; exact absurd hF f2
    | some x => rfl
  rcases f4 with q | q
  · left
    rw [h1]
    intro z
    cases hF : F.getLast? with
    | none => rw [List.getLast?_eq_none_iff] at hF; exact absurd hF f2
    | some x =>
      rw [hF] at z q
      have z : x = 48 := z
      exact q (by rw [z])
  · right
    have hl : (A ++ 46 :: F).length - 2 = A.length := by rw [List.length_append, List.length_cons, q]; omega
    rw [hl, List.getD_eq_getElem?_getD, List.getElem?_append_right (Nat.le_refl _), Nat.sub_self]
    rfl

def s_alive : T_vitrinelaw03_alive := fun K => K true
abbrev lpG := F_vitrinelaw03_GlueNumbers_l11 s_alive s_One s_val
theorem p_ptL (s y : List UInt8) (hs : s.length ≤ 1000) (x1 : Bool) (Ke : Bool → List UInt8 → List UInt8 → Int → Prop) : ∀ (w : List UInt8) (i c : Int), s.drop i.toNat = w → 0 ≤ i → i ≤ s.length → 0 ≤ c → c + w.length ≤ 1000 →
    Ke x1 s y (c + (w.countP (fun c => c == 46) : Nat)) → ∃ m, lpG m x1 s y c i Ke
  | [], i, c, hw, hi, hil, hc, hcl, h => by
    have := drop_nil hw
    refine ⟨1, ?_⟩
    simp only [F_vitrinelaw03_GlueNumbers_l11]
    refine ⟨fun q => ?_, fun _ => ?_⟩
    · have := of_decide_eq_true q; omega
    · simpa using h
  | b :: w, i, c, hw, hi, hil, hc, hcl, h => by
    obtain ⟨h1, h2, h3, _⟩ := drop_cons hi hw
    rw [List.length_cons] at hcl
    rw [List.countP_cons] at h
    cases q : b == 46 with
    | true =>
      rw [q] at h
      obtain ⟨m, hm⟩ := p_ptL s y hs x1 Ke w (i + 1) (c + 1) h3 (by omega) (by omega) (by omega) (by omega) (by
        rw [show c + 1 + ((w.countP (fun c => c == 46) : Nat) : Int) = c + ((w.countP (fun c => c == 46) + (if true = true then 1 else 0) : Nat) : Int) from by simp; omega]
        exact h)
      refine ⟨m + 1, ?_⟩
      simp only [F_vitrinelaw03_GlueNumbers_l11]
      refine ⟨fun _ => ⟨⟨hi, h1⟩, fun _ => ⟨by unfold I64; omega, by unfold I64; omega, hm⟩, fun z => ?_⟩, fun z => ?_⟩
      · exfalso
        have z := of_decide_eq_false z
        rw [h2] at z
        have e : b = 46 := eq_of_beq q
        subst e
        exact z rfl
      · have := of_decide_eq_false z; omega
    | false =>
      rw [q] at h
      obtain ⟨m, hm⟩ := p_ptL s y hs x1 Ke w (i + 1) c h3 (by omega) (by omega) (by omega) (by omega) (by
        rw [show c + ((w.countP (fun c => c == 46) : Nat) : Int) = c + ((w.countP (fun c => c == 46) + (if false = true then 1 else 0) : Nat) : Int) from by simp]
        exact h)
      refine ⟨m + 1, ?_⟩
      simp only [F_vitrinelaw03_GlueNumbers_l11]
      refine ⟨fun _ => ⟨⟨hi, h1⟩, fun z => ?_, fun _ => ⟨by unfold I64; omega, hm⟩⟩, fun z => ?_⟩
      · exfalso
        have z := of_decide_eq_true z
        rw [h2] at z
        have : b = 46 := UInt8.toNat_inj.mp (by show b.toNat = 46; omega)
        rw [this] at q
        exact absurd q (by decide)
      · have := of_decide_eq_false z; omega

theorem core (a0 : Int) (a1 : Bool) (K : Bool → Prop) (hn : -1000000000000 ≤ a0 ∧ a0 ≤ 1000000000000) (hf : a1 = true → a0.tmod 1000 = 0) (hK : K true) :
  (s_One (Tok.mk (10 : Int) ([] : List UInt8) a0 ([] : List UInt8) a1) (fun y2 y3 => (s_val y2 (fun y4 y5 y6 => (s_One (Tok.mk (11 : Int) ([] : List UInt8) a0 ([] : List UInt8) false) (fun y7 y8 => (((decide (y3 ≠ (0 : Int))) = false → (((decide (y6 ≠ (0 : Int))) = false → (((decide (y8 ≠ (0 : Int))) = false → (((decide (y4 ≠ a0)) = false → (((!(y5 == a1)) = false → (((decide ((y2.length : Int) < (1 : Int))) = false → (((decide ((y7.length : Int) < (2 : Int))) = true → K false) ∧ ((decide ((y7.length : Int) < (2 : Int))) = false → (∃ m, lpG m a1 y2 y7 (0 : Int) (0 : Int) (fun y9 y10 y11 y12 => (I64 ((y10.length : Int) - (1 : Int)) ∧ ((0 ≤ ((y10.length : Int) - (1 : Int)) ∧ ((y10.length : Int) - (1 : Int)) < (y10.length : Int)) ∧ ((((decide (y12 = (1 : Int))) == (!y9)) = true → (((decide (y12 ≤ (1 : Int))) = true → (((decide (y12 = (0 : Int))) = false → (((decide (((y10.getD ((y10.length : Int) - (1 : Int)).toNat 0).toNat : Int) ≠ (48 : Int))) = false → (I64 ((y10.length : Int) - (2 : Int)) ∧ ((0 ≤ ((y10.length : Int) - (2 : Int)) ∧ ((y10.length : Int) - (2 : Int)) < (y10.length : Int)) ∧ (((decide (((y10.getD ((y10.length : Int) - (2 : Int)).toNat 0).toNat : Int) = (46 : Int))) = true → (I64 ((y11.length : Int) - (1 : Int)) ∧ ((0 ≤ ((y11.length : Int) - (1 : Int)) ∧ ((y11.length : Int) - (1 : Int)) < (y11.length : Int)) ∧ (((decide (((y11.getD ((y11.length : Int) - (1 : Int)).toNat 0).toNat : Int) = (37 : Int))) = true → (s_alive (fun y13 => K y13))) ∧ ((decide (((y11.getD ((y11.length : Int) - (1 : Int)).toNat 0).toNat : Int) = (37 : Int))) = false → K false))))) ∧ ((decide (((y10.getD ((y10.length : Int) - (2 : Int)).toNat 0).toNat : Int) = (46 : Int))) = false → K false))))) ∧ ((decide (((y10.getD ((y10.length : Int) - (1 : Int)).toNat 0).toNat : Int) ≠ (48 : Int))) = true → (I64 ((y11.length : Int) - (1 : Int)) ∧ ((0 ≤ ((y11.length : Int) - (1 : Int)) ∧ ((y11.length : Int) - (1 : Int)) < (y11.length : Int)) ∧ (((decide (((y11.getD ((y11.length : Int) - (1 : Int)).toNat 0).toNat : Int) = (37 : Int))) = true → (s_alive (fun y14 => K y14))) ∧ ((decide (((y11.getD ((y11.length : Int) - (1 : Int)).toNat 0).toNat : Int) = (37 : Int))) = false → K false))))))) ∧ ((decide (y12 = (0 : Int))) = true → (I64 ((y11.length : Int) - (1 : Int)) ∧ ((0 ≤ ((y11.length : Int) - (1 : Int)) ∧ ((y11.length : Int) - (1 : Int)) < (y11.length : Int)) ∧ (((decide (((y11.getD ((y11.length : Int) - (1 : Int)).toNat 0).toNat : Int) = (37 : Int))) = true → (s_alive (fun y15 => K y15))) ∧ ((decide (((y11.getD ((y11.length : Int) - (1 : Int)).toNat 0).toNat : Int) = (37 : Int))) = false → K false))))))) ∧ ((decide (y12 ≤ (1 : Int))) = false → K false))) ∧ (((decide (y12 = (1 : Int))) == (!y9)) = false → K false))))))))) ∧ ((decide ((y2.length : Int) < (1 : Int))) = true → K false))) ∧ ((!(y5 == a1)) = true → K false))) ∧ ((decide (y4 ≠ a0)) = true → K false))) ∧ ((decide (y8 ≠ (0 : Int))) = true → K false))) ∧ ((decide (y6 ≠ (0 : Int))) = true → K false))) ∧ ((decide (y3 ≠ (0 : Int))) = true → K false)))))))) := by
  obtain ⟨hS, hM⟩ := num_back hn a1 hf
  have hl := numT_len hn a1
  have hl2 := numT_len hn (decide (a0.tmod 1000 = 0))
  have hcnt := numT_cnt a0 a1
  have hpos : ∀ f, 1 ≤ (numT a0 f).length := fun f => by
    obtain ⟨_, d2, _⟩ := dec_ok (a0.natAbs / 1000)
    have := List.length_pos_iff.2 d2
    unfold numT
    rw [List.length_append, List.length_append]
    omega
  have e10 : oneT (Tok.mk 10 [] a0 [] a1) = numT a0 a1 := rfl
  have e11 : oneT (Tok.mk 11 [] a0 [] false) = numT a0 (decide (a0.tmod 1000 = 0)) ++ [37] := rfl
  refine ⟨⟨.inl rfl, rfl, rfl, hn, hf⟩, ?_⟩
  rw [e10]
  refine ⟨fun q => by omega, fun _ q => ?_, fun _ _ _ => ?_⟩
  · exfalso
    rw [hS, hM] at q
    rcases q with q | q
    · cases q
    · exact q rfl
  rw [hM]
  refine ⟨⟨.inr ⟨rfl, rfl⟩, rfl, rfl, hn, fun q => by cases q⟩, ?_⟩
  rw [e11]
  have hpl : ((numT a0 (decide (a0.tmod 1000 = 0)) ++ [37]).length) = (numT a0 (decide (a0.tmod 1000 = 0))).length + 1 := by simp
  have hp1 := hpos (decide (a0.tmod 1000 = 0))
  have hplast : (((numT a0 (decide (a0.tmod 1000 = 0)) ++ [37]).getD (((numT a0 (decide (a0.tmod 1000 = 0)) ++ [37]).length : Int) - (1 : Int)).toNat 0).toNat : Int) = 37 := by
    have : ((((numT a0 (decide (a0.tmod 1000 = 0)) ++ [37]).length : Nat) : Int) - 1).toNat = (numT a0 (decide (a0.tmod 1000 = 0))).length := by omega
    rw [this, List.getD_eq_getElem?_getD, List.getElem?_append_right (Nat.le_refl _), Nat.sub_self]
    rfl
  generalize numT a0 (decide (a0.tmod 1000 = 0)) ++ [37] = p at hpl hplast
  have hs1 := hpos a1
  have fin : I64 ((p.length : Int) - (1 : Int)) ∧ ((0 ≤ ((p.length : Int) - (1 : Int)) ∧ ((p.length : Int) - (1 : Int)) < (p.length : Int)) ∧ (((decide (((p.getD ((p.length : Int) - (1 : Int)).toNat 0).toNat : Int) = (37 : Int))) = true → K true) ∧ ((decide (((p.getD ((p.length : Int) - (1 : Int)).toNat 0).toNat : Int) = (37 : Int))) = false → K false))) :=
    ⟨by unfold I64; omega, by omega, fun _ => hK, fun q => by have := of_decide_eq_false q; exact absurd hplast this⟩
  refine ⟨fun _ => ⟨fun _ => ⟨fun _ => ⟨fun _ => ⟨fun _ => ⟨fun _ => ⟨fun q => ?_, fun _ => ?_⟩, fun q => ?_⟩, fun q => ?_⟩, fun q => ?_⟩, fun q => by exact absurd q (by decide)⟩, fun q => by exact absurd q (by decide)⟩, fun q => by exact absurd q (by decide)⟩
  · have := of_decide_eq_true q; omega
  rotate_left
  · have := of_decide_eq_true q; omega
  · simp at q
  · have := of_decide_eq_true q; exact absurd rfl this
  refine p_ptL (numT a0 a1) p (by omega) a1 _ (numT a0 a1) 0 0 rfl (by omega) (by omega) (by omega) (by omega) ?_
  rw [hcnt]
  refine ⟨by unfold I64; omega, by omega, ?_⟩
  cases a1 with
  | true =>
    refine ⟨fun _ => ⟨fun _ => ⟨fun q => by exact absurd q (by decide), fun _ => fin⟩, fun q => by exact absurd q (by decide)⟩, fun q => by exact absurd q (by decide)⟩
  | false =>
    refine ⟨fun _ => ⟨fun _ => ⟨fun _ => ⟨fun q => ?_, fun _ => fin⟩, fun q => by exact absurd q (by decide)⟩, fun q => by exact absurd q (by decide)⟩, fun q => by exact absurd q (by decide)⟩
    have q := of_decide_eq_false q
    have hlen2 : 2 ≤ (numT a0 false).length := by
      obtain ⟨_, d2, _⟩ := dec_ok (a0.natAbs / 1000)
      have := List.length_pos_iff.2 d2
      unfold numT
      rw [List.length_append, List.length_append]
      simp only [Bool.false_eq_true, if_false, List.length_cons]
      omega
    refine ⟨by unfold I64; omega, by omega, fun _ => fin, fun z => ?_⟩
    have z := of_decide_eq_false z
    exfalso
    have i1 : (((numT a0 false).length : Int) - 1).toNat = (numT a0 false).length - 1 := by omega
    have i2 : (((numT a0 false).length : Int) - 2).toNat = (numT a0 false).length - 2 := by omega
    rw [i1] at q
    rw [i2] at z
    rcases numT_last a0 with u | u
    · refine u (UInt8.toNat_inj.mp ?_)
      show _ = 48
      omega
    · rw [u] at z
      exact z rfl

theorem law_numbers (a0 a1 K) (hK : K true) : F_vitrinelaw03_GlueNumbers s_alive s_One s_val a0 a1 K := by
  unfold F_vitrinelaw03_GlueNumbers
  refine ⟨fun q1 => ⟨fun q2 => ⟨fun q3 => ⟨by decide, fun _ => hK, fun q4 => ?_⟩, fun q3 => ?_⟩, fun _ => hK⟩, fun _ => hK⟩
  · have q1 := of_decide_eq_false q1
    have q2 := of_decide_eq_false q2
    have q4 := of_decide_eq_false q4
    exact core a0 a1 K (by omega) (fun _ => by omega) hK
  · have q1 := of_decide_eq_false q1
    have q2 := of_decide_eq_false q2
    exact core a0 a1 K (by omega) (fun z => by rw [q3] at z; cases z) hK
end Go.Proofs.YtkmgbibhkilffaaGreatDoor

namespace Go.Proofs.YtkmgbibhkilffaaGreatDoor
open Go.Vm Go.Sx Go.RowKit
variable {ro : Nat}

theorem gok' : GOK GT GL (st0 gs1) := by
  intro g k l h
  match g, h with
  | 0, h =>
    obtain ⟨rfl, rfl⟩ : IntKind.u8 = k ∧ marksL = l := by
      have h2 := Option.some.inj h
      exact ⟨congrArg Prod.fst h2, congrArg Prod.snd h2⟩
    have e : ((st0 gs1).hp.get 0).map (fun b => (List.range 126).map fun j => b.get j) = some ((List.range 126).map fun j => some (V.i .u8 (marksL.getD j 0))) := by kernel_rfl
    cases hh : (st0 gs1).hp.get 0 with
    | none => rw [hh] at e; cases e
    | some b =>
    rw [hh] at e
    have h2 := Option.some.inj e
    refine ⟨by decide, b, rfl, fun j hj => ?_⟩
    have hj2 : j < 126 := hj
    have h3 := congrArg (fun x => x[j]?) h2
    simpa [hj2] using h3
  | _ + 1, h => cases h

/-! ### The law -/
theorem t_17 : FnOK sy Tryz.prog GT (ovD ro) ro 17 (q_vitrinelaw03_alive s_alive) := by
  intro o0 us k h st vs hn hg ho hr
  unfold q_vitrinelaw03_alive at h
  split at h
  · have e : vs = [] := hr
    subst e
    exact ⟨.b true, st, ⟨1, fun n hn => by
      cases n with
      | zero => omega
      | succ n => rfl⟩, .b true, rfl, ⟨Nat.le_refl _, fun _ _ => rfl, fun _ _ q => q⟩, h⟩
  · exact h.elim
theorem t_59 : FnOK sy Tryz.prog GT (ovD ro) ro 59 (q_stringslite_IndexByte s_ib) := by
  intro o0 us k h st vs hn hg ho hr
  unfold q_stringslite_IndexByte at h
  split at h
  · rename_i a0 a1
    obtain ⟨⟨hl, hl2⟩, hk⟩ := h
    obtain ⟨v0, r0, rfl, hv0, hr0⟩ := hr
    obtain ⟨v1, r1, rfl, hv1, hr1⟩ := hr0
    have hr1 : r1 = [] := hr1
    have hv0 : v0 = V.str a0 := hv0
    have hv1 : v1 = .i .u8 a1 := hv1
    subst hr1 hv0 hv1
    obtain ⟨c, rfl⟩ : ∃ c : Nat, a1 = .ofNat c := ⟨a1.toNat, by show a1 = (a1.toNat : Int); omega⟩
    have hc : c < 256 := by have : ((c : Nat) : Int) < 256 := hl2; omega
    refine ⟨.i .i64 (Lib.indexByte a0 (UInt8.ofNat c)), st, ⟨1, fun n hn => ?_⟩, .i .i64 (Lib.indexByte a0 (UInt8.ofNat c)), rfl, ⟨Nat.le_refl _, fun _ _ => rfl, fun _ _ q => q⟩, hk⟩
    cases n with
    | zero => omega
    | succ n =>
      have e : ovD ro 59 [V.str a0, .i .u8 (.ofNat c)] st = some (.i .i64 (Lib.indexByte a0 (UInt8.ofNat c)), st) := by
        have hb : Nat.blt c 256 = true := by rw [Nat.blt_eq]; exact hc
        have hx : ixN a0.length (packL a0) c 0 = Lib.indexByte a0 (UInt8.ofNat c) := by
          have h2 := (ixN_eq c hc a0.length (packL a0) 0).2
          rw [unpackL_packL] at h2
          rw [h2]
          split
          · rename_i z; exact z.symm
          · show _ + ((0 : Nat) : Int) = _
            omega
        have h0 : ovI 59 [V.str a0, .i .u8 (.ofNat c)] = some (V.i .i64 (Lib.indexByte a0 (UInt8.ofNat c))) := by
          show cond (Nat.blt c 256) (some (V.i .i64 (ixN a0.length (packL a0) c 0))) none = _
          rw [hb, hx]
          rfl
        show ofOv0 ovI 59 [V.str a0, .i .u8 (.ofNat c)] st = _
        unfold ofOv0
        rw [h0]
      unfold evF callGo
      rw [e]
  · exact h.elim
theorem t_49 : FnOK sy Tryz.prog GT (ovD ro) ro 49 (q_glue_used s_used) := q_glue_used_weak (ok_glue_used) p_used
theorem t_34 : FnOK sy Tryz.prog GT (ovD ro) ro 34 (q_strings_IndexByte s_ibS) := q_strings_IndexByte_weak (ok_strings_IndexByte s_ib t_59) p_ibS
theorem t_33 : FnOK sy Tryz.prog GT (ovD ro) ro 33 (q_glue_isName s_isNm) := q_glue_isName_weak (ok_glue_isName) p_isNm
theorem t_67 : FnOK sy Tryz.prog GT (ovD ro) ro 67 (q_glue_isWhole s_isW) := q_glue_isWhole_weak (ok_glue_isWhole) p_isW
theorem t_52 : FnOK sy Tryz.prog GT (ovD ro) ro 52 (q_glue_isNumber s_isNum) := q_glue_isNumber_weak (ok_glue_isNumber s_isW t_67) p_isNum
theorem t_29 : FnOK sy Tryz.prog GT (ovD ro) ro 29 (q_glue_canBeWritten s_can) := q_glue_canBeWritten_weak (ok_glue_canBeWritten s_used s_ibS s_isNm s_isNum t_49 t_34 t_33 t_52) p_can
theorem t_66_n : ShOK sy Tryz.prog GT (ovD ro) ro Tryz.f66.ntmps (bodyOf Tryz.f66) sl_glue_appendNumber_n sr_glue_appendNumber_n (g_glue_appendNumber_n s_apN) := (ok_glue_appendNumber_n).weak (fun _ _ h => p_apN _ _ _ _ _ _ _ _ _ h)
theorem t_37_n : ShOK sy Tryz.prog GT (ovD ro) ro Tryz.f37.ntmps (bodyOf Tryz.f37) sl_glue_appendToken_n sr_glue_appendToken_n (g_glue_appendToken_n s_apT) := (ok_glue_appendToken_n s_apN s_isW t_66_n t_67).weak (fun _ _ h => p_apT _ _ _ _ _ _ _ h)
theorem t_20 : FnOK sy Tryz.prog GT (ovD ro) ro 20 (q_glue_One s_One) := q_glue_One_weak (ok_glue_One s_can s_apT t_29 t_37_n) p_One
theorem t_81 : FnOK sy Tryz.prog GT (ovD ro) ro 81 (q_token_byteAt s_byteAt) := q_token_byteAt_weak (ok_token_byteAt) p_byteAt
theorem t_86 : FnOK sy Tryz.prog GT (ovD ro) ro 86 (q_token_isSign s_isSign) := q_token_isSign_weak (ok_token_isSign) p_isSign
theorem t_87 : FnOK sy Tryz.prog GT (ovD ro) ro 87 (q_char_IsDigit s_isD) := q_char_IsDigit_weak (ok_char_IsDigit) p_isD
theorem t_88 : FnOK sy Tryz.prog GT (ovD ro) ro 88 (q_token_fractionStarts s_frac) := q_token_fractionStarts_weak (ok_token_fractionStarts s_byteAt s_isD t_81 t_87) p_frac
theorem t_47 : FnOK sy Tryz.prog GT (ovD ro) ro 47 (q_token_numberStarts s_numS) := q_token_numberStarts_weak (ok_token_numberStarts s_byteAt s_isSign s_isD s_frac t_81 t_86 t_87 t_88) p_numS
theorem t_91 : FnOK sy Tryz.prog GT (ovD ro) ro 91 (q_token_isExponentMark s_isExp) := q_token_isExponentMark_weak (ok_token_isExponentMark) p_isExp
theorem t_92 : FnOK sy Tryz.prog GT (ovD ro) ro 92 (q_token_digitStarts s_digS) := q_token_digitStarts_weak (ok_token_digitStarts s_byteAt s_isSign s_isD t_81 t_86 t_87) p_digS
theorem t_93 : FnOK sy Tryz.prog GT (ovD ro) ro 93 (q_token_wholeNumber s_whole) := q_token_wholeNumber_weak (ok_token_wholeNumber) p_whole
theorem t_144 : FnOK sy Tryz.prog GT (ovD ro) ro 144 (q_strings_trimLeftByte s_trimB) := q_strings_trimLeftByte_weak (ok_strings_trimLeftByte) p_trimB
theorem t_125 : FnOK sy Tryz.prog GT (ovD ro) ro 125 (q_strings_TrimLeft s_trim) := q_strings_TrimLeft_weak (ok_strings_TrimLeft s_trimB t_144) p_trim
theorem t_94 : FnOK sy Tryz.prog GT (ovD ro) ro 94 (q_token_cutNumber s_cut) := q_token_cutNumber_weak (ok_token_cutNumber s_trim t_125) p_cut
theorem t_48 : FnOK sy Tryz.prog GT (ovD ro) ro 48 (q_token_readNumber s_num) := q_token_readNumber_weak (ok_token_readNumber s_frac s_byteAt s_isExp s_digS s_whole s_cut s_isSign s_isD t_88 t_81 t_91 t_92 t_93 t_94 t_86 t_87) p_num
theorem t_28 : FnOK sy Tryz.prog GT (ovD ro) ro 28 (q_token_Value s_val) := q_token_Value_weak (ok_token_Value s_numS s_num t_47 t_48) p_val
theorem t_law : FnOK sy Tryz.prog GT (ovD ro) ro 9 (q_vitrinelaw03_GlueNumbers (fun _ _ K => K true)) :=
  q_vitrinelaw03_GlueNumbers_weak (ok_vitrinelaw03_GlueNumbers s_alive s_One s_val t_17 t_20 t_28) law_numbers

theorem numbers (a : Int) (b : Bool) : ∃ m st', evF Tryz.prog (ovA GL) GL m 9 [.i .i64 a, .b b] (st0 gs1) = some (.b true, st') := by
  obtain ⟨v, st', ⟨M, h1⟩, u, h2, _, h3⟩ := t_law (ro := GL) (fun _ => False) [.i .i64 a, .b b] (fun u => u = .b true) rfl (st0 gs1) [.i .i64 a, .b b] (Nat.le_refl _) gok' (fun _ q => q.elim) ⟨_, _, rfl, rfl, _, _, rfl, rfl, rfl⟩
  subst h3
  have e : v = .b true := h2
  subst e
  exact ⟨M, st', h1 M (Nat.le_refl _)⟩
end Go.Proofs.YtkmgbibhkilffaaGreatDoor

