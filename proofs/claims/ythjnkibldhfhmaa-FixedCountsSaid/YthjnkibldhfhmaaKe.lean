/-
  The reference of fixed's sums, products and holding, and the law FixedCounts, about the printed definitions. Nothing is claimed here.
-/
import Derived.Test.YthjnkibldhfhmaaKd
import Derived.Test.YthjnkibldhfhmaaTg
set_option linter.unusedVariables false
set_option linter.unusedSimpArgs false
namespace Go.Proofs.Ythjnkibldhfhmaa
open Go.Vm Go.Sx Go.RowKit

def s_rIs : T_r6_Is := fun n K => K (isM n)
theorem p_rIs (n K) (h : s_rIs n K) : F_r6_Is n K := by
  unfold s_rIs isM at h
  refine ⟨fun q => ?_, fun q => ?_⟩
  · rwa [q, Bool.true_and] at h
  · rwa [q, Bool.false_and] at h
theorem holdM_eq (n : Int) : holdM n = max (-1000000000000) (min 1000000000000 n) := by unfold holdM; split <;> split <;> omega
def s_rHold : T_r6_Hold := fun n K => K (holdM n)
theorem p_rHold (n K) (h : s_rHold n K) : F_r6_Hold n K := by
  have e : (if (-1000000000000 : Int) < (if n < (1000000000000 : Int) then n else (1000000000000 : Int)) then (if n < (1000000000000 : Int) then n else (1000000000000 : Int)) else (-1000000000000 : Int)) = holdM n := by
    rw [holdM_eq]
    by_cases h1 : n < 1000000000000
    · simp only [h1, if_true]; split <;> omega
    · simp only [h1, if_false]; split <;> omega
  unfold F_r6_Hold
  rw [e]
  exact h
theorem isM_not {n : Int} (h : ¬ inM n) : isM n = false := by
  cases hc : isM n with
  | false => rfl
  | true => exact absurd (isM_iff.1 hc) h
theorem p_r3 (l : List Int) (hl : l.length ≤ 1000000) (a : Int) (Ke : List Int → Int → Prop) (Kr : Int → Int → Prop) : ∀ (w : List Int) (i : Int), l.drop i.toNat = w → 0 ≤ i → i ≤ l.length → (w.all isM = true → Ke l a) → (w.all isM = false → Kr 0 8) → ∃ m, F_r6_Sum_l3 s_rIs s_rHold m l a i Ke Kr
  | [], i, hw, h0, hi, he, hr => by
    have hle : l.length ≤ i.toNat := List.drop_eq_nil_iff.1 hw
    refine ⟨1, ?_⟩
    simp only [F_r6_Sum_l3]
    exact ⟨fun q => by have := of_decide_eq_true q; omega, fun _ => he rfl⟩
  | x :: w, i, hw, h0, hi, he, hr => by
    obtain ⟨h1, h2⟩ := drop_more hw
    have ex : l.getD i.toNat (dfltD Cd.i64) = x := getD_at hw _
    have e1 : (i + 1).toNat = i.toNat + 1 := by omega
    rw [List.all_cons] at he hr
    cases hx : isM x with
    | true =>
      rw [hx, Bool.true_and] at he hr
      obtain ⟨m, hm⟩ := p_r3 l hl a Ke Kr w (i + 1) (by rw [e1]; exact h1) (by omega) (by omega) he hr
      refine ⟨m + 1, ?_⟩
      simp only [F_r6_Sum_l3, ex, id, s_rIs, hx]
      exact ⟨fun _ => ⟨by omega, fun q => (by cases q), fun _ => ⟨by unfold I64; omega, hm⟩⟩, fun q => by have := of_decide_eq_false q; omega⟩
    | false =>
      rw [hx, Bool.false_and] at he hr
      have hr := hr rfl
      refine ⟨1, ?_⟩
      simp only [F_r6_Sum_l3, ex, id, s_rIs, hx]
      exact ⟨fun _ => ⟨by omega, fun _ => hr, fun q => (by cases q)⟩, fun q => by have := of_decide_eq_false q; omega⟩
theorem p_r8 (l : List Int) (hl : l.length ≤ 1000000) (hin : ∀ n ∈ l, inM n) (Ke : Int → Prop) : ∀ (w : List Int) (i a : Int), l.drop i.toNat = w → 0 ≤ i → i ≤ l.length → inM a → Ke (sumM w a) → ∃ m, F_r6_Sum_l8 s_rIs s_rHold m l a i Ke
  | [], i, a, hw, h0, hi, ha, h => by
    have hle : l.length ≤ i.toNat := List.drop_eq_nil_iff.1 hw
    refine ⟨1, ?_⟩
    simp only [F_r6_Sum_l8]
    exact ⟨fun q => by have := of_decide_eq_true q; omega, fun _ => h⟩
  | x :: w, i, a, hw, h0, hi, ha, h => by
    obtain ⟨h1, h2⟩ := drop_more hw
    have ex : l.getD i.toNat (dfltD Cd.i64) = x := getD_at hw _
    have e1 : (i + 1).toNat = i.toNat + 1 := by omega
    have hx : inM x := hin x (List.mem_of_mem_drop (by rw [hw]; exact List.mem_cons_self ..))
    obtain ⟨m, hm⟩ := p_r8 l hl hin Ke w (i + 1) (holdM (a + x)) (by rw [e1]; exact h1) (by omega) (by omega) (holdM_in _) h
    refine ⟨m + 1, ?_⟩
    simp only [F_r6_Sum_l8, ex, id]
    unfold inM at ha hx
    exact ⟨fun _ => ⟨by omega, by unfold I64; omega, by unfold I64; omega, hm⟩, fun q => by have := of_decide_eq_false q; omega⟩
def s_rSum : T_r6_Sum := fun l K => l.length ≤ 1000000 ∧ (chkM l = 0 → K (sumM l 0) 0) ∧ (chkM l ≠ 0 → K 0 8)
theorem p_rSum (l K) (h : s_rSum l K) : F_r6_Sum s_rIs s_rHold l K := by
  obtain ⟨hl, h1, h2⟩ := h
  refine p_r3 l hl 0 _ _ l 0 rfl (by omega) (by omega) (fun q => ?_) (fun q => ?_)
  · have e : chkM l = 0 := by unfold chkM; rw [if_pos q]
    exact p_r8 l hl (chkM_zero.1 e) _ l 0 0 rfl (by omega) (by omega) (by unfold inM; omega) (h1 e)
  · have e : chkM l = 8 := by unfold chkM; rw [if_neg (by rw [q]; decide)]
    exact h2 (by omega)

/-! ### Products -/
def s_rPr : T_r6_product := fun x y K => (0 ≤ x ∧ x ≤ 1000000000000 ∧ 0 ≤ y ∧ y ≤ 1000000000000) ∧ K (hpM x y)
theorem p_rPr (a b K) (h : s_rPr a b K) : F_r6_product s_rHold a b K := by
  obtain ⟨⟨h0, h1, h2, h3⟩, hK⟩ := h
  have ed : a.tdiv 1000 = a / 1000 := Int.tdiv_eq_ediv_of_nonneg h0
  have em : a.tmod 1000 = a % 1000 := Int.tmod_eq_emod_of_nonneg h0
  unfold F_r6_product
  rw [ed, em]
  have hq0 : 0 ≤ a / 1000 := by omega
  have hr0 : 0 ≤ a % 1000 := by omega
  have hsplit : a * b = 1000 * (a / 1000 * b) + a % 1000 * b := by
    have e : a = 1000 * (a / 1000) + a % 1000 := by omega
    calc a * b = (1000 * (a / 1000) + a % 1000) * b := by rw [← e]
      _ = _ := by rw [Int.add_mul, Int.mul_assoc]
  have hR0 : 0 ≤ a % 1000 * b := Int.mul_nonneg hr0 h2
  have hR1 : a % 1000 * b ≤ 999 * b := Int.mul_le_mul_of_nonneg_right (by omega) h2
  have hP0 : 0 ≤ a / 1000 * b := Int.mul_nonneg hq0 h2
  have er : (a % 1000 * b).tdiv 1000 = a % 1000 * b / 1000 := Int.tdiv_eq_ediv_of_nonneg hR0
  rw [er]
  have fin : ∀ (y : Int), a / 1000 * b ≤ 1000000000000 → s_rHold (a / 1000 * b + a % 1000 * b / 1000) (fun y1 => K y1) := fun _ hle => by
    show K _
    have : holdM (a / 1000 * b + a % 1000 * b / 1000) = hpM a b := by
      rw [holdM_eq]
      unfold hpM
      rw [hsplit]
      generalize a / 1000 * b = p at *
      generalize a % 1000 * b = r at *
      split <;> omega
    rw [this]
    exact hK
  refine ⟨by decide, by unfold I64; omega, by decide, fun q => ?_, fun q => ?_⟩
  · have q := of_decide_eq_true q
    have et : (1000000000000 : Int).tdiv (a / 1000) = 1000000000000 / (a / 1000) := Int.tdiv_eq_ediv_of_nonneg (by decide)
    rw [et]
    have ht0 : 0 ≤ 1000000000000 / (a / 1000) := Int.ediv_nonneg (by decide) hq0
    have ht1 : 1000000000000 / (a / 1000) ≤ 1000000000000 := Int.ediv_le_self _ (by decide)
    refine ⟨by omega, by unfold I64; omega, fun z => ?_, fun z => ?_⟩
    · have z := of_decide_eq_true z
      have e1 := Int.lt_ediv_add_one_mul_self 1000000000000 q
      have e2 : (1000000000000 / (a / 1000) + 1) * (a / 1000) ≤ b * (a / 1000) := Int.mul_le_mul_of_nonneg_right (by omega) hq0
      rw [Int.mul_comm b] at e2
      unfold hpM at hK
      rw [hsplit] at hK
      generalize a / 1000 * b = p at *
      generalize a % 1000 * b = r at *
      rwa [if_pos (by omega)] at hK
    · have z := of_decide_eq_false z
      have e2 : b * (a / 1000) ≤ 1000000000000 / (a / 1000) * (a / 1000) := Int.mul_le_mul_of_nonneg_right (by omega) hq0
      have e3 := Int.ediv_mul_le 1000000000000 (b := a / 1000) (by omega)
      rw [Int.mul_comm b] at e2
      have fin := fin 0 (by omega)
      generalize a / 1000 * b = p at *
      generalize a % 1000 * b = r at *
      exact ⟨by unfold I64; omega, by unfold I64; omega, by decide, by unfold I64; omega, by unfold I64; omega, fin⟩
  · have q := of_decide_eq_false q
    have e0 : a / 1000 = 0 := by omega
    have fin := fin 0 (by rw [e0, Int.zero_mul]; omega)
    have ep : a / 1000 * b = 0 := by rw [e0, Int.zero_mul]
    rw [ep] at fin ⊢
    generalize a % 1000 * b = r at *
    exact ⟨by unfold I64; omega, by unfold I64; omega, by decide, by unfold I64; omega, by unfold I64; omega, fin⟩
def sTm : Nat → T_r6_Times
  | 0 => fun _ _ _ => False
  | k + 1 => fun a b K => (inM a ∧ inM b ∧ (k = 0 → 0 ≤ a)) ∧ K (mulM a b)
theorem hpM_comm0 (a b : Int) : hpM a b = if 1000000000000 < a * b / 1000 then 1000000000000 else a * b / 1000 := rfl
theorem hpM_zero (x : Int) : hpM x 0 = 0 := by unfold hpM; rw [Int.mul_zero]; rfl
theorem mulM_neg {a b : Int} (h : a < 0) : 0 - mulM (0 - a) b = mulM a b := by
  unfold mulM
  have e : ((0 - a).natAbs : Int) = (a.natAbs : Int) := by omega
  rw [e, decide_eq_true h, decide_eq_false (by omega : ¬ 0 - a < 0)]
  by_cases hb : b < 0
  · rw [decide_eq_true hb]
    simp only [show (!(false == true)) = true from rfl, show (!(true == true)) = false from rfl, if_true, Bool.false_eq_true, if_false]
    omega
  · rw [decide_eq_false hb]
    simp only [show (!(false == false)) = false from rfl, show (!(true == false)) = true from rfl, if_true, Bool.false_eq_true, if_false]
theorem mulM_in {a b : Int} : inM (mulM a b) := by
  have := hpM_in (x := (a.natAbs : Int)) (y := (b.natAbs : Int)) (by omega) (by omega)
  unfold mulM inM
  split <;> omega
theorem p_rTm : ∀ (k : Nat) (a b K), sTm (k + 1) a b K → F_r6_Times (sTm k) s_rPr a b K
  | k, a, b, K, ⟨⟨⟨a0, a1⟩, ⟨b0, b1⟩, hk⟩, hK⟩ => by
    refine ⟨fun q => ⟨by unfold I64; omega, ?_⟩, fun q => ⟨fun z => ⟨by unfold I64; omega, ?_⟩, fun z => ?_⟩⟩
    · have q := of_decide_eq_true q
      cases k with
      | zero => have := hk rfl; omega
      | succ k =>
        refine ⟨⟨⟨by omega, by omega⟩, ⟨b0, b1⟩, fun _ => by omega⟩, ?_⟩
        have hin := mulM_in (a := 0 - a) (b := b)
        show I64 (0 - mulM (0 - a) b) ∧ K (0 - mulM (0 - a) b)
        rw [mulM_neg q]
        unfold inM at hin
        exact ⟨by have := mulM_neg (b := b) q; unfold I64; omega, hK⟩
    · have q := of_decide_eq_false q
      have z := of_decide_eq_true z
      refine ⟨⟨by omega, by omega, by omega, by omega⟩, ?_⟩
      have hin := hpM_in (x := a) (y := 0 - b) (by omega) (by omega)
      refine ⟨by unfold I64; omega, ?_⟩
      unfold mulM at hK
      rw [decide_eq_false q, decide_eq_true z] at hK
      simp only [show (!(false == true)) = true from rfl, if_true] at hK
      rwa [show (a.natAbs : Int) = a from by omega, show (b.natAbs : Int) = 0 - b from by omega] at hK
    · have q := of_decide_eq_false q
      have z := of_decide_eq_false z
      refine ⟨⟨by omega, by omega, by omega, by omega⟩, ?_⟩
      unfold mulM at hK
      rw [decide_eq_false q, decide_eq_false z] at hK
      simp only [show (!(false == false)) = false from rfl, Bool.false_eq_true, if_false] at hK
      rwa [show (a.natAbs : Int) = a from by omega, show (b.natAbs : Int) = b from by omega] at hK
def s_rTm : T_r6_Times := sTm 2
def s_rMul : T_r6_Mul := fun a b K => if inM a ∧ inM b then K (mulM a b) 0 else K 0 8
theorem p_rMul (a b K) (h : s_rMul a b K) : F_r6_Mul s_rIs s_rTm a b K := by
  unfold s_rMul at h
  unfold F_r6_Mul s_rIs
  by_cases ha : inM a
  · rw [isM_iff.2 ha]
    refine ⟨fun _ => ?_, fun q => (by cases q)⟩
    by_cases hb : inM b
    · rw [isM_iff.2 hb]
      rw [if_pos ⟨ha, hb⟩] at h
      exact ⟨fun q => (by cases q), fun _ => ⟨⟨ha, hb, fun q => by cases q⟩, h⟩⟩
    · rw [isM_not hb]
      rw [if_neg (fun q => hb q.2)] at h
      exact ⟨fun _ => h, fun q => (by cases q)⟩
  · rw [isM_not ha]
    rw [if_neg (fun q => ha q.1)] at h
    exact ⟨fun q => (by cases q), fun _ => h⟩
def s_rWithin : T_r6_Within := fun n a b K => if inM n ∧ inM a ∧ inM b then (if b < a then K 0 2 else K (witM n a b) 0) else K 0 8
theorem p_rWithin (n a b K) (h : s_rWithin n a b K) : F_r6_Within s_rIs n a b K := by
  unfold s_rWithin at h
  unfold F_r6_Within s_rIs
  by_cases hn : inM n
  · rw [isM_iff.2 hn]
    refine ⟨fun _ => ?_, fun q => (by cases q)⟩
    by_cases ha : inM a
    · rw [isM_iff.2 ha]
      refine ⟨fun _ => ?_, fun q => (by cases q)⟩
      by_cases hb : inM b
      · rw [isM_iff.2 hb]
        rw [if_pos ⟨hn, ha, hb⟩] at h
        refine ⟨fun q => (by cases q), fun _ => ⟨fun q => ?_, fun q => ?_⟩⟩
        · rwa [if_pos (of_decide_eq_true q)] at h
        · have q := of_decide_eq_false q
          rw [if_neg q] at h
          have e : (if a < (if n < b then n else b) then (if n < b then n else b) else a) = witM n a b := by
            have e1 : (if n < b then n else b) = min n b := by split <;> omega
            have e2 : (if n < a then a else n) = max n a := by split <;> omega
            unfold witM
            rw [e1, e2]
            by_cases h1 : a < min n b
            · rw [if_pos h1]; split <;> omega
            · rw [if_neg h1]; split <;> omega
          rw [e]
          exact h
      · rw [isM_not hb]
        rw [if_neg (fun q => hb q.2.2)] at h
        exact ⟨fun _ => h, fun q => (by cases q)⟩
    · rw [isM_not ha]
      rw [if_neg (fun q => ha q.2.1)] at h
      exact ⟨fun q => (by cases q), fun _ => h⟩
  · rw [isM_not hn]
    rw [if_neg (fun q => hn q.1)] at h
    exact ⟨fun q => (by cases q), fun _ => h⟩

/-! ### The law -/
theorem sum_both (l : List Int) (h : l.length ≤ 1000000) (K : Int → Int → Int → Int → Prop) (hK : ∀ a e, K a e a e) : s_Sum l (fun a e => s_rSum l (fun b f => K a e b f)) :=
  ⟨h, fun q => ⟨h, fun _ => hK _ _, fun z => absurd q z⟩, fun q => ⟨h, fun z => absurd z q, fun _ => hK _ _⟩⟩
theorem mul_both (x y : Int) (K : Int → Int → Int → Int → Prop) (hK : ∀ a e, K a e a e) : s_Mul x y (fun a e => s_rMul x y (fun b f => K a e b f)) := by
  unfold s_Mul s_rMul
  split <;> exact hK _ _
theorem within_both (x y z : Int) (K : Int → Int → Int → Int → Prop) (hK : ∀ a e, K a e a e) : s_Within x y z (fun a e => s_rWithin x y z (fun b f => K a e b f)) := by
  unfold s_Within s_rWithin
  split
  · split <;> exact hK _ _
  · exact hK _ _
theorem p_cL (l : List Int) (hl : l.length ≤ 50) (x1 x2 x3 x4 x5 x6 x7 x8 x9 x10 x11 x12 : Int) (Ke) (Kr : Bool → Prop) (h : Ke x1 x2 x3 x4 x5 x6 x7 x8 x9 x10 x11 x12) : ∀ (w : List Int) (i : Int), l.drop i.toNat = w → 0 ≤ i → i ≤ l.length →
    ∃ m, F_vitrinelaw06_FixedCounts_l11 s_Sum s_rSum s_Mul s_rMul s_Within s_rWithin m l x1 x2 x3 x4 x5 x6 x7 x8 x9 x10 x11 x12 i l Ke Kr
  | [], i, hw, h0, hi => by
    have hle : l.length ≤ i.toNat := List.drop_eq_nil_iff.1 hw
    refine ⟨1, ?_⟩
    simp only [F_vitrinelaw06_FixedCounts_l11]
    exact ⟨fun q => by have := of_decide_eq_true q; omega, fun _ => h⟩
  | x :: w, i, hw, h0, hi => by
    obtain ⟨h1, h2⟩ := drop_more hw
    have e1 : (i + 1).toNat = i.toNat + 1 := by omega
    obtain ⟨m, hm⟩ := p_cL l hl x1 x2 x3 x4 x5 x6 x7 x8 x9 x10 x11 x12 Ke Kr h w (i + 1) (by rw [e1]; exact h1) (by omega) (by omega)
    refine ⟨m + 1, ?_⟩
    simp only [F_vitrinelaw06_FixedCounts_l11]
    exact ⟨fun _ => ⟨by omega, h2, by omega, fun q => absurd rfl (of_decide_eq_true q), fun _ => ⟨by unfold I64; omega, hm⟩⟩, fun q => by have := of_decide_eq_false q; omega⟩
theorem law_counts (a b c l K) (hK : K true) : F_vitrinelaw06_FixedCounts s_Sum s_rSum s_Mul s_rMul s_Within s_rWithin a b c l K := by
  refine ⟨fun _ => hK, fun q => ?_⟩
  have q := of_decide_eq_false q
  refine ⟨by simp; omega, ?_⟩
  show s_Sum l _
  refine sum_both l (by omega) _ fun x e => mul_both a b _ fun y f => within_both a b c _ fun z g => ?_
  refine p_cL l (by omega) _ _ _ _ _ _ _ _ _ _ _ _ _ _ ?_ l 0 rfl (by omega) (by omega)
  show _ ∧ _
  simpa using hK
end Go.Proofs.Ythjnkibldhfhmaa
