/-
  The number path of the tokenizer: specifications, proved; the law of numbers. Nothing is claimed here. (The texts Ua to Uh, one behind the other.)
-/
import Derived.Test.YtcjoehlflbegpaaDoorTf
import Derived.Test.YtcjoehlflbegpaaDoorOb
namespace Go.Proofs.YtcjoehlflbegpaaDoor
open Go.Vm Go.Sx Go.RowKit

/-- The byte at a place, or 0 behind the end. -/
def bt (s : List UInt8) (i : Int) : Int := ((s.getD i.toNat 0).toNat : Int)
def isD (c : Int) : Bool := decide (48 ≤ c) && decide (c ≤ 57)
def isS (c : Int) : Bool := decide (c = 43) || decide (c = 45)
def isX (c : Int) : Bool := decide (c = 101) || decide (c = 69)
def frac (s : List UInt8) (i : Int) : Bool := decide (bt s i = 46) && isD (bt s (i + 1))
def numS (s : List UInt8) (i : Int) : Bool := let j := if isS (bt s i) then i + 1 else i; isD (bt s j) || frac s j
def digS (s : List UInt8) (i : Int) : Bool := if isS (bt s i) then isD (bt s (i + 1)) else isD (bt s i)

abbrev inR (i : Int) : Prop := 0 ≤ i ∧ i < 1000000000000
def S_byteAt : T_token_byteAt := fun s i K => 0 ≤ i ∧ K (bt s i)
def S_isDigit : T_char_IsDigit := fun c K => K (isD c)
def S_isSign : T_token_isSign := fun c K => K (isS c)
def S_isExp : T_token_isExponentMark := fun c K => K (isX c)
def S_frac : T_token_fractionStarts := fun s i K => (0 ≤ i ∧ i < 2000000000000) ∧ K (frac s i)
def S_numS : T_token_numberStarts := fun s i K => inR i ∧ K (numS s i)
def S_digS : T_token_digitStarts := fun s i K => inR i ∧ K (digS s i)

theorem P_byteAt (s i K) (h : S_byteAt s i K) : F_token_byteAt s i K := by
  obtain ⟨h0, h⟩ := h
  unfold F_token_byteAt
  refine ⟨fun q => ⟨⟨h0, of_decide_eq_true q⟩, h⟩, fun q => ?_⟩
  have q := of_decide_eq_false q
  have e : bt s i = 0 := by
    unfold bt
    rw [List.getD_eq_getElem?_getD, List.getElem?_eq_none (by omega)]
    rfl
  rwa [e] at h
theorem P_isDigit (c K) (h : S_isDigit c K) : F_char_IsDigit c K := by
  unfold F_char_IsDigit
  unfold S_isDigit isD at h
  refine ⟨fun q => ?_, fun q => ?_⟩ <;> rw [q] at h <;> exact h
theorem P_isSign (c K) (h : S_isSign c K) : F_token_isSign c K := by
  unfold F_token_isSign
  unfold S_isSign isS at h
  refine ⟨fun q => ?_, fun q => ?_⟩ <;> rw [q] at h <;> exact h
theorem P_isExp (c K) (h : S_isExp c K) : F_token_isExponentMark c K := by
  unfold F_token_isExponentMark
  unfold S_isExp isX at h
  refine ⟨fun q => ?_, fun q => ?_⟩ <;> rw [q] at h <;> exact h
theorem I64s {n : Int} (h : 0 ≤ n ∧ n < 2000000000000) : I64 (n + 1) := by
  unfold I64
  omega
theorem inR.two {n : Int} (h : inR n) : 0 ≤ n ∧ n < 2000000000000 := ⟨h.1, by have := h.2; omega⟩
theorem P_frac (s i K) (h : S_frac s i K) : F_token_fractionStarts S_byteAt S_isDigit s i K := by
  obtain ⟨h0, h⟩ := h
  unfold frac at h
  unfold F_token_fractionStarts S_byteAt S_isDigit
  refine ⟨h0.1, fun q => ⟨I64s h0, by omega, ?_⟩, fun q => ?_⟩ <;> rw [q] at h <;> exact h
theorem P_numS (s i K) (h : S_numS s i K) : F_token_numberStarts S_byteAt S_isSign S_isDigit S_frac s i K := by
  obtain ⟨h0, h⟩ := h
  have h1 := h0.1
  have h2 := h0.2
  unfold numS at h
  unfold F_token_numberStarts S_byteAt S_isDigit S_isSign S_frac
  refine ⟨h0.1, fun q => ⟨I64s h0.two, by omega, ?_⟩, fun q => ⟨h0.1, ?_⟩⟩
  · rw [q] at h
    simp only [if_true] at h
    refine ⟨fun q2 => ⟨by omega, ?_⟩, fun q2 => ?_⟩ <;> rw [q2] at h <;> exact h
  · rw [q] at h
    simp only [Bool.false_eq_true, if_false] at h
    refine ⟨fun q2 => ⟨by omega, ?_⟩, fun q2 => ?_⟩ <;> rw [q2] at h <;> exact h
theorem P_digS (s i K) (h : S_digS s i K) : F_token_digitStarts S_byteAt S_isSign S_isDigit s i K := by
  obtain ⟨h0, h⟩ := h
  unfold digS at h
  unfold F_token_digitStarts S_byteAt S_isDigit S_isSign
  refine ⟨h0.1, fun q => ⟨I64s h0.two, by have := h0.1; omega, ?_⟩, fun q => ⟨h0.1, ?_⟩⟩ <;> simpa [q] using h

/-! ### Runs of digits -/

/-- Where the digits from a place on end. -/
def dend (s : List UInt8) (i : Int) : Int := i + (((s.drop i.toNat).takeWhile fun b => isD (b.toNat : Int)).length : Int)
theorem bt_lt {s : List UInt8} {i : Int} (h : isD (bt s i) = true) : i.toNat < s.length := by
  by_cases q : i.toNat < s.length
  · exact q
  · exfalso
    unfold bt at h
    rw [List.getD_eq_getElem?_getD, List.getElem?_eq_none (by omega)] at h
    exact absurd h (by decide)
theorem bt_eq {s : List UInt8} {i : Int} (h : i.toNat < s.length) : bt s i = (s[i.toNat].toNat : Int) := by
  unfold bt
  rw [List.getD_eq_getElem?_getD, List.getElem?_eq_getElem h]
  rfl
theorem dend_step {s : List UInt8} {i : Int} (h0 : 0 ≤ i) (h : isD (bt s i) = true) : dend s i = dend s (i + 1) := by
  have hl := bt_lt h
  rw [bt_eq hl] at h
  have e : (i + 1).toNat = i.toNat + 1 := by omega
  unfold dend
  rw [e, List.drop_eq_getElem_cons hl, List.takeWhile_cons, if_pos h, List.length_cons]
  omega
theorem dend_stop {s : List UInt8} {i : Int} (h : isD (bt s i) = false) : dend s i = i := by
  unfold dend
  by_cases hl : i.toNat < s.length
  · rw [bt_eq hl] at h
    rw [List.drop_eq_getElem_cons hl, List.takeWhile_cons, if_neg (by rw [h]; decide)]
    simp
  · rw [List.drop_of_length_le (by omega)]
    simp
theorem dend_le (s : List UInt8) (i : Int) : i ≤ dend s i := by unfold dend; omega
theorem dend_len {s : List UInt8} {i : Int} (h0 : 0 ≤ i) (h : i ≤ s.length) : dend s i ≤ s.length := by
  unfold dend
  have := (List.takeWhile_sublist (l := s.drop i.toNat) fun b => isD (b.toNat : Int)).length_le
  rw [List.length_drop] at this
  omega

theorem P_digits (s : List UInt8) (hs : s.length ≤ 1000000) (x : Int) (Ke : Int → List UInt8 → Int → Prop) : ∀ (n : Nat) (i : Int), 0 ≤ i → i < 10000000 → s.length - i.toNat ≤ n → Ke x s (dend s i) → ∃ m, F_token_readNumber_2_l2 S_byteAt S_isDigit m x s i Ke := by
  intro n
  induction n with
  | zero =>
    intro i h0 h1 hn h
    have q : isD (bt s i) = false := by
      cases q : isD (bt s i) with
      | false => rfl
      | true => have := bt_lt q; omega
    rw [dend_stop q] at h
    exact ⟨1, h0, fun q2 => (by rw [q] at q2; cases q2), fun _ => h⟩
  | succ n ih =>
    intro i h0 h1 hn h
    cases q : isD (bt s i) with
    | false =>
      rw [dend_stop q] at h
      exact ⟨1, h0, fun q2 => (by rw [q] at q2; cases q2), fun _ => h⟩
    | true =>
      have hl := bt_lt q
      rw [dend_step h0 q] at h
      obtain ⟨m, hm⟩ := ih (i + 1) (by omega) (by omega) (by omega) h
      exact ⟨m + 1, h0, fun _ => ⟨I64s ⟨h0, by omega⟩, hm⟩, fun q2 => (by rw [q] at q2; cases q2)⟩
end Go.Proofs.YtcjoehlflbegpaaDoor

namespace Go.Proofs.YtcjoehlflbegpaaDoor
open Go.Vm Go.Sx Go.RowKit

theorem w8 {n : Int} (h0 : 0 ≤ n) (h1 : n ≤ 255) : IntKind.u8.wrap n = n := by rw [IntKind.wrap_u8]; omega
def AllD (s : List UInt8) : Prop := ∀ b, b ∈ s → 48 ≤ b.toNat ∧ b.toNat ≤ 57
theorem AllD.bt {s : List UInt8} (h : AllD s) {i : Int} (h0 : 0 ≤ i) (h1 : i < s.length) : 48 ≤ ((s.getD i.toNat 0).toNat : Int) ∧ ((s.getD i.toNat 0).toNat : Int) ≤ 57 := by
  have hl : i.toNat < s.length := by omega
  have := h _ (List.getElem_mem hl)
  rw [List.getD_eq_getElem?_getD, List.getElem?_eq_getElem hl, Option.getD_some]
  omega

/-- A single digit. -/
def S_whole : T_token_wholeNumber := fun s K => ∃ c : UInt8, s = [c] ∧ (48 ≤ c.toNat ∧ c.toNat ≤ 57) ∧ K ((c.toNat : Int) - 48)
theorem P_whole (s K) (h : S_whole s K) : F_token_wholeNumber s K := by
  obtain ⟨c, rfl, hc, h⟩ := h
  have e : IntKind.u8.wrap ((([c] : List UInt8).getD (0 : Int).toNat 0).toNat - 48 : Int) = (c.toNat : Int) - 48 := by
    show IntKind.u8.wrap ((c.toNat : Int) - 48) = _
    rw [w8 (by omega) (by omega)]
  refine ⟨2, fun _ => ⟨by unfold I64; omega, ⟨by omega, by simp⟩, ?_, ?_, by unfold I64; omega, fun q => ?_, fun q => ?_⟩, fun q => ?_⟩
  · rw [e]; unfold I64; omega
  · rw [e]; unfold I64; omega
  · exfalso; have := of_decide_eq_true q; simp at this
  · rw [e, if_neg (by omega)]
    have : (10 : Int) * 0 + ((c.toNat : Int) - 48) = (c.toNat : Int) - 48 := by omega
    rw [this]
    exact h
  · exfalso; have := of_decide_eq_false q; simp at this

/-- Zeros cut off. -/
def trim0 (s : List UInt8) : List UInt8 := s.dropWhile fun b => b == 48
theorem P_trimB : ∀ (s : List UInt8) (Ke : List UInt8 → Prop), Ke (trim0 s) → ∃ m, F_strings_trimLeftByte_l1 m s 48 Ke
  | [], Ke, h => ⟨1, fun q => (by simp at q), fun _ => h⟩
  | b :: s, Ke, h => by
    cases q : b == 48 with
    | false =>
      have : trim0 (b :: s) = b :: s := by unfold trim0; rw [List.dropWhile_cons, if_neg (by rw [q]; decide)]
      rw [this] at h
      refine ⟨1, fun _ => ⟨⟨by omega, by simp⟩, fun q2 => ?_, fun _ => h⟩, fun q2 => ?_⟩
      · exfalso
        have q2 := of_decide_eq_true q2
        have : b = 48 := UInt8.toNat_inj.mp (by show b.toNat = 48; have : (b.toNat : Int) = 48 := q2; omega)
        rw [this] at q
        exact absurd q (by decide)
      · exfalso; have := of_decide_eq_false q2; simp at this
    | true =>
      have e : b = 48 := eq_of_beq q
      have : trim0 (b :: s) = trim0 s := by unfold trim0; rw [List.dropWhile_cons, if_pos q]
      rw [this] at h
      obtain ⟨m, hm⟩ := P_trimB s Ke h
      subst e
      exact ⟨m + 1, fun _ => ⟨⟨by omega, by simp⟩, fun _ => ⟨⟨by omega, by rw [List.length_cons]; omega⟩, hm⟩, fun q2 => (by cases (show true = false from q2))⟩, fun q2 => (by exfalso; have := of_decide_eq_false q2; simp at this)⟩
def S_trimB : T_strings_trimLeftByte := fun s c K => c = 48 ∧ K (trim0 s)
theorem P_trimLB (s c K) (h : S_trimB s c K) : F_strings_trimLeftByte s c K := by
  obtain ⟨rfl, h⟩ := h
  exact P_trimB s _ h
def S_trim : T_strings_TrimLeft := fun s c K => c = [48] ∧ K (trim0 s)
theorem P_trim (s c K) (h : S_trim s c K) : F_strings_TrimLeft S_trimB s c K := by
  obtain ⟨rfl, h⟩ := h
  refine ⟨fun _ => ⟨fun q => (by exact absurd q (by decide)), fun _ => ⟨fun _ => ⟨⟨by omega, by decide⟩, fun _ => ⟨⟨by omega, by decide⟩, rfl, h⟩, fun q => absurd q (by decide)⟩, fun q => absurd q (by decide)⟩⟩, fun q => ?_⟩
  have : s = [] := eq_of_beq q
  subst this
  exact h

/-- Digits behind a place, a zero for each that is not there. -/
def pad (s : List UInt8) (i : Int) : Int := if i < s.length then ((s.getD i.toNat 0).toNat : Int) - 48 else 0
def pvl (s : List UInt8) : Int → Int → Nat → Int
  | a, _, 0 => a
  | a, i, k + 1 => pvl s (a * 10 + pad s i) (i + 1) k
theorem pad_in {s : List UInt8} (hd : AllD s) {i : Int} (h0 : 0 ≤ i) : 0 ≤ pad s i ∧ pad s i ≤ 9 := by
  unfold pad
  split
  · have := hd.bt h0 (by assumption); omega
  · omega
theorem P_cutL {s : List UInt8} (hd : AllD s) (p : Int) (A : T_strings_TrimLeft) (Ke : Int → Prop) : ∀ (k i : Nat) (a : Int), (i : Int) + k = p → i + k ≤ 13 → 0 ≤ a → a < ((10 ^ i : Nat) : Int) → Ke (pvl s a i k) → ∃ m, F_token_cutNumber_l9 A m s a p i Ke
  | 0, i, a, hp, _, _, _, h => ⟨1, fun q => (by exfalso; have := of_decide_eq_true q; omega), fun _ => h⟩
  | k + 1, i, a, hp, h13, ha, hb, h => by
    have hpad := pad_in hd (i := (i : Int)) (by omega)
    have e10 : 10 ^ i ≤ 10 ^ 13 := Nat.pow_le_pow_right (by omega) (by omega)
    have e13 : 10 ^ 13 = 10000000000000 := by decide
    have es : 10 ^ (i + 1) = 10 ^ i * 10 := Nat.pow_succ _ _
    obtain ⟨m, hm⟩ := P_cutL hd p A Ke k (i + 1) (a * 10 + pad s i) (by omega) (by omega) (by omega) (by rw [es]; omega) h
    refine ⟨m + 1, fun _ => ⟨by unfold I64; omega, fun q => ?_, fun q => ?_⟩, fun q => (by exfalso; have := of_decide_eq_false q; omega)⟩
    · have q := of_decide_eq_true q
      have hb := hd.bt (i := (i : Int)) (by omega) q
      have e : pad s i = ((s.getD (i : Int).toNat 0).toNat : Int) - 48 := by unfold pad; rw [if_pos q]
      rw [w8 (by omega) (by omega), ← e]
      exact ⟨⟨by omega, q⟩, by unfold I64; omega, by unfold I64; omega, by unfold I64; omega, hm⟩
    · have q := of_decide_eq_false q
      have e : pad s i = 0 := by unfold pad; rw [if_neg q]
      rw [e, Int.add_zero] at hm
      exact ⟨by unfold I64; omega, hm⟩

/-- A number cut to thousandths, as the law's three texts need it. -/
def S_cut : T_token_cutNumber := fun s p K => AllD s ∧ s.length ≤ 1000 ∧ 0 < p ∧ p ≤ 13 ∧ ((trim0 s = [] ∧ K 0) ∨ (s ≠ [] ∧ trim0 s = s ∧ pvl s 0 0 p.toNat ≤ 1000000000000 ∧ K (pvl s 0 0 p.toNat)))
theorem P_cut (s p K) (h : S_cut s p K) : F_token_cutNumber S_trim s p K := by
  obtain ⟨hd, hl, h0, h1, h⟩ := h
  have hz : (trim0 s).length ≤ s.length := (List.dropWhile_sublist _).length_le
  refine ⟨rfl, by unfold I64; omega, by unfold I64; omega, fun q => ?_, fun q => ?_⟩
  · rcases h with ⟨h2, _⟩ | ⟨_, h2, h3, h4⟩
    · rw [h2] at q; exact absurd q (by decide)
    · rw [h2]
      have e : p - ((s.length : Int) - (s.length : Int)) = p := by omega
      rw [e]
      refine ⟨fun q => (by exfalso; have := of_decide_eq_true q; omega), fun _ => ⟨fun q => (by exfalso; have := of_decide_eq_true q; omega), fun _ => ?_⟩⟩
      refine P_cutL hd p S_trim _ p.toNat 0 0 (by omega) (by omega) (by omega) (by decide) ?_
      show K (if _ then _ else _)
      rw [if_neg (by show ¬ _; have : pvl s 0 ((0 : Nat) : Int) p.toNat = pvl s 0 0 p.toNat := rfl; omega)]
      exact h4
  · rcases h with ⟨h2, h3⟩ | ⟨h1, h2, h3, h4⟩
    · exact h3
    · rw [h2] at q
      exact absurd (eq_of_beq q) h1
end Go.Proofs.YtcjoehlflbegpaaDoor

namespace Go.Proofs.YtcjoehlflbegpaaDoor
open Go.Vm Go.Sx Go.RowKit

/-- Where a number's digits begin. -/
def nst (s : List UInt8) (i : Int) : Int := if isS (bt s i) then i + 1 else i
def cutS (s : List UInt8) (i j : Int) : List UInt8 := (s.drop i.toNat).take (j.toNat - i.toNat)
abbrev F_rdN := F_token_readNumber S_frac S_byteAt S_isExp S_digS S_whole S_cut S_isSign S_isDigit
/-- The last step: the sign. -/
def sgnK (s : List UInt8) (i : Int) (b : Bool) (j : Int) (K : Int → Bool → Int → Prop) (v : Int) : Prop :=
  (decide (bt s i = 45) = true → I64 (0 - v) ∧ K (0 - v) b j) ∧ (decide (bt s i = 45) = false → K v b j)

theorem isS_in {s : List UInt8} {i : Int} (h : isS (bt s i) = true) : i.toNat < s.length := by
  by_cases q : i.toNat < s.length
  · exact q
  · exfalso
    unfold bt at h
    rw [List.getD_eq_getElem?_getD, List.getElem?_eq_none (by omega)] at h
    exact absurd h (by decide)

theorem cutS_len {s : List UInt8} (i j : Int) : (cutS s i j).length ≤ s.length := by
  unfold cutS
  rw [List.length_take, List.length_drop]
  omega

/-- A whole number. -/
theorem P_rdA (s : List UInt8) (i : Int) (K : Int → Bool → Int → Prop) (hs : s.length ≤ 1000000) (h0 : 0 ≤ i) (hi : i ≤ s.length)
    (hf : frac s (dend s (nst s i)) = false) (hx : isX (bt s (dend s (nst s i))) = false)
    (h : S_cut (cutS s (nst s i) (dend s (nst s i)) ++ []) (((cutS s (nst s i) (dend s (nst s i))).length : Int) + 0 + 3) (sgnK s i true (dend s (nst s i)) K)) : F_rdN s i K := by
  have hc := cutS_len (s := s) (nst s i) (dend s (nst s i))
  have fin : ∀ j : Int, 0 ≤ j → j ≤ s.length → j = nst s i → (0 ≤ j ∧ j ≤ dend s j ∧ dend s j ≤ (s.length : Int)) ∧ S_frac s (dend s j) (fun y7 => (y7 = true → False) ∧ (y7 = false → S_byteAt s (dend s j) fun y31 => S_isExp y31 fun y32 => (y32 = true → False) ∧ (y32 = false → (cutS s j (dend s j)).length + ([] : List UInt8).length ≤ 1099511627776 ∧ I64 (((cutS s j (dend s j)).length : Int) + 0) ∧ I64 (((cutS s j (dend s j)).length : Int) + 0 + 3) ∧ S_cut (cutS s j (dend s j) ++ []) (((cutS s j (dend s j)).length : Int) + 0 + 3) (sgnK s i true (dend s j) K)))) := by
    intro j hj0 hj1 e
    have d1 := dend_le s j
    have d2 := dend_len hj0 hj1
    rw [← e] at hf hx h hc
    refine ⟨⟨hj0, d1, d2⟩, ⟨by omega, by omega⟩, fun q => ?_, fun _ => ⟨by omega, fun q => ?_, fun _ => ⟨by simp only [List.length_nil]; omega, by unfold I64; omega, by unfold I64; omega, h⟩⟩⟩
    · rw [hf] at q; cases q
    · rw [hx] at q; cases q
  refine ⟨h0, h0, fun q => ⟨by unfold I64; omega, ?_⟩, fun q => ?_⟩
  · have hl := isS_in q
    have e : i + 1 = nst s i := by unfold nst; rw [q]; rfl
    refine P_digits s hs _ _ s.length (i + 1) (by omega) (by omega) (by omega) ?_
    have g := fin (i + 1) (by omega) (by omega) e
    refine ⟨g.1, g.2.1, fun q7 => (g.2.2.1 q7).elim, fun q7 => ?_⟩
    have g2 := g.2.2.2 q7
    exact ⟨g2.1, fun q8 => (g2.2.1 q8).elim, g2.2.2⟩
  · have e : i = nst s i := by unfold nst; rw [q]; rfl
    refine P_digits s hs _ _ s.length i (by omega) (by omega) (by omega) ?_
    have g := fin i (by omega) (by omega) e
    refine ⟨g.1, g.2.1, fun q7 => (g.2.2.1 q7).elim, fun q7 => ?_⟩
    have g2 := g.2.2.2 q7
    exact ⟨g2.1, fun q8 => (g2.2.1 q8).elim, g2.2.2⟩

/-- With a fraction, without an exponent. -/
theorem P_rdB (s : List UInt8) (i : Int) (K : Int → Bool → Int → Prop) (hs : s.length ≤ 1000000) (h0 : 0 ≤ i) (hi : i ≤ s.length)
    (hf : frac s (dend s (nst s i)) = true) (hx : isX (bt s (dend s (dend s (nst s i) + 1))) = false)
    (h : S_cut (cutS s (nst s i) (dend s (nst s i)) ++ cutS s (dend s (nst s i) + 1) (dend s (dend s (nst s i) + 1))) (((cutS s (nst s i) (dend s (nst s i))).length : Int) + 0 + 3) (sgnK s i false (dend s (dend s (nst s i) + 1)) K)) : F_rdN s i K := by
  have hc := cutS_len (s := s) (nst s i) (dend s (nst s i))
  have hc2 := cutS_len (s := s) (dend s (nst s i) + 1) (dend s (dend s (nst s i) + 1))
  have fin : ∀ j : Int, 0 ≤ j → j ≤ s.length → j = nst s i → (0 ≤ j ∧ j ≤ dend s j ∧ dend s j ≤ (s.length : Int)) ∧ S_frac s (dend s j) (fun y7 => (y7 = true → I64 (dend s j + 1) ∧ dend s j + 1 ≤ s.length ∧ ((0 ≤ dend s j + 1 ∧ dend s j + 1 ≤ dend s (dend s j + 1) ∧ dend s (dend s j + 1) ≤ (s.length : Int)) ∧ S_byteAt s (dend s (dend s j + 1)) fun y31 => S_isExp y31 fun y32 => (y32 = true → False) ∧ (y32 = false → (cutS s j (dend s j)).length + (cutS s (dend s j + 1) (dend s (dend s j + 1))).length ≤ 1099511627776 ∧ I64 (((cutS s j (dend s j)).length : Int) + 0) ∧ I64 (((cutS s j (dend s j)).length : Int) + 0 + 3) ∧ S_cut (cutS s j (dend s j) ++ cutS s (dend s j + 1) (dend s (dend s j + 1))) (((cutS s j (dend s j)).length : Int) + 0 + 3) (sgnK s i false (dend s (dend s j + 1)) K)))) ∧ (y7 = false → False)) := by
    intro j hj0 hj1 e
    have d1 := dend_le s j
    have d2 := dend_len hj0 hj1
    rw [← e] at hf hx h hc hc2
    have hl : dend s j + 1 ≤ s.length := by
      have q : decide (bt s (dend s j) = 46) = true := by unfold frac at hf; rw [Bool.and_eq_true] at hf; exact hf.1
      by_cases q2 : (dend s j).toNat < s.length
      · omega
      · exfalso
        unfold bt at q
        rw [List.getD_eq_getElem?_getD, List.getElem?_eq_none (by omega)] at q
        exact absurd q (by decide)
    have d3 := dend_le s (dend s j + 1)
    have d4 := dend_len (s := s) (i := dend s j + 1) (by omega) hl
    refine ⟨⟨hj0, d1, d2⟩, ⟨by omega, by omega⟩, fun _ => ⟨by unfold I64; omega, hl, ⟨by omega, d3, d4⟩, by omega, fun q => ?_, fun _ => ⟨by omega, by unfold I64; omega, by unfold I64; omega, h⟩⟩, fun q => ?_⟩
    · rw [hx] at q; cases q
    · rw [hf] at q; cases q
  refine ⟨h0, h0, fun q => ⟨by unfold I64; omega, ?_⟩, fun q => ?_⟩
  · have hl := isS_in q
    have e : i + 1 = nst s i := by unfold nst; rw [q]; rfl
    refine P_digits s hs _ _ s.length (i + 1) (by omega) (by omega) (by omega) ?_
    have g := fin (i + 1) (by omega) (by omega) e
    refine ⟨g.1, g.2.1, fun q7 => ?_, fun q7 => (g.2.2.2 q7).elim⟩
    have g2 := g.2.2.1 q7
    refine ⟨g2.1, P_digits s hs _ _ s.length (dend s (i + 1) + 1) (by have := g.1; omega) (by omega) (by omega) ⟨g2.2.2.1, g2.2.2.2.1, fun q8 => (g2.2.2.2.2.1 q8).elim, g2.2.2.2.2.2⟩⟩
  · have e : i = nst s i := by unfold nst; rw [q]; rfl
    refine P_digits s hs _ _ s.length i (by omega) (by omega) (by omega) ?_
    have g := fin i (by omega) (by omega) e
    refine ⟨g.1, g.2.1, fun q7 => ?_, fun q7 => (g.2.2.2 q7).elim⟩
    have g2 := g.2.2.1 q7
    refine ⟨g2.1, P_digits s hs _ _ s.length (dend s i + 1) (by have := g.1; omega) (by omega) (by omega) ⟨g2.2.2.1, g2.2.2.2.1, fun q8 => (g2.2.2.2.2.1 q8).elim, g2.2.2.2.2.2⟩⟩

/-- A whole number with an exponent of one digit below zero. -/
theorem P_rdC (s : List UInt8) (i : Int) (K : Int → Bool → Int → Prop) (hs : s.length ≤ 1000000) (h0 : 0 ≤ i) (hi : i ≤ s.length)
    (hf : frac s (dend s (nst s i)) = false) (hx : isX (bt s (dend s (nst s i))) = true) (hm : bt s (dend s (nst s i) + 1) = 45) (hg : isD (bt s (dend s (nst s i) + 2)) = true) (c : UInt8) (hc1 : 48 ≤ c.toNat ∧ c.toNat ≤ 57) (hcc : cutS s (dend s (nst s i) + 2) (dend s (dend s (nst s i) + 2)) = [c])
    (h : S_cut (cutS s (nst s i) (dend s (nst s i)) ++ []) (((cutS s (nst s i) (dend s (nst s i))).length : Int) + (0 - ((c.toNat : Int) - 48)) + 3) (sgnK s i false (dend s (dend s (nst s i) + 2)) K)) : F_rdN s i K := by
  have hc := cutS_len (s := s) (nst s i) (dend s (nst s i))
  have hl := bt_lt hg
  have hsg : isS (bt s (dend s (nst s i) + 1)) = true := by rw [hm]; decide
  have hdg : digS s (dend s (nst s i) + 1) = true := by
    unfold digS
    rw [hsg, if_pos rfl]
    have : dend s (nst s i) + 1 + 1 = dend s (nst s i) + 2 := by omega
    rw [this]; exact hg
  have e2 : ∀ j : Int, j + 1 + 1 = j + 2 := fun j => by omega
  have fin : ∀ j : Int, 0 ≤ j → j ≤ s.length → j = nst s i → (0 ≤ j ∧ j ≤ dend s j ∧ dend s j ≤ (s.length : Int)) ∧ S_frac s (dend s j) (fun y7 => (y7 = true → False) ∧ (y7 = false → S_byteAt s (dend s j) fun y31 => S_isExp y31 fun y32 => (y32 = true → I64 (dend s j + 1) ∧ S_digS s (dend s j + 1) fun y33 => (y33 = true → I64 (dend s j + 1) ∧ S_byteAt s (dend s j + 1) fun y34 => S_byteAt s (dend s j + 1) fun y35 => S_isSign y35 fun y36 => (y36 = true → I64 (dend s j + 1 + 1) ∧ dend s j + 1 + 1 ≤ s.length ∧ ((0 ≤ dend s j + 1 + 1 ∧ dend s j + 1 + 1 ≤ dend s (dend s j + 1 + 1) ∧ dend s (dend s j + 1 + 1) ≤ (s.length : Int)) ∧ S_whole (cutS s (dend s j + 1 + 1) (dend s (dend s j + 1 + 1))) fun y40 => (decide (y34 = 45) = true → I64 (0 - y40) ∧ (cutS s j (dend s j)).length + ([] : List UInt8).length ≤ 1099511627776 ∧ I64 (((cutS s j (dend s j)).length : Int) + (0 - y40)) ∧ I64 (((cutS s j (dend s j)).length : Int) + (0 - y40) + 3) ∧ S_cut (cutS s j (dend s j) ++ []) (((cutS s j (dend s j)).length : Int) + (0 - y40) + 3) (sgnK s i false (dend s (dend s j + 1 + 1)) K)) ∧ (decide (y34 = 45) = false → False))) ∧ (y36 = false → False)) ∧ (y33 = false → False)) ∧ (y32 = false → False))) := by
    intro j hj0 hj1 e
    have d1 := dend_le s j
    have d2 := dend_len hj0 hj1
    rw [← e] at hf hx h hc hm hg hcc hl hsg hdg
    have d3 := dend_le s (dend s j + 2)
    have d4 := dend_len (s := s) (i := dend s j + 2) (by omega) (by omega)
    simp only [e2]
    refine ⟨⟨hj0, d1, d2⟩, ⟨by omega, by omega⟩, fun q => (by rw [hf] at q; cases q), fun _ => ⟨by omega, fun _ => ⟨by unfold I64; omega, ⟨by omega, by omega⟩, fun _ => ⟨by unfold I64; omega, by omega, by omega, fun _ => ⟨by unfold I64; omega, by omega, ⟨by omega, d3, d4⟩, c, hcc, hc1, fun _ => ⟨by unfold I64; omega, by simp only [List.length_nil]; omega, by unfold I64; omega, by unfold I64; omega, h⟩, fun q => ?_⟩, fun q => ?_⟩, fun q => ?_⟩, fun q => ?_⟩⟩
    · rw [hm] at q; exact absurd q (by decide)
    · rw [hsg] at q; cases q
    · rw [hdg] at q; cases q
    · rw [hx] at q; cases q
  refine ⟨h0, h0, fun q => ⟨by unfold I64; omega, ?_⟩, fun q => ?_⟩
  · have hl := isS_in q
    have e : i + 1 = nst s i := by unfold nst; rw [q]; rfl
    refine P_digits s hs _ _ s.length (i + 1) (by omega) (by omega) (by omega) ?_
    have g := fin (i + 1) (by omega) (by omega) e
    refine ⟨g.1, g.2.1, fun q7 => (g.2.2.1 q7).elim, fun q7 => ?_⟩
    have g2 := g.2.2.2 q7
    refine ⟨g2.1, fun q8 => ?_, fun q8 => (g2.2.2 q8).elim⟩
    have g3 := g2.2.1 q8
    refine ⟨g3.1, g3.2.1, fun q9 => ?_, fun q9 => (g3.2.2.2 q9).elim⟩
    have g4 := g3.2.2.1 q9
    refine ⟨g4.1, g4.2.1, g4.2.2.1, fun q10 => ?_, fun q10 => (g4.2.2.2.2 q10).elim⟩
    have g5 := g4.2.2.2.1 q10
    refine ⟨g5.1, P_digits s hs _ _ s.length _ g5.2.2.1.1 (by have := g5.2.1; omega) (by omega) ⟨g5.2.2.1, ?_⟩⟩
    obtain ⟨c', w1, w2, w3, w4⟩ := g5.2.2.2
    exact ⟨c', w1, w2, w3, fun q11 => (w4 q11).elim⟩
  · have e : i = nst s i := by unfold nst; rw [q]; rfl
    refine P_digits s hs _ _ s.length i (by omega) (by omega) (by omega) ?_
    have g := fin i (by omega) (by omega) e
    refine ⟨g.1, g.2.1, fun q7 => (g.2.2.1 q7).elim, fun q7 => ?_⟩
    have g2 := g.2.2.2 q7
    refine ⟨g2.1, fun q8 => ?_, fun q8 => (g2.2.2 q8).elim⟩
    have g3 := g2.2.1 q8
    refine ⟨g3.1, g3.2.1, fun q9 => ?_, fun q9 => (g3.2.2.2 q9).elim⟩
    have g4 := g3.2.2.1 q9
    refine ⟨g4.1, g4.2.1, g4.2.2.1, fun q10 => ?_, fun q10 => (g4.2.2.2.2 q10).elim⟩
    have g5 := g4.2.2.2.1 q10
    refine ⟨g5.1, P_digits s hs _ _ s.length _ g5.2.2.1.1 (by have := g5.2.1; omega) (by omega) ⟨g5.2.2.1, ?_⟩⟩
    obtain ⟨c', w1, w2, w3, w4⟩ := g5.2.2.2
    exact ⟨c', w1, w2, w3, fun q11 => (w4 q11).elim⟩
end Go.Proofs.YtcjoehlflbegpaaDoor

namespace Go.Proofs.YtcjoehlflbegpaaDoor
open Go.Vm Go.Sx Go.RowKit

theorem dend_app (p ds r : List UInt8) (hd : AllD ds) (hr : ∀ b, r.head? = some b → isD (b.toNat : Int) = false) : dend (p ++ (ds ++ r)) (p.length : Int) = (p.length : Int) + ds.length := by
  unfold dend
  rw [Int.toNat_natCast, List.drop_left, List.takeWhile_append_of_pos]
  · have : r.takeWhile (fun b => isD (b.toNat : Int)) = [] := by
      cases r with
      | nil => rfl
      | cons b r => rw [List.takeWhile_cons, if_neg (by rw [hr b rfl]; decide)]
    rw [this, List.append_nil]
  · intro b hb
    have := hd b hb
    unfold isD
    simp only [Bool.and_eq_true, decide_eq_true_eq]
    omega
theorem cutS_app (p ds r : List UInt8) : cutS (p ++ (ds ++ r)) (p.length : Int) ((p.length : Int) + ds.length) = ds := by
  unfold cutS
  have : ((p.length : Int) + ds.length).toNat - (p.length : Int).toNat = ds.length := by omega
  rw [this, Int.toNat_natCast, List.drop_left, List.take_left]
theorem bt_app (p : List UInt8) (b : UInt8) (r : List UInt8) : bt (p ++ b :: r) (p.length : Int) = (b.toNat : Int) := by
  unfold bt
  rw [Int.toNat_natCast, List.getD_eq_getElem?_getD, List.getElem?_append_right (Nat.le_refl _), Nat.sub_self]
  rfl
theorem bt_end (p : List UInt8) : bt p (p.length : Int) = 0 := by
  unfold bt
  rw [Int.toNat_natCast, List.getD_eq_getElem?_getD, List.getElem?_eq_none (Nat.le_refl _)]
  rfl

/-- What digits say. -/
def vl : List UInt8 → Int → Int
  | [], a => a
  | b :: r, a => vl r (a * 10 + ((b.toNat : Int) - 48))
theorem vl_app : ∀ (x y : List UInt8) (a : Int), vl (x ++ y) a = vl y (vl x a)
  | [], _, _ => rfl
  | b :: x, y, a => by rw [List.cons_append]; exact vl_app x y _

theorem pvl_run : ∀ (ds p zs : List UInt8) (a : Int) (m : Nat), pvl (p ++ (ds ++ zs)) a p.length (ds.length + m) = pvl (p ++ (ds ++ zs)) (vl ds a) (p.length + ds.length) m
  | [], p, zs, a, m => by simp [vl]
  | b :: ds, p, zs, a, m => by
    have e : pad (p ++ (b :: ds ++ zs)) p.length = (b.toNat : Int) - 48 := by
      unfold pad
      rw [if_pos (by rw [List.length_append, List.cons_append, List.length_cons]; omega)]
      have := bt_app p b (ds ++ zs)
      unfold bt at this
      rw [List.cons_append, this]
    have h := pvl_run ds (p ++ [b]) zs (a * 10 + ((b.toNat : Int) - 48)) m
    have ea : p ++ [b] ++ (ds ++ zs) = p ++ (b :: ds ++ zs) := by simp
    rw [ea] at h
    have el : (b :: ds).length + m = (ds.length + m) + 1 := by rw [List.length_cons]; omega
    rw [el]
    show pvl _ (a * 10 + pad _ _) _ _ = _
    rw [e]
    have e1 : ((p ++ [b]).length : Int) = (p.length : Int) + 1 := by simp
    rw [e1] at h
    rw [h]
    have e2 : (p.length : Int) + 1 + ds.length = (p.length : Int) + (b :: ds).length := by rw [List.length_cons]; omega
    rw [e2]
    rfl
def AllZ (s : List UInt8) : Prop := ∀ b, b ∈ s → b = 48
theorem pad_z (d zs : List UInt8) (hz : AllZ zs) (q : Nat) : pad (d ++ zs) ((d.length : Int) + q) = 0 := by
  unfold pad
  split
  · rename_i h
    have hl : d.length + q < (d ++ zs).length := by omega
    have e : ((d.length : Int) + q).toNat = d.length + q := by omega
    rw [e, List.getD_eq_getElem?_getD, List.getElem?_append_right (by omega), Nat.add_sub_cancel_left]
    have hq : q < zs.length := by rw [List.length_append] at hl; omega
    rw [List.getElem?_eq_getElem hq, hz _ (List.getElem_mem hq)]
    rfl
  · rfl
theorem pvl_law (d zs : List UInt8) (hz : AllZ zs) : pvl (d ++ zs) 0 0 (d.length + 3) = vl d 0 * 1000 := by
  have h := pvl_run d [] zs 0 3
  rw [List.nil_append] at h
  have e0 : (([] : List UInt8).length : Int) = 0 := rfl
  rw [e0] at h
  rw [h]
  have p0 := pad_z d zs hz 0
  have p1 := pad_z d zs hz 1
  have p2 := pad_z d zs hz 2
  show ((vl d 0 * 10 + pad _ _) * 10 + pad _ _) * 10 + pad _ _ = _
  have a0 : (0 : Int) + d.length = (d.length : Int) + (0 : Nat) := by omega
  have a1 : (0 : Int) + d.length + 1 = (d.length : Int) + (1 : Nat) := by omega
  have a2 : (0 : Int) + d.length + 1 + 1 = (d.length : Int) + (2 : Nat) := by omega
  rw [a2, a1, a0, p0, p1, p2]
  omega

theorem trim0_z : ∀ (s : List UInt8), AllZ s → trim0 s = []
  | [], _ => rfl
  | b :: s, h => by
    have e := h b (List.mem_cons_self ..)
    unfold trim0
    rw [List.dropWhile_cons, if_pos (by rw [e]; decide)]
    exact trim0_z s fun c hc => h c (List.mem_cons_of_mem _ hc)
theorem S_cut_of (d zs : List UInt8) (hd : AllD d) (hz : AllZ zs) (h6 : d.length ≤ 6) (h1 : 1 ≤ d.length) (hzs : zs.length ≤ 20) (hh : (∃ b r, d = b :: r ∧ b ≠ 48) ∨ d = [48]) (hv : vl d 0 ≤ 1000000) (p : Int) (hp : p = (d.length : Int) + 3) (K : Int → Prop) (h : K (vl d 0 * 1000)) : S_cut (d ++ zs) p K := by
  subst hp
  refine ⟨fun b hb => ?_, by rw [List.length_append]; omega, by omega, by omega, ?_⟩
  · rcases List.mem_append.mp hb with q | q
    · exact hd b q
    · rw [hz b q]; decide
  · rcases hh with ⟨b, r, rfl, hb⟩ | rfl
    · have e : ((((b :: r : List UInt8).length : Int) + 3).toNat) = (b :: r).length + 3 := by omega
      refine .inr ⟨by simp, ?_, ?_, ?_⟩
      · unfold trim0
        rw [List.cons_append, List.dropWhile_cons, if_neg (by intro q; exact hb (eq_of_beq q))]
      · rw [e, pvl_law _ _ hz]; omega
      · rw [e, pvl_law _ _ hz]; exact h
    · refine .inl ⟨trim0_z _ fun b hb => ?_, h⟩
      rcases List.mem_append.mp hb with q | q
      · exact List.mem_singleton.mp q
      · exact hz b q

/-- The digits of a number. -/
def dg : Nat → Nat → List UInt8
  | 0, _ => []
  | f + 1, n => if n < 10 then [UInt8.ofNat (48 + n)] else dg f (n / 10) ++ [UInt8.ofNat (48 + n % 10)]
theorem d8 {n : Nat} (h : n < 10) : (UInt8.ofNat (48 + n)).toNat = 48 + n := by
  rw [UInt8.toNat_ofNat']; omega
theorem dg_ok : ∀ (f n : Nat), 0 < f → n < 10 ^ f → AllD (dg f n) ∧ (dg f n).length ≤ f ∧ 1 ≤ (dg f n).length ∧ vl (dg f n) 0 = n ∧ ((∃ b r, dg f n = b :: r ∧ b ≠ 48) ∨ dg f n = [48]) ∧ (n ≠ 0 → ∃ b r, dg f n = b :: r ∧ b ≠ 48)
  | 0, n, h, _ => by omega
  | f + 1, n, _, hn => by
    by_cases h : n < 10
    · have e : dg (f + 1) n = [UInt8.ofNat (48 + n)] := by unfold dg; rw [if_pos h]
      have e8 := d8 h
      have ne : n ≠ 0 → UInt8.ofNat (48 + n) ≠ 48 := by
        intro h0 q
        have h48 : (UInt8.ofNat (48 + n)).toNat = (48 : UInt8).toNat := congrArg UInt8.toNat q
        have h49 : (48 : UInt8).toNat = 48 := rfl
        omega
      rw [e]
      refine ⟨fun b hb => ?_, by simp, by simp, ?_, ?_, fun h0 => ⟨_, _, rfl, ne h0⟩⟩
      · rw [List.mem_singleton.mp hb, e8]; omega
      · show (0 : Int) * 10 + (((UInt8.ofNat (48 + n)).toNat : Int) - 48) = n
        rw [e8]; omega
      · by_cases h0 : n = 0
        · subst h0; exact .inr rfl
        · exact .inl ⟨_, _, rfl, ne h0⟩
    · have e : dg (f + 1) n = dg f (n / 10) ++ [UInt8.ofNat (48 + n % 10)] := by
        rw [dg, if_neg h]
      have hf : 0 < f := by
        rcases f with _ | f
        · exfalso; omega
        · omega
      have hn' : n / 10 < 10 ^ f := by
        rw [Nat.pow_succ] at hn
        omega
      obtain ⟨a1, a2, a3, a4, _, a6⟩ := dg_ok f (n / 10) hf hn'
      obtain ⟨b, r, eb, hb⟩ := a6 (by omega)
      have e8 := d8 (n := n % 10) (by omega)
      rw [e]
      refine ⟨fun c hc => ?_, by rw [List.length_append, List.length_singleton]; omega, by rw [List.length_append]; omega, ?_, .inl ⟨b, r ++ [_], by rw [eb]; rfl, hb⟩, fun _ => ⟨b, r ++ [_], by rw [eb]; rfl, hb⟩⟩
      · rcases List.mem_append.mp hc with q | q
        · exact a1 c q
        · rw [List.mem_singleton.mp q, e8]; omega
      · rw [vl_app, a4]
        show ((n / 10 : Nat) : Int) * 10 + (((UInt8.ofNat (48 + n % 10)).toNat : Int) - 48) = n
        rw [e8]; omega
end Go.Proofs.YtcjoehlflbegpaaDoor

namespace Go.Proofs.YtcjoehlflbegpaaDoor
open Go.Vm Go.Sx Go.RowKit

/-- A sign, digits of a number below a million. -/
structure Num (p d : List UInt8) (v : Int) : Prop where
  sg : p = [] ∨ p = [45]
  ad : AllD d
  l6 : d.length ≤ 6
  l1 : 1 ≤ d.length
  hh : (∃ b r, d = b :: r ∧ b ≠ 48) ∨ d = [48]
  va : vl d 0 = v
  v0 : 0 ≤ v
  v6 : v ≤ 1000000
def sgn (p : List UInt8) (v : Int) : Int := if p = [] then v else 0 - v

section
variable {p d : List UInt8} {v : Int} (h : Num p d v) (R : List UInt8)
include h
theorem Num.bt0 : bt (p ++ (d ++ R)) (p.length : Int) = bt d 0 ∧ isD (bt d 0) = true ∧ isS (bt d 0) = false ∧ bt d 0 ≠ 45 := by
  have l1 := h.l1
  have ad := h.ad
  cases d with
  | nil => simp at l1
  | cons b r =>
    have hb := ad b (List.mem_cons_self ..)
    have e : bt (b :: r) 0 = (b.toNat : Int) := rfl
    refine ⟨?_, ?_, ?_, ?_⟩
    · rw [List.cons_append, bt_app, e]
    · rw [e]; unfold isD; simp only [Bool.and_eq_true, decide_eq_true_eq]; omega
    · rw [e]; unfold isS; simp only [Bool.or_eq_false_iff, decide_eq_false_iff_not]; omega
    · rw [e]; omega
theorem Num.nst : nst (p ++ (d ++ R)) 0 = (p.length : Int) := by
  have hb := h.bt0 R
  unfold Go.Proofs.YtcjoehlflbegpaaDoor.nst
  rcases h.sg with rfl | rfl
  · have : bt ([] ++ (d ++ R)) 0 = bt d 0 := hb.1
    rw [this, hb.2.2.1]
    rfl
  · have : bt ([45] ++ (d ++ R)) 0 = 45 := rfl
    rw [this]
    rfl
theorem Num.numS : numS (p ++ (d ++ R)) 0 = true := by
  have hb := h.bt0 R
  have hn := h.nst R
  unfold Go.Proofs.YtcjoehlflbegpaaDoor.nst at hn
  unfold Go.Proofs.YtcjoehlflbegpaaDoor.numS
  simp only []
  rw [hn, hb.1, hb.2.1]
  rfl
theorem Num.sgnK {b : Bool} {j : Int} {K : Int → Bool → Int → Prop} (hK : K (sgn p (v * 1000)) b j) : sgnK (p ++ (d ++ R)) 0 b j K (vl d 0 * 1000) := by
  have hb := h.bt0 R
  have v0 := h.v0
  have v6 := h.v6
  rw [h.va]
  rcases h.sg with rfl | rfl
  · have e : bt ([] ++ (d ++ R)) 0 = bt d 0 := hb.1
    refine ⟨fun q => ?_, fun _ => hK⟩
    rw [e] at q
    exact absurd (of_decide_eq_true q) hb.2.2.2
  · have e : bt ([45] ++ (d ++ R)) 0 = 45 := rfl
    refine ⟨fun _ => ⟨by unfold I64; omega, hK⟩, fun q => ?_⟩
    rw [e] at q
    exact absurd q (by decide)
theorem Num.plen : p.length ≤ 1 := by rcases h.sg with rfl | rfl <;> decide

theorem Num.cut {zs : List UInt8} (hz : AllZ zs) (hzs : zs.length ≤ 20) {q : Int} (hq : q = (d.length : Int) + 3) {b : Bool} {j : Int} {K : Int → Bool → Int → Prop} (hK : K (sgn p (v * 1000)) b j) : S_cut (d ++ zs) q (Go.Proofs.YtcjoehlflbegpaaDoor.sgnK (p ++ (d ++ R)) 0 b j K) :=
  S_cut_of d zs h.ad hz h.l6 h.l1 hzs h.hh (by rw [h.va]; exact h.v6) q hq _ (h.sgnK R hK)

/-- The number itself. -/
theorem Num.rdA {K : Int → Bool → Int → Prop} (hK : K (sgn p (v * 1000)) true ((p ++ (d ++ [])).length : Int)) : F_rdN (p ++ (d ++ [])) 0 K := by
  have hl := h.plen
  have l6 := h.l6
  have e1 := h.nst []
  have e2 : dend (p ++ (d ++ [])) (p.length : Int) = (p.length : Int) + d.length := dend_app p d [] h.ad (fun b q => by cases q)
  have ee : (p.length : Int) + d.length = ((p ++ (d ++ [])).length : Int) := by simp
  have b0 : bt (p ++ (d ++ [])) ((p.length : Int) + d.length) = 0 := by rw [ee]; exact bt_end _
  refine P_rdA _ 0 K (by simp; omega) (by omega) (by omega) ?_ ?_ ?_
  · rw [e1, e2]; unfold frac; rw [b0]; rfl
  · rw [e1, e2, b0]; rfl
  · rw [e1, e2, cutS_app]
    exact h.cut [] (fun b q => by cases q) (by simp) (by omega) (by rw [ee]; exact hK)

/-- With a point and zeros behind it. -/
theorem Num.rdB {zs : List UInt8} (hz : AllZ zs) (hz1 : 1 ≤ zs.length) (hz9 : zs.length ≤ 9) {K : Int → Bool → Int → Prop} (hK : K (sgn p (v * 1000)) false ((p ++ (d ++ 46 :: zs)).length : Int)) : F_rdN (p ++ (d ++ 46 :: zs)) 0 K := by
  have hl := h.plen
  have l6 := h.l6
  have hzd : AllD zs := fun b hb => by rw [hz b hb]; decide
  have e1 := h.nst (46 :: zs)
  have e2 : dend (p ++ (d ++ 46 :: zs)) (p.length : Int) = (p.length : Int) + d.length := dend_app p d (46 :: zs) h.ad (fun b q => by cases q; decide)
  have t1 : p ++ (d ++ 46 :: zs) = (p ++ d) ++ 46 :: zs := by simp
  have t2 : p ++ (d ++ 46 :: zs) = (p ++ d ++ [46]) ++ (zs ++ []) := by simp
  have j1 : (p.length : Int) + d.length = ((p ++ d).length : Int) := by simp
  have j2 : (p.length : Int) + d.length + 1 = ((p ++ d ++ [46]).length : Int) := by simp; omega
  have b1 : bt (p ++ (d ++ 46 :: zs)) ((p.length : Int) + d.length) = 46 := by rw [t1, j1, bt_app]; rfl
  have b2 : bt (p ++ (d ++ 46 :: zs)) ((p.length : Int) + d.length + 1) = 48 := by
    rw [t2, j2]
    cases zs with
    | nil => simp at hz1
    | cons b r => rw [List.cons_append, bt_app, hz b (List.mem_cons_self ..)]; rfl
  have e3 : dend (p ++ (d ++ 46 :: zs)) ((p.length : Int) + d.length + 1) = ((p ++ (d ++ 46 :: zs)).length : Int) := by
    rw [t2, j2, dend_app _ _ _ hzd (fun b q => by cases q)]
    simp; omega
  have e4 : cutS (p ++ (d ++ 46 :: zs)) ((p.length : Int) + d.length + 1) ((p ++ (d ++ 46 :: zs)).length : Int) = zs := by
    have q : ((p ++ (d ++ 46 :: zs)).length : Int) = ((p ++ d ++ [46]).length : Int) + zs.length := by simp; omega
    rw [q, j2, t2, cutS_app]
  refine P_rdB _ 0 K (by simp; omega) (by omega) (by omega) ?_ ?_ ?_
  · rw [e1, e2]; unfold frac; rw [b1, b2]; rfl
  · rw [e1, e2, e3, bt_end]; rfl
  · rw [e1, e2, e3, e4, cutS_app]
    exact h.cut (46 :: zs) hz (by omega) (by omega) hK

/-- With zeros and as many places taken back. -/
theorem Num.rdC {zs : List UInt8} (hz : AllZ zs) (hz9 : zs.length ≤ 9) {c : UInt8} (hc : 48 ≤ c.toNat ∧ c.toNat ≤ 57) (hcz : c.toNat = 48 + zs.length) {K : Int → Bool → Int → Prop} (hK : K (sgn p (v * 1000)) false ((p ++ (d ++ (zs ++ [101, 45, c]))).length : Int)) : F_rdN (p ++ (d ++ (zs ++ [101, 45, c]))) 0 K := by
  have hl := h.plen
  have l6 := h.l6
  have hzd : AllD (d ++ zs) := fun b hb => by
    rcases List.mem_append.mp hb with q | q
    · exact h.ad b q
    · rw [hz b q]; decide
  have e1 := h.nst (zs ++ [101, 45, c])
  have t0 : p ++ (d ++ (zs ++ [101, 45, c])) = p ++ ((d ++ zs) ++ [101, 45, c]) := by simp
  have t1 : p ++ (d ++ (zs ++ [101, 45, c])) = (p ++ (d ++ zs)) ++ 101 :: [45, c] := by simp
  have t2 : p ++ (d ++ (zs ++ [101, 45, c])) = (p ++ (d ++ zs) ++ [101]) ++ 45 :: [c] := by simp
  have t3 : p ++ (d ++ (zs ++ [101, 45, c])) = (p ++ (d ++ zs) ++ [101, 45]) ++ ([c] ++ []) := by simp
  have e2 : dend (p ++ (d ++ (zs ++ [101, 45, c]))) (p.length : Int) = (p.length : Int) + (d ++ zs).length := by
    rw [t0]; exact dend_app p (d ++ zs) _ hzd (fun b q => by cases q; decide)
  have j1 : (p.length : Int) + (d ++ zs).length = ((p ++ (d ++ zs)).length : Int) := by simp
  have j2 : (p.length : Int) + (d ++ zs).length + 1 = ((p ++ (d ++ zs) ++ [101]).length : Int) := by simp; omega
  have j3 : (p.length : Int) + (d ++ zs).length + 2 = ((p ++ (d ++ zs) ++ [101, 45]).length : Int) := by simp; omega
  have b1 : bt (p ++ (d ++ (zs ++ [101, 45, c]))) ((p.length : Int) + (d ++ zs).length) = 101 := by rw [t1, j1, bt_app]; rfl
  have b2 : bt (p ++ (d ++ (zs ++ [101, 45, c]))) ((p.length : Int) + (d ++ zs).length + 1) = 45 := by rw [t2, j2, bt_app]; rfl
  have b3 : bt (p ++ (d ++ (zs ++ [101, 45, c]))) ((p.length : Int) + (d ++ zs).length + 2) = (c.toNat : Int) := by rw [t3, j3, List.cons_append, bt_app]
  have e3 : dend (p ++ (d ++ (zs ++ [101, 45, c]))) ((p.length : Int) + (d ++ zs).length + 2) = ((p ++ (d ++ (zs ++ [101, 45, c]))).length : Int) := by
    rw [t3, j3, dend_app _ _ _ (fun b hb => by rw [List.mem_singleton.mp hb]; exact hc) (fun b q => by cases q)]
    simp; omega
  have e4 : cutS (p ++ (d ++ (zs ++ [101, 45, c]))) ((p.length : Int) + (d ++ zs).length + 2) ((p ++ (d ++ (zs ++ [101, 45, c]))).length : Int) = [c] := by
    have q : ((p ++ (d ++ (zs ++ [101, 45, c]))).length : Int) = ((p ++ (d ++ zs) ++ [101, 45]).length : Int) + ([c] : List UInt8).length := by simp; omega
    rw [q, j3, t3, cutS_app]
  have e5 : cutS (p ++ (d ++ (zs ++ [101, 45, c]))) (p.length : Int) ((p.length : Int) + (d ++ zs).length) = d ++ zs := by rw [t0]; exact cutS_app ..
  refine P_rdC _ 0 K (by simp; omega) (by omega) (by omega) ?_ ?_ ?_ ?_ c hc ?_ ?_
  · rw [e1, e2]; unfold frac; rw [b1]; rfl
  · rw [e1, e2, b1]; rfl
  · rw [e1, e2, b2]
  · rw [e1, e2, b3]; unfold isD; simp only [Bool.and_eq_true, decide_eq_true_eq]; omega
  · rw [e1, e2, e3, e4]
  · rw [e1, e2, e3, e5, List.append_nil]
    exact h.cut (zs ++ [101, 45, c]) hz (by omega) (by rw [List.length_append]; omega) hK
end
end Go.Proofs.YtcjoehlflbegpaaDoor

namespace Go.Proofs.YtcjoehlflbegpaaDoor
open Go.Vm Go.Sx Go.RowKit

def S_rd : T_token_readNumber := fun s i K => ∃ v b j, (∀ K', K' v b j → F_rdN s i K') ∧ K v b j
theorem P_rd (s i K) (h : S_rd s i K) : F_rdN s i K := by
  obtain ⟨v, b, j, h1, h2⟩ := h
  exact h1 K h2

def S_LE : T_input_startsWithLineEnd := fun _ _ => False
theorem P_cleanL (x : List UInt8) (hx : ∀ b, b ∈ x → b.toNat ≠ 0 ∧ b.toNat ≠ 12 ∧ b.toNat ≠ 13) (hl : x.length ≤ 4000) (Ke : List UInt8 → Prop) (h : Ke x) : ∀ (k i : Nat), i + k = x.length → ∃ m, F_input_Clean_l5 S_LE m x i (x.take i) Ke
  | 0, i, e => ⟨1, fun q => (by exfalso; have := of_decide_eq_true q; omega), fun _ => by
      have : x.take i = x := List.take_of_length_le (by omega)
      rw [this]; exact h⟩
  | k + 1, i, e => by
    have hi : i < x.length := by omega
    obtain ⟨m, hm⟩ := P_cleanL x hx hl Ke h k (i + 1) (by omega)
    obtain ⟨b0, b12, b13⟩ := hx _ (List.getElem_mem hi)
    have eg : x.getD (i : Int).toNat 0 = x[i] := by rw [Int.toNat_natCast, List.getD_eq_getElem?_getD, List.getElem?_eq_getElem hi]; rfl
    have et : x.take i ++ [UInt8.ofNat (((x[i].toNat : Nat) : Int).toNat)] = x.take (i + 1) := by
      rw [Int.toNat_natCast, UInt8.ofNat_toNat, List.take_succ_eq_append_getElem hi]
    have lt : (x.take i).length = i := by rw [List.length_take]; omega
    have hb := x[i].toNat_lt
    have hmm : F_input_Clean_l5 S_LE m x ((i : Int) + 1) (x.take i ++ [UInt8.ofNat (((x[i].toNat : Nat) : Int).toNat)]) Ke := by rw [et]; exact hm
    refine ⟨m + 1, fun _ => ⟨⟨by omega, by omega⟩, fun q => ?_, fun _ => ⟨fun q => ?_, fun _ => ⟨fun q => ?_, fun _ => ?_⟩⟩⟩, fun q => (by exfalso; have := of_decide_eq_false q; omega)⟩
    · rw [eg] at q; exfalso; have := of_decide_eq_true q; omega
    · rw [eg] at q; exfalso; have := of_decide_eq_true q; omega
    · rw [eg] at q; exfalso; have := of_decide_eq_true q; omega
    · rw [eg]
      exact ⟨⟨by omega, by omega⟩, ⟨by omega, by omega⟩, by rw [lt, List.length_singleton]; omega, by unfold I64; omega, hmm⟩
def S_clean : T_input_Clean := fun x K => (∀ b, b ∈ x → b.toNat ≠ 0 ∧ b.toNat ≠ 12 ∧ b.toNat ≠ 13) ∧ x.length ≤ 4000 ∧ K x 0
theorem P_clean (x K) (h : S_clean x K) : F_input_Clean S_LE x K := by
  obtain ⟨hx, hl, h⟩ := h
  refine ⟨fun q => (by exfalso; have := of_decide_eq_true q; omega), fun _ => ⟨⟨by omega, by omega, by omega, by omega⟩, ⟨by omega, by omega⟩, ?_⟩⟩
  exact P_cleanL x hx hl _ h x.length 0 (by omega)

def hp (s q : List UInt8) : Bool := if q.length ≤ s.length then s.take q.length == q else false
def S_HP : T_strings_HasPrefix := fun s q K => K (hp s q)
def S_HP1 : T_stringslite_HasPrefix := fun s q K => K (hp s q)
theorem P_HP1 (s q K) (h : S_HP1 s q K) : F_stringslite_HasPrefix s q K := by
  unfold S_HP1 hp at h
  refine ⟨fun e => ⟨⟨by omega, of_decide_eq_true e⟩, ?_⟩, fun e => ?_⟩
  · have := of_decide_eq_true e
    rw [if_pos (by omega)] at h
    exact h
  · have := of_decide_eq_false e
    rw [if_neg (by omega)] at h
    exact h
theorem P_HP (s q K) (h : S_HP s q K) : F_strings_HasPrefix S_HP1 s q K := h
def S_comm : T_token_behindComments := fun s i K => (0 ≤ i ∧ i ≤ s.length) ∧ hp (s.drop i.toNat) [47, 42] = false ∧ K i
theorem P_comm (s i K) (h : S_comm s i K) : F_token_behindComments S_HP s i K := by
  obtain ⟨h0, h1, h⟩ := h
  refine ⟨1, h0, fun q => ?_, fun _ => h⟩
  rw [h1] at q; cases q

def S_letter : T_char_IsLetter := fun c K => c = 0 ∧ K false
theorem P_letter (c K) (h : S_letter c K) : F_char_IsLetter c K := by
  obtain ⟨rfl, h⟩ := h
  exact ⟨fun q => absurd q (by decide), fun _ => ⟨fun q => absurd q (by decide), fun _ => h⟩⟩
def S_starts : T_char_StartsName := fun c K => c = 0 ∧ K false
theorem P_starts (c K) (h : S_starts c K) : F_char_StartsName S_letter c K := by
  obtain ⟨rfl, h⟩ := h
  exact ⟨rfl, fun _ => ⟨fun _ => h, fun q => absurd q (by decide)⟩, fun q => absurd q (by decide)⟩
def S_esc : T_token_escapeStarts := fun s i K => 0 ≤ i ∧ bt s i = 0 ∧ K false
theorem P_esc (s i K) (h : S_esc s i K) : F_token_escapeStarts S_byteAt s i K := by
  obtain ⟨h0, h1, h⟩ := h
  refine ⟨h0, fun q => ?_, fun _ => h⟩
  rw [h1] at q; exact absurd q (by decide)
def S_nameS : T_token_nameStarts := fun s i K => 0 ≤ i ∧ bt s i = 0 ∧ K false
theorem P_nameS (s i K) (h : S_nameS s i K) : F_token_nameStarts S_byteAt S_starts S_esc s i K := by
  obtain ⟨h0, h1, h⟩ := h
  refine ⟨h0, fun q => ⟨h0, h1, fun _ => ⟨h0, h1, h⟩, fun q => absurd q (by decide)⟩, fun q => ?_⟩
  rw [h1] at q; exact absurd q (by decide)
def S_numeric : T_token_readNumeric := fun s i K => S_rd s i fun v b j => 0 ≤ j ∧ bt s j = 0 ∧ K (Tok.mk 10 [] v [] b) j
theorem P_numeric (s i K) (h : S_numeric s i K) : F_token_readNumeric S_rd S_nameS S_byteAt s i K := by
  obtain ⟨v, b, j, h1, h0, h2, h3⟩ := h
  refine ⟨v, b, j, h1, h0, h2, fun q => absurd q (by decide), fun _ => ⟨h0, fun q => ?_, fun _ => h3⟩⟩
  rw [h2] at q; exact absurd q (by decide)

def S_space : T_char_IsSpace := fun c K => c ≠ 10 ∧ c ≠ 9 ∧ c ≠ 32 ∧ K false
theorem P_space (c K) (h : S_space c K) : F_char_IsSpace c K := by
  obtain ⟨h1, h2, h3, h⟩ := h
  refine ⟨fun _ => ⟨fun _ => ?_, fun q => absurd (of_decide_eq_true q) h2⟩, fun q => absurd (of_decide_eq_true q) h1⟩
  rw [decide_eq_false h3]; exact h
def S_quote : T_char_IsQuote := fun c K => c ≠ 34 ∧ c ≠ 39 ∧ K false
theorem P_quote (c K) (h : S_quote c K) : F_char_IsQuote c K := by
  obtain ⟨h1, h2, h⟩ := h
  refine ⟨fun _ => ?_, fun q => absurd (of_decide_eq_true q) h1⟩
  rw [decide_eq_false h2]; exact h
def S_spaces : T_token_behindSpaces := fun _ _ _ => False
def S_goes : T_token_nameGoesOn := fun _ _ _ => False
def S_token : T_token_readToken := fun s i K => (0 ≤ i ∧ i < s.length ∧ i < 4000) ∧ (bt s i = 45 ∨ isD (bt s i) = true) ∧ numS s i = true ∧ S_numeric s i K
theorem P_token (s i K) (h : S_token s i K) : F_token_readToken S_space S_spaces S_quote S_goes S_nameS S_numS S_numeric S_HP s i K := by
  obtain ⟨⟨h0, h1, h1'⟩, hb, hn, h⟩ := h
  have hc : bt s i = 45 ∨ (48 ≤ bt s i ∧ bt s i ≤ 57) := by
    rcases hb with q | q
    · exact .inl q
    · unfold isD at q; simp only [Bool.and_eq_true, decide_eq_true_eq] at q; exact .inr q
  have hi : 0 ≤ i ∧ i < (s.length : Int) := ⟨h0, h1⟩
  unfold bt at hc
  refine ⟨hi, by omega, by omega, by omega, fun q => absurd q (by decide), fun _ => ⟨hi, by omega, by omega, fun q => absurd q (by decide), fun _ => ⟨hi, fun q => ?_, fun _ => ⟨⟨h0, by omega⟩, fun _ => h, fun q => ?_⟩⟩⟩⟩
  · exfalso; have := of_decide_eq_true q; omega
  · rw [hn] at q; cases q
end Go.Proofs.YtcjoehlflbegpaaDoor

namespace Go.Proofs.YtcjoehlflbegpaaDoor
open Go.Vm Go.Sx Go.RowKit

section
variable {p d : List UInt8} {v : Int} (h : Num p d v)
include h
theorem Num.bytes : ∀ b, b ∈ p ++ (d ++ []) → b.toNat = 45 ∨ (48 ≤ b.toNat ∧ b.toNat ≤ 57) := by
  intro b hb
  rw [List.append_nil] at hb
  rcases List.mem_append.mp hb with q | q
  · rcases h.sg with rfl | rfl
    · cases q
    · rw [List.mem_singleton.mp q]; exact .inl rfl
  · exact .inr (h.ad b q)
theorem Num.len : 1 ≤ (p ++ (d ++ [])).length ∧ (p ++ (d ++ [])).length ≤ 7 := by
  have := h.plen
  have := h.l6
  have := h.l1
  simp only [List.length_append, List.length_nil]
  omega
theorem Num.tokens {K : List Tok → Int → Prop} (hK : K [Tok.mk 10 [] (sgn p (v * 1000)) [] true] 0) : F_token_Tokens S_clean S_comm S_token (p ++ (d ++ [])) K := by
  have hl := h.len
  have hB := h.bytes
  have hR := @Num.rdA _ _ _ h
  have hN := h.numS []
  revert hl hB hR hN
  generalize p ++ (d ++ []) = t
  intro hl hB hR hN
  have b0 : bt t 0 = 45 ∨ isD (bt t 0) = true := by
    cases t with
    | nil => simp at hl
    | cons b r =>
      have e : bt (b :: r) 0 = (b.toNat : Int) := rfl
      rw [e]
      rcases hB b (List.mem_cons_self ..) with q | q
      · exact .inl (by omega)
      · exact .inr (by unfold isD; simp only [Bool.and_eq_true, decide_eq_true_eq]; omega)
  have hp0 : hp (t.drop (0 : Int).toNat) [47, 42] = false := by
    show hp t [47, 42] = false
    unfold hp
    split
    · cases t with
      | nil => simp at hl
      | cons b r =>
        cases q : (List.take ([47, 42] : List UInt8).length (b :: r) == [47, 42]) with
        | false => rfl
        | true =>
          have q := eq_of_beq q
          have q2 : b = 47 := by have := congrArg List.head? q; exact Option.some.inj this
          rcases hB b (List.mem_cons_self ..) with w | w <;> rw [q2] at w <;> revert w <;> decide
    · rfl
  have hp1 : hp (t.drop ((t.length : Int)).toNat) [47, 42] = false := by
    rw [Int.toNat_natCast, List.drop_length]; rfl
  have be : bt t (t.length : Int) = 0 := bt_end t
  refine ⟨fun b hb => by rcases hB b hb with q | q <;> omega, by omega, fun q => absurd q (by decide), fun _ => ⟨⟨by omega, by omega⟩, hp0, 2, fun _ => ⟨fun q => absurd q (by decide), fun _ => ?_⟩, fun q => ?_⟩⟩
  · refine ⟨⟨by omega, by omega, by omega⟩, b0, hN, sgn p (v * 1000), true, (t.length : Int), fun K' hK' => hR hK', by omega, be, by show (0 + 1) * 56 ≤ 1099511627776; decide, by unfold I64; omega, ⟨by omega, by omega⟩, hp1, fun q => ?_, fun _ => ⟨fun q => absurd q (by decide), fun _ => hK⟩⟩
    exfalso; have := of_decide_eq_true q; omega
  · exfalso; have := of_decide_eq_false q; omega
end

def S_tok : T_token_Tokens := fun t K => ∃ l, (∀ K', K' l 0 → F_token_Tokens S_clean S_comm S_token t K') ∧ K l 0
theorem P_tok (t K) (h : S_tok t K) : F_token_Tokens S_clean S_comm S_token t K := by
  obtain ⟨l, h1, h2⟩ := h
  exact h1 K h2
def S_val : T_token_Value := fun t K => t.length ≤ 4000 ∧ numS t 0 = true ∧ ∃ v b, (∀ K', K' v b (t.length : Int) → F_rdN t 0 K') ∧ K v b 0
theorem P_val (t K) (h : S_val t K) : F_token_Value S_numS S_rd t K := by
  obtain ⟨h0, h1, v, b, h2, h3⟩ := h
  refine ⟨fun q => (by exfalso; have := of_decide_eq_true q; omega), fun _ => ⟨⟨by omega, by omega⟩, fun q => ?_, fun _ => ⟨v, b, _, h2, fun q => ?_, fun _ => h3⟩⟩⟩
  · rw [h1] at q; cases q
  · exact absurd rfl (of_decide_eq_true q)

/-- The digits function, by depth. -/
def A_dig : Nat → T_vitrinelaw02_digits
  | 0 => fun _ _ => False
  | n + 1 => F_vitrinelaw02_digits (A_dig n)
theorem A_dig_nat : ∀ (f n : Nat), n < 10 ^ f → f ≤ 12 → (K : List UInt8 → Prop) → K (dg f n) → 0 < f → A_dig f n K
  | 0, _, _, _, _, _, h0 => by omega
  | f + 1, n, hn, hf, K, hK, _ => by
    have e10 : 10 ^ (f + 1) ≤ 10 ^ 13 := Nat.pow_le_pow_right (by omega) (by omega)
    have e13 : 10 ^ 13 = 10000000000000 := by decide
    have em : (n : Int).tmod 10 = ((n % 10 : Nat) : Int) := by rw [Int.tmod_eq_emod_of_nonneg (by omega)]; omega
    have ed : (n : Int).tdiv 10 = ((n / 10 : Nat) : Int) := by rw [Int.tdiv_eq_ediv_of_nonneg (by omega)]; omega
    have ew : IntKind.u8.wrap ((48 : Int) + (n : Int).tmod 10) = ((48 + n % 10 : Nat) : Int) := by rw [em, w8 (by omega) (by omega)]; omega
    refine ⟨fun q => (by exfalso; have := of_decide_eq_true q; omega), fun _ => ⟨by omega, by rw [em]; unfold I64; omega, by rw [ew]; omega, fun q => ?_, fun q => ?_⟩⟩
    · have q := of_decide_eq_true q
      rw [ew, Int.toNat_natCast]
      have e : n % 10 = n := by omega
      rw [e]
      rw [dg, if_pos (by omega)] at hK
      exact hK
    · have q := of_decide_eq_false q
      rw [dg, if_neg (by omega)] at hK
      have h0 : 0 < f := by
        rcases f with _ | f
        · exfalso; omega
        · omega
      have hn' : n / 10 < 10 ^ f := by
        rw [Nat.pow_succ] at hn; omega
      have hk := dg_ok f (n / 10) h0 hn'
      refine ⟨by omega, by rw [ed]; unfold I64; omega, ?_⟩
      rw [ed]
      refine A_dig_nat f (n / 10) hn' (by omega) _ ⟨by rw [List.length_singleton]; omega, ?_⟩ h0
      rw [ew, Int.toNat_natCast]
      exact hK
def sgp (n : Int) : List UInt8 := if n < 0 then [45] else []
def S_dig : T_vitrinelaw02_digits := fun n K => (-999999 ≤ n ∧ n ≤ 999999) ∧ K (sgp n ++ (dg 6 n.natAbs ++ []))
theorem P_dig (n K) (h : S_dig n K) : A_dig 7 n K := by
  obtain ⟨h0, h⟩ := h
  rw [List.append_nil] at h
  unfold sgp at h
  by_cases q : n < 0
  · rw [if_pos q] at h
    have e : (0 - n) = ((n.natAbs : Nat) : Int) := by omega
    have hk := dg_ok 6 n.natAbs (by omega) (by omega)
    refine ⟨fun _ => ⟨by unfold I64; omega, ?_⟩, fun w => absurd q (of_decide_eq_false w)⟩
    rw [e]
    exact A_dig_nat 6 n.natAbs (by omega) (by omega) _ ⟨by rw [List.length_singleton]; omega, h⟩ (by omega)
  · rw [if_neg q, List.nil_append] at h
    have e : n = ((n.natAbs : Nat) : Int) := by omega
    have hs : dg 7 n.natAbs = dg 6 n.natAbs := by
      have : ∀ (f m : Nat), m < 10 ^ f → 0 < f → dg (f + 1) m = dg f m := by
        intro f
        induction f with
        | zero => intro m _ h; omega
        | succ f ih =>
          intro m hm _
          by_cases w : m < 10
          · rw [dg, if_pos w, dg, if_pos w]
          · rw [dg, if_neg w]
            conv => rhs; rw [dg, if_neg w]
            rw [ih (m / 10) (by rw [Nat.pow_succ] at hm; omega) (by
              rcases f with _ | f
              · exfalso; omega
              · omega)]
      exact this 6 _ (by omega) (by omega)
    rw [e]
    refine A_dig_nat 7 n.natAbs (by omega) (by omega) _ ?_ (by omega)
    rw [hs]
    exact h

def S_alive : T_vitrinelaw02_alive := fun K => K true
theorem num_of {n : Int} (h : -999999 ≤ n ∧ n ≤ 999999) : Num (sgp n) (dg 6 n.natAbs) n.natAbs ∧ sgn (sgp n) ((n.natAbs : Int) * 1000) = 1000 * n := by
  have hk := dg_ok 6 n.natAbs (by omega) (by omega)
  refine ⟨⟨?_, hk.1, hk.2.1, hk.2.2.1, hk.2.2.2.2.1, hk.2.2.2.1, by omega, by omega⟩, ?_⟩
  · unfold sgp
    by_cases q : n < 0
    · rw [if_pos q]; exact .inr rfl
    · rw [if_neg q]; exact .inl rfl
  · unfold sgn sgp
    by_cases q : n < 0
    · rw [if_pos q, if_neg (by decide)]; omega
    · rw [if_neg q, if_pos rfl]; omega

theorem zer (k : Int) (h : 0 ≤ k ∧ k ≤ 5) : AllZ (([48, 48, 48, 48, 48] : List UInt8).take k.toNat) ∧ (([48, 48, 48, 48, 48] : List UInt8).take k.toNat).length = k.toNat := by
  refine ⟨fun b hb => ?_, ?_⟩
  · have := List.mem_of_mem_take hb
    simp at this
    exact this
  · rw [List.length_take]
    show min _ 5 = _
    omega

theorem law_numbers (n k : Int) (K : Bool → Prop) (hK : K true) : F_vitrinelaw02_TokenNumbers S_alive S_dig S_val S_tok n k K := by
  refine ⟨fun q1 => ⟨fun q2 => ⟨fun q3 => ⟨fun _ => hK, fun q4 => ?_⟩, fun _ => hK⟩, fun _ => hK⟩, fun _ => hK⟩
  have q1 := of_decide_eq_false q1
  have q2 := of_decide_eq_false q2
  have q3 := of_decide_eq_false q3
  have q4 := of_decide_eq_false q4
  obtain ⟨hN, hv⟩ := num_of (n := n) (by omega)
  obtain ⟨hz, hzl⟩ := zer k (by omega)
  have hl := hN.len
  have hl6 := hN.l6
  have hpl := hN.plen
  have h5 : ((([48, 48, 48, 48, 48] : List UInt8).length : Nat) : Int) = 5 := rfl
  have hd : sgp k ++ (dg 6 k.natAbs ++ []) = [UInt8.ofNat (48 + k.toNat)] := by
    unfold sgp
    rw [if_neg q3, dg, if_pos (by omega)]
    have : k.natAbs = k.toNat := by omega
    rw [this]; rfl
  have hc8 := d8 (n := k.toNat) (by omega)
  generalize ez : ([48, 48, 48, 48, 48] : List UInt8).take k.toNat = zs at hz hzl
  have t2 : sgp n ++ (dg 6 n.natAbs ++ []) ++ [46] ++ zs ++ [48] = sgp n ++ (dg 6 n.natAbs ++ 46 :: (zs ++ [48])) := by simp
  have t3 : sgp n ++ (dg 6 n.natAbs ++ []) ++ zs ++ [101, 45] ++ [UInt8.ofNat (48 + k.toNat)] = sgp n ++ (dg 6 n.natAbs ++ (zs ++ [101, 45, UInt8.ofNat (48 + k.toNat)])) := by simp
  have hz2 : AllZ (zs ++ [48]) := fun b hb => by
    rcases List.mem_append.mp hb with w | w
    · exact hz b w
    · exact List.mem_singleton.mp w
  refine ⟨by omega, ⟨by omega, by omega⟩, ⟨by omega, hN.numS [], 1000 * n, true, fun K' hK' => hN.rdA (by rw [hv]; exact hK'), ?_⟩⟩
  refine ⟨by simp only [List.length_append, List.length_singleton] at hl ⊢; omega, by simp only [List.length_append, List.length_singleton] at hl ⊢; omega, by simp only [List.length_append, List.length_singleton] at hl ⊢; omega, ?_⟩
  rw [t2]
  refine ⟨by simp only [List.length_append, List.length_cons, List.length_nil]; omega, hN.numS _, 1000 * n, false, fun K' hK' => hN.rdB hz2 (by simp) (by rw [List.length_append]; simp only [List.length_singleton]; omega) (by rw [hv]; exact hK'), ?_⟩
  refine ⟨by simp only [List.length_append] at hl ⊢; omega, by simp only [List.length_append, List.length_cons, List.length_nil] at hl ⊢; omega, by omega, ?_⟩
  rw [hd]
  refine ⟨by simp only [List.length_append, List.length_cons, List.length_nil] at hl ⊢; omega, ?_⟩
  rw [t3]
  refine ⟨by simp only [List.length_append, List.length_cons, List.length_nil]; omega, hN.numS _, 1000 * n, false, fun K' hK' => hN.rdC hz (by omega) (by rw [hc8]; omega) (by rw [hc8]; omega) (by rw [hv]; exact hK'), ?_⟩
  refine ⟨_, fun K' hK' => hN.tokens hK', ?_⟩
  rw [hv]
  refine ⟨fun _ => ⟨fun _ => ⟨fun _ => ⟨fun _ => ⟨fun q => (of_decide_eq_true q rfl).elim, fun _ => ⟨fun _ => ⟨fun _ => ⟨fun _ => ⟨by unfold I64; omega, fun _ => ⟨fun _ => ⟨fun _ => ⟨⟨by omega, by show (0 : Int) < 1; decide⟩, fun _ => hK, fun q => ?_⟩, fun q => ?_⟩, fun q => ?_⟩, fun q => ?_⟩, fun q => absurd q (by decide)⟩, fun q => absurd q (by decide)⟩, fun q => absurd q (by decide)⟩⟩, fun q => absurd q (by decide)⟩, fun q => absurd q (by decide)⟩, fun q => absurd q (by decide)⟩, fun q => absurd q (by decide)⟩
  all_goals exfalso
  · simp at q
    exact Bool.noConfusion (show true = false from q rfl rfl rfl rfl)
  · simp at q
  · simp at q
  · simp at q
end Go.Proofs.YtcjoehlflbegpaaDoor

namespace Go.Proofs.YtcjoehlflbegpaaDoor
open Go.Vm Go.Sx Go.RowKit Go.Vk

theorem f40 : FnOK sy Tryd.prog GT ovD GL 40 (q_token_byteAt S_byteAt) := q_token_byteAt_weak (ok_token_byteAt) P_byteAt
theorem f41 : FnOK sy Tryd.prog GT ovD GL 41 (q_char_IsDigit S_isDigit) := q_char_IsDigit_weak (ok_char_IsDigit) P_isDigit
theorem f39 : FnOK sy Tryd.prog GT ovD GL 39 (q_token_isSign S_isSign) := q_token_isSign_weak (ok_token_isSign) P_isSign
theorem f45 : FnOK sy Tryd.prog GT ovD GL 45 (q_token_isExponentMark S_isExp) := q_token_isExponentMark_weak (ok_token_isExponentMark) P_isExp
theorem f42 : FnOK sy Tryd.prog GT ovD GL 42 (q_token_fractionStarts S_frac) := q_token_fractionStarts_weak (ok_token_fractionStarts S_byteAt S_isDigit f40 f41) P_frac
theorem f26 : FnOK sy Tryd.prog GT ovD GL 26 (q_token_numberStarts S_numS) := q_token_numberStarts_weak (ok_token_numberStarts S_byteAt S_isSign S_isDigit S_frac f40 f39 f41 f42) P_numS
theorem f46 : FnOK sy Tryd.prog GT ovD GL 46 (q_token_digitStarts S_digS) := q_token_digitStarts_weak (ok_token_digitStarts S_byteAt S_isSign S_isDigit f40 f39 f41) P_digS
theorem f47 : FnOK sy Tryd.prog GT ovD GL 47 (q_token_wholeNumber S_whole) := q_token_wholeNumber_weak (ok_token_wholeNumber) P_whole
theorem f83 : FnOK sy Tryd.prog GT ovD GL 83 (q_strings_trimLeftByte S_trimB) := q_strings_trimLeftByte_weak (ok_strings_trimLeftByte) P_trimLB
theorem f69 : FnOK sy Tryd.prog GT ovD GL 69 (q_strings_TrimLeft S_trim) := q_strings_TrimLeft_weak (ok_strings_TrimLeft S_trimB f83) P_trim
theorem f48 : FnOK sy Tryd.prog GT ovD GL 48 (q_token_cutNumber S_cut) := q_token_cutNumber_weak (ok_token_cutNumber S_trim f69) P_cut
theorem f27 : FnOK sy Tryd.prog GT ovD GL 27 (q_token_readNumber S_rd) := q_token_readNumber_weak (ok_token_readNumber S_frac S_byteAt S_isExp S_digS S_whole S_cut S_isSign S_isDigit f42 f40 f45 f46 f47 f48 f39 f41) P_rd
theorem f11 : FnOK sy Tryd.prog GT ovD GL 11 (q_token_Value S_val) := q_token_Value_weak (ok_token_Value S_numS S_rd f26 f27) P_val
theorem f35 : FnOK sy Tryd.prog GT ovD GL 35 (q_input_startsWithLineEnd S_LE) := (noT_ok 35).weak (by
  intro us k h
  unfold q_input_startsWithLineEnd at h
  split at h
  · exact h.elim
  · exact h.elim)
theorem f18 : FnOK sy Tryd.prog GT ovD GL 18 (q_input_Clean S_clean) := q_input_Clean_weak (ok_input_Clean S_LE f35) P_clean
theorem f79 : FnOK sy Tryd.prog GT ovD GL 79 (q_stringslite_HasPrefix S_HP1) := q_stringslite_HasPrefix_weak (ok_stringslite_HasPrefix) P_HP1
theorem f60 : FnOK sy Tryd.prog GT ovD GL 60 (q_strings_HasPrefix S_HP) := q_strings_HasPrefix_weak (ok_strings_HasPrefix S_HP1 f79) P_HP
theorem f37 : FnOK sy Tryd.prog GT ovD GL 37 (q_token_behindComments S_comm) := q_token_behindComments_weak (ok_token_behindComments S_HP f60) P_comm
theorem f70 : FnOK sy Tryd.prog GT ovD GL 70 (q_char_IsLetter S_letter) := q_char_IsLetter_weak (ok_char_IsLetter) P_letter
theorem f49 : FnOK sy Tryd.prog GT ovD GL 49 (q_char_StartsName S_starts) := q_char_StartsName_weak (ok_char_StartsName S_letter f70) P_starts
theorem f50 : FnOK sy Tryd.prog GT ovD GL 50 (q_token_escapeStarts S_esc) := q_token_escapeStarts_weak (ok_token_escapeStarts S_byteAt f40) P_esc
theorem f28 : FnOK sy Tryd.prog GT ovD GL 28 (q_token_nameStarts S_nameS) := q_token_nameStarts_weak (ok_token_nameStarts S_byteAt S_starts S_esc f40 f49 f50) P_nameS
theorem f66 : FnOK sy Tryd.prog GT ovD GL 66 (q_token_readNumeric S_numeric) := q_token_readNumeric_weak (ok_token_readNumeric S_rd S_nameS S_byteAt f27 f28 f40) P_numeric
theorem f62 : FnOK sy Tryd.prog GT ovD GL 62 (q_char_IsSpace S_space) := q_char_IsSpace_weak (ok_char_IsSpace) P_space
theorem f64 : FnOK sy Tryd.prog GT ovD GL 64 (q_char_IsQuote S_quote) := q_char_IsQuote_weak (ok_char_IsQuote) P_quote
theorem f63 : FnOK sy Tryd.prog GT ovD GL 63 (q_token_behindSpaces S_spaces) := (noT_ok 63).weak (by
  intro us k h
  unfold q_token_behindSpaces at h
  split at h
  · exact h.elim
  · exact h.elim)
theorem f51 : FnOK sy Tryd.prog GT ovD GL 51 (q_token_nameGoesOn S_goes) := (noT_ok 51).weak (by
  intro us k h
  unfold q_token_nameGoesOn at h
  split at h
  · exact h.elim
  · exact h.elim)
theorem f38 : FnOK sy Tryd.prog GT ovD GL 38 (q_token_readToken S_token) := q_token_readToken_weak (ok_token_readToken S_space S_spaces S_quote S_goes S_nameS S_numS S_numeric S_HP f62 f63 f64 f51 f28 f26 f66 f60) P_token
theorem f9 : FnOK sy Tryd.prog GT ovD GL 9 (q_token_Tokens S_tok) := q_token_Tokens_weak (ok_token_Tokens S_clean S_comm S_token f18 f37 f38) P_tok

theorem f22n : ∀ n, FnOK sy Tryd.prog GT ovD GL 22 (q_vitrinelaw02_digits (A_dig n))
  | 0 => (noT_ok 22).weak (by
      intro us k h
      unfold q_vitrinelaw02_digits at h
      split at h
      · exact h.elim
      · exact h.elim)
  | n + 1 => ok_vitrinelaw02_digits (A_dig n) (f22n n)
theorem f22 : FnOK sy Tryd.prog GT ovD GL 22 (q_vitrinelaw02_digits S_dig) := q_vitrinelaw02_digits_weak (f22n 7) P_dig
theorem f15 : FnOK sy Tryd.prog GT ovD GL 15 (q_vitrinelaw02_alive S_alive) := by
  intro o0 us k h st vs hn hg ho hr
  unfold q_vitrinelaw02_alive at h
  split at h
  · have e : vs = [] := hr
    subst e
    exact ⟨.b true, st, ⟨1, fun n hn => by
      cases n with
      | zero => omega
      | succ n => rfl⟩, .b true, rfl, ⟨Nat.le_refl _, fun _ _ => rfl, fun _ _ q => q⟩, h⟩
  · exact h.elim
theorem f8 : FnOK sy Tryd.prog GT ovD GL 8 (q_vitrinelaw02_TokenNumbers (fun _ _ K => K true)) :=
  q_vitrinelaw02_TokenNumbers_weak (ok_vitrinelaw02_TokenNumbers S_alive S_dig S_val S_tok f15 f22 f11 f9) law_numbers

theorem gok : GOK GT GL (st0 gs1) := by
  intro g k l h
  match g, h with
  | 0, h =>
    obtain ⟨rfl, rfl⟩ : IntKind.u8 = k ∧ marksL = l := by
      have h2 := Option.some.inj h
      exact ⟨congrArg Prod.fst h2, congrArg Prod.snd h2⟩
    have e : ((st0 gs1).hp.get 0).map (fun b => (List.range 126).map fun j => b.get j) = some ((List.range 126).map fun j => some (V.i .u8 (marksL.getD j 0))) := by kernel_rfl
    cases hh : (st0 gs1).hp.get 0 with
    | none => rw [hh] at e; cases e
    | some b =>
    rw [hh] at e
    have h2 := Option.some.inj e
    refine ⟨by decide, b, rfl, fun j hj => ?_⟩
    have hj2 : j < 126 := hj
    have h3 := congrArg (fun x => x[j]?) h2
    simpa [hj2] using h3
  | _ + 1, h => cases h

theorem numbers (n k : Int) : ∃ m st', evF Tryd.prog ovA GL m 8 [.i .i64 n, .i .i64 k] (st0 gs1) = some (.b true, st') := by
  obtain ⟨v, st', ⟨M, h1⟩, u, h2, _, h3⟩ := f8 (fun _ => False) [.i .i64 n, .i .i64 k] (fun u => u = .b true) rfl (st0 gs1) [.i .i64 n, .i .i64 k] (Nat.le_refl _) gok (fun _ q => q.elim) ⟨_, _, rfl, rfl, _, _, rfl, rfl, rfl⟩
  subst h3
  have e : v = .b true := h2
  subst e
  exact ⟨M, st', h1 M (Nat.le_refl _)⟩
end Go.Proofs.YtcjoehlflbegpaaDoor

