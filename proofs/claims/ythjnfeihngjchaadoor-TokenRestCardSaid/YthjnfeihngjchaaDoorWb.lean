/-
  Small functions of the tokenizer do what the model says. Nothing is claimed here.
-/
import Derived.Test.YthjnfeihngjchaaDoorWa
import Derived.Test.YthjnfeihngjchaaDoorTh
namespace Go.Proofs.YthjnfeihngjchaaDoor
open Go.Vm Go.Sx Go.RowKit

/-! ### Places -/
abbrev okP (s : List UInt8) (i : Int) : Prop := 0 ≤ i ∧ i ≤ 2000000 ∧ s.length ≤ 1000000
theorem I64b {n : Int} (h : -100000000 ≤ n ∧ n ≤ 100000000) : I64 n := by unfold I64; omega
theorem hb_getD (s : List UInt8) (n : Nat) : hb (s.drop n) = ((s.getD n 0).toNat : Int) := by
  rw [List.getD_eq_getElem?_getD]
  by_cases h : n < s.length
  · rw [List.drop_eq_getElem_cons h, hb_cons, List.getElem?_eq_getElem h, Option.getD_some]
  · rw [List.drop_of_length_le (by omega), hb_nil, List.getElem?_eq_none (by omega)]
    rfl
theorem dropS {s : List UInt8} {i : Int} (h : 0 ≤ i) : s.drop (i + 1).toNat = (s.drop i.toNat).tail := by
  have : (i + 1).toNat = i.toNat + 1 := by omega
  rw [this, List.tail_drop]
theorem dropN {s : List UInt8} {i : Int} (h : 0 ≤ i) (n : Nat) : s.drop (i + (n : Int)).toNat = (s.drop i.toNat).drop n := by
  have : (i + (n : Int)).toNat = i.toNat + n := by omega
  rw [this, List.drop_drop]
theorem hb_in (w : List UInt8) : 0 ≤ hb w ∧ hb w ≤ 255 := by
  cases w with
  | nil => decide
  | cons c w => have := c.toNat_lt; rw [hb_cons]; omega
theorem drop_cons {s w : List UInt8} {c : UInt8} {i : Int} (h0 : 0 ≤ i) (h : s.drop i.toNat = c :: w) : i < (s.length : Int) ∧ s.getD i.toNat 0 = c ∧ s.drop (i + 1).toNat = w ∧ (w.length : Int) = s.length - i - 1 := by
  have hl : i.toNat < s.length := by
    by_cases q : i.toNat < s.length
    · exact q
    · rw [List.drop_of_length_le (by omega)] at h; cases h
  have e := List.drop_eq_getElem_cons hl
  rw [h] at e
  obtain ⟨e1, e2⟩ := List.cons.inj e
  have e3 := congrArg List.length e2
  rw [List.length_drop] at e3
  refine ⟨by omega, ?_, ?_, by omega⟩
  · rw [List.getD_eq_getElem?_getD, List.getElem?_eq_getElem hl, Option.getD_some, e1]
  · rw [dropS h0, h]; rfl
theorem drop_nil {s : List UInt8} {i : Int} (h : s.drop i.toNat = []) : s.length ≤ i.toNat := by
  have := congrArg List.length h
  rw [List.length_drop, List.length_nil] at this
  omega
theorem u8id (c : UInt8) : UInt8.ofNat ((c.toNat : Int).toNat) = c := by
  rw [Int.toNat_natCast]
  exact UInt8.ofNat_toNat
theorem u8in (c : UInt8) : 0 ≤ (c.toNat : Int) ∧ (c.toNat : Int) ≤ 255 := by have := c.toNat_lt; omega

/-! ### Bytes -/
def s_byteAt : T_token_byteAt := fun s i K => 0 ≤ i ∧ K (hb (s.drop i.toNat))
theorem p_byteAt (s i K) (h : s_byteAt s i K) : F_token_byteAt s i K := by
  obtain ⟨h0, h⟩ := h
  unfold F_token_byteAt
  refine ⟨fun q => ⟨⟨h0, of_decide_eq_true q⟩, ?_⟩, fun q => ?_⟩
  · rwa [hb_getD] at h
  · have q := of_decide_eq_false q
    rwa [List.drop_of_length_le (by omega)] at h
def s_isD : T_char_IsDigit := fun c K => K (mD c)
theorem p_isD (c K) (h : s_isD c K) : F_char_IsDigit c K := by
  unfold F_char_IsDigit
  unfold s_isD mD at h
  refine ⟨fun q => ?_, fun q => ?_⟩ <;> rw [q] at h <;> exact h
def s_isSign : T_token_isSign := fun c K => K (mSg c)
theorem p_isSign (c K) (h : s_isSign c K) : F_token_isSign c K := by
  unfold F_token_isSign
  unfold s_isSign mSg at h
  refine ⟨fun q => ?_, fun q => ?_⟩ <;> rw [q] at h <;> exact h
def s_isExp : T_token_isExponentMark := fun c K => K (mE c)
theorem p_isExp (c K) (h : s_isExp c K) : F_token_isExponentMark c K := by
  unfold F_token_isExponentMark
  unfold s_isExp mE at h
  refine ⟨fun q => ?_, fun q => ?_⟩ <;> rw [q] at h <;> exact h
def s_isL : T_char_IsLetter := fun c K => K (mL c)
theorem p_isL (c K) (h : s_isL c K) : F_char_IsLetter c K := by
  unfold F_char_IsLetter
  unfold s_isL mL at h
  refine ⟨fun q => ⟨fun q2 => ⟨fun q3 => ?_, fun q3 => ?_⟩, fun q2 => ?_⟩, fun q => ⟨fun q3 => ?_, fun q3 => ?_⟩⟩ <;> simpa only [*, Bool.true_and, Bool.false_and, Bool.true_or, Bool.false_or, Bool.and_true, Bool.and_false, Bool.or_false, Bool.or_true] using h
def s_starts : T_char_StartsName := fun c K => K (mN0 c)
theorem p_starts (c K) (h : s_starts c K) : F_char_StartsName s_isL c K := by
  unfold F_char_StartsName s_isL
  unfold s_starts mN0 at h
  refine ⟨fun q => ⟨fun q2 => ?_, fun q2 => ?_⟩, fun q => ?_⟩ <;> simpa only [*, Bool.true_or, Bool.false_or] using h
def s_isN : T_char_IsOfName := fun c K => K (mN c)
theorem p_isN (c K) (h : s_isN c K) : F_char_IsOfName s_starts s_isD c K := by
  unfold F_char_IsOfName s_starts s_isD
  unfold s_isN mN at h
  refine ⟨fun q => ⟨fun q2 => ?_, fun q2 => ?_⟩, fun q => ?_⟩ <;> simpa only [*, Bool.true_or, Bool.false_or] using h
def s_isSp : T_char_IsSpace := fun c K => K (mSp c)
theorem p_isSp (c K) (h : s_isSp c K) : F_char_IsSpace c K := by
  unfold F_char_IsSpace
  unfold s_isSp mSp at h
  refine ⟨fun q => ⟨fun q2 => ?_, fun q2 => ?_⟩, fun q => ?_⟩ <;> simpa only [*, Bool.true_or, Bool.false_or] using h
def s_isQ : T_char_IsQuote := fun c K => K (mQ c)
theorem p_isQ (c K) (h : s_isQ c K) : F_char_IsQuote c K := by
  unfold F_char_IsQuote
  unfold s_isQ mQ at h
  refine ⟨fun q => ?_, fun q => ?_⟩ <;> simpa only [*, Bool.true_or, Bool.false_or] using h

/-! ### What starts where -/
def s_frac : T_token_fractionStarts := fun s i K => okP s i ∧ K (fracS (s.drop i.toNat))
theorem p_frac (s i K) (h : s_frac s i K) : F_token_fractionStarts s_byteAt s_isD s i K := by
  obtain ⟨⟨h0, h1, h2⟩, h⟩ := h
  unfold fracS at h
  unfold F_token_fractionStarts s_byteAt s_isD
  rw [dropS h0]
  refine ⟨h0, fun q => ⟨I64b (by omega), by omega, ?_⟩, fun q => ?_⟩ <;> simpa only [q, Bool.true_and, Bool.false_and] using h
def s_esS : T_token_escapeStarts := fun s i K => okP s i ∧ K (escS (s.drop i.toNat))
theorem p_esS (s i K) (h : s_esS s i K) : F_token_escapeStarts s_byteAt s i K := by
  obtain ⟨⟨h0, h1, h2⟩, h⟩ := h
  unfold escS at h
  unfold F_token_escapeStarts s_byteAt
  rw [dropS h0]
  refine ⟨h0, fun q => ⟨I64b (by omega), by omega, ?_⟩, fun q => ?_⟩ <;> simpa only [q, Bool.true_and, Bool.false_and] using h
def s_numS : T_token_numberStarts := fun s i K => (okP s i ∧ i < 2000000) ∧ K (numS (s.drop i.toNat))
theorem p_numS (s i K) (h : s_numS s i K) : F_token_numberStarts s_byteAt s_isSign s_isD s_frac s i K := by
  obtain ⟨⟨⟨h0, h1, h2⟩, h3⟩, h⟩ := h
  unfold numS at h
  unfold F_token_numberStarts s_byteAt s_isD s_isSign s_frac
  rw [dropS h0]
  refine ⟨h0, fun q => ⟨I64b (by omega), by omega, ?_⟩, fun q => ⟨h0, ?_⟩⟩
  · simp only [q, if_true] at h
    refine ⟨fun q2 => ⟨⟨by omega, by omega, h2⟩, ?_⟩, fun q2 => ?_⟩ <;> simpa only [q2, Bool.true_or, Bool.false_or] using h
  · simp only [q, Bool.false_eq_true, if_false] at h
    refine ⟨fun q2 => ⟨⟨by omega, by omega, h2⟩, ?_⟩, fun q2 => ?_⟩ <;> simpa only [q2, Bool.true_or, Bool.false_or] using h
def s_digS : T_token_digitStarts := fun s i K => okP s i ∧ K (digS (s.drop i.toNat))
theorem p_digS (s i K) (h : s_digS s i K) : F_token_digitStarts s_byteAt s_isSign s_isD s i K := by
  obtain ⟨⟨h0, h1, h2⟩, h⟩ := h
  unfold digS at h
  unfold F_token_digitStarts s_byteAt s_isD s_isSign
  rw [dropS h0]
  refine ⟨h0, fun q => ⟨I64b (by omega), by omega, ?_⟩, fun q => ⟨h0, ?_⟩⟩ <;> simpa [q] using h
def s_nameS : T_token_nameStarts := fun s i K => (okP s i ∧ i < 2000000) ∧ K (nameS (s.drop i.toNat))
theorem p_nameS (s i K) (h : s_nameS s i K) : F_token_nameStarts s_byteAt s_starts s_esS s i K := by
  obtain ⟨⟨⟨h0, h1, h2⟩, h3⟩, h⟩ := h
  unfold nameS at h
  unfold F_token_nameStarts s_byteAt s_starts s_esS
  rw [dropS h0]
  refine ⟨h0, fun q => ⟨h0, fun q2 => ⟨⟨h0, h1, h2⟩, ?_⟩, fun q2 => ?_⟩, fun q => ⟨I64b (by omega), by omega, fun q2 => ⟨fun q3 => ⟨I64b (by omega), ⟨by omega, by omega, h2⟩, ?_⟩, fun q3 => ?_⟩, fun q2 => ?_⟩⟩
  · rw [if_pos (of_decide_eq_true q), q2] at h; exact h
  · rw [if_pos (of_decide_eq_true q), q2] at h; exact h
  · rw [if_neg (of_decide_eq_false q), q2, q3] at h; exact h
  · rw [if_neg (of_decide_eq_false q), q2, q3] at h; exact h
  · rw [if_neg (of_decide_eq_false q), q2] at h; exact h
def s_nameG : T_token_nameGoesOn := fun s i K => okP s i ∧ K (nameG (s.drop i.toNat))
theorem p_nameG (s i K) (h : s_nameG s i K) : F_token_nameGoesOn s_byteAt s_isN s_esS s i K := by
  obtain ⟨⟨h0, h1, h2⟩, h⟩ := h
  unfold nameG at h
  unfold F_token_nameGoesOn s_byteAt s_isN s_esS
  refine ⟨h0, fun q => ⟨⟨h0, h1, h2⟩, ?_⟩, fun q => ?_⟩ <;> simpa only [q, Bool.true_or, Bool.false_or] using h

/-! ### Spaces -/
theorem p_spL (s : List UInt8) (hs : s.length ≤ 1000000) (Ke : Int → Prop) : ∀ (w : List UInt8) (i : Int), s.drop i.toNat = w → okP s i → Ke (i + (nSp w : Int)) → ∃ m, F_token_behindSpaces_l1 s_byteAt s_isSp m s i Ke
  | [], i, hd, hi, h => by
    refine ⟨1, hi.1, fun q => ?_, fun _ => ?_⟩
    · rw [hd] at q; exact absurd q (by decide)
    · simpa [nSp] using h
  | c :: w, i, hd, hi, h => by
    obtain ⟨hl, hc, hn, _⟩ := drop_cons hi.1 hd
    cases q : mSp (c.toNat : Int) with
    | false =>
      unfold nSp at h
      rw [q] at h
      refine ⟨1, hi.1, fun q2 => ?_, fun _ => ?_⟩
      · rw [hd, hb_cons, q] at q2; cases q2
      · simpa using h
    | true =>
      unfold nSp at h
      rw [q] at h
      obtain ⟨m, hm⟩ := p_spL s hs Ke w (i + 1) hn ⟨by omega, by omega, hs⟩ (by
        have : i + 1 + (nSp w : Int) = i + ((nSp w + 1 : Nat) : Int) := by omega
        rw [this]
        simpa using h)
      refine ⟨m + 1, hi.1, fun _ => ⟨I64b (by omega), hm⟩, fun q2 => ?_⟩
      rw [hd, hb_cons, q] at q2; cases q2
def s_sp : T_token_behindSpaces := fun s i K => okP s i ∧ K (i + (nSp (s.drop i.toNat) : Int))
theorem p_sp (s i K) (h : s_sp s i K) : F_token_behindSpaces s_byteAt s_isSp s i K := p_spL s h.1.2.2 _ _ _ rfl h.1 h.2
end Go.Proofs.YthjnfeihngjchaaDoor
