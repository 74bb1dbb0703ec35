/-
  A number's text; the values of texts. Nothing is claimed here. (The texts Wb, We, Wv, Ka, one behind the other.)
-/
import Derived.Test.YthjnkibldhfhmaaDoorWa
import Derived.Test.YthjnkibldhfhmaaDoorTd
import Derived.Test.YthjnkibldhfhmaaDoorVk
import Derived.Lib.ItoaNum
namespace Go.Proofs.YthjnkibldhfhmaaDoor
open Go.Vm Go.Sx Go.RowKit

/-! ### Places -/
abbrev okP (s : List UInt8) (i : Int) : Prop := 0 ≤ i ∧ i ≤ 2000000 ∧ s.length ≤ 1000000
theorem I64b {n : Int} (h : -100000000 ≤ n ∧ n ≤ 100000000) : I64 n := by unfold I64; omega
theorem hb_getD (s : List UInt8) (n : Nat) : hb (s.drop n) = ((s.getD n 0).toNat : Int) := by
  rw [List.getD_eq_getElem?_getD]
  by_cases h : n < s.length
  · rw [List.drop_eq_getElem_cons h, hb_cons, List.getElem?_eq_getElem h, Option.getD_some]
  · rw [List.drop_of_length_le (by omega), hb_nil, List.getElem?_eq_none (by omega)]
    rfl
theorem dropS {s : List UInt8} {i : Int} (h : 0 ≤ i) : s.drop (i + 1).toNat = (s.drop i.toNat).tail := by
  have : (i + 1).toNat = i.toNat + 1 := by omega
  rw [this, List.tail_drop]
theorem dropN {s : List UInt8} {i : Int} (h : 0 ≤ i) (n : Nat) : s.drop (i + (n : Int)).toNat = (s.drop i.toNat).drop n := by
  have : (i + (n : Int)).toNat = i.toNat + n := by omega
  rw [this, List.drop_drop]
theorem hb_in (w : List UInt8) : 0 ≤ hb w ∧ hb w ≤ 255 := by
  cases w with
  | nil => decide
  | cons c w => have := c.toNat_lt; rw [hb_cons]; omega
theorem drop_cons {s w : List UInt8} {c : UInt8} {i : Int} (h0 : 0 ≤ i) (h : s.drop i.toNat = c :: w) : i < (s.length : Int) ∧ s.getD i.toNat 0 = c ∧ s.drop (i + 1).toNat = w ∧ (w.length : Int) = s.length - i - 1 := by
  have hl : i.toNat < s.length := by
    by_cases q : i.toNat < s.length
    · exact q
    · rw [List.drop_of_length_le (by omega)] at h; cases h
  have e := List.drop_eq_getElem_cons hl
  rw [h] at e
  obtain ⟨e1, e2⟩ := List.cons.inj e
  have e3 := congrArg List.length e2
  rw [List.length_drop] at e3
  refine ⟨by omega, ?_, ?_, by omega⟩
  · rw [List.getD_eq_getElem?_getD, List.getElem?_eq_getElem hl, Option.getD_some, e1]
  · rw [dropS h0, h]; rfl
theorem drop_nil {s : List UInt8} {i : Int} (h : s.drop i.toNat = []) : s.length ≤ i.toNat := by
  have := congrArg List.length h
  rw [List.length_drop, List.length_nil] at this
  omega
theorem u8id (c : UInt8) : UInt8.ofNat ((c.toNat : Int).toNat) = c := by
  rw [Int.toNat_natCast]
  exact UInt8.ofNat_toNat
theorem u8in (c : UInt8) : 0 ≤ (c.toNat : Int) ∧ (c.toNat : Int) ≤ 255 := by have := c.toNat_lt; omega

/-! ### Bytes -/
def s_byteAt : T_token_byteAt := fun s i K => 0 ≤ i ∧ K (hb (s.drop i.toNat))
theorem p_byteAt (s i K) (h : s_byteAt s i K) : F_token_byteAt s i K := by
  obtain ⟨h0, h⟩ := h
  unfold F_token_byteAt
  refine ⟨fun q => ⟨⟨h0, of_decide_eq_true q⟩, ?_⟩, fun q => ?_⟩
  · rwa [hb_getD] at h
  · have q := of_decide_eq_false q
    rwa [List.drop_of_length_le (by omega)] at h
def s_isD : T_char_IsDigit := fun c K => K (mD c)
theorem p_isD (c K) (h : s_isD c K) : F_char_IsDigit c K := by
  unfold F_char_IsDigit
  unfold s_isD mD at h
  refine ⟨fun q => ?_, fun q => ?_⟩ <;> rw [q] at h <;> exact h
def s_isSign : T_token_isSign := fun c K => K (mSg c)
theorem p_isSign (c K) (h : s_isSign c K) : F_token_isSign c K := by
  unfold F_token_isSign
  unfold s_isSign mSg at h
  refine ⟨fun q => ?_, fun q => ?_⟩ <;> rw [q] at h <;> exact h
def s_isExp : T_token_isExponentMark := fun c K => K (mE c)
theorem p_isExp (c K) (h : s_isExp c K) : F_token_isExponentMark c K := by
  unfold F_token_isExponentMark
  unfold s_isExp mE at h
  refine ⟨fun q => ?_, fun q => ?_⟩ <;> rw [q] at h <;> exact h
/-! ### What starts where -/
def s_frac : T_token_fractionStarts := fun s i K => okP s i ∧ K (fracS (s.drop i.toNat))
theorem p_frac (s i K) (h : s_frac s i K) : F_token_fractionStarts s_byteAt s_isD s i K := by
  obtain ⟨⟨h0, h1, h2⟩, h⟩ := h
  unfold fracS at h
  unfold F_token_fractionStarts s_byteAt s_isD
  rw [dropS h0]
  refine ⟨h0, fun q => ⟨I64b (by omega), by omega, ?_⟩, fun q => ?_⟩ <;> simpa only [q, Bool.true_and, Bool.false_and] using h
def s_numS : T_token_numberStarts := fun s i K => (okP s i ∧ i < 2000000) ∧ K (numS (s.drop i.toNat))
theorem p_numS (s i K) (h : s_numS s i K) : F_token_numberStarts s_byteAt s_isSign s_isD s_frac s i K := by
  obtain ⟨⟨⟨h0, h1, h2⟩, h3⟩, h⟩ := h
  unfold numS at h
  unfold F_token_numberStarts s_byteAt s_isD s_isSign s_frac
  rw [dropS h0]
  refine ⟨h0, fun q => ⟨I64b (by omega), by omega, ?_⟩, fun q => ⟨h0, ?_⟩⟩
  · simp only [q, if_true] at h
    refine ⟨fun q2 => ⟨⟨by omega, by omega, h2⟩, ?_⟩, fun q2 => ?_⟩ <;> simpa only [q2, Bool.true_or, Bool.false_or] using h
  · simp only [q, Bool.false_eq_true, if_false] at h
    refine ⟨fun q2 => ⟨⟨by omega, by omega, h2⟩, ?_⟩, fun q2 => ?_⟩ <;> simpa only [q2, Bool.true_or, Bool.false_or] using h
def s_digS : T_token_digitStarts := fun s i K => okP s i ∧ K (digS (s.drop i.toNat))
theorem p_digS (s i K) (h : s_digS s i K) : F_token_digitStarts s_byteAt s_isSign s_isD s i K := by
  obtain ⟨⟨h0, h1, h2⟩, h⟩ := h
  unfold digS at h
  unfold F_token_digitStarts s_byteAt s_isD s_isSign
  rw [dropS h0]
  refine ⟨h0, fun q => ⟨I64b (by omega), by omega, ?_⟩, fun q => ⟨h0, ?_⟩⟩ <;> simpa [q] using h
/-! ### Spaces -/

end Go.Proofs.YthjnkibldhfhmaaDoor

namespace Go.Proofs.YthjnkibldhfhmaaDoor
open Go.Vm Go.Sx Go.RowKit

def AllDg (w : List UInt8) : Prop := ∀ b, b ∈ w → mD (b.toNat : Int) = true
theorem digs_all (w : List UInt8) : AllDg (digs w) := fun b hb => by
  unfold digs at hb
  induction w with
  | nil => cases hb
  | cons c w ih =>
    rw [List.takeWhile_cons] at hb
    split at hb
    · rcases List.mem_cons.mp hb with rfl | hb
      · assumption
      · exact ih hb
    · cases hb
theorem digs_len (w : List UInt8) : (digs w).length ≤ w.length := (List.takeWhile_sublist _).length_le
theorem digs_nil : digs [] = [] := rfl
theorem digs_pos {c : UInt8} {w : List UInt8} (h : mD (c.toNat : Int) = true) : digs (c :: w) = c :: digs w := by unfold digs; rw [List.takeWhile_cons, if_pos h]
theorem digs_neg {c : UInt8} {w : List UInt8} (h : mD (c.toNat : Int) = false) : digs (c :: w) = [] := by unfold digs; rw [List.takeWhile_cons, if_neg (by rw [h]; decide)]
theorem take_digs (w : List UInt8) : w.take (digs w).length = digs w := by
  unfold digs
  induction w with
  | nil => rfl
  | cons c w ih =>
    rw [List.takeWhile_cons]
    split
    · rw [List.length_cons, List.take_succ_cons, ih]
    · rfl
theorem cut_digs {s : List UInt8} {i : Int} (h : 0 ≤ i) : (s.drop i.toNat).take ((i + ((digs (s.drop i.toNat)).length : Int)).toNat - i.toNat) = digs (s.drop i.toNat) := by
  have e : (i + ((digs (s.drop i.toNat)).length : Int)).toNat - i.toNat = (digs (s.drop i.toNat)).length := by omega
  rw [e, take_digs]
theorem p_dgL (s : List UInt8) (hs : s.length ≤ 1000000) (x : Int) (Ke : Int → List UInt8 → Int → Prop) : ∀ (w : List UInt8) (i : Int), s.drop i.toNat = w → okP s i → Ke x s (i + ((digs w).length : Int)) → ∃ m, F_token_readNumber_2_l2 s_byteAt s_isD m x s i Ke
  | [], i, hd, hi, h => by
    refine ⟨1, hi.1, fun q => ?_, fun _ => ?_⟩
    · rw [hd] at q; exact absurd q (by decide)
    · simpa [digs_nil] using h
  | c :: w, i, hd, hi, h => by
    obtain ⟨hl, hc, hn, _⟩ := drop_cons hi.1 hd
    cases q : mD (c.toNat : Int) with
    | false =>
      rw [digs_neg q] at h
      refine ⟨1, hi.1, fun q2 => ?_, fun _ => ?_⟩
      · rw [hd, hb_cons, q] at q2; cases q2
      · simpa using h
    | true =>
      rw [digs_pos q] at h
      obtain ⟨m, hm⟩ := p_dgL s hs x Ke w (i + 1) hn ⟨by omega, by omega, hs⟩ (by
        have : i + 1 + ((digs w).length : Int) = i + ((c :: digs w).length : Int) := by rw [List.length_cons]; omega
        rw [this]; exact h)
      refine ⟨m + 1, hi.1, fun _ => ⟨I64b (by omega), hm⟩, fun q2 => ?_⟩
      rw [hd, hb_cons, q] at q2; cases q2

/-! ### Whole numbers -/
theorem mD_in {c : UInt8} (h : mD (c.toNat : Int) = true) : 48 ≤ (c.toNat : Int) ∧ (c.toNat : Int) ≤ 57 := by
  unfold mD at h
  simp only [Bool.and_eq_true, decide_eq_true_eq] at h
  exact h
theorem w8' {n : Int} (h0 : 0 ≤ n) (h1 : n ≤ 255) : IntKind.u8.wrap n = n := by rw [IntKind.wrap_u8]; omega
theorem wholeF_in {a : Int} {c : UInt8} (h0 : 0 ≤ a) (h : mD (c.toNat : Int) = true) : 0 ≤ wholeF a c ∧ wholeF a c ≤ 8000 := by
  have := mD_in h
  unfold wholeF
  omega
theorem p_whL (s : List UInt8) (hs : s.length ≤ 1000000) (ha : AllDg s) (Ke : Int → Prop) : ∀ (w : List UInt8) (i a : Int), s.drop i.toNat = w → 0 ≤ i → i ≤ s.length → 0 ≤ a → a ≤ 8000 → Ke (w.foldl wholeF a) → ∃ m, F_token_wholeNumber_l3 m s a (s.length : Int) i Ke
  | [], i, a, hd, h0, hi, ha0, ha1, h => by
    have := drop_nil hd
    exact ⟨1, fun q => (by exfalso; have := of_decide_eq_true q; omega), fun _ => h⟩
  | c :: w, i, a, hd, h0, hi, ha0, ha1, h => by
    obtain ⟨hl, hc, hn, _⟩ := drop_cons h0 hd
    have hm : c ∈ s := List.mem_of_mem_drop (by rw [hd]; exact List.mem_cons_self ..)
    have hb := mD_in (ha c hm)
    have hf := wholeF_in ha0 (ha c hm)
    obtain ⟨m, hm⟩ := p_whL s hs ha Ke w (i + 1) (wholeF a c) hn (by omega) (by omega) hf.1 hf.2 h
    refine ⟨m + 1, fun _ => ⟨I64b (by omega), ⟨h0, hl⟩, ?_⟩, fun q => (by exfalso; have := of_decide_eq_false q; omega)⟩
    rw [hc, w8' (by omega) (by omega)]
    refine ⟨I64b (by omega), I64b (by omega), I64b (by omega), ?_⟩
    have e : (if (8000 : Int) < 10 * a + ((c.toNat : Int) - 48) then (8000 : Int) else 10 * a + ((c.toNat : Int) - 48)) = wholeF a c := by unfold wholeF; split <;> omega
    rw [e]
    exact hm
def s_whole : T_token_wholeNumber := fun w K => (AllDg w ∧ w.length ≤ 1000000) ∧ K (wholeM w)
theorem p_whole (w K) (h : s_whole w K) : F_token_wholeNumber w K := p_whL w h.1.2 h.1.1 K w 0 0 rfl (by omega) (by omega) (by omega) (by omega) h.2
theorem whole_in : ∀ (w : List UInt8) (a : Int), AllDg w → 0 ≤ a → a ≤ 8000 → 0 ≤ w.foldl wholeF a ∧ w.foldl wholeF a ≤ 8000
  | [], a, _, h0, h1 => ⟨h0, h1⟩
  | c :: w, a, hw, h0, h1 => by
    have hf := wholeF_in h0 (hw c (List.mem_cons_self ..))
    exact whole_in w _ (fun b hb => hw b (List.mem_cons_of_mem _ hb)) hf.1 hf.2

/-! ### Zeros, and what is cut -/
theorem p_trL : ∀ (s : List UInt8) (Ke : List UInt8 → Prop), Ke (zeros0 s) → ∃ m, F_strings_trimLeftByte_l1 m s 48 Ke
  | [], Ke, h => ⟨1, fun q => (by simp at q), fun _ => h⟩
  | b :: s, Ke, h => by
    cases q : b == 48 with
    | false =>
      have : zeros0 (b :: s) = b :: s := by unfold zeros0; rw [List.dropWhile_cons, if_neg (by rw [q]; decide)]
      rw [this] at h
      refine ⟨1, fun _ => ⟨⟨by omega, by simp⟩, fun q2 => ?_, fun _ => h⟩, fun q2 => ?_⟩
      · exfalso
        have q2 := of_decide_eq_true q2
        have : b = 48 := UInt8.toNat_inj.mp (by show b.toNat = 48; have : (b.toNat : Int) = 48 := q2; omega)
        rw [this] at q
        exact absurd q (by decide)
      · exfalso; have := of_decide_eq_false q2; simp at this
    | true =>
      have e : b = 48 := eq_of_beq q
      have : zeros0 (b :: s) = zeros0 s := by unfold zeros0; rw [List.dropWhile_cons, if_pos q]
      rw [this] at h
      obtain ⟨m, hm⟩ := p_trL s Ke h
      subst e
      exact ⟨m + 1, fun _ => ⟨⟨by omega, by simp⟩, fun _ => ⟨⟨by omega, by rw [List.length_cons]; omega⟩, hm⟩, fun q2 => (by cases (show true = false from q2))⟩, fun q2 => (by exfalso; have := of_decide_eq_false q2; simp at this)⟩
def s_trimB : T_strings_trimLeftByte := fun s c K => c = 48 ∧ K (zeros0 s)
theorem p_trimB (s c K) (h : s_trimB s c K) : F_strings_trimLeftByte s c K := by
  obtain ⟨rfl, h⟩ := h
  exact p_trL s _ h
def s_trim : T_strings_TrimLeft := fun s c K => c = [48] ∧ K (zeros0 s)
theorem p_trim (s c K) (h : s_trim s c K) : F_strings_TrimLeft s_trimB s c K := by
  obtain ⟨rfl, h⟩ := h
  refine ⟨fun _ => ⟨fun q => (by exact absurd q (by decide)), fun _ => ⟨fun _ => ⟨⟨by omega, by decide⟩, fun _ => ⟨⟨by omega, by decide⟩, rfl, h⟩, fun q => absurd q (by decide)⟩, fun q => absurd q (by decide)⟩⟩, fun q => ?_⟩
  have : s = [] := eq_of_beq q
  subst this
  exact h
theorem zeros0_all {w : List UInt8} (h : AllDg w) : AllDg (zeros0 w) := fun b hb => h b ((List.dropWhile_sublist _).subset hb)
theorem zeros0_len (w : List UInt8) : (zeros0 w).length ≤ w.length := (List.dropWhile_sublist _).length_le
theorem p_cutL (s : List UInt8) (hs : s.length ≤ 1000000) (ha : AllDg s) (A : T_strings_TrimLeft) (p : Int) (Ke : Int → Prop) : ∀ (k : Nat) (w : List UInt8) (i : Nat) (a : Int), s.drop i = w → (i : Int) + k = p → i + k ≤ 13 → 0 ≤ a → a < 10 ^ i → Ke (firstM k w a) → ∃ m, F_token_cutNumber_l9 A m s a p (i : Int) Ke
  | 0, w, i, a, hd, hp, h13, ha0, ha1, h => ⟨1, fun q => (by exfalso; have := of_decide_eq_true q; omega), fun _ => (by cases w <;> exact h)⟩
  | k + 1, w, i, a, hd, hp, h13, ha0, ha1, h => by
    have e10 : (10 : Int) ^ i ≤ 10 ^ 13 := by
      have := Nat.pow_le_pow_right (n := 10) (by decide) (show i ≤ 13 by omega)
      exact_mod_cast this
    have e13 : (10 : Int) ^ 13 = 10000000000000 := by decide
    have es : (10 : Int) ^ (i + 1) = 10 ^ i * 10 := Int.pow_succ _ _
    cases w with
    | nil =>
      have hl : s.length ≤ i := by
        have := congrArg List.length hd
        rw [List.length_drop, List.length_nil] at this
        omega
      obtain ⟨m, hm⟩ := p_cutL s hs ha A p Ke k [] (i + 1) (a * 10) (List.drop_of_length_le (by omega)) (by omega) (by omega) (by omega) (by rw [es]; omega) h
      refine ⟨m + 1, fun _ => ⟨by unfold I64; omega, fun q => (by exfalso; have := of_decide_eq_true q; omega), fun _ => ⟨I64b (by omega), ?_⟩⟩, fun q => (by exfalso; have := of_decide_eq_false q; omega)⟩
      exact hm
    | cons c w =>
      have hd2 : s.drop (i : Int).toNat = c :: w := hd
      obtain ⟨hl, hc, hn, _⟩ := drop_cons (by omega) hd2
      have hmem : c ∈ s := List.mem_of_mem_drop (by rw [hd]; exact List.mem_cons_self ..)
      have hb := mD_in (ha c hmem)
      obtain ⟨m, hm⟩ := p_cutL s hs ha A p Ke k w (i + 1) (a * 10 + ((c.toNat : Int) - 48)) hn (by omega) (by omega) (by omega) (by rw [es]; omega) h
      refine ⟨m + 1, fun _ => ⟨by unfold I64; omega, fun _ => ⟨⟨by omega, hl⟩, ?_⟩, fun q => (by exfalso; have := of_decide_eq_false q; omega)⟩, fun q => (by exfalso; have := of_decide_eq_false q; omega)⟩
      rw [hc, w8' (by omega) (by omega)]
      exact ⟨I64b (by omega), by unfold I64; omega, I64b (by omega), hm⟩
def s_cut : T_token_cutNumber := fun w p K => (AllDg w ∧ w.length ≤ 1000000 ∧ -1000000 ≤ p ∧ p ≤ 2000000) ∧ K (cutM w p)
theorem p_cut (w p K) (h : s_cut w p K) : F_token_cutNumber s_trim w p K := by
  obtain ⟨⟨ha, hl, h0, h1⟩, h⟩ := h
  have hz := zeros0_len w
  unfold cutM at h
  simp only at h
  refine ⟨rfl, I64b (by omega), I64b (by omega), fun q => ⟨fun q2 => ?_, fun q2 => ⟨fun q3 => ?_, fun q3 => ?_⟩⟩, fun q => ?_⟩
  · rw [if_pos (Or.inr (of_decide_eq_true q2))] at h; exact h
  · have q2 := of_decide_eq_false q2
    have q : zeros0 w ≠ [] := fun e => by rw [e] at q; cases q
    rw [if_neg (fun x => x.elim q q2), if_pos (of_decide_eq_true q3)] at h; exact h
  · have q2 := of_decide_eq_false q2
    have q3 := of_decide_eq_false q3
    have q : zeros0 w ≠ [] := fun e => by rw [e] at q; cases q
    rw [if_neg (fun x => x.elim q q2), if_neg q3] at h
    refine p_cutL (zeros0 w) (by omega) (zeros0_all ha) _ _ _ (p - ((w.length : Int) - ((zeros0 w).length : Int))).toNat (zeros0 w) 0 0 rfl (by omega) (by omega) (by omega) (by decide) ?_
    have e : ∀ n : Int, (if (1000000000000 : Int) < n then (1000000000000 : Int) else n) = min n 1000000000000 := fun n => by split <;> omega
    rw [e]
    exact h
  · rw [if_pos (Or.inl (eq_of_beq q))] at h; exact h

/-! ### A number -/
abbrev lpN := F_token_readNumber_2_l2 s_byteAt s_isD
theorem firstM_in : ∀ (k : Nat) (w : List UInt8) (a : Int), AllDg w → 0 ≤ a → 0 ≤ firstM k w a
  | 0, w, a, _, h => by cases w <;> exact h
  | k + 1, [], a, hw, h => by rw [firstM]; exact firstM_in k [] _ hw (by omega)
  | k + 1, c :: w, a, hw, h => by
    have := mD_in (hw c (List.mem_cons_self ..))
    rw [firstM]
    exact firstM_in k w _ (fun b hb => hw b (List.mem_cons_of_mem _ hb)) (by omega)
theorem cutM_in {w : List UInt8} (h : AllDg w) (p : Int) : 0 ≤ cutM w p ∧ cutM w p ≤ 1000000000000 := by
  unfold cutM
  simp only
  split
  · omega
  · split
    · omega
    · have := firstM_in (p - ((w.length : Int) - ((zeros0 w).length : Int))).toNat (zeros0 w) 0 (zeros0_all h) (by omega)
      omega
/-- What is done with the digits and the exponent. -/
def restN (W V : List UInt8) (c : Int) (K : Int → Bool → Int → Prop) (e : Int) (b : Bool) (j : Int) : Prop :=
  W.length + V.length ≤ 1099511627776 ∧ (I64 ((W.length : Int) + e) ∧ (I64 (((W.length : Int) + e) + 3) ∧ (s_cut (W ++ V) (((W.length : Int) + e) + 3) (fun y => ((decide (c = 45)) = true → (I64 (0 - y) ∧ K (0 - y) b j)) ∧ ((decide (c = 45)) = false → K y b j)))))
theorem restN_ok {W V : List UInt8} {c : Int} {K : Int → Bool → Int → Prop} {e : Int} {b : Bool} {j : Int} (hW : AllDg W) (hV : AllDg V) (lW : W.length ≤ 400000) (lV : V.length ≤ 400000) (he : -10000 ≤ e ∧ e ≤ 10000)
    (h : K (if c = 45 then 0 - cutM (W ++ V) ((W.length : Int) + e + 3) else cutM (W ++ V) ((W.length : Int) + e + 3)) b j) : restN W V c K e b j := by
  have hA : AllDg (W ++ V) := fun x hx => (List.mem_append.mp hx).elim (hW x) (hV x)
  have hc := cutM_in hA ((W.length : Int) + e + 3)
  refine ⟨by omega, I64b (by omega), I64b (by omega), ⟨hA, by rw [List.length_append]; omega, by omega, by omega⟩, fun q => ⟨by unfold I64; omega, ?_⟩, fun q => ?_⟩
  · rw [if_pos (of_decide_eq_true q)] at h; exact h
  · rw [if_neg (of_decide_eq_false q)] at h; exact h
/-- The exponent's part. -/
theorem p_expT {s : List UInt8} {j : Int} (hs : s.length ≤ 400000) (h0 : 0 ≤ j) (hj : j ≤ s.length) (R : Int → Bool → Int → Prop) (b : Bool) (h : R (expM (s.drop j.toNat)).1 (b && decide ((expM (s.drop j.toNat)).2 = 0)) (j + ((expM (s.drop j.toNat)).2 : Int))) :
    (s_byteAt s j (fun y11 => (s_isExp y11 (fun y12 => ((y12 = true → (I64 (j + (1 : Int)) ∧ (s_digS s (j + (1 : Int)) (fun y13 => ((y13 = true → (I64 (j + (1 : Int)) ∧ (s_byteAt s (j + (1 : Int)) (fun y14 => (s_byteAt s (j + (1 : Int)) (fun y15 => (s_isSign y15 (fun y16 => ((y16 = true → (I64 ((j + (1 : Int)) + (1 : Int)) ∧ (∃ m, lpN m ((j + (1 : Int)) + (1 : Int)) s ((j + (1 : Int)) + (1 : Int)) (fun y17 y18 y19 => ((0 ≤ y17 ∧ y17 ≤ y19 ∧ y19 ≤ (y18.length : Int)) ∧ (s_whole ((y18.drop y17.toNat).take (y19.toNat - y17.toNat)) (fun y20 => (((decide (y14 = (45 : Int))) = true → (I64 (0 - y20) ∧ R (0 - y20) false y19)) ∧ ((decide (y14 = (45 : Int))) = false → R y20 false y19))))))))) ∧ (y16 = false → (∃ m, lpN m (j + (1 : Int)) s (j + (1 : Int)) (fun y23 y24 y25 => ((0 ≤ y23 ∧ y23 ≤ y25 ∧ y25 ≤ (y24.length : Int)) ∧ (s_whole ((y24.drop y23.toNat).take (y25.toNat - y23.toNat)) (fun y26 => (((decide (y14 = (45 : Int))) = true → (I64 (0 - y26) ∧ R (0 - y26) false y25)) ∧ ((decide (y14 = (45 : Int))) = false → R y26 false y25))))))))))))))))) ∧ (y13 = false → R 0 b j)))))) ∧ (y12 = false → R 0 b j)))))) := by
  have hok : ∀ x : Int, 0 ≤ x → x ≤ s.length + 10 → okP s x := fun x a b => ⟨a, by omega, by omega⟩
  have none : (expM (s.drop j.toNat)) = (0, 0) → R 0 b j := fun e => by rw [e] at h; simpa using h
  refine ⟨h0, fun q => ⟨I64b (by omega), hok _ (by omega) (by omega), fun q2 => ⟨I64b (by omega), by omega, by omega, fun q3 => ⟨I64b (by omega), ?_⟩, fun q3 => ?_⟩, fun q2 => none ?_⟩, fun q => none ?_⟩
  · rw [dropS h0] at q2 q3
    have hlen : j + 1 < s.length := by
      by_cases q4 : j + 1 < s.length
      · exact q4
      · exfalso
        rw [← dropS h0, List.drop_of_length_le (by omega)] at q3
        exact absurd q3 (by decide)
    have hd := digs_len (s.drop (j + 1 + 1).toNat)
    rw [List.length_drop] at hd
    have e : expM (s.drop j.toNat) = (if hb (s.drop j.toNat).tail = 45 then 0 - wholeM (digs (s.drop (j + 1 + 1).toNat)) else wholeM (digs (s.drop (j + 1 + 1).toNat)), 2 + (digs (s.drop (j + 1 + 1).toNat)).length) := by
      unfold expM
      rw [q, q2, Bool.and_self, if_pos rfl]
      simp only [q3, if_true]
      rw [dropS (by omega : 0 ≤ j + 1), dropS h0]
    rw [e] at h
    refine p_dgL s (by omega) _ _ _ _ rfl (hok _ (by omega) (by omega)) ⟨⟨by omega, by omega, by omega⟩, ?_⟩
    rw [cut_digs (by omega)]
    have hwh := whole_in (digs (s.drop (j + 1 + 1).toNat)) 0 (digs_all _) (by omega) (by omega)
    have e2 : j + ((2 + (digs (s.drop (j + 1 + 1).toNat)).length : Nat) : Int) = j + 1 + 1 + ((digs (s.drop (j + 1 + 1).toNat)).length : Int) := by omega
    rw [e2] at h
    refine ⟨⟨digs_all _, by omega⟩, fun q4 => ⟨I64b (by show _ ∧ _; unfold wholeM; omega), ?_⟩, fun q4 => ?_⟩
    · rw [dropS h0] at q4
      rw [if_pos (of_decide_eq_true q4)] at h
      simpa using h
    · rw [dropS h0] at q4
      rw [if_neg (of_decide_eq_false q4)] at h
      simpa using h
  · rw [dropS h0] at q2 q3
    have hlen : j + 1 ≤ s.length := by
      by_cases q4 : j + 1 ≤ s.length
      · exact q4
      · exfalso
        unfold digS at q2
        rw [← dropS h0, List.drop_of_length_le (by omega)] at q2
        exact absurd q2 (by decide)
    have hd := digs_len (s.drop (j + 1).toNat)
    rw [List.length_drop] at hd
    have e : expM (s.drop j.toNat) = (if hb (s.drop j.toNat).tail = 45 then 0 - wholeM (digs (s.drop (j + 1).toNat)) else wholeM (digs (s.drop (j + 1).toNat)), 1 + (digs (s.drop (j + 1).toNat)).length) := by
      unfold expM
      rw [q, q2, Bool.and_self, if_pos rfl]
      simp only [q3, Bool.false_eq_true, if_false]
      rw [dropS h0]
    rw [e] at h
    refine p_dgL s (by omega) _ _ _ _ rfl (hok _ (by omega) (by omega)) ⟨⟨by omega, by omega, by omega⟩, ?_⟩
    rw [cut_digs (by omega)]
    have hwh := whole_in (digs (s.drop (j + 1).toNat)) 0 (digs_all _) (by omega) (by omega)
    have e2 : j + ((1 + (digs (s.drop (j + 1).toNat)).length : Nat) : Int) = j + 1 + ((digs (s.drop (j + 1).toNat)).length : Int) := by omega
    rw [e2] at h
    refine ⟨⟨digs_all _, by omega⟩, fun q4 => ⟨I64b (by show _ ∧ _; unfold wholeM; omega), ?_⟩, fun q4 => ?_⟩
    · rw [dropS h0] at q4
      rw [if_pos (of_decide_eq_true q4)] at h
      simpa using h
    · rw [dropS h0] at q4
      rw [if_neg (of_decide_eq_false q4)] at h
      simpa using h
  · rw [dropS h0] at q2
    unfold expM
    rw [q2, Bool.and_false, if_neg (by decide)]
  · unfold expM
    rw [q, Bool.false_and, if_neg (by decide)]
theorem exp_in (w : List UInt8) : -10000 ≤ (expM w).1 ∧ (expM w).1 ≤ 10000 := by
  unfold expM
  split
  · have h := fun v : List UInt8 => whole_in (digs v) 0 (digs_all _) (by omega) (by omega)
    simp only
    split
    · have := h (if mSg (hb w.tail) = true then w.tail.tail else w.tail)
      unfold wholeM
      omega
    · have := h (if mSg (hb w.tail) = true then w.tail.tail else w.tail)
      unfold wholeM
      omega
  · decide
def s_num : T_token_readNumber := fun s i K => (0 ≤ i ∧ i ≤ s.length ∧ s.length ≤ 400000) ∧ K (numM (s.drop i.toNat)).1 (numM (s.drop i.toNat)).2.1 (i + ((numM (s.drop i.toNat)).2.2 : Int))
theorem p_num (s i K) (h : s_num s i K) : F_token_readNumber s_frac s_byteAt s_isExp s_digS s_whole s_cut s_isSign s_isD s i K := by
  obtain ⟨⟨h0, hi, hs⟩, h⟩ := h
  generalize hw : s.drop i.toNat = w at h
  have hbw : hb (s.drop i.toNat) = hb w := by rw [hw]
  refine ⟨h0, h0, fun q => ⟨I64b (by omega), ?_⟩, fun q => ?_⟩
  · rw [hw] at q
    have hl : i < s.length := by
      by_cases q2 : i < s.length
      · exact q2
      · exfalso
        rw [← hw, List.drop_of_length_le (by omega)] at q
        exact absurd q (by decide)
    have hsn : signN w = 1 := by unfold signN; rw [if_pos q]
    have hd1 := digs_len (s.drop (i + 1).toNat)
    rw [List.length_drop] at hd1
    have eS : w.drop (signN w) = s.drop (i + 1).toNat := by rw [hsn, ← hw, List.drop_one, dropS h0]
    have eW : wholeD w = digs (s.drop (i + 1).toNat) := by unfold wholeD; rw [eS]
    have eB : s.drop (i + 1 + ((digs (s.drop (i + 1).toNat)).length : Int)).toNat = w.drop (behindW w) := by
      unfold behindW
      rw [eW, ← List.drop_drop, eS]
      exact dropN (by omega) _
    refine p_dgL s (by omega) _ _ _ _ rfl ⟨by omega, by omega, by omega⟩ ⟨⟨by omega, by omega, by omega⟩, ⟨by omega, by omega, by omega⟩, fun q7 => ⟨I64b (by omega), ?_⟩, fun q7 => ?_⟩
    · rw [eB] at q7
      have hl1 : i + 1 + ((digs (s.drop (i + 1).toNat)).length : Int) < s.length := by
        by_cases q8 : i + 1 + ((digs (s.drop (i + 1).toNat)).length : Int) < s.length
        · exact q8
        · exfalso
          rw [← eB, List.drop_of_length_le (by omega)] at q7
          exact absurd q7 (by decide)
      have hd2 := digs_len (s.drop (i + 1 + ((digs (s.drop (i + 1).toNat)).length : Int) + 1).toNat)
      rw [List.length_drop] at hd2
      have eV : fracD w = digs (s.drop (i + 1 + ((digs (s.drop (i + 1).toNat)).length : Int) + 1).toNat) := by
        unfold fracD
        rw [if_pos q7, dropS (by omega), eB]
      have eF : s.drop (i + 1 + ((digs (s.drop (i + 1).toNat)).length : Int) + 1 + ((digs (s.drop (i + 1 + ((digs (s.drop (i + 1).toNat)).length : Int) + 1).toNat)).length : Int)).toNat = w.drop (behindF w) := by
        unfold behindF
        rw [if_pos q7, eV, ← List.drop_drop, ← eB, dropN (by omega), dropS (by omega), ← List.drop_drop, List.drop_one]
      refine p_dgL s (by omega) _ _ _ _ rfl ⟨by omega, by omega, by omega⟩ ⟨⟨by omega, by omega, by omega⟩, ?_⟩
      rw [cut_digs (by omega), cut_digs (by omega)]
      have hx := exp_in (w.drop (behindF w))
      refine p_expT hs (by omega) (by omega) (restN (digs (s.drop (i + 1).toNat)) (digs (s.drop (i + 1 + ((digs (s.drop (i + 1).toNat)).length : Int) + 1).toNat)) (hb (s.drop i.toNat)) K) false ?_
      rw [eF]
      refine restN_ok (digs_all _) (digs_all _) (by omega) (by omega) hx ?_
      unfold numM behindE at h
      simp only [q7, Bool.not_true, Bool.false_and] at h ⊢
      rw [eW, eV] at h
      rw [hbw]
      have ej : i + ((behindF w + (expM (w.drop (behindF w))).2 : Nat) : Int) = i + 1 + ((digs (s.drop (i + 1).toNat)).length : Int) + 1 + ((digs (s.drop (i + 1 + ((digs (s.drop (i + 1).toNat)).length : Int) + 1).toNat)).length : Int) + ((expM (w.drop (behindF w))).2 : Int) := by
        have : behindF w = behindW w + (1 + (fracD w).length) := by unfold behindF; rw [if_pos q7]
        have h3 : behindW w = signN w + (wholeD w).length := rfl
        rw [eV] at this
        rw [eW, hsn] at h3
        omega
      rw [← ej]
      exact h
    · rw [eB] at q7
      have eF : s.drop (i + 1 + ((digs (s.drop (i + 1).toNat)).length : Int)).toNat = w.drop (behindF w) := by
        unfold behindF
        rw [if_neg (by rw [q7]; decide), Nat.add_zero, eB]
      have eV : fracD w = [] := by
        unfold fracD
        rw [if_neg (by rw [q7]; decide)]
      rw [cut_digs (by omega)]
      have hx := exp_in (w.drop (behindF w))
      refine p_expT hs (by omega) (by omega) (restN (digs (s.drop (i + 1).toNat)) [] (hb (s.drop i.toNat)) K) true ?_
      rw [eF]
      refine restN_ok (digs_all _) (fun b hb => by cases hb) (by omega) (Nat.zero_le _) hx ?_
      unfold numM behindE at h
      simp only [q7, Bool.not_false, Bool.true_and] at h ⊢
      rw [eW, eV] at h
      rw [hbw]
      have ej : i + ((behindF w + (expM (w.drop (behindF w))).2 : Nat) : Int) = i + 1 + ((digs (s.drop (i + 1).toNat)).length : Int) + ((expM (w.drop (behindF w))).2 : Int) := by
        have : behindF w = behindW w := by unfold behindF; rw [if_neg (by rw [q7]; decide), Nat.add_zero]
        have h3 : behindW w = signN w + (wholeD w).length := rfl
        rw [eW, hsn] at h3
        omega
      rw [← ej]
      exact h
  · rw [hw] at q
    have hsn : signN w = 0 := by unfold signN; rw [if_neg (by rw [q]; decide)]
    have hd1 := digs_len (s.drop i.toNat)
    rw [List.length_drop] at hd1
    have eS : w.drop (signN w) = s.drop i.toNat := by rw [hsn, ← hw, List.drop_zero]
    have eW : wholeD w = digs (s.drop i.toNat) := by unfold wholeD; rw [eS]
    have eB : s.drop (i + ((digs (s.drop i.toNat)).length : Int)).toNat = w.drop (behindW w) := by
      unfold behindW
      rw [eW, ← List.drop_drop, eS]
      exact dropN (by omega) _
    refine p_dgL s (by omega) _ _ _ _ rfl ⟨by omega, by omega, by omega⟩ ⟨⟨by omega, by omega, by omega⟩, ⟨by omega, by omega, by omega⟩, fun q7 => ⟨I64b (by omega), ?_⟩, fun q7 => ?_⟩
    · rw [eB] at q7
      have hl1 : i + ((digs (s.drop i.toNat)).length : Int) < s.length := by
        by_cases q8 : i + ((digs (s.drop i.toNat)).length : Int) < s.length
        · exact q8
        · exfalso
          rw [← eB, List.drop_of_length_le (by omega)] at q7
          exact absurd q7 (by decide)
      have hd2 := digs_len (s.drop (i + ((digs (s.drop i.toNat)).length : Int) + 1).toNat)
      rw [List.length_drop] at hd2
      have eV : fracD w = digs (s.drop (i + ((digs (s.drop i.toNat)).length : Int) + 1).toNat) := by
        unfold fracD
        rw [if_pos q7, dropS (by omega), eB]
      have eF : s.drop (i + ((digs (s.drop i.toNat)).length : Int) + 1 + ((digs (s.drop (i + ((digs (s.drop i.toNat)).length : Int) + 1).toNat)).length : Int)).toNat = w.drop (behindF w) := by
        unfold behindF
        rw [if_pos q7, eV, ← List.drop_drop, ← eB, dropN (by omega), dropS (by omega), ← List.drop_drop, List.drop_one]
      refine p_dgL s (by omega) _ _ _ _ rfl ⟨by omega, by omega, by omega⟩ ⟨⟨by omega, by omega, by omega⟩, ?_⟩
      rw [cut_digs (by omega), cut_digs (by omega)]
      have hx := exp_in (w.drop (behindF w))
      refine p_expT hs (by omega) (by omega) (restN (digs (s.drop i.toNat)) (digs (s.drop (i + ((digs (s.drop i.toNat)).length : Int) + 1).toNat)) (hb (s.drop i.toNat)) K) false ?_
      rw [eF]
      refine restN_ok (digs_all _) (digs_all _) (by omega) (by omega) hx ?_
      unfold numM behindE at h
      simp only [q7, Bool.not_true, Bool.false_and] at h ⊢
      rw [eW, eV] at h
      rw [hbw]
      have ej : i + ((behindF w + (expM (w.drop (behindF w))).2 : Nat) : Int) = i + ((digs (s.drop i.toNat)).length : Int) + 1 + ((digs (s.drop (i + ((digs (s.drop i.toNat)).length : Int) + 1).toNat)).length : Int) + ((expM (w.drop (behindF w))).2 : Int) := by
        have : behindF w = behindW w + (1 + (fracD w).length) := by unfold behindF; rw [if_pos q7]
        have h3 : behindW w = signN w + (wholeD w).length := rfl
        rw [eV] at this
        rw [eW, hsn] at h3
        omega
      rw [← ej]
      exact h
    · rw [eB] at q7
      have eF : s.drop (i + ((digs (s.drop i.toNat)).length : Int)).toNat = w.drop (behindF w) := by
        unfold behindF
        rw [if_neg (by rw [q7]; decide), Nat.add_zero, eB]
      have eV : fracD w = [] := by
        unfold fracD
        rw [if_neg (by rw [q7]; decide)]
      rw [cut_digs (by omega)]
      have hx := exp_in (w.drop (behindF w))
      refine p_expT hs (by omega) (by omega) (restN (digs (s.drop i.toNat)) [] (hb (s.drop i.toNat)) K) true ?_
      rw [eF]
      refine restN_ok (digs_all _) (fun b hb => by cases hb) (by omega) (Nat.zero_le _) hx ?_
      unfold numM behindE at h
      simp only [q7, Bool.not_false, Bool.true_and] at h ⊢
      rw [eW, eV] at h
      rw [hbw]
      have ej : i + ((behindF w + (expM (w.drop (behindF w))).2 : Nat) : Int) = i + ((digs (s.drop i.toNat)).length : Int) + ((expM (w.drop (behindF w))).2 : Int) := by
        have : behindF w = behindW w := by unfold behindF; rw [if_neg (by rw [q7]; decide), Nat.add_zero]
        have h3 : behindW w = signN w + (wholeD w).length := rfl
        rw [eW, hsn] at h3
        omega
      rw [← ej]
      exact h
end Go.Proofs.YthjnkibldhfhmaaDoor

namespace Go.Proofs.YthjnkibldhfhmaaDoor
open Go.Vm Go.Sx Go.RowKit

def s_val : T_token_Value := fun s K => (4000 < s.length → K 0 false 28) ∧ (s.length ≤ 4000 → (numS s = false ∨ (numM s).2.2 ≠ s.length) → K 0 false 12) ∧ (s.length ≤ 4000 → numS s = true → (numM s).2.2 = s.length → K (numM s).1 (numM s).2.1 0)
theorem p_val (s K) (h : s_val s K) : F_token_Value s_numS s_num s K := by
  obtain ⟨h1, h2, h3⟩ := h
  refine ⟨fun q => h1 (by have := of_decide_eq_true q; omega), fun q => ?_⟩
  have q := of_decide_eq_false q
  have e0 : s.drop (0 : Int).toNat = s := rfl
  refine ⟨⟨⟨by omega, by omega, by omega⟩, by omega⟩, ?_⟩
  rw [e0]
  refine ⟨fun q2 => h2 (by omega) (Or.inl (by simpa using q2)), fun q2 => ⟨⟨by omega, by omega, by omega⟩, ?_⟩⟩
  rw [e0]
  refine ⟨fun q3 => h2 (by omega) (Or.inr (by have := of_decide_eq_true q3; omega)), fun q3 => h3 (by omega) (by simpa using q2) (by have := of_decide_eq_false q3; omega)⟩
end Go.Proofs.YthjnkibldhfhmaaDoor

set_option linter.unusedVariables false
set_option linter.unusedSimpArgs false
namespace Go.Proofs.YthjnkibldhfhmaaDoor
open Go.Vm Go.Sx Go.RowKit Go.Vk
def fr3 : Nat → Nat → List UInt8
  | 0, _ => []
  | k + 1, r => UInt8.ofNat (48 + r * 10 / 1000) :: if r * 10 % 1000 = 0 then [] else fr3 k (r * 10 % 1000)
def numT (n : Int) (whole : Bool) : List UInt8 := (if n < 0 then [45] else []) ++ (Lib.decDigits (n.natAbs / 1000) ++ (if whole then [] else 46 :: fr3 3 (n.natAbs % 1000)))

theorem fr3_len : ∀ k r, (fr3 k r).length ≤ k
  | 0, _ => Nat.le_refl _
  | k + 1, r => by
    simp only [fr3, List.length_cons]
    split
    · simp
    · have := fr3_len k (r * 10 % 1000); omega
theorem dec_len {a : Nat} (h : a ≤ 1000000000) : (Lib.decDigits a).length ≤ 10 := by
  rw [Lib.decDigits_length]
  have h10 : ∀ k u, u < 10 ^ (k + 1) → Lib.nDigits u ≤ k + 1 := by
    intro k
    induction k with
    | zero => intro u hu; rw [Lib.nDigits_small (by simpa using hu)]; omega
    | succ k ih =>
      intro u hu
      by_cases q : u < 10
      · rw [Lib.nDigits_small q]; omega
      · rw [Lib.nDigits_big q]
        have := ih (u / 10) (by rw [Nat.pow_succ] at hu; omega)
        omega
  exact h10 9 a (by omega)
theorem numT_len {n : Int} (h : -1000000000000 ≤ n ∧ n ≤ 1000000000000) (w : Bool) : (numT n w).length ≤ 15 := by
  have h1 := dec_len (a := n.natAbs / 1000) (by omega)
  have h2 := fr3_len 3 (n.natAbs % 1000)
  unfold numT
  rw [List.length_append, List.length_append]
  have h3 : (if n < 0 then [(45 : UInt8)] else []).length ≤ 1 := by split <;> simp
  have h4 : (if w then ([] : List UInt8) else 46 :: fr3 3 (n.natAbs % 1000)).length ≤ 4 := by split <;> simp <;> omega
  omega

theorem td {x : Int} {y : Nat} (h : x = (y : Int)) (k : Nat) : x.tdiv (k : Int) = ((y / k : Nat) : Int) := by
  subst h
  rw [Int.tdiv_eq_ediv_of_nonneg (by omega)]
  omega
theorem tm {x : Int} {y : Nat} (h : x = (y : Int)) (k : Nat) : x.tmod (k : Int) = ((y % k : Nat) : Int) := by
  subst h
  rw [Int.tmod_eq_emod_of_nonneg (by omega)]
  omega


/-- The number of some digits. -/
def dvG (a : Int) (c : UInt8) : Int := a * 10 + ((c.toNat : Int) - 48)
def dv (w : List UInt8) : Int := w.foldl dvG 0
theorem dv_fold : ∀ (w : List UInt8) (a : Int), w.foldl dvG a = a * 10 ^ w.length + dv w
  | [], a => by simp [dv]
  | c :: w, a => by
    have h1 := dv_fold w (dvG a c)
    have h2 := dv_fold w (dvG 0 c)
    show w.foldl dvG (dvG a c) = _
    rw [h1]
    show _ = a * 10 ^ (w.length + 1) + w.foldl dvG (dvG 0 c)
    rw [h2, Int.pow_succ]
    unfold dvG
    rw [Int.add_mul, Int.add_mul, Int.mul_assoc, Int.mul_comm 10]
    omega
theorem dv_app (u v : List UInt8) : dv (u ++ v) = dv u * 10 ^ v.length + dv v := by
  unfold dv
  rw [List.foldl_append]
  exact dv_fold v _
theorem firstM_nil : ∀ (k : Nat) (a : Int), firstM k [] a = a * 10 ^ k
  | 0, a => by simp [firstM]
  | k + 1, a => by rw [firstM, firstM_nil k, Int.mul_assoc, Int.pow_succ, Int.mul_comm (10 ^ k)]
theorem firstM_all : ∀ (w : List UInt8) (k : Nat) (a : Int), firstM (w.length + k) w a = w.foldl dvG a * 10 ^ k
  | [], k, a => by rw [List.length_nil, Nat.zero_add]; exact firstM_nil k a
  | c :: w, k, a => by
    rw [List.length_cons, show w.length + 1 + k = (w.length + k) + 1 from by omega]
    exact firstM_all w k _
theorem dv_zeros : ∀ w : List UInt8, dv (zeros0 w) = dv w
  | [] => rfl
  | c :: w => by
    unfold zeros0
    rw [List.dropWhile_cons]
    split
    · rename_i h
      have e : c = 48 := eq_of_beq h
      subst e
      exact dv_zeros w
    · rfl
theorem dec_ok (a : Nat) : AllDg (Lib.decDigits a) ∧ Lib.decDigits a ≠ [] ∧ dv (Lib.decDigits a) = a := by
  induction a using Nat.strongRecOn with
  | _ a ih =>
    have one : ∀ d, d < 10 → mD ((UInt8.ofNat (48 + d)).toNat : Int) = true ∧ ((UInt8.ofNat (48 + d)).toNat : Int) - 48 = d := by
      intro d hd
      have : (UInt8.ofNat (48 + d)).toNat = 48 + d := by rw [UInt8.toNat_ofNat']; omega
      rw [this]
      refine ⟨?_, by omega⟩
      unfold mD
      simp
      omega
    by_cases h : a < 10
    · rw [Lib.decDigits_one h]
      refine ⟨fun b hb => ?_, by simp, ?_⟩
      · rw [List.mem_singleton] at hb
        subst hb
        exact (one a h).1
      · show dvG 0 _ = _
        unfold dvG
        have := (one a h).2
        omega
    · rw [Lib.decDigits, dif_neg h]
      obtain ⟨h1, h2, h3⟩ := ih (a / 10) (by omega)
      refine ⟨fun b hb => ?_, by simp, ?_⟩
      · rcases List.mem_append.1 hb with q | q
        · exact h1 b q
        · rw [List.mem_singleton] at q
          subst q
          exact (one _ (Nat.mod_lt _ (by decide))).1
      · rw [dv_app, h3]
        have := (one (a % 10) (Nat.mod_lt _ (by decide))).2
        show _ + dvG 0 _ = _
        unfold dvG
        simp only [List.length_cons, List.length_nil]
        omega

/-- What the digits of a rest are. -/
def frB (r : Nat) : Bool := (fr3 3 r).all (fun c => mD (c.toNat : Int)) && (!(fr3 3 r).isEmpty && (decide (dv (fr3 3 r) * 10 ^ (3 - (fr3 3 r).length) = (r : Int)) && (!((fr3 3 r).getLast? == some 48) || decide ((fr3 3 r).length = 1))))
theorem frB_all : (List.range 1000).all frB = true := by decide +kernel
theorem fr_ok {r : Nat} (h : r < 1000) : AllDg (fr3 3 r) ∧ fr3 3 r ≠ [] ∧ dv (fr3 3 r) * 10 ^ (3 - (fr3 3 r).length) = (r : Int) ∧ ((fr3 3 r).getLast? ≠ some 48 ∨ (fr3 3 r).length = 1) := by
  have := List.all_eq_true.1 frB_all r (List.mem_range.2 h)
  unfold frB at this
  simp only [Bool.and_eq_true, Bool.or_eq_true, Bool.not_eq_true', decide_eq_true_eq, List.all_eq_true] at this
  obtain ⟨h1, h2, h3, h4⟩ := this
  refine ⟨h1, fun q => (by rw [q] at h2; cases h2), h3, h4.imp (fun q z => ?_) id⟩
  rw [z] at q
  simp at q

theorem digs_app {D rest : List UInt8} (hD : AllDg D) (hr : mD (hb rest) = false) : digs (D ++ rest) = D := by
  induction D with
  | nil =>
    cases rest with
    | nil => rfl
    | cons c r => exact digs_neg hr
  | cons c D ih =>
    rw [List.cons_append, digs_pos (hD c (List.mem_cons_self ..)), ih fun b hb => hD b (List.mem_cons_of_mem _ hb)]
theorem mD_not {c : Int} (h : mD c = true) : mSg c = false ∧ (c = 46) = False ∧ (c = 45) = False ∧ mE c = false := by
  unfold mD at h
  simp only [Bool.and_eq_true, decide_eq_true_eq] at h
  refine ⟨?_, ?_, ?_, ?_⟩
  · unfold mSg; simp; omega
  · simp; omega
  · simp; omega
  · unfold mE; simp; omega

theorem cut_val {a r : Nat} (ha : a ≤ 1000000000) (hv : a * 1000 + r ≤ 1000000000000) (F : List UInt8) (hF : F.length ≤ 3) (hd : dv F * 10 ^ (3 - F.length) = (r : Int)) :
    cutM (Lib.decDigits a ++ F) (((Lib.decDigits a).length : Int) + 0 + 3) = ((a * 1000 + r : Nat) : Int) := by
  obtain ⟨h1, h2, h3⟩ := dec_ok a
  have hl := dec_len ha
  have hp : (0 : Int) < 10 ^ (3 - F.length) := Int.pow_pos (by decide)
  have key : dv (Lib.decDigits a ++ F) * 10 ^ (3 - F.length) = ((a * 1000 + r : Nat) : Int) := by
    rw [dv_app, h3, Int.add_mul, hd, Int.mul_assoc, ← Int.pow_add, show F.length + (3 - F.length) = 3 from by omega]
    omega
  unfold cutM
  dsimp only
  have hz := zeros0_len (Lib.decDigits a ++ F)
  rw [List.length_append] at hz
  have hdz := dv_zeros (Lib.decDigits a ++ F)
  generalize hvv : zeros0 (Lib.decDigits a ++ F) = v at hz hdz ⊢
  rw [List.length_append]
  by_cases hv0 : v = []
  · rw [if_pos (.inl hv0)]
    rw [hv0] at hdz
    have hdz : (0 : Int) = dv (Lib.decDigits a ++ F) := hdz
    rw [← hdz] at key
    omega
  · have hvl : 0 < v.length := List.length_pos_iff.2 hv0
    rw [if_neg (fun z => z.elim hv0 (fun z => by omega)), if_neg (by omega)]
    have hq : (((Lib.decDigits a).length : Int) + 0 + 3 - (((((Lib.decDigits a).length + F.length : Nat) : Int)) - (v.length : Int))).toNat = v.length + (3 - F.length) := by omega
    rw [hq, firstM_all]
    show min (dv v * _) _ = _
    rw [hdz, key]
    omega

theorem num_back {n : Int} (h : -1000000000000 ≤ n ∧ n ≤ 1000000000000) (f : Bool) (hf : f = true → n.tmod 1000 = 0) :
    numS (numT n f) = true ∧ numM (numT n f) = (n, f, (numT n f).length) := by
  obtain ⟨d1, d2, d3⟩ := dec_ok (n.natAbs / 1000)
  obtain ⟨f1, f2, f3, _⟩ := fr_ok (r := n.natAbs % 1000) (Nat.mod_lt _ (by decide))
  have hlF := fr3_len 3 (n.natAbs % 1000)
  generalize hDD : Lib.decDigits (n.natAbs / 1000) = D at d1 d2 d3
  generalize hFF : fr3 3 (n.natAbs % 1000) = F at f1 f2 f3 hlF
  obtain ⟨d, D', rfl⟩ := List.exists_cons_of_ne_nil d2
  have hd := d1 d (List.mem_cons_self ..)
  obtain ⟨m1, m2, m3, m4⟩ := mD_not hd
  have hw : numT n f = (if n < 0 then [45] else []) ++ ((d :: D') ++ (if f then [] else 46 :: F)) := by unfold numT; rw [hDD, hFF]
  have hrest : mD (hb (if f then ([] : List UInt8) else 46 :: F)) = false := by cases f <;> rfl
  -- behind the sign
  have hsign : signN (numT n f) = (if n < 0 then 1 else 0) ∧ (numT n f).drop (signN (numT n f)) = (d :: D') ++ (if f then [] else 46 :: F) ∧ numS (numT n f) = true ∧ (hb (numT n f) = 45 ↔ n < 0) := by
    rw [hw]
    by_cases q : n < 0
    · simp only [if_pos q, List.cons_append, List.nil_append]
      refine ⟨rfl, rfl, ?_, ⟨fun _ => q, fun _ => rfl⟩⟩
      unfold numS
      rw [if_pos (by rfl)]
      simp only [List.tail_cons, hb_cons, hd, Bool.true_or]
    · simp only [if_neg q, List.nil_append, List.cons_append]
      have hs : signN (d :: (D' ++ if f then [] else 46 :: F)) = 0 := by unfold signN; rw [hb_cons, m1]; rfl
      refine ⟨hs, by rw [hs]; rfl, ?_, ⟨fun z => ?_, fun z => absurd z q⟩⟩
      · unfold numS
        rw [hb_cons, m1]
        simp only [Bool.false_eq_true, if_false, hd, Bool.true_or]
      · rw [hb_cons, m3] at z
        exact z.elim
  obtain ⟨s1, s2, s3, s4⟩ := hsign
  have hwd : wholeD (numT n f) = d :: D' := by unfold wholeD; rw [s2]; exact digs_app d1 hrest
  have hbw : behindW (numT n f) = signN (numT n f) + (d :: D').length := by unfold behindW; rw [hwd]
  have hdw : (numT n f).drop (behindW (numT n f)) = (if f then [] else 46 :: F) := by
    rw [hbw, ← List.drop_drop, s2, List.drop_left]
  have hlen : (numT n f).length = signN (numT n f) + ((d :: D').length + (if f then ([] : List UInt8) else 46 :: F).length) := by
    rw [s1, hw]
    by_cases q : n < 0
    · simp only [if_pos q, List.length_append, List.length_cons, List.length_nil] <;> omega
    · simp only [if_neg q, List.length_append, List.length_cons, List.length_nil] <;> omega
  refine ⟨s3, ?_⟩
  have hnat : n.natAbs = n.natAbs / 1000 * 1000 + n.natAbs % 1000 := by omega
  cases f with
  | true =>
    simp only [if_true, reduceIte] at hdw hlen
    have hfr : fracS ((numT n true).drop (behindW (numT n true))) = false := by rw [hdw]; rfl
    have hfd : fracD (numT n true) = [] := by unfold fracD; rw [hfr]; rfl
    have hbf : behindF (numT n true) = (numT n true).length := by
      unfold behindF
      rw [hfr, hbw, hlen]
      simp
    have hbe : (numT n true).drop (behindF (numT n true)) = [] := by rw [hbf, List.drop_length]
    have hex : expM ([] : List UInt8) = (0, 0) := rfl
    have hr0 : n.natAbs % 1000 = 0 := by
      have := hf rfl
      rcases Int.le_total 0 n with q | q
      · have h2 := tm (x := n) (y := n.natAbs) (by omega) 1000
        rw [show ((1000 : Nat) : Int) = 1000 from rfl, this] at h2
        omega
      · have h2 := Int.neg_tmod n 1000
        have h3 := tm (x := -n) (y := n.natAbs) (by omega) 1000
        rw [show ((1000 : Nat) : Int) = 1000 from rfl, h2, this] at h3
        omega
    unfold numM behindE
    simp only [hbe, hex, hwd, hfd, hfr]
    rw [← hDD]
    have := cut_val (a := n.natAbs / 1000) (r := 0) (by omega) (by omega) [] (by simp) (by simp [dv])
    rw [this, hbf]
    refine Prod.ext ?_ (Prod.ext rfl rfl)
    dsimp only
    by_cases q : n < 0
    · rw [if_pos (s4.2 q)]; omega
    · rw [if_neg (fun z => q (s4.1 z))]; omega
  | false =>
    simp only [Bool.false_eq_true, if_false, reduceIte] at hdw hlen
    obtain ⟨e, F', rfl⟩ := List.exists_cons_of_ne_nil f2
    have he := f1 e (List.mem_cons_self ..)
    have hfr : fracS ((numT n false).drop (behindW (numT n false))) = true := by
      rw [hdw]
      unfold fracS
      simp only [hb_cons, List.tail_cons, he]
      rfl
    have hfd : fracD (numT n false) = e :: F' := by
      unfold fracD
      rw [hfr, if_pos rfl, hdw, List.tail_cons]
      have := digs_app (rest := []) f1 (by decide)
      rwa [List.append_nil] at this
    have hbf : behindF (numT n false) = (numT n false).length := by
      unfold behindF
      rw [hfr, hfd, hbw, hlen]
      simp only [if_true, List.length_cons]
      omega
    have hbe : (numT n false).drop (behindF (numT n false)) = [] := by rw [hbf, List.drop_length]
    have hex : expM ([] : List UInt8) = (0, 0) := rfl
    unfold numM behindE
    simp only [hbe, hex, hwd, hfd, hfr]
    rw [← hDD]
    have := cut_val (a := n.natAbs / 1000) (r := n.natAbs % 1000) (by omega) (by omega) (e :: F') hlF f3
    rw [this, hbf]
    refine Prod.ext ?_ (Prod.ext rfl rfl)
    dsimp only
    by_cases q : n < 0
    · rw [if_pos (s4.2 q)]; omega
    · rw [if_neg (fun z => q (s4.1 z))]; omega

end Go.Proofs.YthjnkibldhfhmaaDoor

