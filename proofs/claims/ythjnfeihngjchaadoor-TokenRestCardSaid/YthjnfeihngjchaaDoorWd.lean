/-
  Strings, urls and named tokens do what the model says. Nothing is claimed here.
-/
import Derived.Test.YthjnfeihngjchaaDoorWc
namespace Go.Proofs.YthjnfeihngjchaaDoor
open Go.Vm Go.Sx Go.RowKit

/-! ### Escapes, shape q -/
def s_utf_q : T_utf8_AppendRune_q := fun x c0 c1 c2 c3 c4 b K => (0 ≤ x ∧ x ≤ 16777215) ∧ b.length ≤ 10000000 ∧ K c0 c1 c2 c3 c4 (b ++ utfM x)
set_option maxRecDepth 100000 in
theorem p_utf_q (x c0 c1 c2 c3 c4 b K) (h : s_utf_q x c0 c1 c2 c3 c4 b K) : F_utf8_AppendRune_q x c0 c1 c2 c3 c4 b K := by
  obtain ⟨⟨h0, h1⟩, hb, h⟩ := h
  have k1 : x ≤ 127 → K c0 c1 c2 c3 c4 (b ++ [b8 x]) := fun q => utf1 q ▸ h
  have k2 : ¬ x ≤ 127 → x ≤ 2047 → K c0 c1 c2 c3 c4 (b ++ [b8 (192 + x / 64), b8 (128 + x % 64)]) := fun q q2 => utf2 q q2 ▸ h
  have kX : ¬ x ≤ 127 → ¬ x ≤ 2047 → (55296 ≤ x ∧ x ≤ 57343 ∨ 1114111 < x) → K c0 c1 c2 c3 c4 (b ++ [b8 239, b8 191, b8 189]) := fun q q2 q3 => utfX q q2 q3 ▸ h
  have k3 : ¬ x ≤ 127 → ¬ x ≤ 2047 → ¬ (55296 ≤ x ∧ x ≤ 57343 ∨ 1114111 < x) → x ≤ 65535 → K c0 c1 c2 c3 c4 (b ++ [b8 (224 + x / 4096), b8 (128 + x / 64 % 64), b8 (128 + x % 64)]) := fun q q2 q3 q4 => utf3 q q2 q3 q4 ▸ h
  have k4 : ¬ x ≤ 127 → ¬ x ≤ 2047 → ¬ (55296 ≤ x ∧ x ≤ 57343 ∨ 1114111 < x) → ¬ x ≤ 65535 → K c0 c1 c2 c3 c4 (b ++ [b8 (240 + x / 262144), b8 (128 + x / 4096 % 64), b8 (128 + x / 64 % 64), b8 (128 + x % 64)]) := fun q q2 q3 q4 => utf4 q q2 q3 q4 ▸ h
  clear h
  unfold F_utf8_AppendRune_q
  simp only [u32w h0 h1, or128, fd6, fd12, fd18, decide_eq_true_eq, decide_eq_false_iff_not, List.length_cons, List.length_nil]
  refine ⟨fun q => ?_, fun q => ⟨fun q2 => ?_, fun q2 => ⟨fun q3 => ?_, fun q3 => ⟨fun q4 => ⟨fun q5 => ?_, fun q5 => ⟨fun q6 => ⟨fun q7 => ?_, fun q7 => ?_⟩, fun q6 => ?_⟩⟩, fun q4 => ⟨fun q6 => ⟨fun q7 => ?_, fun q7 => ?_⟩, fun q6 => ?_⟩⟩⟩⟩⟩
  · rw [u8w h0 (by omega)]
    exact ⟨by omega, by omega, k1 q⟩
  · rw [or192 (by omega) (by omega)]
    exact ⟨by decide, by omega, by omega, by omega, k2 q q2⟩
  · rw [or224 (by omega) (by omega)]
    exact ⟨by decide, by decide, by omega, by omega, by omega, by omega, k3 q q2 (by omega) (by omega)⟩
  · rw [or224 (by omega) (by omega)]
    exact ⟨by decide, by decide, by omega, by omega, by omega, by omega, k3 q q2 (by omega) (by omega)⟩
  · rw [or240 (by omega) (by omega)]
    exact ⟨by decide, by decide, by decide, by omega, by omega, by omega, by omega, by omega, k4 q q2 (by omega) (by omega)⟩
  · exact ⟨by decide, by decide, by decide, by omega, kX q q2 (by omega)⟩
  · exfalso; omega
  · exfalso; omega
  · exact ⟨by decide, by decide, by decide, by omega, kX q q2 (by omega)⟩
  · exact ⟨by decide, by decide, by decide, by omega, kX q q2 (by omega)⟩
set_option maxRecDepth 100000 in
theorem p_hexL_q (s : List UInt8) (hs : s.length ≤ 1000000) (c0 : Int) (c1 : List UInt8) (c2 : Int) (c3 : List UInt8) (c4 : Bool) (b : List UInt8) (A : T_utf8_AppendRune_q) (Ke : List UInt8 → Int → Int → Int → List UInt8 → Int → List UInt8 → Bool → List UInt8 → Prop) : ∀ (r : Nat) (w : List UInt8) (i a x : Int) (k : Nat), x = k → r + k = 6 → s.drop i.toNat = w → 0 ≤ i → i + (r : Int) ≤ 1000020 → 0 ≤ a → a < 16 ^ k → Ke s (i + ((hexRun r w a).2 : Int)) (hexRun r w a).1 c0 c1 c2 c3 c4 b → ∃ m, F_token_appendEscape_q_l9 A s_hex s_byteAt s_isSp m s i a x c0 c1 c2 c3 c4 b Ke
  | 0, w, i, a, x, k, hx, hk, hd, h0, hi, ha0, ha1, h => by
    refine ⟨1, fun q => ?_, fun _ => ?_⟩
    · exfalso; have := of_decide_eq_true q; omega
    · simpa [hexRun] using h
  | r + 1, w, i, a, x, k, hx, hk, hd, h0, hi, ha0, ha1, h => by
    unfold hexRun at h
    cases q : (hexM (hb w)).2 with
    | false =>
      rw [q] at h
      refine ⟨1, fun _ => ⟨h0, hb_in _, fun q2 => ?_, fun q2 => ?_⟩, fun q2 => ?_⟩
      · simpa using h
      · rw [hd, q] at q2; exact absurd q2 (by decide)
      · exfalso; have := of_decide_eq_false q2; omega
    | true =>
      rw [q] at h
      simp only [if_true] at h
      have hdg := hexM_in q
      have e : (16 : Int) ^ (k + 1) = 16 ^ k * 16 := Int.pow_succ _ _
      have e5 : (16 : Int) ^ k ≤ 16 ^ 5 := pow16 (by omega)
      have e6 : (16 : Int) ^ 5 = 1048576 := by decide
      obtain ⟨m, hm⟩ := p_hexL_q s hs c0 c1 c2 c3 c4 b A Ke r w.tail (i + 1) (a * 16 + (hexM (hb w)).1) (x + 1) (k + 1) (by omega) (by omega) (by rw [dropS h0, hd]) (by omega) (by omega) (by omega) (by rw [e]; omega) (by
        have : i + 1 + ((hexRun r w.tail (a * 16 + (hexM (hb w)).1)).2 : Int) = i + (((hexRun r w.tail (a * 16 + (hexM (hb w)).1)).2 + 1 : Nat) : Int) := by omega
        rw [this]; exact h)
      refine ⟨m + 1, fun _ => ⟨h0, hb_in _, fun q2 => ?_, fun _ => ⟨by decide, I64b (by omega), I64b (by omega), ?_⟩⟩, fun q2 => ?_⟩
      · rw [hd, q] at q2; exact absurd q2 (by decide)
      · rw [hd, shl4 ha0 (by omega) hdg.1 hdg.2]
        exact hm
      · exfalso; have := of_decide_eq_false q2; omega
def s_esc_q : T_token_appendEscape_q := fun s i c0 c1 c2 c3 c4 b K => (0 ≤ i ∧ i < s.length ∧ s.length ≤ 1000000) ∧ b.length ≤ 5000000 ∧ K (i + 1 + ((escM (s.drop (i + 1).toNat)).2 : Int)) c0 c1 c2 c3 c4 (b ++ (escM (s.drop (i + 1).toNat)).1)
theorem p_esc_q (s i c0 c1 c2 c3 c4 b K) (h : s_esc_q s i c0 c1 c2 c3 c4 b K) : F_token_appendEscape_q s_utf_q s_hex s_byteAt s_isSp s i c0 c1 c2 c3 c4 b K := by
  obtain ⟨⟨h0, h1, h2⟩, hb, h⟩ := h
  refine ⟨I64b (by omega), fun q => ?_, fun q => ?_⟩
  · have q := of_decide_eq_true q
    rw [List.drop_of_length_le (by omega)] at h
    unfold escM at h
    refine ⟨by omega, by omega, ?_⟩
    simpa using h
  · have q := of_decide_eq_false q
    cases hd : s.drop (i + 1).toNat with
    | nil => exfalso; have := drop_nil hd; omega
    | cons c w =>
    obtain ⟨_, hc, _, _⟩ := drop_cons (by omega) hd
    rw [hd, escM, escH] at h
    rw [hc]
    refine ⟨by omega, u8in c, fun q2 => ?_, fun q2 => ?_⟩
    · have q3 : (hexM (c.toNat : Int)).2 = false := by simpa using q2
      rw [q3] at h
      rw [u8id]
      refine ⟨by omega, u8in c, by simp only [List.length_cons, List.length_nil]; omega, I64b (by omega), ?_⟩
      simpa using h
    · have q3 : (hexM (c.toNat : Int)).2 = true := by simpa using q2
      rw [q3] at h
      simp only [if_true] at h
      have hl := hexRun_len 6 (c :: w) 0
      have hin := hexRun_in 6 (c :: w) 0 0 (by omega) (by omega) (by decide)
      have hlw := congrArg List.length hd
      rw [List.length_drop] at hlw
      refine p_hexL_q s h2 c0 c1 c2 c3 c4 b _ _ 6 (c :: w) (i + 1) 0 0 0 rfl rfl hd (by omega) (by omega) (by omega) (by decide) ?_
      have e : s.drop (i + 1 + ((hexRun 6 (c :: w) 0).2 : Int)).toNat = (c :: w).drop (hexRun 6 (c :: w) 0).2 := by rw [dropN (by omega), hd]
      refine ⟨by omega, fun q4 => ⟨I64b (by omega), fun q5 => ?_, fun q5 => ?_⟩, fun q4 => ⟨fun q5 => ?_, fun q5 => ?_⟩⟩
      · rw [e] at q4
        rw [q4, if_pos (of_decide_eq_true q5), if_pos rfl] at h
        refine ⟨by omega, by omega, ?_⟩
        have e2 : i + 1 + ((hexRun 6 (c :: w) 0).2 : Int) + 1 = i + 1 + (((hexRun 6 (c :: w) 0).2 + 1 : Nat) : Int) := by omega
        rw [e2]; exact h
      · rw [e] at q4
        rw [q4, if_neg (of_decide_eq_false q5), if_pos rfl] at h
        refine ⟨hin, by omega, ?_⟩
        have e2 : i + 1 + ((hexRun 6 (c :: w) 0).2 : Int) + 1 = i + 1 + (((hexRun 6 (c :: w) 0).2 + 1 : Nat) : Int) := by omega
        rw [e2]; exact h
      · rw [e] at q4
        rw [q4, if_pos (of_decide_eq_true q5)] at h
        exact ⟨by omega, by omega, by simpa using h⟩
      · rw [e] at q4
        rw [q4, if_neg (of_decide_eq_false q5)] at h
        exact ⟨hin, by omega, by simpa using h⟩

/-! ### Escapes, shape n -/
def s_utf_n : T_utf8_AppendRune_n := fun x b K => (0 ≤ x ∧ x ≤ 16777215) ∧ b.length ≤ 10000000 ∧ K (b ++ utfM x)
set_option maxRecDepth 100000 in
theorem p_utf_n (x b K) (h : s_utf_n x b K) : F_utf8_AppendRune_n x b K := by
  obtain ⟨⟨h0, h1⟩, hb, h⟩ := h
  have k1 : x ≤ 127 → K (b ++ [b8 x]) := fun q => utf1 q ▸ h
  have k2 : ¬ x ≤ 127 → x ≤ 2047 → K (b ++ [b8 (192 + x / 64), b8 (128 + x % 64)]) := fun q q2 => utf2 q q2 ▸ h
  have kX : ¬ x ≤ 127 → ¬ x ≤ 2047 → (55296 ≤ x ∧ x ≤ 57343 ∨ 1114111 < x) → K (b ++ [b8 239, b8 191, b8 189]) := fun q q2 q3 => utfX q q2 q3 ▸ h
  have k3 : ¬ x ≤ 127 → ¬ x ≤ 2047 → ¬ (55296 ≤ x ∧ x ≤ 57343 ∨ 1114111 < x) → x ≤ 65535 → K (b ++ [b8 (224 + x / 4096), b8 (128 + x / 64 % 64), b8 (128 + x % 64)]) := fun q q2 q3 q4 => utf3 q q2 q3 q4 ▸ h
  have k4 : ¬ x ≤ 127 → ¬ x ≤ 2047 → ¬ (55296 ≤ x ∧ x ≤ 57343 ∨ 1114111 < x) → ¬ x ≤ 65535 → K (b ++ [b8 (240 + x / 262144), b8 (128 + x / 4096 % 64), b8 (128 + x / 64 % 64), b8 (128 + x % 64)]) := fun q q2 q3 q4 => utf4 q q2 q3 q4 ▸ h
  clear h
  unfold F_utf8_AppendRune_n
  simp only [u32w h0 h1, or128, fd6, fd12, fd18, decide_eq_true_eq, decide_eq_false_iff_not, List.length_cons, List.length_nil]
  refine ⟨fun q => ?_, fun q => ⟨fun q2 => ?_, fun q2 => ⟨fun q3 => ?_, fun q3 => ⟨fun q4 => ⟨fun q5 => ?_, fun q5 => ⟨fun q6 => ⟨fun q7 => ?_, fun q7 => ?_⟩, fun q6 => ?_⟩⟩, fun q4 => ⟨fun q6 => ⟨fun q7 => ?_, fun q7 => ?_⟩, fun q6 => ?_⟩⟩⟩⟩⟩
  · rw [u8w h0 (by omega)]
    exact ⟨by omega, by omega, k1 q⟩
  · rw [or192 (by omega) (by omega)]
    exact ⟨by decide, by omega, by omega, by omega, k2 q q2⟩
  · rw [or224 (by omega) (by omega)]
    exact ⟨by decide, by decide, by omega, by omega, by omega, by omega, k3 q q2 (by omega) (by omega)⟩
  · rw [or224 (by omega) (by omega)]
    exact ⟨by decide, by decide, by omega, by omega, by omega, by omega, k3 q q2 (by omega) (by omega)⟩
  · rw [or240 (by omega) (by omega)]
    exact ⟨by decide, by decide, by decide, by omega, by omega, by omega, by omega, by omega, k4 q q2 (by omega) (by omega)⟩
  · exact ⟨by decide, by decide, by decide, by omega, kX q q2 (by omega)⟩
  · exfalso; omega
  · exfalso; omega
  · exact ⟨by decide, by decide, by decide, by omega, kX q q2 (by omega)⟩
  · exact ⟨by decide, by decide, by decide, by omega, kX q q2 (by omega)⟩
set_option maxRecDepth 100000 in
theorem p_hexL_n (s : List UInt8) (hs : s.length ≤ 1000000) (b : List UInt8) (A : T_utf8_AppendRune_n) (Ke : List UInt8 → Int → Int → List UInt8 → Prop) : ∀ (r : Nat) (w : List UInt8) (i a x : Int) (k : Nat), x = k → r + k = 6 → s.drop i.toNat = w → 0 ≤ i → i + (r : Int) ≤ 1000020 → 0 ≤ a → a < 16 ^ k → Ke s (i + ((hexRun r w a).2 : Int)) (hexRun r w a).1 b → ∃ m, F_token_appendEscape_n_l9 A s_hex s_byteAt s_isSp m s i a x b Ke
  | 0, w, i, a, x, k, hx, hk, hd, h0, hi, ha0, ha1, h => by
    refine ⟨1, fun q => ?_, fun _ => ?_⟩
    · exfalso; have := of_decide_eq_true q; omega
    · simpa [hexRun] using h
  | r + 1, w, i, a, x, k, hx, hk, hd, h0, hi, ha0, ha1, h => by
    unfold hexRun at h
    cases q : (hexM (hb w)).2 with
    | false =>
      rw [q] at h
      refine ⟨1, fun _ => ⟨h0, hb_in _, fun q2 => ?_, fun q2 => ?_⟩, fun q2 => ?_⟩
      · simpa using h
      · rw [hd, q] at q2; exact absurd q2 (by decide)
      · exfalso; have := of_decide_eq_false q2; omega
    | true =>
      rw [q] at h
      simp only [if_true] at h
      have hdg := hexM_in q
      have e : (16 : Int) ^ (k + 1) = 16 ^ k * 16 := Int.pow_succ _ _
      have e5 : (16 : Int) ^ k ≤ 16 ^ 5 := pow16 (by omega)
      have e6 : (16 : Int) ^ 5 = 1048576 := by decide
      obtain ⟨m, hm⟩ := p_hexL_n s hs b A Ke r w.tail (i + 1) (a * 16 + (hexM (hb w)).1) (x + 1) (k + 1) (by omega) (by omega) (by rw [dropS h0, hd]) (by omega) (by omega) (by omega) (by rw [e]; omega) (by
        have : i + 1 + ((hexRun r w.tail (a * 16 + (hexM (hb w)).1)).2 : Int) = i + (((hexRun r w.tail (a * 16 + (hexM (hb w)).1)).2 + 1 : Nat) : Int) := by omega
        rw [this]; exact h)
      refine ⟨m + 1, fun _ => ⟨h0, hb_in _, fun q2 => ?_, fun _ => ⟨by decide, I64b (by omega), I64b (by omega), ?_⟩⟩, fun q2 => ?_⟩
      · rw [hd, q] at q2; exact absurd q2 (by decide)
      · rw [hd, shl4 ha0 (by omega) hdg.1 hdg.2]
        exact hm
      · exfalso; have := of_decide_eq_false q2; omega
def s_esc_n : T_token_appendEscape_n := fun s i b K => (0 ≤ i ∧ i < s.length ∧ s.length ≤ 1000000) ∧ b.length ≤ 5000000 ∧ K (i + 1 + ((escM (s.drop (i + 1).toNat)).2 : Int)) (b ++ (escM (s.drop (i + 1).toNat)).1)
theorem p_esc_n (s i b K) (h : s_esc_n s i b K) : F_token_appendEscape_n s_utf_n s_hex s_byteAt s_isSp s i b K := by
  obtain ⟨⟨h0, h1, h2⟩, hb, h⟩ := h
  refine ⟨I64b (by omega), fun q => ?_, fun q => ?_⟩
  · have q := of_decide_eq_true q
    rw [List.drop_of_length_le (by omega)] at h
    unfold escM at h
    refine ⟨by omega, by omega, ?_⟩
    simpa using h
  · have q := of_decide_eq_false q
    cases hd : s.drop (i + 1).toNat with
    | nil => exfalso; have := drop_nil hd; omega
    | cons c w =>
    obtain ⟨_, hc, _, _⟩ := drop_cons (by omega) hd
    rw [hd, escM, escH] at h
    rw [hc]
    refine ⟨by omega, u8in c, fun q2 => ?_, fun q2 => ?_⟩
    · have q3 : (hexM (c.toNat : Int)).2 = false := by simpa using q2
      rw [q3] at h
      rw [u8id]
      refine ⟨by omega, u8in c, by simp only [List.length_cons, List.length_nil]; omega, I64b (by omega), ?_⟩
      simpa using h
    · have q3 : (hexM (c.toNat : Int)).2 = true := by simpa using q2
      rw [q3] at h
      simp only [if_true] at h
      have hl := hexRun_len 6 (c :: w) 0
      have hin := hexRun_in 6 (c :: w) 0 0 (by omega) (by omega) (by decide)
      have hlw := congrArg List.length hd
      rw [List.length_drop] at hlw
      refine p_hexL_n s h2 b _ _ 6 (c :: w) (i + 1) 0 0 0 rfl rfl hd (by omega) (by omega) (by omega) (by decide) ?_
      have e : s.drop (i + 1 + ((hexRun 6 (c :: w) 0).2 : Int)).toNat = (c :: w).drop (hexRun 6 (c :: w) 0).2 := by rw [dropN (by omega), hd]
      refine ⟨by omega, fun q4 => ⟨I64b (by omega), fun q5 => ?_, fun q5 => ?_⟩, fun q4 => ⟨fun q5 => ?_, fun q5 => ?_⟩⟩
      · rw [e] at q4
        rw [q4, if_pos (of_decide_eq_true q5), if_pos rfl] at h
        refine ⟨by omega, by omega, ?_⟩
        have e2 : i + 1 + ((hexRun 6 (c :: w) 0).2 : Int) + 1 = i + 1 + (((hexRun 6 (c :: w) 0).2 + 1 : Nat) : Int) := by omega
        rw [e2]; exact h
      · rw [e] at q4
        rw [q4, if_neg (of_decide_eq_false q5), if_pos rfl] at h
        refine ⟨hin, by omega, ?_⟩
        have e2 : i + 1 + ((hexRun 6 (c :: w) 0).2 : Int) + 1 = i + 1 + (((hexRun 6 (c :: w) 0).2 + 1 : Nat) : Int) := by omega
        rw [e2]; exact h
      · rw [e] at q4
        rw [q4, if_pos (of_decide_eq_true q5)] at h
        exact ⟨by omega, by omega, by simpa using h⟩
      · rw [e] at q4
        rw [q4, if_neg (of_decide_eq_false q5)] at h
        exact ⟨hin, by omega, by simpa using h⟩

/-! ### Escapes, shape u -/
def s_utf_u : T_utf8_AppendRune_u := fun x c0 c1 c2 c3 c4 b K => (0 ≤ x ∧ x ≤ 16777215) ∧ b.length ≤ 10000000 ∧ K c0 c1 c2 c3 c4 (b ++ utfM x)
set_option maxRecDepth 100000 in
theorem p_utf_u (x c0 c1 c2 c3 c4 b K) (h : s_utf_u x c0 c1 c2 c3 c4 b K) : F_utf8_AppendRune_u x c0 c1 c2 c3 c4 b K := by
  obtain ⟨⟨h0, h1⟩, hb, h⟩ := h
  have k1 : x ≤ 127 → K c0 c1 c2 c3 c4 (b ++ [b8 x]) := fun q => utf1 q ▸ h
  have k2 : ¬ x ≤ 127 → x ≤ 2047 → K c0 c1 c2 c3 c4 (b ++ [b8 (192 + x / 64), b8 (128 + x % 64)]) := fun q q2 => utf2 q q2 ▸ h
  have kX : ¬ x ≤ 127 → ¬ x ≤ 2047 → (55296 ≤ x ∧ x ≤ 57343 ∨ 1114111 < x) → K c0 c1 c2 c3 c4 (b ++ [b8 239, b8 191, b8 189]) := fun q q2 q3 => utfX q q2 q3 ▸ h
  have k3 : ¬ x ≤ 127 → ¬ x ≤ 2047 → ¬ (55296 ≤ x ∧ x ≤ 57343 ∨ 1114111 < x) → x ≤ 65535 → K c0 c1 c2 c3 c4 (b ++ [b8 (224 + x / 4096), b8 (128 + x / 64 % 64), b8 (128 + x % 64)]) := fun q q2 q3 q4 => utf3 q q2 q3 q4 ▸ h
  have k4 : ¬ x ≤ 127 → ¬ x ≤ 2047 → ¬ (55296 ≤ x ∧ x ≤ 57343 ∨ 1114111 < x) → ¬ x ≤ 65535 → K c0 c1 c2 c3 c4 (b ++ [b8 (240 + x / 262144), b8 (128 + x / 4096 % 64), b8 (128 + x / 64 % 64), b8 (128 + x % 64)]) := fun q q2 q3 q4 => utf4 q q2 q3 q4 ▸ h
  clear h
  unfold F_utf8_AppendRune_u
  simp only [u32w h0 h1, or128, fd6, fd12, fd18, decide_eq_true_eq, decide_eq_false_iff_not, List.length_cons, List.length_nil]
  refine ⟨fun q => ?_, fun q => ⟨fun q2 => ?_, fun q2 => ⟨fun q3 => ?_, fun q3 => ⟨fun q4 => ⟨fun q5 => ?_, fun q5 => ⟨fun q6 => ⟨fun q7 => ?_, fun q7 => ?_⟩, fun q6 => ?_⟩⟩, fun q4 => ⟨fun q6 => ⟨fun q7 => ?_, fun q7 => ?_⟩, fun q6 => ?_⟩⟩⟩⟩⟩
  · rw [u8w h0 (by omega)]
    exact ⟨by omega, by omega, k1 q⟩
  · rw [or192 (by omega) (by omega)]
    exact ⟨by decide, by omega, by omega, by omega, k2 q q2⟩
  · rw [or224 (by omega) (by omega)]
    exact ⟨by decide, by decide, by omega, by omega, by omega, by omega, k3 q q2 (by omega) (by omega)⟩
  · rw [or224 (by omega) (by omega)]
    exact ⟨by decide, by decide, by omega, by omega, by omega, by omega, k3 q q2 (by omega) (by omega)⟩
  · rw [or240 (by omega) (by omega)]
    exact ⟨by decide, by decide, by decide, by omega, by omega, by omega, by omega, by omega, k4 q q2 (by omega) (by omega)⟩
  · exact ⟨by decide, by decide, by decide, by omega, kX q q2 (by omega)⟩
  · exfalso; omega
  · exfalso; omega
  · exact ⟨by decide, by decide, by decide, by omega, kX q q2 (by omega)⟩
  · exact ⟨by decide, by decide, by decide, by omega, kX q q2 (by omega)⟩
set_option maxRecDepth 100000 in
theorem p_hexL_u (s : List UInt8) (hs : s.length ≤ 1000000) (c0 : Int) (c1 : List UInt8) (c2 : Int) (c3 : List UInt8) (c4 : Bool) (b : List UInt8) (A : T_utf8_AppendRune_u) (Ke : List UInt8 → Int → Int → Int → List UInt8 → Int → List UInt8 → Bool → List UInt8 → Prop) : ∀ (r : Nat) (w : List UInt8) (i a x : Int) (k : Nat), x = k → r + k = 6 → s.drop i.toNat = w → 0 ≤ i → i + (r : Int) ≤ 1000020 → 0 ≤ a → a < 16 ^ k → Ke s (i + ((hexRun r w a).2 : Int)) (hexRun r w a).1 c0 c1 c2 c3 c4 b → ∃ m, F_token_appendEscape_u_l9 A s_hex s_byteAt s_isSp m s i a x c0 c1 c2 c3 c4 b Ke
  | 0, w, i, a, x, k, hx, hk, hd, h0, hi, ha0, ha1, h => by
    refine ⟨1, fun q => ?_, fun _ => ?_⟩
    · exfalso; have := of_decide_eq_true q; omega
    · simpa [hexRun] using h
  | r + 1, w, i, a, x, k, hx, hk, hd, h0, hi, ha0, ha1, h => by
    unfold hexRun at h
    cases q : (hexM (hb w)).2 with
    | false =>
      rw [q] at h
      refine ⟨1, fun _ => ⟨h0, hb_in _, fun q2 => ?_, fun q2 => ?_⟩, fun q2 => ?_⟩
      · simpa using h
      · rw [hd, q] at q2; exact absurd q2 (by decide)
      · exfalso; have := of_decide_eq_false q2; omega
    | true =>
      rw [q] at h
      simp only [if_true] at h
      have hdg := hexM_in q
      have e : (16 : Int) ^ (k + 1) = 16 ^ k * 16 := Int.pow_succ _ _
      have e5 : (16 : Int) ^ k ≤ 16 ^ 5 := pow16 (by omega)
      have e6 : (16 : Int) ^ 5 = 1048576 := by decide
      obtain ⟨m, hm⟩ := p_hexL_u s hs c0 c1 c2 c3 c4 b A Ke r w.tail (i + 1) (a * 16 + (hexM (hb w)).1) (x + 1) (k + 1) (by omega) (by omega) (by rw [dropS h0, hd]) (by omega) (by omega) (by omega) (by rw [e]; omega) (by
        have : i + 1 + ((hexRun r w.tail (a * 16 + (hexM (hb w)).1)).2 : Int) = i + (((hexRun r w.tail (a * 16 + (hexM (hb w)).1)).2 + 1 : Nat) : Int) := by omega
        rw [this]; exact h)
      refine ⟨m + 1, fun _ => ⟨h0, hb_in _, fun q2 => ?_, fun _ => ⟨by decide, I64b (by omega), I64b (by omega), ?_⟩⟩, fun q2 => ?_⟩
      · rw [hd, q] at q2; exact absurd q2 (by decide)
      · rw [hd, shl4 ha0 (by omega) hdg.1 hdg.2]
        exact hm
      · exfalso; have := of_decide_eq_false q2; omega
def s_esc_u : T_token_appendEscape_u := fun s i c0 c1 c2 c3 c4 b K => (0 ≤ i ∧ i < s.length ∧ s.length ≤ 1000000) ∧ b.length ≤ 5000000 ∧ K (i + 1 + ((escM (s.drop (i + 1).toNat)).2 : Int)) c0 c1 c2 c3 c4 (b ++ (escM (s.drop (i + 1).toNat)).1)
theorem p_esc_u (s i c0 c1 c2 c3 c4 b K) (h : s_esc_u s i c0 c1 c2 c3 c4 b K) : F_token_appendEscape_u s_utf_u s_hex s_byteAt s_isSp s i c0 c1 c2 c3 c4 b K := by
  obtain ⟨⟨h0, h1, h2⟩, hb, h⟩ := h
  refine ⟨I64b (by omega), fun q => ?_, fun q => ?_⟩
  · have q := of_decide_eq_true q
    rw [List.drop_of_length_le (by omega)] at h
    unfold escM at h
    refine ⟨by omega, by omega, ?_⟩
    simpa using h
  · have q := of_decide_eq_false q
    cases hd : s.drop (i + 1).toNat with
    | nil => exfalso; have := drop_nil hd; omega
    | cons c w =>
    obtain ⟨_, hc, _, _⟩ := drop_cons (by omega) hd
    rw [hd, escM, escH] at h
    rw [hc]
    refine ⟨by omega, u8in c, fun q2 => ?_, fun q2 => ?_⟩
    · have q3 : (hexM (c.toNat : Int)).2 = false := by simpa using q2
      rw [q3] at h
      rw [u8id]
      refine ⟨by omega, u8in c, by simp only [List.length_cons, List.length_nil]; omega, I64b (by omega), ?_⟩
      simpa using h
    · have q3 : (hexM (c.toNat : Int)).2 = true := by simpa using q2
      rw [q3] at h
      simp only [if_true] at h
      have hl := hexRun_len 6 (c :: w) 0
      have hin := hexRun_in 6 (c :: w) 0 0 (by omega) (by omega) (by decide)
      have hlw := congrArg List.length hd
      rw [List.length_drop] at hlw
      refine p_hexL_u s h2 c0 c1 c2 c3 c4 b _ _ 6 (c :: w) (i + 1) 0 0 0 rfl rfl hd (by omega) (by omega) (by omega) (by decide) ?_
      have e : s.drop (i + 1 + ((hexRun 6 (c :: w) 0).2 : Int)).toNat = (c :: w).drop (hexRun 6 (c :: w) 0).2 := by rw [dropN (by omega), hd]
      refine ⟨by omega, fun q4 => ⟨I64b (by omega), fun q5 => ?_, fun q5 => ?_⟩, fun q4 => ⟨fun q5 => ?_, fun q5 => ?_⟩⟩
      · rw [e] at q4
        rw [q4, if_pos (of_decide_eq_true q5), if_pos rfl] at h
        refine ⟨by omega, by omega, ?_⟩
        have e2 : i + 1 + ((hexRun 6 (c :: w) 0).2 : Int) + 1 = i + 1 + (((hexRun 6 (c :: w) 0).2 + 1 : Nat) : Int) := by omega
        rw [e2]; exact h
      · rw [e] at q4
        rw [q4, if_neg (of_decide_eq_false q5), if_pos rfl] at h
        refine ⟨hin, by omega, ?_⟩
        have e2 : i + 1 + ((hexRun 6 (c :: w) 0).2 : Int) + 1 = i + 1 + (((hexRun 6 (c :: w) 0).2 + 1 : Nat) : Int) := by omega
        rw [e2]; exact h
      · rw [e] at q4
        rw [q4, if_pos (of_decide_eq_true q5)] at h
        exact ⟨by omega, by omega, by simpa using h⟩
      · rw [e] at q4
        rw [q4, if_neg (of_decide_eq_false q5)] at h
        exact ⟨hin, by omega, by simpa using h⟩

/-! ### Strings -/
def strK (K : Tok → Int → Prop) (b : List UInt8) (i : Int) (r : Bool × List UInt8 × Nat) : Prop := K (if r.1 then tk 5 (b ++ r.2.1) else tk 6) (i + (r.2.2 : Int))
theorem p_strL (s : List UInt8) (hs : s.length ≤ 1000000) (q : Int) (K : Tok → Int → Prop) : ∀ (n : Nat) (w : List UInt8) (i : Int) (b : List UInt8), w.length ≤ n → s.drop i.toNat = w → okP s i → b.length + 4 * w.length ≤ 4500000 → strK K b i (strM q w) → ∃ m, F_token_readString_l4 s_esc_q m s i q 0 [] 0 [] false b (fun y1 _ _ _ _ _ y7 => K (Tok.mk 5 y7 0 [] false) y1) (fun y8 y9 y10 y11 y12 y13 => K (Tok.mk y9 y10 y11 y12 y13) y8) := by
  intro n
  induction n with
  | zero =>
    intro w i b hn hd hi hb h
    cases w with
    | cons c w => simp at hn
    | nil =>
      have hl := drop_nil hd
      rw [strM] at h
      refine ⟨1, fun p => (by exfalso; have := of_decide_eq_true p; omega), fun _ => ?_⟩
      simpa [strK, tk] using h
  | succ n ih =>
    intro w i b hn hd hi hb h
    cases w with
    | nil =>
      have hl := drop_nil hd
      rw [strM] at h
      refine ⟨1, fun p => (by exfalso; have := of_decide_eq_true p; omega), fun _ => ?_⟩
      simpa [strK, tk] using h
    | cons c w =>
    obtain ⟨hl, hc, hnx, hlen⟩ := drop_cons hi.1 hd
    rw [List.length_cons] at hn hb
    by_cases c1 : (c.toNat : Int) = q
    · have e : strM q (c :: w) = (true, [], 1) := by rw [strM.eq_def]; simp only; rw [if_pos c1]
      rw [e] at h
      refine ⟨1, fun _ => ⟨⟨hi.1, hl⟩, fun _ => ⟨I64b (by omega), ?_⟩, fun p => ?_⟩, fun p => (by exfalso; have := of_decide_eq_false p; omega)⟩
      · simpa [strK, tk] using h
      · exact absurd (by rw [hc]; exact c1) (of_decide_eq_false p)
    · by_cases c2 : (c.toNat : Int) = 10
      · have e : strM q (c :: w) = (false, [], 0) := by rw [strM.eq_def]; simp only; rw [if_neg c1, if_pos c2]
        rw [e] at h
        refine ⟨1, fun _ => ⟨⟨hi.1, hl⟩, fun p => ?_, fun _ => ⟨⟨hi.1, hl⟩, fun _ => ?_, fun p => ?_⟩⟩, fun p => (by exfalso; have := of_decide_eq_false p; omega)⟩
        · exact absurd (by rw [← hc]; exact of_decide_eq_true p) c1
        · simpa [strK, tk] using h
        · exact absurd (by rw [hc]; exact c2) (of_decide_eq_false p)
      · by_cases c3 : (c.toNat : Int) = 92
        · cases w with
          | nil =>
            have e : strM q [c] = (true, [], 1) := by rw [strM.eq_def]; simp only; rw [if_neg c1, if_neg c2, if_neg (fun x => x c3)]
            rw [e] at h
            have hl2 := drop_nil hnx
            refine ⟨2, fun _ => ⟨⟨hi.1, hl⟩, fun p => ?_, fun _ => ⟨⟨hi.1, hl⟩, fun p => ?_, fun _ => ⟨⟨hi.1, hl⟩, fun p => ?_, fun _ => ⟨I64b (by omega), fun _ => ⟨I64b (by omega), fun p => ?_, fun _ => ?_⟩, fun p => ?_⟩⟩⟩⟩, fun p => (by exfalso; have := of_decide_eq_false p; omega)⟩
            · exact absurd (by rw [← hc]; exact of_decide_eq_true p) c1
            · exact absurd (by rw [← hc]; exact of_decide_eq_true p) c2
            · exact absurd (by rw [hc]; exact c3) (of_decide_eq_true p)
            · exfalso; have := of_decide_eq_true p; omega
            · simpa [strK, tk] using h
            · exfalso; have := of_decide_eq_false p; simp only [List.length_nil] at hlen; omega
          | cons d v =>
            obtain ⟨hl2, hc2, hnx2, hlen2⟩ := drop_cons (by omega) hnx
            have hnx3 : s.drop (i + 2).toNat = v := by rw [show i + 2 = i + 1 + 1 by omega]; exact hnx2
            rw [List.length_cons] at hn hb
            by_cases c4 : (d.toNat : Int) = 10
            · have e : strM q (c :: d :: v) = ((strM q v).1, (strM q v).2.1, 2 + (strM q v).2.2) := by rw [strM.eq_def]; simp only; rw [if_neg c1, if_neg c2, if_neg (fun x => x c3), if_pos c4]
              rw [e] at h
              obtain ⟨m, hm⟩ := ih v (i + 2) b (by omega) hnx3 ⟨by omega, by omega, hs⟩ (by omega) (by
                unfold strK at h ⊢
                have : i + 2 + ((strM q v).2.2 : Int) = i + ((2 + (strM q v).2.2 : Nat) : Int) := by omega
                rw [this]; exact h)
              refine ⟨m + 1, fun _ => ⟨⟨hi.1, hl⟩, fun p => ?_, fun _ => ⟨⟨hi.1, hl⟩, fun p => ?_, fun _ => ⟨⟨hi.1, hl⟩, fun p => ?_, fun _ => ⟨I64b (by omega), fun p => ?_, fun _ => ⟨I64b (by omega), ⟨by omega, hl2⟩, fun _ => ⟨I64b (by omega), hm⟩, fun p => ?_⟩⟩⟩⟩⟩, fun p => (by exfalso; have := of_decide_eq_false p; omega)⟩
              · exact absurd (by rw [← hc]; exact of_decide_eq_true p) c1
              · exact absurd (by rw [← hc]; exact of_decide_eq_true p) c2
              · exact absurd (by rw [hc]; exact c3) (of_decide_eq_true p)
              · exfalso; have := of_decide_eq_true p; omega
              · exact absurd (by rw [hc2]; exact c4) (of_decide_eq_false p)
            · have e : strM q (c :: d :: v) = ((strM q ((d :: v).drop (escM (d :: v)).2)).1, (escM (d :: v)).1 ++ (strM q ((d :: v).drop (escM (d :: v)).2)).2.1, 1 + (escM (d :: v)).2 + (strM q ((d :: v).drop (escM (d :: v)).2)).2.2) := by rw [strM.eq_def]; simp only; rw [if_neg c1, if_neg c2, if_neg (fun x => x c3), if_neg c4]
              rw [e] at h
              have he := escM_len (d :: v)
              have het := escM_txt (d :: v)
              rw [List.length_cons] at he
              have hlw : ((d :: v).drop (escM (d :: v)).2).length ≤ n := by rw [List.length_drop, List.length_cons]; omega
              obtain ⟨m, hm⟩ := ih ((d :: v).drop (escM (d :: v)).2) (i + 1 + ((escM (d :: v)).2 : Int)) (b ++ (escM (d :: v)).1) hlw (by rw [dropN (by omega), hnx]) ⟨by omega, by omega, hs⟩ (by rw [List.length_append, List.length_drop, List.length_cons]; omega) (by
                unfold strK at h ⊢
                have : i + 1 + ((escM (d :: v)).2 : Int) + ((strM q ((d :: v).drop (escM (d :: v)).2)).2.2 : Int) = i + ((1 + (escM (d :: v)).2 + (strM q ((d :: v).drop (escM (d :: v)).2)).2.2 : Nat) : Int) := by omega
                rw [this, List.append_assoc]; exact h)
              refine ⟨m + 1, fun _ => ⟨⟨hi.1, hl⟩, fun p => ?_, fun _ => ⟨⟨hi.1, hl⟩, fun p => ?_, fun _ => ⟨⟨hi.1, hl⟩, fun p => ?_, fun _ => ⟨I64b (by omega), fun p => ?_, fun _ => ⟨I64b (by omega), ⟨by omega, hl2⟩, fun p => ?_, fun _ => ⟨⟨hi.1, hl, hs⟩, by omega, ?_⟩⟩⟩⟩⟩⟩, fun p => (by exfalso; have := of_decide_eq_false p; omega)⟩
              · exact absurd (by rw [← hc]; exact of_decide_eq_true p) c1
              · exact absurd (by rw [← hc]; exact of_decide_eq_true p) c2
              · exact absurd (by rw [hc]; exact c3) (of_decide_eq_true p)
              · exfalso; have := of_decide_eq_true p; omega
              · exact absurd (by rw [← hc2]; exact of_decide_eq_true p) c4
              · rw [hnx]; exact hm
        · have e : strM q (c :: w) = ((strM q w).1, c :: (strM q w).2.1, 1 + (strM q w).2.2) := by rw [strM.eq_def]; simp only; rw [if_neg c1, if_neg c2, if_pos c3]
          rw [e] at h
          obtain ⟨m, hm⟩ := ih w (i + 1) (b ++ [c]) (by omega) hnx ⟨by omega, by omega, hs⟩ (by rw [List.length_append]; simp only [List.length_singleton]; omega) (by
            unfold strK at h ⊢
            have : i + 1 + ((strM q w).2.2 : Int) = i + ((1 + (strM q w).2.2 : Nat) : Int) := by omega
            rw [this, List.append_assoc]; exact h)
          refine ⟨m + 1, fun _ => ⟨⟨hi.1, hl⟩, fun p => ?_, fun _ => ⟨⟨hi.1, hl⟩, fun p => ?_, fun _ => ⟨⟨hi.1, hl⟩, fun _ => ⟨⟨hi.1, hl⟩, ?_⟩, fun p => ?_⟩⟩⟩, fun p => (by exfalso; have := of_decide_eq_false p; omega)⟩
          · exact absurd (by rw [← hc]; exact of_decide_eq_true p) c1
          · exact absurd (by rw [← hc]; exact of_decide_eq_true p) c2
          · rw [hc, u8id]
            exact ⟨u8in c, by simp only [List.length_singleton]; omega, I64b (by omega), hm⟩
          · exact absurd (by rw [hc]; exact c3) (of_decide_eq_false p)
def s_str : T_token_readString := fun s i K => (0 ≤ i ∧ i < s.length ∧ s.length ≤ 1000000) ∧ strK K [] (i + 1) (strM (hb (s.drop i.toNat)) (s.drop (i + 1).toNat))
theorem p_str (s i K) (h : s_str s i K) : F_token_readString s_esc_q s i K := by
  obtain ⟨⟨h0, h1, h2⟩, h⟩ := h
  rw [hb_getD] at h
  exact ⟨⟨h0, h1⟩, I64b (by omega), p_strL s h2 _ K _ _ _ [] (Nat.le_refl _) rfl ⟨by omega, by omega, h2⟩ (by rw [List.length_drop]; simp only [List.length_nil]; omega) h⟩

/-! ### Urls -/
theorem p_badL (s : List UInt8) (hs : s.length ≤ 1000000) (K : Int → Prop) : ∀ (n : Nat) (w : List UInt8) (i : Int), w.length ≤ n → s.drop i.toNat = w → okP s i → K (i + (badM w : Int)) → ∃ m, F_token_behindBadURL_l1 s_esS s_esc_n m s i (fun y => K y) (fun y => K y) := by
  intro n
  induction n with
  | zero =>
    intro w i hn hd hi h
    cases w with
    | cons c w => simp at hn
    | nil =>
      have hl := drop_nil hd
      rw [badM] at h
      exact ⟨1, fun p => (by exfalso; have := of_decide_eq_true p; omega), fun _ => by simpa using h⟩
  | succ n ih =>
    intro w i hn hd hi h
    cases w with
    | nil =>
      have hl := drop_nil hd
      rw [badM] at h
      exact ⟨1, fun p => (by exfalso; have := of_decide_eq_true p; omega), fun _ => by simpa using h⟩
    | cons c w =>
    obtain ⟨hl, hc, hnx, hlen⟩ := drop_cons hi.1 hd
    rw [List.length_cons] at hn
    rw [badM] at h
    by_cases c1 : (c.toNat : Int) = 41
    · rw [if_pos c1] at h
      refine ⟨1, fun _ => ⟨⟨hi.1, hl⟩, fun _ => ⟨I64b (by omega), by simpa using h⟩, fun p => ?_⟩, fun p => (by exfalso; have := of_decide_eq_false p; omega)⟩
      exact absurd (by rw [hc]; exact c1) (of_decide_eq_false p)
    · rw [if_neg c1] at h
      cases q : escS (c :: w) with
      | true =>
        rw [q, if_pos rfl] at h
        have he := escM_len w
        obtain ⟨m, hm⟩ := ih (w.drop (escM w).2) (i + 1 + ((escM w).2 : Int)) (by rw [List.length_drop]; omega) (by rw [dropN (by omega), hnx]) ⟨by omega, by omega, hs⟩ (by
          have : i + 1 + ((escM w).2 : Int) + (badM (w.drop (escM w).2) : Int) = i + ((1 + (escM w).2 + badM (w.drop (escM w).2) : Nat) : Int) := by omega
          rw [this]; exact h)
        refine ⟨m + 1, fun _ => ⟨⟨hi.1, hl⟩, fun p => ?_, fun _ => ⟨hi, fun _ => ⟨⟨hi.1, hl, hs⟩, by decide, ?_⟩, fun p => ?_⟩⟩, fun p => (by exfalso; have := of_decide_eq_false p; omega)⟩
        · exact absurd (by rw [← hc]; exact of_decide_eq_true p) c1
        · rw [hnx]; exact hm
        · rw [hd, q] at p; cases p
      | false =>
        rw [q] at h
        obtain ⟨m, hm⟩ := ih w (i + 1) (by omega) hnx ⟨by omega, by omega, hs⟩ (by
          have : i + 1 + (badM w : Int) = i + ((1 + badM w : Nat) : Int) := by omega
          rw [this]; simpa using h)
        refine ⟨m + 1, fun _ => ⟨⟨hi.1, hl⟩, fun p => ?_, fun _ => ⟨hi, fun p => ?_, fun _ => ⟨I64b (by omega), hm⟩⟩⟩, fun p => (by exfalso; have := of_decide_eq_false p; omega)⟩
        · exact absurd (by rw [← hc]; exact of_decide_eq_true p) c1
        · rw [hd, q] at p; cases p
def s_bad : T_token_behindBadURL := fun s i K => okP s i ∧ K (i + (badM (s.drop i.toNat) : Int))
theorem p_bad (s i K) (h : s_bad s i K) : F_token_behindBadURL s_esS s_esc_n s i K := p_badL s h.1.2.2 K _ _ _ (Nat.le_refl _) rfl h.1 h.2
def s_spoils : T_token_spoilsURL := fun c K => K (spoils c)
theorem p_spoils (c K) (h : s_spoils c K) : F_token_spoilsURL c K := by
  unfold s_spoils spoils at h
  unfold F_token_spoilsURL
  refine ⟨fun q => ?_, fun q => ⟨fun q2 => ?_, fun q2 => ⟨fun q3 => ?_, fun q3 => ⟨fun q4 => ?_, fun q4 => ⟨fun q5 => ?_, fun q5 => ⟨fun q6 => ?_, fun q6 => ⟨fun q7 => ⟨fun q8 => ?_, fun q8 => ?_⟩, fun q7 => ?_⟩⟩⟩⟩⟩⟩⟩ <;> simpa only [*, Bool.true_or, Bool.false_or, Bool.or_true, Bool.or_false, Bool.true_and, Bool.false_and] using h
theorem nSp_len : ∀ w : List UInt8, nSp w ≤ w.length
  | [] => Nat.le_refl _
  | c :: w => by
    unfold nSp
    have := nSp_len w
    split <;> simp only [List.length_cons] <;> omega
theorem p_urlL (s : List UInt8) (hs : s.length ≤ 1000000) (Ke : List UInt8 → Int → Int → List UInt8 → Int → List UInt8 → Bool → List UInt8 → Prop) : ∀ (n : Nat) (w : List UInt8) (i : Int) (b : List UInt8), w.length ≤ n → s.drop i.toNat = w → okP s i → b.length + 4 * w.length ≤ 4500000 → Ke s (i + ((urlM w).2 : Int)) 0 [] 0 [] false (b ++ (urlM w).1) → ∃ m, F_token_readURL_l3 s_sp s_isSp s_esS s_esc_u s_spoils s_bad m s i 0 [] 0 [] false b Ke := by
  intro n
  induction n with
  | zero =>
    intro w i b hn hd hi hb h
    cases w with
    | cons c w => simp at hn
    | nil =>
      have hl := drop_nil hd
      rw [urlM] at h
      exact ⟨1, fun p => (by exfalso; have := of_decide_eq_true p; omega), fun _ => by simpa using h⟩
  | succ n ih =>
    intro w i b hn hd hi hb h
    cases w with
    | nil =>
      have hl := drop_nil hd
      rw [urlM] at h
      exact ⟨1, fun p => (by exfalso; have := of_decide_eq_true p; omega), fun _ => by simpa using h⟩
    | cons c w =>
    obtain ⟨hl, hc, hnx, hlen⟩ := drop_cons hi.1 hd
    rw [List.length_cons] at hn hb
    rw [urlM] at h
    by_cases c1 : (c.toNat : Int) = 41
    · rw [if_pos c1] at h
      refine ⟨1, fun _ => ⟨⟨hi.1, hl⟩, fun p => ?_, fun _ => by simpa using h⟩, fun p => (by exfalso; have := of_decide_eq_false p; omega)⟩
      exact absurd (by rw [hc]; exact c1) (of_decide_eq_true p)
    · rw [if_neg c1] at h
      have nc1 : ¬ decide (((s.getD i.toNat 0).toNat : Int) ≠ 41) = false := fun p => (of_decide_eq_false p) (by rw [hc]; exact c1)
      cases q : mSp (c.toNat : Int) with
      | true =>
        rw [q, if_pos rfl] at h
        have h : Ke s (i + (nSp (c :: w) : Int)) 0 [] 0 [] false b := by simpa using h
        have hk := nSp_len (c :: w)
        rw [List.length_cons] at hk
        refine ⟨2, fun _ => ⟨⟨hi.1, hl⟩, fun _ => ⟨⟨hi.1, hl⟩, fun _ => ⟨hi, ?_⟩, fun p => ?_⟩, fun p => absurd p nc1⟩, fun p => (by exfalso; have := of_decide_eq_false p; omega)⟩
        · rw [hd]
          refine ⟨fun p => ⟨⟨by omega, of_decide_eq_true p⟩, fun _ => h, fun p2 => ⟨fun _ => ⟨⟨by omega, of_decide_eq_true p⟩, fun p3 => ?_, fun _ => h⟩, fun p3 => ?_⟩⟩, fun p => ⟨fun p2 => ?_, fun _ => h⟩⟩
          · rw [p2] at p3; cases p3
          · rw [p] at p3; cases p3
          · rw [p] at p2; cases p2
        · rw [hc, q] at p; cases p
      | false =>
        rw [q] at h
        simp only [Bool.false_eq_true, if_false] at h
        cases q2 : escS (c :: w) with
        | true =>
          rw [q2, if_pos rfl] at h
          have he := escM_len w
          have het := escM_txt w
          obtain ⟨m, hm⟩ := ih (w.drop (escM w).2) (i + 1 + ((escM w).2 : Int)) (b ++ (escM w).1) (by rw [List.length_drop]; omega) (by rw [dropN (by omega), hnx]) ⟨by omega, by omega, hs⟩ (by rw [List.length_append, List.length_drop]; omega) (by
            have : i + 1 + ((escM w).2 : Int) + ((urlM (w.drop (escM w).2)).2 : Int) = i + ((1 + (escM w).2 + (urlM (w.drop (escM w).2)).2 : Nat) : Int) := by omega
            rw [this, List.append_assoc]; exact h)
          refine ⟨m + 1, fun _ => ⟨⟨hi.1, hl⟩, fun _ => ⟨⟨hi.1, hl⟩, fun p => ?_, fun _ => ⟨hi, fun _ => ⟨⟨hi.1, hl, hs⟩, by omega, ?_⟩, fun p => ?_⟩⟩, fun p => absurd p nc1⟩, fun p => (by exfalso; have := of_decide_eq_false p; omega)⟩
          · rw [hc, q] at p; cases p
          · rw [hnx]; exact hm
          · rw [hd, q2] at p; cases p
        | false =>
          rw [q2] at h
          simp only [Bool.false_eq_true, if_false] at h
          cases q3 : spoils (c.toNat : Int) with
          | true =>
            rw [q3, if_pos rfl] at h
            refine ⟨1, fun _ => ⟨⟨hi.1, hl⟩, fun _ => ⟨⟨hi.1, hl⟩, fun p => ?_, fun _ => ⟨hi, fun p => ?_, fun _ => ⟨⟨hi.1, hl⟩, fun _ => by simpa using h, fun p => ?_⟩⟩⟩, fun p => absurd p nc1⟩, fun p => (by exfalso; have := of_decide_eq_false p; omega)⟩
            · rw [hc, q] at p; cases p
            · rw [hd, q2] at p; cases p
            · rw [hc, q3] at p; cases p
          | false =>
            rw [q3] at h
            simp only [Bool.false_eq_true, if_false] at h
            obtain ⟨m, hm⟩ := ih w (i + 1) (b ++ [c]) (by omega) hnx ⟨by omega, by omega, hs⟩ (by rw [List.length_append]; simp only [List.length_singleton]; omega) (by
              have : i + 1 + ((urlM w).2 : Int) = i + ((1 + (urlM w).2 : Nat) : Int) := by omega
              rw [this, List.append_assoc]; exact h)
            refine ⟨m + 1, fun _ => ⟨⟨hi.1, hl⟩, fun _ => ⟨⟨hi.1, hl⟩, fun p => ?_, fun _ => ⟨hi, fun p => ?_, fun _ => ⟨⟨hi.1, hl⟩, fun p => ?_, fun _ => ⟨⟨hi.1, hl⟩, ?_⟩⟩⟩⟩, fun p => absurd p nc1⟩, fun p => (by exfalso; have := of_decide_eq_false p; omega)⟩
            · rw [hc, q] at p; cases p
            · rw [hd, q2] at p; cases p
            · rw [hc, q3] at p; cases p
            · rw [hc, u8id]
              exact ⟨u8in c, by simp only [List.length_singleton]; omega, I64b (by omega), hm⟩
theorem urlM_len (w : List UInt8) : (urlM w).2 ≤ w.length := by
  induction hn : w.length using Nat.strongRecOn generalizing w with
  | _ n ih =>
    cases w with
    | nil => rw [urlM]; simp
    | cons c w =>
      have hk := nSp_len (c :: w)
      rw [List.length_cons] at hn hk
      rw [urlM]
      split
      · simp
      · split
        · simp only; omega
        · split
          · have he := escM_len w
            have := ih (w.drop (escM w).2).length (by rw [List.length_drop]; omega) (w.drop (escM w).2) rfl
            rw [List.length_drop] at this
            simp only
            omega
          · split
            · simp
            · have := ih w.length (by omega) w rfl
              simp only
              omega
def s_url : T_token_readURL := fun s i K => okP s i ∧ i ≤ s.length ∧ K (readUrlM (s.drop i.toNat)).1 (i + ((readUrlM (s.drop i.toNat)).2 : Int))
theorem p_url (s i K) (h : s_url s i K) : F_token_readURL s_sp s_isSp s_esS s_esc_u s_spoils s_bad s i K := by
  obtain ⟨hi, hl, h⟩ := h
  have ha := nSp_len (s.drop i.toNat)
  have hu := urlM_len ((s.drop i.toNat).drop (nSp (s.drop i.toNat)))
  rw [List.length_drop] at ha
  simp only [List.length_drop] at hu
  have hi0 := hi.1
  have hs := hi.2.2
  have eA : s.drop (i + (nSp (s.drop i.toNat) : Int)).toNat = (s.drop i.toNat).drop (nSp (s.drop i.toNat)) := dropN hi.1 _
  refine ⟨hi, p_urlL s hs _ _ _ _ [] (Nat.le_refl _) rfl ⟨by omega, by omega, hs⟩ (by rw [List.length_drop]; simp only [List.length_nil]; omega) ?_⟩
  rw [eA]
  unfold readUrlM at h
  simp only at h
  have eV : s.drop (i + (nSp (s.drop i.toNat) : Int) + ((urlM ((s.drop i.toNat).drop (nSp (s.drop i.toNat)))).2 : Int)).toNat = (s.drop i.toNat).drop (nSp (s.drop i.toNat) + (urlM ((s.drop i.toNat).drop (nSp (s.drop i.toNat)))).2) := by rw [dropN (by omega), eA, List.drop_drop]
  generalize (s.drop i.toNat).drop (nSp (s.drop i.toNat) + (urlM ((s.drop i.toNat).drop (nSp (s.drop i.toNat)))).2) = v at h eV
  generalize eJ : i + (nSp (s.drop i.toNat) : Int) + ((urlM ((s.drop i.toNat).drop (nSp (s.drop i.toNat)))).2 : Int) = j at eV
  have hj : 0 ≤ j ∧ j ≤ s.length := by omega
  cases v with
  | nil =>
    have hlj := drop_nil eV
    rw [if_pos rfl] at h
    refine ⟨fun _ => ?_, fun p => (by exfalso; have := of_decide_eq_false p; omega)⟩
    have e : i + ((nSp (s.drop i.toNat) + (urlM ((s.drop i.toNat).drop (nSp (s.drop i.toNat)))).2 : Nat) : Int) = j := by omega
    rw [e] at h
    exact h
  | cons c v =>
    obtain ⟨hl2, hc, hnx, _⟩ := drop_cons hj.1 eV
    rw [if_neg (by simp)] at h
    refine ⟨fun p => (by exfalso; have := of_decide_eq_true p; omega), fun _ => ⟨⟨hj.1, hl2⟩, fun p => ⟨I64b (by omega), ?_⟩, fun p => ⟨⟨by omega, by omega, hs⟩, ?_⟩⟩⟩
    · have p := of_decide_eq_true p
      rw [hc] at p
      rw [hb_cons, if_pos p] at h
      have e : i + ((nSp (s.drop i.toNat) + (urlM ((s.drop i.toNat).drop (nSp (s.drop i.toNat)))).2 + 1 : Nat) : Int) = j + 1 := by omega
      rw [e] at h
      exact h
    · have p := of_decide_eq_false p
      rw [hc] at p
      rw [hb_cons, if_neg p] at h
      have e : i + ((nSp (s.drop i.toNat) + (urlM ((s.drop i.toNat).drop (nSp (s.drop i.toNat)))).2 + badM (c :: v) : Nat) : Int) = j + (badM (c :: v) : Int) := by omega
      rw [e] at h
      rw [eV]
      exact h

/-! ### Named tokens -/
def s_low : T_input_lowerByte := fun c K => (0 ≤ c ∧ c ≤ 255) ∧ K (low c)
theorem p_low (c K) (h : s_low c K) : F_input_lowerByte c K := by
  obtain ⟨⟨h0, h1⟩, h⟩ := h
  unfold low at h
  unfold F_input_lowerByte
  simp only [decide_eq_true_eq, decide_eq_false_iff_not]
  refine ⟨fun q => ⟨fun q2 => ?_, fun q2 => ?_⟩, fun q => ?_⟩
  · rw [if_pos ⟨q, q2⟩] at h
    rw [u8w (by omega) (by omega)]
    exact h
  · rw [if_neg (by omega)] at h; exact h
  · rw [if_neg (by omega)] at h; exact h
theorem p_alikeL (a b : List UInt8) (ha : a.length ≤ 10000000) (hab : a.length = b.length) (Ke : Unit → Prop) (Kr : Bool → Prop) : ∀ (u v : List UInt8) (j : Int), a.drop j.toNat = u → b.drop j.toNat = v → 0 ≤ j → j ≤ a.length → (alikeM u v = true → Ke ()) → (alikeM u v = false → Kr false) → ∃ m, F_input_Alike_l4 s_low m a b (a.length : Int) j Ke Kr
  | [], v, j, hu, hv, h0, hj, k1, _ => by
    have hl := drop_nil hu
    have : v = [] := by rw [← hv]; exact List.drop_of_length_le (by omega)
    subst this
    exact ⟨1, fun p => (by exfalso; have := of_decide_eq_true p; omega), fun _ => k1 rfl⟩
  | c :: u, v, j, hu, hv, h0, hj, k1, k2 => by
    obtain ⟨hl, hc, hnx, _⟩ := drop_cons h0 hu
    cases v with
    | nil => have := drop_nil hv; exfalso; omega
    | cons d v =>
    obtain ⟨hl2, hc2, hnx2, _⟩ := drop_cons h0 hv
    by_cases q : low (c.toNat : Int) = low (d.toNat : Int)
    · have e : alikeM (c :: u) (d :: v) = alikeM u v := by rw [alikeM, decide_eq_true q, Bool.true_and]
      rw [e] at k1 k2
      obtain ⟨m, hm⟩ := p_alikeL a b ha hab Ke Kr u v (j + 1) hnx hnx2 (by omega) (by omega) k1 k2
      refine ⟨m + 1, fun _ => ⟨⟨h0, hl⟩, hb_in' a j, ⟨h0, hl2⟩, hb_in' b j, fun p => ?_, fun _ => ⟨I64b (by omega), hm⟩⟩, fun p => (by exfalso; have := of_decide_eq_false p; omega)⟩
      exact absurd (by rw [hc, hc2]; exact q) (of_decide_eq_true p)
    · have e : alikeM (c :: u) (d :: v) = false := by rw [alikeM, decide_eq_false q, Bool.false_and]
      refine ⟨1, fun _ => ⟨⟨h0, hl⟩, hb_in' a j, ⟨h0, hl2⟩, hb_in' b j, fun _ => k2 e, fun p => ?_⟩, fun p => (by exfalso; have := of_decide_eq_false p; omega)⟩
      exact absurd (of_decide_eq_false p) (by rw [hc, hc2]; exact fun x => x q)
where hb_in' (a : List UInt8) (j : Int) : 0 ≤ ((a.getD j.toNat 0).toNat : Int) ∧ ((a.getD j.toNat 0).toNat : Int) ≤ 255 := u8in _
theorem alikeM_len : ∀ (a b : List UInt8), alikeM a b = true → a.length = b.length
  | [], [], _ => rfl
  | [], _ :: _, h => by cases h
  | _ :: _, [], h => by cases h
  | a :: x, b :: y, h => by
    unfold alikeM at h
    rw [Bool.and_eq_true] at h
    rw [List.length_cons, List.length_cons, alikeM_len x y h.2]
def s_alike : T_input_Alike := fun a b K => a.length ≤ 10000000 ∧ K (alikeM a b)
theorem p_alike (a b K) (h : s_alike a b K) : F_input_Alike s_low a b K := by
  obtain ⟨ha, h⟩ := h
  refine ⟨fun p => ?_, fun p => ?_⟩
  · have p := of_decide_eq_true p
    cases q : alikeM a b with
    | false => rw [q] at h; exact h
    | true => exact absurd (congrArg (Int.ofNat) (alikeM_len a b q)) p
  · have p := of_decide_eq_false p
    have p : (a.length : Int) = b.length := by simpa using p
    exact p_alikeL a b ha (by omega) _ _ a b 0 rfl rfl (by omega) (by omega) (fun q => by rw [q] at h; exact h) (fun q => by rw [q] at h; exact h)
theorem nameM_txt (w : List UInt8) : (nameM w).1.length ≤ 4 * w.length := by
  induction hn : w.length using Nat.strongRecOn generalizing w with
  | _ n ih =>
    cases w with
    | nil => rw [nameM]; simp
    | cons c w =>
      rw [List.length_cons] at hn
      rw [nameM]
      split
      · split
        · have he := escM_len w
          have het := escM_txt w
          have := ih (w.drop (escM w).2).length (by rw [List.length_drop]; omega) (w.drop (escM w).2) rfl
          rw [List.length_drop] at this
          simp only [List.length_append]
          omega
        · have := ih w.length (by omega) w rfl
          simp only [List.length_cons]
          omega
      · simp
def s_named : T_token_readNamed := fun s i K => okP s i ∧ i ≤ s.length ∧ K (namedM (s.drop i.toNat)).1 (i + ((namedM (s.drop i.toNat)).2 : Int))
theorem p_named (s i K) (h : s_named s i K) : F_token_readNamed s_name s_byteAt s_alike s_sp s_isQ s_url s i K := by
  obtain ⟨hi, hl, h⟩ := h
  have hi0 := hi.1
  have hs := hi.2.2
  have hn := nameM_len (s.drop i.toNat)
  have ht := nameM_txt (s.drop i.toNat)
  rw [List.length_drop] at hn ht
  have eV := dropN hi0 (s := s) (nameM (s.drop i.toNat)).2
  unfold namedM at h
  simp only at h
  rw [← eV] at h
  generalize eJ : i + ((nameM (s.drop i.toNat)).2 : Int) = j at eV h ⊢
  have hj : 0 ≤ j ∧ j ≤ s.length := by omega
  refine ⟨hi, ?_⟩
  rw [eJ]
  refine ⟨hj.1, fun p => ?_, fun p => ?_⟩
  · rw [if_pos (of_decide_eq_true p)] at h
    rw [eJ] at h
    exact h
  · have p := of_decide_eq_false p
    rw [if_neg p] at h
    have p2 : hb (s.drop j.toNat) = 40 := by simpa using p
    have hl2 : j < s.length := by
      by_cases q : j < s.length
      · exact q
      · rw [List.drop_of_length_le (by omega)] at p2; exact absurd p2 (by decide)
    rw [← dropS hj.1] at h
    have eS := dropN (i := j + 1) (by omega) (s := s) (nSp (s.drop (j + 1).toNat))
    rw [← eS] at h
    have hsp := nSp_len (s.drop (j + 1).toNat)
    rw [List.length_drop] at hsp
    have fin : K (tk 2 (nameM (s.drop i.toNat)).1) (i + (((nameM (s.drop i.toNat)).2 + 1 : Nat) : Int)) → K (Tok.mk 2 (nameM (s.drop i.toNat)).1 0 [] false) (j + 1) := fun h => by
      have e : i + (((nameM (s.drop i.toNat)).2 + 1 : Nat) : Int) = j + 1 := by omega
      rw [e] at h; exact h
    refine ⟨I64b (by omega), by omega, fun q => ⟨⟨by omega, by omega, hs⟩, by omega, fun q2 => ⟨⟨by omega, by omega, hs⟩, by omega, ?_⟩, fun q2 => ?_⟩, fun q => ?_⟩
    · rw [q, q2] at h
      simp only [Bool.and_self, if_true] at h
      have e : i + (((nameM (s.drop i.toNat)).2 + 1 + (readUrlM (s.drop (j + 1).toNat)).2 : Nat) : Int) = j + 1 + ((readUrlM (s.drop (j + 1).toNat)).2 : Int) := by omega
      rw [e] at h
      exact h
    · rw [q, q2] at h
      simp only [Bool.and_false, Bool.false_eq_true, if_false] at h
      exact fin h
    · rw [q] at h
      simp only [Bool.false_and, Bool.false_eq_true, if_false] at h
      exact fin h
end Go.Proofs.YthjnfeihngjchaaDoor
