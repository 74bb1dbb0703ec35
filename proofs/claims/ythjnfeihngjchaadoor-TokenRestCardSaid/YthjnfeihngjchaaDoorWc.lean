/-
  Escapes and names do what the model says. Nothing is claimed here.
-/
import Derived.Test.YthjnfeihngjchaaDoorWb
namespace Go.Proofs.YthjnfeihngjchaaDoor
open Go.Vm Go.Sx Go.RowKit

/-! ### Code points as bytes -/
theorem fd6 (x : Int) : x.fdiv (2 ^ (min 6 IntKind.i32.bits)) = x / 64 := Int.fdiv_eq_ediv_of_nonneg _ (by decide)
theorem fd12 (x : Int) : x.fdiv (2 ^ (min 12 IntKind.i32.bits)) = x / 4096 := Int.fdiv_eq_ediv_of_nonneg _ (by decide)
theorem fd18 (x : Int) : x.fdiv (2 ^ (min 18 IntKind.i32.bits)) = x / 262144 := Int.fdiv_eq_ediv_of_nonneg _ (by decide)
theorem or128F : ∀ y : Fin 256, IntKind.u8.wrap ((BitVec.ofInt IntKind.u8.bits (128 : Int) ||| BitVec.ofInt IntKind.u8.bits (IntKind.u8.wrap ((BitVec.ofInt IntKind.u8.bits ((y.val : Nat) : Int) &&& BitVec.ofInt IntKind.u8.bits (63 : Int)).toNat : Int))).toNat : Int) = 128 + (((y.val : Nat) : Int)) % 64 := by decide +kernel
theorem or128 (y : Int) : IntKind.u8.wrap ((BitVec.ofInt IntKind.u8.bits (128 : Int) ||| BitVec.ofInt IntKind.u8.bits (IntKind.u8.wrap ((BitVec.ofInt IntKind.u8.bits (IntKind.u8.wrap y) &&& BitVec.ofInt IntKind.u8.bits (63 : Int)).toNat : Int))).toNat : Int) = 128 + y % 64 := by
  have h := or128F ⟨(y % 256).toNat, by omega⟩
  have e : (((y % 256).toNat : Nat) : Int) = IntKind.u8.wrap y := by rw [IntKind.wrap_u8]; omega
  rw [e] at h
  rw [h, IntKind.wrap_u8]
  omega
theorem or192F : ∀ y : Fin 32, IntKind.u8.wrap ((BitVec.ofInt IntKind.u8.bits (192 : Int) ||| BitVec.ofInt IntKind.u8.bits (IntKind.u8.wrap ((y.val : Nat) : Int))).toNat : Int) = 192 + ((y.val : Nat) : Int) := by decide +kernel
theorem or224F : ∀ y : Fin 16, IntKind.u8.wrap ((BitVec.ofInt IntKind.u8.bits (224 : Int) ||| BitVec.ofInt IntKind.u8.bits (IntKind.u8.wrap ((y.val : Nat) : Int))).toNat : Int) = 224 + ((y.val : Nat) : Int) := by decide +kernel
theorem or240F : ∀ y : Fin 8, IntKind.u8.wrap ((BitVec.ofInt IntKind.u8.bits (240 : Int) ||| BitVec.ofInt IntKind.u8.bits (IntKind.u8.wrap ((y.val : Nat) : Int))).toNat : Int) = 240 + ((y.val : Nat) : Int) := by decide +kernel
theorem or192 {y : Int} (h0 : 0 ≤ y) (h1 : y < 32) : IntKind.u8.wrap ((BitVec.ofInt IntKind.u8.bits (192 : Int) ||| BitVec.ofInt IntKind.u8.bits (IntKind.u8.wrap y)).toNat : Int) = 192 + y := by
  have h := or192F ⟨y.toNat, by omega⟩
  rwa [show ((y.toNat : Nat) : Int) = y by omega] at h
theorem or224 {y : Int} (h0 : 0 ≤ y) (h1 : y < 16) : IntKind.u8.wrap ((BitVec.ofInt IntKind.u8.bits (224 : Int) ||| BitVec.ofInt IntKind.u8.bits (IntKind.u8.wrap y)).toNat : Int) = 224 + y := by
  have h := or224F ⟨y.toNat, by omega⟩
  rwa [show ((y.toNat : Nat) : Int) = y by omega] at h
theorem or240 {y : Int} (h0 : 0 ≤ y) (h1 : y < 8) : IntKind.u8.wrap ((BitVec.ofInt IntKind.u8.bits (240 : Int) ||| BitVec.ofInt IntKind.u8.bits (IntKind.u8.wrap y)).toNat : Int) = 240 + y := by
  have h := or240F ⟨y.toNat, by omega⟩
  rwa [show ((y.toNat : Nat) : Int) = y by omega] at h
theorem u32w {x : Int} (h0 : 0 ≤ x) (h1 : x ≤ 16777215) : IntKind.u32.wrap x = x := by rw [IntKind.wrap_u32]; omega
theorem u8w {n : Int} (h0 : 0 ≤ n) (h1 : n ≤ 255) : IntKind.u8.wrap n = n := by rw [IntKind.wrap_u8]; omega

theorem utfM_len (c : Int) : (utfM c).length ≤ 4 := by
  unfold utfM
  split
  · simp
  · split
    · simp
    · split
      · simp
      · split <;> simp
theorem utf1 {c : Int} (h : c ≤ 127) : utfM c = [b8 c] := by unfold utfM; rw [if_pos h]
theorem utf2 {c : Int} (h : ¬ c ≤ 127) (h2 : c ≤ 2047) : utfM c = [b8 (192 + c / 64), b8 (128 + c % 64)] := by unfold utfM; rw [if_neg h, if_pos h2]
theorem utfX {c : Int} (h : ¬ c ≤ 127) (h2 : ¬ c ≤ 2047) (h3 : 55296 ≤ c ∧ c ≤ 57343 ∨ 1114111 < c) : utfM c = [b8 239, b8 191, b8 189] := by unfold utfM; rw [if_neg h, if_neg h2, if_pos h3]
theorem utf3 {c : Int} (h : ¬ c ≤ 127) (h2 : ¬ c ≤ 2047) (h3 : ¬ (55296 ≤ c ∧ c ≤ 57343 ∨ 1114111 < c)) (h4 : c ≤ 65535) : utfM c = [b8 (224 + c / 4096), b8 (128 + c / 64 % 64), b8 (128 + c % 64)] := by unfold utfM; rw [if_neg h, if_neg h2, if_neg h3, if_pos h4]
theorem utf4 {c : Int} (h : ¬ c ≤ 127) (h2 : ¬ c ≤ 2047) (h3 : ¬ (55296 ≤ c ∧ c ≤ 57343 ∨ 1114111 < c)) (h4 : ¬ c ≤ 65535) : utfM c = [b8 (240 + c / 262144), b8 (128 + c / 4096 % 64), b8 (128 + c / 64 % 64), b8 (128 + c % 64)] := by unfold utfM; rw [if_neg h, if_neg h2, if_neg h3, if_neg h4]

/-! ### Hex digits -/
def s_hex : T_token_hexDigit := fun c K => (0 ≤ c ∧ c ≤ 255) ∧ K (hexM c).1 (hexM c).2
theorem p_hex (c K) (h : s_hex c K) : F_token_hexDigit s_isD c K := by
  obtain ⟨⟨h0, h1⟩, h⟩ := h
  unfold F_token_hexDigit s_isD
  unfold hexM at h
  have i32 : ∀ n : Int, 0 ≤ n ∧ n ≤ 1000 → I32 n := fun n h => by unfold I32; omega
  refine ⟨fun q => ?_, fun q => ?_⟩
  · rw [if_pos q] at h
    unfold mD at q
    simp only [Bool.and_eq_true, decide_eq_true_eq] at q
    rw [u8w (by omega) (by omega)]
    exact ⟨i32 _ (by omega), h⟩
  · rw [if_neg (by rw [q]; decide)] at h
    simp only [decide_eq_true_eq, decide_eq_false_iff_not]
    have e97 : ∀ n : Int, n - 97 + 10 = n - 87 := fun n => by omega
    have e65 : ∀ n : Int, n - 65 + 10 = n - 55 := fun n => by omega
    refine ⟨fun q1 => ⟨fun q2 => ?_, fun q2 => ⟨fun q3 => ⟨fun q4 => ?_, fun q4 => ?_⟩, fun q3 => ?_⟩⟩, fun q1 => ⟨fun q3 => ⟨fun q4 => ?_, fun q4 => ?_⟩, fun q3 => ?_⟩⟩
    · rw [if_pos ⟨q1, q2⟩] at h
      rw [u8w (by omega) (by omega), e97]
      exact ⟨i32 _ (by omega), i32 _ (by omega), h⟩
    · exfalso; omega
    · rw [if_neg (by omega), if_neg (by omega)] at h; exact h
    · exfalso; omega
    · rw [if_neg (by omega), if_pos ⟨q3, q4⟩] at h
      rw [u8w (by omega) (by omega), e65]
      exact ⟨i32 _ (by omega), i32 _ (by omega), h⟩
    · rw [if_neg (by omega), if_neg (by omega)] at h; exact h
    · rw [if_neg (by omega), if_neg (by omega)] at h; exact h
theorem hexM_in {c : Int} (h : (hexM c).2 = true) : 0 ≤ (hexM c).1 ∧ (hexM c).1 ≤ 15 := by
  unfold hexM mD at h ⊢
  simp only [Bool.and_eq_true, decide_eq_true_eq] at h ⊢
  split
  · simp only; omega
  · split
    · simp only; omega
    · split
      · simp only; omega
      · rename_i h1 h2 h3; rw [if_neg h1, if_neg h2, if_neg h3] at h; cases h
theorem shl4 {a d : Int} (h0 : 0 ≤ a) (h1 : a < 1048576) (h2 : 0 ≤ d) (h3 : d ≤ 15) : IntKind.i32.wrap ((BitVec.ofInt IntKind.i32.bits (IntKind.i32.wrap (a * 2 ^ (min 4 IntKind.i32.bits))) ||| BitVec.ofInt IntKind.i32.bits d).toNat : Int) = a * 16 + d := by
  obtain ⟨x, rfl⟩ := Int.eq_ofNat_of_zero_le h0
  obtain ⟨y, rfl⟩ := Int.eq_ofNat_of_zero_le h2
  have e1 : ((x : Int) * 2 ^ (min 4 IntKind.i32.bits)) = ((x * 16 : Nat) : Int) := by
    show (x : Int) * (2 ^ 4) = _
    omega
  have e2 : IntKind.i32.wrap ((x * 16 : Nat) : Int) = ((x * 16 : Nat) : Int) := by rw [IntKind.wrap_i32]; omega
  rw [e1, e2, BitVec.ofInt_natCast, BitVec.ofInt_natCast, BitVec.toNat_or, BitVec.toNat_ofNat, BitVec.toNat_ofNat]
  have e3 : (x * 16) % 2 ^ IntKind.i32.bits = x * 16 := Nat.mod_eq_of_lt (by show _ < 4294967296; omega)
  have e4 : y % 2 ^ IntKind.i32.bits = y := Nat.mod_eq_of_lt (by show _ < 4294967296; omega)
  rw [e3, e4]
  have e5 : x * 16 ||| y = x * 16 + y := by
    have := Nat.two_pow_add_eq_or_of_lt (i := 4) (b := y) (by omega) x
    rw [Nat.mul_comm x 16]
    exact this.symm
  rw [e5, IntKind.wrap_i32]
  omega
theorem pow16 {k n : Nat} (h : k ≤ n) : (16 : Int) ^ k ≤ 16 ^ n := by
  have := Nat.pow_le_pow_right (n := 16) (by decide) h
  exact_mod_cast this
theorem hexRun_len : ∀ (r : Nat) (w : List UInt8) (a : Int), (hexRun r w a).2 ≤ w.length
  | 0, w, a => Nat.zero_le _
  | r + 1, w, a => by
    unfold hexRun
    split
    · rename_i q
      cases w with
      | nil => exact absurd q (by decide)
      | cons c w => have := hexRun_len r w (a * 16 + (hexM (hb (c :: w))).1); simp only [List.tail_cons, List.length_cons]; omega
    · exact Nat.zero_le _
theorem hexRun_in : ∀ (r : Nat) (w : List UInt8) (a : Int) (k : Nat), r + k ≤ 6 → 0 ≤ a → a < 16 ^ k → 0 ≤ (hexRun r w a).1 ∧ (hexRun r w a).1 ≤ 16777215
  | 0, w, a, k, hk, h0, h1 => by
    have : (16 : Int) ^ k ≤ 16 ^ 6 := pow16 (by omega)
    exact ⟨h0, by show a ≤ _; have : (16 : Int) ^ 6 = 16777216 := by decide
                  omega⟩
  | r + 1, w, a, k, hk, h0, h1 => by
    unfold hexRun
    split
    · rename_i q
      have hd := hexM_in q
      have e : (16 : Int) ^ (k + 1) = 16 ^ k * 16 := Int.pow_succ _ _
      exact hexRun_in r w.tail _ (k + 1) (by omega) (by omega) (by rw [e]; omega)
    · have : (16 : Int) ^ k ≤ 16 ^ 6 := pow16 (by omega)
      exact ⟨h0, by show a ≤ _; have : (16 : Int) ^ 6 = 16777216 := by decide
                    omega⟩
theorem escM_len (w : List UInt8) : (escM w).2 ≤ w.length := by
  cases w with
  | nil => exact Nat.le_refl _
  | cons c w =>
    rw [escM, escH]
    split
    · have h := hexRun_len 6 (c :: w) 0
      simp only
      split
      · rename_i q
        cases hd : (c :: w).drop (hexRun 6 (c :: w) 0).2 with
        | nil => rw [hd] at q; exact absurd q (by decide)
        | cons d v =>
          have := congrArg List.length hd
          simp only [List.length_drop, List.length_cons] at this
          simp only [List.length_cons] at h ⊢
          omega
      · omega
    · simp
theorem escM_txt (w : List UInt8) : (escM w).1.length ≤ 4 := by
  cases w with
  | nil => show (utfM 65533).length ≤ 4; exact utfM_len _
  | cons c w =>
    rw [escM, escH]
    split
    · exact utfM_len _
    · simp

/-! ### Escapes, shape e -/
def s_utf_e : T_utf8_AppendRune_e := fun x b K => (0 ≤ x ∧ x ≤ 16777215) ∧ b.length ≤ 10000000 ∧ K (b ++ utfM x)
set_option maxRecDepth 100000 in
theorem p_utf_e (x b K) (h : s_utf_e x b K) : F_utf8_AppendRune_e x b K := by
  obtain ⟨⟨h0, h1⟩, hb, h⟩ := h
  have k1 : x ≤ 127 → K (b ++ [b8 x]) := fun q => utf1 q ▸ h
  have k2 : ¬ x ≤ 127 → x ≤ 2047 → K (b ++ [b8 (192 + x / 64), b8 (128 + x % 64)]) := fun q q2 => utf2 q q2 ▸ h
  have kX : ¬ x ≤ 127 → ¬ x ≤ 2047 → (55296 ≤ x ∧ x ≤ 57343 ∨ 1114111 < x) → K (b ++ [b8 239, b8 191, b8 189]) := fun q q2 q3 => utfX q q2 q3 ▸ h
  have k3 : ¬ x ≤ 127 → ¬ x ≤ 2047 → ¬ (55296 ≤ x ∧ x ≤ 57343 ∨ 1114111 < x) → x ≤ 65535 → K (b ++ [b8 (224 + x / 4096), b8 (128 + x / 64 % 64), b8 (128 + x % 64)]) := fun q q2 q3 q4 => utf3 q q2 q3 q4 ▸ h
  have k4 : ¬ x ≤ 127 → ¬ x ≤ 2047 → ¬ (55296 ≤ x ∧ x ≤ 57343 ∨ 1114111 < x) → ¬ x ≤ 65535 → K (b ++ [b8 (240 + x / 262144), b8 (128 + x / 4096 % 64), b8 (128 + x / 64 % 64), b8 (128 + x % 64)]) := fun q q2 q3 q4 => utf4 q q2 q3 q4 ▸ h
  clear h
  unfold F_utf8_AppendRune_e
  simp only [u32w h0 h1, or128, fd6, fd12, fd18, decide_eq_true_eq, decide_eq_false_iff_not, List.length_cons, List.length_nil]
  refine ⟨fun q => ?_, fun q => ⟨fun q2 => ?_, fun q2 => ⟨fun q3 => ?_, fun q3 => ⟨fun q4 => ⟨fun q5 => ?_, fun q5 => ⟨fun q6 => ⟨fun q7 => ?_, fun q7 => ?_⟩, fun q6 => ?_⟩⟩, fun q4 => ⟨fun q6 => ⟨fun q7 => ?_, fun q7 => ?_⟩, fun q6 => ?_⟩⟩⟩⟩⟩
  · rw [u8w h0 (by omega)]
    exact ⟨by omega, by omega, k1 q⟩
  · rw [or192 (by omega) (by omega)]
    exact ⟨by decide, by omega, by omega, by omega, k2 q q2⟩
  · rw [or224 (by omega) (by omega)]
    exact ⟨by decide, by decide, by omega, by omega, by omega, by omega, k3 q q2 (by omega) (by omega)⟩
  · rw [or224 (by omega) (by omega)]
    exact ⟨by decide, by decide, by omega, by omega, by omega, by omega, k3 q q2 (by omega) (by omega)⟩
  · rw [or240 (by omega) (by omega)]
    exact ⟨by decide, by decide, by decide, by omega, by omega, by omega, by omega, by omega, k4 q q2 (by omega) (by omega)⟩
  · exact ⟨by decide, by decide, by decide, by omega, kX q q2 (by omega)⟩
  · exfalso; omega
  · exfalso; omega
  · exact ⟨by decide, by decide, by decide, by omega, kX q q2 (by omega)⟩
  · exact ⟨by decide, by decide, by decide, by omega, kX q q2 (by omega)⟩
set_option maxRecDepth 100000 in
theorem p_hexL_e (s : List UInt8) (hs : s.length ≤ 1000000) (b : List UInt8) (A : T_utf8_AppendRune_e) (Ke : List UInt8 → Int → Int → List UInt8 → Prop) : ∀ (r : Nat) (w : List UInt8) (i a x : Int) (k : Nat), x = k → r + k = 6 → s.drop i.toNat = w → 0 ≤ i → i + (r : Int) ≤ 1000020 → 0 ≤ a → a < 16 ^ k → Ke s (i + ((hexRun r w a).2 : Int)) (hexRun r w a).1 b → ∃ m, F_token_appendEscape_e_l9 A s_hex s_byteAt s_isSp m s i a x b Ke
  | 0, w, i, a, x, k, hx, hk, hd, h0, hi, ha0, ha1, h => by
    refine ⟨1, fun q => ?_, fun _ => ?_⟩
    · exfalso; have := of_decide_eq_true q; omega
    · simpa [hexRun] using h
  | r + 1, w, i, a, x, k, hx, hk, hd, h0, hi, ha0, ha1, h => by
    unfold hexRun at h
    cases q : (hexM (hb w)).2 with
    | false =>
      rw [q] at h
      refine ⟨1, fun _ => ⟨h0, hb_in _, fun q2 => ?_, fun q2 => ?_⟩, fun q2 => ?_⟩
      · simpa using h
      · rw [hd, q] at q2; exact absurd q2 (by decide)
      · exfalso; have := of_decide_eq_false q2; omega
    | true =>
      rw [q] at h
      simp only [if_true] at h
      have hdg := hexM_in q
      have e : (16 : Int) ^ (k + 1) = 16 ^ k * 16 := Int.pow_succ _ _
      have e5 : (16 : Int) ^ k ≤ 16 ^ 5 := pow16 (by omega)
      have e6 : (16 : Int) ^ 5 = 1048576 := by decide
      obtain ⟨m, hm⟩ := p_hexL_e s hs b A Ke r w.tail (i + 1) (a * 16 + (hexM (hb w)).1) (x + 1) (k + 1) (by omega) (by omega) (by rw [dropS h0, hd]) (by omega) (by omega) (by omega) (by rw [e]; omega) (by
        have : i + 1 + ((hexRun r w.tail (a * 16 + (hexM (hb w)).1)).2 : Int) = i + (((hexRun r w.tail (a * 16 + (hexM (hb w)).1)).2 + 1 : Nat) : Int) := by omega
        rw [this]; exact h)
      refine ⟨m + 1, fun _ => ⟨h0, hb_in _, fun q2 => ?_, fun _ => ⟨by decide, I64b (by omega), I64b (by omega), ?_⟩⟩, fun q2 => ?_⟩
      · rw [hd, q] at q2; exact absurd q2 (by decide)
      · rw [hd, shl4 ha0 (by omega) hdg.1 hdg.2]
        exact hm
      · exfalso; have := of_decide_eq_false q2; omega
def s_esc_e : T_token_appendEscape_e := fun s i b K => (0 ≤ i ∧ i < s.length ∧ s.length ≤ 1000000) ∧ b.length ≤ 5000000 ∧ K (i + 1 + ((escM (s.drop (i + 1).toNat)).2 : Int)) (b ++ (escM (s.drop (i + 1).toNat)).1)
theorem p_esc_e (s i b K) (h : s_esc_e s i b K) : F_token_appendEscape_e s_utf_e s_hex s_byteAt s_isSp s i b K := by
  obtain ⟨⟨h0, h1, h2⟩, hb, h⟩ := h
  refine ⟨I64b (by omega), fun q => ?_, fun q => ?_⟩
  · have q := of_decide_eq_true q
    rw [List.drop_of_length_le (by omega)] at h
    unfold escM at h
    refine ⟨by omega, by omega, ?_⟩
    simpa using h
  · have q := of_decide_eq_false q
    cases hd : s.drop (i + 1).toNat with
    | nil => exfalso; have := drop_nil hd; omega
    | cons c w =>
    obtain ⟨_, hc, _, _⟩ := drop_cons (by omega) hd
    rw [hd, escM, escH] at h
    rw [hc]
    refine ⟨by omega, u8in c, fun q2 => ?_, fun q2 => ?_⟩
    · have q3 : (hexM (c.toNat : Int)).2 = false := by simpa using q2
      rw [q3] at h
      rw [u8id]
      refine ⟨by omega, u8in c, by simp only [List.length_cons, List.length_nil]; omega, I64b (by omega), ?_⟩
      simpa using h
    · have q3 : (hexM (c.toNat : Int)).2 = true := by simpa using q2
      rw [q3] at h
      simp only [if_true] at h
      have hl := hexRun_len 6 (c :: w) 0
      have hin := hexRun_in 6 (c :: w) 0 0 (by omega) (by omega) (by decide)
      have hlw := congrArg List.length hd
      rw [List.length_drop] at hlw
      refine p_hexL_e s h2 b _ _ 6 (c :: w) (i + 1) 0 0 0 rfl rfl hd (by omega) (by omega) (by omega) (by decide) ?_
      have e : s.drop (i + 1 + ((hexRun 6 (c :: w) 0).2 : Int)).toNat = (c :: w).drop (hexRun 6 (c :: w) 0).2 := by rw [dropN (by omega), hd]
      refine ⟨by omega, fun q4 => ⟨I64b (by omega), fun q5 => ?_, fun q5 => ?_⟩, fun q4 => ⟨fun q5 => ?_, fun q5 => ?_⟩⟩
      · rw [e] at q4
        rw [q4, if_pos (of_decide_eq_true q5), if_pos rfl] at h
        refine ⟨by omega, by omega, ?_⟩
        have e2 : i + 1 + ((hexRun 6 (c :: w) 0).2 : Int) + 1 = i + 1 + (((hexRun 6 (c :: w) 0).2 + 1 : Nat) : Int) := by omega
        rw [e2]; exact h
      · rw [e] at q4
        rw [q4, if_neg (of_decide_eq_false q5), if_pos rfl] at h
        refine ⟨hin, by omega, ?_⟩
        have e2 : i + 1 + ((hexRun 6 (c :: w) 0).2 : Int) + 1 = i + 1 + (((hexRun 6 (c :: w) 0).2 + 1 : Nat) : Int) := by omega
        rw [e2]; exact h
      · rw [e] at q4
        rw [q4, if_pos (of_decide_eq_true q5)] at h
        exact ⟨by omega, by omega, by simpa using h⟩
      · rw [e] at q4
        rw [q4, if_neg (of_decide_eq_false q5)] at h
        exact ⟨hin, by omega, by simpa using h⟩

/-! ### Names -/
theorem p_nameL (s : List UInt8) (hs : s.length ≤ 1000000) (Ke : Int → List UInt8 → Prop) : ∀ (n : Nat) (w : List UInt8) (i : Int) (b : List UInt8), w.length ≤ n → s.drop i.toNat = w → okP s i → b.length + 4 * w.length ≤ 4500000 → Ke (i + ((nameM w).2 : Int)) (b ++ (nameM w).1) → ∃ m, F_token_readName_l2 s_nameG s_esc_e m s i b Ke := by
  intro n
  induction n with
  | zero =>
    intro w i b hn hd hi hb h
    cases w with
    | cons c w => simp at hn
    | nil =>
      refine ⟨1, hi, fun q => ?_, fun _ => ?_⟩
      · rw [hd] at q; exact absurd q (by decide)
      · rw [nameM] at h; simpa using h
  | succ n ih =>
    intro w i b hn hd hi hb h
    cases w with
    | nil =>
      refine ⟨1, hi, fun q => ?_, fun _ => ?_⟩
      · rw [hd] at q; exact absurd q (by decide)
      · rw [nameM] at h; simpa using h
    | cons c w =>
    obtain ⟨hl, hc, hnx, hlen⟩ := drop_cons hi.1 hd
    rw [List.length_cons] at hn hb
    rw [nameM] at h
    cases q : nameG (c :: w) with
    | false =>
      rw [q] at h
      refine ⟨1, hi, fun q2 => ?_, fun _ => ?_⟩
      · rw [hd, q] at q2; cases q2
      · simpa using h
    | true =>
      rw [q, if_pos rfl] at h
      by_cases q3 : (c.toNat : Int) = 92
      · rw [if_pos q3] at h
        have he := escM_len w
        have het := escM_txt w
        have hlw : (w.drop (escM w).2).length ≤ n := by rw [List.length_drop]; omega
        obtain ⟨m, hm⟩ := ih (w.drop (escM w).2) (i + 1 + ((escM w).2 : Int)) (b ++ (escM w).1) hlw (by rw [dropN (by omega), hnx]) ⟨by omega, by omega, hs⟩ (by rw [List.length_append, List.length_drop]; omega) (by
          have e : i + 1 + ((escM w).2 : Int) + ((nameM (w.drop (escM w).2)).2 : Int) = i + ((1 + (escM w).2 + (nameM (w.drop (escM w).2)).2 : Nat) : Int) := by omega
          rw [e, List.append_assoc]; exact h)
        refine ⟨m + 1, hi, fun _ => ⟨⟨hi.1, hl⟩, fun _ => ⟨⟨hi.1, hl, hs⟩, by omega, ?_⟩, fun q4 => ?_⟩, fun q2 => ?_⟩
        · rw [hnx]; exact hm
        · exact absurd (by rw [hc]; exact q3) (of_decide_eq_false q4)
        · rw [hd, q] at q2; cases q2
      · rw [if_neg q3] at h
        obtain ⟨m, hm⟩ := ih w (i + 1) (b ++ [c]) (by omega) hnx ⟨by omega, by omega, hs⟩ (by rw [List.length_append]; simp only [List.length_singleton]; omega) (by
          have e : i + 1 + ((nameM w).2 : Int) = i + ((1 + (nameM w).2 : Nat) : Int) := by omega
          rw [e, List.append_assoc]; exact h)
        refine ⟨m + 1, hi, fun _ => ⟨⟨hi.1, hl⟩, fun q4 => ?_, fun _ => ⟨⟨hi.1, hl⟩, ?_⟩⟩, fun q2 => ?_⟩
        · exact absurd (by rw [← hc]; exact of_decide_eq_true q4) q3
        · rw [hc, u8id]
          exact ⟨u8in c, by simp only [List.length_singleton]; omega, I64b (by omega), hm⟩
        · rw [hd, q] at q2; cases q2
def s_name : T_token_readName := fun s i K => okP s i ∧ K (nameM (s.drop i.toNat)).1 (i + ((nameM (s.drop i.toNat)).2 : Int))
theorem p_name (s i K) (h : s_name s i K) : F_token_readName s_nameG s_esc_e s i K := by
  obtain ⟨hi, h⟩ := h
  refine p_nameL s hi.2.2 _ _ (s.drop i.toNat) i [] (Nat.le_refl _) rfl hi (by rw [List.length_drop]; have := hi.2.2; simp only [List.length_nil]; omega) ?_
  simpa using h
theorem nameM_len (w : List UInt8) : (nameM w).2 ≤ w.length := by
  induction hn : w.length using Nat.strongRecOn generalizing w with
  | _ n ih =>
    cases w with
    | nil => rw [nameM]; simp
    | cons c w =>
      rw [List.length_cons] at hn
      rw [nameM]
      split
      · split
        · have he := escM_len w
          have := ih (w.drop (escM w).2).length (by rw [List.length_drop]; omega) (w.drop (escM w).2) rfl
          rw [List.length_drop] at this
          simp only
          omega
        · have := ih w.length (by omega) w rfl
          simp only
          omega
      · simp
end Go.Proofs.YthjnfeihngjchaaDoor
