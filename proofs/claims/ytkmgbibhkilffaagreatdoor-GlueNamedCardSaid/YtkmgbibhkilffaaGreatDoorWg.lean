/-
  A model of the tokenizer; its functions do what the model says. Nothing is claimed here. (The texts Wa, Wb, Wc, Wd, We, Wf, Wg, one behind the other.)
-/
import Derived.Test.YtkmgbibhkilffaaGreatDoorTa
import Derived.Test.YtkmgbibhkilffaaGreatDoorTh
import Derived.Lib.Index
namespace Go.Proofs.YtkmgbibhkilffaaGreatDoor
open Go.Vm Go.Sx Go.RowKit

/-! ### Bytes -/
def mD (c : Int) : Bool := decide (48 ≤ c) && decide (c ≤ 57)
def mL (c : Int) : Bool := (decide (97 ≤ c) && decide (c ≤ 122)) || (decide (65 ≤ c) && decide (c ≤ 90))
def mSp (c : Int) : Bool := decide (c = 10) || (decide (c = 9) || decide (c = 32))
def mQ (c : Int) : Bool := decide (c = 34) || decide (c = 39)
def mN0 (c : Int) : Bool := mL c || (decide (c = 95) || decide (128 ≤ c))
def mN (c : Int) : Bool := mN0 c || (mD c || decide (c = 45))
def mSg (c : Int) : Bool := decide (c = 43) || decide (c = 45)
def mE (c : Int) : Bool := decide (c = 101) || decide (c = 69)
/-- The first byte, or 0. -/
def hb : Bt → Int
  | [] => 0
  | c :: _ => (c.toNat : Int)
@[simp] theorem hb_nil : hb [] = 0 := rfl
@[simp] theorem hb_cons (c : UInt8) (w : Bt) : hb (c :: w) = (c.toNat : Int) := rfl
def escS (w : Bt) : Bool := decide (hb w = 92) && decide (hb w.tail ≠ 10)
def nameS (w : Bt) : Bool := if hb w ≠ 45 then mN0 (hb w) || escS w else mN0 (hb w.tail) || (decide (hb w.tail = 45) || escS w.tail)
def nameG (w : Bt) : Bool := mN (hb w) || escS w
def fracS (w : Bt) : Bool := decide (hb w = 46) && mD (hb w.tail)
def numS (w : Bt) : Bool := if mSg (hb w) then mD (hb w.tail) || fracS w.tail else mD (hb w) || fracS w
def digS (w : Bt) : Bool := if mSg (hb w) then mD (hb w.tail) else mD (hb w)
def nSp : Bt → Nat
  | [] => 0
  | c :: w => if mSp (c.toNat : Int) then nSp w + 1 else 0

/-! ### Escapes -/
def hexM (c : Int) : Int × Bool := if mD c then (c - 48, true) else if 97 ≤ c ∧ c ≤ 102 then (c - 87, true) else if 65 ≤ c ∧ c ≤ 70 then (c - 55, true) else (0, false)
def hexRun : Nat → Bt → Int → Int × Nat
  | 0, _, a => (a, 0)
  | k + 1, w, a => if (hexM (hb w)).2 then ((hexRun k w.tail (a * 16 + (hexM (hb w)).1)).1, (hexRun k w.tail (a * 16 + (hexM (hb w)).1)).2 + 1) else (a, 0)
abbrev b8 (n : Int) : UInt8 := UInt8.ofNat n.toNat
/-- A code point as bytes. -/
def utfM (c : Int) : Bt :=
  if c ≤ 127 then [b8 c]
  else if c ≤ 2047 then [b8 (192 + c / 64), b8 (128 + c % 64)]
  else if 55296 ≤ c ∧ c ≤ 57343 ∨ 1114111 < c then [b8 239, b8 191, b8 189]
  else if c ≤ 65535 then [b8 (224 + c / 4096), b8 (128 + c / 64 % 64), b8 (128 + c % 64)]
  else [b8 (240 + c / 262144), b8 (128 + c / 4096 % 64), b8 (128 + c / 64 % 64), b8 (128 + c % 64)]
/-- What an escape stands for, and how many bytes it has behind its backslash. -/
def escH (c : UInt8) (w : Bt) : Bt × Nat :=
  if (hexM (c.toNat : Int)).2 then
    (utfM (if (hexRun 6 (c :: w) 0).1 = 0 then 65533 else (hexRun 6 (c :: w) 0).1), (hexRun 6 (c :: w) 0).2 + (if mSp (hb ((c :: w).drop (hexRun 6 (c :: w) 0).2)) then 1 else 0))
  else ([c], 1)
def escM : Bt → Bt × Nat
  | [] => (utfM 65533, 0)
  | c :: w => escH c w

/-! ### Names, strings, urls -/
def nameM : Bt → Bt × Nat
  | [] => ([], 0)
  | c :: w =>
    if nameG (c :: w) then
      if (c.toNat : Int) = 92 then
        ((escM w).1 ++ (nameM (w.drop (escM w).2)).1, 1 + (escM w).2 + (nameM (w.drop (escM w).2)).2)
      else (c :: (nameM w).1, 1 + (nameM w).2)
    else ([], 0)
termination_by w => w.length
decreasing_by all_goals (simp only [List.length_drop, List.length_cons]; omega)
/-- A string behind its mark: whether it is good, its text, its bytes. -/
def strM (q : Int) : Bt → Bool × Bt × Nat
  | [] => (true, [], 0)
  | c :: w =>
    if (c.toNat : Int) = q then (true, [], 1)
    else if (c.toNat : Int) = 10 then (false, [], 0)
    else if (c.toNat : Int) ≠ 92 then ((strM q w).1, c :: (strM q w).2.1, 1 + (strM q w).2.2)
    else match w with
      | [] => (true, [], 1)
      | d :: v => if (d.toNat : Int) = 10 then ((strM q v).1, (strM q v).2.1, 2 + (strM q v).2.2)
        else ((strM q ((d :: v).drop (escM (d :: v)).2)).1, (escM (d :: v)).1 ++ (strM q ((d :: v).drop (escM (d :: v)).2)).2.1, 1 + (escM (d :: v)).2 + (strM q ((d :: v).drop (escM (d :: v)).2)).2.2)
termination_by w => w.length
decreasing_by all_goals (simp only [List.length_drop, List.length_cons]; omega)
def badM : Bt → Nat
  | [] => 0
  | c :: w =>
    if (c.toNat : Int) = 41 then 1
    else if escS (c :: w) then 1 + (escM w).2 + badM (w.drop (escM w).2)
    else 1 + badM w
termination_by w => w.length
decreasing_by all_goals (simp only [List.length_drop, List.length_cons]; omega)
def spoils (c : Int) : Bool := decide (c = 34) || decide (c = 39) || decide (c = 40) || decide (c = 92) || decide (c = 11) || decide (c = 127) || decide (c ≤ 8) || (decide (14 ≤ c) && decide (c ≤ 31))
/-- A url behind its spaces: its text, and its bytes up to where it ends, or is bad. -/
def urlM : Bt → Bt × Nat
  | [] => ([], 0)
  | c :: w =>
    if (c.toNat : Int) = 41 then ([], 0)
    else if mSp (c.toNat : Int) then ([], nSp (c :: w))
    else if escS (c :: w) then ((escM w).1 ++ (urlM (w.drop (escM w).2)).1, 1 + (escM w).2 + (urlM (w.drop (escM w).2)).2)
    else if spoils (c.toNat : Int) then ([], 0)
    else (c :: (urlM w).1, 1 + (urlM w).2)
termination_by w => w.length
decreasing_by all_goals (simp only [List.length_drop, List.length_cons]; omega)
def tk (k : Int) (t : Bt := []) (n : Int := 0) (u : Bt := []) (f : Bool := false) : Tok := ⟨k, t, n, u, f⟩
/-- A url behind its parenthesis. -/
def readUrlM (w : Bt) : Tok × Nat :=
  let a := nSp w
  let u := urlM (w.drop a)
  let v := w.drop (a + u.2)
  if v = [] then (tk 7 u.1, a + u.2) else if hb v = 41 then (tk 7 u.1, a + u.2 + 1) else (tk 8, a + u.2 + badM v)
def low (c : Int) : Int := if 65 ≤ c ∧ c ≤ 90 then c + 32 else c
def alikeM : Bt → Bt → Bool
  | [], [] => true
  | a :: x, b :: y => decide (low (a.toNat : Int) = low (b.toNat : Int)) && alikeM x y
  | _, _ => false
def namedM (w : Bt) : Tok × Nat :=
  let r := nameM w
  let v := w.drop r.2
  if hb v ≠ 40 then (tk 1 r.1, r.2)
  else if alikeM r.1 [117, 114, 108] && !mQ (hb (v.tail.drop (nSp v.tail))) then ((readUrlM v.tail).1, r.2 + 1 + (readUrlM v.tail).2)
  else (tk 2 r.1, r.2 + 1)

/-! ### Numbers -/
def digs (w : Bt) : Bt := w.takeWhile fun c => mD (c.toNat : Int)
def wholeF (a : Int) (c : UInt8) : Int := min (10 * a + ((c.toNat : Int) - 48)) 8000
def wholeM (w : Bt) : Int := w.foldl wholeF 0
def zeros0 (w : Bt) : Bt := w.dropWhile fun c => c == 48
/-- The first k digits as a number, zeros behind the last. -/
def firstM : Nat → Bt → Int → Int
  | 0, _, a => a
  | k + 1, [], a => firstM k [] (a * 10)
  | k + 1, c :: w, a => firstM k w (a * 10 + ((c.toNat : Int) - 48))
def cutM (w : Bt) (p : Int) : Int :=
  let v := zeros0 w
  let q := p - ((w.length : Int) - (v.length : Int))
  if v = [] ∨ q ≤ 0 then 0 else if 13 < q then 1000000000000 else min (firstM q.toNat v 0) 1000000000000
/-- The exponent of a number: its value, and its bytes. -/
def expM (w : Bt) : Int × Nat :=
  if mE (hb w) && digS w.tail then
    let v := if mSg (hb w.tail) then w.tail.tail else w.tail
    (if hb w.tail = 45 then 0 - wholeM (digs v) else wholeM (digs v), (if mSg (hb w.tail) then 2 else 1) + (digs v).length)
  else (0, 0)
def signN (w : Bt) : Nat := if mSg (hb w) then 1 else 0
def wholeD (w : Bt) : Bt := digs (w.drop (signN w))
def behindW (w : Bt) : Nat := signN w + (wholeD w).length
def fracD (w : Bt) : Bt := if fracS (w.drop (behindW w)) then digs (w.drop (behindW w)).tail else []
def behindF (w : Bt) : Nat := behindW w + (if fracS (w.drop (behindW w)) then 1 + (fracD w).length else 0)
def behindE (w : Bt) : Nat := behindF w + (expM (w.drop (behindF w))).2
def numM (w : Bt) : Int × Bool × Nat :=
  let n := cutM (wholeD w ++ fracD w) ((wholeD w).length + (expM (w.drop (behindF w))).1 + 3)
  (if hb w = 45 then 0 - n else n, !(fracS (w.drop (behindW w))) && decide ((expM (w.drop (behindF w))).2 = 0), behindE w)
def numericM (w : Bt) : Tok × Nat :=
  let r := numM w
  let v := w.drop r.2.2
  if nameS v then (tk 12 [] r.1 (nameM v).1 r.2.1, r.2.2 + (nameM v).2)
  else if hb v = 37 then (tk 11 [] r.1, r.2.2 + 1)
  else (tk 10 [] r.1 [] r.2.1, r.2.2)

/-! ### Tokens -/
def marksA : List Int := [0, 0, 0, 0, 0, 0, 0, 0, 0, 0, 0, 0, 0, 0, 0, 0, 0, 0, 0, 0, 0, 0, 0, 0, 0, 0, 0, 0, 0, 0, 0, 0, 0, 0, 0, 0, 0, 0, 0, 0, 21, 22, 0, 0, 18, 0, 0, 0, 0, 0, 0, 0, 0, 0, 0, 0, 0, 0, 16, 17, 0, 0, 0, 0, 0, 0, 0, 0, 0, 0, 0, 0, 0, 0, 0, 0, 0, 0, 0, 0, 0, 0, 0, 0, 0, 0, 0, 0, 0, 0, 0, 19, 0, 20, 0, 0, 0, 0, 0, 0, 0, 0, 0, 0, 0, 0, 0, 0, 0, 0, 0, 0, 0, 0, 0, 0, 0, 0, 0, 0, 0, 0, 0, 23, 0, 24]
def markM (c : Int) : Int := if c < 126 then marksA.getD c.toNat 0 else 0
def tok5 (w : Bt) : Tok × Nat :=
  if nameS w then namedM w
  else if markM (hb w) ≠ 0 then (tk (markM (hb w)), 1)
  else (tk 9 (w.take 1), 1)
def tok4 (w : Bt) : Tok × Nat :=
  if hb w = 64 ∧ nameS w.tail = true then (tk 3 (nameM w.tail).1, 1 + (nameM w.tail).2) else tok5 w
def tok2 (w : Bt) : Tok × Nat :=
  if numS w then numericM w
  else if [45, 45, 62].isPrefixOf w then (tk 15, 3)
  else if [60, 33, 45, 45].isPrefixOf w then (tk 14, 4)
  else tok4 w
def tokM (w : Bt) : Tok × Nat :=
  if mSp (hb w) then (tk 13, nSp w)
  else if mQ (hb w) then (if (strM (hb w) w.tail).1 then tk 5 (strM (hb w) w.tail).2.1 else tk 6, 1 + (strM (hb w) w.tail).2.2)
  else if hb w = 35 ∧ nameG w.tail = true then (tk 4 (nameM w.tail).1 0 [] (nameS w.tail), 1 + (nameM w.tail).2)
  else tok2 w
/-- Where a comment's end begins. -/
def closM : Bt → Option Nat
  | [] => none
  | c :: w => if c = 42 ∧ hb w = 47 then some 0 else (closM w).map (· + 1)
def comM (w : Bt) : Nat :=
  if [47, 42].isPrefixOf w then
    match closM (w.drop 2) with
    | none => w.length
    | some k => if w = [] then 0 else 2 + (k + 2) + comM (w.drop (2 + (k + 2)))
  else 0
termination_by w.length
decreasing_by
  cases w with
  | nil => contradiction
  | cons c w => simp only [List.length_drop, List.length_cons]; omega
def cleanM : Bt → Bt
  | [] => []
  | c :: w =>
    if (c.toNat : Int) = 0 then [239, 191, 189] ++ cleanM w
    else if (c.toNat : Int) = 12 then 10 :: cleanM w
    else if (c.toNat : Int) = 13 then (if hb w = 10 then cleanM w else 10 :: cleanM w)
    else c :: cleanM w
/-- The tokens with their spans, of a clean text behind its first comments. -/
def tksM : Nat → Bt → Nat → List (Tok × Nat × Nat)
  | 0, _, _ => []
  | _ + 1, [], _ => []
  | f + 1, c :: w, p => ((tokM (c :: w)).1, p, p + (tokM (c :: w)).2) :: tksM f ((c :: w).drop ((tokM (c :: w)).2 + comM ((c :: w).drop (tokM (c :: w)).2))) (p + (tokM (c :: w)).2 + comM ((c :: w).drop (tokM (c :: w)).2))
def allM (c : Bt) : List (Tok × Nat × Nat) := tksM c.length (c.drop (comM c)) (comM c)
end Go.Proofs.YtkmgbibhkilffaaGreatDoor

namespace Go.Proofs.YtkmgbibhkilffaaGreatDoor
open Go.Vm Go.Sx Go.RowKit

/-! ### Places -/
abbrev okP (s : Bt) (i : Int) : Prop := 0 ≤ i ∧ i ≤ 2000000 ∧ s.length ≤ 1000000
theorem I64b {n : Int} (h : -100000000 ≤ n ∧ n ≤ 100000000) : I64 n := by unfold I64; omega
theorem hb_getD (s : Bt) (n : Nat) : hb (s.drop n) = ((s.getD n 0).toNat : Int) := by
  rw [List.getD_eq_getElem?_getD]
  by_cases h : n < s.length
  · rw [List.drop_eq_getElem_cons h, hb_cons, List.getElem?_eq_getElem h, Option.getD_some]
  · rw [List.drop_of_length_le (by omega), hb_nil, List.getElem?_eq_none (by omega)]
    rfl
theorem dropS {s : Bt} {i : Int} (h : 0 ≤ i) : s.drop (i + 1).toNat = (s.drop i.toNat).tail := by
  have : (i + 1).toNat = i.toNat + 1 := by omega
  rw [this, List.tail_drop]
theorem dropN {s : Bt} {i : Int} (h : 0 ≤ i) (n : Nat) : s.drop (i + (n : Int)).toNat = (s.drop i.toNat).drop n := by
  have : (i + (n : Int)).toNat = i.toNat + n := by omega
  rw [this, List.drop_drop]
theorem hb_in (w : Bt) : 0 ≤ hb w ∧ hb w ≤ 255 := by
  cases w with
  | nil => decide
  | cons c w => have := c.toNat_lt; rw [hb_cons]; omega
theorem drop_cons {s w : Bt} {c : UInt8} {i : Int} (h0 : 0 ≤ i) (h : s.drop i.toNat = c :: w) : i < (s.length : Int) ∧ s.getD i.toNat 0 = c ∧ s.drop (i + 1).toNat = w ∧ (w.length : Int) = s.length - i - 1 := by
  have hl : i.toNat < s.length := by
    by_cases q : i.toNat < s.length
    · exact q
    · rw [List.drop_of_length_le (by omega)] at h; cases h
  have e := List.drop_eq_getElem_cons hl
  rw [h] at e
  obtain ⟨e1, e2⟩ := List.cons.inj e
  have e3 := congrArg List.length e2
  rw [List.length_drop] at e3
  refine ⟨by omega, ?_, ?_, by omega⟩
  · rw [List.getD_eq_getElem?_getD, List.getElem?_eq_getElem hl, Option.getD_some, e1]
  · rw [dropS h0, h]; rfl
theorem drop_nil {s : Bt} {i : Int} (h : s.drop i.toNat = []) : s.length ≤ i.toNat := by
  have := congrArg List.length h
  rw [List.length_drop, List.length_nil] at this
  omega
theorem u8id (c : UInt8) : UInt8.ofNat ((c.toNat : Int).toNat) = c := by
  rw [Int.toNat_natCast]
  exact UInt8.ofNat_toNat
theorem u8in (c : UInt8) : 0 ≤ (c.toNat : Int) ∧ (c.toNat : Int) ≤ 255 := by have := c.toNat_lt; omega

/-! ### Bytes -/
def s_byteAt : T_k_byteAt := fun s i K => 0 ≤ i ∧ K (hb (s.drop i.toNat))
theorem p_byteAt (s i K) (h : s_byteAt s i K) : F_k_byteAt s i K := by
  obtain ⟨h0, h⟩ := h
  unfold F_k_byteAt
  refine ⟨fun q => ⟨⟨h0, of_decide_eq_true q⟩, ?_⟩, fun q => ?_⟩
  · rwa [hb_getD] at h
  · have q := of_decide_eq_false q
    rwa [List.drop_of_length_le (by omega)] at h
def s_isD : T_c_IsDigit := fun c K => K (mD c)
theorem p_isD (c K) (h : s_isD c K) : F_c_IsDigit c K := by
  unfold F_c_IsDigit
  unfold s_isD mD at h
  refine ⟨fun q => ?_, fun q => ?_⟩ <;> rw [q] at h <;> exact h
def s_isSign : T_k_isSign := fun c K => K (mSg c)
theorem p_isSign (c K) (h : s_isSign c K) : F_k_isSign c K := by
  unfold F_k_isSign
  unfold s_isSign mSg at h
  refine ⟨fun q => ?_, fun q => ?_⟩ <;> rw [q] at h <;> exact h
def s_isExp : T_k_isExponentMark := fun c K => K (mE c)
theorem p_isExp (c K) (h : s_isExp c K) : F_k_isExponentMark c K := by
  unfold F_k_isExponentMark
  unfold s_isExp mE at h
  refine ⟨fun q => ?_, fun q => ?_⟩ <;> rw [q] at h <;> exact h
def s_isL : T_c_IsLetter := fun c K => K (mL c)
theorem p_isL (c K) (h : s_isL c K) : F_c_IsLetter c K := by
  unfold F_c_IsLetter
  unfold s_isL mL at h
  refine ⟨fun q => ⟨fun q2 => ⟨fun q3 => ?_, fun q3 => ?_⟩, fun q2 => ?_⟩, fun q => ⟨fun q3 => ?_, fun q3 => ?_⟩⟩ <;> simpa only [*, Bool.true_and, Bool.false_and, Bool.true_or, Bool.false_or, Bool.and_true, Bool.and_false, Bool.or_false, Bool.or_true] using h
def s_starts : T_c_StartsName := fun c K => K (mN0 c)
theorem p_starts (c K) (h : s_starts c K) : F_c_StartsName s_isL c K := by
  unfold F_c_StartsName s_isL
  unfold s_starts mN0 at h
  refine ⟨fun q => ⟨fun q2 => ?_, fun q2 => ?_⟩, fun q => ?_⟩ <;> simpa only [*, Bool.true_or, Bool.false_or] using h
def s_isN : T_c_IsOfName := fun c K => K (mN c)
theorem p_isN (c K) (h : s_isN c K) : F_c_IsOfName s_starts s_isD c K := by
  unfold F_c_IsOfName s_starts s_isD
  unfold s_isN mN at h
  refine ⟨fun q => ⟨fun q2 => ?_, fun q2 => ?_⟩, fun q => ?_⟩ <;> simpa only [*, Bool.true_or, Bool.false_or] using h
def s_isSp : T_c_IsSpace := fun c K => K (mSp c)
theorem p_isSp (c K) (h : s_isSp c K) : F_c_IsSpace c K := by
  unfold F_c_IsSpace
  unfold s_isSp mSp at h
  refine ⟨fun q => ⟨fun q2 => ?_, fun q2 => ?_⟩, fun q => ?_⟩ <;> simpa only [*, Bool.true_or, Bool.false_or] using h
def s_isQ : T_c_IsQuote := fun c K => K (mQ c)
theorem p_isQ (c K) (h : s_isQ c K) : F_c_IsQuote c K := by
  unfold F_c_IsQuote
  unfold s_isQ mQ at h
  refine ⟨fun q => ?_, fun q => ?_⟩ <;> simpa only [*, Bool.true_or, Bool.false_or] using h

/-! ### What starts where -/
def s_frac : T_k_fSt := fun s i K => okP s i ∧ K (fracS (s.drop i.toNat))
theorem p_frac (s i K) (h : s_frac s i K) : F_k_fSt s_byteAt s_isD s i K := by
  obtain ⟨⟨h0, h1, h2⟩, h⟩ := h
  unfold fracS at h
  unfold F_k_fSt s_byteAt s_isD
  rw [dropS h0]
  refine ⟨h0, fun q => ⟨I64b (by omega), by omega, ?_⟩, fun q => ?_⟩ <;> simpa only [q, Bool.true_and, Bool.false_and] using h
def s_esS : T_k_eSt := fun s i K => okP s i ∧ K (escS (s.drop i.toNat))
theorem p_esS (s i K) (h : s_esS s i K) : F_k_eSt s_byteAt s i K := by
  obtain ⟨⟨h0, h1, h2⟩, h⟩ := h
  unfold escS at h
  unfold F_k_eSt s_byteAt
  rw [dropS h0]
  refine ⟨h0, fun q => ⟨I64b (by omega), by omega, ?_⟩, fun q => ?_⟩ <;> simpa only [q, Bool.true_and, Bool.false_and] using h
def s_numS : T_k_nSt := fun s i K => (okP s i ∧ i < 2000000) ∧ K (numS (s.drop i.toNat))
theorem p_numS (s i K) (h : s_numS s i K) : F_k_nSt s_byteAt s_isSign s_isD s_frac s i K := by
  obtain ⟨⟨⟨h0, h1, h2⟩, h3⟩, h⟩ := h
  unfold numS at h
  unfold F_k_nSt s_byteAt s_isD s_isSign s_frac
  rw [dropS h0]
  refine ⟨h0, fun q => ⟨I64b (by omega), by omega, ?_⟩, fun q => ⟨h0, ?_⟩⟩
  · simp only [q, if_true] at h
    refine ⟨fun q2 => ⟨⟨by omega, by omega, h2⟩, ?_⟩, fun q2 => ?_⟩ <;> simpa only [q2, Bool.true_or, Bool.false_or] using h
  · simp only [q, Bool.false_eq_true, if_false] at h
    refine ⟨fun q2 => ⟨⟨by omega, by omega, h2⟩, ?_⟩, fun q2 => ?_⟩ <;> simpa only [q2, Bool.true_or, Bool.false_or] using h
def s_digS : T_k_digitStarts := fun s i K => okP s i ∧ K (digS (s.drop i.toNat))
theorem p_digS (s i K) (h : s_digS s i K) : F_k_digitStarts s_byteAt s_isSign s_isD s i K := by
  obtain ⟨⟨h0, h1, h2⟩, h⟩ := h
  unfold digS at h
  unfold F_k_digitStarts s_byteAt s_isD s_isSign
  rw [dropS h0]
  refine ⟨h0, fun q => ⟨I64b (by omega), by omega, ?_⟩, fun q => ⟨h0, ?_⟩⟩ <;> simpa [q] using h
def s_nameS : T_k_nameStarts := fun s i K => (okP s i ∧ i < 2000000) ∧ K (nameS (s.drop i.toNat))
theorem p_nameS (s i K) (h : s_nameS s i K) : F_k_nameStarts s_byteAt s_starts s_esS s i K := by
  obtain ⟨⟨⟨h0, h1, h2⟩, h3⟩, h⟩ := h
  unfold nameS at h
  unfold F_k_nameStarts s_byteAt s_starts s_esS
  rw [dropS h0]
  refine ⟨h0, fun q => ⟨h0, fun q2 => ⟨⟨h0, h1, h2⟩, ?_⟩, fun q2 => ?_⟩, fun q => ⟨I64b (by omega), by omega, fun q2 => ⟨fun q3 => ⟨I64b (by omega), ⟨by omega, by omega, h2⟩, ?_⟩, fun q3 => ?_⟩, fun q2 => ?_⟩⟩
  · rw [if_pos (of_decide_eq_true q), q2] at h; exact h
  · rw [if_pos (of_decide_eq_true q), q2] at h; exact h
  · rw [if_neg (of_decide_eq_false q), q2, q3] at h; exact h
  · rw [if_neg (of_decide_eq_false q), q2, q3] at h; exact h
  · rw [if_neg (of_decide_eq_false q), q2] at h; exact h
def s_nameG : T_k_nGO := fun s i K => okP s i ∧ K (nameG (s.drop i.toNat))
theorem p_nameG (s i K) (h : s_nameG s i K) : F_k_nGO s_byteAt s_isN s_esS s i K := by
  obtain ⟨⟨h0, h1, h2⟩, h⟩ := h
  unfold nameG at h
  unfold F_k_nGO s_byteAt s_isN s_esS
  refine ⟨h0, fun q => ⟨⟨h0, h1, h2⟩, ?_⟩, fun q => ?_⟩ <;> simpa only [q, Bool.true_or, Bool.false_or] using h

/-! ### Spaces -/
theorem p_spL (s : Bt) (hs : s.length ≤ 1000000) (Ke : Int → Prop) : ∀ (w : Bt) (i : Int), s.drop i.toNat = w → okP s i → Ke (i + (nSp w : Int)) → ∃ m, F_k_bSp_l1 s_byteAt s_isSp m s i Ke
  | [], i, hd, hi, h => by
    refine ⟨1, hi.1, fun q => ?_, fun _ => ?_⟩
    · rw [hd] at q; exact absurd q (by decide)
    · simpa [nSp] using h
  | c :: w, i, hd, hi, h => by
    obtain ⟨hl, hc, hn, _⟩ := drop_cons hi.1 hd
    cases q : mSp (c.toNat : Int) with
    | false =>
      unfold nSp at h
      rw [q] at h
      refine ⟨1, hi.1, fun q2 => ?_, fun _ => ?_⟩
      · rw [hd, hb_cons, q] at q2; cases q2
      · simpa using h
    | true =>
      unfold nSp at h
      rw [q] at h
      obtain ⟨m, hm⟩ := p_spL s hs Ke w (i + 1) hn ⟨by omega, by omega, hs⟩ (by
        have : i + 1 + (nSp w : Int) = i + ((nSp w + 1 : Nat) : Int) := by omega
        rw [this]
        simpa using h)
      refine ⟨m + 1, hi.1, fun _ => ⟨I64b (by omega), hm⟩, fun q2 => ?_⟩
      rw [hd, hb_cons, q] at q2; cases q2
def s_sp : T_k_bSp := fun s i K => okP s i ∧ K (i + (nSp (s.drop i.toNat) : Int))
theorem p_sp (s i K) (h : s_sp s i K) : F_k_bSp s_byteAt s_isSp s i K := p_spL s h.1.2.2 _ _ _ rfl h.1 h.2
end Go.Proofs.YtkmgbibhkilffaaGreatDoor

namespace Go.Proofs.YtkmgbibhkilffaaGreatDoor
open Go.Vm Go.Sx Go.RowKit

/-! ### Code points as bytes -/
theorem fd6 (x : Int) : x.fdiv (2 ^ (min 6 IntKind.i32.bits)) = x / 64 := Int.fdiv_eq_ediv_of_nonneg _ (by decide)
theorem fd12 (x : Int) : x.fdiv (2 ^ (min 12 IntKind.i32.bits)) = x / 4096 := Int.fdiv_eq_ediv_of_nonneg _ (by decide)
theorem fd18 (x : Int) : x.fdiv (2 ^ (min 18 IntKind.i32.bits)) = x / 262144 := Int.fdiv_eq_ediv_of_nonneg _ (by decide)
theorem or128F : ∀ y : Fin 256, IntKind.u8.wrap ((bv8 (128 : Int) ||| bv8 (IntKind.u8.wrap ((bv8 ((y.val : Nat) : Int) &&& bv8 (63 : Int)).toNat : Int))).toNat : Int) = 128 + (((y.val : Nat) : Int)) % 64 := by decide +kernel
theorem or128 (y : Int) : IntKind.u8.wrap ((bv8 (128 : Int) ||| bv8 (IntKind.u8.wrap ((bv8 (IntKind.u8.wrap y) &&& bv8 (63 : Int)).toNat : Int))).toNat : Int) = 128 + y % 64 := by
  have h := or128F ⟨(y % 256).toNat, by omega⟩
  have e : (((y % 256).toNat : Nat) : Int) = IntKind.u8.wrap y := by rw [IntKind.wrap_u8]; omega
  rw [e] at h
  rw [h, IntKind.wrap_u8]
  omega
theorem or192F : ∀ y : Fin 32, IntKind.u8.wrap ((bv8 (192 : Int) ||| bv8 (IntKind.u8.wrap ((y.val : Nat) : Int))).toNat : Int) = 192 + ((y.val : Nat) : Int) := by decide +kernel
theorem or224F : ∀ y : Fin 16, IntKind.u8.wrap ((bv8 (224 : Int) ||| bv8 (IntKind.u8.wrap ((y.val : Nat) : Int))).toNat : Int) = 224 + ((y.val : Nat) : Int) := by decide +kernel
theorem or240F : ∀ y : Fin 8, IntKind.u8.wrap ((bv8 (240 : Int) ||| bv8 (IntKind.u8.wrap ((y.val : Nat) : Int))).toNat : Int) = 240 + ((y.val : Nat) : Int) := by decide +kernel
theorem or192 {y : Int} (h0 : 0 ≤ y) (h1 : y < 32) : IntKind.u8.wrap ((bv8 (192 : Int) ||| bv8 (IntKind.u8.wrap y)).toNat : Int) = 192 + y := by
  have h := or192F ⟨y.toNat, by omega⟩
  rwa [show ((y.toNat : Nat) : Int) = y by omega] at h
theorem or224 {y : Int} (h0 : 0 ≤ y) (h1 : y < 16) : IntKind.u8.wrap ((bv8 (224 : Int) ||| bv8 (IntKind.u8.wrap y)).toNat : Int) = 224 + y := by
  have h := or224F ⟨y.toNat, by omega⟩
  rwa [show ((y.toNat : Nat) : Int) = y by omega] at h
theorem or240 {y : Int} (h0 : 0 ≤ y) (h1 : y < 8) : IntKind.u8.wrap ((bv8 (240 : Int) ||| bv8 (IntKind.u8.wrap y)).toNat : Int) = 240 + y := by
  have h := or240F ⟨y.toNat, by omega⟩
  rwa [show ((y.toNat : Nat) : Int) = y by omega] at h
theorem u32w {x : Int} (h0 : 0 ≤ x) (h1 : x ≤ 16777215) : IntKind.u32.wrap x = x := by rw [IntKind.wrap_u32]; omega
theorem u8w {n : Int} (h0 : 0 ≤ n) (h1 : n ≤ 255) : IntKind.u8.wrap n = n := by rw [IntKind.wrap_u8]; omega

theorem utfM_len (c : Int) : (utfM c).length ≤ 4 := by
  unfold utfM
  split
  · simp
  · split
    · simp
    · split
      · simp
      · split <;> simp
theorem utf1 {c : Int} (h : c ≤ 127) : utfM c = [b8 c] := by unfold utfM; rw [if_pos h]
theorem utf2 {c : Int} (h : ¬ c ≤ 127) (h2 : c ≤ 2047) : utfM c = [b8 (192 + c / 64), b8 (128 + c % 64)] := by unfold utfM; rw [if_neg h, if_pos h2]
theorem utfX {c : Int} (h : ¬ c ≤ 127) (h2 : ¬ c ≤ 2047) (h3 : 55296 ≤ c ∧ c ≤ 57343 ∨ 1114111 < c) : utfM c = [b8 239, b8 191, b8 189] := by unfold utfM; rw [if_neg h, if_neg h2, if_pos h3]
theorem utf3 {c : Int} (h : ¬ c ≤ 127) (h2 : ¬ c ≤ 2047) (h3 : ¬ (55296 ≤ c ∧ c ≤ 57343 ∨ 1114111 < c)) (h4 : c ≤ 65535) : utfM c = [b8 (224 + c / 4096), b8 (128 + c / 64 % 64), b8 (128 + c % 64)] := by unfold utfM; rw [if_neg h, if_neg h2, if_neg h3, if_pos h4]
theorem utf4 {c : Int} (h : ¬ c ≤ 127) (h2 : ¬ c ≤ 2047) (h3 : ¬ (55296 ≤ c ∧ c ≤ 57343 ∨ 1114111 < c)) (h4 : ¬ c ≤ 65535) : utfM c = [b8 (240 + c / 262144), b8 (128 + c / 4096 % 64), b8 (128 + c / 64 % 64), b8 (128 + c % 64)] := by unfold utfM; rw [if_neg h, if_neg h2, if_neg h3, if_neg h4]

/-! ### Hex digits -/
def s_hex : T_k_hexDigit := fun c K => (0 ≤ c ∧ c ≤ 255) ∧ K (hexM c).1 (hexM c).2
theorem p_hex (c K) (h : s_hex c K) : F_k_hexDigit s_isD c K := by
  obtain ⟨⟨h0, h1⟩, h⟩ := h
  unfold F_k_hexDigit s_isD
  unfold hexM at h
  have i32 : ∀ n : Int, 0 ≤ n ∧ n ≤ 1000 → I32 n := fun n h => by unfold I32; omega
  refine ⟨fun q => ?_, fun q => ?_⟩
  · rw [if_pos q] at h
    unfold mD at q
    simp only [Bool.and_eq_true, decide_eq_true_eq] at q
    rw [u8w (by omega) (by omega)]
    exact ⟨i32 _ (by omega), h⟩
  · rw [if_neg (by rw [q]; decide)] at h
    simp only [decide_eq_true_eq, decide_eq_false_iff_not]
    have e97 : ∀ n : Int, n - 97 + 10 = n - 87 := fun n => by omega
    have e65 : ∀ n : Int, n - 65 + 10 = n - 55 := fun n => by omega
    refine ⟨fun q1 => ⟨fun q2 => ?_, fun q2 => ⟨fun q3 => ⟨fun q4 => ?_, fun q4 => ?_⟩, fun q3 => ?_⟩⟩, fun q1 => ⟨fun q3 => ⟨fun q4 => ?_, fun q4 => ?_⟩, fun q3 => ?_⟩⟩
    · rw [if_pos ⟨q1, q2⟩] at h
      rw [u8w (by omega) (by omega), e97]
      exact ⟨i32 _ (by omega), i32 _ (by omega), h⟩
    · exfalso; omega
    · rw [if_neg (by omega), if_neg (by omega)] at h; exact h
    · exfalso; omega
    · rw [if_neg (by omega), if_pos ⟨q3, q4⟩] at h
      rw [u8w (by omega) (by omega), e65]
      exact ⟨i32 _ (by omega), i32 _ (by omega), h⟩
    · rw [if_neg (by omega), if_neg (by omega)] at h; exact h
    · rw [if_neg (by omega), if_neg (by omega)] at h; exact h
theorem hexM_in {c : Int} (h : (hexM c).2 = true) : 0 ≤ (hexM c).1 ∧ (hexM c).1 ≤ 15 := by
  unfold hexM mD at h ⊢
  simp only [Bool.and_eq_true, decide_eq_true_eq] at h ⊢
  split
  · simp only; omega
  · split
    · simp only; omega
    · split
      · simp only; omega
      · rename_i h1 h2 h3; rw [if_neg h1, if_neg h2, if_neg h3] at h; cases h
theorem shl4 {a d : Int} (h0 : 0 ≤ a) (h1 : a < 1048576) (h2 : 0 ≤ d) (h3 : d ≤ 15) : IntKind.i32.wrap ((BitVec.ofInt IntKind.i32.bits (IntKind.i32.wrap (a * 2 ^ (min 4 IntKind.i32.bits))) ||| BitVec.ofInt IntKind.i32.bits d).toNat : Int) = a * 16 + d := by
  obtain ⟨x, rfl⟩ := Int.eq_ofNat_of_zero_le h0
  obtain ⟨y, rfl⟩ := Int.eq_ofNat_of_zero_le h2
  have e1 : ((x : Int) * 2 ^ (min 4 IntKind.i32.bits)) = ((x * 16 : Nat) : Int) := by
    show (x : Int) * (2 ^ 4) = _
    omega
  have e2 : IntKind.i32.wrap ((x * 16 : Nat) : Int) = ((x * 16 : Nat) : Int) := by rw [IntKind.wrap_i32]; omega
  rw [e1, e2, BitVec.ofInt_natCast, BitVec.ofInt_natCast, BitVec.toNat_or, BitVec.toNat_ofNat, BitVec.toNat_ofNat]
  have e3 : (x * 16) % 2 ^ IntKind.i32.bits = x * 16 := Nat.mod_eq_of_lt (by show _ < 4294967296; omega)
  have e4 : y % 2 ^ IntKind.i32.bits = y := Nat.mod_eq_of_lt (by show _ < 4294967296; omega)
  rw [e3, e4]
  have e5 : x * 16 ||| y = x * 16 + y := by
    have := Nat.two_pow_add_eq_or_of_lt (i := 4) (b := y) (by omega) x
    rw [Nat.mul_comm x 16]
    exact this.symm
  rw [e5, IntKind.wrap_i32]
  omega
theorem pow16 {k n : Nat} (h : k ≤ n) : (16 : Int) ^ k ≤ 16 ^ n := by
  have := Nat.pow_le_pow_right (n := 16) (by decide) h
  exact_mod_cast this
theorem hexRun_len : ∀ (r : Nat) (w : Bt) (a : Int), (hexRun r w a).2 ≤ w.length
  | 0, w, a => Nat.zero_le _
  | r + 1, w, a => by
    unfold hexRun
    split
    · rename_i q
      cases w with
      | nil => exact absurd q (by decide)
      | cons c w => have := hexRun_len r w (a * 16 + (hexM (hb (c :: w))).1); simp only [List.tail_cons, List.length_cons]; omega
    · exact Nat.zero_le _
theorem hexRun_in : ∀ (r : Nat) (w : Bt) (a : Int) (k : Nat), r + k ≤ 6 → 0 ≤ a → a < 16 ^ k → 0 ≤ (hexRun r w a).1 ∧ (hexRun r w a).1 ≤ 16777215
  | 0, w, a, k, hk, h0, h1 => by
    have : (16 : Int) ^ k ≤ 16 ^ 6 := pow16 (by omega)
    exact ⟨h0, by show a ≤ _; have : (16 : Int) ^ 6 = 16777216 := by decide
                  omega⟩
  | r + 1, w, a, k, hk, h0, h1 => by
    unfold hexRun
    split
    · rename_i q
      have hd := hexM_in q
      have e : (16 : Int) ^ (k + 1) = 16 ^ k * 16 := Int.pow_succ _ _
      exact hexRun_in r w.tail _ (k + 1) (by omega) (by omega) (by rw [e]; omega)
    · have : (16 : Int) ^ k ≤ 16 ^ 6 := pow16 (by omega)
      exact ⟨h0, by show a ≤ _; have : (16 : Int) ^ 6 = 16777216 := by decide
                    omega⟩
theorem escM_len (w : Bt) : (escM w).2 ≤ w.length := by
  cases w with
  | nil => exact Nat.le_refl _
  | cons c w =>
    rw [escM, escH]
    split
    · have h := hexRun_len 6 (c :: w) 0
      simp only
      split
      · rename_i q
        cases hd : (c :: w).drop (hexRun 6 (c :: w) 0).2 with
        | nil => rw [hd] at q; exact absurd q (by decide)
        | cons d v =>
          have := congrArg List.length hd
          simp only [List.length_drop, List.length_cons] at this
          simp only [List.length_cons] at h ⊢
          omega
      · omega
    · simp
theorem escM_txt (w : Bt) : (escM w).1.length ≤ 4 := by
  cases w with
  | nil => show (utfM 65533).length ≤ 4; exact utfM_len _
  | cons c w =>
    rw [escM, escH]
    split
    · exact utfM_len _
    · simp

/-! ### Escapes, shape e -/
def s_utf_e : T_uA_e := fun x b K => (0 ≤ x ∧ x ≤ 16777215) ∧ b.length ≤ 10000000 ∧ K (b ++ utfM x)
set_option maxRecDepth 100000 in
theorem p_utf_e (x b K) (h : s_utf_e x b K) : F_uA_e x b K := by
  obtain ⟨⟨h0, h1⟩, hb, h⟩ := h
  have k1 : x ≤ 127 → K (b ++ [b8 x]) := fun q => utf1 q ▸ h
  have k2 : ¬ x ≤ 127 → x ≤ 2047 → K (b ++ [b8 (192 + x / 64), b8 (128 + x % 64)]) := fun q q2 => utf2 q q2 ▸ h
  have kX : ¬ x ≤ 127 → ¬ x ≤ 2047 → (55296 ≤ x ∧ x ≤ 57343 ∨ 1114111 < x) → K (b ++ [b8 239, b8 191, b8 189]) := fun q q2 q3 => utfX q q2 q3 ▸ h
  have k3 : ¬ x ≤ 127 → ¬ x ≤ 2047 → ¬ (55296 ≤ x ∧ x ≤ 57343 ∨ 1114111 < x) → x ≤ 65535 → K (b ++ [b8 (224 + x / 4096), b8 (128 + x / 64 % 64), b8 (128 + x % 64)]) := fun q q2 q3 q4 => utf3 q q2 q3 q4 ▸ h
  have k4 : ¬ x ≤ 127 → ¬ x ≤ 2047 → ¬ (55296 ≤ x ∧ x ≤ 57343 ∨ 1114111 < x) → ¬ x ≤ 65535 → K (b ++ [b8 (240 + x / 262144), b8 (128 + x / 4096 % 64), b8 (128 + x / 64 % 64), b8 (128 + x % 64)]) := fun q q2 q3 q4 => utf4 q q2 q3 q4 ▸ h
  clear h
  unfold F_uA_e
  simp only [u32w h0 h1, or128, fd6, fd12, fd18, decide_eq_true_eq, decide_eq_false_iff_not, List.length_cons, List.length_nil]
  refine ⟨fun q => ?_, fun q => ⟨fun q2 => ?_, fun q2 => ⟨fun q3 => ?_, fun q3 => ⟨fun q4 => ⟨fun q5 => ?_, fun q5 => ⟨fun q6 => ⟨fun q7 => ?_, fun q7 => ?_⟩, fun q6 => ?_⟩⟩, fun q4 => ⟨fun q6 => ⟨fun q7 => ?_, fun q7 => ?_⟩, fun q6 => ?_⟩⟩⟩⟩⟩
  · rw [u8w h0 (by omega)]
    exact ⟨by omega, by omega, k1 q⟩
  · rw [or192 (by omega) (by omega)]
    exact ⟨by decide, by omega, by omega, by omega, k2 q q2⟩
  · rw [or224 (by omega) (by omega)]
    exact ⟨by decide, by decide, by omega, by omega, by omega, by omega, k3 q q2 (by omega) (by omega)⟩
  · rw [or224 (by omega) (by omega)]
    exact ⟨by decide, by decide, by omega, by omega, by omega, by omega, k3 q q2 (by omega) (by omega)⟩
  · rw [or240 (by omega) (by omega)]
    exact ⟨by decide, by decide, by decide, by omega, by omega, by omega, by omega, by omega, k4 q q2 (by omega) (by omega)⟩
  · exact ⟨by decide, by decide, by decide, by omega, kX q q2 (by omega)⟩
  · exfalso; omega
  · exfalso; omega
  · exact ⟨by decide, by decide, by decide, by omega, kX q q2 (by omega)⟩
  · exact ⟨by decide, by decide, by decide, by omega, kX q q2 (by omega)⟩
set_option maxRecDepth 100000 in
theorem p_hexL_e (s : Bt) (hs : s.length ≤ 1000000) (b : Bt) (A : T_uA_e) (Ke : Bt → Int → Int → Bt → Prop) : ∀ (r : Nat) (w : Bt) (i a x : Int) (k : Nat), x = k → r + k = 6 → s.drop i.toNat = w → 0 ≤ i → i + (r : Int) ≤ 1000020 → 0 ≤ a → a < 16 ^ k → Ke s (i + ((hexRun r w a).2 : Int)) (hexRun r w a).1 b → ∃ m, F_aE_e_l9 A s_hex s_byteAt s_isSp m s i a x b Ke
  | 0, w, i, a, x, k, hx, hk, hd, h0, hi, ha0, ha1, h => by
    refine ⟨1, fun q => ?_, fun _ => ?_⟩
    · exfalso; have := of_decide_eq_true q; omega
    · simpa [hexRun] using h
  | r + 1, w, i, a, x, k, hx, hk, hd, h0, hi, ha0, ha1, h => by
    unfold hexRun at h
    cases q : (hexM (hb w)).2 with
    | false =>
      rw [q] at h
      refine ⟨1, fun _ => ⟨h0, hb_in _, fun q2 => ?_, fun q2 => ?_⟩, fun q2 => ?_⟩
      · simpa using h
      · rw [hd, q] at q2; exact absurd q2 (by decide)
      · exfalso; have := of_decide_eq_false q2; omega
    | true =>
      rw [q] at h
      simp only [if_true] at h
      have hdg := hexM_in q
      have e : (16 : Int) ^ (k + 1) = 16 ^ k * 16 := Int.pow_succ _ _
      have e5 : (16 : Int) ^ k ≤ 16 ^ 5 := pow16 (by omega)
      have e6 : (16 : Int) ^ 5 = 1048576 := by decide
      obtain ⟨m, hm⟩ := p_hexL_e s hs b A Ke r w.tail (i + 1) (a * 16 + (hexM (hb w)).1) (x + 1) (k + 1) (by omega) (by omega) (by rw [dropS h0, hd]) (by omega) (by omega) (by omega) (by rw [e]; omega) (by
        have : i + 1 + ((hexRun r w.tail (a * 16 + (hexM (hb w)).1)).2 : Int) = i + (((hexRun r w.tail (a * 16 + (hexM (hb w)).1)).2 + 1 : Nat) : Int) := by omega
        rw [this]; exact h)
      refine ⟨m + 1, fun _ => ⟨h0, hb_in _, fun q2 => ?_, fun _ => ⟨by decide, I64b (by omega), I64b (by omega), ?_⟩⟩, fun q2 => ?_⟩
      · rw [hd, q] at q2; exact absurd q2 (by decide)
      · rw [hd, shl4 ha0 (by omega) hdg.1 hdg.2]
        exact hm
      · exfalso; have := of_decide_eq_false q2; omega
def s_esc_e : T_aE_e := fun s i b K => (0 ≤ i ∧ i < s.length ∧ s.length ≤ 1000000) ∧ b.length ≤ 5000000 ∧ K (i + 1 + ((escM (s.drop (i + 1).toNat)).2 : Int)) (b ++ (escM (s.drop (i + 1).toNat)).1)
theorem p_esc_e (s i b K) (h : s_esc_e s i b K) : F_aE_e s_utf_e s_hex s_byteAt s_isSp s i b K := by
  obtain ⟨⟨h0, h1, h2⟩, hb, h⟩ := h
  refine ⟨I64b (by omega), fun q => ?_, fun q => ?_⟩
  · have q := of_decide_eq_true q
    rw [List.drop_of_length_le (by omega)] at h
    unfold escM at h
    refine ⟨by omega, by omega, ?_⟩
    simpa using h
  · have q := of_decide_eq_false q
    cases hd : s.drop (i + 1).toNat with
    | nil => exfalso; have := drop_nil hd; omega
    | cons c w =>
    obtain ⟨_, hc, _, _⟩ := drop_cons (by omega) hd
    rw [hd, escM, escH] at h
    rw [hc]
    refine ⟨by omega, u8in c, fun q2 => ?_, fun q2 => ?_⟩
    · have q3 : (hexM (c.toNat : Int)).2 = false := by simpa using q2
      rw [q3] at h
      rw [u8id]
      refine ⟨by omega, u8in c, by simp only [List.length_cons, List.length_nil]; omega, I64b (by omega), ?_⟩
      simpa using h
    · have q3 : (hexM (c.toNat : Int)).2 = true := by simpa using q2
      rw [q3] at h
      simp only [if_true] at h
      have hl := hexRun_len 6 (c :: w) 0
      have hin := hexRun_in 6 (c :: w) 0 0 (by omega) (by omega) (by decide)
      have hlw := congrArg List.length hd
      rw [List.length_drop] at hlw
      refine p_hexL_e s h2 b _ _ 6 (c :: w) (i + 1) 0 0 0 rfl rfl hd (by omega) (by omega) (by omega) (by decide) ?_
      have e : s.drop (i + 1 + ((hexRun 6 (c :: w) 0).2 : Int)).toNat = (c :: w).drop (hexRun 6 (c :: w) 0).2 := by rw [dropN (by omega), hd]
      refine ⟨by omega, fun q4 => ⟨I64b (by omega), fun q5 => ?_, fun q5 => ?_⟩, fun q4 => ⟨fun q5 => ?_, fun q5 => ?_⟩⟩
      · rw [e] at q4
        rw [q4, if_pos (of_decide_eq_true q5), if_pos rfl] at h
        refine ⟨by omega, by omega, ?_⟩
        have e2 : i + 1 + ((hexRun 6 (c :: w) 0).2 : Int) + 1 = i + 1 + (((hexRun 6 (c :: w) 0).2 + 1 : Nat) : Int) := by omega
        rw [e2]; exact h
      · rw [e] at q4
        rw [q4, if_neg (of_decide_eq_false q5), if_pos rfl] at h
        refine ⟨hin, by omega, ?_⟩
        have e2 : i + 1 + ((hexRun 6 (c :: w) 0).2 : Int) + 1 = i + 1 + (((hexRun 6 (c :: w) 0).2 + 1 : Nat) : Int) := by omega
        rw [e2]; exact h
      · rw [e] at q4
        rw [q4, if_pos (of_decide_eq_true q5)] at h
        exact ⟨by omega, by omega, by simpa using h⟩
      · rw [e] at q4
        rw [q4, if_neg (of_decide_eq_false q5)] at h
        exact ⟨hin, by omega, by simpa using h⟩

/-! ### Names -/
theorem p_nameL (s : Bt) (hs : s.length ≤ 1000000) (Ke : Int → Bt → Prop) : ∀ (n : Nat) (w : Bt) (i : Int) (b : Bt), w.length ≤ n → s.drop i.toNat = w → okP s i → b.length + 4 * w.length ≤ 4500000 → Ke (i + ((nameM w).2 : Int)) (b ++ (nameM w).1) → ∃ m, F_k_readName_l2 s_nameG s_esc_e m s i b Ke := by
  intro n
  induction n with
  | zero =>
    intro w i b hn hd hi hb h
    cases w with
    | cons c w => simp at hn
    | nil =>
      refine ⟨1, hi, fun q => ?_, fun _ => ?_⟩
      · rw [hd] at q; exact absurd q (by decide)
      · rw [nameM] at h; simpa using h
  | succ n ih =>
    intro w i b hn hd hi hb h
    cases w with
    | nil =>
      refine ⟨1, hi, fun q => ?_, fun _ => ?_⟩
      · rw [hd] at q; exact absurd q (by decide)
      · rw [nameM] at h; simpa using h
    | cons c w =>
    obtain ⟨hl, hc, hnx, hlen⟩ := drop_cons hi.1 hd
    rw [List.length_cons] at hn hb
    rw [nameM] at h
    cases q : nameG (c :: w) with
    | false =>
      rw [q] at h
      refine ⟨1, hi, fun q2 => ?_, fun _ => ?_⟩
      · rw [hd, q] at q2; cases q2
      · simpa using h
    | true =>
      rw [q, if_pos rfl] at h
      by_cases q3 : (c.toNat : Int) = 92
      · rw [if_pos q3] at h
        have he := escM_len w
        have het := escM_txt w
        have hlw : (w.drop (escM w).2).length ≤ n := by rw [List.length_drop]; omega
        obtain ⟨m, hm⟩ := ih (w.drop (escM w).2) (i + 1 + ((escM w).2 : Int)) (b ++ (escM w).1) hlw (by rw [dropN (by omega), hnx]) ⟨by omega, by omega, hs⟩ (by rw [List.length_append, List.length_drop]; omega) (by
          have e : i + 1 + ((escM w).2 : Int) + ((nameM (w.drop (escM w).2)).2 : Int) = i + ((1 + (escM w).2 + (nameM (w.drop (escM w).2)).2 : Nat) : Int) := by omega
          rw [e, List.append_assoc]; exact h)
        refine ⟨m + 1, hi, fun _ => ⟨⟨hi.1, hl⟩, fun _ => ⟨⟨hi.1, hl, hs⟩, by omega, ?_⟩, fun q4 => ?_⟩, fun q2 => ?_⟩
        · rw [hnx]; exact hm
        · exact absurd (by rw [hc]; exact q3) (of_decide_eq_false q4)
        · rw [hd, q] at q2; cases q2
      · rw [if_neg q3] at h
        obtain ⟨m, hm⟩ := ih w (i + 1) (b ++ [c]) (by omega) hnx ⟨by omega, by omega, hs⟩ (by rw [List.length_append]; simp only [List.length_singleton]; omega) (by
          have e : i + 1 + ((nameM w).2 : Int) = i + ((1 + (nameM w).2 : Nat) : Int) := by omega
          rw [e, List.append_assoc]; exact h)
        refine ⟨m + 1, hi, fun _ => ⟨⟨hi.1, hl⟩, fun q4 => ?_, fun _ => ⟨⟨hi.1, hl⟩, ?_⟩⟩, fun q2 => ?_⟩
        · exact absurd (by rw [← hc]; exact of_decide_eq_true q4) q3
        · rw [hc, u8id]
          exact ⟨u8in c, by simp only [List.length_singleton]; omega, I64b (by omega), hm⟩
        · rw [hd, q] at q2; cases q2
def s_name : T_k_readName := fun s i K => okP s i ∧ K (nameM (s.drop i.toNat)).1 (i + ((nameM (s.drop i.toNat)).2 : Int))
theorem p_name (s i K) (h : s_name s i K) : F_k_readName s_nameG s_esc_e s i K := by
  obtain ⟨hi, h⟩ := h
  refine p_nameL s hi.2.2 _ _ (s.drop i.toNat) i [] (Nat.le_refl _) rfl hi (by rw [List.length_drop]; have := hi.2.2; simp only [List.length_nil]; omega) ?_
  simpa using h
theorem nameM_len (w : Bt) : (nameM w).2 ≤ w.length := by
  induction hn : w.length using Nat.strongRecOn generalizing w with
  | _ n ih =>
    cases w with
    | nil => rw [nameM]; simp
    | cons c w =>
      rw [List.length_cons] at hn
      rw [nameM]
      split
      · split
        · have he := escM_len w
          have := ih (w.drop (escM w).2).length (by rw [List.length_drop]; omega) (w.drop (escM w).2) rfl
          rw [List.length_drop] at this
          simp only
          omega
        · have := ih w.length (by omega) w rfl
          simp only
          omega
      · simp
end Go.Proofs.YtkmgbibhkilffaaGreatDoor

namespace Go.Proofs.YtkmgbibhkilffaaGreatDoor
open Go.Vm Go.Sx Go.RowKit

/-! ### Escapes, shape q -/
def s_utf_q : T_uA_q := fun x c0 c1 c2 c3 c4 b K => (0 ≤ x ∧ x ≤ 16777215) ∧ b.length ≤ 10000000 ∧ K c0 c1 c2 c3 c4 (b ++ utfM x)
set_option maxRecDepth 100000 in
theorem p_utf_q (x c0 c1 c2 c3 c4 b K) (h : s_utf_q x c0 c1 c2 c3 c4 b K) : F_uA_q x c0 c1 c2 c3 c4 b K := by
  obtain ⟨⟨h0, h1⟩, hb, h⟩ := h
  have k1 : x ≤ 127 → K c0 c1 c2 c3 c4 (b ++ [b8 x]) := fun q => utf1 q ▸ h
  have k2 : ¬ x ≤ 127 → x ≤ 2047 → K c0 c1 c2 c3 c4 (b ++ [b8 (192 + x / 64), b8 (128 + x % 64)]) := fun q q2 => utf2 q q2 ▸ h
  have kX : ¬ x ≤ 127 → ¬ x ≤ 2047 → (55296 ≤ x ∧ x ≤ 57343 ∨ 1114111 < x) → K c0 c1 c2 c3 c4 (b ++ [b8 239, b8 191, b8 189]) := fun q q2 q3 => utfX q q2 q3 ▸ h
  have k3 : ¬ x ≤ 127 → ¬ x ≤ 2047 → ¬ (55296 ≤ x ∧ x ≤ 57343 ∨ 1114111 < x) → x ≤ 65535 → K c0 c1 c2 c3 c4 (b ++ [b8 (224 + x / 4096), b8 (128 + x / 64 % 64), b8 (128 + x % 64)]) := fun q q2 q3 q4 => utf3 q q2 q3 q4 ▸ h
  have k4 : ¬ x ≤ 127 → ¬ x ≤ 2047 → ¬ (55296 ≤ x ∧ x ≤ 57343 ∨ 1114111 < x) → ¬ x ≤ 65535 → K c0 c1 c2 c3 c4 (b ++ [b8 (240 + x / 262144), b8 (128 + x / 4096 % 64), b8 (128 + x / 64 % 64), b8 (128 + x % 64)]) := fun q q2 q3 q4 => utf4 q q2 q3 q4 ▸ h
  clear h
  unfold F_uA_q
  simp only [u32w h0 h1, or128, fd6, fd12, fd18, decide_eq_true_eq, decide_eq_false_iff_not, List.length_cons, List.length_nil]
  refine ⟨fun q => ?_, fun q => ⟨fun q2 => ?_, fun q2 => ⟨fun q3 => ?_, fun q3 => ⟨fun q4 => ⟨fun q5 => ?_, fun q5 => ⟨fun q6 => ⟨fun q7 => ?_, fun q7 => ?_⟩, fun q6 => ?_⟩⟩, fun q4 => ⟨fun q6 => ⟨fun q7 => ?_, fun q7 => ?_⟩, fun q6 => ?_⟩⟩⟩⟩⟩
  · rw [u8w h0 (by omega)]
    exact ⟨by omega, by omega, k1 q⟩
  · rw [or192 (by omega) (by omega)]
    exact ⟨by decide, by omega, by omega, by omega, k2 q q2⟩
  · rw [or224 (by omega) (by omega)]
    exact ⟨by decide, by decide, by omega, by omega, by omega, by omega, k3 q q2 (by omega) (by omega)⟩
  · rw [or224 (by omega) (by omega)]
    exact ⟨by decide, by decide, by omega, by omega, by omega, by omega, k3 q q2 (by omega) (by omega)⟩
  · rw [or240 (by omega) (by omega)]
    exact ⟨by decide, by decide, by decide, by omega, by omega, by omega, by omega, by omega, k4 q q2 (by omega) (by omega)⟩
  · exact ⟨by decide, by decide, by decide, by omega, kX q q2 (by omega)⟩
  · exfalso; omega
  · exfalso; omega
  · exact ⟨by decide, by decide, by decide, by omega, kX q q2 (by omega)⟩
  · exact ⟨by decide, by decide, by decide, by omega, kX q q2 (by omega)⟩
set_option maxRecDepth 100000 in
theorem p_hexL_q (s : Bt) (hs : s.length ≤ 1000000) (c0 : Int) (c1 : Bt) (c2 : Int) (c3 : Bt) (c4 : Bool) (b : Bt) (A : T_uA_q) (Ke : Bt → Int → Int → Int → Bt → Int → Bt → Bool → Bt → Prop) : ∀ (r : Nat) (w : Bt) (i a x : Int) (k : Nat), x = k → r + k = 6 → s.drop i.toNat = w → 0 ≤ i → i + (r : Int) ≤ 1000020 → 0 ≤ a → a < 16 ^ k → Ke s (i + ((hexRun r w a).2 : Int)) (hexRun r w a).1 c0 c1 c2 c3 c4 b → ∃ m, F_aE_q_l9 A s_hex s_byteAt s_isSp m s i a x c0 c1 c2 c3 c4 b Ke
  | 0, w, i, a, x, k, hx, hk, hd, h0, hi, ha0, ha1, h => by
    refine ⟨1, fun q => ?_, fun _ => ?_⟩
    · exfalso; have := of_decide_eq_true q; omega
    · simpa [hexRun] using h
  | r + 1, w, i, a, x, k, hx, hk, hd, h0, hi, ha0, ha1, h => by
    unfold hexRun at h
    cases q : (hexM (hb w)).2 with
    | false =>
      rw [q] at h
      refine ⟨1, fun _ => ⟨h0, hb_in _, fun q2 => ?_, fun q2 => ?_⟩, fun q2 => ?_⟩
      · simpa using h
      · rw [hd, q] at q2; exact absurd q2 (by decide)
      · exfalso; have := of_decide_eq_false q2; omega
    | true =>
      rw [q] at h
      simp only [if_true] at h
      have hdg := hexM_in q
      have e : (16 : Int) ^ (k + 1) = 16 ^ k * 16 := Int.pow_succ _ _
      have e5 : (16 : Int) ^ k ≤ 16 ^ 5 := pow16 (by omega)
      have e6 : (16 : Int) ^ 5 = 1048576 := by decide
      obtain ⟨m, hm⟩ := p_hexL_q s hs c0 c1 c2 c3 c4 b A Ke r w.tail (i + 1) (a * 16 + (hexM (hb w)).1) (x + 1) (k + 1) (by omega) (by omega) (by rw [dropS h0, hd]) (by omega) (by omega) (by omega) (by rw [e]; omega) (by
        have : i + 1 + ((hexRun r w.tail (a * 16 + (hexM (hb w)).1)).2 : Int) = i + (((hexRun r w.tail (a * 16 + (hexM (hb w)).1)).2 + 1 : Nat) : Int) := by omega
        rw [this]; exact h)
      refine ⟨m + 1, fun _ => ⟨h0, hb_in _, fun q2 => ?_, fun _ => ⟨by decide, I64b (by omega), I64b (by omega), ?_⟩⟩, fun q2 => ?_⟩
      · rw [hd, q] at q2; exact absurd q2 (by decide)
      · rw [hd, shl4 ha0 (by omega) hdg.1 hdg.2]
        exact hm
      · exfalso; have := of_decide_eq_false q2; omega
def s_esc_q : T_aE_q := fun s i c0 c1 c2 c3 c4 b K => (0 ≤ i ∧ i < s.length ∧ s.length ≤ 1000000) ∧ b.length ≤ 5000000 ∧ K (i + 1 + ((escM (s.drop (i + 1).toNat)).2 : Int)) c0 c1 c2 c3 c4 (b ++ (escM (s.drop (i + 1).toNat)).1)
theorem p_esc_q (s i c0 c1 c2 c3 c4 b K) (h : s_esc_q s i c0 c1 c2 c3 c4 b K) : F_aE_q s_utf_q s_hex s_byteAt s_isSp s i c0 c1 c2 c3 c4 b K := by
  obtain ⟨⟨h0, h1, h2⟩, hb, h⟩ := h
  refine ⟨I64b (by omega), fun q => ?_, fun q => ?_⟩
  · have q := of_decide_eq_true q
    rw [List.drop_of_length_le (by omega)] at h
    unfold escM at h
    refine ⟨by omega, by omega, ?_⟩
    simpa using h
  · have q := of_decide_eq_false q
    cases hd : s.drop (i + 1).toNat with
    | nil => exfalso; have := drop_nil hd; omega
    | cons c w =>
    obtain ⟨_, hc, _, _⟩ := drop_cons (by omega) hd
    rw [hd, escM, escH] at h
    rw [hc]
    refine ⟨by omega, u8in c, fun q2 => ?_, fun q2 => ?_⟩
    · have q3 : (hexM (c.toNat : Int)).2 = false := by simpa using q2
      rw [q3] at h
      rw [u8id]
      refine ⟨by omega, u8in c, by simp only [List.length_cons, List.length_nil]; omega, I64b (by omega), ?_⟩
      simpa using h
    · have q3 : (hexM (c.toNat : Int)).2 = true := by simpa using q2
      rw [q3] at h
      simp only [if_true] at h
      have hl := hexRun_len 6 (c :: w) 0
      have hin := hexRun_in 6 (c :: w) 0 0 (by omega) (by omega) (by decide)
      have hlw := congrArg List.length hd
      rw [List.length_drop] at hlw
      refine p_hexL_q s h2 c0 c1 c2 c3 c4 b _ _ 6 (c :: w) (i + 1) 0 0 0 rfl rfl hd (by omega) (by omega) (by omega) (by decide) ?_
      have e : s.drop (i + 1 + ((hexRun 6 (c :: w) 0).2 : Int)).toNat = (c :: w).drop (hexRun 6 (c :: w) 0).2 := by rw [dropN (by omega), hd]
      refine ⟨by omega, fun q4 => ⟨I64b (by omega), fun q5 => ?_, fun q5 => ?_⟩, fun q4 => ⟨fun q5 => ?_, fun q5 => ?_⟩⟩
      · rw [e] at q4
        rw [q4, if_pos (of_decide_eq_true q5), if_pos rfl] at h
        refine ⟨by omega, by omega, ?_⟩
        have e2 : i + 1 + ((hexRun 6 (c :: w) 0).2 : Int) + 1 = i + 1 + (((hexRun 6 (c :: w) 0).2 + 1 : Nat) : Int) := by omega
        rw [e2]; exact h
      · rw [e] at q4
        rw [q4, if_neg (of_decide_eq_false q5), if_pos rfl] at h
        refine ⟨hin, by omega, ?_⟩
        have e2 : i + 1 + ((hexRun 6 (c :: w) 0).2 : Int) + 1 = i + 1 + (((hexRun 6 (c :: w) 0).2 + 1 : Nat) : Int) := by omega
        rw [e2]; exact h
      · rw [e] at q4
        rw [q4, if_pos (of_decide_eq_true q5)] at h
        exact ⟨by omega, by omega, by simpa using h⟩
      · rw [e] at q4
        rw [q4, if_neg (of_decide_eq_false q5)] at h
        exact ⟨hin, by omega, by simpa using h⟩

/-! ### Escapes, shape n -/
def s_utf_n : T_uA_n := fun x b K => (0 ≤ x ∧ x ≤ 16777215) ∧ b.length ≤ 10000000 ∧ K (b ++ utfM x)
set_option maxRecDepth 100000 in
theorem p_utf_n (x b K) (h : s_utf_n x b K) : F_uA_n x b K := by
  obtain ⟨⟨h0, h1⟩, hb, h⟩ := h
  have k1 : x ≤ 127 → K (b ++ [b8 x]) := fun q => utf1 q ▸ h
  have k2 : ¬ x ≤ 127 → x ≤ 2047 → K (b ++ [b8 (192 + x / 64), b8 (128 + x % 64)]) := fun q q2 => utf2 q q2 ▸ h
  have kX : ¬ x ≤ 127 → ¬ x ≤ 2047 → (55296 ≤ x ∧ x ≤ 57343 ∨ 1114111 < x) → K (b ++ [b8 239, b8 191, b8 189]) := fun q q2 q3 => utfX q q2 q3 ▸ h
  have k3 : ¬ x ≤ 127 → ¬ x ≤ 2047 → ¬ (55296 ≤ x ∧ x ≤ 57343 ∨ 1114111 < x) → x ≤ 65535 → K (b ++ [b8 (224 + x / 4096), b8 (128 + x / 64 % 64), b8 (128 + x % 64)]) := fun q q2 q3 q4 => utf3 q q2 q3 q4 ▸ h
  have k4 : ¬ x ≤ 127 → ¬ x ≤ 2047 → ¬ (55296 ≤ x ∧ x ≤ 57343 ∨ 1114111 < x) → ¬ x ≤ 65535 → K (b ++ [b8 (240 + x / 262144), b8 (128 + x / 4096 % 64), b8 (128 + x / 64 % 64), b8 (128 + x % 64)]) := fun q q2 q3 q4 => utf4 q q2 q3 q4 ▸ h
  clear h
  unfold F_uA_n
  simp only [u32w h0 h1, or128, fd6, fd12, fd18, decide_eq_true_eq, decide_eq_false_iff_not, List.length_cons, List.length_nil]
  refine ⟨fun q => ?_, fun q => ⟨fun q2 => ?_, fun q2 => ⟨fun q3 => ?_, fun q3 => ⟨fun q4 => ⟨fun q5 => ?_, fun q5 => ⟨fun q6 => ⟨fun q7 => ?_, fun q7 => ?_⟩, fun q6 => ?_⟩⟩, fun q4 => ⟨fun q6 => ⟨fun q7 => ?_, fun q7 => ?_⟩, fun q6 => ?_⟩⟩⟩⟩⟩
  · rw [u8w h0 (by omega)]
    exact ⟨by omega, by omega, k1 q⟩
  · rw [or192 (by omega) (by omega)]
    exact ⟨by decide, by omega, by omega, by omega, k2 q q2⟩
  · rw [or224 (by omega) (by omega)]
    exact ⟨by decide, by decide, by omega, by omega, by omega, by omega, k3 q q2 (by omega) (by omega)⟩
  · rw [or224 (by omega) (by omega)]
    exact ⟨by decide, by decide, by omega, by omega, by omega, by omega, k3 q q2 (by omega) (by omega)⟩
  · rw [or240 (by omega) (by omega)]
    exact ⟨by decide, by decide, by decide, by omega, by omega, by omega, by omega, by omega, k4 q q2 (by omega) (by omega)⟩
  · exact ⟨by decide, by decide, by decide, by omega, kX q q2 (by omega)⟩
  · exfalso; omega
  · exfalso; omega
  · exact ⟨by decide, by decide, by decide, by omega, kX q q2 (by omega)⟩
  · exact ⟨by decide, by decide, by decide, by omega, kX q q2 (by omega)⟩
set_option maxRecDepth 100000 in
theorem p_hexL_n (s : Bt) (hs : s.length ≤ 1000000) (b : Bt) (A : T_uA_n) (Ke : Bt → Int → Int → Bt → Prop) : ∀ (r : Nat) (w : Bt) (i a x : Int) (k : Nat), x = k → r + k = 6 → s.drop i.toNat = w → 0 ≤ i → i + (r : Int) ≤ 1000020 → 0 ≤ a → a < 16 ^ k → Ke s (i + ((hexRun r w a).2 : Int)) (hexRun r w a).1 b → ∃ m, F_aE_n_l9 A s_hex s_byteAt s_isSp m s i a x b Ke
  | 0, w, i, a, x, k, hx, hk, hd, h0, hi, ha0, ha1, h => by
    refine ⟨1, fun q => ?_, fun _ => ?_⟩
    · exfalso; have := of_decide_eq_true q; omega
    · simpa [hexRun] using h
  | r + 1, w, i, a, x, k, hx, hk, hd, h0, hi, ha0, ha1, h => by
    unfold hexRun at h
    cases q : (hexM (hb w)).2 with
    | false =>
      rw [q] at h
      refine ⟨1, fun _ => ⟨h0, hb_in _, fun q2 => ?_, fun q2 => ?_⟩, fun q2 => ?_⟩
      · simpa using h
      · rw [hd, q] at q2; exact absurd q2 (by decide)
      · exfalso; have := of_decide_eq_false q2; omega
    | true =>
      rw [q] at h
      simp only [if_true] at h
      have hdg := hexM_in q
      have e : (16 : Int) ^ (k + 1) = 16 ^ k * 16 := Int.pow_succ _ _
      have e5 : (16 : Int) ^ k ≤ 16 ^ 5 := pow16 (by omega)
      have e6 : (16 : Int) ^ 5 = 1048576 := by decide
      obtain ⟨m, hm⟩ := p_hexL_n s hs b A Ke r w.tail (i + 1) (a * 16 + (hexM (hb w)).1) (x + 1) (k + 1) (by omega) (by omega) (by rw [dropS h0, hd]) (by omega) (by omega) (by omega) (by rw [e]; omega) (by
        have : i + 1 + ((hexRun r w.tail (a * 16 + (hexM (hb w)).1)).2 : Int) = i + (((hexRun r w.tail (a * 16 + (hexM (hb w)).1)).2 + 1 : Nat) : Int) := by omega
        rw [this]; exact h)
      refine ⟨m + 1, fun _ => ⟨h0, hb_in _, fun q2 => ?_, fun _ => ⟨by decide, I64b (by omega), I64b (by omega), ?_⟩⟩, fun q2 => ?_⟩
      · rw [hd, q] at q2; exact absurd q2 (by decide)
      · rw [hd, shl4 ha0 (by omega) hdg.1 hdg.2]
        exact hm
      · exfalso; have := of_decide_eq_false q2; omega
def s_esc_n : T_aE_n := fun s i b K => (0 ≤ i ∧ i < s.length ∧ s.length ≤ 1000000) ∧ b.length ≤ 5000000 ∧ K (i + 1 + ((escM (s.drop (i + 1).toNat)).2 : Int)) (b ++ (escM (s.drop (i + 1).toNat)).1)
theorem p_esc_n (s i b K) (h : s_esc_n s i b K) : F_aE_n s_utf_n s_hex s_byteAt s_isSp s i b K := by
  obtain ⟨⟨h0, h1, h2⟩, hb, h⟩ := h
  refine ⟨I64b (by omega), fun q => ?_, fun q => ?_⟩
  · have q := of_decide_eq_true q
    rw [List.drop_of_length_le (by omega)] at h
    unfold escM at h
    refine ⟨by omega, by omega, ?_⟩
    simpa using h
  · have q := of_decide_eq_false q
    cases hd : s.drop (i + 1).toNat with
    | nil => exfalso; have := drop_nil hd; omega
    | cons c w =>
    obtain ⟨_, hc, _, _⟩ := drop_cons (by omega) hd
    rw [hd, escM, escH] at h
    rw [hc]
    refine ⟨by omega, u8in c, fun q2 => ?_, fun q2 => ?_⟩
    · have q3 : (hexM (c.toNat : Int)).2 = false := by simpa using q2
      rw [q3] at h
      rw [u8id]
      refine ⟨by omega, u8in c, by simp only [List.length_cons, List.length_nil]; omega, I64b (by omega), ?_⟩
      simpa using h
    · have q3 : (hexM (c.toNat : Int)).2 = true := by simpa using q2
      rw [q3] at h
      simp only [if_true] at h
      have hl := hexRun_len 6 (c :: w) 0
      have hin := hexRun_in 6 (c :: w) 0 0 (by omega) (by omega) (by decide)
      have hlw := congrArg List.length hd
      rw [List.length_drop] at hlw
      refine p_hexL_n s h2 b _ _ 6 (c :: w) (i + 1) 0 0 0 rfl rfl hd (by omega) (by omega) (by omega) (by decide) ?_
      have e : s.drop (i + 1 + ((hexRun 6 (c :: w) 0).2 : Int)).toNat = (c :: w).drop (hexRun 6 (c :: w) 0).2 := by rw [dropN (by omega), hd]
      refine ⟨by omega, fun q4 => ⟨I64b (by omega), fun q5 => ?_, fun q5 => ?_⟩, fun q4 => ⟨fun q5 => ?_, fun q5 => ?_⟩⟩
      · rw [e] at q4
        rw [q4, if_pos (of_decide_eq_true q5), if_pos rfl] at h
        refine ⟨by omega, by omega, ?_⟩
        have e2 : i + 1 + ((hexRun 6 (c :: w) 0).2 : Int) + 1 = i + 1 + (((hexRun 6 (c :: w) 0).2 + 1 : Nat) : Int) := by omega
        rw [e2]; exact h
      · rw [e] at q4
        rw [q4, if_neg (of_decide_eq_false q5), if_pos rfl] at h
        refine ⟨hin, by omega, ?_⟩
        have e2 : i + 1 + ((hexRun 6 (c :: w) 0).2 : Int) + 1 = i + 1 + (((hexRun 6 (c :: w) 0).2 + 1 : Nat) : Int) := by omega
        rw [e2]; exact h
      · rw [e] at q4
        rw [q4, if_pos (of_decide_eq_true q5)] at h
        exact ⟨by omega, by omega, by simpa using h⟩
      · rw [e] at q4
        rw [q4, if_neg (of_decide_eq_false q5)] at h
        exact ⟨hin, by omega, by simpa using h⟩

/-! ### Escapes, shape u -/
def s_utf_u : T_uA_u := fun x c0 c1 c2 c3 c4 b K => (0 ≤ x ∧ x ≤ 16777215) ∧ b.length ≤ 10000000 ∧ K c0 c1 c2 c3 c4 (b ++ utfM x)
set_option maxRecDepth 100000 in
theorem p_utf_u (x c0 c1 c2 c3 c4 b K) (h : s_utf_u x c0 c1 c2 c3 c4 b K) : F_uA_u x c0 c1 c2 c3 c4 b K := by
  obtain ⟨⟨h0, h1⟩, hb, h⟩ := h
  have k1 : x ≤ 127 → K c0 c1 c2 c3 c4 (b ++ [b8 x]) := fun q => utf1 q ▸ h
  have k2 : ¬ x ≤ 127 → x ≤ 2047 → K c0 c1 c2 c3 c4 (b ++ [b8 (192 + x / 64), b8 (128 + x % 64)]) := fun q q2 => utf2 q q2 ▸ h
  have kX : ¬ x ≤ 127 → ¬ x ≤ 2047 → (55296 ≤ x ∧ x ≤ 57343 ∨ 1114111 < x) → K c0 c1 c2 c3 c4 (b ++ [b8 239, b8 191, b8 189]) := fun q q2 q3 => utfX q q2 q3 ▸ h
  have k3 : ¬ x ≤ 127 → ¬ x ≤ 2047 → ¬ (55296 ≤ x ∧ x ≤ 57343 ∨ 1114111 < x) → x ≤ 65535 → K c0 c1 c2 c3 c4 (b ++ [b8 (224 + x / 4096), b8 (128 + x / 64 % 64), b8 (128 + x % 64)]) := fun q q2 q3 q4 => utf3 q q2 q3 q4 ▸ h
  have k4 : ¬ x ≤ 127 → ¬ x ≤ 2047 → ¬ (55296 ≤ x ∧ x ≤ 57343 ∨ 1114111 < x) → ¬ x ≤ 65535 → K c0 c1 c2 c3 c4 (b ++ [b8 (240 + x / 262144), b8 (128 + x / 4096 % 64), b8 (128 + x / 64 % 64), b8 (128 + x % 64)]) := fun q q2 q3 q4 => utf4 q q2 q3 q4 ▸ h
  clear h
  unfold F_uA_u
  simp only [u32w h0 h1, or128, fd6, fd12, fd18, decide_eq_true_eq, decide_eq_false_iff_not, List.length_cons, List.length_nil]
  refine ⟨fun q => ?_, fun q => ⟨fun q2 => ?_, fun q2 => ⟨fun q3 => ?_, fun q3 => ⟨fun q4 => ⟨fun q5 => ?_, fun q5 => ⟨fun q6 => ⟨fun q7 => ?_, fun q7 => ?_⟩, fun q6 => ?_⟩⟩, fun q4 => ⟨fun q6 => ⟨fun q7 => ?_, fun q7 => ?_⟩, fun q6 => ?_⟩⟩⟩⟩⟩
  · rw [u8w h0 (by omega)]
    exact ⟨by omega, by omega, k1 q⟩
  · rw [or192 (by omega) (by omega)]
    exact ⟨by decide, by omega, by omega, by omega, k2 q q2⟩
  · rw [or224 (by omega) (by omega)]
    exact ⟨by decide, by decide, by omega, by omega, by omega, by omega, k3 q q2 (by omega) (by omega)⟩
  · rw [or224 (by omega) (by omega)]
    exact ⟨by decide, by decide, by omega, by omega, by omega, by omega, k3 q q2 (by omega) (by omega)⟩
  · rw [or240 (by omega) (by omega)]
    exact ⟨by decide, by decide, by decide, by omega, by omega, by omega, by omega, by omega, k4 q q2 (by omega) (by omega)⟩
  · exact ⟨by decide, by decide, by decide, by omega, kX q q2 (by omega)⟩
  · exfalso; omega
  · exfalso; omega
  · exact ⟨by decide, by decide, by decide, by omega, kX q q2 (by omega)⟩
  · exact ⟨by decide, by decide, by decide, by omega, kX q q2 (by omega)⟩
set_option maxRecDepth 100000 in
theorem p_hexL_u (s : Bt) (hs : s.length ≤ 1000000) (c0 : Int) (c1 : Bt) (c2 : Int) (c3 : Bt) (c4 : Bool) (b : Bt) (A : T_uA_u) (Ke : Bt → Int → Int → Int → Bt → Int → Bt → Bool → Bt → Prop) : ∀ (r : Nat) (w : Bt) (i a x : Int) (k : Nat), x = k → r + k = 6 → s.drop i.toNat = w → 0 ≤ i → i + (r : Int) ≤ 1000020 → 0 ≤ a → a < 16 ^ k → Ke s (i + ((hexRun r w a).2 : Int)) (hexRun r w a).1 c0 c1 c2 c3 c4 b → ∃ m, F_aE_u_l9 A s_hex s_byteAt s_isSp m s i a x c0 c1 c2 c3 c4 b Ke
  | 0, w, i, a, x, k, hx, hk, hd, h0, hi, ha0, ha1, h => by
    refine ⟨1, fun q => ?_, fun _ => ?_⟩
    · exfalso; have := of_decide_eq_true q; omega
    · simpa [hexRun] using h
  | r + 1, w, i, a, x, k, hx, hk, hd, h0, hi, ha0, ha1, h => by
    unfold hexRun at h
    cases q : (hexM (hb w)).2 with
    | false =>
      rw [q] at h
      refine ⟨1, fun _ => ⟨h0, hb_in _, fun q2 => ?_, fun q2 => ?_⟩, fun q2 => ?_⟩
      · simpa using h
      · rw [hd, q] at q2; exact absurd q2 (by decide)
      · exfalso; have := of_decide_eq_false q2; omega
    | true =>
      rw [q] at h
      simp only [if_true] at h
      have hdg := hexM_in q
      have e : (16 : Int) ^ (k + 1) = 16 ^ k * 16 := Int.pow_succ _ _
      have e5 : (16 : Int) ^ k ≤ 16 ^ 5 := pow16 (by omega)
      have e6 : (16 : Int) ^ 5 = 1048576 := by decide
      obtain ⟨m, hm⟩ := p_hexL_u s hs c0 c1 c2 c3 c4 b A Ke r w.tail (i + 1) (a * 16 + (hexM (hb w)).1) (x + 1) (k + 1) (by omega) (by omega) (by rw [dropS h0, hd]) (by omega) (by omega) (by omega) (by rw [e]; omega) (by
        have : i + 1 + ((hexRun r w.tail (a * 16 + (hexM (hb w)).1)).2 : Int) = i + (((hexRun r w.tail (a * 16 + (hexM (hb w)).1)).2 + 1 : Nat) : Int) := by omega
        rw [this]; exact h)
      refine ⟨m + 1, fun _ => ⟨h0, hb_in _, fun q2 => ?_, fun _ => ⟨by decide, I64b (by omega), I64b (by omega), ?_⟩⟩, fun q2 => ?_⟩
      · rw [hd, q] at q2; exact absurd q2 (by decide)
      · rw [hd, shl4 ha0 (by omega) hdg.1 hdg.2]
        exact hm
      · exfalso; have := of_decide_eq_false q2; omega
def s_esc_u : T_aE_u := fun s i c0 c1 c2 c3 c4 b K => (0 ≤ i ∧ i < s.length ∧ s.length ≤ 1000000) ∧ b.length ≤ 5000000 ∧ K (i + 1 + ((escM (s.drop (i + 1).toNat)).2 : Int)) c0 c1 c2 c3 c4 (b ++ (escM (s.drop (i + 1).toNat)).1)
theorem p_esc_u (s i c0 c1 c2 c3 c4 b K) (h : s_esc_u s i c0 c1 c2 c3 c4 b K) : F_aE_u s_utf_u s_hex s_byteAt s_isSp s i c0 c1 c2 c3 c4 b K := by
  obtain ⟨⟨h0, h1, h2⟩, hb, h⟩ := h
  refine ⟨I64b (by omega), fun q => ?_, fun q => ?_⟩
  · have q := of_decide_eq_true q
    rw [List.drop_of_length_le (by omega)] at h
    unfold escM at h
    refine ⟨by omega, by omega, ?_⟩
    simpa using h
  · have q := of_decide_eq_false q
    cases hd : s.drop (i + 1).toNat with
    | nil => exfalso; have := drop_nil hd; omega
    | cons c w =>
    obtain ⟨_, hc, _, _⟩ := drop_cons (by omega) hd
    rw [hd, escM, escH] at h
    rw [hc]
    refine ⟨by omega, u8in c, fun q2 => ?_, fun q2 => ?_⟩
    · have q3 : (hexM (c.toNat : Int)).2 = false := by simpa using q2
      rw [q3] at h
      rw [u8id]
      refine ⟨by omega, u8in c, by simp only [List.length_cons, List.length_nil]; omega, I64b (by omega), ?_⟩
      simpa using h
    · have q3 : (hexM (c.toNat : Int)).2 = true := by simpa using q2
      rw [q3] at h
      simp only [if_true] at h
      have hl := hexRun_len 6 (c :: w) 0
      have hin := hexRun_in 6 (c :: w) 0 0 (by omega) (by omega) (by decide)
      have hlw := congrArg List.length hd
      rw [List.length_drop] at hlw
      refine p_hexL_u s h2 c0 c1 c2 c3 c4 b _ _ 6 (c :: w) (i + 1) 0 0 0 rfl rfl hd (by omega) (by omega) (by omega) (by decide) ?_
      have e : s.drop (i + 1 + ((hexRun 6 (c :: w) 0).2 : Int)).toNat = (c :: w).drop (hexRun 6 (c :: w) 0).2 := by rw [dropN (by omega), hd]
      refine ⟨by omega, fun q4 => ⟨I64b (by omega), fun q5 => ?_, fun q5 => ?_⟩, fun q4 => ⟨fun q5 => ?_, fun q5 => ?_⟩⟩
      · rw [e] at q4
        rw [q4, if_pos (of_decide_eq_true q5), if_pos rfl] at h
        refine ⟨by omega, by omega, ?_⟩
        have e2 : i + 1 + ((hexRun 6 (c :: w) 0).2 : Int) + 1 = i + 1 + (((hexRun 6 (c :: w) 0).2 + 1 : Nat) : Int) := by omega
        rw [e2]; exact h
      · rw [e] at q4
        rw [q4, if_neg (of_decide_eq_false q5), if_pos rfl] at h
        refine ⟨hin, by omega, ?_⟩
        have e2 : i + 1 + ((hexRun 6 (c :: w) 0).2 : Int) + 1 = i + 1 + (((hexRun 6 (c :: w) 0).2 + 1 : Nat) : Int) := by omega
        rw [e2]; exact h
      · rw [e] at q4
        rw [q4, if_pos (of_decide_eq_true q5)] at h
        exact ⟨by omega, by omega, by simpa using h⟩
      · rw [e] at q4
        rw [q4, if_neg (of_decide_eq_false q5)] at h
        exact ⟨hin, by omega, by simpa using h⟩

/-! ### Strings -/
def strK (K : Tok → Int → Prop) (b : Bt) (i : Int) (r : Bool × Bt × Nat) : Prop := K (if r.1 then tk 5 (b ++ r.2.1) else tk 6) (i + (r.2.2 : Int))
theorem p_strL (s : Bt) (hs : s.length ≤ 1000000) (q : Int) (K : Tok → Int → Prop) : ∀ (n : Nat) (w : Bt) (i : Int) (b : Bt), w.length ≤ n → s.drop i.toNat = w → okP s i → b.length + 4 * w.length ≤ 4500000 → strK K b i (strM q w) → ∃ m, F_k_rSt_l4 s_esc_q m s i q 0 [] 0 [] false b (fun y1 _ _ _ _ _ y7 => K (Tok.mk 5 y7 0 [] false) y1) (fun y8 y9 y10 y11 y12 y13 => K (Tok.mk y9 y10 y11 y12 y13) y8) := by
  intro n
  induction n with
  | zero =>
    intro w i b hn hd hi hb h
    cases w with
    | cons c w => simp at hn
    | nil =>
      have hl := drop_nil hd
      rw [strM] at h
      refine ⟨1, fun p => (by exfalso; have := of_decide_eq_true p; omega), fun _ => ?_⟩
      simpa [strK, tk] using h
  | succ n ih =>
    intro w i b hn hd hi hb h
    cases w with
    | nil =>
      have hl := drop_nil hd
      rw [strM] at h
      refine ⟨1, fun p => (by exfalso; have := of_decide_eq_true p; omega), fun _ => ?_⟩
      simpa [strK, tk] using h
    | cons c w =>
    obtain ⟨hl, hc, hnx, hlen⟩ := drop_cons hi.1 hd
    rw [List.length_cons] at hn hb
    by_cases c1 : (c.toNat : Int) = q
    · have e : strM q (c :: w) = (true, [], 1) := by rw [strM.eq_def]; simp only; rw [if_pos c1]
      rw [e] at h
      refine ⟨1, fun _ => ⟨⟨hi.1, hl⟩, fun _ => ⟨I64b (by omega), ?_⟩, fun p => ?_⟩, fun p => (by exfalso; have := of_decide_eq_false p; omega)⟩
      · simpa [strK, tk] using h
      · exact absurd (by rw [hc]; exact c1) (of_decide_eq_false p)
    · by_cases c2 : (c.toNat : Int) = 10
      · have e : strM q (c :: w) = (false, [], 0) := by rw [strM.eq_def]; simp only; rw [if_neg c1, if_pos c2]
        rw [e] at h
        refine ⟨1, fun _ => ⟨⟨hi.1, hl⟩, fun p => ?_, fun _ => ⟨⟨hi.1, hl⟩, fun _ => ?_, fun p => ?_⟩⟩, fun p => (by exfalso; have := of_decide_eq_false p; omega)⟩
        · exact absurd (by rw [← hc]; exact of_decide_eq_true p) c1
        · simpa [strK, tk] using h
        · exact absurd (by rw [hc]; exact c2) (of_decide_eq_false p)
      · by_cases c3 : (c.toNat : Int) = 92
        · cases w with
          | nil =>
            have e : strM q [c] = (true, [], 1) := by rw [strM.eq_def]; simp only; rw [if_neg c1, if_neg c2, if_neg (fun x => x c3)]
            rw [e] at h
            have hl2 := drop_nil hnx
            refine ⟨2, fun _ => ⟨⟨hi.1, hl⟩, fun p => ?_, fun _ => ⟨⟨hi.1, hl⟩, fun p => ?_, fun _ => ⟨⟨hi.1, hl⟩, fun p => ?_, fun _ => ⟨I64b (by omega), fun _ => ⟨I64b (by omega), fun p => ?_, fun _ => ?_⟩, fun p => ?_⟩⟩⟩⟩, fun p => (by exfalso; have := of_decide_eq_false p; omega)⟩
            · exact absurd (by rw [← hc]; exact of_decide_eq_true p) c1
            · exact absurd (by rw [← hc]; exact of_decide_eq_true p) c2
            · exact absurd (by rw [hc]; exact c3) (of_decide_eq_true p)
            · exfalso; have := of_decide_eq_true p; omega
            · simpa [strK, tk] using h
            · exfalso; have := of_decide_eq_false p; simp only [List.length_nil] at hlen; omega
          | cons d v =>
            obtain ⟨hl2, hc2, hnx2, hlen2⟩ := drop_cons (by omega) hnx
            have hnx3 : s.drop (i + 2).toNat = v := by rw [show i + 2 = i + 1 + 1 by omega]; exact hnx2
            rw [List.length_cons] at hn hb
            by_cases c4 : (d.toNat : Int) = 10
            · have e : strM q (c :: d :: v) = ((strM q v).1, (strM q v).2.1, 2 + (strM q v).2.2) := by rw [strM.eq_def]; simp only; rw [if_neg c1, if_neg c2, if_neg (fun x => x c3), if_pos c4]
              rw [e] at h
              obtain ⟨m, hm⟩ := ih v (i + 2) b (by omega) hnx3 ⟨by omega, by omega, hs⟩ (by omega) (by
                unfold strK at h ⊢
                have : i + 2 + ((strM q v).2.2 : Int) = i + ((2 + (strM q v).2.2 : Nat) : Int) := by omega
                rw [this]; exact h)
              refine ⟨m + 1, fun _ => ⟨⟨hi.1, hl⟩, fun p => ?_, fun _ => ⟨⟨hi.1, hl⟩, fun p => ?_, fun _ => ⟨⟨hi.1, hl⟩, fun p => ?_, fun _ => ⟨I64b (by omega), fun p => ?_, fun _ => ⟨I64b (by omega), ⟨by omega, hl2⟩, fun _ => ⟨I64b (by omega), hm⟩, fun p => ?_⟩⟩⟩⟩⟩, fun p => (by exfalso; have := of_decide_eq_false p; omega)⟩
              · exact absurd (by rw [← hc]; exact of_decide_eq_true p) c1
              · exact absurd (by rw [← hc]; exact of_decide_eq_true p) c2
              · exact absurd (by rw [hc]; exact c3) (of_decide_eq_true p)
              · exfalso; have := of_decide_eq_true p; omega
              · exact absurd (by rw [hc2]; exact c4) (of_decide_eq_false p)
            · have e : strM q (c :: d :: v) = ((strM q ((d :: v).drop (escM (d :: v)).2)).1, (escM (d :: v)).1 ++ (strM q ((d :: v).drop (escM (d :: v)).2)).2.1, 1 + (escM (d :: v)).2 + (strM q ((d :: v).drop (escM (d :: v)).2)).2.2) := by rw [strM.eq_def]; simp only; rw [if_neg c1, if_neg c2, if_neg (fun x => x c3), if_neg c4]
              rw [e] at h
              have he := escM_len (d :: v)
              have het := escM_txt (d :: v)
              rw [List.length_cons] at he
              have hlw : ((d :: v).drop (escM (d :: v)).2).length ≤ n := by rw [List.length_drop, List.length_cons]; omega
              obtain ⟨m, hm⟩ := ih ((d :: v).drop (escM (d :: v)).2) (i + 1 + ((escM (d :: v)).2 : Int)) (b ++ (escM (d :: v)).1) hlw (by rw [dropN (by omega), hnx]) ⟨by omega, by omega, hs⟩ (by rw [List.length_append, List.length_drop, List.length_cons]; omega) (by
                unfold strK at h ⊢
                have : i + 1 + ((escM (d :: v)).2 : Int) + ((strM q ((d :: v).drop (escM (d :: v)).2)).2.2 : Int) = i + ((1 + (escM (d :: v)).2 + (strM q ((d :: v).drop (escM (d :: v)).2)).2.2 : Nat) : Int) := by omega
                rw [this, List.append_assoc]; exact h)
              refine ⟨m + 1, fun _ => ⟨⟨hi.1, hl⟩, fun p => ?_, fun _ => ⟨⟨hi.1, hl⟩, fun p => ?_, fun _ => ⟨⟨hi.1, hl⟩, fun p => ?_, fun _ => ⟨I64b (by omega), fun p => ?_, fun _ => ⟨I64b (by omega), ⟨by omega, hl2⟩, fun p => ?_, fun _ => ⟨⟨hi.1, hl, hs⟩, by omega, ?_⟩⟩⟩⟩⟩⟩, fun p => (by exfalso; have := of_decide_eq_false p; omega)⟩
              · exact absurd (by rw [← hc]; exact of_decide_eq_true p) c1
              · exact absurd (by rw [← hc]; exact of_decide_eq_true p) c2
              · exact absurd (by rw [hc]; exact c3) (of_decide_eq_true p)
              · exfalso; have := of_decide_eq_true p; omega
              · exact absurd (by rw [← hc2]; exact of_decide_eq_true p) c4
              · rw [hnx]; exact hm
        · have e : strM q (c :: w) = ((strM q w).1, c :: (strM q w).2.1, 1 + (strM q w).2.2) := by rw [strM.eq_def]; simp only; rw [if_neg c1, if_neg c2, if_pos c3]
          rw [e] at h
          obtain ⟨m, hm⟩ := ih w (i + 1) (b ++ [c]) (by omega) hnx ⟨by omega, by omega, hs⟩ (by rw [List.length_append]; simp only [List.length_singleton]; omega) (by
            unfold strK at h ⊢
            have : i + 1 + ((strM q w).2.2 : Int) = i + ((1 + (strM q w).2.2 : Nat) : Int) := by omega
            rw [this, List.append_assoc]; exact h)
          refine ⟨m + 1, fun _ => ⟨⟨hi.1, hl⟩, fun p => ?_, fun _ => ⟨⟨hi.1, hl⟩, fun p => ?_, fun _ => ⟨⟨hi.1, hl⟩, fun _ => ⟨⟨hi.1, hl⟩, ?_⟩, fun p => ?_⟩⟩⟩, fun p => (by exfalso; have := of_decide_eq_false p; omega)⟩
          · exact absurd (by rw [← hc]; exact of_decide_eq_true p) c1
          · exact absurd (by rw [← hc]; exact of_decide_eq_true p) c2
          · rw [hc, u8id]
            exact ⟨u8in c, by simp only [List.length_singleton]; omega, I64b (by omega), hm⟩
          · exact absurd (by rw [hc]; exact c3) (of_decide_eq_false p)
def s_str : T_k_rSt := fun s i K => (0 ≤ i ∧ i < s.length ∧ s.length ≤ 1000000) ∧ strK K [] (i + 1) (strM (hb (s.drop i.toNat)) (s.drop (i + 1).toNat))
theorem p_str (s i K) (h : s_str s i K) : F_k_rSt s_esc_q s i K := by
  obtain ⟨⟨h0, h1, h2⟩, h⟩ := h
  rw [hb_getD] at h
  exact ⟨⟨h0, h1⟩, I64b (by omega), p_strL s h2 _ K _ _ _ [] (Nat.le_refl _) rfl ⟨by omega, by omega, h2⟩ (by rw [List.length_drop]; simp only [List.length_nil]; omega) h⟩

/-! ### Urls -/
theorem p_badL (s : Bt) (hs : s.length ≤ 1000000) (K : Int → Prop) : ∀ (n : Nat) (w : Bt) (i : Int), w.length ≤ n → s.drop i.toNat = w → okP s i → K (i + (badM w : Int)) → ∃ m, F_k_bBU_l1 s_esS s_esc_n m s i (fun y => K y) (fun y => K y) := by
  intro n
  induction n with
  | zero =>
    intro w i hn hd hi h
    cases w with
    | cons c w => simp at hn
    | nil =>
      have hl := drop_nil hd
      rw [badM] at h
      exact ⟨1, fun p => (by exfalso; have := of_decide_eq_true p; omega), fun _ => by simpa using h⟩
  | succ n ih =>
    intro w i hn hd hi h
    cases w with
    | nil =>
      have hl := drop_nil hd
      rw [badM] at h
      exact ⟨1, fun p => (by exfalso; have := of_decide_eq_true p; omega), fun _ => by simpa using h⟩
    | cons c w =>
    obtain ⟨hl, hc, hnx, hlen⟩ := drop_cons hi.1 hd
    rw [List.length_cons] at hn
    rw [badM] at h
    by_cases c1 : (c.toNat : Int) = 41
    · rw [if_pos c1] at h
      refine ⟨1, fun _ => ⟨⟨hi.1, hl⟩, fun _ => ⟨I64b (by omega), by simpa using h⟩, fun p => ?_⟩, fun p => (by exfalso; have := of_decide_eq_false p; omega)⟩
      exact absurd (by rw [hc]; exact c1) (of_decide_eq_false p)
    · rw [if_neg c1] at h
      cases q : escS (c :: w) with
      | true =>
        rw [q, if_pos rfl] at h
        have he := escM_len w
        obtain ⟨m, hm⟩ := ih (w.drop (escM w).2) (i + 1 + ((escM w).2 : Int)) (by rw [List.length_drop]; omega) (by rw [dropN (by omega), hnx]) ⟨by omega, by omega, hs⟩ (by
          have : i + 1 + ((escM w).2 : Int) + (badM (w.drop (escM w).2) : Int) = i + ((1 + (escM w).2 + badM (w.drop (escM w).2) : Nat) : Int) := by omega
          rw [this]; exact h)
        refine ⟨m + 1, fun _ => ⟨⟨hi.1, hl⟩, fun p => ?_, fun _ => ⟨hi, fun _ => ⟨⟨hi.1, hl, hs⟩, by decide, ?_⟩, fun p => ?_⟩⟩, fun p => (by exfalso; have := of_decide_eq_false p; omega)⟩
        · exact absurd (by rw [← hc]; exact of_decide_eq_true p) c1
        · rw [hnx]; exact hm
        · rw [hd, q] at p; cases p
      | false =>
        rw [q] at h
        obtain ⟨m, hm⟩ := ih w (i + 1) (by omega) hnx ⟨by omega, by omega, hs⟩ (by
          have : i + 1 + (badM w : Int) = i + ((1 + badM w : Nat) : Int) := by omega
          rw [this]; simpa using h)
        refine ⟨m + 1, fun _ => ⟨⟨hi.1, hl⟩, fun p => ?_, fun _ => ⟨hi, fun p => ?_, fun _ => ⟨I64b (by omega), hm⟩⟩⟩, fun p => (by exfalso; have := of_decide_eq_false p; omega)⟩
        · exact absurd (by rw [← hc]; exact of_decide_eq_true p) c1
        · rw [hd, q] at p; cases p
def s_bad : T_k_bBU := fun s i K => okP s i ∧ K (i + (badM (s.drop i.toNat) : Int))
theorem p_bad (s i K) (h : s_bad s i K) : F_k_bBU s_esS s_esc_n s i K := p_badL s h.1.2.2 K _ _ _ (Nat.le_refl _) rfl h.1 h.2
def s_spoils : T_k_spoilsURL := fun c K => K (spoils c)
theorem p_spoils (c K) (h : s_spoils c K) : F_k_spoilsURL c K := by
  unfold s_spoils spoils at h
  unfold F_k_spoilsURL
  refine ⟨fun q => ?_, fun q => ⟨fun q2 => ?_, fun q2 => ⟨fun q3 => ?_, fun q3 => ⟨fun q4 => ?_, fun q4 => ⟨fun q5 => ?_, fun q5 => ⟨fun q6 => ?_, fun q6 => ⟨fun q7 => ⟨fun q8 => ?_, fun q8 => ?_⟩, fun q7 => ?_⟩⟩⟩⟩⟩⟩⟩ <;> simpa only [*, Bool.true_or, Bool.false_or, Bool.or_true, Bool.or_false, Bool.true_and, Bool.false_and] using h
theorem nSp_len : ∀ w : Bt, nSp w ≤ w.length
  | [] => Nat.le_refl _
  | c :: w => by
    unfold nSp
    have := nSp_len w
    split <;> simp only [List.length_cons] <;> omega
theorem p_urlL (s : Bt) (hs : s.length ≤ 1000000) (Ke : Bt → Int → Int → Bt → Int → Bt → Bool → Bt → Prop) : ∀ (n : Nat) (w : Bt) (i : Int) (b : Bt), w.length ≤ n → s.drop i.toNat = w → okP s i → b.length + 4 * w.length ≤ 4500000 → Ke s (i + ((urlM w).2 : Int)) 0 [] 0 [] false (b ++ (urlM w).1) → ∃ m, F_k_readURL_l3 s_sp s_isSp s_esS s_esc_u s_spoils s_bad m s i 0 [] 0 [] false b Ke := by
  intro n
  induction n with
  | zero =>
    intro w i b hn hd hi hb h
    cases w with
    | cons c w => simp at hn
    | nil =>
      have hl := drop_nil hd
      rw [urlM] at h
      exact ⟨1, fun p => (by exfalso; have := of_decide_eq_true p; omega), fun _ => by simpa using h⟩
  | succ n ih =>
    intro w i b hn hd hi hb h
    cases w with
    | nil =>
      have hl := drop_nil hd
      rw [urlM] at h
      exact ⟨1, fun p => (by exfalso; have := of_decide_eq_true p; omega), fun _ => by simpa using h⟩
    | cons c w =>
    obtain ⟨hl, hc, hnx, hlen⟩ := drop_cons hi.1 hd
    rw [List.length_cons] at hn hb
    rw [urlM] at h
    by_cases c1 : (c.toNat : Int) = 41
    · rw [if_pos c1] at h
      refine ⟨1, fun _ => ⟨⟨hi.1, hl⟩, fun p => ?_, fun _ => by simpa using h⟩, fun p => (by exfalso; have := of_decide_eq_false p; omega)⟩
      exact absurd (by rw [hc]; exact c1) (of_decide_eq_true p)
    · rw [if_neg c1] at h
      have nc1 : ¬ decide (((s.getD i.toNat 0).toNat : Int) ≠ 41) = false := fun p => (of_decide_eq_false p) (by rw [hc]; exact c1)
      cases q : mSp (c.toNat : Int) with
      | true =>
        rw [q, if_pos rfl] at h
        have h : Ke s (i + (nSp (c :: w) : Int)) 0 [] 0 [] false b := by simpa using h
        have hk := nSp_len (c :: w)
        rw [List.length_cons] at hk
        refine ⟨2, fun _ => ⟨⟨hi.1, hl⟩, fun _ => ⟨⟨hi.1, hl⟩, fun _ => ⟨hi, ?_⟩, fun p => ?_⟩, fun p => absurd p nc1⟩, fun p => (by exfalso; have := of_decide_eq_false p; omega)⟩
        · rw [hd]
          refine ⟨fun p => ⟨⟨by omega, of_decide_eq_true p⟩, fun _ => h, fun p2 => ⟨fun _ => ⟨⟨by omega, of_decide_eq_true p⟩, fun p3 => ?_, fun _ => h⟩, fun p3 => ?_⟩⟩, fun p => ⟨fun p2 => ?_, fun _ => h⟩⟩
          · rw [p2] at p3; cases p3
          · rw [p] at p3; cases p3
          · rw [p] at p2; cases p2
        · rw [hc, q] at p; cases p
      | false =>
        rw [q] at h
        simp only [Bool.false_eq_true, if_false] at h
        cases q2 : escS (c :: w) with
        | true =>
          rw [q2, if_pos rfl] at h
          have he := escM_len w
          have het := escM_txt w
          obtain ⟨m, hm⟩ := ih (w.drop (escM w).2) (i + 1 + ((escM w).2 : Int)) (b ++ (escM w).1) (by rw [List.length_drop]; omega) (by rw [dropN (by omega), hnx]) ⟨by omega, by omega, hs⟩ (by rw [List.length_append, List.length_drop]; omega) (by
            have : i + 1 + ((escM w).2 : Int) + ((urlM (w.drop (escM w).2)).2 : Int) = i + ((1 + (escM w).2 + (urlM (w.drop (escM w).2)).2 : Nat) : Int) := by omega
            rw [this, List.append_assoc]; exact h)
          refine ⟨m + 1, fun _ => ⟨⟨hi.1, hl⟩, fun _ => ⟨⟨hi.1, hl⟩, fun p => ?_, fun _ => ⟨hi, fun _ => ⟨⟨hi.1, hl, hs⟩, by omega, ?_⟩, fun p => ?_⟩⟩, fun p => absurd p nc1⟩, fun p => (by exfalso; have := of_decide_eq_false p; omega)⟩
          · rw [hc, q] at p; cases p
          · rw [hnx]; exact hm
          · rw [hd, q2] at p; cases p
        | false =>
          rw [q2] at h
          simp only [Bool.false_eq_true, if_false] at h
          cases q3 : spoils (c.toNat : Int) with
          | true =>
            rw [q3, if_pos rfl] at h
            refine ⟨1, fun _ => ⟨⟨hi.1, hl⟩, fun _ => ⟨⟨hi.1, hl⟩, fun p => ?_, fun _ => ⟨hi, fun p => ?_, fun _ => ⟨⟨hi.1, hl⟩, fun _ => by simpa using h, fun p => ?_⟩⟩⟩, fun p => absurd p nc1⟩, fun p => (by exfalso; have := of_decide_eq_false p; omega)⟩
            · rw [hc, q] at p; cases p
            · rw [hd, q2] at p; cases p
            · rw [hc, q3] at p; cases p
          | false =>
            rw [q3] at h
            simp only [Bool.false_eq_true, if_false] at h
            obtain ⟨m, hm⟩ := ih w (i + 1) (b ++ [c]) (by omega) hnx ⟨by omega, by omega, hs⟩ (by rw [List.length_append]; simp only [List.length_singleton]; omega) (by
              have : i + 1 + ((urlM w).2 : Int) = i + ((1 + (urlM w).2 : Nat) : Int) := by omega
              rw [this, List.append_assoc]; exact h)
            refine ⟨m + 1, fun _ => ⟨⟨hi.1, hl⟩, fun _ => ⟨⟨hi.1, hl⟩, fun p => ?_, fun _ => ⟨hi, fun p => ?_, fun _ => ⟨⟨hi.1, hl⟩, fun p => ?_, fun _ => ⟨⟨hi.1, hl⟩, ?_⟩⟩⟩⟩, fun p => absurd p nc1⟩, fun p => (by exfalso; have := of_decide_eq_false p; omega)⟩
            · rw [hc, q] at p; cases p
            · rw [hd, q2] at p; cases p
            · rw [hc, q3] at p; cases p
            · rw [hc, u8id]
              exact ⟨u8in c, by simp only [List.length_singleton]; omega, I64b (by omega), hm⟩
theorem urlM_len (w : Bt) : (urlM w).2 ≤ w.length := by
  induction hn : w.length using Nat.strongRecOn generalizing w with
  | _ n ih =>
    cases w with
    | nil => rw [urlM]; simp
    | cons c w =>
      have hk := nSp_len (c :: w)
      rw [List.length_cons] at hn hk
      rw [urlM]
      split
      · simp
      · split
        · simp only; omega
        · split
          · have he := escM_len w
            have := ih (w.drop (escM w).2).length (by rw [List.length_drop]; omega) (w.drop (escM w).2) rfl
            rw [List.length_drop] at this
            simp only
            omega
          · split
            · simp
            · have := ih w.length (by omega) w rfl
              simp only
              omega
def s_url : T_k_readURL := fun s i K => okP s i ∧ i ≤ s.length ∧ K (readUrlM (s.drop i.toNat)).1 (i + ((readUrlM (s.drop i.toNat)).2 : Int))
theorem p_url (s i K) (h : s_url s i K) : F_k_readURL s_sp s_isSp s_esS s_esc_u s_spoils s_bad s i K := by
  obtain ⟨hi, hl, h⟩ := h
  have ha := nSp_len (s.drop i.toNat)
  have hu := urlM_len ((s.drop i.toNat).drop (nSp (s.drop i.toNat)))
  rw [List.length_drop] at ha
  simp only [List.length_drop] at hu
  have hi0 := hi.1
  have hs := hi.2.2
  have eA : s.drop (i + (nSp (s.drop i.toNat) : Int)).toNat = (s.drop i.toNat).drop (nSp (s.drop i.toNat)) := dropN hi.1 _
  refine ⟨hi, p_urlL s hs _ _ _ _ [] (Nat.le_refl _) rfl ⟨by omega, by omega, hs⟩ (by rw [List.length_drop]; simp only [List.length_nil]; omega) ?_⟩
  rw [eA]
  unfold readUrlM at h
  simp only at h
  have eV : s.drop (i + (nSp (s.drop i.toNat) : Int) + ((urlM ((s.drop i.toNat).drop (nSp (s.drop i.toNat)))).2 : Int)).toNat = (s.drop i.toNat).drop (nSp (s.drop i.toNat) + (urlM ((s.drop i.toNat).drop (nSp (s.drop i.toNat)))).2) := by rw [dropN (by omega), eA, List.drop_drop]
  generalize (s.drop i.toNat).drop (nSp (s.drop i.toNat) + (urlM ((s.drop i.toNat).drop (nSp (s.drop i.toNat)))).2) = v at h eV
  generalize eJ : i + (nSp (s.drop i.toNat) : Int) + ((urlM ((s.drop i.toNat).drop (nSp (s.drop i.toNat)))).2 : Int) = j at eV
  have hj : 0 ≤ j ∧ j ≤ s.length := by omega
  cases v with
  | nil =>
    have hlj := drop_nil eV
    rw [if_pos rfl] at h
    refine ⟨fun _ => ?_, fun p => (by exfalso; have := of_decide_eq_false p; omega)⟩
    have e : i + ((nSp (s.drop i.toNat) + (urlM ((s.drop i.toNat).drop (nSp (s.drop i.toNat)))).2 : Nat) : Int) = j := by omega
    rw [e] at h
    exact h
  | cons c v =>
    obtain ⟨hl2, hc, hnx, _⟩ := drop_cons hj.1 eV
    rw [if_neg (by simp)] at h
    refine ⟨fun p => (by exfalso; have := of_decide_eq_true p; omega), fun _ => ⟨⟨hj.1, hl2⟩, fun p => ⟨I64b (by omega), ?_⟩, fun p => ⟨⟨by omega, by omega, hs⟩, ?_⟩⟩⟩
    · have p := of_decide_eq_true p
      rw [hc] at p
      rw [hb_cons, if_pos p] at h
      have e : i + ((nSp (s.drop i.toNat) + (urlM ((s.drop i.toNat).drop (nSp (s.drop i.toNat)))).2 + 1 : Nat) : Int) = j + 1 := by omega
      rw [e] at h
      exact h
    · have p := of_decide_eq_false p
      rw [hc] at p
      rw [hb_cons, if_neg p] at h
      have e : i + ((nSp (s.drop i.toNat) + (urlM ((s.drop i.toNat).drop (nSp (s.drop i.toNat)))).2 + badM (c :: v) : Nat) : Int) = j + (badM (c :: v) : Int) := by omega
      rw [e] at h
      rw [eV]
      exact h

/-! ### Named tokens -/
def s_low : T_i_lowerByte := fun c K => (0 ≤ c ∧ c ≤ 255) ∧ K (low c)
theorem p_low (c K) (h : s_low c K) : F_i_lowerByte c K := by
  obtain ⟨⟨h0, h1⟩, h⟩ := h
  unfold low at h
  unfold F_i_lowerByte
  simp only [decide_eq_true_eq, decide_eq_false_iff_not]
  refine ⟨fun q => ⟨fun q2 => ?_, fun q2 => ?_⟩, fun q => ?_⟩
  · rw [if_pos ⟨q, q2⟩] at h
    rw [u8w (by omega) (by omega)]
    exact h
  · rw [if_neg (by omega)] at h; exact h
  · rw [if_neg (by omega)] at h; exact h
theorem p_alikeL (a b : Bt) (ha : a.length ≤ 10000000) (hab : a.length = b.length) (Ke : Unit → Prop) (Kr : Bool → Prop) : ∀ (u v : Bt) (j : Int), a.drop j.toNat = u → b.drop j.toNat = v → 0 ≤ j → j ≤ a.length → (alikeM u v = true → Ke ()) → (alikeM u v = false → Kr false) → ∃ m, F_i_Alike_l4 s_low m a b (a.length : Int) j Ke Kr
  | [], v, j, hu, hv, h0, hj, k1, _ => by
    have hl := drop_nil hu
    have : v = [] := by rw [← hv]; exact List.drop_of_length_le (by omega)
    subst this
    exact ⟨1, fun p => (by exfalso; have := of_decide_eq_true p; omega), fun _ => k1 rfl⟩
  | c :: u, v, j, hu, hv, h0, hj, k1, k2 => by
    obtain ⟨hl, hc, hnx, _⟩ := drop_cons h0 hu
    cases v with
    | nil => have := drop_nil hv; exfalso; omega
    | cons d v =>
    obtain ⟨hl2, hc2, hnx2, _⟩ := drop_cons h0 hv
    by_cases q : low (c.toNat : Int) = low (d.toNat : Int)
    · have e : alikeM (c :: u) (d :: v) = alikeM u v := by rw [alikeM, decide_eq_true q, Bool.true_and]
      rw [e] at k1 k2
      obtain ⟨m, hm⟩ := p_alikeL a b ha hab Ke Kr u v (j + 1) hnx hnx2 (by omega) (by omega) k1 k2
      refine ⟨m + 1, fun _ => ⟨⟨h0, hl⟩, hb_in' a j, ⟨h0, hl2⟩, hb_in' b j, fun p => ?_, fun _ => ⟨I64b (by omega), hm⟩⟩, fun p => (by exfalso; have := of_decide_eq_false p; omega)⟩
      exact absurd (by rw [hc, hc2]; exact q) (of_decide_eq_true p)
    · have e : alikeM (c :: u) (d :: v) = false := by rw [alikeM, decide_eq_false q, Bool.false_and]
      refine ⟨1, fun _ => ⟨⟨h0, hl⟩, hb_in' a j, ⟨h0, hl2⟩, hb_in' b j, fun _ => k2 e, fun p => ?_⟩, fun p => (by exfalso; have := of_decide_eq_false p; omega)⟩
      exact absurd (of_decide_eq_false p) (by rw [hc, hc2]; exact fun x => x q)
where hb_in' (a : Bt) (j : Int) : 0 ≤ ((a.getD j.toNat 0).toNat : Int) ∧ ((a.getD j.toNat 0).toNat : Int) ≤ 255 := u8in _
theorem alikeM_len : ∀ (a b : Bt), alikeM a b = true → a.length = b.length
  | [], [], _ => rfl
  | [], _ :: _, h => by cases h
  | _ :: _, [], h => by cases h
  | a :: x, b :: y, h => by
    unfold alikeM at h
    rw [Bool.and_eq_true] at h
    rw [List.length_cons, List.length_cons, alikeM_len x y h.2]
def s_alike : T_i_Alike := fun a b K => a.length ≤ 10000000 ∧ K (alikeM a b)
theorem p_alike (a b K) (h : s_alike a b K) : F_i_Alike s_low a b K := by
  obtain ⟨ha, h⟩ := h
  refine ⟨fun p => ?_, fun p => ?_⟩
  · have p := of_decide_eq_true p
    cases q : alikeM a b with
    | false => rw [q] at h; exact h
    | true => exact absurd (congrArg (Int.ofNat) (alikeM_len a b q)) p
  · have p := of_decide_eq_false p
    have p : (a.length : Int) = b.length := by simpa using p
    exact p_alikeL a b ha (by omega) _ _ a b 0 rfl rfl (by omega) (by omega) (fun q => by rw [q] at h; exact h) (fun q => by rw [q] at h; exact h)
theorem nameM_txt (w : Bt) : (nameM w).1.length ≤ 4 * w.length := by
  induction hn : w.length using Nat.strongRecOn generalizing w with
  | _ n ih =>
    cases w with
    | nil => rw [nameM]; simp
    | cons c w =>
      rw [List.length_cons] at hn
      rw [nameM]
      split
      · split
        · have he := escM_len w
          have het := escM_txt w
          have := ih (w.drop (escM w).2).length (by rw [List.length_drop]; omega) (w.drop (escM w).2) rfl
          rw [List.length_drop] at this
          simp only [List.length_append]
          omega
        · have := ih w.length (by omega) w rfl
          simp only [List.length_cons]
          omega
      · simp
def s_named : T_k_readNamed := fun s i K => okP s i ∧ i ≤ s.length ∧ K (namedM (s.drop i.toNat)).1 (i + ((namedM (s.drop i.toNat)).2 : Int))
theorem p_named (s i K) (h : s_named s i K) : F_k_readNamed s_name s_byteAt s_alike s_sp s_isQ s_url s i K := by
  obtain ⟨hi, hl, h⟩ := h
  have hi0 := hi.1
  have hs := hi.2.2
  have hn := nameM_len (s.drop i.toNat)
  have ht := nameM_txt (s.drop i.toNat)
  rw [List.length_drop] at hn ht
  have eV := dropN hi0 (s := s) (nameM (s.drop i.toNat)).2
  unfold namedM at h
  simp only at h
  rw [← eV] at h
  generalize eJ : i + ((nameM (s.drop i.toNat)).2 : Int) = j at eV h ⊢
  have hj : 0 ≤ j ∧ j ≤ s.length := by omega
  refine ⟨hi, ?_⟩
  rw [eJ]
  refine ⟨hj.1, fun p => ?_, fun p => ?_⟩
  · rw [if_pos (of_decide_eq_true p)] at h
    rw [eJ] at h
    exact h
  · have p := of_decide_eq_false p
    rw [if_neg p] at h
    have p2 : hb (s.drop j.toNat) = 40 := by simpa using p
    have hl2 : j < s.length := by
      by_cases q : j < s.length
      · exact q
      · rw [List.drop_of_length_le (by omega)] at p2; exact absurd p2 (by decide)
    rw [← dropS hj.1] at h
    have eS := dropN (i := j + 1) (by omega) (s := s) (nSp (s.drop (j + 1).toNat))
    rw [← eS] at h
    have hsp := nSp_len (s.drop (j + 1).toNat)
    rw [List.length_drop] at hsp
    have fin : K (tk 2 (nameM (s.drop i.toNat)).1) (i + (((nameM (s.drop i.toNat)).2 + 1 : Nat) : Int)) → K (Tok.mk 2 (nameM (s.drop i.toNat)).1 0 [] false) (j + 1) := fun h => by
      have e : i + (((nameM (s.drop i.toNat)).2 + 1 : Nat) : Int) = j + 1 := by omega
      rw [e] at h; exact h
    refine ⟨I64b (by omega), by omega, fun q => ⟨⟨by omega, by omega, hs⟩, by omega, fun q2 => ⟨⟨by omega, by omega, hs⟩, by omega, ?_⟩, fun q2 => ?_⟩, fun q => ?_⟩
    · rw [q, q2] at h
      simp only [Bool.and_self, if_true] at h
      have e : i + (((nameM (s.drop i.toNat)).2 + 1 + (readUrlM (s.drop (j + 1).toNat)).2 : Nat) : Int) = j + 1 + ((readUrlM (s.drop (j + 1).toNat)).2 : Int) := by omega
      rw [e] at h
      exact h
    · rw [q, q2] at h
      simp only [Bool.and_false, Bool.false_eq_true, if_false] at h
      exact fin h
    · rw [q] at h
      simp only [Bool.false_and, Bool.false_eq_true, if_false] at h
      exact fin h
end Go.Proofs.YtkmgbibhkilffaaGreatDoor

namespace Go.Proofs.YtkmgbibhkilffaaGreatDoor
open Go.Vm Go.Sx Go.RowKit

def AllDg (w : Bt) : Prop := ∀ b, b ∈ w → mD (b.toNat : Int) = true
theorem digs_all (w : Bt) : AllDg (digs w) := fun b hb => by
  unfold digs at hb
  induction w with
  | nil => cases hb
  | cons c w ih =>
    rw [List.takeWhile_cons] at hb
    split at hb
    · rcases List.mem_cons.mp hb with rfl | hb
      · assumption
      · exact ih hb
    · cases hb
theorem digs_len (w : Bt) : (digs w).length ≤ w.length := (List.takeWhile_sublist _).length_le
theorem digs_nil : digs [] = [] := rfl
theorem digs_pos {c : UInt8} {w : Bt} (h : mD (c.toNat : Int) = true) : digs (c :: w) = c :: digs w := by unfold digs; rw [List.takeWhile_cons, if_pos h]
theorem digs_neg {c : UInt8} {w : Bt} (h : mD (c.toNat : Int) = false) : digs (c :: w) = [] := by unfold digs; rw [List.takeWhile_cons, if_neg (by rw [h]; decide)]
theorem take_digs (w : Bt) : w.take (digs w).length = digs w := by
  unfold digs
  induction w with
  | nil => rfl
  | cons c w ih =>
    rw [List.takeWhile_cons]
    split
    · rw [List.length_cons, List.take_succ_cons, ih]
    · rfl
theorem cut_digs {s : Bt} {i : Int} (h : 0 ≤ i) : (s.drop i.toNat).take ((i + ((digs (s.drop i.toNat)).length : Int)).toNat - i.toNat) = digs (s.drop i.toNat) := by
  have e : (i + ((digs (s.drop i.toNat)).length : Int)).toNat - i.toNat = (digs (s.drop i.toNat)).length := by omega
  rw [e, take_digs]
theorem p_dgL (s : Bt) (hs : s.length ≤ 1000000) (x : Int) (Ke : Int → Bt → Int → Prop) : ∀ (w : Bt) (i : Int), s.drop i.toNat = w → okP s i → Ke x s (i + ((digs w).length : Int)) → ∃ m, F_k_rNu_2_l2 s_byteAt s_isD m x s i Ke
  | [], i, hd, hi, h => by
    refine ⟨1, hi.1, fun q => ?_, fun _ => ?_⟩
    · rw [hd] at q; exact absurd q (by decide)
    · simpa [digs_nil] using h
  | c :: w, i, hd, hi, h => by
    obtain ⟨hl, hc, hn, _⟩ := drop_cons hi.1 hd
    cases q : mD (c.toNat : Int) with
    | false =>
      rw [digs_neg q] at h
      refine ⟨1, hi.1, fun q2 => ?_, fun _ => ?_⟩
      · rw [hd, hb_cons, q] at q2; cases q2
      · simpa using h
    | true =>
      rw [digs_pos q] at h
      obtain ⟨m, hm⟩ := p_dgL s hs x Ke w (i + 1) hn ⟨by omega, by omega, hs⟩ (by
        have : i + 1 + ((digs w).length : Int) = i + ((c :: digs w).length : Int) := by rw [List.length_cons]; omega
        rw [this]; exact h)
      refine ⟨m + 1, hi.1, fun _ => ⟨I64b (by omega), hm⟩, fun q2 => ?_⟩
      rw [hd, hb_cons, q] at q2; cases q2

/-! ### Whole numbers -/
theorem mD_in {c : UInt8} (h : mD (c.toNat : Int) = true) : 48 ≤ (c.toNat : Int) ∧ (c.toNat : Int) ≤ 57 := by
  unfold mD at h
  simp only [Bool.and_eq_true, decide_eq_true_eq] at h
  exact h
theorem w8' {n : Int} (h0 : 0 ≤ n) (h1 : n ≤ 255) : IntKind.u8.wrap n = n := by rw [IntKind.wrap_u8]; omega
theorem wholeF_in {a : Int} {c : UInt8} (h0 : 0 ≤ a) (h : mD (c.toNat : Int) = true) : 0 ≤ wholeF a c ∧ wholeF a c ≤ 8000 := by
  have := mD_in h
  unfold wholeF
  omega
theorem p_whL (s : Bt) (hs : s.length ≤ 1000000) (ha : AllDg s) (Ke : Int → Prop) : ∀ (w : Bt) (i a : Int), s.drop i.toNat = w → 0 ≤ i → i ≤ s.length → 0 ≤ a → a ≤ 8000 → Ke (w.foldl wholeF a) → ∃ m, F_k_wNu_l3 m s a (s.length : Int) i Ke
  | [], i, a, hd, h0, hi, ha0, ha1, h => by
    have := drop_nil hd
    exact ⟨1, fun q => (by exfalso; have := of_decide_eq_true q; omega), fun _ => h⟩
  | c :: w, i, a, hd, h0, hi, ha0, ha1, h => by
    obtain ⟨hl, hc, hn, _⟩ := drop_cons h0 hd
    have hm : c ∈ s := List.mem_of_mem_drop (by rw [hd]; exact List.mem_cons_self ..)
    have hb := mD_in (ha c hm)
    have hf := wholeF_in ha0 (ha c hm)
    obtain ⟨m, hm⟩ := p_whL s hs ha Ke w (i + 1) (wholeF a c) hn (by omega) (by omega) hf.1 hf.2 h
    refine ⟨m + 1, fun _ => ⟨I64b (by omega), ⟨h0, hl⟩, ?_⟩, fun q => (by exfalso; have := of_decide_eq_false q; omega)⟩
    rw [hc, w8' (by omega) (by omega)]
    refine ⟨I64b (by omega), I64b (by omega), I64b (by omega), ?_⟩
    have e : (if (8000 : Int) < 10 * a + ((c.toNat : Int) - 48) then (8000 : Int) else 10 * a + ((c.toNat : Int) - 48)) = wholeF a c := by unfold wholeF; split <;> omega
    rw [e]
    exact hm
def s_whole : T_k_wNu := fun w K => (AllDg w ∧ w.length ≤ 1000000) ∧ K (wholeM w)
theorem p_whole (w K) (h : s_whole w K) : F_k_wNu w K := p_whL w h.1.2 h.1.1 K w 0 0 rfl (by omega) (by omega) (by omega) (by omega) h.2
theorem whole_in : ∀ (w : Bt) (a : Int), AllDg w → 0 ≤ a → a ≤ 8000 → 0 ≤ w.foldl wholeF a ∧ w.foldl wholeF a ≤ 8000
  | [], a, _, h0, h1 => ⟨h0, h1⟩
  | c :: w, a, hw, h0, h1 => by
    have hf := wholeF_in h0 (hw c (List.mem_cons_self ..))
    exact whole_in w _ (fun b hb => hw b (List.mem_cons_of_mem _ hb)) hf.1 hf.2

/-! ### Zeros, and what is cut -/
theorem p_trL : ∀ (s : Bt) (Ke : Bt → Prop), Ke (zeros0 s) → ∃ m, F_gs_tLB_l1 m s 48 Ke
  | [], Ke, h => ⟨1, fun q => (by simp at q), fun _ => h⟩
  | b :: s, Ke, h => by
    cases q : b == 48 with
    | false =>
      have : zeros0 (b :: s) = b :: s := by unfold zeros0; rw [List.dropWhile_cons, if_neg (by rw [q]; decide)]
      rw [this] at h
      refine ⟨1, fun _ => ⟨⟨by omega, by simp⟩, fun q2 => ?_, fun _ => h⟩, fun q2 => ?_⟩
      · exfalso
        have q2 := of_decide_eq_true q2
        have : b = 48 := UInt8.toNat_inj.mp (by show b.toNat = 48; have : (b.toNat : Int) = 48 := q2; omega)
        rw [this] at q
        exact absurd q (by decide)
      · exfalso; have := of_decide_eq_false q2; simp at this
    | true =>
      have e : b = 48 := eq_of_beq q
      have : zeros0 (b :: s) = zeros0 s := by unfold zeros0; rw [List.dropWhile_cons, if_pos q]
      rw [this] at h
      obtain ⟨m, hm⟩ := p_trL s Ke h
      subst e
      exact ⟨m + 1, fun _ => ⟨⟨by omega, by simp⟩, fun _ => ⟨⟨by omega, by rw [List.length_cons]; omega⟩, hm⟩, fun q2 => (by cases (show true = false from q2))⟩, fun q2 => (by exfalso; have := of_decide_eq_false q2; simp at this)⟩
def s_trimB : T_gs_tLB := fun s c K => c = 48 ∧ K (zeros0 s)
theorem p_trimB (s c K) (h : s_trimB s c K) : F_gs_tLB s c K := by
  obtain ⟨rfl, h⟩ := h
  exact p_trL s _ h
def s_trim : T_gs_TrimLeft := fun s c K => c = [48] ∧ K (zeros0 s)
theorem p_trim (s c K) (h : s_trim s c K) : F_gs_TrimLeft s_trimB s c K := by
  obtain ⟨rfl, h⟩ := h
  refine ⟨fun _ => ⟨fun q => (by exact absurd q (by decide)), fun _ => ⟨fun _ => ⟨⟨by omega, by decide⟩, fun _ => ⟨⟨by omega, by decide⟩, rfl, h⟩, fun q => absurd q (by decide)⟩, fun q => absurd q (by decide)⟩⟩, fun q => ?_⟩
  have : s = [] := eq_of_beq q
  subst this
  exact h
theorem zeros0_all {w : Bt} (h : AllDg w) : AllDg (zeros0 w) := fun b hb => h b ((List.dropWhile_sublist _).subset hb)
theorem zeros0_len (w : Bt) : (zeros0 w).length ≤ w.length := (List.dropWhile_sublist _).length_le
theorem p_cutL (s : Bt) (hs : s.length ≤ 1000000) (ha : AllDg s) (A : T_gs_TrimLeft) (p : Int) (Ke : Int → Prop) : ∀ (k : Nat) (w : Bt) (i : Nat) (a : Int), s.drop i = w → (i : Int) + k = p → i + k ≤ 13 → 0 ≤ a → a < 10 ^ i → Ke (firstM k w a) → ∃ m, F_k_cNu_l9 A m s a p (i : Int) Ke
  | 0, w, i, a, hd, hp, h13, ha0, ha1, h => ⟨1, fun q => (by exfalso; have := of_decide_eq_true q; omega), fun _ => (by cases w <;> exact h)⟩
  | k + 1, w, i, a, hd, hp, h13, ha0, ha1, h => by
    have e10 : (10 : Int) ^ i ≤ 10 ^ 13 := by
      have := Nat.pow_le_pow_right (n := 10) (by decide) (show i ≤ 13 by omega)
      exact_mod_cast this
    have e13 : (10 : Int) ^ 13 = 10000000000000 := by decide
    have es : (10 : Int) ^ (i + 1) = 10 ^ i * 10 := Int.pow_succ _ _
    cases w with
    | nil =>
      have hl : s.length ≤ i := by
        have := congrArg List.length hd
        rw [List.length_drop, List.length_nil] at this
        omega
      obtain ⟨m, hm⟩ := p_cutL s hs ha A p Ke k [] (i + 1) (a * 10) (List.drop_of_length_le (by omega)) (by omega) (by omega) (by omega) (by rw [es]; omega) h
      refine ⟨m + 1, fun _ => ⟨by unfold I64; omega, fun q => (by exfalso; have := of_decide_eq_true q; omega), fun _ => ⟨I64b (by omega), ?_⟩⟩, fun q => (by exfalso; have := of_decide_eq_false q; omega)⟩
      exact hm
    | cons c w =>
      have hd2 : s.drop (i : Int).toNat = c :: w := hd
      obtain ⟨hl, hc, hn, _⟩ := drop_cons (by omega) hd2
      have hmem : c ∈ s := List.mem_of_mem_drop (by rw [hd]; exact List.mem_cons_self ..)
      have hb := mD_in (ha c hmem)
      obtain ⟨m, hm⟩ := p_cutL s hs ha A p Ke k w (i + 1) (a * 10 + ((c.toNat : Int) - 48)) hn (by omega) (by omega) (by omega) (by rw [es]; omega) h
      refine ⟨m + 1, fun _ => ⟨by unfold I64; omega, fun _ => ⟨⟨by omega, hl⟩, ?_⟩, fun q => (by exfalso; have := of_decide_eq_false q; omega)⟩, fun q => (by exfalso; have := of_decide_eq_false q; omega)⟩
      rw [hc, w8' (by omega) (by omega)]
      exact ⟨I64b (by omega), by unfold I64; omega, I64b (by omega), hm⟩
def s_cut : T_k_cNu := fun w p K => (AllDg w ∧ w.length ≤ 1000000 ∧ -1000000 ≤ p ∧ p ≤ 2000000) ∧ K (cutM w p)
theorem p_cut (w p K) (h : s_cut w p K) : F_k_cNu s_trim w p K := by
  obtain ⟨⟨ha, hl, h0, h1⟩, h⟩ := h
  have hz := zeros0_len w
  unfold cutM at h
  simp only at h
  refine ⟨rfl, I64b (by omega), I64b (by omega), fun q => ⟨fun q2 => ?_, fun q2 => ⟨fun q3 => ?_, fun q3 => ?_⟩⟩, fun q => ?_⟩
  · rw [if_pos (Or.inr (of_decide_eq_true q2))] at h; exact h
  · have q2 := of_decide_eq_false q2
    have q : zeros0 w ≠ [] := fun e => by rw [e] at q; cases q
    rw [if_neg (fun x => x.elim q q2), if_pos (of_decide_eq_true q3)] at h; exact h
  · have q2 := of_decide_eq_false q2
    have q3 := of_decide_eq_false q3
    have q : zeros0 w ≠ [] := fun e => by rw [e] at q; cases q
    rw [if_neg (fun x => x.elim q q2), if_neg q3] at h
    refine p_cutL (zeros0 w) (by omega) (zeros0_all ha) _ _ _ (p - ((w.length : Int) - ((zeros0 w).length : Int))).toNat (zeros0 w) 0 0 rfl (by omega) (by omega) (by omega) (by decide) ?_
    have e : ∀ n : Int, (if (1000000000000 : Int) < n then (1000000000000 : Int) else n) = min n 1000000000000 := fun n => by split <;> omega
    rw [e]
    exact h
  · rw [if_pos (Or.inl (eq_of_beq q))] at h; exact h

/-! ### A number -/
abbrev lpN := F_k_rNu_2_l2 s_byteAt s_isD
theorem firstM_in : ∀ (k : Nat) (w : Bt) (a : Int), AllDg w → 0 ≤ a → 0 ≤ firstM k w a
  | 0, w, a, _, h => by cases w <;> exact h
  | k + 1, [], a, hw, h => by rw [firstM]; exact firstM_in k [] _ hw (by omega)
  | k + 1, c :: w, a, hw, h => by
    have := mD_in (hw c (List.mem_cons_self ..))
    rw [firstM]
    exact firstM_in k w _ (fun b hb => hw b (List.mem_cons_of_mem _ hb)) (by omega)
theorem cutM_in {w : Bt} (h : AllDg w) (p : Int) : 0 ≤ cutM w p ∧ cutM w p ≤ 1000000000000 := by
  unfold cutM
  simp only
  split
  · omega
  · split
    · omega
    · have := firstM_in (p - ((w.length : Int) - ((zeros0 w).length : Int))).toNat (zeros0 w) 0 (zeros0_all h) (by omega)
      omega
/-- What is done with the digits and the exponent. -/
def restN (W V : Bt) (c : Int) (K : Int → Bool → Int → Prop) (e : Int) (b : Bool) (j : Int) : Prop :=
  W.length + V.length ≤ 1099511627776 ∧ (I64 ((W.length : Int) + e) ∧ (I64 (((W.length : Int) + e) + 3) ∧ (s_cut (W ++ V) (((W.length : Int) + e) + 3) (fun y => ((decide (c = 45)) = true → (I64 (0 - y) ∧ K (0 - y) b j)) ∧ ((decide (c = 45)) = false → K y b j)))))
theorem restN_ok {W V : Bt} {c : Int} {K : Int → Bool → Int → Prop} {e : Int} {b : Bool} {j : Int} (hW : AllDg W) (hV : AllDg V) (lW : W.length ≤ 400000) (lV : V.length ≤ 400000) (he : -10000 ≤ e ∧ e ≤ 10000)
    (h : K (if c = 45 then 0 - cutM (W ++ V) ((W.length : Int) + e + 3) else cutM (W ++ V) ((W.length : Int) + e + 3)) b j) : restN W V c K e b j := by
  have hA : AllDg (W ++ V) := fun x hx => (List.mem_append.mp hx).elim (hW x) (hV x)
  have hc := cutM_in hA ((W.length : Int) + e + 3)
  refine ⟨by omega, I64b (by omega), I64b (by omega), ⟨hA, by rw [List.length_append]; omega, by omega, by omega⟩, fun q => ⟨by unfold I64; omega, ?_⟩, fun q => ?_⟩
  · rw [if_pos (of_decide_eq_true q)] at h; exact h
  · rw [if_neg (of_decide_eq_false q)] at h; exact h
/-- The exponent's part. -/
theorem p_expT {s : Bt} {j : Int} (hs : s.length ≤ 400000) (h0 : 0 ≤ j) (hj : j ≤ s.length) (R : Int → Bool → Int → Prop) (b : Bool) (h : R (expM (s.drop j.toNat)).1 (b && decide ((expM (s.drop j.toNat)).2 = 0)) (j + ((expM (s.drop j.toNat)).2 : Int))) :
    (s_byteAt s j (fun y11 => (s_isExp y11 (fun y12 => ((y12 = true → (I64 (j + 1) ∧ (s_digS s (j + 1) (fun y13 => ((y13 = true → (I64 (j + 1) ∧ (s_byteAt s (j + 1) (fun y14 => (s_byteAt s (j + 1) (fun y15 => (s_isSign y15 (fun y16 => ((y16 = true → (I64 ((j + 1) + 1) ∧ (∃ m, lpN m ((j + 1) + 1) s ((j + 1) + 1) (fun y17 y18 y19 => ((0 ≤ y17 ∧ y17 ≤ y19 ∧ y19 ≤ (y18.length : Int)) ∧ (s_whole ((y18.drop y17.toNat).take (y19.toNat - y17.toNat)) (fun y20 => (((decide (y14 = 45)) = true → (I64 (0 - y20) ∧ R (0 - y20) false y19)) ∧ ((decide (y14 = 45)) = false → R y20 false y19))))))))) ∧ (y16 = false → (∃ m, lpN m (j + 1) s (j + 1) (fun y23 y24 y25 => ((0 ≤ y23 ∧ y23 ≤ y25 ∧ y25 ≤ (y24.length : Int)) ∧ (s_whole ((y24.drop y23.toNat).take (y25.toNat - y23.toNat)) (fun y26 => (((decide (y14 = 45)) = true → (I64 (0 - y26) ∧ R (0 - y26) false y25)) ∧ ((decide (y14 = 45)) = false → R y26 false y25))))))))))))))))) ∧ (y13 = false → R 0 b j)))))) ∧ (y12 = false → R 0 b j)))))) := by
  have hok : ∀ x : Int, 0 ≤ x → x ≤ s.length + 10 → okP s x := fun x a b => ⟨a, by omega, by omega⟩
  have none : (expM (s.drop j.toNat)) = (0, 0) → R 0 b j := fun e => by rw [e] at h; simpa using h
  refine ⟨h0, fun q => ⟨I64b (by omega), hok _ (by omega) (by omega), fun q2 => ⟨I64b (by omega), by omega, by omega, fun q3 => ⟨I64b (by omega), ?_⟩, fun q3 => ?_⟩, fun q2 => none ?_⟩, fun q => none ?_⟩
  · rw [dropS h0] at q2 q3
    have hlen : j + 1 < s.length := by
      by_cases q4 : j + 1 < s.length
      · exact q4
      · exfalso
        rw [← dropS h0, List.drop_of_length_le (by omega)] at q3
        exact absurd q3 (by decide)
    have hd := digs_len (s.drop (j + 1 + 1).toNat)
    rw [List.length_drop] at hd
    have e : expM (s.drop j.toNat) = (if hb (s.drop j.toNat).tail = 45 then 0 - wholeM (digs (s.drop (j + 1 + 1).toNat)) else wholeM (digs (s.drop (j + 1 + 1).toNat)), 2 + (digs (s.drop (j + 1 + 1).toNat)).length) := by
      unfold expM
      rw [q, q2, Bool.and_self, if_pos rfl]
      simp only [q3, if_true]
      rw [dropS (by omega : 0 ≤ j + 1), dropS h0]
    rw [e] at h
    refine p_dgL s (by omega) _ _ _ _ rfl (hok _ (by omega) (by omega)) ⟨⟨by omega, by omega, by omega⟩, ?_⟩
    rw [cut_digs (by omega)]
    have hwh := whole_in (digs (s.drop (j + 1 + 1).toNat)) 0 (digs_all _) (by omega) (by omega)
    have e2 : j + ((2 + (digs (s.drop (j + 1 + 1).toNat)).length : Nat) : Int) = j + 1 + 1 + ((digs (s.drop (j + 1 + 1).toNat)).length : Int) := by omega
    rw [e2] at h
    refine ⟨⟨digs_all _, by omega⟩, fun q4 => ⟨I64b (by show _ ∧ _; unfold wholeM; omega), ?_⟩, fun q4 => ?_⟩
    · rw [dropS h0] at q4
      rw [if_pos (of_decide_eq_true q4)] at h
      simpa using h
    · rw [dropS h0] at q4
      rw [if_neg (of_decide_eq_false q4)] at h
      simpa using h
  · rw [dropS h0] at q2 q3
    have hlen : j + 1 ≤ s.length := by
      by_cases q4 : j + 1 ≤ s.length
      · exact q4
      · exfalso
        unfold digS at q2
        rw [← dropS h0, List.drop_of_length_le (by omega)] at q2
        exact absurd q2 (by decide)
    have hd := digs_len (s.drop (j + 1).toNat)
    rw [List.length_drop] at hd
    have e : expM (s.drop j.toNat) = (if hb (s.drop j.toNat).tail = 45 then 0 - wholeM (digs (s.drop (j + 1).toNat)) else wholeM (digs (s.drop (j + 1).toNat)), 1 + (digs (s.drop (j + 1).toNat)).length) := by
      unfold expM
      rw [q, q2, Bool.and_self, if_pos rfl]
      simp only [q3, Bool.false_eq_true, if_false]
      rw [dropS h0]
    rw [e] at h
    refine p_dgL s (by omega) _ _ _ _ rfl (hok _ (by omega) (by omega)) ⟨⟨by omega, by omega, by omega⟩, ?_⟩
    rw [cut_digs (by omega)]
    have hwh := whole_in (digs (s.drop (j + 1).toNat)) 0 (digs_all _) (by omega) (by omega)
    have e2 : j + ((1 + (digs (s.drop (j + 1).toNat)).length : Nat) : Int) = j + 1 + ((digs (s.drop (j + 1).toNat)).length : Int) := by omega
    rw [e2] at h
    refine ⟨⟨digs_all _, by omega⟩, fun q4 => ⟨I64b (by show _ ∧ _; unfold wholeM; omega), ?_⟩, fun q4 => ?_⟩
    · rw [dropS h0] at q4
      rw [if_pos (of_decide_eq_true q4)] at h
      simpa using h
    · rw [dropS h0] at q4
      rw [if_neg (of_decide_eq_false q4)] at h
      simpa using h
  · rw [dropS h0] at q2
    unfold expM
    rw [q2, Bool.and_false, if_neg (by decide)]
  · unfold expM
    rw [q, Bool.false_and, if_neg (by decide)]
theorem exp_in (w : Bt) : -10000 ≤ (expM w).1 ∧ (expM w).1 ≤ 10000 := by
  unfold expM
  split
  · have h := fun v : Bt => whole_in (digs v) 0 (digs_all _) (by omega) (by omega)
    simp only
    split
    · have := h (if mSg (hb w.tail) = true then w.tail.tail else w.tail)
      unfold wholeM
      omega
    · have := h (if mSg (hb w.tail) = true then w.tail.tail else w.tail)
      unfold wholeM
      omega
  · decide
def s_num : T_k_rNu := fun s i K => (0 ≤ i ∧ i ≤ s.length ∧ s.length ≤ 400000) ∧ K (numM (s.drop i.toNat)).1 (numM (s.drop i.toNat)).2.1 (i + ((numM (s.drop i.toNat)).2.2 : Int))
theorem p_num (s i K) (h : s_num s i K) : F_k_rNu s_frac s_byteAt s_isExp s_digS s_whole s_cut s_isSign s_isD s i K := by
  obtain ⟨⟨h0, hi, hs⟩, h⟩ := h
  generalize hw : s.drop i.toNat = w at h
  have hbw : hb (s.drop i.toNat) = hb w := by rw [hw]
  refine ⟨h0, h0, fun q => ⟨I64b (by omega), ?_⟩, fun q => ?_⟩
  · rw [hw] at q
    have hl : i < s.length := by
      by_cases q2 : i < s.length
      · exact q2
      · exfalso
        rw [← hw, List.drop_of_length_le (by omega)] at q
        exact absurd q (by decide)
    have hsn : signN w = 1 := by unfold signN; rw [if_pos q]
    have hd1 := digs_len (s.drop (i + 1).toNat)
    rw [List.length_drop] at hd1
    have eS : w.drop (signN w) = s.drop (i + 1).toNat := by rw [hsn, ← hw, List.drop_one, dropS h0]
    have eW : wholeD w = digs (s.drop (i + 1).toNat) := by unfold wholeD; rw [eS]
    have eB : s.drop (i + 1 + ((digs (s.drop (i + 1).toNat)).length : Int)).toNat = w.drop (behindW w) := by
      unfold behindW
      rw [eW, ← List.drop_drop, eS]
      exact dropN (by omega) _
    refine p_dgL s (by omega) _ _ _ _ rfl ⟨by omega, by omega, by omega⟩ ⟨⟨by omega, by omega, by omega⟩, ⟨by omega, by omega, by omega⟩, fun q7 => ⟨I64b (by omega), ?_⟩, fun q7 => ?_⟩
    · rw [eB] at q7
      have hl1 : i + 1 + ((digs (s.drop (i + 1).toNat)).length : Int) < s.length := by
        by_cases q8 : i + 1 + ((digs (s.drop (i + 1).toNat)).length : Int) < s.length
        · exact q8
        · exfalso
          rw [← eB, List.drop_of_length_le (by omega)] at q7
          exact absurd q7 (by decide)
      have hd2 := digs_len (s.drop (i + 1 + ((digs (s.drop (i + 1).toNat)).length : Int) + 1).toNat)
      rw [List.length_drop] at hd2
      have eV : fracD w = digs (s.drop (i + 1 + ((digs (s.drop (i + 1).toNat)).length : Int) + 1).toNat) := by
        unfold fracD
        rw [if_pos q7, dropS (by omega), eB]
      have eF : s.drop (i + 1 + ((digs (s.drop (i + 1).toNat)).length : Int) + 1 + ((digs (s.drop (i + 1 + ((digs (s.drop (i + 1).toNat)).length : Int) + 1).toNat)).length : Int)).toNat = w.drop (behindF w) := by
        unfold behindF
        rw [if_pos q7, eV, ← List.drop_drop, ← eB, dropN (by omega), dropS (by omega), ← List.drop_drop, List.drop_one]
      refine p_dgL s (by omega) _ _ _ _ rfl ⟨by omega, by omega, by omega⟩ ⟨⟨by omega, by omega, by omega⟩, ?_⟩
      rw [cut_digs (by omega), cut_digs (by omega)]
      have hx := exp_in (w.drop (behindF w))
      refine p_expT hs (by omega) (by omega) (restN (digs (s.drop (i + 1).toNat)) (digs (s.drop (i + 1 + ((digs (s.drop (i + 1).toNat)).length : Int) + 1).toNat)) (hb (s.drop i.toNat)) K) false ?_
      rw [eF]
      refine restN_ok (digs_all _) (digs_all _) (by omega) (by omega) hx ?_
      unfold numM behindE at h
      simp only [q7, Bool.not_true, Bool.false_and] at h ⊢
      rw [eW, eV] at h
      rw [hbw]
      have ej : i + ((behindF w + (expM (w.drop (behindF w))).2 : Nat) : Int) = i + 1 + ((digs (s.drop (i + 1).toNat)).length : Int) + 1 + ((digs (s.drop (i + 1 + ((digs (s.drop (i + 1).toNat)).length : Int) + 1).toNat)).length : Int) + ((expM (w.drop (behindF w))).2 : Int) := by
        have : behindF w = behindW w + (1 + (fracD w).length) := by unfold behindF; rw [if_pos q7]
        have h3 : behindW w = signN w + (wholeD w).length := rfl
        rw [eV] at this
        rw [eW, hsn] at h3
        omega
      rw [← ej]
      exact h
    · rw [eB] at q7
      have eF : s.drop (i + 1 + ((digs (s.drop (i + 1).toNat)).length : Int)).toNat = w.drop (behindF w) := by
        unfold behindF
        rw [if_neg (by rw [q7]; decide), Nat.add_zero, eB]
      have eV : fracD w = [] := by
        unfold fracD
        rw [if_neg (by rw [q7]; decide)]
      rw [cut_digs (by omega)]
      have hx := exp_in (w.drop (behindF w))
      refine p_expT hs (by omega) (by omega) (restN (digs (s.drop (i + 1).toNat)) [] (hb (s.drop i.toNat)) K) true ?_
      rw [eF]
      refine restN_ok (digs_all _) (fun b hb => by cases hb) (by omega) (Nat.zero_le _) hx ?_
      unfold numM behindE at h
      simp only [q7, Bool.not_false, Bool.true_and] at h ⊢
      rw [eW, eV] at h
      rw [hbw]
      have ej : i + ((behindF w + (expM (w.drop (behindF w))).2 : Nat) : Int) = i + 1 + ((digs (s.drop (i + 1).toNat)).length : Int) + ((expM (w.drop (behindF w))).2 : Int) := by
        have : behindF w = behindW w := by unfold behindF; rw [if_neg (by rw [q7]; decide), Nat.add_zero]
        have h3 : behindW w = signN w + (wholeD w).length := rfl
        rw [eW, hsn] at h3
        omega
      rw [← ej]
      exact h
  · rw [hw] at q
    have hsn : signN w = 0 := by unfold signN; rw [if_neg (by rw [q]; decide)]
    have hd1 := digs_len (s.drop i.toNat)
    rw [List.length_drop] at hd1
    have eS : w.drop (signN w) = s.drop i.toNat := by rw [hsn, ← hw, List.drop_zero]
    have eW : wholeD w = digs (s.drop i.toNat) := by unfold wholeD; rw [eS]
    have eB : s.drop (i + ((digs (s.drop i.toNat)).length : Int)).toNat = w.drop (behindW w) := by
      unfold behindW
      rw [eW, ← List.drop_drop, eS]
      exact dropN (by omega) _
    refine p_dgL s (by omega) _ _ _ _ rfl ⟨by omega, by omega, by omega⟩ ⟨⟨by omega, by omega, by omega⟩, ⟨by omega, by omega, by omega⟩, fun q7 => ⟨I64b (by omega), ?_⟩, fun q7 => ?_⟩
    · rw [eB] at q7
      have hl1 : i + ((digs (s.drop i.toNat)).length : Int) < s.length := by
        by_cases q8 : i + ((digs (s.drop i.toNat)).length : Int) < s.length
        · exact q8
        · exfalso
          rw [← eB, List.drop_of_length_le (by omega)] at q7
          exact absurd q7 (by decide)
      have hd2 := digs_len (s.drop (i + ((digs (s.drop i.toNat)).length : Int) + 1).toNat)
      rw [List.length_drop] at hd2
      have eV : fracD w = digs (s.drop (i + ((digs (s.drop i.toNat)).length : Int) + 1).toNat) := by
        unfold fracD
        rw [if_pos q7, dropS (by omega), eB]
      have eF : s.drop (i + ((digs (s.drop i.toNat)).length : Int) + 1 + ((digs (s.drop (i + ((digs (s.drop i.toNat)).length : Int) + 1).toNat)).length : Int)).toNat = w.drop (behindF w) := by
        unfold behindF
        rw [if_pos q7, eV, ← List.drop_drop, ← eB, dropN (by omega), dropS (by omega), ← List.drop_drop, List.drop_one]
      refine p_dgL s (by omega) _ _ _ _ rfl ⟨by omega, by omega, by omega⟩ ⟨⟨by omega, by omega, by omega⟩, ?_⟩
      rw [cut_digs (by omega), cut_digs (by omega)]
      have hx := exp_in (w.drop (behindF w))
      refine p_expT hs (by omega) (by omega) (restN (digs (s.drop i.toNat)) (digs (s.drop (i + ((digs (s.drop i.toNat)).length : Int) + 1).toNat)) (hb (s.drop i.toNat)) K) false ?_
      rw [eF]
      refine restN_ok (digs_all _) (digs_all _) (by omega) (by omega) hx ?_
      unfold numM behindE at h
      simp only [q7, Bool.not_true, Bool.false_and] at h ⊢
      rw [eW, eV] at h
      rw [hbw]
      have ej : i + ((behindF w + (expM (w.drop (behindF w))).2 : Nat) : Int) = i + ((digs (s.drop i.toNat)).length : Int) + 1 + ((digs (s.drop (i + ((digs (s.drop i.toNat)).length : Int) + 1).toNat)).length : Int) + ((expM (w.drop (behindF w))).2 : Int) := by
        have : behindF w = behindW w + (1 + (fracD w).length) := by unfold behindF; rw [if_pos q7]
        have h3 : behindW w = signN w + (wholeD w).length := rfl
        rw [eV] at this
        rw [eW, hsn] at h3
        omega
      rw [← ej]
      exact h
    · rw [eB] at q7
      have eF : s.drop (i + ((digs (s.drop i.toNat)).length : Int)).toNat = w.drop (behindF w) := by
        unfold behindF
        rw [if_neg (by rw [q7]; decide), Nat.add_zero, eB]
      have eV : fracD w = [] := by
        unfold fracD
        rw [if_neg (by rw [q7]; decide)]
      rw [cut_digs (by omega)]
      have hx := exp_in (w.drop (behindF w))
      refine p_expT hs (by omega) (by omega) (restN (digs (s.drop i.toNat)) [] (hb (s.drop i.toNat)) K) true ?_
      rw [eF]
      refine restN_ok (digs_all _) (fun b hb => by cases hb) (by omega) (Nat.zero_le _) hx ?_
      unfold numM behindE at h
      simp only [q7, Bool.not_false, Bool.true_and] at h ⊢
      rw [eW, eV] at h
      rw [hbw]
      have ej : i + ((behindF w + (expM (w.drop (behindF w))).2 : Nat) : Int) = i + ((digs (s.drop i.toNat)).length : Int) + ((expM (w.drop (behindF w))).2 : Int) := by
        have : behindF w = behindW w := by unfold behindF; rw [if_neg (by rw [q7]; decide), Nat.add_zero]
        have h3 : behindW w = signN w + (wholeD w).length := rfl
        rw [eW, hsn] at h3
        omega
      rw [← ej]
      exact h
end Go.Proofs.YtkmgbibhkilffaaGreatDoor

namespace Go.Proofs.YtkmgbibhkilffaaGreatDoor
open Go.Vm Go.Sx Go.RowKit

/-! ### Lengths -/
theorem signN_len (w : Bt) : signN w ≤ w.length := by
  unfold signN
  split
  · rename_i q
    cases w with
    | nil => exact absurd q (by decide)
    | cons c w => simp
  · exact Nat.zero_le _
theorem drop_ne {w : Bt} {n : Nat} (h : hb (w.drop n) ≠ 0) : n < w.length := by
  by_cases q : n < w.length
  · exact q
  · rw [List.drop_of_length_le (by omega)] at h; exact absurd rfl h
theorem behindW_len (w : Bt) : behindW w ≤ w.length := by
  have h := digs_len (w.drop (signN w))
  have h2 := signN_len w
  rw [List.length_drop] at h
  unfold behindW wholeD
  omega
theorem fracS_hb {w : Bt} (h : fracS w = true) : hb w = 46 := by
  unfold fracS at h
  rw [Bool.and_eq_true] at h
  exact of_decide_eq_true h.1
theorem behindF_len (w : Bt) : behindF w ≤ w.length := by
  have h := behindW_len w
  unfold behindF
  split
  · rename_i q
    have hl := drop_ne (w := w) (n := behindW w) (by rw [fracS_hb q]; decide)
    have h2 := digs_len (w.drop (behindW w)).tail
    unfold fracD
    rw [if_pos q]
    rw [List.length_tail, List.length_drop] at h2
    omega
  · omega
theorem expM_len (w : Bt) : (expM w).2 ≤ w.length := by
  unfold expM
  split
  · rename_i q
    rw [Bool.and_eq_true] at q
    cases w with
    | nil => exact absurd q.1 (by decide)
    | cons c w =>
      by_cases q2 : mSg (hb (c :: w).tail) = true
      · rw [if_pos q2, if_pos q2]
        cases w with
        | nil => exact absurd (show mSg (hb []) = true from q2) (by decide)
        | cons d w =>
          have := digs_len w
          show 2 + (digs w).length ≤ w.length + 1 + 1
          omega
      · rw [if_neg q2, if_neg q2]
        have := digs_len w
        show 1 + (digs w).length ≤ w.length + 1
        omega
  · simp
theorem behindE_len (w : Bt) : behindE w ≤ w.length := by
  have h := expM_len (w.drop (behindF w))
  have h2 := behindF_len w
  rw [List.length_drop] at h
  unfold behindE
  omega
theorem behindE_pos {w : Bt} (h : numS w = true) : 1 ≤ behindE w := by
  unfold behindE
  suffices q : 1 ≤ behindF w by omega
  unfold behindF
  cases q : mSg (hb w) with
  | true =>
    have : 1 ≤ behindW w := by unfold behindW signN; rw [if_pos q]; omega
    omega
  | false =>
    have e : signN w = 0 := by unfold signN; rw [if_neg (by rw [q]; decide)]
    unfold numS at h
    rw [if_neg (by rw [q]; decide), Bool.or_eq_true] at h
    cases w with
    | nil => rcases h with h | h <;> exact absurd h (by decide)
    | cons c w =>
    cases q2 : mD (c.toNat : Int) with
    | true =>
      have : behindW (c :: w) = (digs (c :: w)).length := by unfold behindW wholeD; rw [e, Nat.zero_add, List.drop_zero]
      rw [digs_pos q2, List.length_cons] at this
      omega
    | false =>
      have : behindW (c :: w) = 0 := by unfold behindW wholeD; rw [e, Nat.zero_add, List.drop_zero, digs_neg q2]; rfl
      rw [this, List.drop_zero]
      rcases h with h | h
      · rw [hb_cons, q2] at h; cases h
      · rw [if_pos h]; omega
theorem nSp_pos {w : Bt} (h : mSp (hb w) = true) : 1 ≤ nSp w := by
  cases w with
  | nil => exact absurd h (by decide)
  | cons c w => rw [hb_cons] at h; unfold nSp; rw [if_pos h]; omega
theorem nameM_pos {w : Bt} (h : nameG w = true) : 1 ≤ (nameM w).2 := by
  cases w with
  | nil => exact absurd h (by decide)
  | cons c w =>
    rw [nameM, if_pos h]
    split <;> simp only <;> omega
theorem nameS_G {w : Bt} (h : nameS w = true) : nameG w = true := by
  unfold nameS at h
  unfold nameG mN
  split at h
  · rw [Bool.or_eq_true] at h
    rcases h with h | h <;> rw [h] <;> simp
  · rename_i q
    have q : hb w = 45 := by simpa using q
    rw [q]
    have e : (mD 45 || decide ((45 : Int) = 45)) = true := by decide
    rw [e, Bool.or_true, Bool.true_or]
theorem strM_len (q : Int) (w : Bt) : (strM q w).2.2 ≤ w.length := by
  induction hn : w.length using Nat.strongRecOn generalizing w with
  | _ n ih =>
    cases w with
    | nil => rw [strM]; simp
    | cons c w =>
      rw [List.length_cons] at hn
      rw [strM.eq_def]
      simp only
      split
      · simp only; omega
      · split
        · simp
        · split
          · have := ih w.length (by omega) w rfl
            simp only
            omega
          · cases w with
            | nil => simp only [List.length_nil] at hn ⊢; omega
            | cons d v =>
              rw [List.length_cons] at hn
              simp only
              split
              · have := ih v.length (by omega) v rfl
                simp only
                omega
              · have he := escM_len (d :: v)
                rw [List.length_cons] at he
                have := ih ((d :: v).drop (escM (d :: v)).2).length (by rw [List.length_drop, List.length_cons]; omega) _ rfl
                rw [List.length_drop, List.length_cons] at this
                simp only
                omega
theorem badM_len (w : Bt) : badM w ≤ w.length := by
  induction hn : w.length using Nat.strongRecOn generalizing w with
  | _ n ih =>
    cases w with
    | nil => rw [badM]; simp
    | cons c w =>
      rw [List.length_cons] at hn
      rw [badM]
      split
      · omega
      · split
        · have he := escM_len w
          have := ih (w.drop (escM w).2).length (by rw [List.length_drop]; omega) (w.drop (escM w).2) rfl
          rw [List.length_drop] at this
          omega
        · have := ih w.length (by omega) w rfl
          omega
theorem readUrlM_len (w : Bt) : (readUrlM w).2 ≤ w.length := by
  have ha := nSp_len w
  have hu := urlM_len (w.drop (nSp w))
  have hb := badM_len (w.drop (nSp w + (urlM (w.drop (nSp w))).2))
  rw [List.length_drop] at hu hb
  unfold readUrlM
  simp only
  split
  · simp only; omega
  · split
    · rename_i q
      have := drop_ne (w := w) (n := nSp w + (urlM (w.drop (nSp w))).2) (by rw [q]; decide)
      simp only
      omega
    · simp only; omega
theorem namedM_len {w : Bt} : (namedM w).2 ≤ w.length := by
  have hn := nameM_len w
  unfold namedM
  simp only
  split
  · simp only; omega
  · rename_i q
    have q : hb (w.drop (nameM w).2) = 40 := by simpa using q
    have hl := drop_ne (w := w) (n := (nameM w).2) (by rw [q]; decide)
    have hu := readUrlM_len (w.drop (nameM w).2).tail
    rw [List.length_tail, List.length_drop] at hu
    split
    · simp only; omega
    · simp only; omega
theorem namedM_pos {w : Bt} (h : nameS w = true) : 1 ≤ (namedM w).2 := by
  have := nameM_pos (nameS_G h)
  unfold namedM
  simp only
  split
  · simp only; omega
  · split <;> simp only <;> omega
theorem numericM_len (w : Bt) : (numericM w).2 ≤ w.length := by
  have h := behindE_len w
  have e : (numM w).2.2 = behindE w := rfl
  have hn := nameM_len (w.drop (numM w).2.2)
  rw [List.length_drop] at hn
  unfold numericM
  simp only
  split
  · simp only; omega
  · split
    · rename_i q
      have := drop_ne (w := w) (n := (numM w).2.2) (by rw [q]; decide)
      simp only
      omega
    · simp only; omega
theorem numericM_pos {w : Bt} (h : numS w = true) : 1 ≤ (numericM w).2 := by
  have h := behindE_pos h
  have e : (numM w).2.2 = behindE w := rfl
  unfold numericM
  simp only
  split
  · simp only; omega
  · split <;> simp only <;> omega
theorem pre_len {a w : Bt} (h : a.isPrefixOf w = true) : a.length ≤ w.length := (List.isPrefixOf_iff_prefix.mp h).length_le
theorem tok5_len {w : Bt} (hw : w ≠ []) : 1 ≤ (tok5 w).2 ∧ (tok5 w).2 ≤ w.length := by
  have hl : 1 ≤ w.length := by cases w with | nil => exact absurd rfl hw | cons c w => simp
  unfold tok5
  split
  · rename_i q; exact ⟨namedM_pos q, namedM_len⟩
  · split <;> exact ⟨Nat.le_refl _, hl⟩
theorem tok4_len {w : Bt} (hw : w ≠ []) : 1 ≤ (tok4 w).2 ∧ (tok4 w).2 ≤ w.length := by
  unfold tok4
  split
  · have := nameM_len w.tail
    cases w with
    | nil => exact absurd rfl hw
    | cons c w => simp only [List.tail_cons, List.length_cons] at this ⊢; omega
  · exact tok5_len hw
theorem tok2_len {w : Bt} (hw : w ≠ []) : 1 ≤ (tok2 w).2 ∧ (tok2 w).2 ≤ w.length := by
  unfold tok2
  split
  · rename_i q; exact ⟨numericM_pos q, numericM_len w⟩
  · split
    · rename_i q; exact ⟨by decide, pre_len q⟩
    · split
      · rename_i q; exact ⟨by decide, pre_len q⟩
      · exact tok4_len hw
theorem tokM_len {w : Bt} (hw : w ≠ []) : 1 ≤ (tokM w).2 ∧ (tokM w).2 ≤ w.length := by
  unfold tokM
  split
  · rename_i q; exact ⟨nSp_pos q, nSp_len w⟩
  · split
    · have := strM_len (hb w) w.tail
      cases w with
      | nil => exact absurd rfl hw
      | cons c w => simp only [List.tail_cons, List.length_cons] at this ⊢; omega
    · split
      · have := nameM_len w.tail
        cases w with
        | nil => exact absurd rfl hw
        | cons c w => simp only [List.tail_cons, List.length_cons] at this ⊢; omega
      · exact tok2_len hw
theorem closM_len : ∀ (w : Bt) (k : Nat), closM w = some k → k + 2 ≤ w.length
  | [], k, h => by cases h
  | c :: w, k, h => by
    unfold closM at h
    split at h
    · rename_i q
      obtain rfl := Option.some.inj h
      cases w with
      | nil => exact absurd q.2 (by decide)
      | cons d w => simp
    · cases hc : closM w with
      | none => rw [hc] at h; cases h
      | some m =>
        rw [hc] at h
        have h : m + 1 = k := Option.some.inj h
        have := closM_len w m hc
        rw [List.length_cons]
        omega
theorem comM_len (w : Bt) : comM w ≤ w.length := by
  induction hn : w.length using Nat.strongRecOn generalizing w with
  | _ n ih =>
    rw [comM]
    split
    · rename_i q
      have hp := pre_len q
      simp only [List.length_cons, List.length_nil] at hp
      split
      · omega
      · rename_i k hk
        have := closM_len _ _ hk
        rw [List.length_drop] at this
        split
        · exact Nat.zero_le _
        · have h2 := ih (w.drop (2 + (k + 2))).length (by rw [List.length_drop]; omega) _ rfl
          rw [List.length_drop] at h2
          omega
    · exact Nat.zero_le _

/-! ### Beginnings, and comments -/
def s_HP1 : T_gslHPx := fun s c K => K (c.isPrefixOf s)
theorem p_HP1 (s c K) (h : s_HP1 s c K) : F_gslHPx s c K := by
  unfold s_HP1 at h
  refine ⟨fun q => ⟨⟨by omega, of_decide_eq_true q⟩, ?_⟩, fun q => ?_⟩
  · have e : (s.take (c.length : Int).toNat == c) = c.isPrefixOf s := by
      rw [Int.toNat_natCast]
      cases q : c.isPrefixOf s with
      | true =>
        have := List.prefix_iff_eq_take.mp (List.isPrefixOf_iff_prefix.mp q)
        rw [← this]; exact beq_self_eq_true _
      | false =>
        cases q2 : s.take c.length == c with
        | false => rfl
        | true =>
          have := List.isPrefixOf_iff_prefix.mpr (List.prefix_iff_eq_take.mpr (eq_of_beq q2).symm)
          rw [q] at this; cases this
    rw [e]; exact h
  · have q := of_decide_eq_false q
    cases q2 : c.isPrefixOf s with
    | false => rw [q2] at h; exact h
    | true => have := pre_len q2; exfalso; omega
def s_HP : T_gs_HPx := fun s c K => K (c.isPrefixOf s)
theorem p_HP (s c K) (h : s_HP s c K) : F_gs_HPx s_HP1 s c K := h
def s_Ind1 : T_gslIndex := fun s c K => s.length ≤ 1000000 ∧ K (Lib.index s c)
def s_Ind : T_gs_Index := fun s c K => s.length ≤ 1000000 ∧ K (Lib.index s c)
theorem p_Ind (s c K) (h : s_Ind s c K) : F_gs_Index s_Ind1 s c K := h
theorem closM_index : ∀ w : Bt, Lib.index w [42, 47] = match closM w with | none => -1 | some k => (k : Int)
  | [] => rfl
  | c :: w => by
    have ih := closM_index w
    have hp : ([42, 47] : Bt).isPrefixOf (c :: w) = decide (c = 42 ∧ hb w = 47) := by
      by_cases q : c = 42
      · cases w with
        | nil => subst q; rfl
        | cons d w =>
          subst q
          by_cases q2 : (d.toNat : Int) = 47
          · have : d = 47 := UInt8.toNat_inj.mp (by show d.toNat = 47; omega)
            subst this
            simp [List.isPrefixOf]
          · have : (47 : UInt8) ≠ d := fun e => q2 (by rw [← e]; rfl)
            simp [List.isPrefixOf, q2, this]
      · have : (42 : UInt8) ≠ c := fun e => q e.symm
        simp [List.isPrefixOf, q, this]
    unfold Lib.index closM
    rw [hp]
    by_cases q : c = 42 ∧ hb w = 47
    · rw [if_pos (decide_eq_true q), if_pos q]; rfl
    · rw [if_neg (by rw [decide_eq_false q]; decide), if_neg q, ih]
      cases closM w with
      | none => rfl
      | some k =>
        simp only [Option.map_some]
        rw [if_neg (by simp only [beq_iff_eq]; omega), Int.natCast_add]
        rfl
theorem p_comL (s : Bt) (hs : s.length ≤ 1000000) (K : Int → Prop) : ∀ (n : Nat) (w : Bt) (i : Int), w.length ≤ n → s.drop i.toNat = w → 0 ≤ i → i ≤ s.length → K (i + (comM w : Int)) → ∃ m, F_behindCommentsA_l1 s_HP s_Ind m s i (fun y => K y) (fun y => K y) := by
  intro n
  induction n with
  | zero =>
    intro w i hn hd h0 hi h
    have : w = [] := List.length_eq_zero_iff.mp (by omega)
    subst this
    rw [comM] at h
    refine ⟨1, ⟨h0, hi⟩, fun q => ?_, fun _ => by simpa [List.isPrefixOf] using h⟩
    rw [hd] at q; exact absurd q (by decide)
  | succ n ih =>
    intro w i hn hd h0 hi h
    have hlw := congrArg List.length hd
    rw [List.length_drop] at hlw
    rw [comM] at h
    cases q : ([47, 42] : Bt).isPrefixOf w with
    | false =>
      rw [q] at h
      refine ⟨1, ⟨h0, hi⟩, fun q2 => ?_, fun _ => by simpa using h⟩
      rw [hd, q] at q2; cases q2
    | true =>
      have hp := pre_len q
      simp only [List.length_cons, List.length_nil] at hp
      rw [q, if_pos rfl] at h
      have e2 : s.drop (i + 2).toNat = w.drop 2 := by rw [← hd]; exact dropN h0 2
      have hidx := closM_index (w.drop 2)
      cases hc : closM (w.drop 2) with
      | none =>
        rw [hc] at h hidx
        refine ⟨1, ⟨h0, hi⟩, fun _ => ⟨I64b (by omega), ⟨by omega, by omega⟩, by rw [List.length_drop]; omega, ?_⟩, fun q2 => ?_⟩
        · rw [e2, hidx]
          refine ⟨fun _ => ?_, fun q2 => absurd q2 (by decide)⟩
          have e : i + (w.length : Int) = s.length := by omega
          simp only at h
          rw [e] at h
          exact h
        · rw [hd, q] at q2; cases q2
      | some k =>
        rw [hc] at h hidx
        simp only at h hidx
        have hk := closM_len _ _ hc
        rw [List.length_drop] at hk
        rw [if_neg (fun e => by rw [e] at hp; simp at hp)] at h
        obtain ⟨m, hm⟩ := ih (w.drop (2 + (k + 2))) (i + 2 + ((k : Int) + 2)) (by rw [List.length_drop]; omega) (by
          rw [← hd, ← dropN h0]
          congr 2
          omega) (by omega) (by omega) (by
          have e : i + 2 + ((k : Int) + 2) + (comM (w.drop (2 + (k + 2))) : Int) = i + ((2 + (k + 2) + comM (w.drop (2 + (k + 2))) : Nat) : Int) := by omega
          rw [e]; exact h)
        refine ⟨m + 1, ⟨h0, hi⟩, fun _ => ⟨I64b (by omega), ⟨by omega, by omega⟩, by rw [List.length_drop]; omega, ?_⟩, fun q2 => ?_⟩
        · rw [e2, hidx]
          exact ⟨fun q2 => (by exfalso; have := of_decide_eq_true q2; omega), fun _ => ⟨I64b (by omega), I64b (by omega), hm⟩⟩
        · rw [hd, q] at q2; cases q2
def s_com : T_behindCommentsA := fun s i K => (0 ≤ i ∧ i ≤ s.length ∧ s.length ≤ 1000000) ∧ K (i + (comM (s.drop i.toNat) : Int))
theorem p_com (s i K) (h : s_com s i K) : F_behindCommentsA s_HP s_Ind s i K := p_comL s h.1.2.2 K _ _ _ (Nat.le_refl _) rfl h.1.1 h.1.2.1 h.2

/-! ### Marks and numeric tokens -/
theorem marks_eq : marksL = marksA := rfl
def s_mark : T_k_isMark := fun c K => (0 ≤ c ∧ c ≤ 255) ∧ K (decide (markM c ≠ 0))
theorem p_mark (c K) (h : s_mark c K) : F_k_isMark c K := by
  obtain ⟨⟨h0, h1⟩, h⟩ := h
  unfold markM at h
  refine ⟨I64b (by omega), fun q => ⟨⟨h0, of_decide_eq_true q⟩, ?_, ?_⟩, fun q => ?_⟩
  · have := of_decide_eq_true q
    show 0 + c.toNat * 1 < 126
    omega
  · rw [if_pos (of_decide_eq_true q)] at h
    rw [Nat.zero_add, Nat.mul_one, marks_eq]
    exact h
  · rw [if_neg (of_decide_eq_false q)] at h
    exact h
def s_numeric : T_readNumericA := fun s i K => (0 ≤ i ∧ i ≤ s.length ∧ s.length ≤ 400000) ∧ K (numericM (s.drop i.toNat)).1 (i + ((numericM (s.drop i.toNat)).2 : Int))
theorem p_numeric (s i K) (h : s_numeric s i K) : F_readNumericA s_num s_nameS s_name s_byteAt s i K := by
  obtain ⟨⟨h0, hi, hs⟩, h⟩ := h
  have hl := behindE_len (s.drop i.toNat)
  rw [List.length_drop] at hl
  have e : (numM (s.drop i.toNat)).2.2 = behindE (s.drop i.toNat) := rfl
  unfold numericM at h
  simp only at h
  rw [← dropN h0] at h
  rw [e] at h
  refine ⟨⟨h0, hi, hs⟩, ?_⟩
  rw [e]
  refine ⟨⟨⟨by omega, by omega, by omega⟩, by omega⟩, fun q => ⟨⟨by omega, by omega, by omega⟩, ?_⟩, fun q => ⟨by omega, fun q2 => ⟨I64b (by omega), ?_⟩, fun q2 => ?_⟩⟩
  · rw [if_pos q] at h
    simp only [Int.natCast_add, ← Int.add_assoc] at h
    exact h
  · rw [if_neg (by rw [q]; decide), if_pos (of_decide_eq_true q2)] at h
    simp only [Int.natCast_add, ← Int.add_assoc] at h
    exact h
  · rw [if_neg (by rw [q]; decide), if_neg (of_decide_eq_false q2)] at h
    exact h

/-! ### One token -/
theorem p_tok5 {s : Bt} {i : Int} {c : UInt8} {v : Bt} {K : Tok → Int → Prop} (h0 : 0 ≤ i) (hs : s.length ≤ 400000) (hd : s.drop i.toNat = c :: v) (h : K (tok5 (c :: v)).1 (i + ((tok5 (c :: v)).2 : Int))) :
    (s_nameS s i (fun y18 => ((y18 = true → (s_named s i (fun y19 y20 => K (Tok.mk y19.kind y19.text y19.num y19.unit y19.flag) y20))) ∧ (y18 = false → ((0 ≤ i ∧ i < (s.length : Int)) ∧ (s_mark ((s.getD i.toNat 0).toNat : Int) (fun y21 => ((y21 = true → ((0 ≤ i ∧ i < (s.length : Int)) ∧ ((0 ≤ ((s.getD i.toNat 0).toNat : Int) ∧ ((s.getD i.toNat 0).toNat : Int) < (126 : Int)) ∧ (0 + ((s.getD i.toNat 0).toNat : Int).toNat * 1 < marksL.length ∧ (I64 (i + 1) ∧ K (Tok.mk (marksL.getD (0 + ((s.getD i.toNat 0).toNat : Int).toNat * 1) 0) ([] : Bt) (0 : Int) ([] : Bt) false) (i + 1)))))) ∧ (y21 = false → (I64 (i + 1) ∧ ((0 ≤ i ∧ i ≤ (i + 1) ∧ (i + 1) ≤ (s.length : Int)) ∧ (I64 (i + 1) ∧ K (Tok.mk (9 : Int) ((s.drop i.toNat).take ((i + 1).toNat - i.toNat)) (0 : Int) ([] : Bt) false) (i + 1))))))))))))) := by
  obtain ⟨hl, hc, hn, _⟩ := drop_cons h0 hd
  unfold tok5 at h
  refine ⟨⟨⟨h0, by omega, by omega⟩, by omega⟩, ?_⟩
  rw [hd, hc]
  refine ⟨fun q => ⟨⟨h0, by omega, by omega⟩, by omega, ?_⟩, fun q => ⟨⟨h0, hl⟩, u8in c, fun q2 => ?_, fun q2 => ?_⟩⟩
  · rw [hd]
    rw [if_pos q] at h
    generalize namedM (c :: v) = r at h ⊢
    exact h
  · have q3 := of_decide_eq_true q2
    rw [if_neg (by rw [q]; decide), hb_cons, if_pos q3] at h
    have hlt : (c.toNat : Int) < 126 := by
      by_cases q4 : (c.toNat : Int) < 126
      · exact q4
      · unfold markM at q3; rw [if_neg q4] at q3; exact absurd rfl q3
    refine ⟨⟨h0, hl⟩, ⟨(u8in c).1, hlt⟩, by show 0 + (c.toNat : Int).toNat * 1 < 126; omega, I64b (by omega), ?_⟩
    rw [Nat.zero_add, Nat.mul_one, marks_eq]
    unfold markM at h
    rw [if_pos hlt] at h
    exact h
  · have q3 := of_decide_eq_false q2
    rw [if_neg (by rw [q]; decide), hb_cons, if_neg q3] at h
    refine ⟨I64b (by omega), ⟨h0, by omega, by omega⟩, I64b (by omega), ?_⟩
    have e : (i + 1).toNat - i.toNat = 1 := by omega
    rw [e]
    exact h
theorem p_tok4 {s : Bt} {i : Int} {c : UInt8} {v : Bt} {K : Tok → Int → Prop} (h0 : 0 ≤ i) (hs : s.length ≤ 400000) (hd : s.drop i.toNat = c :: v) (h : K (tok4 (c :: v)).1 (i + ((tok4 (c :: v)).2 : Int))) :
    ((0 ≤ i ∧ i < (s.length : Int)) ∧ (((decide (((s.getD i.toNat 0).toNat : Int) = (64 : Int))) = true → (I64 (i + 1) ∧ (s_nameS s (i + 1) (fun y15 => ((y15 = true → (I64 (i + 1) ∧ (s_name s (i + 1) (fun y16 y17 => K (Tok.mk (3 : Int) y16 (0 : Int) ([] : Bt) false) y17)))) ∧ (y15 = false → (s_nameS s i (fun y18 => ((y18 = true → (s_named s i (fun y19 y20 => K (Tok.mk y19.kind y19.text y19.num y19.unit y19.flag) y20))) ∧ (y18 = false → ((0 ≤ i ∧ i < (s.length : Int)) ∧ (s_mark ((s.getD i.toNat 0).toNat : Int) (fun y21 => ((y21 = true → ((0 ≤ i ∧ i < (s.length : Int)) ∧ ((0 ≤ ((s.getD i.toNat 0).toNat : Int) ∧ ((s.getD i.toNat 0).toNat : Int) < (126 : Int)) ∧ (0 + ((s.getD i.toNat 0).toNat : Int).toNat * 1 < marksL.length ∧ (I64 (i + 1) ∧ K (Tok.mk (marksL.getD (0 + ((s.getD i.toNat 0).toNat : Int).toNat * 1) 0) ([] : Bt) (0 : Int) ([] : Bt) false) (i + 1)))))) ∧ (y21 = false → (I64 (i + 1) ∧ ((0 ≤ i ∧ i ≤ (i + 1) ∧ (i + 1) ≤ (s.length : Int)) ∧ (I64 (i + 1) ∧ K (Tok.mk (9 : Int) ((s.drop i.toNat).take ((i + 1).toNat - i.toNat)) (0 : Int) ([] : Bt) false) (i + 1))))))))))))))))))) ∧ ((decide (((s.getD i.toNat 0).toNat : Int) = (64 : Int))) = false → (s_nameS s i (fun y22 => ((y22 = true → (s_named s i (fun y23 y24 => K (Tok.mk y23.kind y23.text y23.num y23.unit y23.flag) y24))) ∧ (y22 = false → ((0 ≤ i ∧ i < (s.length : Int)) ∧ (s_mark ((s.getD i.toNat 0).toNat : Int) (fun y25 => ((y25 = true → ((0 ≤ i ∧ i < (s.length : Int)) ∧ ((0 ≤ ((s.getD i.toNat 0).toNat : Int) ∧ ((s.getD i.toNat 0).toNat : Int) < (126 : Int)) ∧ (0 + ((s.getD i.toNat 0).toNat : Int).toNat * 1 < marksL.length ∧ (I64 (i + 1) ∧ K (Tok.mk (marksL.getD (0 + ((s.getD i.toNat 0).toNat : Int).toNat * 1) 0) ([] : Bt) (0 : Int) ([] : Bt) false) (i + 1)))))) ∧ (y25 = false → (I64 (i + 1) ∧ ((0 ≤ i ∧ i ≤ (i + 1) ∧ (i + 1) ≤ (s.length : Int)) ∧ (I64 (i + 1) ∧ K (Tok.mk (9 : Int) ((s.drop i.toNat).take ((i + 1).toNat - i.toNat)) (0 : Int) ([] : Bt) false) (i + 1)))))))))))))))) := by
  obtain ⟨hl, hc, hn, _⟩ := drop_cons h0 hd
  unfold tok4 at h
  refine ⟨⟨h0, hl⟩, fun q => ?_, fun q => ?_⟩
  · have q := of_decide_eq_true q
    rw [hc] at q
    refine ⟨I64b (by omega), ⟨⟨⟨by omega, by omega, by omega⟩, by omega⟩, ?_⟩⟩
    rw [hn]
    refine ⟨fun q2 => ⟨I64b (by omega), ⟨by omega, by omega, by omega⟩, ?_⟩, fun q2 => ?_⟩
    · rw [hb_cons, if_pos ⟨q, q2⟩] at h
      rw [hn]
      have e : i + ((1 + (nameM v).2 : Nat) : Int) = i + 1 + ((nameM v).2 : Int) := by omega
      rw [List.tail_cons, e] at h
      exact h
    · rw [if_neg (fun x => by have := x.2; rw [List.tail_cons, q2] at this; cases this)] at h
      exact p_tok5 (K := K) h0 hs hd h
  · have q := of_decide_eq_false q
    rw [hc] at q
    rw [if_neg (fun x => q (by rw [hb_cons] at x; exact x.1))] at h
    exact p_tok5 (K := K) h0 hs hd h
theorem p_tok2 {s : Bt} {i : Int} {c : UInt8} {v : Bt} {K : Tok → Int → Prop} (h0 : 0 ≤ i) (hs : s.length ≤ 400000) (hd : s.drop i.toNat = c :: v) (h : K (tok2 (c :: v)).1 (i + ((tok2 (c :: v)).2 : Int))) :
    (s_numS s i (fun y10 => ((y10 = true → (s_numeric s i (fun y11 y12 => K (Tok.mk y11.kind y11.text y11.num y11.unit y11.flag) y12))) ∧ (y10 = false → ((0 ≤ i ∧ i ≤ (s.length : Int)) ∧ (s_HP (s.drop i.toNat) ([45, 45, 62] : Bt) (fun y13 => ((y13 = true → (I64 (i + 3) ∧ K (Tok.mk (15 : Int) ([] : Bt) (0 : Int) ([] : Bt) false) (i + 3))) ∧ (y13 = false → ((0 ≤ i ∧ i ≤ (s.length : Int)) ∧ (s_HP (s.drop i.toNat) ([60, 33, 45, 45] : Bt) (fun y14 => ((y14 = true → (I64 (i + 4) ∧ K (Tok.mk (14 : Int) ([] : Bt) (0 : Int) ([] : Bt) false) (i + 4))) ∧ (y14 = false → ((0 ≤ i ∧ i < (s.length : Int)) ∧ (((decide (((s.getD i.toNat 0).toNat : Int) = (64 : Int))) = true → (I64 (i + 1) ∧ (s_nameS s (i + 1) (fun y15 => ((y15 = true → (I64 (i + 1) ∧ (s_name s (i + 1) (fun y16 y17 => K (Tok.mk (3 : Int) y16 (0 : Int) ([] : Bt) false) y17)))) ∧ (y15 = false → (s_nameS s i (fun y18 => ((y18 = true → (s_named s i (fun y19 y20 => K (Tok.mk y19.kind y19.text y19.num y19.unit y19.flag) y20))) ∧ (y18 = false → ((0 ≤ i ∧ i < (s.length : Int)) ∧ (s_mark ((s.getD i.toNat 0).toNat : Int) (fun y21 => ((y21 = true → ((0 ≤ i ∧ i < (s.length : Int)) ∧ ((0 ≤ ((s.getD i.toNat 0).toNat : Int) ∧ ((s.getD i.toNat 0).toNat : Int) < (126 : Int)) ∧ (0 + ((s.getD i.toNat 0).toNat : Int).toNat * 1 < marksL.length ∧ (I64 (i + 1) ∧ K (Tok.mk (marksL.getD (0 + ((s.getD i.toNat 0).toNat : Int).toNat * 1) 0) ([] : Bt) (0 : Int) ([] : Bt) false) (i + 1)))))) ∧ (y21 = false → (I64 (i + 1) ∧ ((0 ≤ i ∧ i ≤ (i + 1) ∧ (i + 1) ≤ (s.length : Int)) ∧ (I64 (i + 1) ∧ K (Tok.mk (9 : Int) ((s.drop i.toNat).take ((i + 1).toNat - i.toNat)) (0 : Int) ([] : Bt) false) (i + 1))))))))))))))))))) ∧ ((decide (((s.getD i.toNat 0).toNat : Int) = (64 : Int))) = false → (s_nameS s i (fun y22 => ((y22 = true → (s_named s i (fun y23 y24 => K (Tok.mk y23.kind y23.text y23.num y23.unit y23.flag) y24))) ∧ (y22 = false → ((0 ≤ i ∧ i < (s.length : Int)) ∧ (s_mark ((s.getD i.toNat 0).toNat : Int) (fun y25 => ((y25 = true → ((0 ≤ i ∧ i < (s.length : Int)) ∧ ((0 ≤ ((s.getD i.toNat 0).toNat : Int) ∧ ((s.getD i.toNat 0).toNat : Int) < (126 : Int)) ∧ (0 + ((s.getD i.toNat 0).toNat : Int).toNat * 1 < marksL.length ∧ (I64 (i + 1) ∧ K (Tok.mk (marksL.getD (0 + ((s.getD i.toNat 0).toNat : Int).toNat * 1) 0) ([] : Bt) (0 : Int) ([] : Bt) false) (i + 1)))))) ∧ (y25 = false → (I64 (i + 1) ∧ ((0 ≤ i ∧ i ≤ (i + 1) ∧ (i + 1) ≤ (s.length : Int)) ∧ (I64 (i + 1) ∧ K (Tok.mk (9 : Int) ((s.drop i.toNat).take ((i + 1).toNat - i.toNat)) (0 : Int) ([] : Bt) false) (i + 1)))))))))))))))))))))))))))))) := by
  obtain ⟨hl, hc, hn, hv⟩ := drop_cons h0 hd
  unfold tok2 at h
  refine ⟨⟨⟨h0, by omega, by omega⟩, by omega⟩, ?_⟩
  refine ⟨fun q => ⟨⟨h0, by omega, hs⟩, ?_⟩, fun q => ⟨⟨h0, by omega⟩, fun q2 => ?_, fun q2 => ⟨⟨h0, by omega⟩, fun q3 => ?_, fun q3 => ?_⟩⟩⟩
  · rw [hd] at q
    rw [if_pos q] at h
    rw [hd]
    generalize numericM (c :: v) = r at h ⊢
    exact h
  · rw [hd] at q q2
    rw [if_neg (by rw [q]; decide), if_pos q2] at h
    have h3 := pre_len q2
    have h3 : 3 ≤ v.length + 1 := h3
    have h4 : -100000000 ≤ i + 3 ∧ i + 3 ≤ 100000000 := by omega
    exact ⟨I64b h4, h⟩
  · rw [hd] at q q2 q3
    rw [if_neg (by rw [q]; decide), if_neg (by rw [q2]; decide), if_pos q3] at h
    have h3 := pre_len q3
    have h3 : 4 ≤ v.length + 1 := h3
    have h4 : -100000000 ≤ i + 4 ∧ i + 4 ≤ 100000000 := by omega
    exact ⟨I64b h4, h⟩
  · rw [hd] at q q2 q3
    rw [if_neg (by rw [q]; decide), if_neg (by rw [q2]; decide), if_neg (by rw [q3]; decide)] at h
    exact p_tok4 (K := K) h0 hs hd h
def s_token : T_readTokenA := fun s i K => (0 ≤ i ∧ i < s.length ∧ s.length ≤ 400000) ∧ K (tokM (s.drop i.toNat)).1 (i + ((tokM (s.drop i.toNat)).2 : Int))
theorem p_token (s i K) (h : s_token s i K) : F_readTokenA s_isSp s_sp s_isQ s_str s_nameG s_nameS s_name s_numS s_numeric s_HP s_named s_mark s i K := by
  obtain ⟨⟨h0, hl, hs⟩, h⟩ := h
  cases hd : s.drop i.toNat with
  | nil => have := drop_nil hd; exfalso; omega
  | cons c v =>
  obtain ⟨_, hc, hn, hv⟩ := drop_cons h0 hd
  rw [hd] at h
  unfold tokM at h
  refine ⟨⟨h0, hl⟩, fun q => ⟨⟨h0, by omega, by omega⟩, ?_⟩, fun q => ⟨⟨h0, hl⟩, fun q2 => ⟨⟨h0, hl, by omega⟩, ?_⟩, fun q2 => ⟨⟨h0, hl⟩, fun q3 => ⟨I64b (by omega), ⟨by omega, by omega, by omega⟩, fun q4 => ⟨I64b (by omega), ⟨⟨by omega, by omega, by omega⟩, by omega⟩, I64b (by omega), ⟨by omega, by omega, by omega⟩, ?_⟩, fun q4 => ?_⟩, fun q3 => ?_⟩⟩⟩
  · rw [hc] at q
    rw [hb_cons, if_pos q] at h
    rw [hd]
    exact h
  · rw [hc] at q q2
    rw [hb_cons, if_neg (by rw [q]; decide), if_pos q2, List.tail_cons] at h
    rw [hd, hn, hb_cons]
    unfold strK
    have e : i + ((1 + (strM (c.toNat : Int) v).2.2 : Nat) : Int) = i + 1 + ((strM (c.toNat : Int) v).2.2 : Int) := by omega
    rw [e] at h
    generalize strM (c.toNat : Int) v = r at h ⊢
    exact h
  · rw [hc] at q q2
    have q3 := of_decide_eq_true q3
    rw [hc] at q3
    rw [hn] at q4 ⊢
    rw [hb_cons, if_neg (by rw [q]; decide), if_neg (by rw [q2]; decide), if_pos ⟨q3, q4⟩, List.tail_cons] at h
    have e : i + ((1 + (nameM v).2 : Nat) : Int) = i + 1 + ((nameM v).2 : Int) := by omega
    rw [e] at h
    exact h
  · rw [hc] at q q2
    rw [hn] at q4
    rw [hb_cons, if_neg (by rw [q]; decide), if_neg (by rw [q2]; decide), if_neg (fun x => by have := x.2; rw [List.tail_cons, q4] at this; cases this)] at h
    exact p_tok2 (K := K) h0 hs hd h
  · rw [hc] at q q2
    have q3 := of_decide_eq_false q3
    rw [hc] at q3
    rw [hb_cons, if_neg (by rw [q]; decide), if_neg (by rw [q2]; decide), if_neg (fun x => q3 x.1)] at h
    exact p_tok2 (K := K) h0 hs hd h
end Go.Proofs.YtkmgbibhkilffaaGreatDoor

namespace Go.Proofs.YtkmgbibhkilffaaGreatDoor
open Go.Vm Go.Sx Go.RowKit

/-! ### Cleaning -/
def s_LE : T_i_startsWithLineEnd := fun s K => K (decide (hb s = 10))
theorem p_LE (s K) (h : s_LE s K) : F_i_startsWithLineEnd s K := by
  unfold s_LE at h
  cases s with
  | nil => exact ⟨fun q => absurd q (by decide), fun _ => h⟩
  | cons c w => exact ⟨fun _ => ⟨⟨by omega, by rw [List.length_cons]; omega⟩, h⟩, fun q => (by exfalso; have := of_decide_eq_false q; rw [List.length_cons] at this; omega)⟩
theorem p_clL (s : Bt) (hs : s.length ≤ 1000000) (Ke : Bt → Prop) : ∀ (w : Bt) (i : Int) (b : Bt), s.drop i.toNat = w → 0 ≤ i → b.length + 3 * w.length ≤ 10000000 → Ke (b ++ cleanM w) → ∃ m, F_i_Clean_l5 s_LE m s i b Ke
  | [], i, b, hd, h0, hbb, h => by
    have := drop_nil hd
    exact ⟨1, fun q => (by exfalso; have := of_decide_eq_true q; omega), fun _ => by simpa [cleanM] using h⟩
  | c :: w, i, b, hd, h0, hbb, h => by
    obtain ⟨hl, hc, hn, hv⟩ := drop_cons h0 hd
    rw [List.length_cons] at hbb
    have nofin : decide (i < (s.length : Int)) = false → False := fun q => by have := of_decide_eq_false q; omega
    by_cases c1 : (c.toNat : Int) = 0
    · have e : cleanM (c :: w) = [239, 191, 189] ++ cleanM w := by rw [cleanM, if_pos c1]
      rw [e, ← List.append_assoc] at h
      obtain ⟨m, hm⟩ := p_clL s hs Ke w (i + 1) _ hn (by omega) (by rw [List.length_append]; simp only [List.length_cons, List.length_nil]; omega) h
      refine ⟨m + 1, fun _ => ⟨⟨h0, hl⟩, fun _ => ⟨by simp only [List.length_cons, List.length_nil]; omega, I64b (by omega), hm⟩, fun q => ?_⟩, fun q => (nofin q).elim⟩
      exact absurd (by rw [hc]; exact c1) (of_decide_eq_false q)
    · have n1 : ¬ decide (((s.getD i.toNat 0).toNat : Int) = 0) = true := fun q => c1 (by rw [← hc]; exact of_decide_eq_true q)
      by_cases c2 : (c.toNat : Int) = 12
      · have e : cleanM (c :: w) = [10] ++ cleanM w := by rw [cleanM, if_neg c1, if_pos c2]; rfl
        rw [e, ← List.append_assoc] at h
        obtain ⟨m, hm⟩ := p_clL s hs Ke w (i + 1) _ hn (by omega) (by rw [List.length_append]; simp only [List.length_cons, List.length_nil]; omega) h
        refine ⟨m + 1, fun _ => ⟨⟨h0, hl⟩, fun q => absurd q n1, fun _ => ⟨fun _ => ⟨by decide, by simp only [List.length_cons, List.length_nil]; omega, I64b (by omega), hm⟩, fun q => ?_⟩⟩, fun q => (nofin q).elim⟩
        exact absurd (by rw [hc]; exact c2) (of_decide_eq_false q)
      · have n2 : ¬ decide (((s.getD i.toNat 0).toNat : Int) = 12) = true := fun q => c2 (by rw [← hc]; exact of_decide_eq_true q)
        by_cases c3 : (c.toNat : Int) = 13
        · have n3 : ¬ decide (((s.getD i.toNat 0).toNat : Int) = 13) = false := fun q => (of_decide_eq_false q) (by rw [hc]; exact c3)
          by_cases c4 : hb w = 10
          · have e : cleanM (c :: w) = cleanM w := by rw [cleanM, if_neg c1, if_neg c2, if_pos c3, if_pos c4]
            rw [e] at h
            obtain ⟨m, hm⟩ := p_clL s hs Ke w (i + 1) _ hn (by omega) (by omega) h
            refine ⟨m + 1, fun _ => ⟨⟨h0, hl⟩, fun q => absurd q n1, fun _ => ⟨fun q => absurd q n2, fun _ => ⟨fun _ => ⟨I64b (by omega), ⟨by omega, by omega⟩, fun q => ?_, fun _ => ⟨I64b (by omega), hm⟩⟩, fun q => absurd q n3⟩⟩⟩, fun q => (nofin q).elim⟩
            rw [hn, decide_eq_true c4] at q; exact absurd q (by decide)
          · have e : cleanM (c :: w) = [10] ++ cleanM w := by rw [cleanM, if_neg c1, if_neg c2, if_pos c3, if_neg c4]; rfl
            rw [e, ← List.append_assoc] at h
            obtain ⟨m, hm⟩ := p_clL s hs Ke w (i + 1) _ hn (by omega) (by rw [List.length_append]; simp only [List.length_cons, List.length_nil]; omega) h
            refine ⟨m + 1, fun _ => ⟨⟨h0, hl⟩, fun q => absurd q n1, fun _ => ⟨fun q => absurd q n2, fun _ => ⟨fun _ => ⟨I64b (by omega), ⟨by omega, by omega⟩, fun _ => ⟨by decide, by simp only [List.length_cons, List.length_nil]; omega, I64b (by omega), hm⟩, fun q => ?_⟩, fun q => absurd q n3⟩⟩⟩, fun q => (nofin q).elim⟩
            rw [hn, decide_eq_false c4] at q; exact absurd q (by decide)
        · have n3 : ¬ decide (((s.getD i.toNat 0).toNat : Int) = 13) = true := fun q => c3 (by rw [← hc]; exact of_decide_eq_true q)
          have e : cleanM (c :: w) = [c] ++ cleanM w := by rw [cleanM, if_neg c1, if_neg c2, if_neg c3]; rfl
          rw [e, ← List.append_assoc] at h
          obtain ⟨m, hm⟩ := p_clL s hs Ke w (i + 1) _ hn (by omega) (by rw [List.length_append]; simp only [List.length_cons, List.length_nil]; omega) h
          refine ⟨m + 1, fun _ => ⟨⟨h0, hl⟩, fun q => absurd q n1, fun _ => ⟨fun q => absurd q n2, fun _ => ⟨fun q => absurd q n3, fun _ => ⟨⟨h0, hl⟩, ?_⟩⟩⟩⟩, fun q => (nofin q).elim⟩
          rw [hc, u8id]
          exact ⟨u8in c, by simp only [List.length_cons, List.length_nil]; omega, I64b (by omega), hm⟩
def s_clean : T_i_Clean := fun s K => (4000 < s.length → K [] 28) ∧ (s.length ≤ 4000 → K (cleanM s) 0)
theorem p_clean (s K) (h : s_clean s K) : F_i_Clean s_LE s K := by
  refine ⟨fun q => h.1 (by have := of_decide_eq_true q; omega), fun q => ?_⟩
  have q := of_decide_eq_false q
  refine ⟨⟨by omega, by omega, by omega, by omega⟩, by decide, ?_⟩
  exact p_clL s (by omega) _ s 0 [] rfl (by omega) (by simp only [List.length_nil]; omega) (h.2 (by omega))
theorem cleanM_len : ∀ s : Bt, (cleanM s).length ≤ 3 * s.length
  | [] => Nat.le_refl _
  | c :: w => by
    have := cleanM_len w
    rw [cleanM, List.length_cons]
    split
    · rw [List.length_append]; simp only [List.length_cons, List.length_nil]; omega
    · split
      · rw [List.length_cons]; omega
      · split
        · split
          · omega
          · rw [List.length_cons]; omega
        · rw [List.length_cons]; omega

/-! ### All tokens -/
def tkOf (t : Tok × Nat × Nat) : Tok := t.1
theorem dropA {s w : Bt} {p : Nat} (h : s.drop p = w) (n : Nat) : s.drop (p + n) = w.drop n := by rw [← h, List.drop_drop]
theorem p_tL (s : Bt) (hs : s.length ≤ 100000) (Ke : List Tok → Prop) (Kr : Int → List Tok → Prop) : ∀ (f : Nat) (w : Bt) (p : Nat) (x7 : Int) (b : List Tok), w.length ≤ f → s.drop p = w → p ≤ s.length → x7 = b.length → b.length ≤ 1500 → (b.length + (tksM f w p).length ≤ 1500 → Ke (b ++ (tksM f w p).map tkOf)) → (1500 < b.length + (tksM f w p).length → ∀ b', Kr 4 b') → ∃ m, F_k_eachToken_tA_l6 s_clean s_com s_token m s x7 (p : Int) b Ke Kr
  | f, [], p, x7, b, hf, hd, hp, hx, hb, k1, k2 => by
    have hd' : s.drop (p : Int).toNat = [] := hd
    have hl := drop_nil hd'
    have e : tksM f [] p = [] := by cases f <;> rfl
    rw [e] at k1
    exact ⟨1, fun q => (by exfalso; have := of_decide_eq_true q; omega), fun _ => by simpa using k1 (by simpa using hb)⟩
  | 0, c :: w, p, x7, b, hf, hd, hp, hx, hb, k1, k2 => by simp at hf
  | f + 1, c :: w, p, x7, b, hf, hd, hp, hx, hb, k1, k2 => by
    have hd' : s.drop (p : Int).toNat = c :: w := hd
    obtain ⟨hl, hc, hn, hv⟩ := drop_cons (by omega) hd'
    have nofin : decide ((p : Int) < (s.length : Int)) = false → False := fun q => by have := of_decide_eq_false q; omega
    rw [tksM] at k1 k2
    have ht := tokM_len (w := c :: w) (by simp)
    have hk := comM_len ((c :: w).drop (tokM (c :: w)).2)
    rw [List.length_drop] at hk
    rw [List.length_cons] at ht hk hf
    rw [List.length_cons] at k1 k2
    by_cases q : b.length = 1500
    · have kr := k2 (by omega) b
      refine ⟨1, fun _ => ⟨fun _ => kr, fun p2 => (by exfalso; have := of_decide_eq_false p2; omega)⟩, fun q => (nofin q).elim⟩
    · have e1 : s.drop ((p : Int) + ((tokM (c :: w)).2 : Int)).toNat = (c :: w).drop (tokM (c :: w)).2 := by rw [dropN (by omega), hd']
      obtain ⟨m, hm⟩ := p_tL s hs Ke Kr f ((c :: w).drop ((tokM (c :: w)).2 + comM ((c :: w).drop (tokM (c :: w)).2))) (p + (tokM (c :: w)).2 + comM ((c :: w).drop (tokM (c :: w)).2)) (x7 + 1) (b ++ [tkOf ((tokM (c :: w)).1, p, p + (tokM (c :: w)).2)]) (by rw [List.length_drop, List.length_cons]; omega) (by rw [Nat.add_assoc]; exact dropA hd _) (by omega) (by rw [List.length_append, List.length_singleton]; omega) (by rw [List.length_append, List.length_singleton]; omega) (fun h => by
          rw [List.append_assoc]
          exact k1 (by rw [List.length_append, List.length_singleton] at h; omega)) (fun h => k2 (by rw [List.length_append, List.length_singleton] at h; omega))
      refine ⟨m + 1, fun _ => ⟨fun p2 => (by exfalso; have := of_decide_eq_true p2; omega), fun _ => ⟨⟨by omega, hl, by omega⟩, ?_⟩⟩, fun q => (nofin q).elim⟩
      rw [hd']
      refine ⟨by simp only [List.length_singleton]; omega, I64b (by omega), ⟨by omega, by omega, by omega⟩, ?_⟩
      rw [e1]
      have e2 : (p : Int) + ((tokM (c :: w)).2 : Int) + (comM ((c :: w).drop (tokM (c :: w)).2) : Int) = ((p + (tokM (c :: w)).2 + comM ((c :: w).drop (tokM (c :: w)).2) : Nat) : Int) := by omega
      rw [e2]
      exact hm
def s_tokens : T_TokensA := fun s K => (4000 < s.length → K [] 28) ∧ (s.length ≤ 4000 → (allM (cleanM s)).length ≤ 1500 → K ((allM (cleanM s)).map tkOf) 0) ∧ (s.length ≤ 4000 → 1500 < (allM (cleanM s)).length → K [] 4)
theorem p_tokens (s K) (h : s_tokens s K) : F_TokensA s_clean s_com s_token s K := by
  obtain ⟨h1, h2, h3⟩ := h
  refine ⟨fun q => ⟨fun _ => ⟨fun _ => h1 q, fun p => absurd p (by decide)⟩, fun p => absurd p (by decide)⟩, fun q => ⟨fun p => absurd p (by decide), fun _ => ⟨⟨by omega, by omega, by have := cleanM_len s; omega⟩, ?_⟩⟩⟩
  have hc := cleanM_len s
  have hk := comM_len (cleanM s)
  have e0 : (0 : Int) + (comM ((cleanM s).drop (0 : Int).toNat) : Int) = ((comM (cleanM s) : Nat) : Int) := by
    show (0 : Int) + (comM ((cleanM s).drop 0) : Int) = _
    rw [List.drop_zero, Int.zero_add]
  rw [e0]
  refine p_tL (cleanM s) (by omega) _ _ (cleanM s).length ((cleanM s).drop (comM (cleanM s))) (comM (cleanM s)) 0 [] (by rw [List.length_drop]; omega) rfl hk rfl (by simp) (fun hL => ⟨fun p => absurd p (by decide), fun _ => ?_⟩) (fun hL b' => ⟨fun _ => h3 q ?_, fun p => absurd p (by decide)⟩)
  · rw [List.length_nil, Nat.zero_add] at hL
    exact h2 q hL
  · rw [List.length_nil, Nat.zero_add] at hL
    exact hL
/-! ### Values and names -/
def s_nam : T_k_Name := fun s K => (4000 < s.length → K [] 28) ∧ (s.length ≤ 4000 → (nameS s = false ∨ (nameM s).2 ≠ s.length) → K [] 12) ∧ (s.length ≤ 4000 → nameS s = true → (nameM s).2 = s.length → K (nameM s).1 0)
theorem p_nam (s K) (h : s_nam s K) : F_k_Name s_nameS s_name s K := by
  obtain ⟨h1, h2, h3⟩ := h
  refine ⟨fun q => h1 (by have := of_decide_eq_true q; omega), fun q => ?_⟩
  have q := of_decide_eq_false q
  have e0 : s.drop (0 : Int).toNat = s := rfl
  refine ⟨⟨⟨by omega, by omega, by omega⟩, by omega⟩, ?_⟩
  rw [e0]
  refine ⟨fun q2 => h2 (by omega) (Or.inl (by simpa using q2)), fun q2 => ⟨⟨by omega, by omega, by omega⟩, ?_⟩⟩
  rw [e0]
  refine ⟨fun q3 => h2 (by omega) (Or.inr (by have := of_decide_eq_true q3; omega)), fun q3 => h3 (by omega) (by simpa using q2) (by have := of_decide_eq_false q3; omega)⟩
end Go.Proofs.YtkmgbibhkilffaaGreatDoor

