/-
  A model of the tokenizer: plain functions on the rest of a text. Nothing is claimed here.
-/
import Derived.Test.YthjnkibldhfhmaaDoorTa
namespace Go.Proofs.YthjnkibldhfhmaaDoor
open Go.Vm Go.Sx Go.RowKit

/-! ### Bytes -/
def mD (c : Int) : Bool := decide (48 ≤ c) && decide (c ≤ 57)
def mL (c : Int) : Bool := (decide (97 ≤ c) && decide (c ≤ 122)) || (decide (65 ≤ c) && decide (c ≤ 90))
def mSp (c : Int) : Bool := decide (c = 10) || (decide (c = 9) || decide (c = 32))
def mQ (c : Int) : Bool := decide (c = 34) || decide (c = 39)
def mN0 (c : Int) : Bool := mL c || (decide (c = 95) || decide (128 ≤ c))
def mN (c : Int) : Bool := mN0 c || (mD c || decide (c = 45))
def mSg (c : Int) : Bool := decide (c = 43) || decide (c = 45)
def mE (c : Int) : Bool := decide (c = 101) || decide (c = 69)
/-- The first byte, or 0. -/
def hb : List UInt8 → Int
  | [] => 0
  | c :: _ => (c.toNat : Int)
@[simp] theorem hb_nil : hb [] = 0 := rfl
@[simp] theorem hb_cons (c : UInt8) (w : List UInt8) : hb (c :: w) = (c.toNat : Int) := rfl
def escS (w : List UInt8) : Bool := decide (hb w = 92) && decide (hb w.tail ≠ 10)
def nameS (w : List UInt8) : Bool := if hb w ≠ 45 then mN0 (hb w) || escS w else mN0 (hb w.tail) || (decide (hb w.tail = 45) || escS w.tail)
def nameG (w : List UInt8) : Bool := mN (hb w) || escS w
def fracS (w : List UInt8) : Bool := decide (hb w = 46) && mD (hb w.tail)
def numS (w : List UInt8) : Bool := if mSg (hb w) then mD (hb w.tail) || fracS w.tail else mD (hb w) || fracS w
def digS (w : List UInt8) : Bool := if mSg (hb w) then mD (hb w.tail) else mD (hb w)
def nSp : List UInt8 → Nat
  | [] => 0
  | c :: w => if mSp (c.toNat : Int) then nSp w + 1 else 0

/-! ### Escapes -/
def hexM (c : Int) : Int × Bool := if mD c then (c - 48, true) else if 97 ≤ c ∧ c ≤ 102 then (c - 87, true) else if 65 ≤ c ∧ c ≤ 70 then (c - 55, true) else (0, false)
def hexRun : Nat → List UInt8 → Int → Int × Nat
  | 0, _, a => (a, 0)
  | k + 1, w, a => if (hexM (hb w)).2 then ((hexRun k w.tail (a * 16 + (hexM (hb w)).1)).1, (hexRun k w.tail (a * 16 + (hexM (hb w)).1)).2 + 1) else (a, 0)
abbrev b8 (n : Int) : UInt8 := UInt8.ofNat n.toNat
/-- A code point as bytes. -/
def utfM (c : Int) : List UInt8 :=
  if c ≤ 127 then [b8 c]
  else if c ≤ 2047 then [b8 (192 + c / 64), b8 (128 + c % 64)]
  else if 55296 ≤ c ∧ c ≤ 57343 ∨ 1114111 < c then [b8 239, b8 191, b8 189]
  else if c ≤ 65535 then [b8 (224 + c / 4096), b8 (128 + c / 64 % 64), b8 (128 + c % 64)]
  else [b8 (240 + c / 262144), b8 (128 + c / 4096 % 64), b8 (128 + c / 64 % 64), b8 (128 + c % 64)]
/-- What an escape stands for, and how many bytes it has behind its backslash. -/
def escH (c : UInt8) (w : List UInt8) : List UInt8 × Nat :=
  if (hexM (c.toNat : Int)).2 then
    (utfM (if (hexRun 6 (c :: w) 0).1 = 0 then 65533 else (hexRun 6 (c :: w) 0).1), (hexRun 6 (c :: w) 0).2 + (if mSp (hb ((c :: w).drop (hexRun 6 (c :: w) 0).2)) then 1 else 0))
  else ([c], 1)
def escM : List UInt8 → List UInt8 × Nat
  | [] => (utfM 65533, 0)
  | c :: w => escH c w

/-! ### Names, strings, urls -/
def nameM : List UInt8 → List UInt8 × Nat
  | [] => ([], 0)
  | c :: w =>
    if nameG (c :: w) then
      if (c.toNat : Int) = 92 then
        ((escM w).1 ++ (nameM (w.drop (escM w).2)).1, 1 + (escM w).2 + (nameM (w.drop (escM w).2)).2)
      else (c :: (nameM w).1, 1 + (nameM w).2)
    else ([], 0)
termination_by w => w.length
decreasing_by all_goals (simp only [List.length_drop, List.length_cons]; omega)
/-- A string behind its mark: whether it is good, its text, its bytes. -/
def strM (q : Int) : List UInt8 → Bool × List UInt8 × Nat
  | [] => (true, [], 0)
  | c :: w =>
    if (c.toNat : Int) = q then (true, [], 1)
    else if (c.toNat : Int) = 10 then (false, [], 0)
    else if (c.toNat : Int) ≠ 92 then ((strM q w).1, c :: (strM q w).2.1, 1 + (strM q w).2.2)
    else match w with
      | [] => (true, [], 1)
      | d :: v => if (d.toNat : Int) = 10 then ((strM q v).1, (strM q v).2.1, 2 + (strM q v).2.2)
        else ((strM q ((d :: v).drop (escM (d :: v)).2)).1, (escM (d :: v)).1 ++ (strM q ((d :: v).drop (escM (d :: v)).2)).2.1, 1 + (escM (d :: v)).2 + (strM q ((d :: v).drop (escM (d :: v)).2)).2.2)
termination_by w => w.length
decreasing_by all_goals (simp only [List.length_drop, List.length_cons]; omega)
def badM : List UInt8 → Nat
  | [] => 0
  | c :: w =>
    if (c.toNat : Int) = 41 then 1
    else if escS (c :: w) then 1 + (escM w).2 + badM (w.drop (escM w).2)
    else 1 + badM w
termination_by w => w.length
decreasing_by all_goals (simp only [List.length_drop, List.length_cons]; omega)
def spoils (c : Int) : Bool := decide (c = 34) || decide (c = 39) || decide (c = 40) || decide (c = 92) || decide (c = 11) || decide (c = 127) || decide (c ≤ 8) || (decide (14 ≤ c) && decide (c ≤ 31))
/-- A url behind its spaces: its text, and its bytes up to where it ends, or is bad. -/
def urlM : List UInt8 → List UInt8 × Nat
  | [] => ([], 0)
  | c :: w =>
    if (c.toNat : Int) = 41 then ([], 0)
    else if mSp (c.toNat : Int) then ([], nSp (c :: w))
    else if escS (c :: w) then ((escM w).1 ++ (urlM (w.drop (escM w).2)).1, 1 + (escM w).2 + (urlM (w.drop (escM w).2)).2)
    else if spoils (c.toNat : Int) then ([], 0)
    else (c :: (urlM w).1, 1 + (urlM w).2)
termination_by w => w.length
decreasing_by all_goals (simp only [List.length_drop, List.length_cons]; omega)
def tk (k : Int) (t : List UInt8 := []) (n : Int := 0) (u : List UInt8 := []) (f : Bool := false) : Tok := ⟨k, t, n, u, f⟩
/-- A url behind its parenthesis. -/
def readUrlM (w : List UInt8) : Tok × Nat :=
  let a := nSp w
  let u := urlM (w.drop a)
  let v := w.drop (a + u.2)
  if v = [] then (tk 7 u.1, a + u.2) else if hb v = 41 then (tk 7 u.1, a + u.2 + 1) else (tk 8, a + u.2 + badM v)
def low (c : Int) : Int := if 65 ≤ c ∧ c ≤ 90 then c + 32 else c
def alikeM : List UInt8 → List UInt8 → Bool
  | [], [] => true
  | a :: x, b :: y => decide (low (a.toNat : Int) = low (b.toNat : Int)) && alikeM x y
  | _, _ => false
def namedM (w : List UInt8) : Tok × Nat :=
  let r := nameM w
  let v := w.drop r.2
  if hb v ≠ 40 then (tk 1 r.1, r.2)
  else if alikeM r.1 [117, 114, 108] && !mQ (hb (v.tail.drop (nSp v.tail))) then ((readUrlM v.tail).1, r.2 + 1 + (readUrlM v.tail).2)
  else (tk 2 r.1, r.2 + 1)

/-! ### Numbers -/
def digs (w : List UInt8) : List UInt8 := w.takeWhile fun c => mD (c.toNat : Int)
def wholeF (a : Int) (c : UInt8) : Int := min (10 * a + ((c.toNat : Int) - 48)) 8000
def wholeM (w : List UInt8) : Int := w.foldl wholeF 0
def zeros0 (w : List UInt8) : List UInt8 := w.dropWhile fun c => c == 48
/-- The first k digits as a number, zeros behind the last. -/
def firstM : Nat → List UInt8 → Int → Int
  | 0, _, a => a
  | k + 1, [], a => firstM k [] (a * 10)
  | k + 1, c :: w, a => firstM k w (a * 10 + ((c.toNat : Int) - 48))
def cutM (w : List UInt8) (p : Int) : Int :=
  let v := zeros0 w
  let q := p - ((w.length : Int) - (v.length : Int))
  if v = [] ∨ q ≤ 0 then 0 else if 13 < q then 1000000000000 else min (firstM q.toNat v 0) 1000000000000
/-- The exponent of a number: its value, and its bytes. -/
def expM (w : List UInt8) : Int × Nat :=
  if mE (hb w) && digS w.tail then
    let v := if mSg (hb w.tail) then w.tail.tail else w.tail
    (if hb w.tail = 45 then 0 - wholeM (digs v) else wholeM (digs v), (if mSg (hb w.tail) then 2 else 1) + (digs v).length)
  else (0, 0)
def signN (w : List UInt8) : Nat := if mSg (hb w) then 1 else 0
def wholeD (w : List UInt8) : List UInt8 := digs (w.drop (signN w))
def behindW (w : List UInt8) : Nat := signN w + (wholeD w).length
def fracD (w : List UInt8) : List UInt8 := if fracS (w.drop (behindW w)) then digs (w.drop (behindW w)).tail else []
def behindF (w : List UInt8) : Nat := behindW w + (if fracS (w.drop (behindW w)) then 1 + (fracD w).length else 0)
def behindE (w : List UInt8) : Nat := behindF w + (expM (w.drop (behindF w))).2
def numM (w : List UInt8) : Int × Bool × Nat :=
  let n := cutM (wholeD w ++ fracD w) ((wholeD w).length + (expM (w.drop (behindF w))).1 + 3)
  (if hb w = 45 then 0 - n else n, !(fracS (w.drop (behindW w))) && decide ((expM (w.drop (behindF w))).2 = 0), behindE w)
def numericM (w : List UInt8) : Tok × Nat :=
  let r := numM w
  let v := w.drop r.2.2
  if nameS v then (tk 12 [] r.1 (nameM v).1 r.2.1, r.2.2 + (nameM v).2)
  else if hb v = 37 then (tk 11 [] r.1, r.2.2 + 1)
  else (tk 10 [] r.1 [] r.2.1, r.2.2)

/-! ### Tokens -/
def marksA : List Int := [0, 0, 0, 0, 0, 0, 0, 0, 0, 0, 0, 0, 0, 0, 0, 0, 0, 0, 0, 0, 0, 0, 0, 0, 0, 0, 0, 0, 0, 0, 0, 0, 0, 0, 0, 0, 0, 0, 0, 0, 21, 22, 0, 0, 18, 0, 0, 0, 0, 0, 0, 0, 0, 0, 0, 0, 0, 0, 16, 17, 0, 0, 0, 0, 0, 0, 0, 0, 0, 0, 0, 0, 0, 0, 0, 0, 0, 0, 0, 0, 0, 0, 0, 0, 0, 0, 0, 0, 0, 0, 0, 19, 0, 20, 0, 0, 0, 0, 0, 0, 0, 0, 0, 0, 0, 0, 0, 0, 0, 0, 0, 0, 0, 0, 0, 0, 0, 0, 0, 0, 0, 0, 0, 23, 0, 24]
def markM (c : Int) : Int := if c < 126 then marksA.getD c.toNat 0 else 0
def tok5 (w : List UInt8) : Tok × Nat :=
  if nameS w then namedM w
  else if markM (hb w) ≠ 0 then (tk (markM (hb w)), 1)
  else (tk 9 (w.take 1), 1)
def tok4 (w : List UInt8) : Tok × Nat :=
  if hb w = 64 ∧ nameS w.tail = true then (tk 3 (nameM w.tail).1, 1 + (nameM w.tail).2) else tok5 w
def tok2 (w : List UInt8) : Tok × Nat :=
  if numS w then numericM w
  else if [45, 45, 62].isPrefixOf w then (tk 15, 3)
  else if [60, 33, 45, 45].isPrefixOf w then (tk 14, 4)
  else tok4 w
def tokM (w : List UInt8) : Tok × Nat :=
  if mSp (hb w) then (tk 13, nSp w)
  else if mQ (hb w) then (if (strM (hb w) w.tail).1 then tk 5 (strM (hb w) w.tail).2.1 else tk 6, 1 + (strM (hb w) w.tail).2.2)
  else if hb w = 35 ∧ nameG w.tail = true then (tk 4 (nameM w.tail).1 0 [] (nameS w.tail), 1 + (nameM w.tail).2)
  else tok2 w
/-- Where a comment's end begins. -/
def closM : List UInt8 → Option Nat
  | [] => none
  | c :: w => if c = 42 ∧ hb w = 47 then some 0 else (closM w).map (· + 1)
def comM (w : List UInt8) : Nat :=
  if [47, 42].isPrefixOf w then
    match closM (w.drop 2) with
    | none => w.length
    | some k => if w = [] then 0 else 2 + (k + 2) + comM (w.drop (2 + (k + 2)))
  else 0
termination_by w.length
decreasing_by
  cases w with
  | nil => contradiction
  | cons c w => simp only [List.length_drop, List.length_cons]; omega
def cleanM : List UInt8 → List UInt8
  | [] => []
  | c :: w =>
    if (c.toNat : Int) = 0 then [239, 191, 189] ++ cleanM w
    else if (c.toNat : Int) = 12 then 10 :: cleanM w
    else if (c.toNat : Int) = 13 then (if hb w = 10 then cleanM w else 10 :: cleanM w)
    else c :: cleanM w
/-- The tokens with their spans, of a clean text behind its first comments. -/
def tksM : Nat → List UInt8 → Nat → List (Tok × Nat × Nat)
  | 0, _, _ => []
  | _ + 1, [], _ => []
  | f + 1, c :: w, p => ((tokM (c :: w)).1, p, p + (tokM (c :: w)).2) :: tksM f ((c :: w).drop ((tokM (c :: w)).2 + comM ((c :: w).drop (tokM (c :: w)).2))) (p + (tokM (c :: w)).2 + comM ((c :: w).drop (tokM (c :: w)).2))
def allM (c : List UInt8) : List (Tok × Nat × Nat) := tksM c.length (c.drop (comM c)) (comM c)
end Go.Proofs.YthjnkibldhfhmaaDoor
