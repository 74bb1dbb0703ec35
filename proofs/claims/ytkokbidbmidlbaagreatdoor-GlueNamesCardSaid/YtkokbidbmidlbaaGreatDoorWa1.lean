/-
 A model of the tokenizer: plain functions on the rest of a text. Nothing is claimed here.
-/
import Derived.Test.YtkokbidbmidlbaaGreatDoorTa
import Derived.Test.YtkokbidbmidlbaaGreatDoorTh
import Derived.Lib.Index
namespace Go.Proofs.YtkokbidbmidlbaaGreatDoor
open Go.Vm Go.Sx Go.RowKit
def mD (c : Int) : Bool := decide (48 ≤ c) && decide (c ≤ 57)
def mL (c : Int) : Bool := (decide (97 ≤ c) && decide (c ≤ 122)) || (decide (65 ≤ c) && decide (c ≤ 90))
def mSp (c : Int) : Bool := decide (c = 10) || (decide (c = 9) || decide (c = 32))
def mQ (c : Int) : Bool := decide (c = 34) || decide (c = 39)
def mN0 (c : Int) : Bool := mL c || (decide (c = 95) || decide (128 ≤ c))
def mN (c : Int) : Bool := mN0 c || (mD c || decide (c = 45))
def mSg (c : Int) : Bool := decide (c = 43) || decide (c = 45)
def mE (c : Int) : Bool := decide (c = 101) || decide (c = 69)
def hb : List UInt8 → Int
 | [] => 0
 | c :: _ => (c.toNat : Int)
@[simp] theorem Zgg : hb [] = 0 := rfl
@[simp] theorem JC (c : UInt8) (w : List UInt8) : hb (c :: w) = (c.toNat : Int) := rfl
def Jfe (w : List UInt8) : Bool := decide (hb w = 92) && decide (hb w.tail ≠ 10)
def ZcX (w : List UInt8) : Bool := if hb w ≠ 45 then mN0 (hb w) || Jfe w else mN0 (hb w.tail) || (decide (hb w.tail = 45) || Jfe w.tail)
def zdn (w : List UInt8) : Bool := mN (hb w) || Jfe w
def JcX (w : List UInt8) : Bool := decide (hb w = 46) && mD (hb w.tail)
def jf8 (w : List UInt8) : Bool := if mSg (hb w) then mD (hb w.tail) || JcX w.tail else mD (hb w) || JcX w
def Jgv (w : List UInt8) : Bool := if mSg (hb w) then mD (hb w.tail) else mD (hb w)
def nSp : List UInt8 → Nat
 | [] => 0
 | c :: w => if mSp (c.toNat : Int) then nSp w + 1 else 0
def JaR (c : Int) : Int × Bool := if mD c then (c - 48, true) else if 97 ≤ c ∧ c ≤ 102 then (c - 87, true) else if 65 ≤ c ∧ c ≤ 70 then (c - 55, true) else (0, false)
def Zh : Nat → List UInt8 → Int → Int × Nat
 | 0, _, a => (a, 0)
 | k + 1, w, a => if (JaR (hb w)).2 then ((Zh k w.tail (a * 16 + (JaR (hb w)).1)).1, (Zh k w.tail (a * 16 + (JaR (hb w)).1)).2 + 1) else (a, 0)
abbrev b8 (n : Int) : UInt8 := UInt8.ofNat n.toNat
def zcY (c : Int) : List UInt8 :=
 if c ≤ 127 then [b8 c]
 else if c ≤ 2047 then [b8 (192 + c / 64), b8 (128 + c % 64)]
 else if 55296 ≤ c ∧ c ≤ 57343 ∨ 1114111 < c then [b8 239, b8 191, b8 189]
 else if c ≤ 65535 then [b8 (224 + c / 4096), b8 (128 + c / 64 % 64), b8 (128 + c % 64)]
 else [b8 (240 + c / 262144), b8 (128 + c / 4096 % 64), b8 (128 + c / 64 % 64), b8 (128 + c % 64)]
def JfN (c : UInt8) (w : List UInt8) : List UInt8 × Nat :=
 if (JaR (c.toNat : Int)).2 then
  (zcY (if (Zh 6 (c :: w) 0).1 = 0 then 65533 else (Zh 6 (c :: w) 0).1), (Zh 6 (c :: w) 0).2 + (if mSp (hb ((c :: w).drop (Zh 6 (c :: w) 0).2)) then 1 else 0))
 else ([c], 1)
def jJ : List UInt8 → List UInt8 × Nat
 | [] => (zcY 65533, 0)
 | c :: w => JfN c w
def zB : List UInt8 → List UInt8 × Nat
 | [] => ([], 0)
 | c :: w =>
  if zdn (c :: w) then
   if (c.toNat : Int) = 92 then
    ((jJ w).1 ++ (zB (w.drop (jJ w).2)).1, 1 + (jJ w).2 + (zB (w.drop (jJ w).2)).2)
   else (c :: (zB w).1, 1 + (zB w).2)
  else ([], 0)
termination_by w => w.length
decreasing_by all_goals (simp only [List.length_drop, List.length_cons]; omega)
def strM (q : Int) : List UInt8 → Bool × List UInt8 × Nat
 | [] => (true, [], 0)
 | c :: w =>
  if (c.toNat : Int) = q then (true, [], 1)
  else if (c.toNat : Int) = 10 then (false, [], 0)
  else if (c.toNat : Int) ≠ 92 then ((strM q w).1, c :: (strM q w).2.1, 1 + (strM q w).2.2)
  else match w with
   | [] => (true, [], 1)
   | d :: v => if (d.toNat : Int) = 10 then ((strM q v).1, (strM q v).2.1, 2 + (strM q v).2.2)
    else ((strM q ((d :: v).drop (jJ (d :: v)).2)).1, (jJ (d :: v)).1 ++ (strM q ((d :: v).drop (jJ (d :: v)).2)).2.1, 1 + (jJ (d :: v)).2 + (strM q ((d :: v).drop (jJ (d :: v)).2)).2.2)
termination_by w => w.length
decreasing_by all_goals (simp only [List.length_drop, List.length_cons]; omega)
def jdn : List UInt8 → Nat
 | [] => 0
 | c :: w =>
  if (c.toNat : Int) = 41 then 1
  else if Jfe (c :: w) then 1 + (jJ w).2 + jdn (w.drop (jJ w).2)
  else 1 + jdn w
termination_by w => w.length
decreasing_by all_goals (simp only [List.length_drop, List.length_cons]; omega)
def zd3 (c : Int) : Bool := decide (c = 34) || decide (c = 39) || decide (c = 40) || decide (c = 92) || decide (c = 11) || decide (c = 127) || decide (c ≤ 8) || (decide (14 ≤ c) && decide (c ≤ 31))
def JbU : List UInt8 → List UInt8 × Nat
 | [] => ([], 0)
 | c :: w =>
  if (c.toNat : Int) = 41 then ([], 0)
  else if mSp (c.toNat : Int) then ([], nSp (c :: w))
  else if Jfe (c :: w) then ((jJ w).1 ++ (JbU (w.drop (jJ w).2)).1, 1 + (jJ w).2 + (JbU (w.drop (jJ w).2)).2)
  else if zd3 (c.toNat : Int) then ([], 0)
  else (c :: (JbU w).1, 1 + (JbU w).2)
termination_by w => w.length
decreasing_by all_goals (simp only [List.length_drop, List.length_cons]; omega)
def tk (k : Int) (t : List UInt8 := []) (n : Int := 0) (u : List UInt8 := []) (f : Bool := false) : Tok := ⟨k, t, n, u, f⟩
def zag (w : List UInt8) : Tok × Nat :=
 let a := nSp w
 let u := JbU (w.drop a)
 let v := w.drop (a + u.2)
 if v = [] then (tk 7 u.1, a + u.2) else if hb v = 41 then (tk 7 u.1, a + u.2 + 1) else (tk 8, a + u.2 + jdn v)
def low (c : Int) : Int := if 65 ≤ c ∧ c ≤ 90 then c + 32 else c
def Zaj : List UInt8 → List UInt8 → Bool
 | [], [] => true
 | a :: x, b :: y => decide (low (a.toNat : Int) = low (b.toNat : Int)) && Zaj x y
 | _, _ => false
def jbv (w : List UInt8) : Tok × Nat :=
 let r := zB w
 let v := w.drop r.2
 if hb v ≠ 40 then (tk 1 r.1, r.2)
 else if Zaj r.1 [117, 114, 108] && !mQ (hb (v.tail.drop (nSp v.tail))) then ((zag v.tail).1, r.2 + 1 + (zag v.tail).2)
 else (tk 2 r.1, r.2 + 1)
def ZJ (w : List UInt8) : List UInt8 := w.takeWhile fun c => mD (c.toNat : Int)
def zbg (a : Int) (c : UInt8) : Int := min (10 * a + ((c.toNat : Int) - 48)) 8000
def JaU (w : List UInt8) : Int := w.foldl zbg 0
def J7 (w : List UInt8) : List UInt8 := w.dropWhile fun c => c == 48
def Jcj : Nat → List UInt8 → Int → Int
 | 0, _, a => a
 | k + 1, [], a => Jcj k [] (a * 10)
 | k + 1, c :: w, a => Jcj k w (a * 10 + ((c.toNat : Int) - 48))
def jfA (w : List UInt8) (p : Int) : Int :=
 let v := J7 w
 let q := p - ((w.length : Int) - (v.length : Int))
 if v = [] ∨ q ≤ 0 then 0 else if 13 < q then 1000000000000 else min (Jcj q.toNat v 0) 1000000000000
def zbV (w : List UInt8) : Int × Nat :=
 if mE (hb w) && Jgv w.tail then
  let v := if mSg (hb w.tail) then w.tail.tail else w.tail
  (if hb w.tail = 45 then 0 - JaU (ZJ v) else JaU (ZJ v), (if mSg (hb w.tail) then 2 else 1) + (ZJ v).length)
 else (0, 0)
def jaP (w : List UInt8) : Nat := if mSg (hb w) then 1 else 0
def Zao (w : List UInt8) : List UInt8 := ZJ (w.drop (jaP w))
def Zt (w : List UInt8) : Nat := jaP w + (Zao w).length
def ZbH (w : List UInt8) : List UInt8 := if JcX (w.drop (Zt w)) then ZJ (w.drop (Zt w)).tail else []
def jj (w : List UInt8) : Nat := Zt w + (if JcX (w.drop (Zt w)) then 1 + (ZbH w).length else 0)
def Zad (w : List UInt8) : Nat := jj w + (zbV (w.drop (jj w))).2
def Zeh (w : List UInt8) : Int × Bool × Nat :=
 let n := jfA (Zao w ++ ZbH w) ((Zao w).length + (zbV (w.drop (jj w))).1 + 3)
 (if hb w = 45 then 0 - n else n, !(JcX (w.drop (Zt w))) && decide ((zbV (w.drop (jj w))).2 = 0), Zad w)
def jag (w : List UInt8) : Tok × Nat :=
 let r := Zeh w
 let v := w.drop r.2.2
 if ZcX v then (tk 12 [] r.1 (zB v).1 r.2.1, r.2.2 + (zB v).2)
 else if hb v = 37 then (tk 11 [] r.1, r.2.2 + 1)
 else (tk 10 [] r.1 [] r.2.1, r.2.2)
def marksA : List Int := [0, 0, 0, 0, 0, 0, 0, 0, 0, 0, 0, 0, 0, 0, 0, 0, 0, 0, 0, 0, 0, 0, 0, 0, 0, 0, 0, 0, 0, 0, 0, 0, 0, 0, 0, 0, 0, 0, 0, 0, 21, 22, 0, 0, 18, 0, 0, 0, 0, 0, 0, 0, 0, 0, 0, 0, 0, 0, 16, 17, 0, 0, 0, 0, 0, 0, 0, 0, 0, 0, 0, 0, 0, 0, 0, 0, 0, 0, 0, 0, 0, 0, 0, 0, 0, 0, 0, 0, 0, 0, 0, 19, 0, 20, 0, 0, 0, 0, 0, 0, 0, 0, 0, 0, 0, 0, 0, 0, 0, 0, 0, 0, 0, 0, 0, 0, 0, 0, 0, 0, 0, 0, 0, 23, 0, 24]
def Jeh (c : Int) : Int := if c < 126 then marksA.getD c.toNat 0 else 0
def zfO (w : List UInt8) : Tok × Nat :=
 if ZcX w then jbv w
 else if Jeh (hb w) ≠ 0 then (tk (Jeh (hb w)), 1)
 else (tk 9 (w.take 1), 1)
def jfO (w : List UInt8) : Tok × Nat :=
 if hb w = 64 ∧ ZcX w.tail = true then (tk 3 (zB w.tail).1, 1 + (zB w.tail).2) else zfO w
def ZfO (w : List UInt8) : Tok × Nat :=
 if jf8 w then jag w
 else if [45, 45, 62].isPrefixOf w then (tk 15, 3)
 else if [60, 33, 45, 45].isPrefixOf w then (tk 14, 4)
 else jfO w
def zbZ (w : List UInt8) : Tok × Nat :=
 if mSp (hb w) then (tk 13, nSp w)
 else if mQ (hb w) then (if (strM (hb w) w.tail).1 then tk 5 (strM (hb w) w.tail).2.1 else tk 6, 1 + (strM (hb w) w.tail).2.2)
 else if hb w = 35 ∧ zdn w.tail = true then (tk 4 (zB w.tail).1 0 [] (ZcX w.tail), 1 + (zB w.tail).2)
 else ZfO w
def jcY : List UInt8 → Option Nat
 | [] => none
 | c :: w => if c = 42 ∧ hb w = 47 then some 0 else (jcY w).map (· + 1)
def JcB (w : List UInt8) : Nat :=
 if [47, 42].isPrefixOf w then
  match jcY (w.drop 2) with
  | none => w.length
  | some k => if w = [] then 0 else 2 + (k + 2) + JcB (w.drop (2 + (k + 2)))
 else 0
termination_by w.length
decreasing_by
 cases w with
 | nil => contradiction
 | cons c w => simp only [List.length_drop, List.length_cons]; omega
def Jq : List UInt8 → List UInt8
 | [] => []
 | c :: w =>
  if (c.toNat : Int) = 0 then [239, 191, 189] ++ Jq w
  else if (c.toNat : Int) = 12 then 10 :: Jq w
  else if (c.toNat : Int) = 13 then (if hb w = 10 then Jq w else 10 :: Jq w)
  else c :: Jq w
def JfO : Nat → List UInt8 → Nat → List (Tok × Nat × Nat)
 | 0, _, _ => []
 | _ + 1, [], _ => []
 | f + 1, c :: w, p => ((zbZ (c :: w)).1, p, p + (zbZ (c :: w)).2) :: JfO f ((c :: w).drop ((zbZ (c :: w)).2 + JcB ((c :: w).drop (zbZ (c :: w)).2))) (p + (zbZ (c :: w)).2 + JcB ((c :: w).drop (zbZ (c :: w)).2))
def Jgg (c : List UInt8) : List (Tok × Nat × Nat) := JfO c.length (c.drop (JcB c)) (JcB c)
end Go.Proofs.YtkokbidbmidlbaaGreatDoor
namespace Go.Proofs.YtkokbidbmidlbaaGreatDoor
open Go.Vm Go.Sx Go.RowKit
abbrev okP (s : List UInt8) (i : Int) : Prop := 0 ≤ i ∧ i ≤ 2000000 ∧ s.length ≤ 1000000
theorem JB {n : Int} (h : -100000000 ≤ n ∧ n ≤ 100000000) : I64 n := by unfold I64; omega
theorem ze0 (s : List UInt8) (n : Nat) : hb (s.drop n) = ((s.getD n 0).toNat : Int) := by
 rw [List.getD_eq_getElem?_getD]
 by_cases h : n < s.length
 ·rw [List.drop_eq_getElem_cons h, JC, List.getElem?_eq_getElem h, Option.getD_some]
 ·rw [List.drop_of_length_le (by omega), Zgg, List.getElem?_eq_none (by omega)]
  rfl
theorem z7 {s : List UInt8} {i : Int} (h : 0 ≤ i) : s.drop (i + 1).toNat = (s.drop i.toNat).tail := by
 have : (i + 1).toNat = i.toNat + 1 := by omega
 rw [this, List.tail_drop]
theorem zaD {s : List UInt8} {i : Int} (h : 0 ≤ i) (n : Nat) : s.drop (i + (n : Int)).toNat = (s.drop i.toNat).drop n := by
 have : (i + (n : Int)).toNat = i.toNat + n := by omega
 rw [this, List.drop_drop]
theorem zdB (w : List UInt8) : 0 ≤ hb w ∧ hb w ≤ 255 := by
 cases w with
 | nil => decide
 | cons c w => have := c.toNat_lt; rw [JC]; omega
theorem jm {s w : List UInt8} {c : UInt8} {i : Int} (h0 : 0 ≤ i) (h : s.drop i.toNat = c :: w) : i < (s.length : Int) ∧ s.getD i.toNat 0 = c ∧ s.drop (i + 1).toNat = w ∧ (w.length : Int) = s.length - i - 1 := by
 have hl : i.toNat < s.length := by
  by_cases q : i.toNat < s.length
  ·exact q
  ·rw [List.drop_of_length_le (by omega)] at h; cases h
 have e := List.drop_eq_getElem_cons hl
 rw [h] at e
 obtain ⟨e1, e2⟩ := List.cons.inj e
 have e3 := congrArg List.length e2
 rw [List.length_drop] at e3
 refine ⟨by omega, ?_, ?_, by omega⟩
 ·rw [List.getD_eq_getElem?_getD, List.getElem?_eq_getElem hl, Option.getD_some, e1]
 ·rw [z7 h0, h]; rfl
theorem zx {s : List UInt8} {i : Int} (h : s.drop i.toNat = []) : s.length ≤ i.toNat := by
 have := congrArg List.length h
 rw [List.length_drop, List.length_nil] at this
 omega
theorem zfa (c : UInt8) : UInt8.ofNat ((c.toNat : Int).toNat) = c := by
 rw [Int.toNat_natCast]
 exact UInt8.ofNat_toNat
theorem jdB (c : UInt8) : 0 ≤ (c.toNat : Int) ∧ (c.toNat : Int) ≤ 255 := by have := c.toNat_lt; omega
def Ze : T_k_byteAt := fun s i K => 0 ≤ i ∧ K (hb (s.drop i.toNat))
theorem Jfp (s i K) (h : Ze s i K) : Ja7 s i K := by
 obtain ⟨h0, h⟩ := h
 unfold Ja7
 refine ⟨fun q => ⟨⟨h0, of_decide_eq_true q⟩, ?_⟩, fun q => ?_⟩
 ·rwa [ze0] at h
 ·have q := of_decide_eq_false q
  rwa [List.drop_of_length_le (by omega)] at h
def J9 : T_c_IsDigit := fun c K => K (mD c)
theorem zgG (c K) (h : J9 c K) : zaG c K := by
 unfold zaG
 unfold J9 mD at h
 refine ⟨fun q => ?_, fun q => ?_⟩ <;> rw [q] at h <;> exact h
def ZU : T_k_isSign := fun c K => K (mSg c)
theorem zfq (c K) (h : ZU c K) : za8 c K := by
 unfold za8
 unfold ZU mSg at h
 refine ⟨fun q => ?_, fun q => ?_⟩ <;> rw [q] at h <;> exact h
def JbQ : T_k_isExponentMark := fun c K => K (mE c)
theorem jfX (c K) (h : JbQ c K) : ZM c K := by
 unfold ZM
 unfold JbQ mE at h
 refine ⟨fun q => ?_, fun q => ?_⟩ <;> rw [q] at h <;> exact h
def jer : T_c_IsLetter := fun c K => K (mL c)
theorem jgG (c K) (h : jer c K) : zap c K := by
 unfold zap
 unfold jer mL at h
 refine ⟨fun q => ⟨fun q2 => ⟨fun q3 => ?_, fun q3 => ?_⟩, fun q2 => ?_⟩, fun q => ⟨fun q3 => ?_, fun q3 => ?_⟩⟩ <;> simpa only [*, Bool.true_and, Bool.false_and, Bool.true_or, Bool.false_or, Bool.and_true, Bool.and_false, Bool.or_false, Bool.or_true] using h
def JU : T_c_StartsName := fun c K => K (mN0 c)
theorem jfq (c K) (h : JU c K) : zab jer c K := by
 unfold zab jer
 unfold JU mN0 at h
 refine ⟨fun q => ⟨fun q2 => ?_, fun q2 => ?_⟩, fun q => ?_⟩ <;> simpa only [*, Bool.true_or, Bool.false_or] using h
def Zdb : T_c_IsOfName := fun c K => K (mN c)
theorem ZgG (c K) (h : Zdb c K) : jap JU J9 c K := by
 unfold jap JU J9
 unfold Zdb mN at h
 refine ⟨fun q => ⟨fun q2 => ?_, fun q2 => ?_⟩, fun q => ?_⟩ <;> simpa only [*, Bool.true_or, Bool.false_or] using h
def JG : T_c_IsSpace := fun c K => K (mSp c)
theorem Jgk (c K) (h : JG c K) : ZaI c K := by
 unfold ZaI
 unfold JG mSp at h
 refine ⟨fun q => ⟨fun q2 => ?_, fun q2 => ?_⟩, fun q => ?_⟩ <;> simpa only [*, Bool.true_or, Bool.false_or] using h
def jcK : T_c_IsQuote := fun c K => K (mQ c)
theorem JgG (c K) (h : jcK c K) : JaI c K := by
 unfold JaI
 unfold jcK mQ at h
 refine ⟨fun q => ?_, fun q => ?_⟩ <;> simpa only [*, Bool.true_or, Bool.false_or] using h
def Zcx : T_k_fSt := fun s i K => okP s i ∧ K (JcX (s.drop i.toNat))
theorem zgl (s i K) (h : Zcx s i K) : jc2 Ze J9 s i K := by
 obtain ⟨⟨h0, h1, h2⟩, h⟩ := h
 unfold JcX at h
 unfold jc2 Ze J9
 rw [z7 h0]
 refine ⟨h0, fun q => ⟨JB (by omega), by omega, ?_⟩, fun q => ?_⟩ <;> simpa only [q, Bool.true_and, Bool.false_and] using h
def jbD : T_k_eSt := fun s i K => okP s i ∧ K (Jfe (s.drop i.toNat))
theorem zgH (s i K) (h : jbD s i K) : zc4 Ze s i K := by
 obtain ⟨⟨h0, h1, h2⟩, h⟩ := h
 unfold Jfe at h
 unfold zc4 Ze
 rw [z7 h0]
 refine ⟨h0, fun q => ⟨JB (by omega), by omega, ?_⟩, fun q => ?_⟩ <;> simpa only [q, Bool.true_and, Bool.false_and] using h
def ZdB : T_k_nSt := fun s i K => (okP s i ∧ i < 2000000) ∧ K (jf8 (s.drop i.toNat))
theorem jgl (s i K) (h : ZdB s i K) : Zc2 Ze ZU J9 Zcx s i K := by
 obtain ⟨⟨⟨h0, h1, h2⟩, h3⟩, h⟩ := h
 unfold jf8 at h
 unfold Zc2 Ze J9 ZU Zcx
 rw [z7 h0]
 refine ⟨h0, fun q => ⟨JB (by omega), by omega, ?_⟩, fun q => ⟨h0, ?_⟩⟩
 ·simp only [q, if_true] at h
  refine ⟨fun q2 => ⟨⟨by omega, by omega, h2⟩, ?_⟩, fun q2 => ?_⟩ <;> simpa only [q2, Bool.true_or, Bool.false_or] using h
 ·simp only [q, Bool.false_eq_true, if_false] at h
  refine ⟨fun q2 => ⟨⟨by omega, by omega, h2⟩, ?_⟩, fun q2 => ?_⟩ <;> simpa only [q2, Bool.true_or, Bool.false_or] using h
def JdB : T_k_digitStarts := fun s i K => okP s i ∧ K (Jgv (s.drop i.toNat))
theorem Zgl (s i K) (h : JdB s i K) : JZ Ze ZU J9 s i K := by
 obtain ⟨⟨h0, h1, h2⟩, h⟩ := h
 unfold Jgv at h
 unfold JZ Ze J9 ZU
 rw [z7 h0]
 refine ⟨h0, fun q => ⟨JB (by omega), by omega, ?_⟩, fun q => ⟨h0, ?_⟩⟩ <;> simpa [q] using h
def zaa : T_k_nameStarts := fun s i K => (okP s i ∧ i < 2000000) ∧ K (ZcX (s.drop i.toNat))
theorem ZfX (s i K) (h : zaa s i K) : jab Ze JU jbD s i K := by
 obtain ⟨⟨⟨h0, h1, h2⟩, h3⟩, h⟩ := h
 unfold ZcX at h
 unfold jab Ze JU jbD
 rw [z7 h0]
 refine ⟨h0, fun q => ⟨h0, fun q2 => ⟨⟨h0, h1, h2⟩, ?_⟩, fun q2 => ?_⟩, fun q => ⟨JB (by omega), by omega, fun q2 => ⟨fun q3 => ⟨JB (by omega), ⟨by omega, by omega, h2⟩, ?_⟩, fun q3 => ?_⟩, fun q2 => ?_⟩⟩
 ·rw [if_pos (of_decide_eq_true q), q2] at h; exact h
 ·rw [if_pos (of_decide_eq_true q), q2] at h; exact h
 ·rw [if_neg (of_decide_eq_false q), q2, q3] at h; exact h
 ·rw [if_neg (of_decide_eq_false q), q2, q3] at h; exact h
 ·rw [if_neg (of_decide_eq_false q), q2] at h; exact h
def Zbq : T_k_nGO := fun s i K => okP s i ∧ K (zdn (s.drop i.toNat))
theorem JfX (s i K) (h : Zbq s i K) : Zc4 Ze Zdb jbD s i K := by
 obtain ⟨⟨h0, h1, h2⟩, h⟩ := h
 unfold zdn at h
 unfold Zc4 Ze Zdb jbD
 refine ⟨h0, fun q => ⟨⟨h0, h1, h2⟩, ?_⟩, fun q => ?_⟩ <;> simpa only [q, Bool.true_or, Bool.false_or] using h
theorem Jgl (s : List UInt8) (hs : s.length ≤ 1000000) (Ke : Int → Prop) : ∀ (w : List UInt8) (i : Int), s.drop i.toNat = w → okP s i → Ke (i + (nSp w : Int)) → ∃ m, ja9 Ze JG m s i Ke
 | [], i, hd, hi, h => by
  refine ⟨1, hi.1, fun q => ?_, fun _ => ?_⟩
  ·rw [hd] at q; exact absurd q (by decide)
  ·simpa [nSp] using h
 | c :: w, i, hd, hi, h => by
  obtain ⟨hl, hc, hn, _⟩ := jm hi.1 hd
  cases q : mSp (c.toNat : Int) with
  | false =>
   unfold nSp at h
   rw [q] at h
   refine ⟨1, hi.1, fun q2 => ?_, fun _ => ?_⟩
   ·rw [hd, JC, q] at q2; cases q2
   ·simpa using h
  | true =>
   unfold nSp at h
   rw [q] at h
   obtain ⟨m, hm⟩ := Jgl s hs Ke w (i + 1) hn ⟨by omega, by omega, hs⟩ (by
    have : i + 1 + (nSp w : Int) = i + ((nSp w + 1 : Nat) : Int) := by omega
    rw [this]
    simpa using h)
   refine ⟨m + 1, hi.1, fun _ => ⟨JB (by omega), hm⟩, fun q2 => ?_⟩
   rw [hd, JC, q] at q2; cases q2
def Zfq : T_k_bSp := fun s i K => okP s i ∧ K (i + (nSp (s.drop i.toNat) : Int))
theorem zg0 (s i K) (h : Zfq s i K) : zdS Ze JG s i K := Jgl s h.1.2.2 _ _ _ rfl h.1 h.2
end Go.Proofs.YtkokbidbmidlbaaGreatDoor
namespace Go.Proofs.YtkokbidbmidlbaaGreatDoor
open Go.Vm Go.Sx Go.RowKit
theorem fd6 (x : Int) : x.fdiv (2 ^ (min 6 IntKind.i32.bits)) = x / 64 := Int.fdiv_eq_ediv_of_nonneg _ (by decide)
theorem zgx (x : Int) : x.fdiv (2 ^ (min 12 IntKind.i32.bits)) = x / 4096 := Int.fdiv_eq_ediv_of_nonneg _ (by decide)
theorem jgx (x : Int) : x.fdiv (2 ^ (min 18 IntKind.i32.bits)) = x / 262144 := Int.fdiv_eq_ediv_of_nonneg _ (by decide)
theorem Jgm : ∀ y : Fin 256, IntKind.u8.wrap ((BitVec.ofInt IntKind.u8.bits (128 : Int) ||| BitVec.ofInt IntKind.u8.bits (IntKind.u8.wrap ((BitVec.ofInt IntKind.u8.bits ((y.val : Nat) : Int) &&& BitVec.ofInt IntKind.u8.bits (63 : Int)).toNat : Int))).toNat : Int) = 128 + (((y.val : Nat) : Int)) % 64 := by decide +kernel
theorem Jfq (y : Int) : IntKind.u8.wrap ((BitVec.ofInt IntKind.u8.bits (128 : Int) ||| BitVec.ofInt IntKind.u8.bits (IntKind.u8.wrap ((BitVec.ofInt IntKind.u8.bits (IntKind.u8.wrap y) &&& BitVec.ofInt IntKind.u8.bits (63 : Int)).toNat : Int))).toNat : Int) = 128 + y % 64 := by
 have h := Jgm ⟨(y % 256).toNat, by omega⟩
 have e : (((y % 256).toNat : Nat) : Int) = IntKind.u8.wrap y := by rw [IntKind.wrap_u8]; omega
 rw [e] at h
 rw [h, IntKind.wrap_u8]
 omega
theorem zgn : ∀ y : Fin 32, IntKind.u8.wrap ((BitVec.ofInt IntKind.u8.bits (192 : Int) ||| BitVec.ofInt IntKind.u8.bits (IntKind.u8.wrap ((y.val : Nat) : Int))).toNat : Int) = 192 + ((y.val : Nat) : Int) := by decide +kernel
theorem jgn : ∀ y : Fin 16, IntKind.u8.wrap ((BitVec.ofInt IntKind.u8.bits (224 : Int) ||| BitVec.ofInt IntKind.u8.bits (IntKind.u8.wrap ((y.val : Nat) : Int))).toNat : Int) = 224 + ((y.val : Nat) : Int) := by decide +kernel
theorem Zgn : ∀ y : Fin 8, IntKind.u8.wrap ((BitVec.ofInt IntKind.u8.bits (240 : Int) ||| BitVec.ofInt IntKind.u8.bits (IntKind.u8.wrap ((y.val : Nat) : Int))).toNat : Int) = 240 + ((y.val : Nat) : Int) := by decide +kernel
theorem zfr {y : Int} (h0 : 0 ≤ y) (h1 : y < 32) : IntKind.u8.wrap ((BitVec.ofInt IntKind.u8.bits (192 : Int) ||| BitVec.ofInt IntKind.u8.bits (IntKind.u8.wrap y)).toNat : Int) = 192 + y := by
 have h := zgn ⟨y.toNat, by omega⟩
 rwa [show ((y.toNat : Nat) : Int) = y by omega] at h
theorem ZdC {y : Int} (h0 : 0 ≤ y) (h1 : y < 16) : IntKind.u8.wrap ((BitVec.ofInt IntKind.u8.bits (224 : Int) ||| BitVec.ofInt IntKind.u8.bits (IntKind.u8.wrap y)).toNat : Int) = 224 + y := by
 have h := jgn ⟨y.toNat, by omega⟩
 rwa [show ((y.toNat : Nat) : Int) = y by omega] at h
theorem jfr {y : Int} (h0 : 0 ≤ y) (h1 : y < 8) : IntKind.u8.wrap ((BitVec.ofInt IntKind.u8.bits (240 : Int) ||| BitVec.ofInt IntKind.u8.bits (IntKind.u8.wrap y)).toNat : Int) = 240 + y := by
 have h := Zgn ⟨y.toNat, by omega⟩
 rwa [show ((y.toNat : Nat) : Int) = y by omega] at h
theorem Zgx {x : Int} (h0 : 0 ≤ x) (h1 : x ≤ 16777215) : IntKind.u32.wrap x = x := by rw [IntKind.wrap_u32]; omega
theorem u8w {n : Int} (h0 : 0 ≤ n) (h1 : n ≤ 255) : IntKind.u8.wrap n = n := by rw [IntKind.wrap_u8]; omega
theorem zd9 (c : Int) : (zcY c).length ≤ 4 := by
 unfold zcY
 split
 ·simp
 ·split
  ·simp
  ·split
   ·simp
   ·split <;> simp
theorem Jgx {c : Int} (h : c ≤ 127) : zcY c = [b8 c] := by unfold zcY; rw [if_pos h]
theorem zgy {c : Int} (h : ¬ c ≤ 127) (h2 : c ≤ 2047) : zcY c = [b8 (192 + c / 64), b8 (128 + c % 64)] := by unfold zcY; rw [if_neg h, if_pos h2]
theorem jgy {c : Int} (h : ¬ c ≤ 127) (h2 : ¬ c ≤ 2047) (h3 : 55296 ≤ c ∧ c ≤ 57343 ∨ 1114111 < c) : zcY c = [b8 239, b8 191, b8 189] := by unfold zcY; rw [if_neg h, if_neg h2, if_pos h3]
theorem Zgy {c : Int} (h : ¬ c ≤ 127) (h2 : ¬ c ≤ 2047) (h3 : ¬ (55296 ≤ c ∧ c ≤ 57343 ∨ 1114111 < c)) (h4 : c ≤ 65535) : zcY c = [b8 (224 + c / 4096), b8 (128 + c / 64 % 64), b8 (128 + c % 64)] := by unfold zcY; rw [if_neg h, if_neg h2, if_neg h3, if_pos h4]
theorem Jgy {c : Int} (h : ¬ c ≤ 127) (h2 : ¬ c ≤ 2047) (h3 : ¬ (55296 ≤ c ∧ c ≤ 57343 ∨ 1114111 < c)) (h4 : ¬ c ≤ 65535) : zcY c = [b8 (240 + c / 262144), b8 (128 + c / 4096 % 64), b8 (128 + c / 64 % 64), b8 (128 + c % 64)] := by unfold zcY; rw [if_neg h, if_neg h2, if_neg h3, if_neg h4]
def ZbD : T_k_hexDigit := fun c K => (0 ≤ c ∧ c ≤ 255) ∧ K (JaR c).1 (JaR c).2
theorem jgI (c K) (h : ZbD c K) : Jap J9 c K := by
 obtain ⟨⟨h0, h1⟩, h⟩ := h
 unfold Jap J9
 unfold JaR at h
 have i32 : ∀ n : Int, 0 ≤ n ∧ n ≤ 1000 → I32 n := fun n h => by unfold I32; omega
 refine ⟨fun q => ?_, fun q => ?_⟩
 ·rw [if_pos q] at h
  unfold mD at q
  simp only [Bool.and_eq_true, decide_eq_true_eq] at q
  rw [u8w (by omega) (by omega)]
  exact ⟨i32 _ (by omega), h⟩
 ·rw [if_neg (by rw [q]; decide)] at h
  simp only [decide_eq_true_eq, decide_eq_false_iff_not]
  have e97 : ∀ n : Int, n - 97 + 10 = n - 87 := fun n => by omega
  have e65 : ∀ n : Int, n - 65 + 10 = n - 55 := fun n => by omega
  refine ⟨fun q1 => ⟨fun q2 => ?_, fun q2 => ⟨fun q3 => ⟨fun q4 => ?_, fun q4 => ?_⟩, fun q3 => ?_⟩⟩, fun q1 => ⟨fun q3 => ⟨fun q4 => ?_, fun q4 => ?_⟩, fun q3 => ?_⟩⟩
  ·rw [if_pos ⟨q1, q2⟩] at h
   rw [u8w (by omega) (by omega), e97]
   exact ⟨i32 _ (by omega), i32 _ (by omega), h⟩
  ·exfalso; omega
  ·rw [if_neg (by omega), if_neg (by omega)] at h; exact h
  ·exfalso; omega
  ·rw [if_neg (by omega), if_pos ⟨q3, q4⟩] at h
   rw [u8w (by omega) (by omega), e65]
   exact ⟨i32 _ (by omega), i32 _ (by omega), h⟩
  ·rw [if_neg (by omega), if_neg (by omega)] at h; exact h
  ·rw [if_neg (by omega), if_neg (by omega)] at h; exact h
theorem Jcx {c : Int} (h : (JaR c).2 = true) : 0 ≤ (JaR c).1 ∧ (JaR c).1 ≤ 15 := by
 unfold JaR mD at h ⊢
 simp only [Bool.and_eq_true, decide_eq_true_eq] at h ⊢
 split
 ·simp only; omega
 ·split
  ·simp only; omega
  ·split
   ·simp only; omega
   ·rename_i h1 h2 h3; rw [if_neg h1, if_neg h2, if_neg h3] at h; cases h
theorem zgz {a d : Int} (h0 : 0 ≤ a) (h1 : a < 1048576) (h2 : 0 ≤ d) (h3 : d ≤ 15) : IntKind.i32.wrap ((BitVec.ofInt IntKind.i32.bits (IntKind.i32.wrap (a * 2 ^ (min 4 IntKind.i32.bits))) ||| BitVec.ofInt IntKind.i32.bits d).toNat : Int) = a * 16 + d := by
 obtain ⟨x, rfl⟩ := Int.eq_ofNat_of_zero_le h0
 obtain ⟨y, rfl⟩ := Int.eq_ofNat_of_zero_le h2
 have e1 : ((x : Int) * 2 ^ (min 4 IntKind.i32.bits)) = ((x * 16 : Nat) : Int) := by
  show (x : Int) * (2 ^ 4) = _
  omega
 have e2 : IntKind.i32.wrap ((x * 16 : Nat) : Int) = ((x * 16 : Nat) : Int) := by rw [IntKind.wrap_i32]; omega
 rw [e1, e2, BitVec.ofInt_natCast, BitVec.ofInt_natCast, BitVec.toNat_or, BitVec.toNat_ofNat, BitVec.toNat_ofNat]
 have e3 : (x * 16) % 2 ^ IntKind.i32.bits = x * 16 := Nat.mod_eq_of_lt (by show _ < 4294967296; omega)
 have e4 : y % 2 ^ IntKind.i32.bits = y := Nat.mod_eq_of_lt (by show _ < 4294967296; omega)
 rw [e3, e4]
 have e5 : x * 16 ||| y = x * 16 + y := by
  have := Nat.two_pow_add_eq_or_of_lt (i := 4) (b := y) (by omega) x
  rw [Nat.mul_comm x 16]
  exact this.symm
 rw [e5, IntKind.wrap_i32]
 omega
theorem Jer {k n : Nat} (h : k ≤ n) : (16 : Int) ^ k ≤ 16 ^ n := by
 have := Nat.pow_le_pow_right (n := 16) (by decide) h
 exact_mod_cast this
theorem Jai : ∀ (r : Nat) (w : List UInt8) (a : Int), (Zh r w a).2 ≤ w.length
 | 0, w, a => Nat.zero_le _
 | r + 1, w, a => by
  unfold Zh
  split
  ·rename_i q
   cases w with
   | nil => exact absurd q (by decide)
   | cons c w => have := Jai r w (a * 16 + (JaR (hb (c :: w))).1); simp only [List.tail_cons, List.length_cons]; omega
  ·exact Nat.zero_le _
theorem ja2 : ∀ (r : Nat) (w : List UInt8) (a : Int) (k : Nat), r + k ≤ 6 → 0 ≤ a → a < 16 ^ k → 0 ≤ (Zh r w a).1 ∧ (Zh r w a).1 ≤ 16777215
 | 0, w, a, k, hk, h0, h1 => by
  have : (16 : Int) ^ k ≤ 16 ^ 6 := Jer (by omega)
  exact ⟨h0, by show a ≤ _; have : (16 : Int) ^ 6 = 16777216 := (by decide); omega⟩
 | r + 1, w, a, k, hk, h0, h1 => by
  unfold Zh
  split
  ·rename_i q
   have hd := Jcx q
   have e : (16 : Int) ^ (k + 1) = 16 ^ k * 16 := Int.pow_succ _ _
   exact ja2 r w.tail _ (k + 1) (by omega) (by omega) (by rw [e]; omega)
  ·have : (16 : Int) ^ k ≤ 16 ^ 6 := Jer (by omega)
   exact ⟨h0, by show a ≤ _; have : (16 : Int) ^ 6 = 16777216 := (by decide); omega⟩
theorem Jah (w : List UInt8) : (jJ w).2 ≤ w.length := by
 cases w with
 | nil => exact Nat.le_refl _
 | cons c w =>
  rw [jJ, JfN]
  split
  ·have h := Jai 6 (c :: w) 0
   simp only
   split
   ·rename_i q
    cases hd : (c :: w).drop (Zh 6 (c :: w) 0).2 with
    | nil => rw [hd] at q; exact absurd q (by decide)
    | cons d v =>
     have := congrArg List.length hd
     simp only [List.length_drop, List.length_cons] at this
     simp only [List.length_cons] at h ⊢
     omega
   ·omega
  ·simp
theorem Zb9 (w : List UInt8) : (jJ w).1.length ≤ 4 := by
 cases w with
 | nil => show (zcY 65533).length ≤ 4; exact zd9 _
 | cons c w =>
  rw [jJ, JfN]
  split
  ·exact zd9 _
  ·simp
def Jdb : T_uA_e := fun x b K => (0 ≤ x ∧ x ≤ 16777215) ∧ b.length ≤ 10000000 ∧ K (b ++ zcY x)
set_option maxRecDepth 100000 in
theorem zfY (x b K) (h : Jdb x b K) : jd6 x b K := by
 obtain ⟨⟨h0, h1⟩, hb, h⟩ := h
 have k1 : x ≤ 127 → K (b ++ [b8 x]) := fun q => Jgx q ▸ h
 have k2 : ¬ x ≤ 127 → x ≤ 2047 → K (b ++ [b8 (192 + x / 64), b8 (128 + x % 64)]) := fun q q2 => zgy q q2 ▸ h
 have kX : ¬ x ≤ 127 → ¬ x ≤ 2047 → (55296 ≤ x ∧ x ≤ 57343 ∨ 1114111 < x) → K (b ++ [b8 239, b8 191, b8 189]) := fun q q2 q3 => jgy q q2 q3 ▸ h
 have k3 : ¬ x ≤ 127 → ¬ x ≤ 2047 → ¬ (55296 ≤ x ∧ x ≤ 57343 ∨ 1114111 < x) → x ≤ 65535 → K (b ++ [b8 (224 + x / 4096), b8 (128 + x / 64 % 64), b8 (128 + x % 64)]) := fun q q2 q3 q4 => Zgy q q2 q3 q4 ▸ h
 have k4 : ¬ x ≤ 127 → ¬ x ≤ 2047 → ¬ (55296 ≤ x ∧ x ≤ 57343 ∨ 1114111 < x) → ¬ x ≤ 65535 → K (b ++ [b8 (240 + x / 262144), b8 (128 + x / 4096 % 64), b8 (128 + x / 64 % 64), b8 (128 + x % 64)]) := fun q q2 q3 q4 => Jgy q q2 q3 q4 ▸ h
 clear h
 unfold jd6
 simp only [Zgx h0 h1, Jfq, fd6, zgx, jgx, decide_eq_true_eq, decide_eq_false_iff_not, List.length_cons, List.length_nil]
 refine ⟨fun q => ?_, fun q => ⟨fun q2 => ?_, fun q2 => ⟨fun q3 => ?_, fun q3 => ⟨fun q4 => ⟨fun q5 => ?_, fun q5 => ⟨fun q6 => ⟨fun q7 => ?_, fun q7 => ?_⟩, fun q6 => ?_⟩⟩, fun q4 => ⟨fun q6 => ⟨fun q7 => ?_, fun q7 => ?_⟩, fun q6 => ?_⟩⟩⟩⟩⟩
 ·rw [u8w h0 (by omega)]
  exact ⟨by omega, by omega, k1 q⟩
 ·rw [zfr (by omega) (by omega)]
  exact ⟨by decide, by omega, by omega, by omega, k2 q q2⟩
 ·rw [ZdC (by omega) (by omega)]
  exact ⟨by decide, by decide, by omega, by omega, by omega, by omega, k3 q q2 (by omega) (by omega)⟩
 ·rw [ZdC (by omega) (by omega)]
  exact ⟨by decide, by decide, by omega, by omega, by omega, by omega, k3 q q2 (by omega) (by omega)⟩
 ·rw [jfr (by omega) (by omega)]
  exact ⟨by decide, by decide, by decide, by omega, by omega, by omega, by omega, by omega, k4 q q2 (by omega) (by omega)⟩
 ·exact ⟨by decide, by decide, by decide, by omega, kX q q2 (by omega)⟩
 ·exfalso; omega
 ·exfalso; omega
 ·exact ⟨by decide, by decide, by decide, by omega, kX q q2 (by omega)⟩
 ·exact ⟨by decide, by decide, by decide, by omega, kX q q2 (by omega)⟩
set_option maxRecDepth 100000 in
theorem jd9 (s : List UInt8) (hs : s.length ≤ 1000000) (b : List UInt8) (A : T_uA_e) (Ke : List UInt8 → Int → Int → List UInt8 → Prop) : ∀ (r : Nat) (w : List UInt8) (i a x : Int) (k : Nat), x = k → r + k = 6 → s.drop i.toNat = w → 0 ≤ i → i + (r : Int) ≤ 1000020 → 0 ≤ a → a < 16 ^ k → Ke s (i + ((Zh r w a).2 : Int)) (Zh r w a).1 b → ∃ m, jby A ZbD Ze JG m s i a x b Ke
 | 0, w, i, a, x, k, hx, hk, hd, h0, hi, ha0, ha1, h => by
  refine ⟨1, fun q => ?_, fun _ => ?_⟩
  ·exfalso; have := of_decide_eq_true q; omega
  ·simpa [Zh] using h
 | r + 1, w, i, a, x, k, hx, hk, hd, h0, hi, ha0, ha1, h => by
  unfold Zh at h
  cases q : (JaR (hb w)).2 with
  | false =>
   rw [q] at h
   refine ⟨1, fun _ => ⟨h0, zdB _, fun q2 => ?_, fun q2 => ?_⟩, fun q2 => ?_⟩
   ·simpa using h
   ·rw [hd, q] at q2; exact absurd q2 (by decide)
   ·exfalso; have := of_decide_eq_false q2; omega
  | true =>
   rw [q] at h
   simp only [if_true] at h
   have hdg := Jcx q
   have e : (16 : Int) ^ (k + 1) = 16 ^ k * 16 := Int.pow_succ _ _
   have e5 : (16 : Int) ^ k ≤ 16 ^ 5 := Jer (by omega)
   have e6 : (16 : Int) ^ 5 = 1048576 := by decide
   obtain ⟨m, hm⟩ := jd9 s hs b A Ke r w.tail (i + 1) (a * 16 + (JaR (hb w)).1) (x + 1) (k + 1) (by omega) (by omega) (by rw [z7 h0, hd]) (by omega) (by omega) (by omega) (by rw [e]; omega) (by
    have : i + 1 + ((Zh r w.tail (a * 16 + (JaR (hb w)).1)).2 : Int) = i + (((Zh r w.tail (a * 16 + (JaR (hb w)).1)).2 + 1 : Nat) : Int) := by omega
    rw [this]; exact h)
   refine ⟨m + 1, fun _ => ⟨h0, zdB _, fun q2 => ?_, fun _ => ⟨by decide, JB (by omega), JB (by omega), ?_⟩⟩, fun q2 => ?_⟩
   ·rw [hd, q] at q2; exact absurd q2 (by decide)
   ·rw [hd, zgz ha0 (by omega) hdg.1 hdg.2]
    exact hm
   ·exfalso; have := of_decide_eq_false q2; omega
def zcy : T_aE_e := fun s i b K => (0 ≤ i ∧ i < s.length ∧ s.length ≤ 1000000) ∧ b.length ≤ 5000000 ∧ K (i + 1 + ((jJ (s.drop (i + 1).toNat)).2 : Int)) (b ++ (jJ (s.drop (i + 1).toNat)).1)
theorem jfY (s i b K) (h : zcy s i b K) : ZeT Jdb ZbD Ze JG s i b K := by
 obtain ⟨⟨h0, h1, h2⟩, hb, h⟩ := h
 refine ⟨JB (by omega), fun q => ?_, fun q => ?_⟩
 ·have q := of_decide_eq_true q
  rw [List.drop_of_length_le (by omega)] at h
  unfold jJ at h
  refine ⟨by omega, by omega, ?_⟩
  simpa using h
 ·have q := of_decide_eq_false q
  cases hd : s.drop (i + 1).toNat with
  | nil => exfalso; have := zx hd; omega
  | cons c w =>
  obtain ⟨_, hc, _, _⟩ := jm (by omega) hd
  rw [hd, jJ, JfN] at h
  rw [hc]
  refine ⟨by omega, jdB c, fun q2 => ?_, fun q2 => ?_⟩
  ·have q3 : (JaR (c.toNat : Int)).2 = false := by simpa using q2
   rw [q3] at h
   rw [zfa]
   refine ⟨by omega, jdB c, by simp only [List.length_cons, List.length_nil]; omega, JB (by omega), ?_⟩
   simpa using h
  ·have q3 : (JaR (c.toNat : Int)).2 = true := by simpa using q2
   rw [q3] at h
   simp only [if_true] at h
   have hl := Jai 6 (c :: w) 0
   have hin := ja2 6 (c :: w) 0 0 (by omega) (by omega) (by decide)
   have hlw := congrArg List.length hd
   rw [List.length_drop] at hlw
   refine jd9 s h2 b _ _ 6 (c :: w) (i + 1) 0 0 0 rfl rfl hd (by omega) (by omega) (by omega) (by decide) ?_
   have e : s.drop (i + 1 + ((Zh 6 (c :: w) 0).2 : Int)).toNat = (c :: w).drop (Zh 6 (c :: w) 0).2 := by rw [zaD (by omega), hd]
   refine ⟨by omega, fun q4 => ⟨JB (by omega), fun q5 => ?_, fun q5 => ?_⟩, fun q4 => ⟨fun q5 => ?_, fun q5 => ?_⟩⟩
   ·rw [e] at q4
    rw [q4, if_pos (of_decide_eq_true q5), if_pos rfl] at h
    refine ⟨by omega, by omega, ?_⟩
    have e2 : i + 1 + ((Zh 6 (c :: w) 0).2 : Int) + 1 = i + 1 + (((Zh 6 (c :: w) 0).2 + 1 : Nat) : Int) := by omega
    rw [e2]; exact h
   ·rw [e] at q4
    rw [q4, if_neg (of_decide_eq_false q5), if_pos rfl] at h
    refine ⟨hin, by omega, ?_⟩
    have e2 : i + 1 + ((Zh 6 (c :: w) 0).2 : Int) + 1 = i + 1 + (((Zh 6 (c :: w) 0).2 + 1 : Nat) : Int) := by omega
    rw [e2]; exact h
   ·rw [e] at q4
    rw [q4, if_pos (of_decide_eq_true q5)] at h
    exact ⟨by omega, by omega, by simpa using h⟩
   ·rw [e] at q4
    rw [q4, if_neg (of_decide_eq_false q5)] at h
    exact ⟨hin, by omega, by simpa using h⟩
theorem ZfY (s : List UInt8) (hs : s.length ≤ 1000000) (Ke : Int → List UInt8 → Prop) : ∀ (n : Nat) (w : List UInt8) (i : Int) (b : List UInt8), w.length ≤ n → s.drop i.toNat = w → okP s i → b.length + 4 * w.length ≤ 4500000 → Ke (i + ((zB w).2 : Int)) (b ++ (zB w).1) → ∃ m, JP Zbq zcy m s i b Ke := by
 intro n
 induction n with
 | zero =>
  intro w i b hn hd hi hb h
  cases w with
  | cons c w => simp at hn
  | nil =>
   refine ⟨1, hi, fun q => ?_, fun _ => ?_⟩
   ·rw [hd] at q; exact absurd q (by decide)
   ·rw [zB] at h; simpa using h
 | succ n ih =>
  intro w i b hn hd hi hb h
  cases w with
  | nil =>
   refine ⟨1, hi, fun q => ?_, fun _ => ?_⟩
   ·rw [hd] at q; exact absurd q (by decide)
   ·rw [zB] at h; simpa using h
  | cons c w =>
  obtain ⟨hl, hc, hnx, hlen⟩ := jm hi.1 hd
  rw [List.length_cons] at hn hb
  rw [zB] at h
  cases q : zdn (c :: w) with
  | false =>
   rw [q] at h
   refine ⟨1, hi, fun q2 => ?_, fun _ => ?_⟩
   ·rw [hd, q] at q2; cases q2
   ·simpa using h
  | true =>
   rw [q, if_pos rfl] at h
   by_cases q3 : (c.toNat : Int) = 92
   ·rw [if_pos q3] at h
    have he := Jah w
    have het := Zb9 w
    have hlw : (w.drop (jJ w).2).length ≤ n := by rw [List.length_drop]; omega
    obtain ⟨m, hm⟩ := ih (w.drop (jJ w).2) (i + 1 + ((jJ w).2 : Int)) (b ++ (jJ w).1) hlw (by rw [zaD (by omega), hnx]) ⟨by omega, by omega, hs⟩ (by rw [List.length_append, List.length_drop]; omega) (by
     have e : i + 1 + ((jJ w).2 : Int) + ((zB (w.drop (jJ w).2)).2 : Int) = i + ((1 + (jJ w).2 + (zB (w.drop (jJ w).2)).2 : Nat) : Int) := by omega
     rw [e, List.append_assoc]; exact h)
    refine ⟨m + 1, hi, fun _ => ⟨⟨hi.1, hl⟩, fun _ => ⟨⟨hi.1, hl, hs⟩, by omega, ?_⟩, fun q4 => ?_⟩, fun q2 => ?_⟩
    ·rw [hnx]; exact hm
    ·exact absurd (by rw [hc]; exact q3) (of_decide_eq_false q4)
    ·rw [hd, q] at q2; cases q2
   ·rw [if_neg q3] at h
    obtain ⟨m, hm⟩ := ih w (i + 1) (b ++ [c]) (by omega) hnx ⟨by omega, by omega, hs⟩ (by rw [List.length_append]; simp only [List.length_singleton]; omega) (by
     have e : i + 1 + ((zB w).2 : Int) = i + ((1 + (zB w).2 : Nat) : Int) := by omega
     rw [e, List.append_assoc]; exact h)
    refine ⟨m + 1, hi, fun _ => ⟨⟨hi.1, hl⟩, fun q4 => ?_, fun _ => ⟨⟨hi.1, hl⟩, ?_⟩⟩, fun q2 => ?_⟩
    ·exact absurd (by rw [← hc]; exact of_decide_eq_true q4) q3
    ·rw [hc, zfa]
     exact ⟨jdB c, by simp only [List.length_singleton]; omega, JB (by omega), hm⟩
    ·rw [hd, q] at q2; cases q2
def zbh : T_k_readName := fun s i K => okP s i ∧ K (zB (s.drop i.toNat)).1 (i + ((zB (s.drop i.toNat)).2 : Int))
theorem Jgn (s i K) (h : zbh s i K) : jaY Zbq zcy s i K := by
 obtain ⟨hi, h⟩ := h
 refine ZfY s hi.2.2 _ _ (s.drop i.toNat) i [] (Nat.le_refl _) rfl hi (by rw [List.length_drop]; have := hi.2.2; simp only [List.length_nil]; omega) ?_
 simpa using h
theorem Za2 (w : List UInt8) : (zB w).2 ≤ w.length := by
 induction hn : w.length using Nat.strongRecOn generalizing w with
 | _ n ih =>
  cases w with
  | nil => rw [zB]; simp
  | cons c w =>
   rw [List.length_cons] at hn
   rw [zB]
   split
   ·split
    ·have he := Jah w
     have := ih (w.drop (jJ w).2).length (by rw [List.length_drop]; omega) (w.drop (jJ w).2) rfl
     rw [List.length_drop] at this
     simp only
     omega
    ·have := ih w.length (by omega) w rfl
     simp only
     omega
   ·simp
end Go.Proofs.YtkokbidbmidlbaaGreatDoor
namespace Go.Proofs.YtkokbidbmidlbaaGreatDoor
open Go.Vm Go.Sx Go.RowKit
def zdc : T_uA_q := fun x c0 c1 c2 c3 c4 b K => (0 ≤ x ∧ x ≤ 16777215) ∧ b.length ≤ 10000000 ∧ K c0 c1 c2 c3 c4 (b ++ zcY x)
set_option maxRecDepth 100000 in
theorem JfY (x c0 c1 c2 c3 c4 b K) (h : zdc x c0 c1 c2 c3 c4 b K) : Jd6 x c0 c1 c2 c3 c4 b K := by
 obtain ⟨⟨h0, h1⟩, hb, h⟩ := h
 have k1 : x ≤ 127 → K c0 c1 c2 c3 c4 (b ++ [b8 x]) := fun q => Jgx q ▸ h
 have k2 : ¬ x ≤ 127 → x ≤ 2047 → K c0 c1 c2 c3 c4 (b ++ [b8 (192 + x / 64), b8 (128 + x % 64)]) := fun q q2 => zgy q q2 ▸ h
 have kX : ¬ x ≤ 127 → ¬ x ≤ 2047 → (55296 ≤ x ∧ x ≤ 57343 ∨ 1114111 < x) → K c0 c1 c2 c3 c4 (b ++ [b8 239, b8 191, b8 189]) := fun q q2 q3 => jgy q q2 q3 ▸ h
 have k3 : ¬ x ≤ 127 → ¬ x ≤ 2047 → ¬ (55296 ≤ x ∧ x ≤ 57343 ∨ 1114111 < x) → x ≤ 65535 → K c0 c1 c2 c3 c4 (b ++ [b8 (224 + x / 4096), b8 (128 + x / 64 % 64), b8 (128 + x % 64)]) := fun q q2 q3 q4 => Zgy q q2 q3 q4 ▸ h
 have k4 : ¬ x ≤ 127 → ¬ x ≤ 2047 → ¬ (55296 ≤ x ∧ x ≤ 57343 ∨ 1114111 < x) → ¬ x ≤ 65535 → K c0 c1 c2 c3 c4 (b ++ [b8 (240 + x / 262144), b8 (128 + x / 4096 % 64), b8 (128 + x / 64 % 64), b8 (128 + x % 64)]) := fun q q2 q3 q4 => Jgy q q2 q3 q4 ▸ h
 clear h
 unfold Jd6
 simp only [Zgx h0 h1, Jfq, fd6, zgx, jgx, decide_eq_true_eq, decide_eq_false_iff_not, List.length_cons, List.length_nil]
 refine ⟨fun q => ?_, fun q => ⟨fun q2 => ?_, fun q2 => ⟨fun q3 => ?_, fun q3 => ⟨fun q4 => ⟨fun q5 => ?_, fun q5 => ⟨fun q6 => ⟨fun q7 => ?_, fun q7 => ?_⟩, fun q6 => ?_⟩⟩, fun q4 => ⟨fun q6 => ⟨fun q7 => ?_, fun q7 => ?_⟩, fun q6 => ?_⟩⟩⟩⟩⟩
 ·rw [u8w h0 (by omega)]
  exact ⟨by omega, by omega, k1 q⟩
 ·rw [zfr (by omega) (by omega)]
  exact ⟨by decide, by omega, by omega, by omega, k2 q q2⟩
 ·rw [ZdC (by omega) (by omega)]
  exact ⟨by decide, by decide, by omega, by omega, by omega, by omega, k3 q q2 (by omega) (by omega)⟩
 ·rw [ZdC (by omega) (by omega)]
  exact ⟨by decide, by decide, by omega, by omega, by omega, by omega, k3 q q2 (by omega) (by omega)⟩
 ·rw [jfr (by omega) (by omega)]
  exact ⟨by decide, by decide, by decide, by omega, by omega, by omega, by omega, by omega, k4 q q2 (by omega) (by omega)⟩
 ·exact ⟨by decide, by decide, by decide, by omega, kX q q2 (by omega)⟩
 ·exfalso; omega
 ·exfalso; omega
 ·exact ⟨by decide, by decide, by decide, by omega, kX q q2 (by omega)⟩
 ·exact ⟨by decide, by decide, by decide, by omega, kX q q2 (by omega)⟩
set_option maxRecDepth 100000 in
theorem Zd9 (s : List UInt8) (hs : s.length ≤ 1000000) (c0 : Int) (c1 : List UInt8) (c2 : Int) (c3 : List UInt8) (c4 : Bool) (b : List UInt8) (A : T_uA_q) (Ke : List UInt8 → Int → Int → Int → List UInt8 → Int → List UInt8 → Bool → List UInt8 → Prop) : ∀ (r : Nat) (w : List UInt8) (i a x : Int) (k : Nat), x = k → r + k = 6 → s.drop i.toNat = w → 0 ≤ i → i + (r : Int) ≤ 1000020 → 0 ≤ a → a < 16 ^ k → Ke s (i + ((Zh r w a).2 : Int)) (Zh r w a).1 c0 c1 c2 c3 c4 b → ∃ m, Jby A ZbD Ze JG m s i a x c0 c1 c2 c3 c4 b Ke
 | 0, w, i, a, x, k, hx, hk, hd, h0, hi, ha0, ha1, h => by
  refine ⟨1, fun q => ?_, fun _ => ?_⟩
  ·exfalso; have := of_decide_eq_true q; omega
  ·simpa [Zh] using h
 | r + 1, w, i, a, x, k, hx, hk, hd, h0, hi, ha0, ha1, h => by
  unfold Zh at h
  cases q : (JaR (hb w)).2 with
  | false =>
   rw [q] at h
   refine ⟨1, fun _ => ⟨h0, zdB _, fun q2 => ?_, fun q2 => ?_⟩, fun q2 => ?_⟩
   ·simpa using h
   ·rw [hd, q] at q2; exact absurd q2 (by decide)
   ·exfalso; have := of_decide_eq_false q2; omega
  | true =>
   rw [q] at h
   simp only [if_true] at h
   have hdg := Jcx q
   have e : (16 : Int) ^ (k + 1) = 16 ^ k * 16 := Int.pow_succ _ _
   have e5 : (16 : Int) ^ k ≤ 16 ^ 5 := Jer (by omega)
   have e6 : (16 : Int) ^ 5 = 1048576 := by decide
   obtain ⟨m, hm⟩ := Zd9 s hs c0 c1 c2 c3 c4 b A Ke r w.tail (i + 1) (a * 16 + (JaR (hb w)).1) (x + 1) (k + 1) (by omega) (by omega) (by rw [z7 h0, hd]) (by omega) (by omega) (by omega) (by rw [e]; omega) (by
    have : i + 1 + ((Zh r w.tail (a * 16 + (JaR (hb w)).1)).2 : Int) = i + (((Zh r w.tail (a * 16 + (JaR (hb w)).1)).2 + 1 : Nat) : Int) := by omega
    rw [this]; exact h)
   refine ⟨m + 1, fun _ => ⟨h0, zdB _, fun q2 => ?_, fun _ => ⟨by decide, JB (by omega), JB (by omega), ?_⟩⟩, fun q2 => ?_⟩
   ·rw [hd, q] at q2; exact absurd q2 (by decide)
   ·rw [hd, zgz ha0 (by omega) hdg.1 hdg.2]
    exact hm
   ·exfalso; have := of_decide_eq_false q2; omega
def jcy : T_aE_q := fun s i c0 c1 c2 c3 c4 b K => (0 ≤ i ∧ i < s.length ∧ s.length ≤ 1000000) ∧ b.length ≤ 5000000 ∧ K (i + 1 + ((jJ (s.drop (i + 1).toNat)).2 : Int)) c0 c1 c2 c3 c4 (b ++ (jJ (s.drop (i + 1).toNat)).1)
theorem zfZ (s i c0 c1 c2 c3 c4 b K) (h : jcy s i c0 c1 c2 c3 c4 b K) : JeU zdc ZbD Ze JG s i c0 c1 c2 c3 c4 b K := by
 obtain ⟨⟨h0, h1, h2⟩, hb, h⟩ := h
 refine ⟨JB (by omega), fun q => ?_, fun q => ?_⟩
 ·have q := of_decide_eq_true q
  rw [List.drop_of_length_le (by omega)] at h
  unfold jJ at h
  refine ⟨by omega, by omega, ?_⟩
  simpa using h
 ·have q := of_decide_eq_false q
  cases hd : s.drop (i + 1).toNat with
  | nil => exfalso; have := zx hd; omega
  | cons c w =>
  obtain ⟨_, hc, _, _⟩ := jm (by omega) hd
  rw [hd, jJ, JfN] at h
  rw [hc]
  refine ⟨by omega, jdB c, fun q2 => ?_, fun q2 => ?_⟩
  ·have q3 : (JaR (c.toNat : Int)).2 = false := by simpa using q2
   rw [q3] at h
   rw [zfa]
   refine ⟨by omega, jdB c, by simp only [List.length_cons, List.length_nil]; omega, JB (by omega), ?_⟩
   simpa using h
  ·have q3 : (JaR (c.toNat : Int)).2 = true := by simpa using q2
   rw [q3] at h
   simp only [if_true] at h
   have hl := Jai 6 (c :: w) 0
   have hin := ja2 6 (c :: w) 0 0 (by omega) (by omega) (by decide)
   have hlw := congrArg List.length hd
   rw [List.length_drop] at hlw
   refine Zd9 s h2 c0 c1 c2 c3 c4 b _ _ 6 (c :: w) (i + 1) 0 0 0 rfl rfl hd (by omega) (by omega) (by omega) (by decide) ?_
   have e : s.drop (i + 1 + ((Zh 6 (c :: w) 0).2 : Int)).toNat = (c :: w).drop (Zh 6 (c :: w) 0).2 := by rw [zaD (by omega), hd]
   refine ⟨by omega, fun q4 => ⟨JB (by omega), fun q5 => ?_, fun q5 => ?_⟩, fun q4 => ⟨fun q5 => ?_, fun q5 => ?_⟩⟩
   ·rw [e] at q4
    rw [q4, if_pos (of_decide_eq_true q5), if_pos rfl] at h
    refine ⟨by omega, by omega, ?_⟩
    have e2 : i + 1 + ((Zh 6 (c :: w) 0).2 : Int) + 1 = i + 1 + (((Zh 6 (c :: w) 0).2 + 1 : Nat) : Int) := by omega
    rw [e2]; exact h
   ·rw [e] at q4
    rw [q4, if_neg (of_decide_eq_false q5), if_pos rfl] at h
    refine ⟨hin, by omega, ?_⟩
    have e2 : i + 1 + ((Zh 6 (c :: w) 0).2 : Int) + 1 = i + 1 + (((Zh 6 (c :: w) 0).2 + 1 : Nat) : Int) := by omega
    rw [e2]; exact h
   ·rw [e] at q4
    rw [q4, if_pos (of_decide_eq_true q5)] at h
    exact ⟨by omega, by omega, by simpa using h⟩
   ·rw [e] at q4
    rw [q4, if_neg (of_decide_eq_false q5)] at h
    exact ⟨hin, by omega, by simpa using h⟩
def jdc : T_uA_n := fun x b K => (0 ≤ x ∧ x ≤ 16777215) ∧ b.length ≤ 10000000 ∧ K (b ++ zcY x)
set_option maxRecDepth 100000 in
theorem jfZ (x b K) (h : jdc x b K) : jd7 x b K := by
 obtain ⟨⟨h0, h1⟩, hb, h⟩ := h
 have k1 : x ≤ 127 → K (b ++ [b8 x]) := fun q => Jgx q ▸ h
 have k2 : ¬ x ≤ 127 → x ≤ 2047 → K (b ++ [b8 (192 + x / 64), b8 (128 + x % 64)]) := fun q q2 => zgy q q2 ▸ h
 have kX : ¬ x ≤ 127 → ¬ x ≤ 2047 → (55296 ≤ x ∧ x ≤ 57343 ∨ 1114111 < x) → K (b ++ [b8 239, b8 191, b8 189]) := fun q q2 q3 => jgy q q2 q3 ▸ h
 have k3 : ¬ x ≤ 127 → ¬ x ≤ 2047 → ¬ (55296 ≤ x ∧ x ≤ 57343 ∨ 1114111 < x) → x ≤ 65535 → K (b ++ [b8 (224 + x / 4096), b8 (128 + x / 64 % 64), b8 (128 + x % 64)]) := fun q q2 q3 q4 => Zgy q q2 q3 q4 ▸ h
 have k4 : ¬ x ≤ 127 → ¬ x ≤ 2047 → ¬ (55296 ≤ x ∧ x ≤ 57343 ∨ 1114111 < x) → ¬ x ≤ 65535 → K (b ++ [b8 (240 + x / 262144), b8 (128 + x / 4096 % 64), b8 (128 + x / 64 % 64), b8 (128 + x % 64)]) := fun q q2 q3 q4 => Jgy q q2 q3 q4 ▸ h
 clear h
 unfold jd7
 simp only [Zgx h0 h1, Jfq, fd6, zgx, jgx, decide_eq_true_eq, decide_eq_false_iff_not, List.length_cons, List.length_nil]
 refine ⟨fun q => ?_, fun q => ⟨fun q2 => ?_, fun q2 => ⟨fun q3 => ?_, fun q3 => ⟨fun q4 => ⟨fun q5 => ?_, fun q5 => ⟨fun q6 => ⟨fun q7 => ?_, fun q7 => ?_⟩, fun q6 => ?_⟩⟩, fun q4 => ⟨fun q6 => ⟨fun q7 => ?_, fun q7 => ?_⟩, fun q6 => ?_⟩⟩⟩⟩⟩
 ·rw [u8w h0 (by omega)]
  exact ⟨by omega, by omega, k1 q⟩
 ·rw [zfr (by omega) (by omega)]
  exact ⟨by decide, by omega, by omega, by omega, k2 q q2⟩
 ·rw [ZdC (by omega) (by omega)]
  exact ⟨by decide, by decide, by omega, by omega, by omega, by omega, k3 q q2 (by omega) (by omega)⟩
 ·rw [ZdC (by omega) (by omega)]
  exact ⟨by decide, by decide, by omega, by omega, by omega, by omega, k3 q q2 (by omega) (by omega)⟩
 ·rw [jfr (by omega) (by omega)]
  exact ⟨by decide, by decide, by decide, by omega, by omega, by omega, by omega, by omega, k4 q q2 (by omega) (by omega)⟩
 ·exact ⟨by decide, by decide, by decide, by omega, kX q q2 (by omega)⟩
 ·exfalso; omega
 ·exfalso; omega
 ·exact ⟨by decide, by decide, by decide, by omega, kX q q2 (by omega)⟩
 ·exact ⟨by decide, by decide, by decide, by omega, kX q q2 (by omega)⟩
set_option maxRecDepth 100000 in
theorem Jd9 (s : List UInt8) (hs : s.length ≤ 1000000) (b : List UInt8) (A : T_uA_n) (Ke : List UInt8 → Int → Int → List UInt8 → Prop) : ∀ (r : Nat) (w : List UInt8) (i a x : Int) (k : Nat), x = k → r + k = 6 → s.drop i.toNat = w → 0 ≤ i → i + (r : Int) ≤ 1000020 → 0 ≤ a → a < 16 ^ k → Ke s (i + ((Zh r w a).2 : Int)) (Zh r w a).1 b → ∃ m, jbz A ZbD Ze JG m s i a x b Ke
 | 0, w, i, a, x, k, hx, hk, hd, h0, hi, ha0, ha1, h => by
  refine ⟨1, fun q => ?_, fun _ => ?_⟩
  ·exfalso; have := of_decide_eq_true q; omega
  ·simpa [Zh] using h
 | r + 1, w, i, a, x, k, hx, hk, hd, h0, hi, ha0, ha1, h => by
  unfold Zh at h
  cases q : (JaR (hb w)).2 with
  | false =>
   rw [q] at h
   refine ⟨1, fun _ => ⟨h0, zdB _, fun q2 => ?_, fun q2 => ?_⟩, fun q2 => ?_⟩
   ·simpa using h
   ·rw [hd, q] at q2; exact absurd q2 (by decide)
   ·exfalso; have := of_decide_eq_false q2; omega
  | true =>
   rw [q] at h
   simp only [if_true] at h
   have hdg := Jcx q
   have e : (16 : Int) ^ (k + 1) = 16 ^ k * 16 := Int.pow_succ _ _
   have e5 : (16 : Int) ^ k ≤ 16 ^ 5 := Jer (by omega)
   have e6 : (16 : Int) ^ 5 = 1048576 := by decide
   obtain ⟨m, hm⟩ := Jd9 s hs b A Ke r w.tail (i + 1) (a * 16 + (JaR (hb w)).1) (x + 1) (k + 1) (by omega) (by omega) (by rw [z7 h0, hd]) (by omega) (by omega) (by omega) (by rw [e]; omega) (by
    have : i + 1 + ((Zh r w.tail (a * 16 + (JaR (hb w)).1)).2 : Int) = i + (((Zh r w.tail (a * 16 + (JaR (hb w)).1)).2 + 1 : Nat) : Int) := by omega
    rw [this]; exact h)
   refine ⟨m + 1, fun _ => ⟨h0, zdB _, fun q2 => ?_, fun _ => ⟨by decide, JB (by omega), JB (by omega), ?_⟩⟩, fun q2 => ?_⟩
   ·rw [hd, q] at q2; exact absurd q2 (by decide)
   ·rw [hd, zgz ha0 (by omega) hdg.1 hdg.2]
    exact hm
   ·exfalso; have := of_decide_eq_false q2; omega
def Zcy : T_aE_n := fun s i b K => (0 ≤ i ∧ i < s.length ∧ s.length ≤ 1000000) ∧ b.length ≤ 5000000 ∧ K (i + 1 + ((jJ (s.drop (i + 1).toNat)).2 : Int)) (b ++ (jJ (s.drop (i + 1).toNat)).1)
theorem ZfZ (s i b K) (h : Zcy s i b K) : ZeW jdc ZbD Ze JG s i b K := by
 obtain ⟨⟨h0, h1, h2⟩, hb, h⟩ := h
 refine ⟨JB (by omega), fun q => ?_, fun q => ?_⟩
 ·have q := of_decide_eq_true q
  rw [List.drop_of_length_le (by omega)] at h
  unfold jJ at h
  refine ⟨by omega, by omega, ?_⟩
  simpa using h
 ·have q := of_decide_eq_false q
  cases hd : s.drop (i + 1).toNat with
  | nil => exfalso; have := zx hd; omega
  | cons c w =>
  obtain ⟨_, hc, _, _⟩ := jm (by omega) hd
  rw [hd, jJ, JfN] at h
  rw [hc]
  refine ⟨by omega, jdB c, fun q2 => ?_, fun q2 => ?_⟩
  ·have q3 : (JaR (c.toNat : Int)).2 = false := by simpa using q2
   rw [q3] at h
   rw [zfa]
   refine ⟨by omega, jdB c, by simp only [List.length_cons, List.length_nil]; omega, JB (by omega), ?_⟩
   simpa using h
  ·have q3 : (JaR (c.toNat : Int)).2 = true := by simpa using q2
   rw [q3] at h
   simp only [if_true] at h
   have hl := Jai 6 (c :: w) 0
   have hin := ja2 6 (c :: w) 0 0 (by omega) (by omega) (by decide)
   have hlw := congrArg List.length hd
   rw [List.length_drop] at hlw
   refine Jd9 s h2 b _ _ 6 (c :: w) (i + 1) 0 0 0 rfl rfl hd (by omega) (by omega) (by omega) (by decide) ?_
   have e : s.drop (i + 1 + ((Zh 6 (c :: w) 0).2 : Int)).toNat = (c :: w).drop (Zh 6 (c :: w) 0).2 := by rw [zaD (by omega), hd]
   refine ⟨by omega, fun q4 => ⟨JB (by omega), fun q5 => ?_, fun q5 => ?_⟩, fun q4 => ⟨fun q5 => ?_, fun q5 => ?_⟩⟩
   ·rw [e] at q4
    rw [q4, if_pos (of_decide_eq_true q5), if_pos rfl] at h
    refine ⟨by omega, by omega, ?_⟩
    have e2 : i + 1 + ((Zh 6 (c :: w) 0).2 : Int) + 1 = i + 1 + (((Zh 6 (c :: w) 0).2 + 1 : Nat) : Int) := by omega
    rw [e2]; exact h
   ·rw [e] at q4
    rw [q4, if_neg (of_decide_eq_false q5), if_pos rfl] at h
    refine ⟨hin, by omega, ?_⟩
    have e2 : i + 1 + ((Zh 6 (c :: w) 0).2 : Int) + 1 = i + 1 + (((Zh 6 (c :: w) 0).2 + 1 : Nat) : Int) := by omega
    rw [e2]; exact h
   ·rw [e] at q4
    rw [q4, if_pos (of_decide_eq_true q5)] at h
    exact ⟨by omega, by omega, by simpa using h⟩
   ·rw [e] at q4
    rw [q4, if_neg (of_decide_eq_false q5)] at h
    exact ⟨hin, by omega, by simpa using h⟩
def Zdc : T_uA_u := fun x c0 c1 c2 c3 c4 b K => (0 ≤ x ∧ x ≤ 16777215) ∧ b.length ≤ 10000000 ∧ K c0 c1 c2 c3 c4 (b ++ zcY x)
set_option maxRecDepth 100000 in
theorem JfZ (x c0 c1 c2 c3 c4 b K) (h : Zdc x c0 c1 c2 c3 c4 b K) : Jd7 x c0 c1 c2 c3 c4 b K := by
 obtain ⟨⟨h0, h1⟩, hb, h⟩ := h
 have k1 : x ≤ 127 → K c0 c1 c2 c3 c4 (b ++ [b8 x]) := fun q => Jgx q ▸ h
 have k2 : ¬ x ≤ 127 → x ≤ 2047 → K c0 c1 c2 c3 c4 (b ++ [b8 (192 + x / 64), b8 (128 + x % 64)]) := fun q q2 => zgy q q2 ▸ h
 have kX : ¬ x ≤ 127 → ¬ x ≤ 2047 → (55296 ≤ x ∧ x ≤ 57343 ∨ 1114111 < x) → K c0 c1 c2 c3 c4 (b ++ [b8 239, b8 191, b8 189]) := fun q q2 q3 => jgy q q2 q3 ▸ h
 have k3 : ¬ x ≤ 127 → ¬ x ≤ 2047 → ¬ (55296 ≤ x ∧ x ≤ 57343 ∨ 1114111 < x) → x ≤ 65535 → K c0 c1 c2 c3 c4 (b ++ [b8 (224 + x / 4096), b8 (128 + x / 64 % 64), b8 (128 + x % 64)]) := fun q q2 q3 q4 => Zgy q q2 q3 q4 ▸ h
 have k4 : ¬ x ≤ 127 → ¬ x ≤ 2047 → ¬ (55296 ≤ x ∧ x ≤ 57343 ∨ 1114111 < x) → ¬ x ≤ 65535 → K c0 c1 c2 c3 c4 (b ++ [b8 (240 + x / 262144), b8 (128 + x / 4096 % 64), b8 (128 + x / 64 % 64), b8 (128 + x % 64)]) := fun q q2 q3 q4 => Jgy q q2 q3 q4 ▸ h
 clear h
 unfold Jd7
 simp only [Zgx h0 h1, Jfq, fd6, zgx, jgx, decide_eq_true_eq, decide_eq_false_iff_not, List.length_cons, List.length_nil]
 refine ⟨fun q => ?_, fun q => ⟨fun q2 => ?_, fun q2 => ⟨fun q3 => ?_, fun q3 => ⟨fun q4 => ⟨fun q5 => ?_, fun q5 => ⟨fun q6 => ⟨fun q7 => ?_, fun q7 => ?_⟩, fun q6 => ?_⟩⟩, fun q4 => ⟨fun q6 => ⟨fun q7 => ?_, fun q7 => ?_⟩, fun q6 => ?_⟩⟩⟩⟩⟩
 ·rw [u8w h0 (by omega)]
  exact ⟨by omega, by omega, k1 q⟩
 ·rw [zfr (by omega) (by omega)]
  exact ⟨by decide, by omega, by omega, by omega, k2 q q2⟩
 ·rw [ZdC (by omega) (by omega)]
  exact ⟨by decide, by decide, by omega, by omega, by omega, by omega, k3 q q2 (by omega) (by omega)⟩
 ·rw [ZdC (by omega) (by omega)]
  exact ⟨by decide, by decide, by omega, by omega, by omega, by omega, k3 q q2 (by omega) (by omega)⟩
 ·rw [jfr (by omega) (by omega)]
  exact ⟨by decide, by decide, by decide, by omega, by omega, by omega, by omega, by omega, k4 q q2 (by omega) (by omega)⟩
 ·exact ⟨by decide, by decide, by decide, by omega, kX q q2 (by omega)⟩
 ·exfalso; omega
 ·exfalso; omega
 ·exact ⟨by decide, by decide, by decide, by omega, kX q q2 (by omega)⟩
 ·exact ⟨by decide, by decide, by decide, by omega, kX q q2 (by omega)⟩
set_option maxRecDepth 100000 in
theorem zea (s : List UInt8) (hs : s.length ≤ 1000000) (c0 : Int) (c1 : List UInt8) (c2 : Int) (c3 : List UInt8) (c4 : Bool) (b : List UInt8) (A : T_uA_u) (Ke : List UInt8 → Int → Int → Int → List UInt8 → Int → List UInt8 → Bool → List UInt8 → Prop) : ∀ (r : Nat) (w : List UInt8) (i a x : Int) (k : Nat), x = k → r + k = 6 → s.drop i.toNat = w → 0 ≤ i → i + (r : Int) ≤ 1000020 → 0 ≤ a → a < 16 ^ k → Ke s (i + ((Zh r w a).2 : Int)) (Zh r w a).1 c0 c1 c2 c3 c4 b → ∃ m, ZbA A ZbD Ze JG m s i a x c0 c1 c2 c3 c4 b Ke
 | 0, w, i, a, x, k, hx, hk, hd, h0, hi, ha0, ha1, h => by
  refine ⟨1, fun q => ?_, fun _ => ?_⟩
  ·exfalso; have := of_decide_eq_true q; omega
  ·simpa [Zh] using h
 | r + 1, w, i, a, x, k, hx, hk, hd, h0, hi, ha0, ha1, h => by
  unfold Zh at h
  cases q : (JaR (hb w)).2 with
  | false =>
   rw [q] at h
   refine ⟨1, fun _ => ⟨h0, zdB _, fun q2 => ?_, fun q2 => ?_⟩, fun q2 => ?_⟩
   ·simpa using h
   ·rw [hd, q] at q2; exact absurd q2 (by decide)
   ·exfalso; have := of_decide_eq_false q2; omega
  | true =>
   rw [q] at h
   simp only [if_true] at h
   have hdg := Jcx q
   have e : (16 : Int) ^ (k + 1) = 16 ^ k * 16 := Int.pow_succ _ _
   have e5 : (16 : Int) ^ k ≤ 16 ^ 5 := Jer (by omega)
   have e6 : (16 : Int) ^ 5 = 1048576 := by decide
   obtain ⟨m, hm⟩ := zea s hs c0 c1 c2 c3 c4 b A Ke r w.tail (i + 1) (a * 16 + (JaR (hb w)).1) (x + 1) (k + 1) (by omega) (by omega) (by rw [z7 h0, hd]) (by omega) (by omega) (by omega) (by rw [e]; omega) (by
    have : i + 1 + ((Zh r w.tail (a * 16 + (JaR (hb w)).1)).2 : Int) = i + (((Zh r w.tail (a * 16 + (JaR (hb w)).1)).2 + 1 : Nat) : Int) := by omega
    rw [this]; exact h)
   refine ⟨m + 1, fun _ => ⟨h0, zdB _, fun q2 => ?_, fun _ => ⟨by decide, JB (by omega), JB (by omega), ?_⟩⟩, fun q2 => ?_⟩
   ·rw [hd, q] at q2; exact absurd q2 (by decide)
   ·rw [hd, zgz ha0 (by omega) hdg.1 hdg.2]
    exact hm
   ·exfalso; have := of_decide_eq_false q2; omega
def Jcy : T_aE_u := fun s i c0 c1 c2 c3 c4 b K => (0 ≤ i ∧ i < s.length ∧ s.length ≤ 1000000) ∧ b.length ≤ 5000000 ∧ K (i + 1 + ((jJ (s.drop (i + 1).toNat)).2 : Int)) c0 c1 c2 c3 c4 (b ++ (jJ (s.drop (i + 1).toNat)).1)
theorem zf0 (s i c0 c1 c2 c3 c4 b K) (h : Jcy s i c0 c1 c2 c3 c4 b K) : jeY Zdc ZbD Ze JG s i c0 c1 c2 c3 c4 b K := by
 obtain ⟨⟨h0, h1, h2⟩, hb, h⟩ := h
 refine ⟨JB (by omega), fun q => ?_, fun q => ?_⟩
 ·have q := of_decide_eq_true q
  rw [List.drop_of_length_le (by omega)] at h
  unfold jJ at h
  refine ⟨by omega, by omega, ?_⟩
  simpa using h
 ·have q := of_decide_eq_false q
  cases hd : s.drop (i + 1).toNat with
  | nil => exfalso; have := zx hd; omega
  | cons c w =>
  obtain ⟨_, hc, _, _⟩ := jm (by omega) hd
  rw [hd, jJ, JfN] at h
  rw [hc]
  refine ⟨by omega, jdB c, fun q2 => ?_, fun q2 => ?_⟩
  ·have q3 : (JaR (c.toNat : Int)).2 = false := by simpa using q2
   rw [q3] at h
   rw [zfa]
   refine ⟨by omega, jdB c, by simp only [List.length_cons, List.length_nil]; omega, JB (by omega), ?_⟩
   simpa using h
  ·have q3 : (JaR (c.toNat : Int)).2 = true := by simpa using q2
   rw [q3] at h
   simp only [if_true] at h
   have hl := Jai 6 (c :: w) 0
   have hin := ja2 6 (c :: w) 0 0 (by omega) (by omega) (by decide)
   have hlw := congrArg List.length hd
   rw [List.length_drop] at hlw
   refine zea s h2 c0 c1 c2 c3 c4 b _ _ 6 (c :: w) (i + 1) 0 0 0 rfl rfl hd (by omega) (by omega) (by omega) (by decide) ?_
   have e : s.drop (i + 1 + ((Zh 6 (c :: w) 0).2 : Int)).toNat = (c :: w).drop (Zh 6 (c :: w) 0).2 := by rw [zaD (by omega), hd]
   refine ⟨by omega, fun q4 => ⟨JB (by omega), fun q5 => ?_, fun q5 => ?_⟩, fun q4 => ⟨fun q5 => ?_, fun q5 => ?_⟩⟩
   ·rw [e] at q4
    rw [q4, if_pos (of_decide_eq_true q5), if_pos rfl] at h
    refine ⟨by omega, by omega, ?_⟩
    have e2 : i + 1 + ((Zh 6 (c :: w) 0).2 : Int) + 1 = i + 1 + (((Zh 6 (c :: w) 0).2 + 1 : Nat) : Int) := by omega
    rw [e2]; exact h
   ·rw [e] at q4
    rw [q4, if_neg (of_decide_eq_false q5), if_pos rfl] at h
    refine ⟨hin, by omega, ?_⟩
    have e2 : i + 1 + ((Zh 6 (c :: w) 0).2 : Int) + 1 = i + 1 + (((Zh 6 (c :: w) 0).2 + 1 : Nat) : Int) := by omega
    rw [e2]; exact h
   ·rw [e] at q4
    rw [q4, if_pos (of_decide_eq_true q5)] at h
    exact ⟨by omega, by omega, by simpa using h⟩
   ·rw [e] at q4
    rw [q4, if_neg (of_decide_eq_false q5)] at h
    exact ⟨hin, by omega, by simpa using h⟩
def Je0 (K : Tok → Int → Prop) (b : List UInt8) (i : Int) (r : Bool × List UInt8 × Nat) : Prop := K (if r.1 then tk 5 (b ++ r.2.1) else tk 6) (i + (r.2.2 : Int))
theorem zgo (s : List UInt8) (hs : s.length ≤ 1000000) (q : Int) (K : Tok → Int → Prop) : ∀ (n : Nat) (w : List UInt8) (i : Int) (b : List UInt8), w.length ≤ n → s.drop i.toNat = w → okP s i → b.length + 4 * w.length ≤ 4500000 → Je0 K b i (strM q w) → ∃ m, J8 jcy m s i q 0 [] 0 [] false b (fun y1 _ _ _ _ _ y7 => K (Tok.mk 5 y7 0 [] false) y1) (fun y8 y9 y10 y11 y12 y13 => K (Tok.mk y9 y10 y11 y12 y13) y8) := by
 intro n
 induction n with
 | zero =>
  intro w i b hn hd hi hb h
  cases w with
  | cons c w => simp at hn
  | nil =>
   have hl := zx hd
   rw [strM] at h
   refine ⟨1, fun p => (by exfalso; have := of_decide_eq_true p; omega), fun _ => ?_⟩
   simpa [Je0, tk] using h
 | succ n ih =>
  intro w i b hn hd hi hb h
  cases w with
  | nil =>
   have hl := zx hd
   rw [strM] at h
   refine ⟨1, fun p => (by exfalso; have := of_decide_eq_true p; omega), fun _ => ?_⟩
   simpa [Je0, tk] using h
  | cons c w =>
  obtain ⟨hl, hc, hnx, hlen⟩ := jm hi.1 hd
  rw [List.length_cons] at hn hb
  by_cases c1 : (c.toNat : Int) = q
  ·have e : strM q (c :: w) = (true, [], 1) := by rw [strM.eq_def]; simp only; rw [if_pos c1]
   rw [e] at h
   refine ⟨1, fun _ => ⟨⟨hi.1, hl⟩, fun _ => ⟨JB (by omega), ?_⟩, fun p => ?_⟩, fun p => (by exfalso; have := of_decide_eq_false p; omega)⟩
   ·simpa [Je0, tk] using h
   ·exact absurd (by rw [hc]; exact c1) (of_decide_eq_false p)
  ·by_cases c2 : (c.toNat : Int) = 10
   ·have e : strM q (c :: w) = (false, [], 0) := by rw [strM.eq_def]; simp only; rw [if_neg c1, if_pos c2]
    rw [e] at h
    refine ⟨1, fun _ => ⟨⟨hi.1, hl⟩, fun p => ?_, fun _ => ⟨⟨hi.1, hl⟩, fun _ => ?_, fun p => ?_⟩⟩, fun p => (by exfalso; have := of_decide_eq_false p; omega)⟩
    ·exact absurd (by rw [← hc]; exact of_decide_eq_true p) c1
    ·simpa [Je0, tk] using h
    ·exact absurd (by rw [hc]; exact c2) (of_decide_eq_false p)
   ·by_cases c3 : (c.toNat : Int) = 92
    ·cases w with
     | nil =>
      have e : strM q [c] = (true, [], 1) := by rw [strM.eq_def]; simp only; rw [if_neg c1, if_neg c2, if_neg (fun x => x c3)]
      rw [e] at h
      have hl2 := zx hnx
      refine ⟨2, fun _ => ⟨⟨hi.1, hl⟩, fun p => ?_, fun _ => ⟨⟨hi.1, hl⟩, fun p => ?_, fun _ => ⟨⟨hi.1, hl⟩, fun p => ?_, fun _ => ⟨JB (by omega), fun _ => ⟨JB (by omega), fun p => ?_, fun _ => ?_⟩, fun p => ?_⟩⟩⟩⟩, fun p => (by exfalso; have := of_decide_eq_false p; omega)⟩
      ·exact absurd (by rw [← hc]; exact of_decide_eq_true p) c1
      ·exact absurd (by rw [← hc]; exact of_decide_eq_true p) c2
      ·exact absurd (by rw [hc]; exact c3) (of_decide_eq_true p)
      ·exfalso; have := of_decide_eq_true p; omega
      ·simpa [Je0, tk] using h
      ·exfalso; have := of_decide_eq_false p; simp only [List.length_nil] at hlen; omega
     | cons d v =>
      obtain ⟨hl2, hc2, hnx2, hlen2⟩ := jm (by omega) hnx
      have hnx3 : s.drop (i + 2).toNat = v := by rw [show i + 2 = i + 1 + 1 by omega]; exact hnx2
      rw [List.length_cons] at hn hb
      by_cases c4 : (d.toNat : Int) = 10
      ·have e : strM q (c :: d :: v) = ((strM q v).1, (strM q v).2.1, 2 + (strM q v).2.2) := by rw [strM.eq_def]; simp only; rw [if_neg c1, if_neg c2, if_neg (fun x => x c3), if_pos c4]
       rw [e] at h
       obtain ⟨m, hm⟩ := ih v (i + 2) b (by omega) hnx3 ⟨by omega, by omega, hs⟩ (by omega) (by
        unfold Je0 at h ⊢
        have : i + 2 + ((strM q v).2.2 : Int) = i + ((2 + (strM q v).2.2 : Nat) : Int) := by omega
        rw [this]; exact h)
       refine ⟨m + 1, fun _ => ⟨⟨hi.1, hl⟩, fun p => ?_, fun _ => ⟨⟨hi.1, hl⟩, fun p => ?_, fun _ => ⟨⟨hi.1, hl⟩, fun p => ?_, fun _ => ⟨JB (by omega), fun p => ?_, fun _ => ⟨JB (by omega), ⟨by omega, hl2⟩, fun _ => ⟨JB (by omega), hm⟩, fun p => ?_⟩⟩⟩⟩⟩, fun p => (by exfalso; have := of_decide_eq_false p; omega)⟩
       ·exact absurd (by rw [← hc]; exact of_decide_eq_true p) c1
       ·exact absurd (by rw [← hc]; exact of_decide_eq_true p) c2
       ·exact absurd (by rw [hc]; exact c3) (of_decide_eq_true p)
       ·exfalso; have := of_decide_eq_true p; omega
       ·exact absurd (by rw [hc2]; exact c4) (of_decide_eq_false p)
      ·have e : strM q (c :: d :: v) = ((strM q ((d :: v).drop (jJ (d :: v)).2)).1, (jJ (d :: v)).1 ++ (strM q ((d :: v).drop (jJ (d :: v)).2)).2.1, 1 + (jJ (d :: v)).2 + (strM q ((d :: v).drop (jJ (d :: v)).2)).2.2) := by rw [strM.eq_def]; simp only; rw [if_neg c1, if_neg c2, if_neg (fun x => x c3), if_neg c4]
       rw [e] at h
       have he := Jah (d :: v)
       have het := Zb9 (d :: v)
       rw [List.length_cons] at he
       have hlw : ((d :: v).drop (jJ (d :: v)).2).length ≤ n := by rw [List.length_drop, List.length_cons]; omega
       obtain ⟨m, hm⟩ := ih ((d :: v).drop (jJ (d :: v)).2) (i + 1 + ((jJ (d :: v)).2 : Int)) (b ++ (jJ (d :: v)).1) hlw (by rw [zaD (by omega), hnx]) ⟨by omega, by omega, hs⟩ (by rw [List.length_append, List.length_drop, List.length_cons]; omega) (by
        unfold Je0 at h ⊢
        have : i + 1 + ((jJ (d :: v)).2 : Int) + ((strM q ((d :: v).drop (jJ (d :: v)).2)).2.2 : Int) = i + ((1 + (jJ (d :: v)).2 + (strM q ((d :: v).drop (jJ (d :: v)).2)).2.2 : Nat) : Int) := by omega
        rw [this, List.append_assoc]; exact h)
       refine ⟨m + 1, fun _ => ⟨⟨hi.1, hl⟩, fun p => ?_, fun _ => ⟨⟨hi.1, hl⟩, fun p => ?_, fun _ => ⟨⟨hi.1, hl⟩, fun p => ?_, fun _ => ⟨JB (by omega), fun p => ?_, fun _ => ⟨JB (by omega), ⟨by omega, hl2⟩, fun p => ?_, fun _ => ⟨⟨hi.1, hl, hs⟩, by omega, ?_⟩⟩⟩⟩⟩⟩, fun p => (by exfalso; have := of_decide_eq_false p; omega)⟩
       ·exact absurd (by rw [← hc]; exact of_decide_eq_true p) c1
       ·exact absurd (by rw [← hc]; exact of_decide_eq_true p) c2
       ·exact absurd (by rw [hc]; exact c3) (of_decide_eq_true p)
       ·exfalso; have := of_decide_eq_true p; omega
       ·exact absurd (by rw [← hc2]; exact of_decide_eq_true p) c4
       ·rw [hnx]; exact hm
    ·have e : strM q (c :: w) = ((strM q w).1, c :: (strM q w).2.1, 1 + (strM q w).2.2) := by rw [strM.eq_def]; simp only; rw [if_neg c1, if_neg c2, if_pos c3]
     rw [e] at h
     obtain ⟨m, hm⟩ := ih w (i + 1) (b ++ [c]) (by omega) hnx ⟨by omega, by omega, hs⟩ (by rw [List.length_append]; simp only [List.length_singleton]; omega) (by
      unfold Je0 at h ⊢
      have : i + 1 + ((strM q w).2.2 : Int) = i + ((1 + (strM q w).2.2 : Nat) : Int) := by omega
      rw [this, List.append_assoc]; exact h)
     refine ⟨m + 1, fun _ => ⟨⟨hi.1, hl⟩, fun p => ?_, fun _ => ⟨⟨hi.1, hl⟩, fun p => ?_, fun _ => ⟨⟨hi.1, hl⟩, fun _ => ⟨⟨hi.1, hl⟩, ?_⟩, fun p => ?_⟩⟩⟩, fun p => (by exfalso; have := of_decide_eq_false p; omega)⟩
     ·exact absurd (by rw [← hc]; exact of_decide_eq_true p) c1
     ·exact absurd (by rw [← hc]; exact of_decide_eq_true p) c2
     ·rw [hc, zfa]
      exact ⟨jdB c, by simp only [List.length_singleton]; omega, JB (by omega), hm⟩
     ·exact absurd (by rw [hc]; exact c3) (of_decide_eq_false p)
def Zfr : T_k_rSt := fun s i K => (0 ≤ i ∧ i < s.length ∧ s.length ≤ 1000000) ∧ Je0 K [] (i + 1) (strM (hb (s.drop i.toNat)) (s.drop (i + 1).toNat))
theorem ZgI (s i K) (h : Zfr s i K) : JdS jcy s i K := by
 obtain ⟨⟨h0, h1, h2⟩, h⟩ := h
 rw [ze0] at h
 exact ⟨⟨h0, h1⟩, JB (by omega), zgo s h2 _ K _ _ _ [] (Nat.le_refl _) rfl ⟨by omega, by omega, h2⟩ (by rw [List.length_drop]; simp only [List.length_nil]; omega) h⟩
theorem jgo (s : List UInt8) (hs : s.length ≤ 1000000) (K : Int → Prop) : ∀ (n : Nat) (w : List UInt8) (i : Int), w.length ≤ n → s.drop i.toNat = w → okP s i → K (i + (jdn w : Int)) → ∃ m, zaB jbD Zcy m s i (fun y => K y) (fun y => K y) := by
 intro n
 induction n with
 | zero =>
  intro w i hn hd hi h
  cases w with
  | cons c w => simp at hn
  | nil =>
   have hl := zx hd
   rw [jdn] at h
   exact ⟨1, fun p => (by exfalso; have := of_decide_eq_true p; omega), fun _ => by simpa using h⟩
 | succ n ih =>
  intro w i hn hd hi h
  cases w with
  | nil =>
   have hl := zx hd
   rw [jdn] at h
   exact ⟨1, fun p => (by exfalso; have := of_decide_eq_true p; omega), fun _ => by simpa using h⟩
  | cons c w =>
  obtain ⟨hl, hc, hnx, hlen⟩ := jm hi.1 hd
  rw [List.length_cons] at hn
  rw [jdn] at h
  by_cases c1 : (c.toNat : Int) = 41
  ·rw [if_pos c1] at h
   refine ⟨1, fun _ => ⟨⟨hi.1, hl⟩, fun _ => ⟨JB (by omega), by simpa using h⟩, fun p => ?_⟩, fun p => (by exfalso; have := of_decide_eq_false p; omega)⟩
   exact absurd (by rw [hc]; exact c1) (of_decide_eq_false p)
  ·rw [if_neg c1] at h
   cases q : Jfe (c :: w) with
   | true =>
    rw [q, if_pos rfl] at h
    have he := Jah w
    obtain ⟨m, hm⟩ := ih (w.drop (jJ w).2) (i + 1 + ((jJ w).2 : Int)) (by rw [List.length_drop]; omega) (by rw [zaD (by omega), hnx]) ⟨by omega, by omega, hs⟩ (by
     have : i + 1 + ((jJ w).2 : Int) + (jdn (w.drop (jJ w).2) : Int) = i + ((1 + (jJ w).2 + jdn (w.drop (jJ w).2) : Nat) : Int) := by omega
     rw [this]; exact h)
    refine ⟨m + 1, fun _ => ⟨⟨hi.1, hl⟩, fun p => ?_, fun _ => ⟨hi, fun _ => ⟨⟨hi.1, hl, hs⟩, by decide, ?_⟩, fun p => ?_⟩⟩, fun p => (by exfalso; have := of_decide_eq_false p; omega)⟩
    ·exact absurd (by rw [← hc]; exact of_decide_eq_true p) c1
    ·rw [hnx]; exact hm
    ·rw [hd, q] at p; cases p
   | false =>
    rw [q] at h
    obtain ⟨m, hm⟩ := ih w (i + 1) (by omega) hnx ⟨by omega, by omega, hs⟩ (by
     have : i + 1 + (jdn w : Int) = i + ((1 + jdn w : Nat) : Int) := by omega
     rw [this]; simpa using h)
    refine ⟨m + 1, fun _ => ⟨⟨hi.1, hl⟩, fun p => ?_, fun _ => ⟨hi, fun p => ?_, fun _ => ⟨JB (by omega), hm⟩⟩⟩, fun p => (by exfalso; have := of_decide_eq_false p; omega)⟩
    ·exact absurd (by rw [← hc]; exact of_decide_eq_true p) c1
    ·rw [hd, q] at p; cases p
def ze1 : T_k_bBU := fun s i K => okP s i ∧ K (i + (jdn (s.drop i.toNat) : Int))
theorem JgI (s i K) (h : ze1 s i K) : zdT jbD Zcy s i K := jgo s h.1.2.2 K _ _ _ (Nat.le_refl _) rfl h.1 h.2
def jba : T_k_spoilsURL := fun c K => K (zd3 c)
theorem Jfr (c K) (h : jba c K) : jah c K := by
 unfold jba zd3 at h
 unfold jah
 refine ⟨fun q => ?_, fun q => ⟨fun q2 => ?_, fun q2 => ⟨fun q3 => ?_, fun q3 => ⟨fun q4 => ?_, fun q4 => ⟨fun q5 => ?_, fun q5 => ⟨fun q6 => ?_, fun q6 => ⟨fun q7 => ⟨fun q8 => ?_, fun q8 => ?_⟩, fun q7 => ?_⟩⟩⟩⟩⟩⟩⟩ <;> simpa only [*, Bool.true_or, Bool.false_or, Bool.or_true, Bool.or_false, Bool.true_and, Bool.false_and] using h
theorem Jbq : ∀ w : List UInt8, nSp w ≤ w.length
 | [] => Nat.le_refl _
 | c :: w => by
  unfold nSp
  have := Jbq w
  split <;> simp only [List.length_cons] <;> omega
theorem Zgo (s : List UInt8) (hs : s.length ≤ 1000000) (Ke : List UInt8 → Int → Int → List UInt8 → Int → List UInt8 → Bool → List UInt8 → Prop) : ∀ (n : Nat) (w : List UInt8) (i : Int) (b : List UInt8), w.length ≤ n → s.drop i.toNat = w → okP s i → b.length + 4 * w.length ≤ 4500000 → Ke s (i + ((JbU w).2 : Int)) 0 [] 0 [] false (b ++ (JbU w).1) → ∃ m, zD Zfq JG jbD Jcy jba ze1 m s i 0 [] 0 [] false b Ke := by
 intro n
 induction n with
 | zero =>
  intro w i b hn hd hi hb h
  cases w with
  | cons c w => simp at hn
  | nil =>
   have hl := zx hd
   rw [JbU] at h
   exact ⟨1, fun p => (by exfalso; have := of_decide_eq_true p; omega), fun _ => by simpa using h⟩
 | succ n ih =>
  intro w i b hn hd hi hb h
  cases w with
  | nil =>
   have hl := zx hd
   rw [JbU] at h
   exact ⟨1, fun p => (by exfalso; have := of_decide_eq_true p; omega), fun _ => by simpa using h⟩
  | cons c w =>
  obtain ⟨hl, hc, hnx, hlen⟩ := jm hi.1 hd
  rw [List.length_cons] at hn hb
  rw [JbU] at h
  by_cases c1 : (c.toNat : Int) = 41
  ·rw [if_pos c1] at h
   refine ⟨1, fun _ => ⟨⟨hi.1, hl⟩, fun p => ?_, fun _ => by simpa using h⟩, fun p => (by exfalso; have := of_decide_eq_false p; omega)⟩
   exact absurd (by rw [hc]; exact c1) (of_decide_eq_true p)
  ·rw [if_neg c1] at h
   have nc1 : ¬ decide (((s.getD i.toNat 0).toNat : Int) ≠ 41) = false := fun p => (of_decide_eq_false p) (by rw [hc]; exact c1)
   cases q : mSp (c.toNat : Int) with
   | true =>
    rw [q, if_pos rfl] at h
    have h : Ke s (i + (nSp (c :: w) : Int)) 0 [] 0 [] false b := by simpa using h
    have hk := Jbq (c :: w)
    rw [List.length_cons] at hk
    refine ⟨2, fun _ => ⟨⟨hi.1, hl⟩, fun _ => ⟨⟨hi.1, hl⟩, fun _ => ⟨hi, ?_⟩, fun p => ?_⟩, fun p => absurd p nc1⟩, fun p => (by exfalso; have := of_decide_eq_false p; omega)⟩
    ·rw [hd]
     refine ⟨fun p => ⟨⟨by omega, of_decide_eq_true p⟩, fun _ => h, fun p2 => ⟨fun _ => ⟨⟨by omega, of_decide_eq_true p⟩, fun p3 => ?_, fun _ => h⟩, fun p3 => ?_⟩⟩, fun p => ⟨fun p2 => ?_, fun _ => h⟩⟩
     ·rw [p2] at p3; cases p3
     ·rw [p] at p3; cases p3
     ·rw [p] at p2; cases p2
    ·rw [hc, q] at p; cases p
   | false =>
    rw [q] at h
    simp only [Bool.false_eq_true, if_false] at h
    cases q2 : Jfe (c :: w) with
    | true =>
     rw [q2, if_pos rfl] at h
     have he := Jah w
     have het := Zb9 w
     obtain ⟨m, hm⟩ := ih (w.drop (jJ w).2) (i + 1 + ((jJ w).2 : Int)) (b ++ (jJ w).1) (by rw [List.length_drop]; omega) (by rw [zaD (by omega), hnx]) ⟨by omega, by omega, hs⟩ (by rw [List.length_append, List.length_drop]; omega) (by
      have : i + 1 + ((jJ w).2 : Int) + ((JbU (w.drop (jJ w).2)).2 : Int) = i + ((1 + (jJ w).2 + (JbU (w.drop (jJ w).2)).2 : Nat) : Int) := by omega
      rw [this, List.append_assoc]; exact h)
     refine ⟨m + 1, fun _ => ⟨⟨hi.1, hl⟩, fun _ => ⟨⟨hi.1, hl⟩, fun p => ?_, fun _ => ⟨hi, fun _ => ⟨⟨hi.1, hl, hs⟩, by omega, ?_⟩, fun p => ?_⟩⟩, fun p => absurd p nc1⟩, fun p => (by exfalso; have := of_decide_eq_false p; omega)⟩
     ·rw [hc, q] at p; cases p
     ·rw [hnx]; exact hm
     ·rw [hd, q2] at p; cases p
    | false =>
     rw [q2] at h
     simp only [Bool.false_eq_true, if_false] at h
     cases q3 : zd3 (c.toNat : Int) with
     | true =>
      rw [q3, if_pos rfl] at h
      refine ⟨1, fun _ => ⟨⟨hi.1, hl⟩, fun _ => ⟨⟨hi.1, hl⟩, fun p => ?_, fun _ => ⟨hi, fun p => ?_, fun _ => ⟨⟨hi.1, hl⟩, fun _ => by simpa using h, fun p => ?_⟩⟩⟩, fun p => absurd p nc1⟩, fun p => (by exfalso; have := of_decide_eq_false p; omega)⟩
      ·rw [hc, q] at p; cases p
      ·rw [hd, q2] at p; cases p
      ·rw [hc, q3] at p; cases p
     | false =>
      rw [q3] at h
      simp only [Bool.false_eq_true, if_false] at h
      obtain ⟨m, hm⟩ := ih w (i + 1) (b ++ [c]) (by omega) hnx ⟨by omega, by omega, hs⟩ (by rw [List.length_append]; simp only [List.length_singleton]; omega) (by
       have : i + 1 + ((JbU w).2 : Int) = i + ((1 + (JbU w).2 : Nat) : Int) := by omega
       rw [this, List.append_assoc]; exact h)
      refine ⟨m + 1, fun _ => ⟨⟨hi.1, hl⟩, fun _ => ⟨⟨hi.1, hl⟩, fun p => ?_, fun _ => ⟨hi, fun p => ?_, fun _ => ⟨⟨hi.1, hl⟩, fun p => ?_, fun _ => ⟨⟨hi.1, hl⟩, ?_⟩⟩⟩⟩, fun p => absurd p nc1⟩, fun p => (by exfalso; have := of_decide_eq_false p; omega)⟩
      ·rw [hc, q] at p; cases p
      ·rw [hd, q2] at p; cases p
      ·rw [hc, q3] at p; cases p
      ·rw [hc, zfa]
       exact ⟨jdB c, by simp only [List.length_singleton]; omega, JB (by omega), hm⟩
theorem jea (w : List UInt8) : (JbU w).2 ≤ w.length := by
 induction hn : w.length using Nat.strongRecOn generalizing w with
 | _ n ih =>
  cases w with
  | nil => rw [JbU]; simp
  | cons c w =>
   have hk := Jbq (c :: w)
   rw [List.length_cons] at hn hk
   rw [JbU]
   split
   ·simp
   ·split
    ·simp only; omega
    ·split
     ·have he := Jah w
      have := ih (w.drop (jJ w).2).length (by rw [List.length_drop]; omega) (w.drop (jJ w).2) rfl
      rw [List.length_drop] at this
      simp only
      omega
     ·split
      ·simp
      ·have := ih w.length (by omega) w rfl
       simp only
       omega
def zfs : T_k_readURL := fun s i K => okP s i ∧ i ≤ s.length ∧ K (zag (s.drop i.toNat)).1 (i + ((zag (s.drop i.toNat)).2 : Int))
theorem zgJ (s i K) (h : zfs s i K) : zbn Zfq JG jbD Jcy jba ze1 s i K := by
 obtain ⟨hi, hl, h⟩ := h
 have ha := Jbq (s.drop i.toNat)
 have hu := jea ((s.drop i.toNat).drop (nSp (s.drop i.toNat)))
 rw [List.length_drop] at ha
 simp only [List.length_drop] at hu
 have hi0 := hi.1
 have hs := hi.2.2
 have eA : s.drop (i + (nSp (s.drop i.toNat) : Int)).toNat = (s.drop i.toNat).drop (nSp (s.drop i.toNat)) := zaD hi.1 _
 refine ⟨hi, Zgo s hs _ _ _ _ [] (Nat.le_refl _) rfl ⟨by omega, by omega, hs⟩ (by rw [List.length_drop]; simp only [List.length_nil]; omega) ?_⟩
 rw [eA]
 unfold zag at h
 simp only at h
 have eV : s.drop (i + (nSp (s.drop i.toNat) : Int) + ((JbU ((s.drop i.toNat).drop (nSp (s.drop i.toNat)))).2 : Int)).toNat = (s.drop i.toNat).drop (nSp (s.drop i.toNat) + (JbU ((s.drop i.toNat).drop (nSp (s.drop i.toNat)))).2) := by rw [zaD (by omega), eA, List.drop_drop]
 generalize (s.drop i.toNat).drop (nSp (s.drop i.toNat) + (JbU ((s.drop i.toNat).drop (nSp (s.drop i.toNat)))).2) = v at h eV
 generalize eJ : i + (nSp (s.drop i.toNat) : Int) + ((JbU ((s.drop i.toNat).drop (nSp (s.drop i.toNat)))).2 : Int) = j at eV
 have hj : 0 ≤ j ∧ j ≤ s.length := by omega
 cases v with
 | nil =>
  have hlj := zx eV
  rw [if_pos rfl] at h
  refine ⟨fun _ => ?_, fun p => (by exfalso; have := of_decide_eq_false p; omega)⟩
  have e : i + ((nSp (s.drop i.toNat) + (JbU ((s.drop i.toNat).drop (nSp (s.drop i.toNat)))).2 : Nat) : Int) = j := by omega
  rw [e] at h
  exact h
 | cons c v =>
  obtain ⟨hl2, hc, hnx, _⟩ := jm hj.1 eV
  rw [if_neg (by simp)] at h
  refine ⟨fun p => (by exfalso; have := of_decide_eq_true p; omega), fun _ => ⟨⟨hj.1, hl2⟩, fun p => ⟨JB (by omega), ?_⟩, fun p => ⟨⟨by omega, by omega, hs⟩, ?_⟩⟩⟩
  ·have p := of_decide_eq_true p
   rw [hc] at p
   rw [JC, if_pos p] at h
   have e : i + ((nSp (s.drop i.toNat) + (JbU ((s.drop i.toNat).drop (nSp (s.drop i.toNat)))).2 + 1 : Nat) : Int) = j + 1 := by omega
   rw [e] at h
   exact h
  ·have p := of_decide_eq_false p
   rw [hc] at p
   rw [JC, if_neg p] at h
   have e : i + ((nSp (s.drop i.toNat) + (JbU ((s.drop i.toNat).drop (nSp (s.drop i.toNat)))).2 + jdn (c :: v) : Nat) : Int) = j + (jdn (c :: v) : Int) := by omega
   rw [e] at h
   rw [eV]
   exact h
def je1 : T_i_lowerByte := fun c K => (0 ≤ c ∧ c ≤ 255) ∧ K (low c)
theorem jgJ (c K) (h : je1 c K) : Zah c K := by
 obtain ⟨⟨h0, h1⟩, h⟩ := h
 unfold low at h
 unfold Zah
 simp only [decide_eq_true_eq, decide_eq_false_iff_not]
 refine ⟨fun q => ⟨fun q2 => ?_, fun q2 => ?_⟩, fun q => ?_⟩
 ·rw [if_pos ⟨q, q2⟩] at h
  rw [u8w (by omega) (by omega)]
  exact h
 ·rw [if_neg (by omega)] at h; exact h
 ·rw [if_neg (by omega)] at h; exact h
theorem Zea (a b : List UInt8) (ha : a.length ≤ 10000000) (hab : a.length = b.length) (Ke : Unit → Prop) (Kr : Bool → Prop) : ∀ (u v : List UInt8) (j : Int), a.drop j.toNat = u → b.drop j.toNat = v → 0 ≤ j → j ≤ a.length → (Zaj u v = true → Ke ()) → (Zaj u v = false → Kr false) → ∃ m, jaq je1 m a b (a.length : Int) j Ke Kr
 | [], v, j, hu, hv, h0, hj, k1, _ => by
  have hl := zx hu
  have : v = [] := by rw [← hv]; exact List.drop_of_length_le (by omega)
  subst this
  exact ⟨1, fun p => (by exfalso; have := of_decide_eq_true p; omega), fun _ => k1 rfl⟩
 | c :: u, v, j, hu, hv, h0, hj, k1, k2 => by
  obtain ⟨hl, hc, hnx, _⟩ := jm h0 hu
  cases v with
  | nil => have := zx hv; exfalso; omega
  | cons d v =>
  obtain ⟨hl2, hc2, hnx2, _⟩ := jm h0 hv
  by_cases q : low (c.toNat : Int) = low (d.toNat : Int)
  ·have e : Zaj (c :: u) (d :: v) = Zaj u v := by rw [Zaj, decide_eq_true q, Bool.true_and]
   rw [e] at k1 k2
   obtain ⟨m, hm⟩ := Zea a b ha hab Ke Kr u v (j + 1) hnx hnx2 (by omega) (by omega) k1 k2
   refine ⟨m + 1, fun _ => ⟨⟨h0, hl⟩, hb_in' a j, ⟨h0, hl2⟩, hb_in' b j, fun p => ?_, fun _ => ⟨JB (by omega), hm⟩⟩, fun p => (by exfalso; have := of_decide_eq_false p; omega)⟩
   exact absurd (by rw [hc, hc2]; exact q) (of_decide_eq_true p)
  ·have e : Zaj (c :: u) (d :: v) = false := by rw [Zaj, decide_eq_false q, Bool.false_and]
   refine ⟨1, fun _ => ⟨⟨h0, hl⟩, hb_in' a j, ⟨h0, hl2⟩, hb_in' b j, fun _ => k2 e, fun p => ?_⟩, fun p => (by exfalso; have := of_decide_eq_false p; omega)⟩
   exact absurd (of_decide_eq_false p) (by rw [hc, hc2]; exact fun x => x q)
where hb_in' (a : List UInt8) (j : Int) : 0 ≤ ((a.getD j.toNat 0).toNat : Int) ∧ ((a.getD j.toNat 0).toNat : Int) ≤ 255 := jdB _
theorem zcQ : ∀ (a b : List UInt8), Zaj a b = true → a.length = b.length
 | [], [], _ => rfl
 | [], _ :: _, h => by cases h
 | _ :: _, [], h => by cases h
 | a :: x, b :: y, h => by
  unfold Zaj at h
  rw [Bool.and_eq_true] at h
  rw [List.length_cons, List.length_cons, zcQ x y h.2]
def zbr : T_i_Alike := fun a b K => a.length ≤ 10000000 ∧ K (Zaj a b)
theorem jf0 (a b K) (h : zbr a b K) : jcr je1 a b K := by
 obtain ⟨ha, h⟩ := h
 refine ⟨fun p => ?_, fun p => ?_⟩
 ·have p := of_decide_eq_true p
  cases q : Zaj a b with
  | false => rw [q] at h; exact h
  | true => exact absurd (congrArg (Int.ofNat) (zcQ a b q)) p
 ·have p := of_decide_eq_false p
  have p : (a.length : Int) = b.length := by simpa using p
  exact Zea a b ha (by omega) _ _ a b 0 rfl rfl (by omega) (by omega) (fun q => by rw [q] at h; exact h) (fun q => by rw [q] at h; exact h)
theorem Ze1 (w : List UInt8) : (zB w).1.length ≤ 4 * w.length := by
 induction hn : w.length using Nat.strongRecOn generalizing w with
 | _ n ih =>
  cases w with
  | nil => rw [zB]; simp
  | cons c w =>
   rw [List.length_cons] at hn
   rw [zB]
   split
   ·split
    ·have he := Jah w
     have het := Zb9 w
     have := ih (w.drop (jJ w).2).length (by rw [List.length_drop]; omega) (w.drop (jJ w).2) rfl
     rw [List.length_drop] at this
     simp only [List.length_append]
     omega
    ·have := ih w.length (by omega) w rfl
     simp only [List.length_cons]
     omega
   ·simp
def ZaM : T_k_readNamed := fun s i K => okP s i ∧ i ≤ s.length ∧ K (jbv (s.drop i.toNat)).1 (i + ((jbv (s.drop i.toNat)).2 : Int))
theorem Zf0 (s i K) (h : ZaM s i K) : ZaK zbh Ze zbr Zfq jcK zfs s i K := by
 obtain ⟨hi, hl, h⟩ := h
 have hi0 := hi.1
 have hs := hi.2.2
 have hn := Za2 (s.drop i.toNat)
 have ht := Ze1 (s.drop i.toNat)
 rw [List.length_drop] at hn ht
 have eV := zaD hi0 (s := s) (zB (s.drop i.toNat)).2
 unfold jbv at h
 simp only at h
 rw [← eV] at h
 generalize eJ : i + ((zB (s.drop i.toNat)).2 : Int) = j at eV h ⊢
 have hj : 0 ≤ j ∧ j ≤ s.length := by omega
 refine ⟨hi, ?_⟩
 rw [eJ]
 refine ⟨hj.1, fun p => ?_, fun p => ?_⟩
 ·rw [if_pos (of_decide_eq_true p)] at h
  rw [eJ] at h
  exact h
 ·have p := of_decide_eq_false p
  rw [if_neg p] at h
  have p2 : hb (s.drop j.toNat) = 40 := by simpa using p
  have hl2 : j < s.length := by
   by_cases q : j < s.length
   ·exact q
   ·rw [List.drop_of_length_le (by omega)] at p2; exact absurd p2 (by decide)
  rw [← z7 hj.1] at h
  have eS := zaD (i := j + 1) (by omega) (s := s) (nSp (s.drop (j + 1).toNat))
  rw [← eS] at h
  have hsp := Jbq (s.drop (j + 1).toNat)
  rw [List.length_drop] at hsp
  have fin : K (tk 2 (zB (s.drop i.toNat)).1) (i + (((zB (s.drop i.toNat)).2 + 1 : Nat) : Int)) → K (Tok.mk 2 (zB (s.drop i.toNat)).1 0 [] false) (j + 1) := fun h => by
   have e : i + (((zB (s.drop i.toNat)).2 + 1 : Nat) : Int) = j + 1 := by omega
   rw [e] at h; exact h
  refine ⟨JB (by omega), by omega, fun q => ⟨⟨by omega, by omega, hs⟩, by omega, fun q2 => ⟨⟨by omega, by omega, hs⟩, by omega, ?_⟩, fun q2 => ?_⟩, fun q => ?_⟩
  ·rw [q, q2] at h
   simp only [Bool.and_self, if_true] at h
   have e : i + (((zB (s.drop i.toNat)).2 + 1 + (zag (s.drop (j + 1).toNat)).2 : Nat) : Int) = j + 1 + ((zag (s.drop (j + 1).toNat)).2 : Int) := by omega
   rw [e] at h
   exact h
  ·rw [q, q2] at h
   simp only [Bool.and_false, Bool.false_eq_true, if_false] at h
   exact fin h
  ·rw [q] at h
   simp only [Bool.false_and, Bool.false_eq_true, if_false] at h
   exact fin h
end Go.Proofs.YtkokbidbmidlbaaGreatDoor
namespace Go.Proofs.YtkokbidbmidlbaaGreatDoor
open Go.Vm Go.Sx Go.RowKit
def zbR (w : List UInt8) : Prop := ∀ b, b ∈ w → mD (b.toNat : Int) = true
theorem Z6 (w : List UInt8) : zbR (ZJ w) := fun b hb => by
 unfold ZJ at hb
 induction w with
 | nil => cases hb
 | cons c w ih =>
  rw [List.takeWhile_cons] at hb
  split at hb
  ·rcases List.mem_cons.mp hb with rfl | hb
   ·assumption
   ·exact ih hb
  ·cases hb
theorem jac (w : List UInt8) : (ZJ w).length ≤ w.length := (List.takeWhile_sublist _).length_le
theorem jfs : ZJ [] = [] := rfl
theorem Jea {c : UInt8} {w : List UInt8} (h : mD (c.toNat : Int) = true) : ZJ (c :: w) = c :: ZJ w := by unfold ZJ; rw [List.takeWhile_cons, if_pos h]
theorem zeb {c : UInt8} {w : List UInt8} (h : mD (c.toNat : Int) = false) : ZJ (c :: w) = [] := by unfold ZJ; rw [List.takeWhile_cons, if_neg (by rw [h]; decide)]
theorem Je1 (w : List UInt8) : w.take (ZJ w).length = ZJ w := by
 unfold ZJ
 induction w with
 | nil => rfl
 | cons c w ih =>
  rw [List.takeWhile_cons]
  split
  ·rw [List.length_cons, List.take_succ_cons, ih]
  ·rfl
theorem jar {s : List UInt8} {i : Int} (h : 0 ≤ i) : (s.drop i.toNat).take ((i + ((ZJ (s.drop i.toNat)).length : Int)).toNat - i.toNat) = ZJ (s.drop i.toNat) := by
 have e : (i + ((ZJ (s.drop i.toNat)).length : Int)).toNat - i.toNat = (ZJ (s.drop i.toNat)).length := by omega
 rw [e, Je1]
theorem JdV (s : List UInt8) (hs : s.length ≤ 1000000) (x : Int) (Ke : Int → List UInt8 → Int → Prop) : ∀ (w : List UInt8) (i : Int), s.drop i.toNat = w → okP s i → Ke x s (i + ((ZJ w).length : Int)) → ∃ m, Jk Ze J9 m x s i Ke
 | [], i, hd, hi, h => by
  refine ⟨1, hi.1, fun q => ?_, fun _ => ?_⟩
  ·rw [hd] at q; exact absurd q (by decide)
  ·simpa [jfs] using h
 | c :: w, i, hd, hi, h => by
  obtain ⟨hl, hc, hn, _⟩ := jm hi.1 hd
  cases q : mD (c.toNat : Int) with
  | false =>
   rw [zeb q] at h
   refine ⟨1, hi.1, fun q2 => ?_, fun _ => ?_⟩
   ·rw [hd, JC, q] at q2; cases q2
   ·simpa using h
  | true =>
   rw [Jea q] at h
   obtain ⟨m, hm⟩ := JdV s hs x Ke w (i + 1) hn ⟨by omega, by omega, hs⟩ (by
    have : i + 1 + ((ZJ w).length : Int) = i + ((c :: ZJ w).length : Int) := by rw [List.length_cons]; omega
    rw [this]; exact h)
   refine ⟨m + 1, hi.1, fun _ => ⟨JB (by omega), hm⟩, fun q2 => ?_⟩
   rw [hd, JC, q] at q2; cases q2
theorem Zfs {c : UInt8} (h : mD (c.toNat : Int) = true) : 48 ≤ (c.toNat : Int) ∧ (c.toNat : Int) ≤ 57 := by
 unfold mD at h
 simp only [Bool.and_eq_true, decide_eq_true_eq] at h
 exact h
theorem w8' {n : Int} (h0 : 0 ≤ n) (h1 : n ≤ 255) : IntKind.u8.wrap n = n := by rw [IntKind.wrap_u8]; omega
theorem JdC {a : Int} {c : UInt8} (h0 : 0 ≤ a) (h : mD (c.toNat : Int) = true) : 0 ≤ zbg a c ∧ zbg a c ≤ 8000 := by
 have := Zfs h
 unfold zbg
 omega
theorem Jgo (s : List UInt8) (hs : s.length ≤ 1000000) (ha : zbR s) (Ke : Int → Prop) : ∀ (w : List UInt8) (i a : Int), s.drop i.toNat = w → 0 ≤ i → i ≤ s.length → 0 ≤ a → a ≤ 8000 → Ke (w.foldl zbg a) → ∃ m, ja8 m s a (s.length : Int) i Ke
 | [], i, a, hd, h0, hi, ha0, ha1, h => by
  have := zx hd
  exact ⟨1, fun q => (by exfalso; have := of_decide_eq_true q; omega), fun _ => h⟩
 | c :: w, i, a, hd, h0, hi, ha0, ha1, h => by
  obtain ⟨hl, hc, hn, _⟩ := jm h0 hd
  have hm : c ∈ s := List.mem_of_mem_drop (by rw [hd]; exact List.mem_cons_self ..)
  have hb := Zfs (ha c hm)
  have hf := JdC ha0 (ha c hm)
  obtain ⟨m, hm⟩ := Jgo s hs ha Ke w (i + 1) (zbg a c) hn (by omega) (by omega) hf.1 hf.2 h
  refine ⟨m + 1, fun _ => ⟨JB (by omega), ⟨h0, hl⟩, ?_⟩, fun q => (by exfalso; have := of_decide_eq_false q; omega)⟩
  rw [hc, w8' (by omega) (by omega)]
  refine ⟨JB (by omega), JB (by omega), JB (by omega), ?_⟩
  have e : (if (8000 : Int) < 10 * a + ((c.toNat : Int) - 48) then (8000 : Int) else 10 * a + ((c.toNat : Int) - 48)) = zbg a c := by unfold zbg; split <;> omega
  rw [e]
  exact hm
def jbR : T_k_wNu := fun w K => (zbR w ∧ w.length ≤ 1000000) ∧ K (JaU w)
theorem Jf0 (w K) (h : jbR w K) : jdP w K := Jgo w h.1.2 h.1.1 K w 0 0 rfl (by omega) (by omega) (by omega) (by omega) h.2
theorem Jb9 : ∀ (w : List UInt8) (a : Int), zbR w → 0 ≤ a → a ≤ 8000 → 0 ≤ w.foldl zbg a ∧ w.foldl zbg a ≤ 8000
 | [], a, _, h0, h1 => ⟨h0, h1⟩
 | c :: w, a, hw, h0, h1 => by
  have hf := JdC h0 (hw c (List.mem_cons_self ..))
  exact Jb9 w _ (fun b hb => hw b (List.mem_cons_of_mem _ hb)) hf.1 hf.2
theorem zgp : ∀ (s : List UInt8) (Ke : List UInt8 → Prop), Ke (J7 s) → ∃ m, zaH m s 48 Ke
 | [], Ke, h => ⟨1, fun q => (by simp at q), fun _ => h⟩
 | b :: s, Ke, h => by
  cases q : b == 48 with
  | false =>
   have : J7 (b :: s) = b :: s := by unfold J7; rw [List.dropWhile_cons, if_neg (by rw [q]; decide)]
   rw [this] at h
   refine ⟨1, fun _ => ⟨⟨by omega, by simp⟩, fun q2 => ?_, fun _ => h⟩, fun q2 => ?_⟩
   ·exfalso
    have q2 := of_decide_eq_true q2
    have : b = 48 := UInt8.toNat_inj.mp (by show b.toNat = 48; have : (b.toNat : Int) = 48 := q2; omega)
    rw [this] at q
    exact absurd q (by decide)
   ·exfalso; have := of_decide_eq_false q2; simp at this
  | true =>
   have e : b = 48 := eq_of_beq q
   have : J7 (b :: s) = J7 s := by unfold J7; rw [List.dropWhile_cons, if_pos q]
   rw [this] at h
   obtain ⟨m, hm⟩ := zgp s Ke h
   subst e
   exact ⟨m + 1, fun _ => ⟨⟨by omega, by simp⟩, fun _ => ⟨⟨by omega, by rw [List.length_cons]; omega⟩, hm⟩, fun q2 => (by cases (show true = false from q2))⟩, fun q2 => (by exfalso; have := of_decide_eq_false q2; simp at this)⟩
def Jdc : T_gs_tLB := fun s c K => c = 48 ∧ K (J7 s)
theorem zf1 (s c K) (h : Jdc s c K) : jc3 s c K := by
 obtain ⟨rfl, h⟩ := h
 exact zgp s _ h
def jeb : T_gs_TrimLeft := fun s c K => c = [48] ∧ K (J7 s)
theorem jgp (s c K) (h : jeb s c K) : ZaH Jdc s c K := by
 obtain ⟨rfl, h⟩ := h
 refine ⟨fun _ => ⟨fun q => (by exact absurd q (by decide)), fun _ => ⟨fun _ => ⟨⟨by omega, by decide⟩, fun _ => ⟨⟨by omega, by decide⟩, rfl, h⟩, fun q => absurd q (by decide)⟩, fun q => absurd q (by decide)⟩⟩, fun q => ?_⟩
 have : s = [] := eq_of_beq q
 subst this
 exact h
theorem jcQ {w : List UInt8} (h : zbR w) : zbR (J7 w) := fun b hb => h b ((List.dropWhile_sublist _).subset hb)
theorem zes (w : List UInt8) : (J7 w).length ≤ w.length := (List.dropWhile_sublist _).length_le
theorem ze2 (s : List UInt8) (hs : s.length ≤ 1000000) (ha : zbR s) (A : T_gs_TrimLeft) (p : Int) (Ke : Int → Prop) : ∀ (k : Nat) (w : List UInt8) (i : Nat) (a : Int), s.drop i = w → (i : Int) + k = p → i + k ≤ 13 → 0 ≤ a → a < 10 ^ i → Ke (Jcj k w a) → ∃ m, ZaA A m s a p (i : Int) Ke
 | 0, w, i, a, hd, hp, h13, ha0, ha1, h => ⟨1, fun q => (by exfalso; have := of_decide_eq_true q; omega), fun _ => (by cases w <;> exact h)⟩
 | k + 1, w, i, a, hd, hp, h13, ha0, ha1, h => by
  have e10 : (10 : Int) ^ i ≤ 10 ^ 13 := by
   have := Nat.pow_le_pow_right (n := 10) (by decide) (show i ≤ 13 by omega)
   exact_mod_cast this
  have e13 : (10 : Int) ^ 13 = 10000000000000 := by decide
  have es : (10 : Int) ^ (i + 1) = 10 ^ i * 10 := Int.pow_succ _ _
  cases w with
  | nil =>
   have hl : s.length ≤ i := by
    have := congrArg List.length hd
    rw [List.length_drop, List.length_nil] at this
    omega
   obtain ⟨m, hm⟩ := ze2 s hs ha A p Ke k [] (i + 1) (a * 10) (List.drop_of_length_le (by omega)) (by omega) (by omega) (by omega) (by rw [es]; omega) h
   refine ⟨m + 1, fun _ => ⟨by unfold I64; omega, fun q => (by exfalso; have := of_decide_eq_true q; omega), fun _ => ⟨JB (by omega), ?_⟩⟩, fun q => (by exfalso; have := of_decide_eq_false q; omega)⟩
   exact hm
  | cons c w =>
   have hd2 : s.drop (i : Int).toNat = c :: w := hd
   obtain ⟨hl, hc, hn, _⟩ := jm (by omega) hd2
   have hmem : c ∈ s := List.mem_of_mem_drop (by rw [hd]; exact List.mem_cons_self ..)
   have hb := Zfs (ha c hmem)
   obtain ⟨m, hm⟩ := ze2 s hs ha A p Ke k w (i + 1) (a * 10 + ((c.toNat : Int) - 48)) hn (by omega) (by omega) (by omega) (by rw [es]; omega) h
   refine ⟨m + 1, fun _ => ⟨by unfold I64; omega, fun _ => ⟨⟨by omega, hl⟩, ?_⟩, fun q => (by exfalso; have := of_decide_eq_false q; omega)⟩, fun q => (by exfalso; have := of_decide_eq_false q; omega)⟩
   rw [hc, w8' (by omega) (by omega)]
   exact ⟨JB (by omega), by unfold I64; omega, JB (by omega), hm⟩
def je2 : T_k_cNu := fun w p K => (zbR w ∧ w.length ≤ 1000000 ∧ -1000000 ≤ p ∧ p ≤ 2000000) ∧ K (jfA w p)
theorem ZgJ (w p K) (h : je2 w p K) : jdQ jeb w p K := by
 obtain ⟨⟨ha, hl, h0, h1⟩, h⟩ := h
 have hz := zes w
 unfold jfA at h
 simp only at h
 refine ⟨rfl, JB (by omega), JB (by omega), fun q => ⟨fun q2 => ?_, fun q2 => ⟨fun q3 => ?_, fun q3 => ?_⟩⟩, fun q => ?_⟩
 ·rw [if_pos (Or.inr (of_decide_eq_true q2))] at h; exact h
 ·have q2 := of_decide_eq_false q2
  have q : J7 w ≠ [] := fun e => by rw [e] at q; cases q
  rw [if_neg (fun x => x.elim q q2), if_pos (of_decide_eq_true q3)] at h; exact h
 ·have q2 := of_decide_eq_false q2
  have q3 := of_decide_eq_false q3
  have q : J7 w ≠ [] := fun e => by rw [e] at q; cases q
  rw [if_neg (fun x => x.elim q q2), if_neg q3] at h
  refine ze2 (J7 w) (by omega) (jcQ ha) _ _ _ (p - ((w.length : Int) - ((J7 w).length : Int))).toNat (J7 w) 0 0 rfl (by omega) (by omega) (by omega) (by decide) ?_
  have e : ∀ n : Int, (if (1000000000000 : Int) < n then (1000000000000 : Int) else n) = min n 1000000000000 := fun n => by split <;> omega
  rw [e]
  exact h
 ·rw [if_pos (Or.inl (eq_of_beq q))] at h; exact h
abbrev lpN := Jk Ze J9
theorem zcz : ∀ (k : Nat) (w : List UInt8) (a : Int), zbR w → 0 ≤ a → 0 ≤ Jcj k w a
 | 0, w, a, _, h => by cases w <;> exact h
 | k + 1, [], a, hw, h => by rw [Jcj]; exact zcz k [] _ hw (by omega)
 | k + 1, c :: w, a, hw, h => by
  have := Zfs (hw c (List.mem_cons_self ..))
  rw [Jcj]
  exact zcz k w _ (fun b hb => hw b (List.mem_cons_of_mem _ hb)) (by omega)
theorem jf1 {w : List UInt8} (h : zbR w) (p : Int) : 0 ≤ jfA w p ∧ jfA w p ≤ 1000000000000 := by
 unfold jfA
 simp only
 split
 ·omega
 ·split
  ·omega
  ·have := zcz (p - ((w.length : Int) - ((J7 w).length : Int))).toNat (J7 w) 0 (jcQ h) (by omega)
   omega
def Ze2 (W V : List UInt8) (c : Int) (K : Int → Bool → Int → Prop) (e : Int) (b : Bool) (j : Int) : Prop :=
 W.length + V.length ≤ 1099511627776 ∧ (I64 ((W.length : Int) + e) ∧ (I64 (((W.length : Int) + e) + 3) ∧ (je2 (W ++ V) (((W.length : Int) + e) + 3) (fun y => ((decide (c = 45)) = true → (I64 (0 - y) ∧ K (0 - y) b j)) ∧ ((decide (c = 45)) = false → K y b j)))))
theorem zca {W V : List UInt8} {c : Int} {K : Int → Bool → Int → Prop} {e : Int} {b : Bool} {j : Int} (hW : zbR W) (hV : zbR V) (lW : W.length ≤ 400000) (lV : V.length ≤ 400000) (he : -10000 ≤ e ∧ e ≤ 10000)
  (h : K (if c = 45 then 0 - jfA (W ++ V) ((W.length : Int) + e + 3) else jfA (W ++ V) ((W.length : Int) + e + 3)) b j) : Ze2 W V c K e b j := by
 have hA : zbR (W ++ V) := fun x hx => (List.mem_append.mp hx).elim (hW x) (hV x)
 have hc := jf1 hA ((W.length : Int) + e + 3)
 refine ⟨by omega, JB (by omega), JB (by omega), ⟨hA, by rw [List.length_append]; omega, by omega, by omega⟩, fun q => ⟨by unfold I64; omega, ?_⟩, fun q => ?_⟩
 ·rw [if_pos (of_decide_eq_true q)] at h; exact h
 ·rw [if_neg (of_decide_eq_false q)] at h; exact h
theorem Zeb {s : List UInt8} {j : Int} (hs : s.length ≤ 400000) (h0 : 0 ≤ j) (hj : j ≤ s.length) (R : Int → Bool → Int → Prop) (b : Bool) (h : R (zbV (s.drop j.toNat)).1 (b && decide ((zbV (s.drop j.toNat)).2 = 0)) (j + ((zbV (s.drop j.toNat)).2 : Int))) :
  (Ze s j (fun y11 => (JbQ y11 (fun y12 => ((y12 = true → (I64 (j + (1 : Int)) ∧ (JdB s (j + (1 : Int)) (fun y13 => ((y13 = true → (I64 (j + (1 : Int)) ∧ (Ze s (j + (1 : Int)) (fun y14 => (Ze s (j + (1 : Int)) (fun y15 => (ZU y15 (fun y16 => ((y16 = true → (I64 ((j + (1 : Int)) + (1 : Int)) ∧ (∃ m, lpN m ((j + (1 : Int)) + (1 : Int)) s ((j + (1 : Int)) + (1 : Int)) (fun y17 y18 y19 => ((0 ≤ y17 ∧ y17 ≤ y19 ∧ y19 ≤ (y18.length : Int)) ∧ (jbR ((y18.drop y17.toNat).take (y19.toNat - y17.toNat)) (fun y20 => (((decide (y14 = (45 : Int))) = true → (I64 (0 - y20) ∧ R (0 - y20) false y19)) ∧ ((decide (y14 = (45 : Int))) = false → R y20 false y19))))))))) ∧ (y16 = false → (∃ m, lpN m (j + (1 : Int)) s (j + (1 : Int)) (fun y23 y24 y25 => ((0 ≤ y23 ∧ y23 ≤ y25 ∧ y25 ≤ (y24.length : Int)) ∧ (jbR ((y24.drop y23.toNat).take (y25.toNat - y23.toNat)) (fun y26 => (((decide (y14 = (45 : Int))) = true → (I64 (0 - y26) ∧ R (0 - y26) false y25)) ∧ ((decide (y14 = (45 : Int))) = false → R y26 false y25))))))))))))))))) ∧ (y13 = false → R 0 b j)))))) ∧ (y12 = false → R 0 b j)))))) := by
 have hok : ∀ x : Int, 0 ≤ x → x ≤ s.length + 10 → okP s x := fun x a b => ⟨a, by omega, by omega⟩
 have none : (zbV (s.drop j.toNat)) = (0, 0) → R 0 b j := fun e => by rw [e] at h; simpa using h
 refine ⟨h0, fun q => ⟨JB (by omega), hok _ (by omega) (by omega), fun q2 => ⟨JB (by omega), by omega, by omega, fun q3 => ⟨JB (by omega), ?_⟩, fun q3 => ?_⟩, fun q2 => none ?_⟩, fun q => none ?_⟩
 ·rw [z7 h0] at q2 q3
  have hlen : j + 1 < s.length := by
   by_cases q4 : j + 1 < s.length
   ·exact q4
   ·exfalso
    rw [← z7 h0, List.drop_of_length_le (by omega)] at q3
    exact absurd q3 (by decide)
  have hd := jac (s.drop (j + 1 + 1).toNat)
  rw [List.length_drop] at hd
  have e : zbV (s.drop j.toNat) = (if hb (s.drop j.toNat).tail = 45 then 0 - JaU (ZJ (s.drop (j + 1 + 1).toNat)) else JaU (ZJ (s.drop (j + 1 + 1).toNat)), 2 + (ZJ (s.drop (j + 1 + 1).toNat)).length) := by
   unfold zbV
   rw [q, q2, Bool.and_self, if_pos rfl]
   simp only [q3, if_true]
   rw [z7 (by omega : 0 ≤ j + 1), z7 h0]
  rw [e] at h
  refine JdV s (by omega) _ _ _ _ rfl (hok _ (by omega) (by omega)) ⟨⟨by omega, by omega, by omega⟩, ?_⟩
  rw [jar (by omega)]
  have hwh := Jb9 (ZJ (s.drop (j + 1 + 1).toNat)) 0 (Z6 _) (by omega) (by omega)
  have e2 : j + ((2 + (ZJ (s.drop (j + 1 + 1).toNat)).length : Nat) : Int) = j + 1 + 1 + ((ZJ (s.drop (j + 1 + 1).toNat)).length : Int) := by omega
  rw [e2] at h
  refine ⟨⟨Z6 _, by omega⟩, fun q4 => ⟨JB (by show _ ∧ _; unfold JaU; omega), ?_⟩, fun q4 => ?_⟩
  ·rw [z7 h0] at q4
   rw [if_pos (of_decide_eq_true q4)] at h
   simpa using h
  ·rw [z7 h0] at q4
   rw [if_neg (of_decide_eq_false q4)] at h
   simpa using h
 ·rw [z7 h0] at q2 q3
  have hlen : j + 1 ≤ s.length := by
   by_cases q4 : j + 1 ≤ s.length
   ·exact q4
   ·exfalso
    unfold Jgv at q2
    rw [← z7 h0, List.drop_of_length_le (by omega)] at q2
    exact absurd q2 (by decide)
  have hd := jac (s.drop (j + 1).toNat)
  rw [List.length_drop] at hd
  have e : zbV (s.drop j.toNat) = (if hb (s.drop j.toNat).tail = 45 then 0 - JaU (ZJ (s.drop (j + 1).toNat)) else JaU (ZJ (s.drop (j + 1).toNat)), 1 + (ZJ (s.drop (j + 1).toNat)).length) := by
   unfold zbV
   rw [q, q2, Bool.and_self, if_pos rfl]
   simp only [q3, Bool.false_eq_true, if_false]
   rw [z7 h0]
  rw [e] at h
  refine JdV s (by omega) _ _ _ _ rfl (hok _ (by omega) (by omega)) ⟨⟨by omega, by omega, by omega⟩, ?_⟩
  rw [jar (by omega)]
  have hwh := Jb9 (ZJ (s.drop (j + 1).toNat)) 0 (Z6 _) (by omega) (by omega)
  have e2 : j + ((1 + (ZJ (s.drop (j + 1).toNat)).length : Nat) : Int) = j + 1 + ((ZJ (s.drop (j + 1).toNat)).length : Int) := by omega
  rw [e2] at h
  refine ⟨⟨Z6 _, by omega⟩, fun q4 => ⟨JB (by show _ ∧ _; unfold JaU; omega), ?_⟩, fun q4 => ?_⟩
  ·rw [z7 h0] at q4
   rw [if_pos (of_decide_eq_true q4)] at h
   simpa using h
  ·rw [z7 h0] at q4
   rw [if_neg (of_decide_eq_false q4)] at h
   simpa using h
 ·rw [z7 h0] at q2
  unfold zbV
  rw [q2, Bool.and_false, if_neg (by decide)]
 ·unfold zbV
  rw [q, Bool.false_and, if_neg (by decide)]
theorem Jeb (w : List UInt8) : -10000 ≤ (zbV w).1 ∧ (zbV w).1 ≤ 10000 := by
 unfold zbV
 split
 ·have h := fun v : List UInt8 => Jb9 (ZJ v) 0 (Z6 _) (by omega) (by omega)
  simp only
  split
  ·have := h (if mSg (hb w.tail) = true then w.tail.tail else w.tail)
   unfold JaU
   omega
  ·have := h (if mSg (hb w.tail) = true then w.tail.tail else w.tail)
   unfold JaU
   omega
 ·decide
def Jfs : T_k_rNu := fun s i K => (0 ≤ i ∧ i ≤ s.length ∧ s.length ≤ 400000) ∧ K (Zeh (s.drop i.toNat)).1 (Zeh (s.drop i.toNat)).2.1 (i + ((Zeh (s.drop i.toNat)).2.2 : Int))
theorem JgJ (s i K) (h : Jfs s i K) : zdR Zcx Ze JbQ JdB jbR je2 ZU J9 s i K := by
 obtain ⟨⟨h0, hi, hs⟩, h⟩ := h
 generalize hw : s.drop i.toNat = w at h
 have hbw : hb (s.drop i.toNat) = hb w := by rw [hw]
 refine ⟨h0, h0, fun q => ⟨JB (by omega), ?_⟩, fun q => ?_⟩
 ·rw [hw] at q
  have hl : i < s.length := by
   by_cases q2 : i < s.length
   ·exact q2
   ·exfalso
    rw [← hw, List.drop_of_length_le (by omega)] at q
    exact absurd q (by decide)
  have hsn : jaP w = 1 := by unfold jaP; rw [if_pos q]
  have hd1 := jac (s.drop (i + 1).toNat)
  rw [List.length_drop] at hd1
  have eS : w.drop (jaP w) = s.drop (i + 1).toNat := by rw [hsn, ← hw, List.drop_one, z7 h0]
  have eW : Zao w = ZJ (s.drop (i + 1).toNat) := by unfold Zao; rw [eS]
  have eB : s.drop (i + 1 + ((ZJ (s.drop (i + 1).toNat)).length : Int)).toNat = w.drop (Zt w) := by
   unfold Zt
   rw [eW, ← List.drop_drop, eS]
   exact zaD (by omega) _
  refine JdV s (by omega) _ _ _ _ rfl ⟨by omega, by omega, by omega⟩ ⟨⟨by omega, by omega, by omega⟩, ⟨by omega, by omega, by omega⟩, fun q7 => ⟨JB (by omega), ?_⟩, fun q7 => ?_⟩
  ·rw [eB] at q7
   have hl1 : i + 1 + ((ZJ (s.drop (i + 1).toNat)).length : Int) < s.length := by
    by_cases q8 : i + 1 + ((ZJ (s.drop (i + 1).toNat)).length : Int) < s.length
    ·exact q8
    ·exfalso
     rw [← eB, List.drop_of_length_le (by omega)] at q7
     exact absurd q7 (by decide)
   have hd2 := jac (s.drop (i + 1 + ((ZJ (s.drop (i + 1).toNat)).length : Int) + 1).toNat)
   rw [List.length_drop] at hd2
   have eV : ZbH w = ZJ (s.drop (i + 1 + ((ZJ (s.drop (i + 1).toNat)).length : Int) + 1).toNat) := by
    unfold ZbH
    rw [if_pos q7, z7 (by omega), eB]
   have eF : s.drop (i + 1 + ((ZJ (s.drop (i + 1).toNat)).length : Int) + 1 + ((ZJ (s.drop (i + 1 + ((ZJ (s.drop (i + 1).toNat)).length : Int) + 1).toNat)).length : Int)).toNat = w.drop (jj w) := by
    unfold jj
    rw [if_pos q7, eV, ← List.drop_drop, ← eB, zaD (by omega), z7 (by omega), ← List.drop_drop, List.drop_one]
   refine JdV s (by omega) _ _ _ _ rfl ⟨by omega, by omega, by omega⟩ ⟨⟨by omega, by omega, by omega⟩, ?_⟩
   rw [jar (by omega), jar (by omega)]
   have hx := Jeb (w.drop (jj w))
   refine Zeb hs (by omega) (by omega) (Ze2 (ZJ (s.drop (i + 1).toNat)) (ZJ (s.drop (i + 1 + ((ZJ (s.drop (i + 1).toNat)).length : Int) + 1).toNat)) (hb (s.drop i.toNat)) K) false ?_
   rw [eF]
   refine zca (Z6 _) (Z6 _) (by omega) (by omega) hx ?_
   unfold Zeh Zad at h
   simp only [q7, Bool.not_true, Bool.false_and] at h ⊢
   rw [eW, eV] at h
   rw [hbw]
   have ej : i + ((jj w + (zbV (w.drop (jj w))).2 : Nat) : Int) = i + 1 + ((ZJ (s.drop (i + 1).toNat)).length : Int) + 1 + ((ZJ (s.drop (i + 1 + ((ZJ (s.drop (i + 1).toNat)).length : Int) + 1).toNat)).length : Int) + ((zbV (w.drop (jj w))).2 : Int) := by
    have : jj w = Zt w + (1 + (ZbH w).length) := by unfold jj; rw [if_pos q7]
    have h3 : Zt w = jaP w + (Zao w).length := rfl
    rw [eV] at this
    rw [eW, hsn] at h3
    omega
   rw [← ej]
   exact h
  ·rw [eB] at q7
   have eF : s.drop (i + 1 + ((ZJ (s.drop (i + 1).toNat)).length : Int)).toNat = w.drop (jj w) := by
    unfold jj
    rw [if_neg (by rw [q7]; decide), Nat.add_zero, eB]
   have eV : ZbH w = [] := by
    unfold ZbH
    rw [if_neg (by rw [q7]; decide)]
   rw [jar (by omega)]
   have hx := Jeb (w.drop (jj w))
   refine Zeb hs (by omega) (by omega) (Ze2 (ZJ (s.drop (i + 1).toNat)) [] (hb (s.drop i.toNat)) K) true ?_
   rw [eF]
   refine zca (Z6 _) (fun b hb => by cases hb) (by omega) (Nat.zero_le _) hx ?_
   unfold Zeh Zad at h
   simp only [q7, Bool.not_false, Bool.true_and] at h ⊢
   rw [eW, eV] at h
   rw [hbw]
   have ej : i + ((jj w + (zbV (w.drop (jj w))).2 : Nat) : Int) = i + 1 + ((ZJ (s.drop (i + 1).toNat)).length : Int) + ((zbV (w.drop (jj w))).2 : Int) := by
    have : jj w = Zt w := by unfold jj; rw [if_neg (by rw [q7]; decide), Nat.add_zero]
    have h3 : Zt w = jaP w + (Zao w).length := rfl
    rw [eW, hsn] at h3
    omega
   rw [← ej]
   exact h
 ·rw [hw] at q
  have hsn : jaP w = 0 := by unfold jaP; rw [if_neg (by rw [q]; decide)]
  have hd1 := jac (s.drop i.toNat)
  rw [List.length_drop] at hd1
  have eS : w.drop (jaP w) = s.drop i.toNat := by rw [hsn, ← hw, List.drop_zero]
  have eW : Zao w = ZJ (s.drop i.toNat) := by unfold Zao; rw [eS]
  have eB : s.drop (i + ((ZJ (s.drop i.toNat)).length : Int)).toNat = w.drop (Zt w) := by
   unfold Zt
   rw [eW, ← List.drop_drop, eS]
   exact zaD (by omega) _
  refine JdV s (by omega) _ _ _ _ rfl ⟨by omega, by omega, by omega⟩ ⟨⟨by omega, by omega, by omega⟩, ⟨by omega, by omega, by omega⟩, fun q7 => ⟨JB (by omega), ?_⟩, fun q7 => ?_⟩
  ·rw [eB] at q7
   have hl1 : i + ((ZJ (s.drop i.toNat)).length : Int) < s.length := by
    by_cases q8 : i + ((ZJ (s.drop i.toNat)).length : Int) < s.length
    ·exact q8
    ·exfalso
     rw [← eB, List.drop_of_length_le (by omega)] at q7
     exact absurd q7 (by decide)
   have hd2 := jac (s.drop (i + ((ZJ (s.drop i.toNat)).length : Int) + 1).toNat)
   rw [List.length_drop] at hd2
   have eV : ZbH w = ZJ (s.drop (i + ((ZJ (s.drop i.toNat)).length : Int) + 1).toNat) := by
    unfold ZbH
    rw [if_pos q7, z7 (by omega), eB]
   have eF : s.drop (i + ((ZJ (s.drop i.toNat)).length : Int) + 1 + ((ZJ (s.drop (i + ((ZJ (s.drop i.toNat)).length : Int) + 1).toNat)).length : Int)).toNat = w.drop (jj w) := by
    unfold jj
    rw [if_pos q7, eV, ← List.drop_drop, ← eB, zaD (by omega), z7 (by omega), ← List.drop_drop, List.drop_one]
   refine JdV s (by omega) _ _ _ _ rfl ⟨by omega, by omega, by omega⟩ ⟨⟨by omega, by omega, by omega⟩, ?_⟩
   rw [jar (by omega), jar (by omega)]
   have hx := Jeb (w.drop (jj w))
   refine Zeb hs (by omega) (by omega) (Ze2 (ZJ (s.drop i.toNat)) (ZJ (s.drop (i + ((ZJ (s.drop i.toNat)).length : Int) + 1).toNat)) (hb (s.drop i.toNat)) K) false ?_
   rw [eF]
   refine zca (Z6 _) (Z6 _) (by omega) (by omega) hx ?_
   unfold Zeh Zad at h
   simp only [q7, Bool.not_true, Bool.false_and] at h ⊢
   rw [eW, eV] at h
   rw [hbw]
   have ej : i + ((jj w + (zbV (w.drop (jj w))).2 : Nat) : Int) = i + ((ZJ (s.drop i.toNat)).length : Int) + 1 + ((ZJ (s.drop (i + ((ZJ (s.drop i.toNat)).length : Int) + 1).toNat)).length : Int) + ((zbV (w.drop (jj w))).2 : Int) := by
    have : jj w = Zt w + (1 + (ZbH w).length) := by unfold jj; rw [if_pos q7]
    have h3 : Zt w = jaP w + (Zao w).length := rfl
    rw [eV] at this
    rw [eW, hsn] at h3
    omega
   rw [← ej]
   exact h
  ·rw [eB] at q7
   have eF : s.drop (i + ((ZJ (s.drop i.toNat)).length : Int)).toNat = w.drop (jj w) := by
    unfold jj
    rw [if_neg (by rw [q7]; decide), Nat.add_zero, eB]
   have eV : ZbH w = [] := by
    unfold ZbH
    rw [if_neg (by rw [q7]; decide)]
   rw [jar (by omega)]
   have hx := Jeb (w.drop (jj w))
   refine Zeb hs (by omega) (by omega) (Ze2 (ZJ (s.drop i.toNat)) [] (hb (s.drop i.toNat)) K) true ?_
   rw [eF]
   refine zca (Z6 _) (fun b hb => by cases hb) (by omega) (Nat.zero_le _) hx ?_
   unfold Zeh Zad at h
   simp only [q7, Bool.not_false, Bool.true_and] at h ⊢
   rw [eW, eV] at h
   rw [hbw]
   have ej : i + ((jj w + (zbV (w.drop (jj w))).2 : Nat) : Int) = i + ((ZJ (s.drop i.toNat)).length : Int) + ((zbV (w.drop (jj w))).2 : Int) := by
    have : jj w = Zt w := by unfold jj; rw [if_neg (by rw [q7]; decide), Nat.add_zero]
    have h3 : Zt w = jaP w + (Zao w).length := rfl
    rw [eW, hsn] at h3
    omega
   rw [← ej]
   exact h
end Go.Proofs.YtkokbidbmidlbaaGreatDoor
namespace Go.Proofs.YtkokbidbmidlbaaGreatDoor
open Go.Vm Go.Sx Go.RowKit
theorem Je2 (w : List UInt8) : jaP w ≤ w.length := by
 unfold jaP
 split
 ·rename_i q
  cases w with
  | nil => exact absurd q (by decide)
  | cons c w => simp
 ·exact Nat.zero_le _
theorem zdd {w : List UInt8} {n : Nat} (h : hb (w.drop n) ≠ 0) : n < w.length := by
 by_cases q : n < w.length
 ·exact q
 ·rw [List.drop_of_length_le (by omega)] at h; exact absurd rfl h
theorem zdW (w : List UInt8) : Zt w ≤ w.length := by
 have h := jac (w.drop (jaP w))
 have h2 := Je2 w
 rw [List.length_drop] at h
 unfold Zt Zao
 omega
theorem zft {w : List UInt8} (h : JcX w = true) : hb w = 46 := by
 unfold JcX at h
 rw [Bool.and_eq_true] at h
 exact of_decide_eq_true h.1
theorem jdW (w : List UInt8) : jj w ≤ w.length := by
 have h := zdW w
 unfold jj
 split
 ·rename_i q
  have hl := zdd (w := w) (n := Zt w) (by rw [zft q]; decide)
  have h2 := jac (w.drop (Zt w)).tail
  unfold ZbH
  rw [if_pos q]
  rw [List.length_tail, List.length_drop] at h2
  omega
 ·omega
theorem jft (w : List UInt8) : (zbV w).2 ≤ w.length := by
 unfold zbV
 split
 ·rename_i q
  rw [Bool.and_eq_true] at q
  cases w with
  | nil => exact absurd q.1 (by decide)
  | cons c w =>
   by_cases q2 : mSg (hb (c :: w).tail) = true
   ·rw [if_pos q2, if_pos q2]
    cases w with
    | nil => exact absurd (show mSg (hb []) = true from q2) (by decide)
    | cons d w =>
     have := jac w
     show 2 + (ZJ w).length ≤ w.length + 1 + 1
     omega
   ·rw [if_neg q2, if_neg q2]
    have := jac w
    show 1 + (ZJ w).length ≤ w.length + 1
    omega
 ·simp
theorem jcz (w : List UInt8) : Zad w ≤ w.length := by
 have h := jft (w.drop (jj w))
 have h2 := jdW w
 rw [List.length_drop] at h
 unfold Zad
 omega
theorem ZdW {w : List UInt8} (h : jf8 w = true) : 1 ≤ Zad w := by
 unfold Zad
 suffices q : 1 ≤ jj w by omega
 unfold jj
 cases q : mSg (hb w) with
 | true =>
  have : 1 ≤ Zt w := by unfold Zt jaP; rw [if_pos q]; omega
  omega
 | false =>
  have e : jaP w = 0 := by unfold jaP; rw [if_neg (by rw [q]; decide)]
  unfold jf8 at h
  rw [if_neg (by rw [q]; decide), Bool.or_eq_true] at h
  cases w with
  | nil => rcases h with h | h <;> exact absurd h (by decide)
  | cons c w =>
  cases q2 : mD (c.toNat : Int) with
  | true =>
   have : Zt (c :: w) = (ZJ (c :: w)).length := by unfold Zt Zao; rw [e, Nat.zero_add, List.drop_zero]
   rw [Jea q2, List.length_cons] at this
   omega
  | false =>
   have : Zt (c :: w) = 0 := by unfold Zt Zao; rw [e, Nat.zero_add, List.drop_zero, zeb q2]; rfl
   rw [this, List.drop_zero]
   rcases h with h | h
   ·rw [JC, q2] at h; cases h
   ·rw [if_pos h]; omega
theorem Zf1 {w : List UInt8} (h : mSp (hb w) = true) : 1 ≤ nSp w := by
 cases w with
 | nil => exact absurd h (by decide)
 | cons c w => rw [JC] at h; unfold nSp; rw [if_pos h]; omega
theorem ze3 {w : List UInt8} (h : zdn w = true) : 1 ≤ (zB w).2 := by
 cases w with
 | nil => exact absurd h (by decide)
 | cons c w =>
  rw [zB, if_pos h]
  split <;> simp only <;> omega
theorem Jf1 {w : List UInt8} (h : ZcX w = true) : zdn w = true := by
 unfold ZcX at h
 unfold zdn mN
 split at h
 ·rw [Bool.or_eq_true] at h
  rcases h with h | h <;> rw [h] <;> simp
 ·rename_i q
  have q : hb w = 45 := by simpa using q
  rw [q]
  have e : (mD 45 || decide ((45 : Int) = 45)) = true := by decide
  rw [e, Bool.or_true, Bool.true_or]
theorem Zft (q : Int) (w : List UInt8) : (strM q w).2.2 ≤ w.length := by
 induction hn : w.length using Nat.strongRecOn generalizing w with
 | _ n ih =>
  cases w with
  | nil => rw [strM]; simp
  | cons c w =>
   rw [List.length_cons] at hn
   rw [strM.eq_def]
   simp only
   split
   ·simp only; omega
   ·split
    ·simp
    ·split
     ·have := ih w.length (by omega) w rfl
      simp only
      omega
     ·cases w with
      | nil => simp only [List.length_nil] at hn ⊢; omega
      | cons d v =>
       rw [List.length_cons] at hn
       simp only
       split
       ·have := ih v.length (by omega) v rfl
        simp only
        omega
       ·have he := Jah (d :: v)
        rw [List.length_cons] at he
        have := ih ((d :: v).drop (jJ (d :: v)).2).length (by rw [List.length_drop, List.length_cons]; omega) _ rfl
        rw [List.length_drop, List.length_cons] at this
        simp only
        omega
theorem Jft (w : List UInt8) : jdn w ≤ w.length := by
 induction hn : w.length using Nat.strongRecOn generalizing w with
 | _ n ih =>
  cases w with
  | nil => rw [jdn]; simp
  | cons c w =>
   rw [List.length_cons] at hn
   rw [jdn]
   split
   ·omega
   ·split
    ·have he := Jah w
     have := ih (w.drop (jJ w).2).length (by rw [List.length_drop]; omega) (w.drop (jJ w).2) rfl
     rw [List.length_drop] at this
     omega
    ·have := ih w.length (by omega) w rfl
     omega
theorem zdD (w : List UInt8) : (zag w).2 ≤ w.length := by
 have ha := Jbq w
 have hu := jea (w.drop (nSp w))
 have hb := Jft (w.drop (nSp w + (JbU (w.drop (nSp w))).2))
 rw [List.length_drop] at hu hb
 unfold zag
 simp only
 split
 ·simp only; omega
 ·split
  ·rename_i q
   have := zdd (w := w) (n := nSp w + (JbU (w.drop (nSp w))).2) (by rw [q]; decide)
   simp only
   omega
  ·simp only; omega
theorem jes {w : List UInt8} : (jbv w).2 ≤ w.length := by
 have hn := Za2 w
 unfold jbv
 simp only
 split
 ·simp only; omega
 ·rename_i q
  have q : hb (w.drop (zB w).2) = 40 := by simpa using q
  have hl := zdd (w := w) (n := (zB w).2) (by rw [q]; decide)
  have hu := zdD (w.drop (zB w).2).tail
  rw [List.length_tail, List.length_drop] at hu
  split
  ·simp only; omega
  ·simp only; omega
theorem Zes {w : List UInt8} (h : ZcX w = true) : 1 ≤ (jbv w).2 := by
 have := ze3 (Jf1 h)
 unfold jbv
 simp only
 split
 ·simp only; omega
 ·split <;> simp only <;> omega
theorem jdD (w : List UInt8) : (jag w).2 ≤ w.length := by
 have h := jcz w
 have e : (Zeh w).2.2 = Zad w := rfl
 have hn := Za2 (w.drop (Zeh w).2.2)
 rw [List.length_drop] at hn
 unfold jag
 simp only
 split
 ·simp only; omega
 ·split
  ·rename_i q
   have := zdd (w := w) (n := (Zeh w).2.2) (by rw [q]; decide)
   simp only
   omega
  ·simp only; omega
theorem ZdD {w : List UInt8} (h : jf8 w = true) : 1 ≤ (jag w).2 := by
 have h := ZdW h
 have e : (Zeh w).2.2 = Zad w := rfl
 unfold jag
 simp only
 split
 ·simp only; omega
 ·split <;> simp only <;> omega
theorem jbr {a w : List UInt8} (h : a.isPrefixOf w = true) : a.length ≤ w.length := (List.isPrefixOf_iff_prefix.mp h).length_le
theorem zfu {w : List UInt8} (hw : w ≠ []) : 1 ≤ (zfO w).2 ∧ (zfO w).2 ≤ w.length := by
 have hl : 1 ≤ w.length := by cases w with | nil => exact absurd rfl hw | cons c w => simp
 unfold zfO
 split
 ·rename_i q; exact ⟨Zes q, jes⟩
 ·split <;> exact ⟨Nat.le_refl _, hl⟩
theorem jfu {w : List UInt8} (hw : w ≠ []) : 1 ≤ (jfO w).2 ∧ (jfO w).2 ≤ w.length := by
 unfold jfO
 split
 ·have := Za2 w.tail
  cases w with
  | nil => exact absurd rfl hw
  | cons c w => simp only [List.tail_cons, List.length_cons] at this ⊢; omega
 ·exact zfu hw
theorem Zfu {w : List UInt8} (hw : w ≠ []) : 1 ≤ (ZfO w).2 ∧ (ZfO w).2 ≤ w.length := by
 unfold ZfO
 split
 ·rename_i q; exact ⟨ZdD q, jdD w⟩
 ·split
  ·rename_i q; exact ⟨by decide, jbr q⟩
  ·split
   ·rename_i q; exact ⟨by decide, jbr q⟩
   ·exact jfu hw
theorem Jfu {w : List UInt8} (hw : w ≠ []) : 1 ≤ (zbZ w).2 ∧ (zbZ w).2 ≤ w.length := by
 unfold zbZ
 split
 ·rename_i q; exact ⟨Zf1 q, Jbq w⟩
 ·split
  ·have := Zft (hb w) w.tail
   cases w with
   | nil => exact absurd rfl hw
   | cons c w => simp only [List.tail_cons, List.length_cons] at this ⊢; omega
  ·split
   ·have := Za2 w.tail
    cases w with
    | nil => exact absurd rfl hw
    | cons c w => simp only [List.tail_cons, List.length_cons] at this ⊢; omega
   ·exact Zfu hw
theorem Zcz : ∀ (w : List UInt8) (k : Nat), jcY w = some k → k + 2 ≤ w.length
 | [], k, h => by cases h
 | c :: w, k, h => by
  unfold jcY at h
  split at h
  ·rename_i q
   obtain rfl := Option.some.inj h
   cases w with
   | nil => exact absurd q.2 (by decide)
   | cons d w => simp
  ·cases hc : jcY w with
   | none => rw [hc] at h; cases h
   | some m =>
    rw [hc] at h
    have h : m + 1 = k := Option.some.inj h
    have := Zcz w m hc
    rw [List.length_cons]
    omega
theorem zec (w : List UInt8) : JcB w ≤ w.length := by
 induction hn : w.length using Nat.strongRecOn generalizing w with
 | _ n ih =>
  rw [JcB]
  split
  ·rename_i q
   have hp := jbr q
   simp only [List.length_cons, List.length_nil] at hp
   split
   ·omega
   ·rename_i k hk
    have := Zcz _ _ hk
    rw [List.length_drop] at this
    split
    ·exact Nat.zero_le _
    ·have h2 := ih (w.drop (2 + (k + 2))).length (by rw [List.length_drop]; omega) _ rfl
     rw [List.length_drop] at h2
     omega
  ·exact Nat.zero_le _
def je3 : T_gslHPx := fun s c K => K (c.isPrefixOf s)
theorem zgK (s c K) (h : je3 s c K) : jc6 s c K := by
 unfold je3 at h
 refine ⟨fun q => ⟨⟨by omega, of_decide_eq_true q⟩, ?_⟩, fun q => ?_⟩
 ·have e : (s.take (c.length : Int).toNat == c) = c.isPrefixOf s := by
   rw [Int.toNat_natCast]
   cases q : c.isPrefixOf s with
   | true =>
    have := List.prefix_iff_eq_take.mp (List.isPrefixOf_iff_prefix.mp q)
    rw [← this]; exact beq_self_eq_true _
   | false =>
    cases q2 : s.take c.length == c with
    | false => rfl
    | true =>
     have := List.isPrefixOf_iff_prefix.mpr (List.prefix_iff_eq_take.mpr (eq_of_beq q2).symm)
     rw [q] at this; cases this
  rw [e]; exact h
 ·have q := of_decide_eq_false q
  cases q2 : c.isPrefixOf s with
  | false => rw [q2] at h; exact h
  | true => have := jbr q2; exfalso; omega
def Jeu : T_gs_HPx := fun s c K => K (c.isPrefixOf s)
theorem jg0 (s c K) (h : Jeu s c K) : zc7 je3 s c K := h
def Ze3 : T_gslIndex := fun s c K => s.length ≤ 1000000 ∧ K (Lib.index s c)
def Je3 : T_gs_Index := fun s c K => s.length ≤ 1000000 ∧ K (Lib.index s c)
theorem jgK (s c K) (h : Je3 s c K) : zbM Ze3 s c K := h
theorem Jcz : ∀ w : List UInt8, Lib.index w [42, 47] = match jcY w with | none => -1 | some k => (k : Int)
 | [] => rfl
 | c :: w => by
  have ih := Jcz w
  have hp : ([42, 47] : List UInt8).isPrefixOf (c :: w) = decide (c = 42 ∧ hb w = 47) := by
   by_cases q : c = 42
   ·cases w with
    | nil => subst q; rfl
    | cons d w =>
     subst q
     by_cases q2 : (d.toNat : Int) = 47
     ·have : d = 47 := UInt8.toNat_inj.mp (by show d.toNat = 47; omega)
      subst this
      simp [List.isPrefixOf]
     ·have : (47 : UInt8) ≠ d := fun e => q2 (by rw [← e]; rfl)
      simp [List.isPrefixOf, q2, this]
   ·have : (42 : UInt8) ≠ c := fun e => q e.symm
    simp [List.isPrefixOf, q, this]
  unfold Lib.index jcY
  rw [hp]
  by_cases q : c = 42 ∧ hb w = 47
  ·rw [if_pos (decide_eq_true q), if_pos q]; rfl
  ·rw [if_neg (by rw [decide_eq_false q]; decide), if_neg q, ih]
   cases jcY w with
   | none => rfl
   | some k =>
    simp only [Option.map_some]
    rw [if_neg (by simp only [beq_iff_eq]; omega), Int.natCast_add]
    rfl
theorem Zgp (s : List UInt8) (hs : s.length ≤ 1000000) (K : Int → Prop) : ∀ (n : Nat) (w : List UInt8) (i : Int), w.length ≤ n → s.drop i.toNat = w → 0 ≤ i → i ≤ s.length → K (i + (JcB w : Int)) → ∃ m, jD Jeu Je3 m s i (fun y => K y) (fun y => K y) := by
 intro n
 induction n with
 | zero =>
  intro w i hn hd h0 hi h
  have : w = [] := List.length_eq_zero_iff.mp (by omega)
  subst this
  rw [JcB] at h
  refine ⟨1, ⟨h0, hi⟩, fun q => ?_, fun _ => by simpa [List.isPrefixOf] using h⟩
  rw [hd] at q; exact absurd q (by decide)
 | succ n ih =>
  intro w i hn hd h0 hi h
  have hlw := congrArg List.length hd
  rw [List.length_drop] at hlw
  rw [JcB] at h
  cases q : ([47, 42] : List UInt8).isPrefixOf w with
  | false =>
   rw [q] at h
   refine ⟨1, ⟨h0, hi⟩, fun q2 => ?_, fun _ => by simpa using h⟩
   rw [hd, q] at q2; cases q2
  | true =>
   have hp := jbr q
   simp only [List.length_cons, List.length_nil] at hp
   rw [q, if_pos rfl] at h
   have e2 : s.drop (i + 2).toNat = w.drop 2 := by rw [← hd]; exact zaD h0 2
   have hidx := Jcz (w.drop 2)
   cases hc : jcY (w.drop 2) with
   | none =>
    rw [hc] at h hidx
    refine ⟨1, ⟨h0, hi⟩, fun _ => ⟨JB (by omega), ⟨by omega, by omega⟩, by rw [List.length_drop]; omega, ?_⟩, fun q2 => ?_⟩
    ·rw [e2, hidx]
     refine ⟨fun _ => ?_, fun q2 => absurd q2 (by decide)⟩
     have e : i + (w.length : Int) = s.length := by omega
     simp only at h
     rw [e] at h
     exact h
    ·rw [hd, q] at q2; cases q2
   | some k =>
    rw [hc] at h hidx
    simp only at h hidx
    have hk := Zcz _ _ hc
    rw [List.length_drop] at hk
    rw [if_neg (fun e => by rw [e] at hp; simp at hp)] at h
    obtain ⟨m, hm⟩ := ih (w.drop (2 + (k + 2))) (i + 2 + ((k : Int) + 2)) (by rw [List.length_drop]; omega) (by
     rw [← hd, ← zaD h0]
     congr 2
     omega) (by omega) (by omega) (by
     have e : i + 2 + ((k : Int) + 2) + (JcB (w.drop (2 + (k + 2))) : Int) = i + ((2 + (k + 2) + JcB (w.drop (2 + (k + 2))) : Nat) : Int) := by omega
     rw [e]; exact h)
    refine ⟨m + 1, ⟨h0, hi⟩, fun _ => ⟨JB (by omega), ⟨by omega, by omega⟩, by rw [List.length_drop]; omega, ?_⟩, fun q2 => ?_⟩
    ·rw [e2, hidx]
     exact ⟨fun q2 => (by exfalso; have := of_decide_eq_true q2; omega), fun _ => ⟨JB (by omega), JB (by omega), hm⟩⟩
    ·rw [hd, q] at q2; cases q2
def ze4 : T_behindCommentsA := fun s i K => (0 ≤ i ∧ i ≤ s.length ∧ s.length ≤ 1000000) ∧ K (i + (JcB (s.drop i.toNat) : Int))
theorem ZgK (s i K) (h : ze4 s i K) : Z9 Jeu Je3 s i K := Zgp s h.1.2.2 K _ _ _ (Nat.le_refl _) rfl h.1.1 h.1.2.1 h.2
theorem jec : marksL = marksA := rfl
def JbD : T_k_isMark := fun c K => (0 ≤ c ∧ c ≤ 255) ∧ K (decide (Jeh c ≠ 0))
theorem Jgp (c K) (h : JbD c K) : ZbM c K := by
 obtain ⟨⟨h0, h1⟩, h⟩ := h
 unfold Jeh at h
 refine ⟨JB (by omega), fun q => ⟨⟨h0, of_decide_eq_true q⟩, ?_, ?_⟩, fun q => ?_⟩
 ·have := of_decide_eq_true q
  show 0 + c.toNat * 1 < 126
  omega
 ·rw [if_pos (of_decide_eq_true q)] at h
  rw [Nat.zero_add, Nat.mul_one, jec]
  exact h
 ·rw [if_neg (of_decide_eq_false q)] at h
  exact h
def Ja2 : T_readNumericA := fun s i K => (0 ≤ i ∧ i ≤ s.length ∧ s.length ≤ 400000) ∧ K (jag (s.drop i.toNat)).1 (i + ((jag (s.drop i.toNat)).2 : Int))
theorem je4 (s i K) (h : Ja2 s i K) : Jat Jfs zaa zbh Ze s i K := by
 obtain ⟨⟨h0, hi, hs⟩, h⟩ := h
 have hl := jcz (s.drop i.toNat)
 rw [List.length_drop] at hl
 have e : (Zeh (s.drop i.toNat)).2.2 = Zad (s.drop i.toNat) := rfl
 unfold jag at h
 simp only at h
 rw [← zaD h0] at h
 rw [e] at h
 refine ⟨⟨h0, hi, hs⟩, ?_⟩
 rw [e]
 refine ⟨⟨⟨by omega, by omega, by omega⟩, by omega⟩, fun q => ⟨⟨by omega, by omega, by omega⟩, ?_⟩, fun q => ⟨by omega, fun q2 => ⟨JB (by omega), ?_⟩, fun q2 => ?_⟩⟩
 ·rw [if_pos q] at h
  simp only [Int.natCast_add, ← Int.add_assoc] at h
  exact h
 ·rw [if_neg (by rw [q]; decide), if_pos (of_decide_eq_true q2)] at h
  simp only [Int.natCast_add, ← Int.add_assoc] at h
  exact h
 ·rw [if_neg (by rw [q]; decide), if_neg (of_decide_eq_false q2)] at h
  exact h
theorem JfE {s : List UInt8} {i : Int} {c : UInt8} {v : List UInt8} {K : Tok → Int → Prop} (h0 : 0 ≤ i) (hs : s.length ≤ 400000) (hd : s.drop i.toNat = c :: v) (h : K (zfO (c :: v)).1 (i + ((zfO (c :: v)).2 : Int))) :
  (zaa s i (fun y18 => ((y18 = true → (ZaM s i (fun y19 y20 => K (Tok.mk y19.kind y19.text y19.num y19.unit y19.flag) y20))) ∧ (y18 = false → ((0 ≤ i ∧ i < (s.length : Int)) ∧ (JbD ((s.getD i.toNat 0).toNat : Int) (fun y21 => ((y21 = true → ((0 ≤ i ∧ i < (s.length : Int)) ∧ ((0 ≤ ((s.getD i.toNat 0).toNat : Int) ∧ ((s.getD i.toNat 0).toNat : Int) < (126 : Int)) ∧ (0 + ((s.getD i.toNat 0).toNat : Int).toNat * 1 < marksL.length ∧ (I64 (i + (1 : Int)) ∧ K (Tok.mk (marksL.getD (0 + ((s.getD i.toNat 0).toNat : Int).toNat * 1) 0) ([] : List UInt8) (0 : Int) ([] : List UInt8) false) (i + (1 : Int))))))) ∧ (y21 = false → (I64 (i + (1 : Int)) ∧ ((0 ≤ i ∧ i ≤ (i + (1 : Int)) ∧ (i + (1 : Int)) ≤ (s.length : Int)) ∧ (I64 (i + (1 : Int)) ∧ K (Tok.mk (9 : Int) ((s.drop i.toNat).take ((i + (1 : Int)).toNat - i.toNat)) (0 : Int) ([] : List UInt8) false) (i + (1 : Int)))))))))))))) := by
 obtain ⟨hl, hc, hn, _⟩ := jm h0 hd
 unfold zfO at h
 refine ⟨⟨⟨h0, by omega, by omega⟩, by omega⟩, ?_⟩
 rw [hd, hc]
 refine ⟨fun q => ⟨⟨h0, by omega, by omega⟩, by omega, ?_⟩, fun q => ⟨⟨h0, hl⟩, jdB c, fun q2 => ?_, fun q2 => ?_⟩⟩
 ·rw [hd]
  rw [if_pos q] at h
  generalize jbv (c :: v) = r at h ⊢
  exact h
 ·have q3 := of_decide_eq_true q2
  rw [if_neg (by rw [q]; decide), JC, if_pos q3] at h
  have hlt : (c.toNat : Int) < 126 := by
   by_cases q4 : (c.toNat : Int) < 126
   ·exact q4
   ·unfold Jeh at q3; rw [if_neg q4] at q3; exact absurd rfl q3
  refine ⟨⟨h0, hl⟩, ⟨(jdB c).1, hlt⟩, by show 0 + (c.toNat : Int).toNat * 1 < 126; omega, JB (by omega), ?_⟩
  rw [Nat.zero_add, Nat.mul_one, jec]
  unfold Jeh at h
  rw [if_pos hlt] at h
  exact h
 ·have q3 := of_decide_eq_false q2
  rw [if_neg (by rw [q]; decide), JC, if_neg q3] at h
  refine ⟨JB (by omega), ⟨h0, by omega, by omega⟩, JB (by omega), ?_⟩
  have e : (i + 1).toNat - i.toNat = 1 := by omega
  rw [e]
  exact h
theorem zgq {s : List UInt8} {i : Int} {c : UInt8} {v : List UInt8} {K : Tok → Int → Prop} (h0 : 0 ≤ i) (hs : s.length ≤ 400000) (hd : s.drop i.toNat = c :: v) (h : K (jfO (c :: v)).1 (i + ((jfO (c :: v)).2 : Int))) :
  ((0 ≤ i ∧ i < (s.length : Int)) ∧ (((decide (((s.getD i.toNat 0).toNat : Int) = (64 : Int))) = true → (I64 (i + (1 : Int)) ∧ (zaa s (i + (1 : Int)) (fun y15 => ((y15 = true → (I64 (i + (1 : Int)) ∧ (zbh s (i + (1 : Int)) (fun y16 y17 => K (Tok.mk (3 : Int) y16 (0 : Int) ([] : List UInt8) false) y17)))) ∧ (y15 = false → (zaa s i (fun y18 => ((y18 = true → (ZaM s i (fun y19 y20 => K (Tok.mk y19.kind y19.text y19.num y19.unit y19.flag) y20))) ∧ (y18 = false → ((0 ≤ i ∧ i < (s.length : Int)) ∧ (JbD ((s.getD i.toNat 0).toNat : Int) (fun y21 => ((y21 = true → ((0 ≤ i ∧ i < (s.length : Int)) ∧ ((0 ≤ ((s.getD i.toNat 0).toNat : Int) ∧ ((s.getD i.toNat 0).toNat : Int) < (126 : Int)) ∧ (0 + ((s.getD i.toNat 0).toNat : Int).toNat * 1 < marksL.length ∧ (I64 (i + (1 : Int)) ∧ K (Tok.mk (marksL.getD (0 + ((s.getD i.toNat 0).toNat : Int).toNat * 1) 0) ([] : List UInt8) (0 : Int) ([] : List UInt8) false) (i + (1 : Int))))))) ∧ (y21 = false → (I64 (i + (1 : Int)) ∧ ((0 ≤ i ∧ i ≤ (i + (1 : Int)) ∧ (i + (1 : Int)) ≤ (s.length : Int)) ∧ (I64 (i + (1 : Int)) ∧ K (Tok.mk (9 : Int) ((s.drop i.toNat).take ((i + (1 : Int)).toNat - i.toNat)) (0 : Int) ([] : List UInt8) false) (i + (1 : Int)))))))))))))))))))) ∧ ((decide (((s.getD i.toNat 0).toNat : Int) = (64 : Int))) = false → (zaa s i (fun y22 => ((y22 = true → (ZaM s i (fun y23 y24 => K (Tok.mk y23.kind y23.text y23.num y23.unit y23.flag) y24))) ∧ (y22 = false → ((0 ≤ i ∧ i < (s.length : Int)) ∧ (JbD ((s.getD i.toNat 0).toNat : Int) (fun y25 => ((y25 = true → ((0 ≤ i ∧ i < (s.length : Int)) ∧ ((0 ≤ ((s.getD i.toNat 0).toNat : Int) ∧ ((s.getD i.toNat 0).toNat : Int) < (126 : Int)) ∧ (0 + ((s.getD i.toNat 0).toNat : Int).toNat * 1 < marksL.length ∧ (I64 (i + (1 : Int)) ∧ K (Tok.mk (marksL.getD (0 + ((s.getD i.toNat 0).toNat : Int).toNat * 1) 0) ([] : List UInt8) (0 : Int) ([] : List UInt8) false) (i + (1 : Int))))))) ∧ (y25 = false → (I64 (i + (1 : Int)) ∧ ((0 ≤ i ∧ i ≤ (i + (1 : Int)) ∧ (i + (1 : Int)) ≤ (s.length : Int)) ∧ (I64 (i + (1 : Int)) ∧ K (Tok.mk (9 : Int) ((s.drop i.toNat).take ((i + (1 : Int)).toNat - i.toNat)) (0 : Int) ([] : List UInt8) false) (i + (1 : Int))))))))))))))))) := by
 obtain ⟨hl, hc, hn, _⟩ := jm h0 hd
 unfold jfO at h
 refine ⟨⟨h0, hl⟩, fun q => ?_, fun q => ?_⟩
 ·have q := of_decide_eq_true q
  rw [hc] at q
  refine ⟨JB (by omega), ⟨⟨⟨by omega, by omega, by omega⟩, by omega⟩, ?_⟩⟩
  rw [hn]
  refine ⟨fun q2 => ⟨JB (by omega), ⟨by omega, by omega, by omega⟩, ?_⟩, fun q2 => ?_⟩
  ·rw [JC, if_pos ⟨q, q2⟩] at h
   rw [hn]
   have e : i + ((1 + (zB v).2 : Nat) : Int) = i + 1 + ((zB v).2 : Int) := by omega
   rw [List.tail_cons, e] at h
   exact h
  ·rw [if_neg (fun x => by have := x.2; rw [List.tail_cons, q2] at this; cases this)] at h
   exact JfE (K := K) h0 hs hd h
 ·have q := of_decide_eq_false q
  rw [hc] at q
  rw [if_neg (fun x => q (by rw [JC] at x; exact x.1))] at h
  exact JfE (K := K) h0 hs hd h
theorem zfF {s : List UInt8} {i : Int} {c : UInt8} {v : List UInt8} {K : Tok → Int → Prop} (h0 : 0 ≤ i) (hs : s.length ≤ 400000) (hd : s.drop i.toNat = c :: v) (h : K (ZfO (c :: v)).1 (i + ((ZfO (c :: v)).2 : Int))) :
  (ZdB s i (fun y10 => ((y10 = true → (Ja2 s i (fun y11 y12 => K (Tok.mk y11.kind y11.text y11.num y11.unit y11.flag) y12))) ∧ (y10 = false → ((0 ≤ i ∧ i ≤ (s.length : Int)) ∧ (Jeu (s.drop i.toNat) ([45, 45, 62] : List UInt8) (fun y13 => ((y13 = true → (I64 (i + (3 : Int)) ∧ K (Tok.mk (15 : Int) ([] : List UInt8) (0 : Int) ([] : List UInt8) false) (i + (3 : Int)))) ∧ (y13 = false → ((0 ≤ i ∧ i ≤ (s.length : Int)) ∧ (Jeu (s.drop i.toNat) ([60, 33, 45, 45] : List UInt8) (fun y14 => ((y14 = true → (I64 (i + (4 : Int)) ∧ K (Tok.mk (14 : Int) ([] : List UInt8) (0 : Int) ([] : List UInt8) false) (i + (4 : Int)))) ∧ (y14 = false → ((0 ≤ i ∧ i < (s.length : Int)) ∧ (((decide (((s.getD i.toNat 0).toNat : Int) = (64 : Int))) = true → (I64 (i + (1 : Int)) ∧ (zaa s (i + (1 : Int)) (fun y15 => ((y15 = true → (I64 (i + (1 : Int)) ∧ (zbh s (i + (1 : Int)) (fun y16 y17 => K (Tok.mk (3 : Int) y16 (0 : Int) ([] : List UInt8) false) y17)))) ∧ (y15 = false → (zaa s i (fun y18 => ((y18 = true → (ZaM s i (fun y19 y20 => K (Tok.mk y19.kind y19.text y19.num y19.unit y19.flag) y20))) ∧ (y18 = false → ((0 ≤ i ∧ i < (s.length : Int)) ∧ (JbD ((s.getD i.toNat 0).toNat : Int) (fun y21 => ((y21 = true → ((0 ≤ i ∧ i < (s.length : Int)) ∧ ((0 ≤ ((s.getD i.toNat 0).toNat : Int) ∧ ((s.getD i.toNat 0).toNat : Int) < (126 : Int)) ∧ (0 + ((s.getD i.toNat 0).toNat : Int).toNat * 1 < marksL.length ∧ (I64 (i + (1 : Int)) ∧ K (Tok.mk (marksL.getD (0 + ((s.getD i.toNat 0).toNat : Int).toNat * 1) 0) ([] : List UInt8) (0 : Int) ([] : List UInt8) false) (i + (1 : Int))))))) ∧ (y21 = false → (I64 (i + (1 : Int)) ∧ ((0 ≤ i ∧ i ≤ (i + (1 : Int)) ∧ (i + (1 : Int)) ≤ (s.length : Int)) ∧ (I64 (i + (1 : Int)) ∧ K (Tok.mk (9 : Int) ((s.drop i.toNat).take ((i + (1 : Int)).toNat - i.toNat)) (0 : Int) ([] : List UInt8) false) (i + (1 : Int)))))))))))))))))))) ∧ ((decide (((s.getD i.toNat 0).toNat : Int) = (64 : Int))) = false → (zaa s i (fun y22 => ((y22 = true → (ZaM s i (fun y23 y24 => K (Tok.mk y23.kind y23.text y23.num y23.unit y23.flag) y24))) ∧ (y22 = false → ((0 ≤ i ∧ i < (s.length : Int)) ∧ (JbD ((s.getD i.toNat 0).toNat : Int) (fun y25 => ((y25 = true → ((0 ≤ i ∧ i < (s.length : Int)) ∧ ((0 ≤ ((s.getD i.toNat 0).toNat : Int) ∧ ((s.getD i.toNat 0).toNat : Int) < (126 : Int)) ∧ (0 + ((s.getD i.toNat 0).toNat : Int).toNat * 1 < marksL.length ∧ (I64 (i + (1 : Int)) ∧ K (Tok.mk (marksL.getD (0 + ((s.getD i.toNat 0).toNat : Int).toNat * 1) 0) ([] : List UInt8) (0 : Int) ([] : List UInt8) false) (i + (1 : Int))))))) ∧ (y25 = false → (I64 (i + (1 : Int)) ∧ ((0 ≤ i ∧ i ≤ (i + (1 : Int)) ∧ (i + (1 : Int)) ≤ (s.length : Int)) ∧ (I64 (i + (1 : Int)) ∧ K (Tok.mk (9 : Int) ((s.drop i.toNat).take ((i + (1 : Int)).toNat - i.toNat)) (0 : Int) ([] : List UInt8) false) (i + (1 : Int))))))))))))))))))))))))))))))) := by
 obtain ⟨hl, hc, hn, hv⟩ := jm h0 hd
 unfold ZfO at h
 refine ⟨⟨⟨h0, by omega, by omega⟩, by omega⟩, ?_⟩
 refine ⟨fun q => ⟨⟨h0, by omega, hs⟩, ?_⟩, fun q => ⟨⟨h0, by omega⟩, fun q2 => ?_, fun q2 => ⟨⟨h0, by omega⟩, fun q3 => ?_, fun q3 => ?_⟩⟩⟩
 ·rw [hd] at q
  rw [if_pos q] at h
  rw [hd]
  generalize jag (c :: v) = r at h ⊢
  exact h
 ·rw [hd] at q q2
  rw [if_neg (by rw [q]; decide), if_pos q2] at h
  have h3 := jbr q2
  have h3 : 3 ≤ v.length + 1 := h3
  have h4 : -100000000 ≤ i + 3 ∧ i + 3 ≤ 100000000 := by omega
  exact ⟨JB h4, h⟩
 ·rw [hd] at q q2 q3
  rw [if_neg (by rw [q]; decide), if_neg (by rw [q2]; decide), if_pos q3] at h
  have h3 := jbr q3
  have h3 : 4 ≤ v.length + 1 := h3
  have h4 : -100000000 ≤ i + 4 ∧ i + 4 ≤ 100000000 := by omega
  exact ⟨JB h4, h⟩
 ·rw [hd] at q q2 q3
  rw [if_neg (by rw [q]; decide), if_neg (by rw [q2]; decide), if_neg (by rw [q3]; decide)] at h
  exact zgq (K := K) h0 hs hd h
def zcA : T_readTokenA := fun s i K => (0 ≤ i ∧ i < s.length ∧ s.length ≤ 400000) ∧ K (zbZ (s.drop i.toNat)).1 (i + ((zbZ (s.drop i.toNat)).2 : Int))
theorem zf2 (s i K) (h : zcA s i K) : za0 JG Zfq jcK Zfr Zbq zaa zbh ZdB Ja2 Jeu ZaM JbD s i K := by
 obtain ⟨⟨h0, hl, hs⟩, h⟩ := h
 cases hd : s.drop i.toNat with
 | nil => have := zx hd; exfalso; omega
 | cons c v =>
 obtain ⟨_, hc, hn, hv⟩ := jm h0 hd
 rw [hd] at h
 unfold zbZ at h
 refine ⟨⟨h0, hl⟩, fun q => ⟨⟨h0, by omega, by omega⟩, ?_⟩, fun q => ⟨⟨h0, hl⟩, fun q2 => ⟨⟨h0, hl, by omega⟩, ?_⟩, fun q2 => ⟨⟨h0, hl⟩, fun q3 => ⟨JB (by omega), ⟨by omega, by omega, by omega⟩, fun q4 => ⟨JB (by omega), ⟨⟨by omega, by omega, by omega⟩, by omega⟩, JB (by omega), ⟨by omega, by omega, by omega⟩, ?_⟩, fun q4 => ?_⟩, fun q3 => ?_⟩⟩⟩
 ·rw [hc] at q
  rw [JC, if_pos q] at h
  rw [hd]
  exact h
 ·rw [hc] at q q2
  rw [JC, if_neg (by rw [q]; decide), if_pos q2, List.tail_cons] at h
  rw [hd, hn, JC]
  unfold Je0
  have e : i + ((1 + (strM (c.toNat : Int) v).2.2 : Nat) : Int) = i + 1 + ((strM (c.toNat : Int) v).2.2 : Int) := by omega
  rw [e] at h
  generalize strM (c.toNat : Int) v = r at h ⊢
  exact h
 ·rw [hc] at q q2
  have q3 := of_decide_eq_true q3
  rw [hc] at q3
  rw [hn] at q4 ⊢
  rw [JC, if_neg (by rw [q]; decide), if_neg (by rw [q2]; decide), if_pos ⟨q3, q4⟩, List.tail_cons] at h
  have e : i + ((1 + (zB v).2 : Nat) : Int) = i + 1 + ((zB v).2 : Int) := by omega
  rw [e] at h
  exact h
 ·rw [hc] at q q2
  rw [hn] at q4
  rw [JC, if_neg (by rw [q]; decide), if_neg (by rw [q2]; decide), if_neg (fun x => by have := x.2; rw [List.tail_cons, q4] at this; cases this)] at h
  exact zfF (K := K) h0 hs hd h
 ·rw [hc] at q q2
  have q3 := of_decide_eq_false q3
  rw [hc] at q3
  rw [JC, if_neg (by rw [q]; decide), if_neg (by rw [q2]; decide), if_neg (fun x => q3 x.1)] at h
  exact zfF (K := K) h0 hs hd h
end Go.Proofs.YtkokbidbmidlbaaGreatDoor
namespace Go.Proofs.YtkokbidbmidlbaaGreatDoor
open Go.Vm Go.Sx Go.RowKit
def Zga : T_i_startsWithLineEnd := fun s K => K (decide (hb s = 10))
theorem Zg0 (s K) (h : Zga s K) : jP s K := by
 unfold Zga at h
 cases s with
 | nil => exact ⟨fun q => absurd q (by decide), fun _ => h⟩
 | cons c w => exact ⟨fun _ => ⟨⟨by omega, by rw [List.length_cons]; omega⟩, h⟩, fun q => (by exfalso; have := of_decide_eq_false q; rw [List.length_cons] at this; omega)⟩
theorem Jes (s : List UInt8) (hs : s.length ≤ 1000000) (Ke : List UInt8 → Prop) : ∀ (w : List UInt8) (i : Int) (b : List UInt8), s.drop i.toNat = w → 0 ≤ i → b.length + 3 * w.length ≤ 10000000 → Ke (b ++ Jq w) → ∃ m, ZG Zga m s i b Ke
 | [], i, b, hd, h0, hbb, h => by
  have := zx hd
  exact ⟨1, fun q => (by exfalso; have := of_decide_eq_true q; omega), fun _ => by simpa [Jq] using h⟩
 | c :: w, i, b, hd, h0, hbb, h => by
  obtain ⟨hl, hc, hn, hv⟩ := jm h0 hd
  rw [List.length_cons] at hbb
  have nofin : decide (i < (s.length : Int)) = false → False := fun q => by have := of_decide_eq_false q; omega
  by_cases c1 : (c.toNat : Int) = 0
  ·have e : Jq (c :: w) = [239, 191, 189] ++ Jq w := by rw [Jq, if_pos c1]
   rw [e, ← List.append_assoc] at h
   obtain ⟨m, hm⟩ := Jes s hs Ke w (i + 1) _ hn (by omega) (by rw [List.length_append]; simp only [List.length_cons, List.length_nil]; omega) h
   refine ⟨m + 1, fun _ => ⟨⟨h0, hl⟩, fun _ => ⟨by simp only [List.length_cons, List.length_nil]; omega, JB (by omega), hm⟩, fun q => ?_⟩, fun q => (nofin q).elim⟩
   exact absurd (by rw [hc]; exact c1) (of_decide_eq_false q)
  ·have n1 : ¬ decide (((s.getD i.toNat 0).toNat : Int) = 0) = true := fun q => c1 (by rw [← hc]; exact of_decide_eq_true q)
   by_cases c2 : (c.toNat : Int) = 12
   ·have e : Jq (c :: w) = [10] ++ Jq w := by rw [Jq, if_neg c1, if_pos c2]; rfl
    rw [e, ← List.append_assoc] at h
    obtain ⟨m, hm⟩ := Jes s hs Ke w (i + 1) _ hn (by omega) (by rw [List.length_append]; simp only [List.length_cons, List.length_nil]; omega) h
    refine ⟨m + 1, fun _ => ⟨⟨h0, hl⟩, fun q => absurd q n1, fun _ => ⟨fun _ => ⟨by decide, by simp only [List.length_cons, List.length_nil]; omega, JB (by omega), hm⟩, fun q => ?_⟩⟩, fun q => (nofin q).elim⟩
    exact absurd (by rw [hc]; exact c2) (of_decide_eq_false q)
   ·have n2 : ¬ decide (((s.getD i.toNat 0).toNat : Int) = 12) = true := fun q => c2 (by rw [← hc]; exact of_decide_eq_true q)
    by_cases c3 : (c.toNat : Int) = 13
    ·have n3 : ¬ decide (((s.getD i.toNat 0).toNat : Int) = 13) = false := fun q => (of_decide_eq_false q) (by rw [hc]; exact c3)
     by_cases c4 : hb w = 10
     ·have e : Jq (c :: w) = Jq w := by rw [Jq, if_neg c1, if_neg c2, if_pos c3, if_pos c4]
      rw [e] at h
      obtain ⟨m, hm⟩ := Jes s hs Ke w (i + 1) _ hn (by omega) (by omega) h
      refine ⟨m + 1, fun _ => ⟨⟨h0, hl⟩, fun q => absurd q n1, fun _ => ⟨fun q => absurd q n2, fun _ => ⟨fun _ => ⟨JB (by omega), ⟨by omega, by omega⟩, fun q => ?_, fun _ => ⟨JB (by omega), hm⟩⟩, fun q => absurd q n3⟩⟩⟩, fun q => (nofin q).elim⟩
      rw [hn, decide_eq_true c4] at q; exact absurd q (by decide)
     ·have e : Jq (c :: w) = [10] ++ Jq w := by rw [Jq, if_neg c1, if_neg c2, if_pos c3, if_neg c4]; rfl
      rw [e, ← List.append_assoc] at h
      obtain ⟨m, hm⟩ := Jes s hs Ke w (i + 1) _ hn (by omega) (by rw [List.length_append]; simp only [List.length_cons, List.length_nil]; omega) h
      refine ⟨m + 1, fun _ => ⟨⟨h0, hl⟩, fun q => absurd q n1, fun _ => ⟨fun q => absurd q n2, fun _ => ⟨fun _ => ⟨JB (by omega), ⟨by omega, by omega⟩, fun _ => ⟨by decide, by simp only [List.length_cons, List.length_nil]; omega, JB (by omega), hm⟩, fun q => ?_⟩, fun q => absurd q n3⟩⟩⟩, fun q => (nofin q).elim⟩
      rw [hn, decide_eq_false c4] at q; exact absurd q (by decide)
    ·have n3 : ¬ decide (((s.getD i.toNat 0).toNat : Int) = 13) = true := fun q => c3 (by rw [← hc]; exact of_decide_eq_true q)
     have e : Jq (c :: w) = [c] ++ Jq w := by rw [Jq, if_neg c1, if_neg c2, if_neg c3]; rfl
     rw [e, ← List.append_assoc] at h
     obtain ⟨m, hm⟩ := Jes s hs Ke w (i + 1) _ hn (by omega) (by rw [List.length_append]; simp only [List.length_cons, List.length_nil]; omega) h
     refine ⟨m + 1, fun _ => ⟨⟨h0, hl⟩, fun q => absurd q n1, fun _ => ⟨fun q => absurd q n2, fun _ => ⟨fun q => absurd q n3, fun _ => ⟨⟨h0, hl⟩, ?_⟩⟩⟩⟩, fun q => (nofin q).elim⟩
     rw [hc, zfa]
     exact ⟨jdB c, by simp only [List.length_cons, List.length_nil]; omega, JB (by omega), hm⟩
def jcA : T_i_Clean := fun s K => (4000 < s.length → K [] 28) ∧ (s.length ≤ 4000 → K (Jq s) 0)
theorem jf2 (s K) (h : jcA s K) : Zcn Zga s K := by
 refine ⟨fun q => h.1 (by have := of_decide_eq_true q; omega), fun q => ?_⟩
 have q := of_decide_eq_false q
 refine ⟨⟨by omega, by omega, by omega, by omega⟩, by decide, ?_⟩
 exact Jes s (by omega) _ s 0 [] rfl (by omega) (by simp only [List.length_nil]; omega) (h.2 (by omega))
theorem ZbR : ∀ s : List UInt8, (Jq s).length ≤ 3 * s.length
 | [] => Nat.le_refl _
 | c :: w => by
  have := ZbR w
  rw [Jq, List.length_cons]
  split
  ·rw [List.length_append]; simp only [List.length_cons, List.length_nil]; omega
  ·split
   ·rw [List.length_cons]; omega
   ·split
    ·split
     ·omega
     ·rw [List.length_cons]; omega
    ·rw [List.length_cons]; omega
def JgK (t : Tok × Nat × Nat) : Tok := t.1
theorem zgL {s w : List UInt8} {p : Nat} (h : s.drop p = w) (n : Nat) : s.drop (p + n) = w.drop n := by rw [← h, List.drop_drop]
theorem ZgU (s : List UInt8) (hs : s.length ≤ 100000) (Ke : List Tok → Prop) (Kr : Int → List Tok → Prop) : ∀ (f : Nat) (w : List UInt8) (p : Nat) (x7 : Int) (b : List Tok), w.length ≤ f → s.drop p = w → p ≤ s.length → x7 = b.length → b.length ≤ 1500 → (b.length + (JfO f w p).length ≤ 1500 → Ke (b ++ (JfO f w p).map JgK)) → (1500 < b.length + (JfO f w p).length → ∀ b', Kr 4 b') → ∃ m, JH jcA ze4 zcA m s x7 (p : Int) b Ke Kr
 | f, [], p, x7, b, hf, hd, hp, hx, hb, k1, k2 => by
  have hd' : s.drop (p : Int).toNat = [] := hd
  have hl := zx hd'
  have e : JfO f [] p = [] := by cases f <;> rfl
  rw [e] at k1
  exact ⟨1, fun q => (by exfalso; have := of_decide_eq_true q; omega), fun _ => by simpa using k1 (by simpa using hb)⟩
 | 0, c :: w, p, x7, b, hf, hd, hp, hx, hb, k1, k2 => by simp at hf
 | f + 1, c :: w, p, x7, b, hf, hd, hp, hx, hb, k1, k2 => by
  have hd' : s.drop (p : Int).toNat = c :: w := hd
  obtain ⟨hl, hc, hn, hv⟩ := jm (by omega) hd'
  have nofin : decide ((p : Int) < (s.length : Int)) = false → False := fun q => by have := of_decide_eq_false q; omega
  rw [JfO] at k1 k2
  have ht := Jfu (w := c :: w) (by simp)
  have hk := zec ((c :: w).drop (zbZ (c :: w)).2)
  rw [List.length_drop] at hk
  rw [List.length_cons] at ht hk hf
  rw [List.length_cons] at k1 k2
  by_cases q : b.length = 1500
  ·have kr := k2 (by omega) b
   refine ⟨1, fun _ => ⟨fun _ => kr, fun p2 => (by exfalso; have := of_decide_eq_false p2; omega)⟩, fun q => (nofin q).elim⟩
  ·have e1 : s.drop ((p : Int) + ((zbZ (c :: w)).2 : Int)).toNat = (c :: w).drop (zbZ (c :: w)).2 := by rw [zaD (by omega), hd']
   obtain ⟨m, hm⟩ := ZgU s hs Ke Kr f ((c :: w).drop ((zbZ (c :: w)).2 + JcB ((c :: w).drop (zbZ (c :: w)).2))) (p + (zbZ (c :: w)).2 + JcB ((c :: w).drop (zbZ (c :: w)).2)) (x7 + 1) (b ++ [JgK ((zbZ (c :: w)).1, p, p + (zbZ (c :: w)).2)]) (by rw [List.length_drop, List.length_cons]; omega) (by rw [Nat.add_assoc]; exact zgL hd _) (by omega) (by rw [List.length_append, List.length_singleton]; omega) (by rw [List.length_append, List.length_singleton]; omega) (fun h => by
     rw [List.append_assoc]
     exact k1 (by rw [List.length_append, List.length_singleton] at h; omega)) (fun h => k2 (by rw [List.length_append, List.length_singleton] at h; omega))
   refine ⟨m + 1, fun _ => ⟨fun p2 => (by exfalso; have := of_decide_eq_true p2; omega), fun _ => ⟨⟨by omega, hl, by omega⟩, ?_⟩⟩, fun q => (nofin q).elim⟩
   rw [hd']
   refine ⟨by simp only [List.length_singleton]; omega, JB (by omega), ⟨by omega, by omega, by omega⟩, ?_⟩
   rw [e1]
   have e2 : (p : Int) + ((zbZ (c :: w)).2 : Int) + (JcB ((c :: w).drop (zbZ (c :: w)).2) : Int) = ((p + (zbZ (c :: w)).2 + JcB ((c :: w).drop (zbZ (c :: w)).2) : Nat) : Int) := by omega
   rw [e2]
   exact hm
def jca : T_TokensA := fun s K => (4000 < s.length → K [] 28) ∧ (s.length ≤ 4000 → (Jgg (Jq s)).length ≤ 1500 → K ((Jgg (Jq s)).map JgK) 0) ∧ (s.length ≤ 4000 → 1500 < (Jgg (Jq s)).length → K [] 4)
theorem zfv (s K) (h : jca s K) : Zct jcA ze4 zcA s K := by
 obtain ⟨h1, h2, h3⟩ := h
 refine ⟨fun q => ⟨fun _ => ⟨fun _ => h1 q, fun p => absurd p (by decide)⟩, fun p => absurd p (by decide)⟩, fun q => ⟨fun p => absurd p (by decide), fun _ => ⟨⟨by omega, by omega, by have := ZbR s; omega⟩, ?_⟩⟩⟩
 have hc := ZbR s
 have hk := zec (Jq s)
 have e0 : (0 : Int) + (JcB ((Jq s).drop (0 : Int).toNat) : Int) = ((JcB (Jq s) : Nat) : Int) := by
  show (0 : Int) + (JcB ((Jq s).drop 0) : Int) = _
  rw [List.drop_zero, Int.zero_add]
 rw [e0]
 refine ZgU (Jq s) (by omega) _ _ (Jq s).length ((Jq s).drop (JcB (Jq s))) (JcB (Jq s)) 0 [] (by rw [List.length_drop]; omega) rfl hk rfl (by simp) (fun hL => ⟨fun p => absurd p (by decide), fun _ => ?_⟩) (fun hL b' => ⟨fun _ => h3 q ?_, fun p => absurd p (by decide)⟩)
 ·rw [List.length_nil, Nat.zero_add] at hL
  exact h2 q hL
 ·rw [List.length_nil, Nat.zero_add] at hL
  exact hL
end Go.Proofs.YtkokbidbmidlbaaGreatDoor
