/-
 A model of the tokenizer: plain functions on the rest of a text. Nothing is claimed here.
-/
import Derived.Test.YtbpbaicbaehhjaaGreatDoorTa
import Derived.Test.YtbpbaicbaehhjaaGreatDoorTh
import Derived.Lib.Index
namespace Go.Proofs.YtbpbaicbaehhjaaGreatDoor
open Go.Vm Go.Sx Go.RowKit
def mD (c : Int) : Bool := decide (48 ≤ c) && decide (c ≤ 57)
def mL (c : Int) : Bool := (decide (97 ≤ c) && decide (c ≤ 122)) || (decide (65 ≤ c) && decide (c ≤ 90))
def mSp (c : Int) : Bool := decide (c = 10) || (decide (c = 9) || decide (c = 32))
def mQ (c : Int) : Bool := decide (c = 34) || decide (c = 39)
def mN0 (c : Int) : Bool := mL c || (decide (c = 95) || decide (128 ≤ c))
def mN (c : Int) : Bool := mN0 c || (mD c || decide (c = 45))
def mSg (c : Int) : Bool := decide (c = 43) || decide (c = 45)
def mE (c : Int) : Bool := decide (c = 101) || decide (c = 69)
def hb : List UInt8 → Int
 | [] => 0
 | c :: _ => (c.toNat : Int)
@[simp] theorem jg9 : hb [] = 0 := rfl
@[simp] theorem Jf (c : UInt8) (w : List UInt8) : hb (c :: w) = (c.toNat : Int) := rfl
def zbL (w : List UInt8) : Bool := decide (hb w = 92) && decide (hb w.tail ≠ 10)
def ZK (w : List UInt8) : Bool := if hb w ≠ 45 then mN0 (hb w) || zbL w else mN0 (hb w.tail) || (decide (hb w.tail = 45) || zbL w.tail)
def j4 (w : List UInt8) : Bool := mN (hb w) || zbL w
def jar (w : List UInt8) : Bool := decide (hb w = 46) && mD (hb w.tail)
def Zbm (w : List UInt8) : Bool := if mSg (hb w) then mD (hb w.tail) || jar w.tail else mD (hb w) || jar w
def Zg9 (w : List UInt8) : Bool := if mSg (hb w) then mD (hb w.tail) else mD (hb w)
def nSp : List UInt8 → Nat
 | [] => 0
 | c :: w => if mSp (c.toNat : Int) then nSp w + 1 else 0
def Jb2 (c : Int) : Int × Bool := if mD c then (c - 48, true) else if 97 ≤ c ∧ c ≤ 102 then (c - 87, true) else if 65 ≤ c ∧ c ≤ 70 then (c - 55, true) else (0, false)
def Js : Nat → List UInt8 → Int → Int × Nat
 | 0, _, a => (a, 0)
 | k + 1, w, a => if (Jb2 (hb w)).2 then ((Js k w.tail (a * 16 + (Jb2 (hb w)).1)).1, (Js k w.tail (a * 16 + (Jb2 (hb w)).1)).2 + 1) else (a, 0)
abbrev b8 (n : Int) : UInt8 := UInt8.ofNat n.toNat
def zdH (c : Int) : List UInt8 :=
 if c ≤ 127 then [b8 c]
 else if c ≤ 2047 then [b8 (192 + c / 64), b8 (128 + c % 64)]
 else if 55296 ≤ c ∧ c ≤ 57343 ∨ 1114111 < c then [b8 239, b8 191, b8 189]
 else if c ≤ 65535 then [b8 (224 + c / 4096), b8 (128 + c / 64 % 64), b8 (128 + c % 64)]
 else [b8 (240 + c / 262144), b8 (128 + c / 4096 % 64), b8 (128 + c / 64 % 64), b8 (128 + c % 64)]
def JfF (c : UInt8) (w : List UInt8) : List UInt8 × Nat :=
 if (Jb2 (c.toNat : Int)).2 then
  (zdH (if (Js 6 (c :: w) 0).1 = 0 then 65533 else (Js 6 (c :: w) 0).1), (Js 6 (c :: w) 0).2 + (if mSp (hb ((c :: w).drop (Js 6 (c :: w) 0).2)) then 1 else 0))
 else ([c], 1)
def z8 : List UInt8 → List UInt8 × Nat
 | [] => (zdH 65533, 0)
 | c :: w => JfF c w
def Jn : List UInt8 → List UInt8 × Nat
 | [] => ([], 0)
 | c :: w =>
  if j4 (c :: w) then
   if (c.toNat : Int) = 92 then
    ((z8 w).1 ++ (Jn (w.drop (z8 w).2)).1, 1 + (z8 w).2 + (Jn (w.drop (z8 w).2)).2)
   else (c :: (Jn w).1, 1 + (Jn w).2)
  else ([], 0)
termination_by w => w.length
decreasing_by all_goals (simp only [List.length_drop, List.length_cons]; omega)
def strM (q : Int) : List UInt8 → Bool × List UInt8 × Nat
 | [] => (true, [], 0)
 | c :: w =>
  if (c.toNat : Int) = q then (true, [], 1)
  else if (c.toNat : Int) = 10 then (false, [], 0)
  else if (c.toNat : Int) ≠ 92 then ((strM q w).1, c :: (strM q w).2.1, 1 + (strM q w).2.2)
  else match w with
   | [] => (true, [], 1)
   | d :: v => if (d.toNat : Int) = 10 then ((strM q v).1, (strM q v).2.1, 2 + (strM q v).2.2)
    else ((strM q ((d :: v).drop (z8 (d :: v)).2)).1, (z8 (d :: v)).1 ++ (strM q ((d :: v).drop (z8 (d :: v)).2)).2.1, 1 + (z8 (d :: v)).2 + (strM q ((d :: v).drop (z8 (d :: v)).2)).2.2)
termination_by w => w.length
decreasing_by all_goals (simp only [List.length_drop, List.length_cons]; omega)
def Jeb : List UInt8 → Nat
 | [] => 0
 | c :: w =>
  if (c.toNat : Int) = 41 then 1
  else if zbL (c :: w) then 1 + (z8 w).2 + Jeb (w.drop (z8 w).2)
  else 1 + Jeb w
termination_by w => w.length
decreasing_by all_goals (simp only [List.length_drop, List.length_cons]; omega)
def zdk (c : Int) : Bool := decide (c = 34) || decide (c = 39) || decide (c = 40) || decide (c = 92) || decide (c = 11) || decide (c = 127) || decide (c ≤ 8) || (decide (14 ≤ c) && decide (c ≤ 31))
def jbL : List UInt8 → List UInt8 × Nat
 | [] => ([], 0)
 | c :: w =>
  if (c.toNat : Int) = 41 then ([], 0)
  else if mSp (c.toNat : Int) then ([], nSp (c :: w))
  else if zbL (c :: w) then ((z8 w).1 ++ (jbL (w.drop (z8 w).2)).1, 1 + (z8 w).2 + (jbL (w.drop (z8 w).2)).2)
  else if zdk (c.toNat : Int) then ([], 0)
  else (c :: (jbL w).1, 1 + (jbL w).2)
termination_by w => w.length
decreasing_by all_goals (simp only [List.length_drop, List.length_cons]; omega)
def tk (k : Int) (t : List UInt8 := []) (n : Int := 0) (u : List UInt8 := []) (f : Bool := false) : Tok := ⟨k, t, n, u, f⟩
def ZX (w : List UInt8) : Tok × Nat :=
 let a := nSp w
 let u := jbL (w.drop a)
 let v := w.drop (a + u.2)
 if v = [] then (tk 7 u.1, a + u.2) else if hb v = 41 then (tk 7 u.1, a + u.2 + 1) else (tk 8, a + u.2 + Jeb v)
def low (c : Int) : Int := if 65 ≤ c ∧ c ≤ 90 then c + 32 else c
def zad : List UInt8 → List UInt8 → Bool
 | [], [] => true
 | a :: x, b :: y => decide (low (a.toNat : Int) = low (b.toNat : Int)) && zad x y
 | _, _ => false
def jaV (w : List UInt8) : Tok × Nat :=
 let r := Jn w
 let v := w.drop r.2
 if hb v ≠ 40 then (tk 1 r.1, r.2)
 else if zad r.1 [117, 114, 108] && !mQ (hb (v.tail.drop (nSp v.tail))) then ((ZX v.tail).1, r.2 + 1 + (ZX v.tail).2)
 else (tk 2 r.1, r.2 + 1)
def JI (w : List UInt8) : List UInt8 := w.takeWhile fun c => mD (c.toNat : Int)
def Zbz (a : Int) (c : UInt8) : Int := min (10 * a + ((c.toNat : Int) - 48)) 8000
def Jbm (w : List UInt8) : Int := w.foldl Zbz 0
def Zy (w : List UInt8) : List UInt8 := w.dropWhile fun c => c == 48
def zaD : Nat → List UInt8 → Int → Int
 | 0, _, a => a
 | k + 1, [], a => zaD k [] (a * 10)
 | k + 1, c :: w, a => zaD k w (a * 10 + ((c.toNat : Int) - 48))
def jdH (w : List UInt8) (p : Int) : Int :=
 let v := Zy w
 let q := p - ((w.length : Int) - (v.length : Int))
 if v = [] ∨ q ≤ 0 then 0 else if 13 < q then 1000000000000 else min (zaD q.toNat v 0) 1000000000000
def Ja9 (w : List UInt8) : Int × Nat :=
 if mE (hb w) && Zg9 w.tail then
  let v := if mSg (hb w.tail) then w.tail.tail else w.tail
  (if hb w.tail = 45 then 0 - Jbm (JI v) else Jbm (JI v), (if mSg (hb w.tail) then 2 else 1) + (JI v).length)
 else (0, 0)
def zai (w : List UInt8) : Nat := if mSg (hb w) then 1 else 0
def j8 (w : List UInt8) : List UInt8 := JI (w.drop (zai w))
def Zo (w : List UInt8) : Nat := zai w + (j8 w).length
def ZaE (w : List UInt8) : List UInt8 := if jar (w.drop (Zo w)) then JI (w.drop (Zo w)).tail else []
def Jg (w : List UInt8) : Nat := Zo w + (if jar (w.drop (Zo w)) then 1 + (ZaE w).length else 0)
def JX (w : List UInt8) : Nat := Jg w + (Ja9 (w.drop (Jg w))).2
def zb1 (w : List UInt8) : Int × Bool × Nat :=
 let n := jdH (j8 w ++ ZaE w) ((j8 w).length + (Ja9 (w.drop (Jg w))).1 + 3)
 (if hb w = 45 then 0 - n else n, !(jar (w.drop (Zo w))) && decide ((Ja9 (w.drop (Jg w))).2 = 0), JX w)
def zQ (w : List UInt8) : Tok × Nat :=
 let r := zb1 w
 let v := w.drop r.2.2
 if ZK v then (tk 12 [] r.1 (Jn v).1 r.2.1, r.2.2 + (Jn v).2)
 else if hb v = 37 then (tk 11 [] r.1, r.2.2 + 1)
 else (tk 10 [] r.1 [] r.2.1, r.2.2)
def marksA : List Int := [0, 0, 0, 0, 0, 0, 0, 0, 0, 0, 0, 0, 0, 0, 0, 0, 0, 0, 0, 0, 0, 0, 0, 0, 0, 0, 0, 0, 0, 0, 0, 0, 0, 0, 0, 0, 0, 0, 0, 0, 21, 22, 0, 0, 18, 0, 0, 0, 0, 0, 0, 0, 0, 0, 0, 0, 0, 0, 16, 17, 0, 0, 0, 0, 0, 0, 0, 0, 0, 0, 0, 0, 0, 0, 0, 0, 0, 0, 0, 0, 0, 0, 0, 0, 0, 0, 0, 0, 0, 0, 0, 19, 0, 20, 0, 0, 0, 0, 0, 0, 0, 0, 0, 0, 0, 0, 0, 0, 0, 0, 0, 0, 0, 0, 0, 0, 0, 0, 0, 0, 0, 0, 0, 23, 0, 24]
def jcY (c : Int) : Int := if c < 126 then marksA.getD c.toNat 0 else 0
def Jga (w : List UInt8) : Tok × Nat :=
 if ZK w then jaV w
 else if jcY (hb w) ≠ 0 then (tk (jcY (hb w)), 1)
 else (tk 9 (w.take 1), 1)
def JfV (w : List UInt8) : Tok × Nat :=
 if hb w = 64 ∧ ZK w.tail = true then (tk 3 (Jn w.tail).1, 1 + (Jn w.tail).2) else Jga w
def Je9 (w : List UInt8) : Tok × Nat :=
 if Zbm w then zQ w
 else if [45, 45, 62].isPrefixOf w then (tk 15, 3)
 else if [60, 33, 45, 45].isPrefixOf w then (tk 14, 4)
 else JfV w
def ZN (w : List UInt8) : Tok × Nat :=
 if mSp (hb w) then (tk 13, nSp w)
 else if mQ (hb w) then (if (strM (hb w) w.tail).1 then tk 5 (strM (hb w) w.tail).2.1 else tk 6, 1 + (strM (hb w) w.tail).2.2)
 else if hb w = 35 ∧ j4 w.tail = true then (tk 4 (Jn w.tail).1 0 [] (ZK w.tail), 1 + (Jn w.tail).2)
 else Je9 w
def ZdH : List UInt8 → Option Nat
 | [] => none
 | c :: w => if c = 42 ∧ hb w = 47 then some 0 else (ZdH w).map (· + 1)
def zav (w : List UInt8) : Nat :=
 if [47, 42].isPrefixOf w then
  match ZdH (w.drop 2) with
  | none => w.length
  | some k => if w = [] then 0 else 2 + (k + 2) + zav (w.drop (2 + (k + 2)))
 else 0
termination_by w.length
decreasing_by
 cases w with
 | nil => contradiction
 | cons c w => simp only [List.length_drop, List.length_cons]; omega
def jx : List UInt8 → List UInt8
 | [] => []
 | c :: w =>
  if (c.toNat : Int) = 0 then [239, 191, 189] ++ jx w
  else if (c.toNat : Int) = 12 then 10 :: jx w
  else if (c.toNat : Int) = 13 then (if hb w = 10 then jx w else 10 :: jx w)
  else c :: jx w
def zgb : Nat → List UInt8 → Nat → List (Tok × Nat × Nat)
 | 0, _, _ => []
 | _ + 1, [], _ => []
 | f + 1, c :: w, p => ((ZN (c :: w)).1, p, p + (ZN (c :: w)).2) :: zgb f ((c :: w).drop ((ZN (c :: w)).2 + zav ((c :: w).drop (ZN (c :: w)).2))) (p + (ZN (c :: w)).2 + zav ((c :: w).drop (ZN (c :: w)).2))
def JgY (c : List UInt8) : List (Tok × Nat × Nat) := zgb c.length (c.drop (zav c)) (zav c)
end Go.Proofs.YtbpbaicbaehhjaaGreatDoor
namespace Go.Proofs.YtbpbaicbaehhjaaGreatDoor
open Go.Vm Go.Sx Go.RowKit
abbrev okP (s : List UInt8) (i : Int) : Prop := 0 ≤ i ∧ i ≤ 2000000 ∧ s.length ≤ 1000000
theorem zY {n : Int} (h : -100000000 ≤ n ∧ n ≤ 100000000) : I64 n := by unfold I64; omega
theorem zfG (s : List UInt8) (n : Nat) : hb (s.drop n) = ((s.getD n 0).toNat : Int) := by
 rw [List.getD_eq_getElem?_getD]
 by_cases h : n < s.length
 ·rw [List.drop_eq_getElem_cons h, Jf, List.getElem?_eq_getElem h, Option.getD_some]
 ·rw [List.drop_of_length_le (by omega), jg9, List.getElem?_eq_none (by omega)]
  rfl
theorem Zar {s : List UInt8} {i : Int} (h : 0 ≤ i) : s.drop (i + 1).toNat = (s.drop i.toNat).tail := by
 have : (i + 1).toNat = i.toNat + 1 := by omega
 rw [this, List.tail_drop]
theorem Za9 {s : List UInt8} {i : Int} (h : 0 ≤ i) (n : Nat) : s.drop (i + (n : Int)).toNat = (s.drop i.toNat).drop n := by
 have : (i + (n : Int)).toNat = i.toNat + n := by omega
 rw [this, List.drop_drop]
theorem jgb (w : List UInt8) : 0 ≤ hb w ∧ hb w ≤ 255 := by
 cases w with
 | nil => decide
 | cons c w => have := c.toNat_lt; rw [Jf]; omega
theorem Jw {s w : List UInt8} {c : UInt8} {i : Int} (h0 : 0 ≤ i) (h : s.drop i.toNat = c :: w) : i < (s.length : Int) ∧ s.getD i.toNat 0 = c ∧ s.drop (i + 1).toNat = w ∧ (w.length : Int) = s.length - i - 1 := by
 have hl : i.toNat < s.length := by
  by_cases q : i.toNat < s.length
  ·exact q
  ·rw [List.drop_of_length_le (by omega)] at h; cases h
 have e := List.drop_eq_getElem_cons hl
 rw [h] at e
 obtain ⟨e1, e2⟩ := List.cons.inj e
 have e3 := congrArg List.length e2
 rw [List.length_drop] at e3
 refine ⟨by omega, ?_, ?_, by omega⟩
 ·rw [List.getD_eq_getElem?_getD, List.getElem?_eq_getElem hl, Option.getD_some, e1]
 ·rw [Zar h0, h]; rfl
theorem jQ {s : List UInt8} {i : Int} (h : s.drop i.toNat = []) : s.length ≤ i.toNat := by
 have := congrArg List.length h
 rw [List.length_drop, List.length_nil] at this
 omega
theorem zgZ (c : UInt8) : UInt8.ofNat ((c.toNat : Int).toNat) = c := by
 rw [Int.toNat_natCast]
 exact UInt8.ofNat_toNat
theorem jfG (c : UInt8) : 0 ≤ (c.toNat : Int) ∧ (c.toNat : Int) ≤ 255 := by have := c.toNat_lt; omega
def Zh : Za := fun s i K => 0 ≤ i ∧ K (hb (s.drop i.toNat))
theorem Zgb (s i K) (h : Zh s i K) : Jbr s i K := by
 obtain ⟨h0, h⟩ := h
 unfold Jbr
 refine ⟨fun q => ⟨⟨h0, of_decide_eq_true q⟩, ?_⟩, fun q => ?_⟩
 ·rwa [zfG] at h
 ·have q := of_decide_eq_false q
  rwa [List.drop_of_length_le (by omega)] at h
def Jar : jb := fun c K => K (mD c)
theorem jhv (c K) (h : Jar c K) : zaY c K := by
 unfold zaY
 unfold Jar mD at h
 refine ⟨fun q => ?_, fun q => ?_⟩ <;> rw [q] at h <;> exact h
def zae : zp := fun c K => K (mSg c)
theorem Jgb (c K) (h : zae c K) : zbs c K := by
 unfold zbs
 unfold zae mSg at h
 refine ⟨fun q => ?_, fun q => ?_⟩ <;> rw [q] at h <;> exact h
def zch : Zs := fun c K => K (mE c)
theorem JgI (c K) (h : zch c K) : Z1 c K := by
 unfold Z1
 unfold zch mE at h
 refine ⟨fun q => ?_, fun q => ?_⟩ <;> rw [q] at h <;> exact h
def zfa : zU := fun c K => K (mL c)
theorem Zhv (c K) (h : zfa c K) : zaG c K := by
 unfold zaG
 unfold zfa mL at h
 refine ⟨fun q => ⟨fun q2 => ⟨fun q3 => ?_, fun q3 => ?_⟩, fun q2 => ?_⟩, fun q => ⟨fun q3 => ?_, fun q3 => ?_⟩⟩ <;> simpa only [*, Bool.true_and, Bool.false_and, Bool.true_or, Bool.false_or, Bool.and_true, Bool.and_false, Bool.or_false, Bool.or_true] using h
def Jay : Jm := fun c K => K (mN0 c)
theorem zgc (c K) (h : Jay c K) : zap zfa c K := by
 unfold zap zfa
 unfold Jay mN0 at h
 refine ⟨fun q => ⟨fun q2 => ?_, fun q2 => ?_⟩, fun q => ?_⟩ <;> simpa only [*, Bool.true_or, Bool.false_or] using h
def jfa : jU := fun c K => K (mN c)
theorem Jhv (c K) (h : jfa c K) : jaG Jay Jar c K := by
 unfold jaG Jay Jar
 unfold jfa mN at h
 refine ⟨fun q => ⟨fun q2 => ?_, fun q2 => ?_⟩, fun q => ?_⟩ <;> simpa only [*, Bool.true_or, Bool.false_or] using h
def zas : Ja := fun c K => K (mSp c)
theorem Jg9 (c K) (h : zas c K) : Za0 c K := by
 unfold Za0
 unfold zas mSp at h
 refine ⟨fun q => ⟨fun q2 => ?_, fun q2 => ?_⟩, fun q => ?_⟩ <;> simpa only [*, Bool.true_or, Bool.false_or] using h
def JeB : zC := fun c K => K (mQ c)
theorem zhw (c K) (h : JeB c K) : Ja0 c K := by
 unfold Ja0
 unfold JeB mQ at h
 refine ⟨fun q => ?_, fun q => ?_⟩ <;> simpa only [*, Bool.true_or, Bool.false_or] using h
def ZcY : Zam := fun s i K => okP s i ∧ K (jar (s.drop i.toNat))
theorem zha (s i K) (h : ZcY s i K) : zdw Zh Jar s i K := by
 obtain ⟨⟨h0, h1, h2⟩, h⟩ := h
 unfold jar at h
 unfold zdw Zh Jar
 rw [Zar h0]
 refine ⟨h0, fun q => ⟨zY (by omega), by omega, ?_⟩, fun q => ?_⟩ <;> simpa only [q, Bool.true_and, Bool.false_and] using h
def jb1 : jm := fun s i K => okP s i ∧ K (zbL (s.drop i.toNat))
theorem jhw (s i K) (h : jb1 s i K) : Jdx Zh s i K := by
 obtain ⟨⟨h0, h1, h2⟩, h⟩ := h
 unfold zbL at h
 unfold Jdx Zh
 rw [Zar h0]
 refine ⟨h0, fun q => ⟨zY (by omega), by omega, ?_⟩, fun q => ?_⟩ <;> simpa only [q, Bool.true_and, Bool.false_and] using h
def zec : Jbd := fun s i K => (okP s i ∧ i < 2000000) ∧ K (Zbm (s.drop i.toNat))
theorem jha (s i K) (h : zec s i K) : jdw Zh zae Jar ZcY s i K := by
 obtain ⟨⟨⟨h0, h1, h2⟩, h3⟩, h⟩ := h
 unfold Zbm at h
 unfold jdw Zh Jar zae ZcY
 rw [Zar h0]
 refine ⟨h0, fun q => ⟨zY (by omega), by omega, ?_⟩, fun q => ⟨h0, ?_⟩⟩
 ·simp only [q, if_true] at h
  refine ⟨fun q2 => ⟨⟨by omega, by omega, h2⟩, ?_⟩, fun q2 => ?_⟩ <;> simpa only [q2, Bool.true_or, Bool.false_or] using h
 ·simp only [q, Bool.false_eq_true, if_false] at h
  refine ⟨fun q2 => ⟨⟨by omega, by omega, h2⟩, ?_⟩, fun q2 => ?_⟩ <;> simpa only [q2, Bool.true_or, Bool.false_or] using h
def jec : ZD := fun s i K => okP s i ∧ K (Zg9 (s.drop i.toNat))
theorem Zha (s i K) (h : jec s i K) : zak Zh zae Jar s i K := by
 obtain ⟨⟨h0, h1, h2⟩, h⟩ := h
 unfold Zg9 at h
 unfold zak Zh Jar zae
 rw [Zar h0]
 refine ⟨h0, fun q => ⟨zY (by omega), by omega, ?_⟩, fun q => ⟨h0, ?_⟩⟩ <;> simpa [q] using h
def jao : zn := fun s i K => (okP s i ∧ i < 2000000) ∧ K (ZK (s.drop i.toNat))
theorem zgJ (s i K) (h : jao s i K) : jap Zh Jay jb1 s i K := by
 obtain ⟨⟨⟨h0, h1, h2⟩, h3⟩, h⟩ := h
 unfold ZK at h
 unfold jap Zh Jay jb1
 rw [Zar h0]
 refine ⟨h0, fun q => ⟨h0, fun q2 => ⟨⟨h0, h1, h2⟩, ?_⟩, fun q2 => ?_⟩, fun q => ⟨zY (by omega), by omega, fun q2 => ⟨fun q3 => ⟨zY (by omega), ⟨by omega, by omega, h2⟩, ?_⟩, fun q3 => ?_⟩, fun q2 => ?_⟩⟩
 ·rw [if_pos (of_decide_eq_true q), q2] at h; exact h
 ·rw [if_pos (of_decide_eq_true q), q2] at h; exact h
 ·rw [if_neg (of_decide_eq_false q), q2, q3] at h; exact h
 ·rw [if_neg (of_decide_eq_false q), q2, q3] at h; exact h
 ·rw [if_neg (of_decide_eq_false q), q2] at h; exact h
def ZbL : jO := fun s i K => okP s i ∧ K (j4 (s.drop i.toNat))
theorem jgJ (s i K) (h : ZbL s i K) : jdy Zh jfa jb1 s i K := by
 obtain ⟨⟨h0, h1, h2⟩, h⟩ := h
 unfold j4 at h
 unfold jdy Zh jfa jb1
 refine ⟨h0, fun q => ⟨⟨h0, h1, h2⟩, ?_⟩, fun q => ?_⟩ <;> simpa only [q, Bool.true_or, Bool.false_or] using h
theorem Jha (s : List UInt8) (hs : s.length ≤ 1000000) (Ke : Int → Prop) : ∀ (w : List UInt8) (i : Int), s.drop i.toNat = w → okP s i → Ke (i + (nSp w : Int)) → ∃ m, jbt Zh zas m s i Ke
 | [], i, hd, hi, h => by
  refine ⟨1, hi.1, fun q => ?_, fun _ => ?_⟩
  ·rw [hd] at q; exact absurd q (by decide)
  ·simpa [nSp] using h
 | c :: w, i, hd, hi, h => by
  obtain ⟨hl, hc, hn, _⟩ := Jw hi.1 hd
  cases q : mSp (c.toNat : Int) with
  | false =>
   unfold nSp at h
   rw [q] at h
   refine ⟨1, hi.1, fun q2 => ?_, fun _ => ?_⟩
   ·rw [hd, Jf, q] at q2; cases q2
   ·simpa using h
  | true =>
   unfold nSp at h
   rw [q] at h
   obtain ⟨m, hm⟩ := Jha s hs Ke w (i + 1) hn ⟨by omega, by omega, hs⟩ (by
    have : i + 1 + (nSp w : Int) = i + ((nSp w + 1 : Nat) : Int) := by omega
    rw [this]
    simpa using h)
   refine ⟨m + 1, hi.1, fun _ => ⟨zY (by omega), hm⟩, fun q2 => ?_⟩
   rw [hd, Jf, q] at q2; cases q2
def jgc : JD := fun s i K => okP s i ∧ K (i + (nSp (s.drop i.toNat) : Int))
theorem zhQ (s i K) (h : jgc s i K) : zev Zh zas s i K := Jha s h.1.2.2 _ _ _ rfl h.1 h.2
end Go.Proofs.YtbpbaicbaehhjaaGreatDoor
namespace Go.Proofs.YtbpbaicbaehhjaaGreatDoor
open Go.Vm Go.Sx Go.RowKit
theorem fd6 (x : Int) : x.fdiv (2 ^ (min 6 IntKind.i32.bits)) = x / 64 := Int.fdiv_eq_ediv_of_nonneg _ (by decide)
theorem ZhH (x : Int) : x.fdiv (2 ^ (min 12 IntKind.i32.bits)) = x / 4096 := Int.fdiv_eq_ediv_of_nonneg _ (by decide)
theorem JhH (x : Int) : x.fdiv (2 ^ (min 18 IntKind.i32.bits)) = x / 262144 := Int.fdiv_eq_ediv_of_nonneg _ (by decide)
theorem zhb : ∀ y : Fin 256, IntKind.u8.wrap ((BitVec.ofInt IntKind.u8.bits (128 : Int) ||| BitVec.ofInt IntKind.u8.bits (IntKind.u8.wrap ((BitVec.ofInt IntKind.u8.bits ((y.val : Nat) : Int) &&& BitVec.ofInt IntKind.u8.bits (63 : Int)).toNat : Int))).toNat : Int) = 128 + (((y.val : Nat) : Int)) % 64 := by decide +kernel
theorem jhb (y : Int) : IntKind.u8.wrap ((BitVec.ofInt IntKind.u8.bits (128 : Int) ||| BitVec.ofInt IntKind.u8.bits (IntKind.u8.wrap ((BitVec.ofInt IntKind.u8.bits (IntKind.u8.wrap y) &&& BitVec.ofInt IntKind.u8.bits (63 : Int)).toNat : Int))).toNat : Int) = 128 + y % 64 := by
 have h := zhb ⟨(y % 256).toNat, by omega⟩
 have e : (((y % 256).toNat : Nat) : Int) = IntKind.u8.wrap y := by rw [IntKind.wrap_u8]; omega
 rw [e] at h
 rw [h, IntKind.wrap_u8]
 omega
theorem Zhb : ∀ y : Fin 32, IntKind.u8.wrap ((BitVec.ofInt IntKind.u8.bits (192 : Int) ||| BitVec.ofInt IntKind.u8.bits (IntKind.u8.wrap ((y.val : Nat) : Int))).toNat : Int) = 192 + ((y.val : Nat) : Int) := by decide +kernel
theorem Jhb : ∀ y : Fin 16, IntKind.u8.wrap ((BitVec.ofInt IntKind.u8.bits (224 : Int) ||| BitVec.ofInt IntKind.u8.bits (IntKind.u8.wrap ((y.val : Nat) : Int))).toNat : Int) = 224 + ((y.val : Nat) : Int) := by decide +kernel
theorem zhc : ∀ y : Fin 8, IntKind.u8.wrap ((BitVec.ofInt IntKind.u8.bits (240 : Int) ||| BitVec.ofInt IntKind.u8.bits (IntKind.u8.wrap ((y.val : Nat) : Int))).toNat : Int) = 240 + ((y.val : Nat) : Int) := by decide +kernel
theorem jhc {y : Int} (h0 : 0 ≤ y) (h1 : y < 32) : IntKind.u8.wrap ((BitVec.ofInt IntKind.u8.bits (192 : Int) ||| BitVec.ofInt IntKind.u8.bits (IntKind.u8.wrap y)).toNat : Int) = 192 + y := by
 have h := Zhb ⟨y.toNat, by omega⟩
 rwa [show ((y.toNat : Nat) : Int) = y by omega] at h
theorem Zgc {y : Int} (h0 : 0 ≤ y) (h1 : y < 16) : IntKind.u8.wrap ((BitVec.ofInt IntKind.u8.bits (224 : Int) ||| BitVec.ofInt IntKind.u8.bits (IntKind.u8.wrap y)).toNat : Int) = 224 + y := by
 have h := Jhb ⟨y.toNat, by omega⟩
 rwa [show ((y.toNat : Nat) : Int) = y by omega] at h
theorem Zhc {y : Int} (h0 : 0 ≤ y) (h1 : y < 8) : IntKind.u8.wrap ((BitVec.ofInt IntKind.u8.bits (240 : Int) ||| BitVec.ofInt IntKind.u8.bits (IntKind.u8.wrap y)).toNat : Int) = 240 + y := by
 have h := zhc ⟨y.toNat, by omega⟩
 rwa [show ((y.toNat : Nat) : Int) = y by omega] at h
theorem zhI {x : Int} (h0 : 0 ≤ x) (h1 : x ≤ 16777215) : IntKind.u32.wrap x = x := by rw [IntKind.wrap_u32]; omega
theorem u8w {n : Int} (h0 : 0 ≤ n) (h1 : n ≤ 255) : IntKind.u8.wrap n = n := by rw [IntKind.wrap_u8]; omega
theorem jeP (c : Int) : (zdH c).length ≤ 4 := by
 unfold zdH
 split
 ·simp
 ·split
  ·simp
  ·split
   ·simp
   ·split <;> simp
theorem jhI {c : Int} (h : c ≤ 127) : zdH c = [b8 c] := by unfold zdH; rw [if_pos h]
theorem ZhI {c : Int} (h : ¬ c ≤ 127) (h2 : c ≤ 2047) : zdH c = [b8 (192 + c / 64), b8 (128 + c % 64)] := by unfold zdH; rw [if_neg h, if_pos h2]
theorem JhI {c : Int} (h : ¬ c ≤ 127) (h2 : ¬ c ≤ 2047) (h3 : 55296 ≤ c ∧ c ≤ 57343 ∨ 1114111 < c) : zdH c = [b8 239, b8 191, b8 189] := by unfold zdH; rw [if_neg h, if_neg h2, if_pos h3]
theorem zhJ {c : Int} (h : ¬ c ≤ 127) (h2 : ¬ c ≤ 2047) (h3 : ¬ (55296 ≤ c ∧ c ≤ 57343 ∨ 1114111 < c)) (h4 : c ≤ 65535) : zdH c = [b8 (224 + c / 4096), b8 (128 + c / 64 % 64), b8 (128 + c % 64)] := by unfold zdH; rw [if_neg h, if_neg h2, if_neg h3, if_pos h4]
theorem jhJ {c : Int} (h : ¬ c ≤ 127) (h2 : ¬ c ≤ 2047) (h3 : ¬ (55296 ≤ c ∧ c ≤ 57343 ∨ 1114111 < c)) (h4 : ¬ c ≤ 65535) : zdH c = [b8 (240 + c / 262144), b8 (128 + c / 4096 % 64), b8 (128 + c / 64 % 64), b8 (128 + c % 64)] := by unfold zdH; rw [if_neg h, if_neg h2, if_neg h3, if_neg h4]
def Zec : Ze := fun c K => (0 ≤ c ∧ c ≤ 255) ∧ K (Jb2 c).1 (Jb2 c).2
theorem Zhw (c K) (h : Zec c K) : JaG Jar c K := by
 obtain ⟨⟨h0, h1⟩, h⟩ := h
 unfold JaG Jar
 unfold Jb2 at h
 have i32 : ∀ n : Int, 0 ≤ n ∧ n ≤ 1000 → I32 n := fun n h => by unfold I32; omega
 refine ⟨fun q => ?_, fun q => ?_⟩
 ·rw [if_pos q] at h
  unfold mD at q
  simp only [Bool.and_eq_true, decide_eq_true_eq] at q
  rw [u8w (by omega) (by omega)]
  exact ⟨i32 _ (by omega), h⟩
 ·rw [if_neg (by rw [q]; decide)] at h
  simp only [decide_eq_true_eq, decide_eq_false_iff_not]
  have e97 : ∀ n : Int, n - 97 + 10 = n - 87 := fun n => by omega
  have e65 : ∀ n : Int, n - 65 + 10 = n - 55 := fun n => by omega
  refine ⟨fun q1 => ⟨fun q2 => ?_, fun q2 => ⟨fun q3 => ⟨fun q4 => ?_, fun q4 => ?_⟩, fun q3 => ?_⟩⟩, fun q1 => ⟨fun q3 => ⟨fun q4 => ?_, fun q4 => ?_⟩, fun q3 => ?_⟩⟩
  ·rw [if_pos ⟨q1, q2⟩] at h
   rw [u8w (by omega) (by omega), e97]
   exact ⟨i32 _ (by omega), i32 _ (by omega), h⟩
  ·exfalso; omega
  ·rw [if_neg (by omega), if_neg (by omega)] at h; exact h
  ·exfalso; omega
  ·rw [if_neg (by omega), if_pos ⟨q3, q4⟩] at h
   rw [u8w (by omega) (by omega), e65]
   exact ⟨i32 _ (by omega), i32 _ (by omega), h⟩
  ·rw [if_neg (by omega), if_neg (by omega)] at h; exact h
  ·rw [if_neg (by omega), if_neg (by omega)] at h; exact h
theorem zeC {c : Int} (h : (Jb2 c).2 = true) : 0 ≤ (Jb2 c).1 ∧ (Jb2 c).1 ≤ 15 := by
 unfold Jb2 mD at h ⊢
 simp only [Bool.and_eq_true, decide_eq_true_eq] at h ⊢
 split
 ·simp only; omega
 ·split
  ·simp only; omega
  ·split
   ·simp only; omega
   ·rename_i h1 h2 h3; rw [if_neg h1, if_neg h2, if_neg h3] at h; cases h
theorem ZhJ {a d : Int} (h0 : 0 ≤ a) (h1 : a < 1048576) (h2 : 0 ≤ d) (h3 : d ≤ 15) : IntKind.i32.wrap ((BitVec.ofInt IntKind.i32.bits (IntKind.i32.wrap (a * 2 ^ (min 4 IntKind.i32.bits))) ||| BitVec.ofInt IntKind.i32.bits d).toNat : Int) = a * 16 + d := by
 obtain ⟨x, rfl⟩ := Int.eq_ofNat_of_zero_le h0
 obtain ⟨y, rfl⟩ := Int.eq_ofNat_of_zero_le h2
 have e1 : ((x : Int) * 2 ^ (min 4 IntKind.i32.bits)) = ((x * 16 : Nat) : Int) := by
  show (x : Int) * (2 ^ 4) = _
  omega
 have e2 : IntKind.i32.wrap ((x * 16 : Nat) : Int) = ((x * 16 : Nat) : Int) := by rw [IntKind.wrap_i32]; omega
 rw [e1, e2, BitVec.ofInt_natCast, BitVec.ofInt_natCast, BitVec.toNat_or, BitVec.toNat_ofNat, BitVec.toNat_ofNat]
 have e3 : (x * 16) % 2 ^ IntKind.i32.bits = x * 16 := Nat.mod_eq_of_lt (by show _ < 4294967296; omega)
 have e4 : y % 2 ^ IntKind.i32.bits = y := Nat.mod_eq_of_lt (by show _ < 4294967296; omega)
 rw [e3, e4]
 have e5 : x * 16 ||| y = x * 16 + y := by
  have := Nat.two_pow_add_eq_or_of_lt (i := 4) (b := y) (by omega) x
  rw [Nat.mul_comm x 16]
  exact this.symm
 rw [e5, IntKind.wrap_i32]
 omega
theorem Jgc {k n : Nat} (h : k ≤ n) : (16 : Int) ^ k ≤ 16 ^ n := by
 have := Nat.pow_le_pow_right (n := 16) (by decide) h
 exact_mod_cast this
theorem jbu : ∀ (r : Nat) (w : List UInt8) (a : Int), (Js r w a).2 ≤ w.length
 | 0, w, a => Nat.zero_le _
 | r + 1, w, a => by
  unfold Js
  split
  ·rename_i q
   cases w with
   | nil => exact absurd q (by decide)
   | cons c w => have := jbu r w (a * 16 + (Jb2 (hb (c :: w))).1); simp only [List.tail_cons, List.length_cons]; omega
  ·exact Nat.zero_le _
theorem JcY : ∀ (r : Nat) (w : List UInt8) (a : Int) (k : Nat), r + k ≤ 6 → 0 ≤ a → a < 16 ^ k → 0 ≤ (Js r w a).1 ∧ (Js r w a).1 ≤ 16777215
 | 0, w, a, k, hk, h0, h1 => by
  have : (16 : Int) ^ k ≤ 16 ^ 6 := Jgc (by omega)
  exact ⟨h0, by show a ≤ _; have : (16 : Int) ^ 6 = 16777216 := (by decide); omega⟩
 | r + 1, w, a, k, hk, h0, h1 => by
  unfold Js
  split
  ·rename_i q
   have hd := zeC q
   have e : (16 : Int) ^ (k + 1) = 16 ^ k * 16 := Int.pow_succ _ _
   exact JcY r w.tail _ (k + 1) (by omega) (by omega) (by rw [e]; omega)
  ·have : (16 : Int) ^ k ≤ 16 ^ 6 := Jgc (by omega)
   exact ⟨h0, by show a ≤ _; have : (16 : Int) ^ 6 = 16777216 := (by decide); omega⟩
theorem zaz (w : List UInt8) : (z8 w).2 ≤ w.length := by
 cases w with
 | nil => exact Nat.le_refl _
 | cons c w =>
  rw [z8, JfF]
  split
  ·have h := jbu 6 (c :: w) 0
   simp only
   split
   ·rename_i q
    cases hd : (c :: w).drop (Js 6 (c :: w) 0).2 with
    | nil => rw [hd] at q; exact absurd q (by decide)
    | cons d v =>
     have := congrArg List.length hd
     simp only [List.length_drop, List.length_cons] at this
     simp only [List.length_cons] at h ⊢
     omega
   ·omega
  ·simp
theorem Jcy (w : List UInt8) : (z8 w).1.length ≤ 4 := by
 cases w with
 | nil => show (zdH 65533).length ≤ 4; exact jeP _
 | cons c w =>
  rw [z8, JfF]
  split
  ·exact jeP _
  ·simp
def JdH : Zaw := fun x b K => (0 ≤ x ∧ x ≤ 16777215) ∧ b.length ≤ 10000000 ∧ K (b ++ zdH x)
set_option maxRecDepth 100000 in
theorem ZgJ (x b K) (h : JdH x b K) : jeO x b K := by
 obtain ⟨⟨h0, h1⟩, hb, h⟩ := h
 have k1 : x ≤ 127 → K (b ++ [b8 x]) := fun q => jhI q ▸ h
 have k2 : ¬ x ≤ 127 → x ≤ 2047 → K (b ++ [b8 (192 + x / 64), b8 (128 + x % 64)]) := fun q q2 => ZhI q q2 ▸ h
 have kX : ¬ x ≤ 127 → ¬ x ≤ 2047 → (55296 ≤ x ∧ x ≤ 57343 ∨ 1114111 < x) → K (b ++ [b8 239, b8 191, b8 189]) := fun q q2 q3 => JhI q q2 q3 ▸ h
 have k3 : ¬ x ≤ 127 → ¬ x ≤ 2047 → ¬ (55296 ≤ x ∧ x ≤ 57343 ∨ 1114111 < x) → x ≤ 65535 → K (b ++ [b8 (224 + x / 4096), b8 (128 + x / 64 % 64), b8 (128 + x % 64)]) := fun q q2 q3 q4 => zhJ q q2 q3 q4 ▸ h
 have k4 : ¬ x ≤ 127 → ¬ x ≤ 2047 → ¬ (55296 ≤ x ∧ x ≤ 57343 ∨ 1114111 < x) → ¬ x ≤ 65535 → K (b ++ [b8 (240 + x / 262144), b8 (128 + x / 4096 % 64), b8 (128 + x / 64 % 64), b8 (128 + x % 64)]) := fun q q2 q3 q4 => jhJ q q2 q3 q4 ▸ h
 clear h
 unfold jeO
 simp only [zhI h0 h1, jhb, fd6, ZhH, JhH, decide_eq_true_eq, decide_eq_false_iff_not, List.length_cons, List.length_nil]
 refine ⟨fun q => ?_, fun q => ⟨fun q2 => ?_, fun q2 => ⟨fun q3 => ?_, fun q3 => ⟨fun q4 => ⟨fun q5 => ?_, fun q5 => ⟨fun q6 => ⟨fun q7 => ?_, fun q7 => ?_⟩, fun q6 => ?_⟩⟩, fun q4 => ⟨fun q6 => ⟨fun q7 => ?_, fun q7 => ?_⟩, fun q6 => ?_⟩⟩⟩⟩⟩
 ·rw [u8w h0 (by omega)]
  exact ⟨by omega, by omega, k1 q⟩
 ·rw [jhc (by omega) (by omega)]
  exact ⟨by decide, by omega, by omega, by omega, k2 q q2⟩
 ·rw [Zgc (by omega) (by omega)]
  exact ⟨by decide, by decide, by omega, by omega, by omega, by omega, k3 q q2 (by omega) (by omega)⟩
 ·rw [Zgc (by omega) (by omega)]
  exact ⟨by decide, by decide, by omega, by omega, by omega, by omega, k3 q q2 (by omega) (by omega)⟩
 ·rw [Zhc (by omega) (by omega)]
  exact ⟨by decide, by decide, by decide, by omega, by omega, by omega, by omega, by omega, k4 q q2 (by omega) (by omega)⟩
 ·exact ⟨by decide, by decide, by decide, by omega, kX q q2 (by omega)⟩
 ·exfalso; omega
 ·exfalso; omega
 ·exact ⟨by decide, by decide, by decide, by omega, kX q q2 (by omega)⟩
 ·exact ⟨by decide, by decide, by decide, by omega, kX q q2 (by omega)⟩
set_option maxRecDepth 100000 in
theorem ZeP (s : List UInt8) (hs : s.length ≤ 1000000) (b : List UInt8) (A : Zaw) (Ke : List UInt8 → Int → Int → List UInt8 → Prop) : ∀ (r : Nat) (w : List UInt8) (i a x : Int) (k : Nat), x = k → r + k = 6 → s.drop i.toNat = w → 0 ≤ i → i + (r : Int) ≤ 1000020 → 0 ≤ a → a < 16 ^ k → Ke s (i + ((Js r w a).2 : Int)) (Js r w a).1 b → ∃ m, ZbU A Zec Zh zas m s i a x b Ke
 | 0, w, i, a, x, k, hx, hk, hd, h0, hi, ha0, ha1, h => by
  refine ⟨1, fun q => ?_, fun _ => ?_⟩
  ·exfalso; have := of_decide_eq_true q; omega
  ·simpa [Js] using h
 | r + 1, w, i, a, x, k, hx, hk, hd, h0, hi, ha0, ha1, h => by
  unfold Js at h
  cases q : (Jb2 (hb w)).2 with
  | false =>
   rw [q] at h
   refine ⟨1, fun _ => ⟨h0, jgb _, fun q2 => ?_, fun q2 => ?_⟩, fun q2 => ?_⟩
   ·simpa using h
   ·rw [hd, q] at q2; exact absurd q2 (by decide)
   ·exfalso; have := of_decide_eq_false q2; omega
  | true =>
   rw [q] at h
   simp only [if_true] at h
   have hdg := zeC q
   have e : (16 : Int) ^ (k + 1) = 16 ^ k * 16 := Int.pow_succ _ _
   have e5 : (16 : Int) ^ k ≤ 16 ^ 5 := Jgc (by omega)
   have e6 : (16 : Int) ^ 5 = 1048576 := by decide
   obtain ⟨m, hm⟩ := ZeP s hs b A Ke r w.tail (i + 1) (a * 16 + (Jb2 (hb w)).1) (x + 1) (k + 1) (by omega) (by omega) (by rw [Zar h0, hd]) (by omega) (by omega) (by omega) (by rw [e]; omega) (by
    have : i + 1 + ((Js r w.tail (a * 16 + (Jb2 (hb w)).1)).2 : Int) = i + (((Js r w.tail (a * 16 + (Jb2 (hb w)).1)).2 + 1 : Nat) : Int) := by omega
    rw [this]; exact h)
   refine ⟨m + 1, fun _ => ⟨h0, jgb _, fun q2 => ?_, fun _ => ⟨by decide, zY (by omega), zY (by omega), ?_⟩⟩, fun q2 => ?_⟩
   ·rw [hd, q] at q2; exact absurd q2 (by decide)
   ·rw [hd, ZhJ ha0 (by omega) hdg.1 hdg.2]
    exact hm
   ·exfalso; have := of_decide_eq_false q2; omega
def zbn : JO := fun s i b K => (0 ≤ i ∧ i < s.length ∧ s.length ≤ 1000000) ∧ b.length ≤ 5000000 ∧ K (i + 1 + ((z8 (s.drop (i + 1).toNat)).2 : Int)) (b ++ (z8 (s.drop (i + 1).toNat)).1)
theorem JgJ (s i b K) (h : zbn s i b K) : ZfC JdH Zec Zh zas s i b K := by
 obtain ⟨⟨h0, h1, h2⟩, hb, h⟩ := h
 refine ⟨zY (by omega), fun q => ?_, fun q => ?_⟩
 ·have q := of_decide_eq_true q
  rw [List.drop_of_length_le (by omega)] at h
  unfold z8 at h
  refine ⟨by omega, by omega, ?_⟩
  simpa using h
 ·have q := of_decide_eq_false q
  cases hd : s.drop (i + 1).toNat with
  | nil => exfalso; have := jQ hd; omega
  | cons c w =>
  obtain ⟨_, hc, _, _⟩ := Jw (by omega) hd
  rw [hd, z8, JfF] at h
  rw [hc]
  refine ⟨by omega, jfG c, fun q2 => ?_, fun q2 => ?_⟩
  ·have q3 : (Jb2 (c.toNat : Int)).2 = false := by simpa using q2
   rw [q3] at h
   rw [zgZ]
   refine ⟨by omega, jfG c, by simp only [List.length_cons, List.length_nil]; omega, zY (by omega), ?_⟩
   simpa using h
  ·have q3 : (Jb2 (c.toNat : Int)).2 = true := by simpa using q2
   rw [q3] at h
   simp only [if_true] at h
   have hl := jbu 6 (c :: w) 0
   have hin := JcY 6 (c :: w) 0 0 (by omega) (by omega) (by decide)
   have hlw := congrArg List.length hd
   rw [List.length_drop] at hlw
   refine ZeP s h2 b _ _ 6 (c :: w) (i + 1) 0 0 0 rfl rfl hd (by omega) (by omega) (by omega) (by decide) ?_
   have e : s.drop (i + 1 + ((Js 6 (c :: w) 0).2 : Int)).toNat = (c :: w).drop (Js 6 (c :: w) 0).2 := by rw [Za9 (by omega), hd]
   refine ⟨by omega, fun q4 => ⟨zY (by omega), fun q5 => ?_, fun q5 => ?_⟩, fun q4 => ⟨fun q5 => ?_, fun q5 => ?_⟩⟩
   ·rw [e] at q4
    rw [q4, if_pos (of_decide_eq_true q5), if_pos rfl] at h
    refine ⟨by omega, by omega, ?_⟩
    have e2 : i + 1 + ((Js 6 (c :: w) 0).2 : Int) + 1 = i + 1 + (((Js 6 (c :: w) 0).2 + 1 : Nat) : Int) := by omega
    rw [e2]; exact h
   ·rw [e] at q4
    rw [q4, if_neg (of_decide_eq_false q5), if_pos rfl] at h
    refine ⟨hin, by omega, ?_⟩
    have e2 : i + 1 + ((Js 6 (c :: w) 0).2 : Int) + 1 = i + 1 + (((Js 6 (c :: w) 0).2 + 1 : Nat) : Int) := by omega
    rw [e2]; exact h
   ·rw [e] at q4
    rw [q4, if_pos (of_decide_eq_true q5)] at h
    exact ⟨by omega, by omega, by simpa using h⟩
   ·rw [e] at q4
    rw [q4, if_neg (of_decide_eq_false q5)] at h
    exact ⟨hin, by omega, by simpa using h⟩
theorem zgK (s : List UInt8) (hs : s.length ≤ 1000000) (Ke : Int → List UInt8 → Prop) : ∀ (n : Nat) (w : List UInt8) (i : Int) (b : List UInt8), w.length ≤ n → s.drop i.toNat = w → okP s i → b.length + 4 * w.length ≤ 4500000 → Ke (i + ((Jn w).2 : Int)) (b ++ (Jn w).1) → ∃ m, J6 ZbL zbn m s i b Ke := by
 intro n
 induction n with
 | zero =>
  intro w i b hn hd hi hb h
  cases w with
  | cons c w => simp at hn
  | nil =>
   refine ⟨1, hi, fun q => ?_, fun _ => ?_⟩
   ·rw [hd] at q; exact absurd q (by decide)
   ·rw [Jn] at h; simpa using h
 | succ n ih =>
  intro w i b hn hd hi hb h
  cases w with
  | nil =>
   refine ⟨1, hi, fun q => ?_, fun _ => ?_⟩
   ·rw [hd] at q; exact absurd q (by decide)
   ·rw [Jn] at h; simpa using h
  | cons c w =>
  obtain ⟨hl, hc, hnx, hlen⟩ := Jw hi.1 hd
  rw [List.length_cons] at hn hb
  rw [Jn] at h
  cases q : j4 (c :: w) with
  | false =>
   rw [q] at h
   refine ⟨1, hi, fun q2 => ?_, fun _ => ?_⟩
   ·rw [hd, q] at q2; cases q2
   ·simpa using h
  | true =>
   rw [q, if_pos rfl] at h
   by_cases q3 : (c.toNat : Int) = 92
   ·rw [if_pos q3] at h
    have he := zaz w
    have het := Jcy w
    have hlw : (w.drop (z8 w).2).length ≤ n := by rw [List.length_drop]; omega
    obtain ⟨m, hm⟩ := ih (w.drop (z8 w).2) (i + 1 + ((z8 w).2 : Int)) (b ++ (z8 w).1) hlw (by rw [Za9 (by omega), hnx]) ⟨by omega, by omega, hs⟩ (by rw [List.length_append, List.length_drop]; omega) (by
     have e : i + 1 + ((z8 w).2 : Int) + ((Jn (w.drop (z8 w).2)).2 : Int) = i + ((1 + (z8 w).2 + (Jn (w.drop (z8 w).2)).2 : Nat) : Int) := by omega
     rw [e, List.append_assoc]; exact h)
    refine ⟨m + 1, hi, fun _ => ⟨⟨hi.1, hl⟩, fun _ => ⟨⟨hi.1, hl, hs⟩, by omega, ?_⟩, fun q4 => ?_⟩, fun q2 => ?_⟩
    ·rw [hnx]; exact hm
    ·exact absurd (by rw [hc]; exact q3) (of_decide_eq_false q4)
    ·rw [hd, q] at q2; cases q2
   ·rw [if_neg q3] at h
    obtain ⟨m, hm⟩ := ih w (i + 1) (b ++ [c]) (by omega) hnx ⟨by omega, by omega, hs⟩ (by rw [List.length_append]; simp only [List.length_singleton]; omega) (by
     have e : i + 1 + ((Jn w).2 : Int) = i + ((1 + (Jn w).2 : Nat) : Int) := by omega
     rw [e, List.append_assoc]; exact h)
    refine ⟨m + 1, hi, fun _ => ⟨⟨hi.1, hl⟩, fun q4 => ?_, fun _ => ⟨⟨hi.1, hl⟩, ?_⟩⟩, fun q2 => ?_⟩
    ·exact absurd (by rw [← hc]; exact of_decide_eq_true q4) q3
    ·rw [hc, zgZ]
     exact ⟨jfG c, by simp only [List.length_singleton]; omega, zY (by omega), hm⟩
    ·rw [hd, q] at q2; cases q2
def Jbz : jk := fun s i K => okP s i ∧ K (Jn (s.drop i.toNat)).1 (i + ((Jn (s.drop i.toNat)).2 : Int))
theorem Jhc (s i K) (h : Jbz s i K) : zbh ZbL zbn s i K := by
 obtain ⟨hi, h⟩ := h
 refine zgK s hi.2.2 _ _ (s.drop i.toNat) i [] (Nat.le_refl _) rfl hi (by rw [List.length_drop]; have := hi.2.2; simp only [List.length_nil]; omega) ?_
 simpa using h
theorem jbn (w : List UInt8) : (Jn w).2 ≤ w.length := by
 induction hn : w.length using Nat.strongRecOn generalizing w with
 | _ n ih =>
  cases w with
  | nil => rw [Jn]; simp
  | cons c w =>
   rw [List.length_cons] at hn
   rw [Jn]
   split
   ·split
    ·have he := zaz w
     have := ih (w.drop (z8 w).2).length (by rw [List.length_drop]; omega) (w.drop (z8 w).2) rfl
     rw [List.length_drop] at this
     simp only
     omega
    ·have := ih w.length (by omega) w rfl
     simp only
     omega
   ·simp
end Go.Proofs.YtbpbaicbaehhjaaGreatDoor
namespace Go.Proofs.YtbpbaicbaehhjaaGreatDoor
open Go.Vm Go.Sx Go.RowKit
def zdI : Jaw := fun x c0 c1 c2 c3 c4 b K => (0 ≤ x ∧ x ≤ 16777215) ∧ b.length ≤ 10000000 ∧ K c0 c1 c2 c3 c4 (b ++ zdH x)
set_option maxRecDepth 100000 in
theorem jgK (x c0 c1 c2 c3 c4 b K) (h : zdI x c0 c1 c2 c3 c4 b K) : JeO x c0 c1 c2 c3 c4 b K := by
 obtain ⟨⟨h0, h1⟩, hb, h⟩ := h
 have k1 : x ≤ 127 → K c0 c1 c2 c3 c4 (b ++ [b8 x]) := fun q => jhI q ▸ h
 have k2 : ¬ x ≤ 127 → x ≤ 2047 → K c0 c1 c2 c3 c4 (b ++ [b8 (192 + x / 64), b8 (128 + x % 64)]) := fun q q2 => ZhI q q2 ▸ h
 have kX : ¬ x ≤ 127 → ¬ x ≤ 2047 → (55296 ≤ x ∧ x ≤ 57343 ∨ 1114111 < x) → K c0 c1 c2 c3 c4 (b ++ [b8 239, b8 191, b8 189]) := fun q q2 q3 => JhI q q2 q3 ▸ h
 have k3 : ¬ x ≤ 127 → ¬ x ≤ 2047 → ¬ (55296 ≤ x ∧ x ≤ 57343 ∨ 1114111 < x) → x ≤ 65535 → K c0 c1 c2 c3 c4 (b ++ [b8 (224 + x / 4096), b8 (128 + x / 64 % 64), b8 (128 + x % 64)]) := fun q q2 q3 q4 => zhJ q q2 q3 q4 ▸ h
 have k4 : ¬ x ≤ 127 → ¬ x ≤ 2047 → ¬ (55296 ≤ x ∧ x ≤ 57343 ∨ 1114111 < x) → ¬ x ≤ 65535 → K c0 c1 c2 c3 c4 (b ++ [b8 (240 + x / 262144), b8 (128 + x / 4096 % 64), b8 (128 + x / 64 % 64), b8 (128 + x % 64)]) := fun q q2 q3 q4 => jhJ q q2 q3 q4 ▸ h
 clear h
 unfold JeO
 simp only [zhI h0 h1, jhb, fd6, ZhH, JhH, decide_eq_true_eq, decide_eq_false_iff_not, List.length_cons, List.length_nil]
 refine ⟨fun q => ?_, fun q => ⟨fun q2 => ?_, fun q2 => ⟨fun q3 => ?_, fun q3 => ⟨fun q4 => ⟨fun q5 => ?_, fun q5 => ⟨fun q6 => ⟨fun q7 => ?_, fun q7 => ?_⟩, fun q6 => ?_⟩⟩, fun q4 => ⟨fun q6 => ⟨fun q7 => ?_, fun q7 => ?_⟩, fun q6 => ?_⟩⟩⟩⟩⟩
 ·rw [u8w h0 (by omega)]
  exact ⟨by omega, by omega, k1 q⟩
 ·rw [jhc (by omega) (by omega)]
  exact ⟨by decide, by omega, by omega, by omega, k2 q q2⟩
 ·rw [Zgc (by omega) (by omega)]
  exact ⟨by decide, by decide, by omega, by omega, by omega, by omega, k3 q q2 (by omega) (by omega)⟩
 ·rw [Zgc (by omega) (by omega)]
  exact ⟨by decide, by decide, by omega, by omega, by omega, by omega, k3 q q2 (by omega) (by omega)⟩
 ·rw [Zhc (by omega) (by omega)]
  exact ⟨by decide, by decide, by decide, by omega, by omega, by omega, by omega, by omega, k4 q q2 (by omega) (by omega)⟩
 ·exact ⟨by decide, by decide, by decide, by omega, kX q q2 (by omega)⟩
 ·exfalso; omega
 ·exfalso; omega
 ·exact ⟨by decide, by decide, by decide, by omega, kX q q2 (by omega)⟩
 ·exact ⟨by decide, by decide, by decide, by omega, kX q q2 (by omega)⟩
set_option maxRecDepth 100000 in
theorem JeP (s : List UInt8) (hs : s.length ≤ 1000000) (c0 : Int) (c1 : List UInt8) (c2 : Int) (c3 : List UInt8) (c4 : Bool) (b : List UInt8) (A : Jaw) (Ke : List UInt8 → Int → Int → Int → List UInt8 → Int → List UInt8 → Bool → List UInt8 → Prop) : ∀ (r : Nat) (w : List UInt8) (i a x : Int) (k : Nat), x = k → r + k = 6 → s.drop i.toNat = w → 0 ≤ i → i + (r : Int) ≤ 1000020 → 0 ≤ a → a < 16 ^ k → Ke s (i + ((Js r w a).2 : Int)) (Js r w a).1 c0 c1 c2 c3 c4 b → ∃ m, JbV A Zec Zh zas m s i a x c0 c1 c2 c3 c4 b Ke
 | 0, w, i, a, x, k, hx, hk, hd, h0, hi, ha0, ha1, h => by
  refine ⟨1, fun q => ?_, fun _ => ?_⟩
  ·exfalso; have := of_decide_eq_true q; omega
  ·simpa [Js] using h
 | r + 1, w, i, a, x, k, hx, hk, hd, h0, hi, ha0, ha1, h => by
  unfold Js at h
  cases q : (Jb2 (hb w)).2 with
  | false =>
   rw [q] at h
   refine ⟨1, fun _ => ⟨h0, jgb _, fun q2 => ?_, fun q2 => ?_⟩, fun q2 => ?_⟩
   ·simpa using h
   ·rw [hd, q] at q2; exact absurd q2 (by decide)
   ·exfalso; have := of_decide_eq_false q2; omega
  | true =>
   rw [q] at h
   simp only [if_true] at h
   have hdg := zeC q
   have e : (16 : Int) ^ (k + 1) = 16 ^ k * 16 := Int.pow_succ _ _
   have e5 : (16 : Int) ^ k ≤ 16 ^ 5 := Jgc (by omega)
   have e6 : (16 : Int) ^ 5 = 1048576 := by decide
   obtain ⟨m, hm⟩ := JeP s hs c0 c1 c2 c3 c4 b A Ke r w.tail (i + 1) (a * 16 + (Jb2 (hb w)).1) (x + 1) (k + 1) (by omega) (by omega) (by rw [Zar h0, hd]) (by omega) (by omega) (by omega) (by rw [e]; omega) (by
    have : i + 1 + ((Js r w.tail (a * 16 + (Jb2 (hb w)).1)).2 : Int) = i + (((Js r w.tail (a * 16 + (Jb2 (hb w)).1)).2 + 1 : Nat) : Int) := by omega
    rw [this]; exact h)
   refine ⟨m + 1, fun _ => ⟨h0, jgb _, fun q2 => ?_, fun _ => ⟨by decide, zY (by omega), zY (by omega), ?_⟩⟩, fun q2 => ?_⟩
   ·rw [hd, q] at q2; exact absurd q2 (by decide)
   ·rw [hd, ZhJ ha0 (by omega) hdg.1 hdg.2]
    exact hm
   ·exfalso; have := of_decide_eq_false q2; omega
def Zbn : zP := fun s i c0 c1 c2 c3 c4 b K => (0 ≤ i ∧ i < s.length ∧ s.length ≤ 1000000) ∧ b.length ≤ 5000000 ∧ K (i + 1 + ((z8 (s.drop (i + 1).toNat)).2 : Int)) c0 c1 c2 c3 c4 (b ++ (z8 (s.drop (i + 1).toNat)).1)
theorem ZgK (s i c0 c1 c2 c3 c4 b K) (h : Zbn s i c0 c1 c2 c3 c4 b K) : jfE zdI Zec Zh zas s i c0 c1 c2 c3 c4 b K := by
 obtain ⟨⟨h0, h1, h2⟩, hb, h⟩ := h
 refine ⟨zY (by omega), fun q => ?_, fun q => ?_⟩
 ·have q := of_decide_eq_true q
  rw [List.drop_of_length_le (by omega)] at h
  unfold z8 at h
  refine ⟨by omega, by omega, ?_⟩
  simpa using h
 ·have q := of_decide_eq_false q
  cases hd : s.drop (i + 1).toNat with
  | nil => exfalso; have := jQ hd; omega
  | cons c w =>
  obtain ⟨_, hc, _, _⟩ := Jw (by omega) hd
  rw [hd, z8, JfF] at h
  rw [hc]
  refine ⟨by omega, jfG c, fun q2 => ?_, fun q2 => ?_⟩
  ·have q3 : (Jb2 (c.toNat : Int)).2 = false := by simpa using q2
   rw [q3] at h
   rw [zgZ]
   refine ⟨by omega, jfG c, by simp only [List.length_cons, List.length_nil]; omega, zY (by omega), ?_⟩
   simpa using h
  ·have q3 : (Jb2 (c.toNat : Int)).2 = true := by simpa using q2
   rw [q3] at h
   simp only [if_true] at h
   have hl := jbu 6 (c :: w) 0
   have hin := JcY 6 (c :: w) 0 0 (by omega) (by omega) (by decide)
   have hlw := congrArg List.length hd
   rw [List.length_drop] at hlw
   refine JeP s h2 c0 c1 c2 c3 c4 b _ _ 6 (c :: w) (i + 1) 0 0 0 rfl rfl hd (by omega) (by omega) (by omega) (by decide) ?_
   have e : s.drop (i + 1 + ((Js 6 (c :: w) 0).2 : Int)).toNat = (c :: w).drop (Js 6 (c :: w) 0).2 := by rw [Za9 (by omega), hd]
   refine ⟨by omega, fun q4 => ⟨zY (by omega), fun q5 => ?_, fun q5 => ?_⟩, fun q4 => ⟨fun q5 => ?_, fun q5 => ?_⟩⟩
   ·rw [e] at q4
    rw [q4, if_pos (of_decide_eq_true q5), if_pos rfl] at h
    refine ⟨by omega, by omega, ?_⟩
    have e2 : i + 1 + ((Js 6 (c :: w) 0).2 : Int) + 1 = i + 1 + (((Js 6 (c :: w) 0).2 + 1 : Nat) : Int) := by omega
    rw [e2]; exact h
   ·rw [e] at q4
    rw [q4, if_neg (of_decide_eq_false q5), if_pos rfl] at h
    refine ⟨hin, by omega, ?_⟩
    have e2 : i + 1 + ((Js 6 (c :: w) 0).2 : Int) + 1 = i + 1 + (((Js 6 (c :: w) 0).2 + 1 : Nat) : Int) := by omega
    rw [e2]; exact h
   ·rw [e] at q4
    rw [q4, if_pos (of_decide_eq_true q5)] at h
    exact ⟨by omega, by omega, by simpa using h⟩
   ·rw [e] at q4
    rw [q4, if_neg (of_decide_eq_false q5)] at h
    exact ⟨hin, by omega, by simpa using h⟩
set_option maxRecDepth 100000 in
set_option maxRecDepth 100000 in
set_option maxRecDepth 100000 in
set_option maxRecDepth 100000 in
def ZfG (K : Tok → Int → Prop) (b : List UInt8) (i : Int) (r : Bool × List UInt8 × Nat) : Prop := K (if r.1 then tk 5 (b ++ r.2.1) else tk 6) (i + (r.2.2 : Int))
theorem zhd (s : List UInt8) (hs : s.length ≤ 1000000) (q : Int) (K : Tok → Int → Prop) : ∀ (n : Nat) (w : List UInt8) (i : Int) (b : List UInt8), w.length ≤ n → s.drop i.toNat = w → okP s i → b.length + 4 * w.length ≤ 4500000 → ZfG K b i (strM q w) → ∃ m, Zan Zbn m s i q 0 [] 0 [] false b (fun y1 _ _ _ _ _ y7 => K (Tok.mk 5 y7 0 [] false) y1) (fun y8 y9 y10 y11 y12 y13 => K (Tok.mk y9 y10 y11 y12 y13) y8) := by
 intro n
 induction n with
 | zero =>
  intro w i b hn hd hi hb h
  cases w with
  | cons c w => simp at hn
  | nil =>
   have hl := jQ hd
   rw [strM] at h
   refine ⟨1, fun p => (by exfalso; have := of_decide_eq_true p; omega), fun _ => ?_⟩
   simpa [ZfG, tk] using h
 | succ n ih =>
  intro w i b hn hd hi hb h
  cases w with
  | nil =>
   have hl := jQ hd
   rw [strM] at h
   refine ⟨1, fun p => (by exfalso; have := of_decide_eq_true p; omega), fun _ => ?_⟩
   simpa [ZfG, tk] using h
  | cons c w =>
  obtain ⟨hl, hc, hnx, hlen⟩ := Jw hi.1 hd
  rw [List.length_cons] at hn hb
  by_cases c1 : (c.toNat : Int) = q
  ·have e : strM q (c :: w) = (true, [], 1) := by rw [strM.eq_def]; simp only; rw [if_pos c1]
   rw [e] at h
   refine ⟨1, fun _ => ⟨⟨hi.1, hl⟩, fun _ => ⟨zY (by omega), ?_⟩, fun p => ?_⟩, fun p => (by exfalso; have := of_decide_eq_false p; omega)⟩
   ·simpa [ZfG, tk] using h
   ·exact absurd (by rw [hc]; exact c1) (of_decide_eq_false p)
  ·by_cases c2 : (c.toNat : Int) = 10
   ·have e : strM q (c :: w) = (false, [], 0) := by rw [strM.eq_def]; simp only; rw [if_neg c1, if_pos c2]
    rw [e] at h
    refine ⟨1, fun _ => ⟨⟨hi.1, hl⟩, fun p => ?_, fun _ => ⟨⟨hi.1, hl⟩, fun _ => ?_, fun p => ?_⟩⟩, fun p => (by exfalso; have := of_decide_eq_false p; omega)⟩
    ·exact absurd (by rw [← hc]; exact of_decide_eq_true p) c1
    ·simpa [ZfG, tk] using h
    ·exact absurd (by rw [hc]; exact c2) (of_decide_eq_false p)
   ·by_cases c3 : (c.toNat : Int) = 92
    ·cases w with
     | nil =>
      have e : strM q [c] = (true, [], 1) := by rw [strM.eq_def]; simp only; rw [if_neg c1, if_neg c2, if_neg (fun x => x c3)]
      rw [e] at h
      have hl2 := jQ hnx
      refine ⟨2, fun _ => ⟨⟨hi.1, hl⟩, fun p => ?_, fun _ => ⟨⟨hi.1, hl⟩, fun p => ?_, fun _ => ⟨⟨hi.1, hl⟩, fun p => ?_, fun _ => ⟨zY (by omega), fun _ => ⟨zY (by omega), fun p => ?_, fun _ => ?_⟩, fun p => ?_⟩⟩⟩⟩, fun p => (by exfalso; have := of_decide_eq_false p; omega)⟩
      ·exact absurd (by rw [← hc]; exact of_decide_eq_true p) c1
      ·exact absurd (by rw [← hc]; exact of_decide_eq_true p) c2
      ·exact absurd (by rw [hc]; exact c3) (of_decide_eq_true p)
      ·exfalso; have := of_decide_eq_true p; omega
      ·simpa [ZfG, tk] using h
      ·exfalso; have := of_decide_eq_false p; simp only [List.length_nil] at hlen; omega
     | cons d v =>
      obtain ⟨hl2, hc2, hnx2, hlen2⟩ := Jw (by omega) hnx
      have hnx3 : s.drop (i + 2).toNat = v := by rw [show i + 2 = i + 1 + 1 by omega]; exact hnx2
      rw [List.length_cons] at hn hb
      by_cases c4 : (d.toNat : Int) = 10
      ·have e : strM q (c :: d :: v) = ((strM q v).1, (strM q v).2.1, 2 + (strM q v).2.2) := by rw [strM.eq_def]; simp only; rw [if_neg c1, if_neg c2, if_neg (fun x => x c3), if_pos c4]
       rw [e] at h
       obtain ⟨m, hm⟩ := ih v (i + 2) b (by omega) hnx3 ⟨by omega, by omega, hs⟩ (by omega) (by
        unfold ZfG at h ⊢
        have : i + 2 + ((strM q v).2.2 : Int) = i + ((2 + (strM q v).2.2 : Nat) : Int) := by omega
        rw [this]; exact h)
       refine ⟨m + 1, fun _ => ⟨⟨hi.1, hl⟩, fun p => ?_, fun _ => ⟨⟨hi.1, hl⟩, fun p => ?_, fun _ => ⟨⟨hi.1, hl⟩, fun p => ?_, fun _ => ⟨zY (by omega), fun p => ?_, fun _ => ⟨zY (by omega), ⟨by omega, hl2⟩, fun _ => ⟨zY (by omega), hm⟩, fun p => ?_⟩⟩⟩⟩⟩, fun p => (by exfalso; have := of_decide_eq_false p; omega)⟩
       ·exact absurd (by rw [← hc]; exact of_decide_eq_true p) c1
       ·exact absurd (by rw [← hc]; exact of_decide_eq_true p) c2
       ·exact absurd (by rw [hc]; exact c3) (of_decide_eq_true p)
       ·exfalso; have := of_decide_eq_true p; omega
       ·exact absurd (by rw [hc2]; exact c4) (of_decide_eq_false p)
      ·have e : strM q (c :: d :: v) = ((strM q ((d :: v).drop (z8 (d :: v)).2)).1, (z8 (d :: v)).1 ++ (strM q ((d :: v).drop (z8 (d :: v)).2)).2.1, 1 + (z8 (d :: v)).2 + (strM q ((d :: v).drop (z8 (d :: v)).2)).2.2) := by rw [strM.eq_def]; simp only; rw [if_neg c1, if_neg c2, if_neg (fun x => x c3), if_neg c4]
       rw [e] at h
       have he := zaz (d :: v)
       have het := Jcy (d :: v)
       rw [List.length_cons] at he
       have hlw : ((d :: v).drop (z8 (d :: v)).2).length ≤ n := by rw [List.length_drop, List.length_cons]; omega
       obtain ⟨m, hm⟩ := ih ((d :: v).drop (z8 (d :: v)).2) (i + 1 + ((z8 (d :: v)).2 : Int)) (b ++ (z8 (d :: v)).1) hlw (by rw [Za9 (by omega), hnx]) ⟨by omega, by omega, hs⟩ (by rw [List.length_append, List.length_drop, List.length_cons]; omega) (by
        unfold ZfG at h ⊢
        have : i + 1 + ((z8 (d :: v)).2 : Int) + ((strM q ((d :: v).drop (z8 (d :: v)).2)).2.2 : Int) = i + ((1 + (z8 (d :: v)).2 + (strM q ((d :: v).drop (z8 (d :: v)).2)).2.2 : Nat) : Int) := by omega
        rw [this, List.append_assoc]; exact h)
       refine ⟨m + 1, fun _ => ⟨⟨hi.1, hl⟩, fun p => ?_, fun _ => ⟨⟨hi.1, hl⟩, fun p => ?_, fun _ => ⟨⟨hi.1, hl⟩, fun p => ?_, fun _ => ⟨zY (by omega), fun p => ?_, fun _ => ⟨zY (by omega), ⟨by omega, hl2⟩, fun p => ?_, fun _ => ⟨⟨hi.1, hl, hs⟩, by omega, ?_⟩⟩⟩⟩⟩⟩, fun p => (by exfalso; have := of_decide_eq_false p; omega)⟩
       ·exact absurd (by rw [← hc]; exact of_decide_eq_true p) c1
       ·exact absurd (by rw [← hc]; exact of_decide_eq_true p) c2
       ·exact absurd (by rw [hc]; exact c3) (of_decide_eq_true p)
       ·exfalso; have := of_decide_eq_true p; omega
       ·exact absurd (by rw [← hc2]; exact of_decide_eq_true p) c4
       ·rw [hnx]; exact hm
    ·have e : strM q (c :: w) = ((strM q w).1, c :: (strM q w).2.1, 1 + (strM q w).2.2) := by rw [strM.eq_def]; simp only; rw [if_neg c1, if_neg c2, if_pos c3]
     rw [e] at h
     obtain ⟨m, hm⟩ := ih w (i + 1) (b ++ [c]) (by omega) hnx ⟨by omega, by omega, hs⟩ (by rw [List.length_append]; simp only [List.length_singleton]; omega) (by
      unfold ZfG at h ⊢
      have : i + 1 + ((strM q w).2.2 : Int) = i + ((1 + (strM q w).2.2 : Nat) : Int) := by omega
      rw [this, List.append_assoc]; exact h)
     refine ⟨m + 1, fun _ => ⟨⟨hi.1, hl⟩, fun p => ?_, fun _ => ⟨⟨hi.1, hl⟩, fun p => ?_, fun _ => ⟨⟨hi.1, hl⟩, fun _ => ⟨⟨hi.1, hl⟩, ?_⟩, fun p => ?_⟩⟩⟩, fun p => (by exfalso; have := of_decide_eq_false p; omega)⟩
     ·exact absurd (by rw [← hc]; exact of_decide_eq_true p) c1
     ·exact absurd (by rw [← hc]; exact of_decide_eq_true p) c2
     ·rw [hc, zgZ]
      exact ⟨jfG c, by simp only [List.length_singleton]; omega, zY (by omega), hm⟩
     ·exact absurd (by rw [hc]; exact c3) (of_decide_eq_false p)
def zgd : Jbh := fun s i K => (0 ≤ i ∧ i < s.length ∧ s.length ≤ 1000000) ∧ ZfG K [] (i + 1) (strM (hb (s.drop i.toNat)) (s.drop (i + 1).toNat))
theorem Jhw (s i K) (h : zgd s i K) : Zey Zbn s i K := by
 obtain ⟨⟨h0, h1, h2⟩, h⟩ := h
 rw [zfG] at h
 exact ⟨⟨h0, h1⟩, zY (by omega), zhd s h2 _ K _ _ _ [] (Nat.le_refl _) rfl ⟨by omega, by omega, h2⟩ (by rw [List.length_drop]; simp only [List.length_nil]; omega) h⟩
theorem jhd (s : List UInt8) (hs : s.length ≤ 1000000) (K : Int → Prop) : ∀ (n : Nat) (w : List UInt8) (i : Int), w.length ≤ n → s.drop i.toNat = w → okP s i → K (i + (Jeb w : Int)) → ∃ m, ZaT jb1 zbn m s i (fun y => K y) (fun y => K y) := by
 intro n
 induction n with
 | zero =>
  intro w i hn hd hi h
  cases w with
  | cons c w => simp at hn
  | nil =>
   have hl := jQ hd
   rw [Jeb] at h
   exact ⟨1, fun p => (by exfalso; have := of_decide_eq_true p; omega), fun _ => by simpa using h⟩
 | succ n ih =>
  intro w i hn hd hi h
  cases w with
  | nil =>
   have hl := jQ hd
   rw [Jeb] at h
   exact ⟨1, fun p => (by exfalso; have := of_decide_eq_true p; omega), fun _ => by simpa using h⟩
  | cons c w =>
  obtain ⟨hl, hc, hnx, hlen⟩ := Jw hi.1 hd
  rw [List.length_cons] at hn
  rw [Jeb] at h
  by_cases c1 : (c.toNat : Int) = 41
  ·rw [if_pos c1] at h
   refine ⟨1, fun _ => ⟨⟨hi.1, hl⟩, fun _ => ⟨zY (by omega), by simpa using h⟩, fun p => ?_⟩, fun p => (by exfalso; have := of_decide_eq_false p; omega)⟩
   exact absurd (by rw [hc]; exact c1) (of_decide_eq_false p)
  ·rw [if_neg c1] at h
   cases q : zbL (c :: w) with
   | true =>
    rw [q, if_pos rfl] at h
    have he := zaz w
    obtain ⟨m, hm⟩ := ih (w.drop (z8 w).2) (i + 1 + ((z8 w).2 : Int)) (by rw [List.length_drop]; omega) (by rw [Za9 (by omega), hnx]) ⟨by omega, by omega, hs⟩ (by
     have : i + 1 + ((z8 w).2 : Int) + (Jeb (w.drop (z8 w).2) : Int) = i + ((1 + (z8 w).2 + Jeb (w.drop (z8 w).2) : Nat) : Int) := by omega
     rw [this]; exact h)
    refine ⟨m + 1, fun _ => ⟨⟨hi.1, hl⟩, fun p => ?_, fun _ => ⟨hi, fun _ => ⟨⟨hi.1, hl, hs⟩, by decide, ?_⟩, fun p => ?_⟩⟩, fun p => (by exfalso; have := of_decide_eq_false p; omega)⟩
    ·exact absurd (by rw [← hc]; exact of_decide_eq_true p) c1
    ·rw [hnx]; exact hm
    ·rw [hd, q] at p; cases p
   | false =>
    rw [q] at h
    obtain ⟨m, hm⟩ := ih w (i + 1) (by omega) hnx ⟨by omega, by omega, hs⟩ (by
     have : i + 1 + (Jeb w : Int) = i + ((1 + Jeb w : Nat) : Int) := by omega
     rw [this]; simpa using h)
    refine ⟨m + 1, fun _ => ⟨⟨hi.1, hl⟩, fun p => ?_, fun _ => ⟨hi, fun p => ?_, fun _ => ⟨zY (by omega), hm⟩⟩⟩, fun p => (by exfalso; have := of_decide_eq_false p; omega)⟩
    ·exact absurd (by rw [← hc]; exact of_decide_eq_true p) c1
    ·rw [hd, q] at p; cases p
def JfG : Jab := fun s i K => okP s i ∧ K (i + (Jeb (s.drop i.toNat) : Int))
theorem zhx (s i K) (h : JfG s i K) : Jew jb1 zbn s i K := jhd s h.1.2.2 K _ _ _ (Nat.le_refl _) rfl h.1 h.2
def Zbu : jl := fun c K => K (zdk c)
theorem jgd (c K) (h : Zbu c K) : zay c K := by
 unfold Zbu zdk at h
 unfold zay
 refine ⟨fun q => ?_, fun q => ⟨fun q2 => ?_, fun q2 => ⟨fun q3 => ?_, fun q3 => ⟨fun q4 => ?_, fun q4 => ⟨fun q5 => ?_, fun q5 => ⟨fun q6 => ?_, fun q6 => ⟨fun q7 => ⟨fun q8 => ?_, fun q8 => ?_⟩, fun q7 => ?_⟩⟩⟩⟩⟩⟩⟩ <;> simpa only [*, Bool.true_or, Bool.false_or, Bool.or_true, Bool.or_false, Bool.true_and, Bool.false_and] using h
theorem JbL : ∀ w : List UInt8, nSp w ≤ w.length
 | [] => Nat.le_refl _
 | c :: w => by
  unfold nSp
  have := JbL w
  split <;> simp only [List.length_cons] <;> omega
theorem Zhd (s : List UInt8) (hs : s.length ≤ 1000000) (Ke : List UInt8 → Int → Int → List UInt8 → Int → List UInt8 → Bool → List UInt8 → Prop) : ∀ (n : Nat) (w : List UInt8) (i : Int) (b : List UInt8), w.length ≤ n → s.drop i.toNat = w → okP s i → b.length + 4 * w.length ≤ 4500000 → Ke s (i + ((jbL w).2 : Int)) 0 [] 0 [] false (b ++ (jbL w).1) → ∃ m, ZO jgc zas jb1 Zbn Zbu JfG m s i 0 [] 0 [] false b Ke := by
 intro n
 induction n with
 | zero =>
  intro w i b hn hd hi hb h
  cases w with
  | cons c w => simp at hn
  | nil =>
   have hl := jQ hd
   rw [jbL] at h
   exact ⟨1, fun p => (by exfalso; have := of_decide_eq_true p; omega), fun _ => by simpa using h⟩
 | succ n ih =>
  intro w i b hn hd hi hb h
  cases w with
  | nil =>
   have hl := jQ hd
   rw [jbL] at h
   exact ⟨1, fun p => (by exfalso; have := of_decide_eq_true p; omega), fun _ => by simpa using h⟩
  | cons c w =>
  obtain ⟨hl, hc, hnx, hlen⟩ := Jw hi.1 hd
  rw [List.length_cons] at hn hb
  rw [jbL] at h
  by_cases c1 : (c.toNat : Int) = 41
  ·rw [if_pos c1] at h
   refine ⟨1, fun _ => ⟨⟨hi.1, hl⟩, fun p => ?_, fun _ => by simpa using h⟩, fun p => (by exfalso; have := of_decide_eq_false p; omega)⟩
   exact absurd (by rw [hc]; exact c1) (of_decide_eq_true p)
  ·rw [if_neg c1] at h
   have nc1 : ¬ decide (((s.getD i.toNat 0).toNat : Int) ≠ 41) = false := fun p => (of_decide_eq_false p) (by rw [hc]; exact c1)
   cases q : mSp (c.toNat : Int) with
   | true =>
    rw [q, if_pos rfl] at h
    have h : Ke s (i + (nSp (c :: w) : Int)) 0 [] 0 [] false b := by simpa using h
    have hk := JbL (c :: w)
    rw [List.length_cons] at hk
    refine ⟨2, fun _ => ⟨⟨hi.1, hl⟩, fun _ => ⟨⟨hi.1, hl⟩, fun _ => ⟨hi, ?_⟩, fun p => ?_⟩, fun p => absurd p nc1⟩, fun p => (by exfalso; have := of_decide_eq_false p; omega)⟩
    ·rw [hd]
     refine ⟨fun p => ⟨⟨by omega, of_decide_eq_true p⟩, fun _ => h, fun p2 => ⟨fun _ => ⟨⟨by omega, of_decide_eq_true p⟩, fun p3 => ?_, fun _ => h⟩, fun p3 => ?_⟩⟩, fun p => ⟨fun p2 => ?_, fun _ => h⟩⟩
     ·rw [p2] at p3; cases p3
     ·rw [p] at p3; cases p3
     ·rw [p] at p2; cases p2
    ·rw [hc, q] at p; cases p
   | false =>
    rw [q] at h
    simp only [Bool.false_eq_true, if_false] at h
    cases q2 : zbL (c :: w) with
    | true =>
     rw [q2, if_pos rfl] at h
     have he := zaz w
     have het := Jcy w
     obtain ⟨m, hm⟩ := ih (w.drop (z8 w).2) (i + 1 + ((z8 w).2 : Int)) (b ++ (z8 w).1) (by rw [List.length_drop]; omega) (by rw [Za9 (by omega), hnx]) ⟨by omega, by omega, hs⟩ (by rw [List.length_append, List.length_drop]; omega) (by
      have : i + 1 + ((z8 w).2 : Int) + ((jbL (w.drop (z8 w).2)).2 : Int) = i + ((1 + (z8 w).2 + (jbL (w.drop (z8 w).2)).2 : Nat) : Int) := by omega
      rw [this, List.append_assoc]; exact h)
     refine ⟨m + 1, fun _ => ⟨⟨hi.1, hl⟩, fun _ => ⟨⟨hi.1, hl⟩, fun p => ?_, fun _ => ⟨hi, fun _ => ⟨⟨hi.1, hl, hs⟩, by omega, ?_⟩, fun p => ?_⟩⟩, fun p => absurd p nc1⟩, fun p => (by exfalso; have := of_decide_eq_false p; omega)⟩
     ·rw [hc, q] at p; cases p
     ·rw [hnx]; exact hm
     ·rw [hd, q2] at p; cases p
    | false =>
     rw [q2] at h
     simp only [Bool.false_eq_true, if_false] at h
     cases q3 : zdk (c.toNat : Int) with
     | true =>
      rw [q3, if_pos rfl] at h
      refine ⟨1, fun _ => ⟨⟨hi.1, hl⟩, fun _ => ⟨⟨hi.1, hl⟩, fun p => ?_, fun _ => ⟨hi, fun p => ?_, fun _ => ⟨⟨hi.1, hl⟩, fun _ => by simpa using h, fun p => ?_⟩⟩⟩, fun p => absurd p nc1⟩, fun p => (by exfalso; have := of_decide_eq_false p; omega)⟩
      ·rw [hc, q] at p; cases p
      ·rw [hd, q2] at p; cases p
      ·rw [hc, q3] at p; cases p
     | false =>
      rw [q3] at h
      simp only [Bool.false_eq_true, if_false] at h
      obtain ⟨m, hm⟩ := ih w (i + 1) (b ++ [c]) (by omega) hnx ⟨by omega, by omega, hs⟩ (by rw [List.length_append]; simp only [List.length_singleton]; omega) (by
       have : i + 1 + ((jbL w).2 : Int) = i + ((1 + (jbL w).2 : Nat) : Int) := by omega
       rw [this, List.append_assoc]; exact h)
      refine ⟨m + 1, fun _ => ⟨⟨hi.1, hl⟩, fun _ => ⟨⟨hi.1, hl⟩, fun p => ?_, fun _ => ⟨hi, fun p => ?_, fun _ => ⟨⟨hi.1, hl⟩, fun p => ?_, fun _ => ⟨⟨hi.1, hl⟩, ?_⟩⟩⟩⟩, fun p => absurd p nc1⟩, fun p => (by exfalso; have := of_decide_eq_false p; omega)⟩
      ·rw [hc, q] at p; cases p
      ·rw [hd, q2] at p; cases p
      ·rw [hc, q3] at p; cases p
      ·rw [hc, zgZ]
       exact ⟨jfG c, by simp only [List.length_singleton]; omega, zY (by omega), hm⟩
theorem zeQ (w : List UInt8) : (jbL w).2 ≤ w.length := by
 induction hn : w.length using Nat.strongRecOn generalizing w with
 | _ n ih =>
  cases w with
  | nil => rw [jbL]; simp
  | cons c w =>
   have hk := JbL (c :: w)
   rw [List.length_cons] at hn hk
   rw [jbL]
   split
   ·simp
   ·split
    ·simp only; omega
    ·split
     ·have he := zaz w
      have := ih (w.drop (z8 w).2).length (by rw [List.length_drop]; omega) (w.drop (z8 w).2) rfl
      rw [List.length_drop] at this
      simp only
      omega
     ·split
      ·simp
      ·have := ih w.length (by omega) w rfl
       simp only
       omega
def Zgd : z7 := fun s i K => okP s i ∧ i ≤ s.length ∧ K (ZX (s.drop i.toNat)).1 (i + ((ZX (s.drop i.toNat)).2 : Int))
theorem jhx (s i K) (h : Zgd s i K) : zbG jgc zas jb1 Zbn Zbu JfG s i K := by
 obtain ⟨hi, hl, h⟩ := h
 have ha := JbL (s.drop i.toNat)
 have hu := zeQ ((s.drop i.toNat).drop (nSp (s.drop i.toNat)))
 rw [List.length_drop] at ha
 simp only [List.length_drop] at hu
 have hi0 := hi.1
 have hs := hi.2.2
 have eA : s.drop (i + (nSp (s.drop i.toNat) : Int)).toNat = (s.drop i.toNat).drop (nSp (s.drop i.toNat)) := Za9 hi.1 _
 refine ⟨hi, Zhd s hs _ _ _ _ [] (Nat.le_refl _) rfl ⟨by omega, by omega, hs⟩ (by rw [List.length_drop]; simp only [List.length_nil]; omega) ?_⟩
 rw [eA]
 unfold ZX at h
 simp only at h
 have eV : s.drop (i + (nSp (s.drop i.toNat) : Int) + ((jbL ((s.drop i.toNat).drop (nSp (s.drop i.toNat)))).2 : Int)).toNat = (s.drop i.toNat).drop (nSp (s.drop i.toNat) + (jbL ((s.drop i.toNat).drop (nSp (s.drop i.toNat)))).2) := by rw [Za9 (by omega), eA, List.drop_drop]
 generalize (s.drop i.toNat).drop (nSp (s.drop i.toNat) + (jbL ((s.drop i.toNat).drop (nSp (s.drop i.toNat)))).2) = v at h eV
 generalize eJ : i + (nSp (s.drop i.toNat) : Int) + ((jbL ((s.drop i.toNat).drop (nSp (s.drop i.toNat)))).2 : Int) = j at eV
 have hj : 0 ≤ j ∧ j ≤ s.length := by omega
 cases v with
 | nil =>
  have hlj := jQ eV
  rw [if_pos rfl] at h
  refine ⟨fun _ => ?_, fun p => (by exfalso; have := of_decide_eq_false p; omega)⟩
  have e : i + ((nSp (s.drop i.toNat) + (jbL ((s.drop i.toNat).drop (nSp (s.drop i.toNat)))).2 : Nat) : Int) = j := by omega
  rw [e] at h
  exact h
 | cons c v =>
  obtain ⟨hl2, hc, hnx, _⟩ := Jw hj.1 eV
  rw [if_neg (by simp)] at h
  refine ⟨fun p => (by exfalso; have := of_decide_eq_true p; omega), fun _ => ⟨⟨hj.1, hl2⟩, fun p => ⟨zY (by omega), ?_⟩, fun p => ⟨⟨by omega, by omega, hs⟩, ?_⟩⟩⟩
  ·have p := of_decide_eq_true p
   rw [hc] at p
   rw [Jf, if_pos p] at h
   have e : i + ((nSp (s.drop i.toNat) + (jbL ((s.drop i.toNat).drop (nSp (s.drop i.toNat)))).2 + 1 : Nat) : Int) = j + 1 := by omega
   rw [e] at h
   exact h
  ·have p := of_decide_eq_false p
   rw [hc] at p
   rw [Jf, if_neg p] at h
   have e : i + ((nSp (s.drop i.toNat) + (jbL ((s.drop i.toNat).drop (nSp (s.drop i.toNat)))).2 + Jeb (c :: v) : Nat) : Int) = j + (Jeb (c :: v) : Int) := by omega
   rw [e] at h
   rw [eV]
   exact h
def Jec : jd := fun c K => (0 ≤ c ∧ c ≤ 255) ∧ K (low c)
theorem Zhx (c K) (h : Jec c K) : jay c K := by
 obtain ⟨⟨h0, h1⟩, h⟩ := h
 unfold low at h
 unfold jay
 simp only [decide_eq_true_eq, decide_eq_false_iff_not]
 refine ⟨fun q => ⟨fun q2 => ?_, fun q2 => ?_⟩, fun q => ?_⟩
 ·rw [if_pos ⟨q, q2⟩] at h
  rw [u8w (by omega) (by omega)]
  exact h
 ·rw [if_neg (by omega)] at h; exact h
 ·rw [if_neg (by omega)] at h; exact h
theorem jeQ (a b : List UInt8) (ha : a.length ≤ 10000000) (hab : a.length = b.length) (Ke : Unit → Prop) (Kr : Bool → Prop) : ∀ (u v : List UInt8) (j : Int), a.drop j.toNat = u → b.drop j.toNat = v → 0 ≤ j → j ≤ a.length → (zad u v = true → Ke ()) → (zad u v = false → Kr false) → ∃ m, jaH Jec m a b (a.length : Int) j Ke Kr
 | [], v, j, hu, hv, h0, hj, k1, _ => by
  have hl := jQ hu
  have : v = [] := by rw [← hv]; exact List.drop_of_length_le (by omega)
  subst this
  exact ⟨1, fun p => (by exfalso; have := of_decide_eq_true p; omega), fun _ => k1 rfl⟩
 | c :: u, v, j, hu, hv, h0, hj, k1, k2 => by
  obtain ⟨hl, hc, hnx, _⟩ := Jw h0 hu
  cases v with
  | nil => have := jQ hv; exfalso; omega
  | cons d v =>
  obtain ⟨hl2, hc2, hnx2, _⟩ := Jw h0 hv
  by_cases q : low (c.toNat : Int) = low (d.toNat : Int)
  ·have e : zad (c :: u) (d :: v) = zad u v := by rw [zad, decide_eq_true q, Bool.true_and]
   rw [e] at k1 k2
   obtain ⟨m, hm⟩ := jeQ a b ha hab Ke Kr u v (j + 1) hnx hnx2 (by omega) (by omega) k1 k2
   refine ⟨m + 1, fun _ => ⟨⟨h0, hl⟩, hb_in' a j, ⟨h0, hl2⟩, hb_in' b j, fun p => ?_, fun _ => ⟨zY (by omega), hm⟩⟩, fun p => (by exfalso; have := of_decide_eq_false p; omega)⟩
   exact absurd (by rw [hc, hc2]; exact q) (of_decide_eq_true p)
  ·have e : zad (c :: u) (d :: v) = false := by rw [zad, decide_eq_false q, Bool.false_and]
   refine ⟨1, fun _ => ⟨⟨h0, hl⟩, hb_in' a j, ⟨h0, hl2⟩, hb_in' b j, fun _ => k2 e, fun p => ?_⟩, fun p => (by exfalso; have := of_decide_eq_false p; omega)⟩
   exact absurd (of_decide_eq_false p) (by rw [hc, hc2]; exact fun x => x q)
where hb_in' (a : List UInt8) (j : Int) : 0 ≤ ((a.getD j.toNat 0).toNat : Int) ∧ ((a.getD j.toNat 0).toNat : Int) ≤ 255 := jfG _
theorem jdk : ∀ (a b : List UInt8), zad a b = true → a.length = b.length
 | [], [], _ => rfl
 | [], _ :: _, h => by cases h
 | _ :: _, [], h => by cases h
 | a :: x, b :: y, h => by
  unfold zad at h
  rw [Bool.and_eq_true] at h
  rw [List.length_cons, List.length_cons, jdk x y h.2]
def jdI : zar := fun a b K => a.length ≤ 10000000 ∧ K (zad a b)
theorem JgK (a b K) (h : jdI a b K) : zcQ Jec a b K := by
 obtain ⟨ha, h⟩ := h
 refine ⟨fun p => ?_, fun p => ?_⟩
 ·have p := of_decide_eq_true p
  cases q : zad a b with
  | false => rw [q] at h; exact h
  | true => exact absurd (congrArg (Int.ofNat) (jdk a b q)) p
 ·have p := of_decide_eq_false p
  have p : (a.length : Int) = b.length := by simpa using p
  exact jeQ a b ha (by omega) _ _ a b 0 rfl rfl (by omega) (by omega) (fun q => by rw [q] at h; exact h) (fun q => by rw [q] at h; exact h)
theorem zfH (w : List UInt8) : (Jn w).1.length ≤ 4 * w.length := by
 induction hn : w.length using Nat.strongRecOn generalizing w with
 | _ n ih =>
  cases w with
  | nil => rw [Jn]; simp
  | cons c w =>
   rw [List.length_cons] at hn
   rw [Jn]
   split
   ·split
    ·have he := zaz w
     have het := Jcy w
     have := ih (w.drop (z8 w).2).length (by rw [List.length_drop]; omega) (w.drop (z8 w).2) rfl
     rw [List.length_drop] at this
     simp only [List.length_append]
     omega
    ·have := ih w.length (by omega) w rfl
     simp only [List.length_cons]
     omega
   ·simp
def za6 : zM := fun s i K => okP s i ∧ i ≤ s.length ∧ K (jaV (s.drop i.toNat)).1 (i + ((jaV (s.drop i.toNat)).2 : Int))
theorem zgL (s i K) (h : za6 s i K) : Za2 Jbz Zh jdI jgc JeB Zgd s i K := by
 obtain ⟨hi, hl, h⟩ := h
 have hi0 := hi.1
 have hs := hi.2.2
 have hn := jbn (s.drop i.toNat)
 have ht := zfH (s.drop i.toNat)
 rw [List.length_drop] at hn ht
 have eV := Za9 hi0 (s := s) (Jn (s.drop i.toNat)).2
 unfold jaV at h
 simp only at h
 rw [← eV] at h
 generalize eJ : i + ((Jn (s.drop i.toNat)).2 : Int) = j at eV h ⊢
 have hj : 0 ≤ j ∧ j ≤ s.length := by omega
 refine ⟨hi, ?_⟩
 rw [eJ]
 refine ⟨hj.1, fun p => ?_, fun p => ?_⟩
 ·rw [if_pos (of_decide_eq_true p)] at h
  rw [eJ] at h
  exact h
 ·have p := of_decide_eq_false p
  rw [if_neg p] at h
  have p2 : hb (s.drop j.toNat) = 40 := by simpa using p
  have hl2 : j < s.length := by
   by_cases q : j < s.length
   ·exact q
   ·rw [List.drop_of_length_le (by omega)] at p2; exact absurd p2 (by decide)
  rw [← Zar hj.1] at h
  have eS := Za9 (i := j + 1) (by omega) (s := s) (nSp (s.drop (j + 1).toNat))
  rw [← eS] at h
  have hsp := JbL (s.drop (j + 1).toNat)
  rw [List.length_drop] at hsp
  have fin : K (tk 2 (Jn (s.drop i.toNat)).1) (i + (((Jn (s.drop i.toNat)).2 + 1 : Nat) : Int)) → K (Tok.mk 2 (Jn (s.drop i.toNat)).1 0 [] false) (j + 1) := fun h => by
   have e : i + (((Jn (s.drop i.toNat)).2 + 1 : Nat) : Int) = j + 1 := by omega
   rw [e] at h; exact h
  refine ⟨zY (by omega), by omega, fun q => ⟨⟨by omega, by omega, hs⟩, by omega, fun q2 => ⟨⟨by omega, by omega, hs⟩, by omega, ?_⟩, fun q2 => ?_⟩, fun q => ?_⟩
  ·rw [q, q2] at h
   simp only [Bool.and_self, if_true] at h
   have e : i + (((Jn (s.drop i.toNat)).2 + 1 + (ZX (s.drop (j + 1).toNat)).2 : Nat) : Int) = j + 1 + ((ZX (s.drop (j + 1).toNat)).2 : Int) := by omega
   rw [e] at h
   exact h
  ·rw [q, q2] at h
   simp only [Bool.and_false, Bool.false_eq_true, if_false] at h
   exact fin h
  ·rw [q] at h
   simp only [Bool.false_and, Bool.false_eq_true, if_false] at h
   exact fin h
end Go.Proofs.YtbpbaicbaehhjaaGreatDoor
namespace Go.Proofs.YtbpbaicbaehhjaaGreatDoor
open Go.Vm Go.Sx Go.RowKit
def AllDg (w : List UInt8) : Prop := ∀ b, b ∈ w → mD (b.toNat : Int) = true
theorem zal (w : List UInt8) : AllDg (JI w) := fun b hb => by
 unfold JI at hb
 induction w with
 | nil => cases hb
 | cons c w ih =>
  rw [List.takeWhile_cons] at hb
  split at hb
  ·rcases List.mem_cons.mp hb with rfl | hb
   ·assumption
   ·exact ih hb
  ·cases hb
theorem Jap (w : List UInt8) : (JI w).length ≤ w.length := (List.takeWhile_sublist _).length_le
theorem Jgd : JI [] = [] := rfl
theorem digs_pos {c : UInt8} {w : List UInt8} (h : mD (c.toNat : Int) = true) : JI (c :: w) = c :: JI w := by unfold JI; rw [List.takeWhile_cons, if_pos h]
theorem digs_neg {c : UInt8} {w : List UInt8} (h : mD (c.toNat : Int) = false) : JI (c :: w) = [] := by unfold JI; rw [List.takeWhile_cons, if_neg (by rw [h]; decide)]
theorem jfH (w : List UInt8) : w.take (JI w).length = JI w := by
 unfold JI
 induction w with
 | nil => rfl
 | cons c w ih =>
  rw [List.takeWhile_cons]
  split
  ·rw [List.length_cons, List.take_succ_cons, ih]
  ·rfl
theorem JaI {s : List UInt8} {i : Int} (h : 0 ≤ i) : (s.drop i.toNat).take ((i + ((JI (s.drop i.toNat)).length : Int)).toNat - i.toNat) = JI (s.drop i.toNat) := by
 have e : (i + ((JI (s.drop i.toNat)).length : Int)).toNat - i.toNat = (JI (s.drop i.toNat)).length := by omega
 rw [e, jfH]
theorem jeC (s : List UInt8) (hs : s.length ≤ 1000000) (x : Int) (Ke : Int → List UInt8 → Int → Prop) : ∀ (w : List UInt8) (i : Int), s.drop i.toNat = w → okP s i → Ke x s (i + ((JI w).length : Int)) → ∃ m, zo Zh Jar m x s i Ke
 | [], i, hd, hi, h => by
  refine ⟨1, hi.1, fun q => ?_, fun _ => ?_⟩
  ·rw [hd] at q; exact absurd q (by decide)
  ·simpa [Jgd] using h
 | c :: w, i, hd, hi, h => by
  obtain ⟨hl, hc, hn, _⟩ := Jw hi.1 hd
  cases q : mD (c.toNat : Int) with
  | false =>
   rw [digs_neg q] at h
   refine ⟨1, hi.1, fun q2 => ?_, fun _ => ?_⟩
   ·rw [hd, Jf, q] at q2; cases q2
   ·simpa using h
  | true =>
   rw [digs_pos q] at h
   obtain ⟨m, hm⟩ := jeC s hs x Ke w (i + 1) hn ⟨by omega, by omega, hs⟩ (by
    have : i + 1 + ((JI w).length : Int) = i + ((c :: JI w).length : Int) := by rw [List.length_cons]; omega
    rw [this]; exact h)
   refine ⟨m + 1, hi.1, fun _ => ⟨zY (by omega), hm⟩, fun q2 => ?_⟩
   rw [hd, Jf, q] at q2; cases q2
theorem zge {c : UInt8} (h : mD (c.toNat : Int) = true) : 48 ≤ (c.toNat : Int) ∧ (c.toNat : Int) ≤ 57 := by
 unfold mD at h
 simp only [Bool.and_eq_true, decide_eq_true_eq] at h
 exact h
theorem w8' {n : Int} (h0 : 0 ≤ n) (h1 : n ≤ 255) : IntKind.u8.wrap n = n := by rw [IntKind.wrap_u8]; omega
theorem zed {a : Int} {c : UInt8} (h0 : 0 ≤ a) (h : mD (c.toNat : Int) = true) : 0 ≤ Zbz a c ∧ Zbz a c ≤ 8000 := by
 have := zge h
 unfold Zbz
 omega
theorem Jhd (s : List UInt8) (hs : s.length ≤ 1000000) (ha : AllDg s) (Ke : Int → Prop) : ∀ (w : List UInt8) (i a : Int), s.drop i.toNat = w → 0 ≤ i → i ≤ s.length → 0 ≤ a → a ≤ 8000 → Ke (w.foldl Zbz a) → ∃ m, jbs m s a (s.length : Int) i Ke
 | [], i, a, hd, h0, hi, ha0, ha1, h => by
  have := jQ hd
  exact ⟨1, fun q => (by exfalso; have := of_decide_eq_true q; omega), fun _ => h⟩
 | c :: w, i, a, hd, h0, hi, ha0, ha1, h => by
  obtain ⟨hl, hc, hn, _⟩ := Jw h0 hd
  have hm : c ∈ s := List.mem_of_mem_drop (by rw [hd]; exact List.mem_cons_self ..)
  have hb := zge (ha c hm)
  have hf := zed ha0 (ha c hm)
  obtain ⟨m, hm⟩ := Jhd s hs ha Ke w (i + 1) (Zbz a c) hn (by omega) (by omega) hf.1 hf.2 h
  refine ⟨m + 1, fun _ => ⟨zY (by omega), ⟨h0, hl⟩, ?_⟩, fun q => (by exfalso; have := of_decide_eq_false q; omega)⟩
  rw [hc, w8' (by omega) (by omega)]
  refine ⟨zY (by omega), zY (by omega), zY (by omega), ?_⟩
  have e : (if (8000 : Int) < 10 * a + ((c.toNat : Int) - 48) then (8000 : Int) else 10 * a + ((c.toNat : Int) - 48)) = Zbz a c := by unfold Zbz; split <;> omega
  rw [e]
  exact hm
def jch : zbe := fun w K => (AllDg w ∧ w.length ≤ 1000000) ∧ K (Jbm w)
theorem jgL (w K) (h : jch w K) : jes w K := Jhd w h.1.2 h.1.1 K w 0 0 rfl (by omega) (by omega) (by omega) (by omega) h.2
theorem zcz : ∀ (w : List UInt8) (a : Int), AllDg w → 0 ≤ a → a ≤ 8000 → 0 ≤ w.foldl Zbz a ∧ w.foldl Zbz a ≤ 8000
 | [], a, _, h0, h1 => ⟨h0, h1⟩
 | c :: w, a, hw, h0, h1 => by
  have hf := zed h0 (hw c (List.mem_cons_self ..))
  exact zcz w _ (fun b hb => hw b (List.mem_cons_of_mem _ hb)) hf.1 hf.2
theorem zhe : ∀ (s : List UInt8) (Ke : List UInt8 → Prop), Ke (Zy s) → ∃ m, zaZ m s 48 Ke
 | [], Ke, h => ⟨1, fun q => (by simp at q), fun _ => h⟩
 | b :: s, Ke, h => by
  cases q : b == 48 with
  | false =>
   have : Zy (b :: s) = b :: s := by unfold Zy; rw [List.dropWhile_cons, if_neg (by rw [q]; decide)]
   rw [this] at h
   refine ⟨1, fun _ => ⟨⟨by omega, by simp⟩, fun q2 => ?_, fun _ => h⟩, fun q2 => ?_⟩
   ·exfalso
    have q2 := of_decide_eq_true q2
    have : b = 48 := UInt8.toNat_inj.mp (by show b.toNat = 48; have : (b.toNat : Int) = 48 := q2; omega)
    rw [this] at q
    exact absurd q (by decide)
   ·exfalso; have := of_decide_eq_false q2; simp at this
  | true =>
   have e : b = 48 := eq_of_beq q
   have : Zy (b :: s) = Zy s := by unfold Zy; rw [List.dropWhile_cons, if_pos q]
   rw [this] at h
   obtain ⟨m, hm⟩ := zhe s Ke h
   subst e
   exact ⟨m + 1, fun _ => ⟨⟨by omega, by simp⟩, fun _ => ⟨⟨by omega, by rw [List.length_cons]; omega⟩, hm⟩, fun q2 => (by cases (show true = false from q2))⟩, fun q2 => (by exfalso; have := of_decide_eq_false q2; simp at this)⟩
def ZdI : ZaF := fun s c K => c = 48 ∧ K (Zy s)
theorem ZgL (s c K) (h : ZdI s c K) : zdx s c K := by
 obtain ⟨rfl, h⟩ := h
 exact zhe s _ h
def ZeQ : Jj := fun s c K => c = [48] ∧ K (Zy s)
theorem jhe (s c K) (h : ZeQ s c K) : ZaZ ZdI s c K := by
 obtain ⟨rfl, h⟩ := h
 refine ⟨fun _ => ⟨fun q => (by exact absurd q (by decide)), fun _ => ⟨fun _ => ⟨⟨by omega, by decide⟩, fun _ => ⟨⟨by omega, by decide⟩, rfl, h⟩, fun q => absurd q (by decide)⟩, fun q => absurd q (by decide)⟩⟩, fun q => ?_⟩
 have : s = [] := eq_of_beq q
 subst this
 exact h
theorem Zdk {w : List UInt8} (h : AllDg w) : AllDg (Zy w) := fun b hb => h b ((List.dropWhile_sublist _).subset hb)
theorem zeros0_len (w : List UInt8) : (Zy w).length ≤ w.length := (List.dropWhile_sublist _).length_le
theorem ZfH (s : List UInt8) (hs : s.length ≤ 1000000) (ha : AllDg s) (A : Jj) (p : Int) (Ke : Int → Prop) : ∀ (k : Nat) (w : List UInt8) (i : Nat) (a : Int), s.drop i = w → (i : Int) + k = p → i + k ≤ 13 → 0 ≤ a → a < 10 ^ i → Ke (zaD k w a) → ∃ m, JaS A m s a p (i : Int) Ke
 | 0, w, i, a, hd, hp, h13, ha0, ha1, h => ⟨1, fun q => (by exfalso; have := of_decide_eq_true q; omega), fun _ => (by cases w <;> exact h)⟩
 | k + 1, w, i, a, hd, hp, h13, ha0, ha1, h => by
  have e10 : (10 : Int) ^ i ≤ 10 ^ 13 := by
   have := Nat.pow_le_pow_right (n := 10) (by decide) (show i ≤ 13 by omega)
   exact_mod_cast this
  have e13 : (10 : Int) ^ 13 = 10000000000000 := by decide
  have es : (10 : Int) ^ (i + 1) = 10 ^ i * 10 := Int.pow_succ _ _
  cases w with
  | nil =>
   have hl : s.length ≤ i := by
    have := congrArg List.length hd
    rw [List.length_drop, List.length_nil] at this
    omega
   obtain ⟨m, hm⟩ := ZfH s hs ha A p Ke k [] (i + 1) (a * 10) (List.drop_of_length_le (by omega)) (by omega) (by omega) (by omega) (by rw [es]; omega) h
   refine ⟨m + 1, fun _ => ⟨by unfold I64; omega, fun q => (by exfalso; have := of_decide_eq_true q; omega), fun _ => ⟨zY (by omega), ?_⟩⟩, fun q => (by exfalso; have := of_decide_eq_false q; omega)⟩
   exact hm
  | cons c w =>
   have hd2 : s.drop (i : Int).toNat = c :: w := hd
   obtain ⟨hl, hc, hn, _⟩ := Jw (by omega) hd2
   have hmem : c ∈ s := List.mem_of_mem_drop (by rw [hd]; exact List.mem_cons_self ..)
   have hb := zge (ha c hmem)
   obtain ⟨m, hm⟩ := ZfH s hs ha A p Ke k w (i + 1) (a * 10 + ((c.toNat : Int) - 48)) hn (by omega) (by omega) (by omega) (by rw [es]; omega) h
   refine ⟨m + 1, fun _ => ⟨by unfold I64; omega, fun _ => ⟨⟨by omega, hl⟩, ?_⟩, fun q => (by exfalso; have := of_decide_eq_false q; omega)⟩, fun q => (by exfalso; have := of_decide_eq_false q; omega)⟩
   rw [hc, w8' (by omega) (by omega)]
   exact ⟨zY (by omega), by unfold I64; omega, zY (by omega), hm⟩
def JfH : jbe := fun w p K => (AllDg w ∧ w.length ≤ 1000000 ∧ -1000000 ≤ p ∧ p ≤ 2000000) ∧ K (jdH w p)
theorem Jhx (w p K) (h : JfH w p K) : jet ZeQ w p K := by
 obtain ⟨⟨ha, hl, h0, h1⟩, h⟩ := h
 have hz := zeros0_len w
 unfold jdH at h
 simp only at h
 refine ⟨rfl, zY (by omega), zY (by omega), fun q => ⟨fun q2 => ?_, fun q2 => ⟨fun q3 => ?_, fun q3 => ?_⟩⟩, fun q => ?_⟩
 ·rw [if_pos (Or.inr (of_decide_eq_true q2))] at h; exact h
 ·have q2 := of_decide_eq_false q2
  have q : Zy w ≠ [] := fun e => by rw [e] at q; cases q
  rw [if_neg (fun x => x.elim q q2), if_pos (of_decide_eq_true q3)] at h; exact h
 ·have q2 := of_decide_eq_false q2
  have q3 := of_decide_eq_false q3
  have q : Zy w ≠ [] := fun e => by rw [e] at q; cases q
  rw [if_neg (fun x => x.elim q q2), if_neg q3] at h
  refine ZfH (Zy w) (by omega) (Zdk ha) _ _ _ (p - ((w.length : Int) - ((Zy w).length : Int))).toNat (Zy w) 0 0 rfl (by omega) (by omega) (by omega) (by decide) ?_
  have e : ∀ n : Int, (if (1000000000000 : Int) < n then (1000000000000 : Int) else n) = min n 1000000000000 := fun n => by split <;> omega
  rw [e]
  exact h
 ·rw [if_pos (Or.inl (eq_of_beq q))] at h; exact h
abbrev lpN := zo Zh Jar
theorem zcZ : ∀ (k : Nat) (w : List UInt8) (a : Int), AllDg w → 0 ≤ a → 0 ≤ zaD k w a
 | 0, w, a, _, h => by cases w <;> exact h
 | k + 1, [], a, hw, h => by rw [zaD]; exact zcZ k [] _ hw (by omega)
 | k + 1, c :: w, a, hw, h => by
  have := zge (hw c (List.mem_cons_self ..))
  rw [zaD]
  exact zcZ k w _ (fun b hb => hw b (List.mem_cons_of_mem _ hb)) (by omega)
theorem JgL {w : List UInt8} (h : AllDg w) (p : Int) : 0 ≤ jdH w p ∧ jdH w p ≤ 1000000000000 := by
 unfold jdH
 simp only
 split
 ·omega
 ·split
  ·omega
  ·have := zcZ (p - ((w.length : Int) - ((Zy w).length : Int))).toNat (Zy w) 0 (Zdk h) (by omega)
   omega
def zfI (W V : List UInt8) (c : Int) (K : Int → Bool → Int → Prop) (e : Int) (b : Bool) (j : Int) : Prop :=
 W.length + V.length ≤ 1099511627776 ∧ (I64 ((W.length : Int) + e) ∧ (I64 (((W.length : Int) + e) + 3) ∧ (JfH (W ++ V) (((W.length : Int) + e) + 3) (fun y => ((decide (c = 45)) = true → (I64 (0 - y) ∧ K (0 - y) b j)) ∧ ((decide (c = 45)) = false → K y b j)))))
theorem jcz {W V : List UInt8} {c : Int} {K : Int → Bool → Int → Prop} {e : Int} {b : Bool} {j : Int} (hW : AllDg W) (hV : AllDg V) (lW : W.length ≤ 400000) (lV : V.length ≤ 400000) (he : -10000 ≤ e ∧ e ≤ 10000)
  (h : K (if c = 45 then 0 - jdH (W ++ V) ((W.length : Int) + e + 3) else jdH (W ++ V) ((W.length : Int) + e + 3)) b j) : zfI W V c K e b j := by
 have hA : AllDg (W ++ V) := fun x hx => (List.mem_append.mp hx).elim (hW x) (hV x)
 have hc := JgL hA ((W.length : Int) + e + 3)
 refine ⟨by omega, zY (by omega), zY (by omega), ⟨hA, by rw [List.length_append]; omega, by omega, by omega⟩, fun q => ⟨by unfold I64; omega, ?_⟩, fun q => ?_⟩
 ·rw [if_pos (of_decide_eq_true q)] at h; exact h
 ·rw [if_neg (of_decide_eq_false q)] at h; exact h
theorem JeQ {s : List UInt8} {j : Int} (hs : s.length ≤ 400000) (h0 : 0 ≤ j) (hj : j ≤ s.length) (R : Int → Bool → Int → Prop) (b : Bool) (h : R (Ja9 (s.drop j.toNat)).1 (b && decide ((Ja9 (s.drop j.toNat)).2 = 0)) (j + ((Ja9 (s.drop j.toNat)).2 : Int))) :
  (Zh s j (fun y11 => (zch y11 (fun y12 => ((y12 = true → (I64 (j + (1 : Int)) ∧ (jec s (j + (1 : Int)) (fun y13 => ((y13 = true → (I64 (j + (1 : Int)) ∧ (Zh s (j + (1 : Int)) (fun y14 => (Zh s (j + (1 : Int)) (fun y15 => (zae y15 (fun y16 => ((y16 = true → (I64 ((j + (1 : Int)) + (1 : Int)) ∧ (∃ m, lpN m ((j + (1 : Int)) + (1 : Int)) s ((j + (1 : Int)) + (1 : Int)) (fun y17 y18 y19 => ((0 ≤ y17 ∧ y17 ≤ y19 ∧ y19 ≤ (y18.length : Int)) ∧ (jch ((y18.drop y17.toNat).take (y19.toNat - y17.toNat)) (fun y20 => (((decide (y14 = (45 : Int))) = true → (I64 (0 - y20) ∧ R (0 - y20) false y19)) ∧ ((decide (y14 = (45 : Int))) = false → R y20 false y19))))))))) ∧ (y16 = false → (∃ m, lpN m (j + (1 : Int)) s (j + (1 : Int)) (fun y23 y24 y25 => ((0 ≤ y23 ∧ y23 ≤ y25 ∧ y25 ≤ (y24.length : Int)) ∧ (jch ((y24.drop y23.toNat).take (y25.toNat - y23.toNat)) (fun y26 => (((decide (y14 = (45 : Int))) = true → (I64 (0 - y26) ∧ R (0 - y26) false y25)) ∧ ((decide (y14 = (45 : Int))) = false → R y26 false y25))))))))))))))))) ∧ (y13 = false → R 0 b j)))))) ∧ (y12 = false → R 0 b j)))))) := by
 have hok : ∀ x : Int, 0 ≤ x → x ≤ s.length + 10 → okP s x := fun x a b => ⟨a, by omega, by omega⟩
 have none : (Ja9 (s.drop j.toNat)) = (0, 0) → R 0 b j := fun e => by rw [e] at h; simpa using h
 refine ⟨h0, fun q => ⟨zY (by omega), hok _ (by omega) (by omega), fun q2 => ⟨zY (by omega), by omega, by omega, fun q3 => ⟨zY (by omega), ?_⟩, fun q3 => ?_⟩, fun q2 => none ?_⟩, fun q => none ?_⟩
 ·rw [Zar h0] at q2 q3
  have hlen : j + 1 < s.length := by
   by_cases q4 : j + 1 < s.length
   ·exact q4
   ·exfalso
    rw [← Zar h0, List.drop_of_length_le (by omega)] at q3
    exact absurd q3 (by decide)
  have hd := Jap (s.drop (j + 1 + 1).toNat)
  rw [List.length_drop] at hd
  have e : Ja9 (s.drop j.toNat) = (if hb (s.drop j.toNat).tail = 45 then 0 - Jbm (JI (s.drop (j + 1 + 1).toNat)) else Jbm (JI (s.drop (j + 1 + 1).toNat)), 2 + (JI (s.drop (j + 1 + 1).toNat)).length) := by
   unfold Ja9
   rw [q, q2, Bool.and_self, if_pos rfl]
   simp only [q3, if_true]
   rw [Zar (by omega : 0 ≤ j + 1), Zar h0]
  rw [e] at h
  refine jeC s (by omega) _ _ _ _ rfl (hok _ (by omega) (by omega)) ⟨⟨by omega, by omega, by omega⟩, ?_⟩
  rw [JaI (by omega)]
  have hwh := zcz (JI (s.drop (j + 1 + 1).toNat)) 0 (zal _) (by omega) (by omega)
  have e2 : j + ((2 + (JI (s.drop (j + 1 + 1).toNat)).length : Nat) : Int) = j + 1 + 1 + ((JI (s.drop (j + 1 + 1).toNat)).length : Int) := by omega
  rw [e2] at h
  refine ⟨⟨zal _, by omega⟩, fun q4 => ⟨zY (by show _ ∧ _; unfold Jbm; omega), ?_⟩, fun q4 => ?_⟩
  ·rw [Zar h0] at q4
   rw [if_pos (of_decide_eq_true q4)] at h
   simpa using h
  ·rw [Zar h0] at q4
   rw [if_neg (of_decide_eq_false q4)] at h
   simpa using h
 ·rw [Zar h0] at q2 q3
  have hlen : j + 1 ≤ s.length := by
   by_cases q4 : j + 1 ≤ s.length
   ·exact q4
   ·exfalso
    unfold Zg9 at q2
    rw [← Zar h0, List.drop_of_length_le (by omega)] at q2
    exact absurd q2 (by decide)
  have hd := Jap (s.drop (j + 1).toNat)
  rw [List.length_drop] at hd
  have e : Ja9 (s.drop j.toNat) = (if hb (s.drop j.toNat).tail = 45 then 0 - Jbm (JI (s.drop (j + 1).toNat)) else Jbm (JI (s.drop (j + 1).toNat)), 1 + (JI (s.drop (j + 1).toNat)).length) := by
   unfold Ja9
   rw [q, q2, Bool.and_self, if_pos rfl]
   simp only [q3, Bool.false_eq_true, if_false]
   rw [Zar h0]
  rw [e] at h
  refine jeC s (by omega) _ _ _ _ rfl (hok _ (by omega) (by omega)) ⟨⟨by omega, by omega, by omega⟩, ?_⟩
  rw [JaI (by omega)]
  have hwh := zcz (JI (s.drop (j + 1).toNat)) 0 (zal _) (by omega) (by omega)
  have e2 : j + ((1 + (JI (s.drop (j + 1).toNat)).length : Nat) : Int) = j + 1 + ((JI (s.drop (j + 1).toNat)).length : Int) := by omega
  rw [e2] at h
  refine ⟨⟨zal _, by omega⟩, fun q4 => ⟨zY (by show _ ∧ _; unfold Jbm; omega), ?_⟩, fun q4 => ?_⟩
  ·rw [Zar h0] at q4
   rw [if_pos (of_decide_eq_true q4)] at h
   simpa using h
  ·rw [Zar h0] at q4
   rw [if_neg (of_decide_eq_false q4)] at h
   simpa using h
 ·rw [Zar h0] at q2
  unfold Ja9
  rw [q2, Bool.and_false, if_neg (by decide)]
 ·unfold Ja9
  rw [q, Bool.false_and, if_neg (by decide)]
theorem zeR (w : List UInt8) : -10000 ≤ (Ja9 w).1 ∧ (Ja9 w).1 ≤ 10000 := by
 unfold Ja9
 split
 ·have h := fun v : List UInt8 => zcz (JI v) 0 (zal _) (by omega) (by omega)
  simp only
  split
  ·have := h (if mSg (hb w.tail) = true then w.tail.tail else w.tail)
   unfold Jbm
   omega
  ·have := h (if mSg (hb w.tail) = true then w.tail.tail else w.tail)
   unfold Jbm
   omega
 ·decide
def jge : jbf := fun s i K => (0 ≤ i ∧ i ≤ s.length ∧ s.length ≤ 400000) ∧ K (zb1 (s.drop i.toNat)).1 (zb1 (s.drop i.toNat)).2.1 (i + ((zb1 (s.drop i.toNat)).2.2 : Int))
theorem zhy (s i K) (h : jge s i K) : zeu ZcY Zh zch jec jch JfH zae Jar s i K := by
 obtain ⟨⟨h0, hi, hs⟩, h⟩ := h
 generalize hw : s.drop i.toNat = w at h
 have hbw : hb (s.drop i.toNat) = hb w := by rw [hw]
 refine ⟨h0, h0, fun q => ⟨zY (by omega), ?_⟩, fun q => ?_⟩
 ·rw [hw] at q
  have hl : i < s.length := by
   by_cases q2 : i < s.length
   ·exact q2
   ·exfalso
    rw [← hw, List.drop_of_length_le (by omega)] at q
    exact absurd q (by decide)
  have hsn : zai w = 1 := by unfold zai; rw [if_pos q]
  have hd1 := Jap (s.drop (i + 1).toNat)
  rw [List.length_drop] at hd1
  have eS : w.drop (zai w) = s.drop (i + 1).toNat := by rw [hsn, ← hw, List.drop_one, Zar h0]
  have eW : j8 w = JI (s.drop (i + 1).toNat) := by unfold j8; rw [eS]
  have eB : s.drop (i + 1 + ((JI (s.drop (i + 1).toNat)).length : Int)).toNat = w.drop (Zo w) := by
   unfold Zo
   rw [eW, ← List.drop_drop, eS]
   exact Za9 (by omega) _
  refine jeC s (by omega) _ _ _ _ rfl ⟨by omega, by omega, by omega⟩ ⟨⟨by omega, by omega, by omega⟩, ⟨by omega, by omega, by omega⟩, fun q7 => ⟨zY (by omega), ?_⟩, fun q7 => ?_⟩
  ·rw [eB] at q7
   have hl1 : i + 1 + ((JI (s.drop (i + 1).toNat)).length : Int) < s.length := by
    by_cases q8 : i + 1 + ((JI (s.drop (i + 1).toNat)).length : Int) < s.length
    ·exact q8
    ·exfalso
     rw [← eB, List.drop_of_length_le (by omega)] at q7
     exact absurd q7 (by decide)
   have hd2 := Jap (s.drop (i + 1 + ((JI (s.drop (i + 1).toNat)).length : Int) + 1).toNat)
   rw [List.length_drop] at hd2
   have eV : ZaE w = JI (s.drop (i + 1 + ((JI (s.drop (i + 1).toNat)).length : Int) + 1).toNat) := by
    unfold ZaE
    rw [if_pos q7, Zar (by omega), eB]
   have eF : s.drop (i + 1 + ((JI (s.drop (i + 1).toNat)).length : Int) + 1 + ((JI (s.drop (i + 1 + ((JI (s.drop (i + 1).toNat)).length : Int) + 1).toNat)).length : Int)).toNat = w.drop (Jg w) := by
    unfold Jg
    rw [if_pos q7, eV, ← List.drop_drop, ← eB, Za9 (by omega), Zar (by omega), ← List.drop_drop, List.drop_one]
   refine jeC s (by omega) _ _ _ _ rfl ⟨by omega, by omega, by omega⟩ ⟨⟨by omega, by omega, by omega⟩, ?_⟩
   rw [JaI (by omega), JaI (by omega)]
   have hx := zeR (w.drop (Jg w))
   refine JeQ hs (by omega) (by omega) (zfI (JI (s.drop (i + 1).toNat)) (JI (s.drop (i + 1 + ((JI (s.drop (i + 1).toNat)).length : Int) + 1).toNat)) (hb (s.drop i.toNat)) K) false ?_
   rw [eF]
   refine jcz (zal _) (zal _) (by omega) (by omega) hx ?_
   unfold zb1 JX at h
   simp only [q7, Bool.not_true, Bool.false_and] at h ⊢
   rw [eW, eV] at h
   rw [hbw]
   have ej : i + ((Jg w + (Ja9 (w.drop (Jg w))).2 : Nat) : Int) = i + 1 + ((JI (s.drop (i + 1).toNat)).length : Int) + 1 + ((JI (s.drop (i + 1 + ((JI (s.drop (i + 1).toNat)).length : Int) + 1).toNat)).length : Int) + ((Ja9 (w.drop (Jg w))).2 : Int) := by
    have : Jg w = Zo w + (1 + (ZaE w).length) := by unfold Jg; rw [if_pos q7]
    have h3 : Zo w = zai w + (j8 w).length := rfl
    rw [eV] at this
    rw [eW, hsn] at h3
    omega
   rw [← ej]
   exact h
  ·rw [eB] at q7
   have eF : s.drop (i + 1 + ((JI (s.drop (i + 1).toNat)).length : Int)).toNat = w.drop (Jg w) := by
    unfold Jg
    rw [if_neg (by rw [q7]; decide), Nat.add_zero, eB]
   have eV : ZaE w = [] := by
    unfold ZaE
    rw [if_neg (by rw [q7]; decide)]
   rw [JaI (by omega)]
   have hx := zeR (w.drop (Jg w))
   refine JeQ hs (by omega) (by omega) (zfI (JI (s.drop (i + 1).toNat)) [] (hb (s.drop i.toNat)) K) true ?_
   rw [eF]
   refine jcz (zal _) (fun b hb => by cases hb) (by omega) (Nat.zero_le _) hx ?_
   unfold zb1 JX at h
   simp only [q7, Bool.not_false, Bool.true_and] at h ⊢
   rw [eW, eV] at h
   rw [hbw]
   have ej : i + ((Jg w + (Ja9 (w.drop (Jg w))).2 : Nat) : Int) = i + 1 + ((JI (s.drop (i + 1).toNat)).length : Int) + ((Ja9 (w.drop (Jg w))).2 : Int) := by
    have : Jg w = Zo w := by unfold Jg; rw [if_neg (by rw [q7]; decide), Nat.add_zero]
    have h3 : Zo w = zai w + (j8 w).length := rfl
    rw [eW, hsn] at h3
    omega
   rw [← ej]
   exact h
 ·rw [hw] at q
  have hsn : zai w = 0 := by unfold zai; rw [if_neg (by rw [q]; decide)]
  have hd1 := Jap (s.drop i.toNat)
  rw [List.length_drop] at hd1
  have eS : w.drop (zai w) = s.drop i.toNat := by rw [hsn, ← hw, List.drop_zero]
  have eW : j8 w = JI (s.drop i.toNat) := by unfold j8; rw [eS]
  have eB : s.drop (i + ((JI (s.drop i.toNat)).length : Int)).toNat = w.drop (Zo w) := by
   unfold Zo
   rw [eW, ← List.drop_drop, eS]
   exact Za9 (by omega) _
  refine jeC s (by omega) _ _ _ _ rfl ⟨by omega, by omega, by omega⟩ ⟨⟨by omega, by omega, by omega⟩, ⟨by omega, by omega, by omega⟩, fun q7 => ⟨zY (by omega), ?_⟩, fun q7 => ?_⟩
  ·rw [eB] at q7
   have hl1 : i + ((JI (s.drop i.toNat)).length : Int) < s.length := by
    by_cases q8 : i + ((JI (s.drop i.toNat)).length : Int) < s.length
    ·exact q8
    ·exfalso
     rw [← eB, List.drop_of_length_le (by omega)] at q7
     exact absurd q7 (by decide)
   have hd2 := Jap (s.drop (i + ((JI (s.drop i.toNat)).length : Int) + 1).toNat)
   rw [List.length_drop] at hd2
   have eV : ZaE w = JI (s.drop (i + ((JI (s.drop i.toNat)).length : Int) + 1).toNat) := by
    unfold ZaE
    rw [if_pos q7, Zar (by omega), eB]
   have eF : s.drop (i + ((JI (s.drop i.toNat)).length : Int) + 1 + ((JI (s.drop (i + ((JI (s.drop i.toNat)).length : Int) + 1).toNat)).length : Int)).toNat = w.drop (Jg w) := by
    unfold Jg
    rw [if_pos q7, eV, ← List.drop_drop, ← eB, Za9 (by omega), Zar (by omega), ← List.drop_drop, List.drop_one]
   refine jeC s (by omega) _ _ _ _ rfl ⟨by omega, by omega, by omega⟩ ⟨⟨by omega, by omega, by omega⟩, ?_⟩
   rw [JaI (by omega), JaI (by omega)]
   have hx := zeR (w.drop (Jg w))
   refine JeQ hs (by omega) (by omega) (zfI (JI (s.drop i.toNat)) (JI (s.drop (i + ((JI (s.drop i.toNat)).length : Int) + 1).toNat)) (hb (s.drop i.toNat)) K) false ?_
   rw [eF]
   refine jcz (zal _) (zal _) (by omega) (by omega) hx ?_
   unfold zb1 JX at h
   simp only [q7, Bool.not_true, Bool.false_and] at h ⊢
   rw [eW, eV] at h
   rw [hbw]
   have ej : i + ((Jg w + (Ja9 (w.drop (Jg w))).2 : Nat) : Int) = i + ((JI (s.drop i.toNat)).length : Int) + 1 + ((JI (s.drop (i + ((JI (s.drop i.toNat)).length : Int) + 1).toNat)).length : Int) + ((Ja9 (w.drop (Jg w))).2 : Int) := by
    have : Jg w = Zo w + (1 + (ZaE w).length) := by unfold Jg; rw [if_pos q7]
    have h3 : Zo w = zai w + (j8 w).length := rfl
    rw [eV] at this
    rw [eW, hsn] at h3
    omega
   rw [← ej]
   exact h
  ·rw [eB] at q7
   have eF : s.drop (i + ((JI (s.drop i.toNat)).length : Int)).toNat = w.drop (Jg w) := by
    unfold Jg
    rw [if_neg (by rw [q7]; decide), Nat.add_zero, eB]
   have eV : ZaE w = [] := by
    unfold ZaE
    rw [if_neg (by rw [q7]; decide)]
   rw [JaI (by omega)]
   have hx := zeR (w.drop (Jg w))
   refine JeQ hs (by omega) (by omega) (zfI (JI (s.drop i.toNat)) [] (hb (s.drop i.toNat)) K) true ?_
   rw [eF]
   refine jcz (zal _) (fun b hb => by cases hb) (by omega) (Nat.zero_le _) hx ?_
   unfold zb1 JX at h
   simp only [q7, Bool.not_false, Bool.true_and] at h ⊢
   rw [eW, eV] at h
   rw [hbw]
   have ej : i + ((Jg w + (Ja9 (w.drop (Jg w))).2 : Nat) : Int) = i + ((JI (s.drop i.toNat)).length : Int) + ((Ja9 (w.drop (Jg w))).2 : Int) := by
    have : Jg w = Zo w := by unfold Jg; rw [if_neg (by rw [q7]; decide), Nat.add_zero]
    have h3 : Zo w = zai w + (j8 w).length := rfl
    rw [eW, hsn] at h3
    omega
   rw [← ej]
   exact h
end Go.Proofs.YtbpbaicbaehhjaaGreatDoor
namespace Go.Proofs.YtbpbaicbaehhjaaGreatDoor
open Go.Vm Go.Sx Go.RowKit
theorem jfI (w : List UInt8) : zai w ≤ w.length := by
 unfold zai
 split
 ·rename_i q
  cases w with
  | nil => exact absurd q (by decide)
  | cons c w => simp
 ·exact Nat.zero_le _
theorem JdI {w : List UInt8} {n : Nat} (h : hb (w.drop n) ≠ 0) : n < w.length := by
 by_cases q : n < w.length
 ·exact q
 ·rw [List.drop_of_length_le (by omega)] at h; exact absurd rfl h
theorem ZeC (w : List UInt8) : Zo w ≤ w.length := by
 have h := Jap (w.drop (zai w))
 have h2 := jfI w
 rw [List.length_drop] at h
 unfold Zo j8
 omega
theorem Zge {w : List UInt8} (h : jar w = true) : hb w = 46 := by
 unfold jar at h
 rw [Bool.and_eq_true] at h
 exact of_decide_eq_true h.1
theorem JeC (w : List UInt8) : Jg w ≤ w.length := by
 have h := ZeC w
 unfold Jg
 split
 ·rename_i q
  have hl := JdI (w := w) (n := Zo w) (by rw [Zge q]; decide)
  have h2 := Jap (w.drop (Zo w)).tail
  unfold ZaE
  rw [if_pos q]
  rw [List.length_tail, List.length_drop] at h2
  omega
 ·omega
theorem Jge (w : List UInt8) : (Ja9 w).2 ≤ w.length := by
 unfold Ja9
 split
 ·rename_i q
  rw [Bool.and_eq_true] at q
  cases w with
  | nil => exact absurd q.1 (by decide)
  | cons c w =>
   by_cases q2 : mSg (hb (c :: w).tail) = true
   ·rw [if_pos q2, if_pos q2]
    cases w with
    | nil => exact absurd (show mSg (hb []) = true from q2) (by decide)
    | cons d w =>
     have := Jap w
     show 2 + (JI w).length ≤ w.length + 1 + 1
     omega
   ·rw [if_neg q2, if_neg q2]
    have := Jap w
    show 1 + (JI w).length ≤ w.length + 1
    omega
 ·simp
theorem jcZ (w : List UInt8) : JX w ≤ w.length := by
 have h := Jge (w.drop (Jg w))
 have h2 := JeC w
 rw [List.length_drop] at h
 unfold JX
 omega
theorem zeD {w : List UInt8} (h : Zbm w = true) : 1 ≤ JX w := by
 unfold JX
 suffices q : 1 ≤ Jg w by omega
 unfold Jg
 cases q : mSg (hb w) with
 | true =>
  have : 1 ≤ Zo w := by unfold Zo zai; rw [if_pos q]; omega
  omega
 | false =>
  have e : zai w = 0 := by unfold zai; rw [if_neg (by rw [q]; decide)]
  unfold Zbm at h
  rw [if_neg (by rw [q]; decide), Bool.or_eq_true] at h
  cases w with
  | nil => rcases h with h | h <;> exact absurd h (by decide)
  | cons c w =>
  cases q2 : mD (c.toNat : Int) with
  | true =>
   have : Zo (c :: w) = (JI (c :: w)).length := by unfold Zo j8; rw [e, Nat.zero_add, List.drop_zero]
   rw [digs_pos q2, List.length_cons] at this
   omega
  | false =>
   have : Zo (c :: w) = 0 := by unfold Zo j8; rw [e, Nat.zero_add, List.drop_zero, digs_neg q2]; rfl
   rw [this, List.drop_zero]
   rcases h with h | h
   ·rw [Jf, q2] at h; cases h
   ·rw [if_pos h]; omega
theorem zgM {w : List UInt8} (h : mSp (hb w) = true) : 1 ≤ nSp w := by
 cases w with
 | nil => exact absurd h (by decide)
 | cons c w => rw [Jf] at h; unfold nSp; rw [if_pos h]; omega
theorem ZfI {w : List UInt8} (h : j4 w = true) : 1 ≤ (Jn w).2 := by
 cases w with
 | nil => exact absurd h (by decide)
 | cons c w =>
  rw [Jn, if_pos h]
  split <;> simp only <;> omega
theorem jgM {w : List UInt8} (h : ZK w = true) : j4 w = true := by
 unfold ZK at h
 unfold j4 mN
 split at h
 ·rw [Bool.or_eq_true] at h
  rcases h with h | h <;> rw [h] <;> simp
 ·rename_i q
  have q : hb w = 45 := by simpa using q
  rw [q]
  have e : (mD 45 || decide ((45 : Int) = 45)) = true := by decide
  rw [e, Bool.or_true, Bool.true_or]
theorem zgf (q : Int) (w : List UInt8) : (strM q w).2.2 ≤ w.length := by
 induction hn : w.length using Nat.strongRecOn generalizing w with
 | _ n ih =>
  cases w with
  | nil => rw [strM]; simp
  | cons c w =>
   rw [List.length_cons] at hn
   rw [strM.eq_def]
   simp only
   split
   ·simp only; omega
   ·split
    ·simp
    ·split
     ·have := ih w.length (by omega) w rfl
      simp only
      omega
     ·cases w with
      | nil => simp only [List.length_nil] at hn ⊢; omega
      | cons d v =>
       rw [List.length_cons] at hn
       simp only
       split
       ·have := ih v.length (by omega) v rfl
        simp only
        omega
       ·have he := zaz (d :: v)
        rw [List.length_cons] at he
        have := ih ((d :: v).drop (z8 (d :: v)).2).length (by rw [List.length_drop, List.length_cons]; omega) _ rfl
        rw [List.length_drop, List.length_cons] at this
        simp only
        omega
theorem jgf (w : List UInt8) : Jeb w ≤ w.length := by
 induction hn : w.length using Nat.strongRecOn generalizing w with
 | _ n ih =>
  cases w with
  | nil => rw [Jeb]; simp
  | cons c w =>
   rw [List.length_cons] at hn
   rw [Jeb]
   split
   ·omega
   ·split
    ·have he := zaz w
     have := ih (w.drop (z8 w).2).length (by rw [List.length_drop]; omega) (w.drop (z8 w).2) rfl
     rw [List.length_drop] at this
     omega
    ·have := ih w.length (by omega) w rfl
     omega
theorem jed (w : List UInt8) : (ZX w).2 ≤ w.length := by
 have ha := JbL w
 have hu := zeQ (w.drop (nSp w))
 have hb := jgf (w.drop (nSp w + (jbL (w.drop (nSp w))).2))
 rw [List.length_drop] at hu hb
 unfold ZX
 simp only
 split
 ·simp only; omega
 ·split
  ·rename_i q
   have := JdI (w := w) (n := nSp w + (jbL (w.drop (nSp w))).2) (by rw [q]; decide)
   simp only
   omega
  ·simp only; omega
theorem Zfa {w : List UInt8} : (jaV w).2 ≤ w.length := by
 have hn := jbn w
 unfold jaV
 simp only
 split
 ·simp only; omega
 ·rename_i q
  have q : hb (w.drop (Jn w).2) = 40 := by simpa using q
  have hl := JdI (w := w) (n := (Jn w).2) (by rw [q]; decide)
  have hu := jed (w.drop (Jn w).2).tail
  rw [List.length_tail, List.length_drop] at hu
  split
  ·simp only; omega
  ·simp only; omega
theorem Jfa {w : List UInt8} (h : ZK w = true) : 1 ≤ (jaV w).2 := by
 have := ZfI (jgM h)
 unfold jaV
 simp only
 split
 ·simp only; omega
 ·split <;> simp only <;> omega
theorem Zed (w : List UInt8) : (zQ w).2 ≤ w.length := by
 have h := jcZ w
 have e : (zb1 w).2.2 = JX w := rfl
 have hn := jbn (w.drop (zb1 w).2.2)
 rw [List.length_drop] at hn
 unfold zQ
 simp only
 split
 ·simp only; omega
 ·split
  ·rename_i q
   have := JdI (w := w) (n := (zb1 w).2.2) (by rw [q]; decide)
   simp only
   omega
  ·simp only; omega
theorem Jed {w : List UInt8} (h : Zbm w = true) : 1 ≤ (zQ w).2 := by
 have h := zeD h
 have e : (zb1 w).2.2 = JX w := rfl
 unfold zQ
 simp only
 split
 ·simp only; omega
 ·split <;> simp only <;> omega
theorem zbM {a w : List UInt8} (h : a.isPrefixOf w = true) : a.length ≤ w.length := (List.isPrefixOf_iff_prefix.mp h).length_le
theorem Zgf {w : List UInt8} (hw : w ≠ []) : 1 ≤ (Jga w).2 ∧ (Jga w).2 ≤ w.length := by
 have hl : 1 ≤ w.length := by cases w with | nil => exact absurd rfl hw | cons c w => simp
 unfold Jga
 split
 ·rename_i q; exact ⟨Jfa q, Zfa⟩
 ·split <;> exact ⟨Nat.le_refl _, hl⟩
theorem Jgf {w : List UInt8} (hw : w ≠ []) : 1 ≤ (JfV w).2 ∧ (JfV w).2 ≤ w.length := by
 unfold JfV
 split
 ·have := jbn w.tail
  cases w with
  | nil => exact absurd rfl hw
  | cons c w => simp only [List.tail_cons, List.length_cons] at this ⊢; omega
 ·exact Zgf hw
theorem zgg {w : List UInt8} (hw : w ≠ []) : 1 ≤ (Je9 w).2 ∧ (Je9 w).2 ≤ w.length := by
 unfold Je9
 split
 ·rename_i q; exact ⟨Jed q, Zed w⟩
 ·split
  ·rename_i q; exact ⟨by decide, zbM q⟩
  ·split
   ·rename_i q; exact ⟨by decide, zbM q⟩
   ·exact Jgf hw
theorem Zcz {w : List UInt8} (hw : w ≠ []) : 1 ≤ (ZN w).2 ∧ (ZN w).2 ≤ w.length := by
 unfold ZN
 split
 ·rename_i q; exact ⟨zgM q, JbL w⟩
 ·split
  ·have := zgf (hb w) w.tail
   cases w with
   | nil => exact absurd rfl hw
   | cons c w => simp only [List.tail_cons, List.length_cons] at this ⊢; omega
  ·split
   ·have := jbn w.tail
    cases w with
    | nil => exact absurd rfl hw
    | cons c w => simp only [List.tail_cons, List.length_cons] at this ⊢; omega
   ·exact zgg hw
theorem ZcZ : ∀ (w : List UInt8) (k : Nat), ZdH w = some k → k + 2 ≤ w.length
 | [], k, h => by cases h
 | c :: w, k, h => by
  unfold ZdH at h
  split at h
  ·rename_i q
   obtain rfl := Option.some.inj h
   cases w with
   | nil => exact absurd q.2 (by decide)
   | cons d w => simp
  ·cases hc : ZdH w with
   | none => rw [hc] at h; cases h
   | some m =>
    rw [hc] at h
    have h : m + 1 = k := Option.some.inj h
    have := ZcZ w m hc
    rw [List.length_cons]
    omega
theorem jeR (w : List UInt8) : zav w ≤ w.length := by
 induction hn : w.length using Nat.strongRecOn generalizing w with
 | _ n ih =>
  rw [zav]
  split
  ·rename_i q
   have hp := zbM q
   simp only [List.length_cons, List.length_nil] at hp
   split
   ·omega
   ·rename_i k hk
    have := ZcZ _ _ hk
    rw [List.length_drop] at this
    split
    ·exact Nat.zero_le _
    ·have h2 := ih (w.drop (2 + (k + 2))).length (by rw [List.length_drop]; omega) _ rfl
     rw [List.length_drop] at h2
     omega
  ·exact Nat.zero_le _
def jeD : J9 := fun s c K => K (c.isPrefixOf s)
theorem jhy (s c K) (h : jeD s c K) : zdA s c K := by
 unfold jeD at h
 refine ⟨fun q => ⟨⟨by omega, of_decide_eq_true q⟩, ?_⟩, fun q => ?_⟩
 ·have e : (s.take (c.length : Int).toNat == c) = c.isPrefixOf s := by
   rw [Int.toNat_natCast]
   cases q : c.isPrefixOf s with
   | true =>
    have := List.prefix_iff_eq_take.mp (List.isPrefixOf_iff_prefix.mp q)
    rw [← this]; exact beq_self_eq_true _
   | false =>
    cases q2 : s.take c.length == c with
    | false => rfl
    | true =>
     have := List.isPrefixOf_iff_prefix.mpr (List.prefix_iff_eq_take.mpr (eq_of_beq q2).symm)
     rw [q] at this; cases this
  rw [e]; exact h
 ·have q := of_decide_eq_false q
  cases q2 : c.isPrefixOf s with
  | false => rw [q2] at h; exact h
  | true => have := zbM q2; exfalso; omega
def jgg : ZC := fun s c K => K (c.isPrefixOf s)
theorem jhQ (s c K) (h : jgg s c K) : JdA jeD s c K := h
def JfI : Jan := fun s c K => s.length ≤ 1000000 ∧ K (Lib.index s c)
def zfJ : zz := fun s c K => s.length ≤ 1000000 ∧ K (Lib.index s c)
theorem Zhy (s c K) (h : zfJ s c K) : zcc JfI s c K := h
theorem JcZ : ∀ w : List UInt8, Lib.index w [42, 47] = match ZdH w with | none => -1 | some k => (k : Int)
 | [] => rfl
 | c :: w => by
  have ih := JcZ w
  have hp : ([42, 47] : List UInt8).isPrefixOf (c :: w) = decide (c = 42 ∧ hb w = 47) := by
   by_cases q : c = 42
   ·cases w with
    | nil => subst q; rfl
    | cons d w =>
     subst q
     by_cases q2 : (d.toNat : Int) = 47
     ·have : d = 47 := UInt8.toNat_inj.mp (by show d.toNat = 47; omega)
      subst this
      simp [List.isPrefixOf]
     ·have : (47 : UInt8) ≠ d := fun e => q2 (by rw [← e]; rfl)
      simp [List.isPrefixOf, q2, this]
   ·have : (42 : UInt8) ≠ c := fun e => q e.symm
    simp [List.isPrefixOf, q, this]
  unfold Lib.index ZdH
  rw [hp]
  by_cases q : c = 42 ∧ hb w = 47
  ·rw [if_pos (decide_eq_true q), if_pos q]; rfl
  ·rw [if_neg (by rw [decide_eq_false q]; decide), if_neg q, ih]
   cases ZdH w with
   | none => rfl
   | some k =>
    simp only [Option.map_some]
    rw [if_neg (by simp only [beq_iff_eq]; omega), Int.natCast_add]
    rfl
theorem Zhe (s : List UInt8) (hs : s.length ≤ 1000000) (K : Int → Prop) : ∀ (n : Nat) (w : List UInt8) (i : Int), w.length ≤ n → s.drop i.toNat = w → 0 ≤ i → i ≤ s.length → K (i + (zav w : Int)) → ∃ m, ZP jgg zfJ m s i (fun y => K y) (fun y => K y) := by
 intro n
 induction n with
 | zero =>
  intro w i hn hd h0 hi h
  have : w = [] := List.length_eq_zero_iff.mp (by omega)
  subst this
  rw [zav] at h
  refine ⟨1, ⟨h0, hi⟩, fun q => ?_, fun _ => by simpa [List.isPrefixOf] using h⟩
  rw [hd] at q; exact absurd q (by decide)
 | succ n ih =>
  intro w i hn hd h0 hi h
  have hlw := congrArg List.length hd
  rw [List.length_drop] at hlw
  rw [zav] at h
  cases q : ([47, 42] : List UInt8).isPrefixOf w with
  | false =>
   rw [q] at h
   refine ⟨1, ⟨h0, hi⟩, fun q2 => ?_, fun _ => by simpa using h⟩
   rw [hd, q] at q2; cases q2
  | true =>
   have hp := zbM q
   simp only [List.length_cons, List.length_nil] at hp
   rw [q, if_pos rfl] at h
   have e2 : s.drop (i + 2).toNat = w.drop 2 := by rw [← hd]; exact Za9 h0 2
   have hidx := JcZ (w.drop 2)
   cases hc : ZdH (w.drop 2) with
   | none =>
    rw [hc] at h hidx
    refine ⟨1, ⟨h0, hi⟩, fun _ => ⟨zY (by omega), ⟨by omega, by omega⟩, by rw [List.length_drop]; omega, ?_⟩, fun q2 => ?_⟩
    ·rw [e2, hidx]
     refine ⟨fun _ => ?_, fun q2 => absurd q2 (by decide)⟩
     have e : i + (w.length : Int) = s.length := by omega
     simp only at h
     rw [e] at h
     exact h
    ·rw [hd, q] at q2; cases q2
   | some k =>
    rw [hc] at h hidx
    simp only at h hidx
    have hk := ZcZ _ _ hc
    rw [List.length_drop] at hk
    rw [if_neg (fun e => by rw [e] at hp; simp at hp)] at h
    obtain ⟨m, hm⟩ := ih (w.drop (2 + (k + 2))) (i + 2 + ((k : Int) + 2)) (by rw [List.length_drop]; omega) (by
     rw [← hd, ← Za9 h0]
     congr 2
     omega) (by omega) (by omega) (by
     have e : i + 2 + ((k : Int) + 2) + (zav (w.drop (2 + (k + 2))) : Int) = i + ((2 + (k + 2) + zav (w.drop (2 + (k + 2))) : Nat) : Int) := by omega
     rw [e]; exact h)
    refine ⟨m + 1, ⟨h0, hi⟩, fun _ => ⟨zY (by omega), ⟨by omega, by omega⟩, by rw [List.length_drop]; omega, ?_⟩, fun q2 => ?_⟩
    ·rw [e2, hidx]
     exact ⟨fun q2 => (by exfalso; have := of_decide_eq_true q2; omega), fun _ => ⟨zY (by omega), zY (by omega), hm⟩⟩
    ·rw [hd, q] at q2; cases q2
def jfJ : Je := fun s i K => (0 ≤ i ∧ i ≤ s.length ∧ s.length ≤ 1000000) ∧ K (i + (zav (s.drop i.toNat) : Int))
theorem Jhy (s i K) (h : jfJ s i K) : zao jgg zfJ s i K := Zhe s h.1.2.2 K _ _ _ (Nat.le_refl _) rfl h.1.1 h.1.2.1 h.2
theorem ZeR : marksL = marksA := rfl
def Zb1 : zah := fun c K => (0 ≤ c ∧ c ≤ 255) ∧ K (decide (jcY c ≠ 0))
theorem Jhe (c K) (h : Zb1 c K) : Zcc c K := by
 obtain ⟨⟨h0, h1⟩, h⟩ := h
 unfold jcY at h
 refine ⟨zY (by omega), fun q => ⟨⟨h0, of_decide_eq_true q⟩, ?_, ?_⟩, fun q => ?_⟩
 ·have := of_decide_eq_true q
  show 0 + c.toNat * 1 < 126
  omega
 ·rw [if_pos (of_decide_eq_true q)] at h
  rw [Nat.zero_add, Nat.mul_one, ZeR]
  exact h
 ·rw [if_neg (of_decide_eq_false q)] at h
  exact h
def Jbn : zG := fun s i K => (0 ≤ i ∧ i ≤ s.length ∧ s.length ≤ 400000) ∧ K (zQ (s.drop i.toNat)).1 (i + ((zQ (s.drop i.toNat)).2 : Int))
theorem ZfJ (s i K) (h : Jbn s i K) : jaL jge jao Jbz Zh s i K := by
 obtain ⟨⟨h0, hi, hs⟩, h⟩ := h
 have hl := jcZ (s.drop i.toNat)
 rw [List.length_drop] at hl
 have e : (zb1 (s.drop i.toNat)).2.2 = JX (s.drop i.toNat) := rfl
 unfold zQ at h
 simp only at h
 rw [← Za9 h0] at h
 rw [e] at h
 refine ⟨⟨h0, hi, hs⟩, ?_⟩
 rw [e]
 refine ⟨⟨⟨by omega, by omega, by omega⟩, by omega⟩, fun q => ⟨⟨by omega, by omega, by omega⟩, ?_⟩, fun q => ⟨by omega, fun q2 => ⟨zY (by omega), ?_⟩, fun q2 => ?_⟩⟩
 ·rw [if_pos q] at h
  simp only [Int.natCast_add, ← Int.add_assoc] at h
  exact h
 ·rw [if_neg (by rw [q]; decide), if_pos (of_decide_eq_true q2)] at h
  simp only [Int.natCast_add, ← Int.add_assoc] at h
  exact h
 ·rw [if_neg (by rw [q]; decide), if_neg (of_decide_eq_false q2)] at h
  exact h
theorem zgt {s : List UInt8} {i : Int} {c : UInt8} {v : List UInt8} {K : Tok → Int → Prop} (h0 : 0 ≤ i) (hs : s.length ≤ 400000) (hd : s.drop i.toNat = c :: v) (h : K (Jga (c :: v)).1 (i + ((Jga (c :: v)).2 : Int))) :
  (jao s i (fun y18 => ((y18 = true → (za6 s i (fun y19 y20 => K (Tok.mk y19.kind y19.text y19.num y19.unit y19.flag) y20))) ∧ (y18 = false → ((0 ≤ i ∧ i < (s.length : Int)) ∧ (Zb1 ((s.getD i.toNat 0).toNat : Int) (fun y21 => ((y21 = true → ((0 ≤ i ∧ i < (s.length : Int)) ∧ ((0 ≤ ((s.getD i.toNat 0).toNat : Int) ∧ ((s.getD i.toNat 0).toNat : Int) < (126 : Int)) ∧ (0 + ((s.getD i.toNat 0).toNat : Int).toNat * 1 < marksL.length ∧ (I64 (i + (1 : Int)) ∧ K (Tok.mk (marksL.getD (0 + ((s.getD i.toNat 0).toNat : Int).toNat * 1) 0) ([] : List UInt8) (0 : Int) ([] : List UInt8) false) (i + (1 : Int))))))) ∧ (y21 = false → (I64 (i + (1 : Int)) ∧ ((0 ≤ i ∧ i ≤ (i + (1 : Int)) ∧ (i + (1 : Int)) ≤ (s.length : Int)) ∧ (I64 (i + (1 : Int)) ∧ K (Tok.mk (9 : Int) ((s.drop i.toNat).take ((i + (1 : Int)).toNat - i.toNat)) (0 : Int) ([] : List UInt8) false) (i + (1 : Int)))))))))))))) := by
 obtain ⟨hl, hc, hn, _⟩ := Jw h0 hd
 unfold Jga at h
 refine ⟨⟨⟨h0, by omega, by omega⟩, by omega⟩, ?_⟩
 rw [hd, hc]
 refine ⟨fun q => ⟨⟨h0, by omega, by omega⟩, by omega, ?_⟩, fun q => ⟨⟨h0, hl⟩, jfG c, fun q2 => ?_, fun q2 => ?_⟩⟩
 ·rw [hd]
  rw [if_pos q] at h
  generalize jaV (c :: v) = r at h ⊢
  exact h
 ·have q3 := of_decide_eq_true q2
  rw [if_neg (by rw [q]; decide), Jf, if_pos q3] at h
  have hlt : (c.toNat : Int) < 126 := by
   by_cases q4 : (c.toNat : Int) < 126
   ·exact q4
   ·unfold jcY at q3; rw [if_neg q4] at q3; exact absurd rfl q3
  refine ⟨⟨h0, hl⟩, ⟨(jfG c).1, hlt⟩, by show 0 + (c.toNat : Int).toNat * 1 < 126; omega, zY (by omega), ?_⟩
  rw [Nat.zero_add, Nat.mul_one, ZeR]
  unfold jcY at h
  rw [if_pos hlt] at h
  exact h
 ·have q3 := of_decide_eq_false q2
  rw [if_neg (by rw [q]; decide), Jf, if_neg q3] at h
  refine ⟨zY (by omega), ⟨h0, by omega, by omega⟩, zY (by omega), ?_⟩
  have e : (i + 1).toNat - i.toNat = 1 := by omega
  rw [e]
  exact h
theorem zhf {s : List UInt8} {i : Int} {c : UInt8} {v : List UInt8} {K : Tok → Int → Prop} (h0 : 0 ≤ i) (hs : s.length ≤ 400000) (hd : s.drop i.toNat = c :: v) (h : K (JfV (c :: v)).1 (i + ((JfV (c :: v)).2 : Int))) :
  ((0 ≤ i ∧ i < (s.length : Int)) ∧ (((decide (((s.getD i.toNat 0).toNat : Int) = (64 : Int))) = true → (I64 (i + (1 : Int)) ∧ (jao s (i + (1 : Int)) (fun y15 => ((y15 = true → (I64 (i + (1 : Int)) ∧ (Jbz s (i + (1 : Int)) (fun y16 y17 => K (Tok.mk (3 : Int) y16 (0 : Int) ([] : List UInt8) false) y17)))) ∧ (y15 = false → (jao s i (fun y18 => ((y18 = true → (za6 s i (fun y19 y20 => K (Tok.mk y19.kind y19.text y19.num y19.unit y19.flag) y20))) ∧ (y18 = false → ((0 ≤ i ∧ i < (s.length : Int)) ∧ (Zb1 ((s.getD i.toNat 0).toNat : Int) (fun y21 => ((y21 = true → ((0 ≤ i ∧ i < (s.length : Int)) ∧ ((0 ≤ ((s.getD i.toNat 0).toNat : Int) ∧ ((s.getD i.toNat 0).toNat : Int) < (126 : Int)) ∧ (0 + ((s.getD i.toNat 0).toNat : Int).toNat * 1 < marksL.length ∧ (I64 (i + (1 : Int)) ∧ K (Tok.mk (marksL.getD (0 + ((s.getD i.toNat 0).toNat : Int).toNat * 1) 0) ([] : List UInt8) (0 : Int) ([] : List UInt8) false) (i + (1 : Int))))))) ∧ (y21 = false → (I64 (i + (1 : Int)) ∧ ((0 ≤ i ∧ i ≤ (i + (1 : Int)) ∧ (i + (1 : Int)) ≤ (s.length : Int)) ∧ (I64 (i + (1 : Int)) ∧ K (Tok.mk (9 : Int) ((s.drop i.toNat).take ((i + (1 : Int)).toNat - i.toNat)) (0 : Int) ([] : List UInt8) false) (i + (1 : Int)))))))))))))))))))) ∧ ((decide (((s.getD i.toNat 0).toNat : Int) = (64 : Int))) = false → (jao s i (fun y22 => ((y22 = true → (za6 s i (fun y23 y24 => K (Tok.mk y23.kind y23.text y23.num y23.unit y23.flag) y24))) ∧ (y22 = false → ((0 ≤ i ∧ i < (s.length : Int)) ∧ (Zb1 ((s.getD i.toNat 0).toNat : Int) (fun y25 => ((y25 = true → ((0 ≤ i ∧ i < (s.length : Int)) ∧ ((0 ≤ ((s.getD i.toNat 0).toNat : Int) ∧ ((s.getD i.toNat 0).toNat : Int) < (126 : Int)) ∧ (0 + ((s.getD i.toNat 0).toNat : Int).toNat * 1 < marksL.length ∧ (I64 (i + (1 : Int)) ∧ K (Tok.mk (marksL.getD (0 + ((s.getD i.toNat 0).toNat : Int).toNat * 1) 0) ([] : List UInt8) (0 : Int) ([] : List UInt8) false) (i + (1 : Int))))))) ∧ (y25 = false → (I64 (i + (1 : Int)) ∧ ((0 ≤ i ∧ i ≤ (i + (1 : Int)) ∧ (i + (1 : Int)) ≤ (s.length : Int)) ∧ (I64 (i + (1 : Int)) ∧ K (Tok.mk (9 : Int) ((s.drop i.toNat).take ((i + (1 : Int)).toNat - i.toNat)) (0 : Int) ([] : List UInt8) false) (i + (1 : Int))))))))))))))))) := by
 obtain ⟨hl, hc, hn, _⟩ := Jw h0 hd
 unfold JfV at h
 refine ⟨⟨h0, hl⟩, fun q => ?_, fun q => ?_⟩
 ·have q := of_decide_eq_true q
  rw [hc] at q
  refine ⟨zY (by omega), ⟨⟨⟨by omega, by omega, by omega⟩, by omega⟩, ?_⟩⟩
  rw [hn]
  refine ⟨fun q2 => ⟨zY (by omega), ⟨by omega, by omega, by omega⟩, ?_⟩, fun q2 => ?_⟩
  ·rw [Jf, if_pos ⟨q, q2⟩] at h
   rw [hn]
   have e : i + ((1 + (Jn v).2 : Nat) : Int) = i + 1 + ((Jn v).2 : Int) := by omega
   rw [List.tail_cons, e] at h
   exact h
  ·rw [if_neg (fun x => by have := x.2; rw [List.tail_cons, q2] at this; cases this)] at h
   exact zgt (K := K) h0 hs hd h
 ·have q := of_decide_eq_false q
  rw [hc] at q
  rw [if_neg (fun x => q (by rw [Jf] at x; exact x.1))] at h
  exact zgt (K := K) h0 hs hd h
theorem jgt {s : List UInt8} {i : Int} {c : UInt8} {v : List UInt8} {K : Tok → Int → Prop} (h0 : 0 ≤ i) (hs : s.length ≤ 400000) (hd : s.drop i.toNat = c :: v) (h : K (Je9 (c :: v)).1 (i + ((Je9 (c :: v)).2 : Int))) :
  (zec s i (fun y10 => ((y10 = true → (Jbn s i (fun y11 y12 => K (Tok.mk y11.kind y11.text y11.num y11.unit y11.flag) y12))) ∧ (y10 = false → ((0 ≤ i ∧ i ≤ (s.length : Int)) ∧ (jgg (s.drop i.toNat) ([45, 45, 62] : List UInt8) (fun y13 => ((y13 = true → (I64 (i + (3 : Int)) ∧ K (Tok.mk (15 : Int) ([] : List UInt8) (0 : Int) ([] : List UInt8) false) (i + (3 : Int)))) ∧ (y13 = false → ((0 ≤ i ∧ i ≤ (s.length : Int)) ∧ (jgg (s.drop i.toNat) ([60, 33, 45, 45] : List UInt8) (fun y14 => ((y14 = true → (I64 (i + (4 : Int)) ∧ K (Tok.mk (14 : Int) ([] : List UInt8) (0 : Int) ([] : List UInt8) false) (i + (4 : Int)))) ∧ (y14 = false → ((0 ≤ i ∧ i < (s.length : Int)) ∧ (((decide (((s.getD i.toNat 0).toNat : Int) = (64 : Int))) = true → (I64 (i + (1 : Int)) ∧ (jao s (i + (1 : Int)) (fun y15 => ((y15 = true → (I64 (i + (1 : Int)) ∧ (Jbz s (i + (1 : Int)) (fun y16 y17 => K (Tok.mk (3 : Int) y16 (0 : Int) ([] : List UInt8) false) y17)))) ∧ (y15 = false → (jao s i (fun y18 => ((y18 = true → (za6 s i (fun y19 y20 => K (Tok.mk y19.kind y19.text y19.num y19.unit y19.flag) y20))) ∧ (y18 = false → ((0 ≤ i ∧ i < (s.length : Int)) ∧ (Zb1 ((s.getD i.toNat 0).toNat : Int) (fun y21 => ((y21 = true → ((0 ≤ i ∧ i < (s.length : Int)) ∧ ((0 ≤ ((s.getD i.toNat 0).toNat : Int) ∧ ((s.getD i.toNat 0).toNat : Int) < (126 : Int)) ∧ (0 + ((s.getD i.toNat 0).toNat : Int).toNat * 1 < marksL.length ∧ (I64 (i + (1 : Int)) ∧ K (Tok.mk (marksL.getD (0 + ((s.getD i.toNat 0).toNat : Int).toNat * 1) 0) ([] : List UInt8) (0 : Int) ([] : List UInt8) false) (i + (1 : Int))))))) ∧ (y21 = false → (I64 (i + (1 : Int)) ∧ ((0 ≤ i ∧ i ≤ (i + (1 : Int)) ∧ (i + (1 : Int)) ≤ (s.length : Int)) ∧ (I64 (i + (1 : Int)) ∧ K (Tok.mk (9 : Int) ((s.drop i.toNat).take ((i + (1 : Int)).toNat - i.toNat)) (0 : Int) ([] : List UInt8) false) (i + (1 : Int)))))))))))))))))))) ∧ ((decide (((s.getD i.toNat 0).toNat : Int) = (64 : Int))) = false → (jao s i (fun y22 => ((y22 = true → (za6 s i (fun y23 y24 => K (Tok.mk y23.kind y23.text y23.num y23.unit y23.flag) y24))) ∧ (y22 = false → ((0 ≤ i ∧ i < (s.length : Int)) ∧ (Zb1 ((s.getD i.toNat 0).toNat : Int) (fun y25 => ((y25 = true → ((0 ≤ i ∧ i < (s.length : Int)) ∧ ((0 ≤ ((s.getD i.toNat 0).toNat : Int) ∧ ((s.getD i.toNat 0).toNat : Int) < (126 : Int)) ∧ (0 + ((s.getD i.toNat 0).toNat : Int).toNat * 1 < marksL.length ∧ (I64 (i + (1 : Int)) ∧ K (Tok.mk (marksL.getD (0 + ((s.getD i.toNat 0).toNat : Int).toNat * 1) 0) ([] : List UInt8) (0 : Int) ([] : List UInt8) false) (i + (1 : Int))))))) ∧ (y25 = false → (I64 (i + (1 : Int)) ∧ ((0 ≤ i ∧ i ≤ (i + (1 : Int)) ∧ (i + (1 : Int)) ≤ (s.length : Int)) ∧ (I64 (i + (1 : Int)) ∧ K (Tok.mk (9 : Int) ((s.drop i.toNat).take ((i + (1 : Int)).toNat - i.toNat)) (0 : Int) ([] : List UInt8) false) (i + (1 : Int))))))))))))))))))))))))))))))) := by
 obtain ⟨hl, hc, hn, hv⟩ := Jw h0 hd
 unfold Je9 at h
 refine ⟨⟨⟨h0, by omega, by omega⟩, by omega⟩, ?_⟩
 refine ⟨fun q => ⟨⟨h0, by omega, hs⟩, ?_⟩, fun q => ⟨⟨h0, by omega⟩, fun q2 => ?_, fun q2 => ⟨⟨h0, by omega⟩, fun q3 => ?_, fun q3 => ?_⟩⟩⟩
 ·rw [hd] at q
  rw [if_pos q] at h
  rw [hd]
  generalize zQ (c :: v) = r at h ⊢
  exact h
 ·rw [hd] at q q2
  rw [if_neg (by rw [q]; decide), if_pos q2] at h
  have h3 := zbM q2
  have h3 : 3 ≤ v.length + 1 := h3
  have h4 : -100000000 ≤ i + 3 ∧ i + 3 ≤ 100000000 := by omega
  exact ⟨zY h4, h⟩
 ·rw [hd] at q q2 q3
  rw [if_neg (by rw [q]; decide), if_neg (by rw [q2]; decide), if_pos q3] at h
  have h3 := zbM q3
  have h3 : 4 ≤ v.length + 1 := h3
  have h4 : -100000000 ≤ i + 4 ∧ i + 4 ≤ 100000000 := by omega
  exact ⟨zY h4, h⟩
 ·rw [hd] at q q2 q3
  rw [if_neg (by rw [q]; decide), if_neg (by rw [q2]; decide), if_neg (by rw [q3]; decide)] at h
  exact zhf (K := K) h0 hs hd h
def zc0 : Zk := fun s i K => (0 ≤ i ∧ i < s.length ∧ s.length ≤ 400000) ∧ K (ZN (s.drop i.toNat)).1 (i + ((ZN (s.drop i.toNat)).2 : Int))
theorem ZgM (s i K) (h : zc0 s i K) : zbi zas jgc JeB zgd ZbL jao Jbz zec Jbn jgg za6 Zb1 s i K := by
 obtain ⟨⟨h0, hl, hs⟩, h⟩ := h
 cases hd : s.drop i.toNat with
 | nil => have := jQ hd; exfalso; omega
 | cons c v =>
 obtain ⟨_, hc, hn, hv⟩ := Jw h0 hd
 rw [hd] at h
 unfold ZN at h
 refine ⟨⟨h0, hl⟩, fun q => ⟨⟨h0, by omega, by omega⟩, ?_⟩, fun q => ⟨⟨h0, hl⟩, fun q2 => ⟨⟨h0, hl, by omega⟩, ?_⟩, fun q2 => ⟨⟨h0, hl⟩, fun q3 => ⟨zY (by omega), ⟨by omega, by omega, by omega⟩, fun q4 => ⟨zY (by omega), ⟨⟨by omega, by omega, by omega⟩, by omega⟩, zY (by omega), ⟨by omega, by omega, by omega⟩, ?_⟩, fun q4 => ?_⟩, fun q3 => ?_⟩⟩⟩
 ·rw [hc] at q
  rw [Jf, if_pos q] at h
  rw [hd]
  exact h
 ·rw [hc] at q q2
  rw [Jf, if_neg (by rw [q]; decide), if_pos q2, List.tail_cons] at h
  rw [hd, hn, Jf]
  unfold ZfG
  have e : i + ((1 + (strM (c.toNat : Int) v).2.2 : Nat) : Int) = i + 1 + ((strM (c.toNat : Int) v).2.2 : Int) := by omega
  rw [e] at h
  generalize strM (c.toNat : Int) v = r at h ⊢
  exact h
 ·rw [hc] at q q2
  have q3 := of_decide_eq_true q3
  rw [hc] at q3
  rw [hn] at q4 ⊢
  rw [Jf, if_neg (by rw [q]; decide), if_neg (by rw [q2]; decide), if_pos ⟨q3, q4⟩, List.tail_cons] at h
  have e : i + ((1 + (Jn v).2 : Nat) : Int) = i + 1 + ((Jn v).2 : Int) := by omega
  rw [e] at h
  exact h
 ·rw [hc] at q q2
  rw [hn] at q4
  rw [Jf, if_neg (by rw [q]; decide), if_neg (by rw [q2]; decide), if_neg (fun x => by have := x.2; rw [List.tail_cons, q4] at this; cases this)] at h
  exact jgt (K := K) h0 hs hd h
 ·rw [hc] at q q2
  have q3 := of_decide_eq_false q3
  rw [hc] at q3
  rw [Jf, if_neg (by rw [q]; decide), if_neg (by rw [q2]; decide), if_neg (fun x => q3 x.1)] at h
  exact jgt (K := K) h0 hs hd h
end Go.Proofs.YtbpbaicbaehhjaaGreatDoor
namespace Go.Proofs.YtbpbaicbaehhjaaGreatDoor
open Go.Vm Go.Sx Go.RowKit
def jgZ : zd := fun s K => K (decide (hb s = 10))
theorem ZhQ (s K) (h : jgZ s K) : j6 s K := by
 unfold jgZ at h
 cases s with
 | nil => exact ⟨fun q => absurd q (by decide), fun _ => h⟩
 | cons c w => exact ⟨fun _ => ⟨⟨by omega, by rw [List.length_cons]; omega⟩, h⟩, fun q => (by exfalso; have := of_decide_eq_false q; rw [List.length_cons] at this; omega)⟩
theorem zfb (s : List UInt8) (hs : s.length ≤ 1000000) (Ke : List UInt8 → Prop) : ∀ (w : List UInt8) (i : Int) (b : List UInt8), s.drop i.toNat = w → 0 ≤ i → b.length + 3 * w.length ≤ 10000000 → Ke (b ++ jx w) → ∃ m, ZU jgZ m s i b Ke
 | [], i, b, hd, h0, hbb, h => by
  have := jQ hd
  exact ⟨1, fun q => (by exfalso; have := of_decide_eq_true q; omega), fun _ => by simpa [jx] using h⟩
 | c :: w, i, b, hd, h0, hbb, h => by
  obtain ⟨hl, hc, hn, hv⟩ := Jw h0 hd
  rw [List.length_cons] at hbb
  have nofin : decide (i < (s.length : Int)) = false → False := fun q => by have := of_decide_eq_false q; omega
  by_cases c1 : (c.toNat : Int) = 0
  ·have e : jx (c :: w) = [239, 191, 189] ++ jx w := by rw [jx, if_pos c1]
   rw [e, ← List.append_assoc] at h
   obtain ⟨m, hm⟩ := zfb s hs Ke w (i + 1) _ hn (by omega) (by rw [List.length_append]; simp only [List.length_cons, List.length_nil]; omega) h
   refine ⟨m + 1, fun _ => ⟨⟨h0, hl⟩, fun _ => ⟨by simp only [List.length_cons, List.length_nil]; omega, zY (by omega), hm⟩, fun q => ?_⟩, fun q => (nofin q).elim⟩
   exact absurd (by rw [hc]; exact c1) (of_decide_eq_false q)
  ·have n1 : ¬ decide (((s.getD i.toNat 0).toNat : Int) = 0) = true := fun q => c1 (by rw [← hc]; exact of_decide_eq_true q)
   by_cases c2 : (c.toNat : Int) = 12
   ·have e : jx (c :: w) = [10] ++ jx w := by rw [jx, if_neg c1, if_pos c2]; rfl
    rw [e, ← List.append_assoc] at h
    obtain ⟨m, hm⟩ := zfb s hs Ke w (i + 1) _ hn (by omega) (by rw [List.length_append]; simp only [List.length_cons, List.length_nil]; omega) h
    refine ⟨m + 1, fun _ => ⟨⟨h0, hl⟩, fun q => absurd q n1, fun _ => ⟨fun _ => ⟨by decide, by simp only [List.length_cons, List.length_nil]; omega, zY (by omega), hm⟩, fun q => ?_⟩⟩, fun q => (nofin q).elim⟩
    exact absurd (by rw [hc]; exact c2) (of_decide_eq_false q)
   ·have n2 : ¬ decide (((s.getD i.toNat 0).toNat : Int) = 12) = true := fun q => c2 (by rw [← hc]; exact of_decide_eq_true q)
    by_cases c3 : (c.toNat : Int) = 13
    ·have n3 : ¬ decide (((s.getD i.toNat 0).toNat : Int) = 13) = false := fun q => (of_decide_eq_false q) (by rw [hc]; exact c3)
     by_cases c4 : hb w = 10
     ·have e : jx (c :: w) = jx w := by rw [jx, if_neg c1, if_neg c2, if_pos c3, if_pos c4]
      rw [e] at h
      obtain ⟨m, hm⟩ := zfb s hs Ke w (i + 1) _ hn (by omega) (by omega) h
      refine ⟨m + 1, fun _ => ⟨⟨h0, hl⟩, fun q => absurd q n1, fun _ => ⟨fun q => absurd q n2, fun _ => ⟨fun _ => ⟨zY (by omega), ⟨by omega, by omega⟩, fun q => ?_, fun _ => ⟨zY (by omega), hm⟩⟩, fun q => absurd q n3⟩⟩⟩, fun q => (nofin q).elim⟩
      rw [hn, decide_eq_true c4] at q; exact absurd q (by decide)
     ·have e : jx (c :: w) = [10] ++ jx w := by rw [jx, if_neg c1, if_neg c2, if_pos c3, if_neg c4]; rfl
      rw [e, ← List.append_assoc] at h
      obtain ⟨m, hm⟩ := zfb s hs Ke w (i + 1) _ hn (by omega) (by rw [List.length_append]; simp only [List.length_cons, List.length_nil]; omega) h
      refine ⟨m + 1, fun _ => ⟨⟨h0, hl⟩, fun q => absurd q n1, fun _ => ⟨fun q => absurd q n2, fun _ => ⟨fun _ => ⟨zY (by omega), ⟨by omega, by omega⟩, fun _ => ⟨by decide, by simp only [List.length_cons, List.length_nil]; omega, zY (by omega), hm⟩, fun q => ?_⟩, fun q => absurd q n3⟩⟩⟩, fun q => (nofin q).elim⟩
      rw [hn, decide_eq_false c4] at q; exact absurd q (by decide)
    ·have n3 : ¬ decide (((s.getD i.toNat 0).toNat : Int) = 13) = true := fun q => c3 (by rw [← hc]; exact of_decide_eq_true q)
     have e : jx (c :: w) = [c] ++ jx w := by rw [jx, if_neg c1, if_neg c2, if_neg c3]; rfl
     rw [e, ← List.append_assoc] at h
     obtain ⟨m, hm⟩ := zfb s hs Ke w (i + 1) _ hn (by omega) (by rw [List.length_append]; simp only [List.length_cons, List.length_nil]; omega) h
     refine ⟨m + 1, fun _ => ⟨⟨h0, hl⟩, fun q => absurd q n1, fun _ => ⟨fun q => absurd q n2, fun _ => ⟨fun q => absurd q n3, fun _ => ⟨⟨h0, hl⟩, ?_⟩⟩⟩⟩, fun q => (nofin q).elim⟩
     rw [hc, zgZ]
     exact ⟨jfG c, by simp only [List.length_cons, List.length_nil]; omega, zY (by omega), hm⟩
def jc0 : jB := fun s K => (4000 < s.length → K [] 28) ∧ (s.length ≤ 4000 → K (jx s) 0)
theorem JgM (s K) (h : jc0 s K) : zcN jgZ s K := by
 refine ⟨fun q => h.1 (by have := of_decide_eq_true q; omega), fun q => ?_⟩
 have q := of_decide_eq_false q
 refine ⟨⟨by omega, by omega, by omega, by omega⟩, by decide, ?_⟩
 exact zfb s (by omega) _ s 0 [] rfl (by omega) (by simp only [List.length_nil]; omega) (h.2 (by omega))
theorem Zch : ∀ s : List UInt8, (jx s).length ≤ 3 * s.length
 | [] => Nat.le_refl _
 | c :: w => by
  have := Zch w
  rw [jx, List.length_cons]
  split
  ·rw [List.length_append]; simp only [List.length_cons, List.length_nil]; omega
  ·split
   ·rw [List.length_cons]; omega
   ·split
    ·split
     ·omega
     ·rw [List.length_cons]; omega
    ·rw [List.length_cons]; omega
def jho (t : Tok × Nat × Nat) : Tok := t.1
theorem zhz {s w : List UInt8} {p : Nat} (h : s.drop p = w) (n : Nat) : s.drop (p + n) = w.drop n := by rw [← h, List.drop_drop]
theorem JhJ (s : List UInt8) (hs : s.length ≤ 100000) (Ke : List Tok → Prop) (Kr : Int → List Tok → Prop) : ∀ (f : Nat) (w : List UInt8) (p : Nat) (x7 : Int) (b : List Tok), w.length ≤ f → s.drop p = w → p ≤ s.length → x7 = b.length → b.length ≤ 1500 → (b.length + (zgb f w p).length ≤ 1500 → Ke (b ++ (zgb f w p).map jho)) → (1500 < b.length + (zgb f w p).length → ∀ b', Kr 4 b') → ∃ m, zW jc0 jfJ zc0 m s x7 (p : Int) b Ke Kr
 | f, [], p, x7, b, hf, hd, hp, hx, hb, k1, k2 => by
  have hd' : s.drop (p : Int).toNat = [] := hd
  have hl := jQ hd'
  have e : zgb f [] p = [] := by cases f <;> rfl
  rw [e] at k1
  exact ⟨1, fun q => (by exfalso; have := of_decide_eq_true q; omega), fun _ => by simpa using k1 (by simpa using hb)⟩
 | 0, c :: w, p, x7, b, hf, hd, hp, hx, hb, k1, k2 => by simp at hf
 | f + 1, c :: w, p, x7, b, hf, hd, hp, hx, hb, k1, k2 => by
  have hd' : s.drop (p : Int).toNat = c :: w := hd
  obtain ⟨hl, hc, hn, hv⟩ := Jw (by omega) hd'
  have nofin : decide ((p : Int) < (s.length : Int)) = false → False := fun q => by have := of_decide_eq_false q; omega
  rw [zgb] at k1 k2
  have ht := Zcz (w := c :: w) (by simp)
  have hk := jeR ((c :: w).drop (ZN (c :: w)).2)
  rw [List.length_drop] at hk
  rw [List.length_cons] at ht hk hf
  rw [List.length_cons] at k1 k2
  by_cases q : b.length = 1500
  ·have kr := k2 (by omega) b
   refine ⟨1, fun _ => ⟨fun _ => kr, fun p2 => (by exfalso; have := of_decide_eq_false p2; omega)⟩, fun q => (nofin q).elim⟩
  ·have e1 : s.drop ((p : Int) + ((ZN (c :: w)).2 : Int)).toNat = (c :: w).drop (ZN (c :: w)).2 := by rw [Za9 (by omega), hd']
   obtain ⟨m, hm⟩ := JhJ s hs Ke Kr f ((c :: w).drop ((ZN (c :: w)).2 + zav ((c :: w).drop (ZN (c :: w)).2))) (p + (ZN (c :: w)).2 + zav ((c :: w).drop (ZN (c :: w)).2)) (x7 + 1) (b ++ [jho ((ZN (c :: w)).1, p, p + (ZN (c :: w)).2)]) (by rw [List.length_drop, List.length_cons]; omega) (by rw [Nat.add_assoc]; exact zhz hd _) (by omega) (by rw [List.length_append, List.length_singleton]; omega) (by rw [List.length_append, List.length_singleton]; omega) (fun h => by
     rw [List.append_assoc]
     exact k1 (by rw [List.length_append, List.length_singleton] at h; omega)) (fun h => k2 (by rw [List.length_append, List.length_singleton] at h; omega))
   refine ⟨m + 1, fun _ => ⟨fun p2 => (by exfalso; have := of_decide_eq_true p2; omega), fun _ => ⟨⟨by omega, hl, by omega⟩, ?_⟩⟩, fun q => (nofin q).elim⟩
   rw [hd']
   refine ⟨by simp only [List.length_singleton]; omega, zY (by omega), ⟨by omega, by omega, by omega⟩, ?_⟩
   rw [e1]
   have e2 : (p : Int) + ((ZN (c :: w)).2 : Int) + (zav ((c :: w).drop (ZN (c :: w)).2) : Int) = ((p + (ZN (c :: w)).2 + zav ((c :: w).drop (ZN (c :: w)).2) : Nat) : Int) := by omega
   rw [e2]
   exact hm
def zaq : Jt := fun s K => (4000 < s.length → K [] 28) ∧ (s.length ≤ 4000 → (JgY (jx s)).length ≤ 1500 → K ((JgY (jx s)).map jho) 0) ∧ (s.length ≤ 4000 → 1500 < (JgY (jx s)).length → K [] 4)
theorem Zgg (s K) (h : zaq s K) : ZcS jc0 jfJ zc0 s K := by
 obtain ⟨h1, h2, h3⟩ := h
 refine ⟨fun q => ⟨fun _ => ⟨fun _ => h1 q, fun p => absurd p (by decide)⟩, fun p => absurd p (by decide)⟩, fun q => ⟨fun p => absurd p (by decide), fun _ => ⟨⟨by omega, by omega, by have := Zch s; omega⟩, ?_⟩⟩⟩
 have hc := Zch s
 have hk := jeR (jx s)
 have e0 : (0 : Int) + (zav ((jx s).drop (0 : Int).toNat) : Int) = ((zav (jx s) : Nat) : Int) := by
  show (0 : Int) + (zav ((jx s).drop 0) : Int) = _
  rw [List.drop_zero, Int.zero_add]
 rw [e0]
 refine JhJ (jx s) (by omega) _ _ (jx s).length ((jx s).drop (zav (jx s))) (zav (jx s)) 0 [] (by rw [List.length_drop]; omega) rfl hk rfl (by simp) (fun hL => ⟨fun p => absurd p (by decide), fun _ => ?_⟩) (fun hL b' => ⟨fun _ => h3 q ?_, fun p => absurd p (by decide)⟩)
 ·rw [List.length_nil, Nat.zero_add] at hL
  exact h2 q hL
 ·rw [List.length_nil, Nat.zero_add] at hL
  exact hL
end Go.Proofs.YtbpbaicbaehhjaaGreatDoor
