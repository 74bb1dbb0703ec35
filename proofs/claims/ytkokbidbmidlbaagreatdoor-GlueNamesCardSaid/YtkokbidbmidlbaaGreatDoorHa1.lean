/-
 A model of glue: the text of tokens, as plain functions. Nothing is claimed here.
-/
import Derived.Test.YtkokbidbmidlbaaGreatDoorWa1
import Derived.Test.YtkokbidbmidlbaaGreatDoorAw1
import Derived.Test.YtkokbidbmidlbaaGreatDoorTi
namespace Go.Proofs.YtkokbidbmidlbaaGreatDoor
open Go.Vm Go.Sx Go.RowKit
def Zf8 (c : UInt8) : List UInt8 := 92 :: (if (33 ≤ (c.toNat : Int) ∧ (c.toNat : Int) ≤ 126) ∧ mD (c.toNat : Int) = false ∧ mL (c.toNat : Int) = false then [c] else jgD c.toNat ++ [32])
def JeH (e : Int) : Int → List UInt8 → List UInt8
 | _, [] => []
 | i, c :: w => (if i ≠ e ∧ mN (c.toNat : Int) = true then [c] else Zf8 c) ++ JeH e (i + 1) w
def swD (s : List UInt8) : Bool := mD (hb s)
def swM (s : List UInt8) : Bool := decide (hb s = 45) && mD (hb s.tail)
def zfP (s : List UInt8) : Int := if s = [45] then 0 else if swD s then 0 else if swM s then 1 else -1
def Zeu (s : List UInt8) : List UInt8 := JeH (zfP s) 0 s
def fr3 : Nat → Nat → List UInt8
 | 0, _ => []
 | k + 1, r => UInt8.ofNat (48 + r * 10 / 1000) :: if r * 10 % 1000 = 0 then [] else fr3 k (r * 10 % 1000)
def jfP (n : Int) (whole : Bool) : List UInt8 := (if n < 0 then [45] else []) ++ (Lib.decDigits (n.natAbs / 1000) ++ (if whole then [] else 46 :: fr3 3 (n.natAbs % 1000)))
def jd3 (n : Int) : Bool := decide (n.tmod 1000 = 0)
def zgh : List UInt8 → List UInt8
 | [] => []
 | c :: w => (if c ∈ [10, 12, 13, 34, 92] then Zf8 c else [c]) ++ zgh w
def jgh : List UInt8 → List UInt8
 | [] => []
 | c :: w => (if c.toNat ≤ 32 ∨ c ∈ [34, 39, 40, 41, 92, 127] then Zf8 c else [c]) ++ jgh w
def jeh (u : List UInt8) : Bool := mE (hb u) && (swD u.tail || swM u.tail)
def ZfP (u : List UInt8) : List UInt8 := if jeh u then JeH 0 0 u else Zeu u
def JfP (t : List UInt8) (f : Bool) : List UInt8 := 35 :: if f then Zeu t else JeH (-1) 0 t
def marksT : List UInt8 := [58, 59, 44, 91, 93, 40, 41, 123, 125]
def tokT (t : Tok) : List UInt8 :=
 if t.kind = 13 then [32]
 else if t.kind = 1 then Zeu t.text
 else if t.kind = 2 then Zeu t.text ++ [40]
 else if t.kind = 3 then 64 :: Zeu t.text
 else if t.kind = 4 then JfP t.text t.flag
 else if t.kind = 5 then 34 :: (zgh t.text ++ [34])
 else if t.kind = 7 then [117, 114, 108, 40] ++ (jgh t.text ++ [41])
 else if t.kind = 10 then jfP t.num t.flag
 else if t.kind = 11 then jfP t.num (jd3 t.num) ++ [37]
 else if t.kind = 12 then jfP t.num t.flag ++ ZfP t.unit
 else if t.kind = 9 then t.text
 else if t.kind = 14 then [60, 33, 45, 45]
 else if t.kind = 15 then [45, 45, 62]
 else [marksT.getD (t.kind - 16).toNat 0]
def zeI (t : Tok) : Tok :=
 if t.kind ∈ [1, 2, 3, 5, 7, 9] then tk t.kind t.text
 else if t.kind = 4 then tk t.kind t.text 0 [] t.flag
 else if t.kind = 10 then tk t.kind [] t.num [] t.flag
 else if t.kind = 11 then tk t.kind [] t.num
 else if t.kind = 12 then tk t.kind [] t.num t.unit t.flag
 else tk t.kind
def jbg (a b : Tok) : Bool := decide (a.kind = b.kind) && (decide (a.text = b.text) && (decide (a.num = b.num) && (decide (a.unit = b.unit) && decide (a.flag = b.flag))))
def zgw (s : List UInt8) : Bool := match s with
 | [b] => !mSp b.toNat && (!mQ b.toNat && (!mN0 b.toNat && (!mD b.toNat && !(([12, 13] ++ marksT).contains b))))
 | _ => false
def zdL (t : Tok) : Bool := decide (-1000000000000 ≤ t.num) && (decide (t.num ≤ 1000000000000) && (!t.flag || jd3 t.num))
def ZcY (t : Tok) : Bool := jbg t (zeI t) && (!t.text.contains 0 && (!t.unit.contains 0 &&
 (if t.kind ∈ [1, 2, 3] then t.text != []
 else if t.kind = 4 then t.text != [] && (t.flag || decide (zfP t.text ≠ -1))
 else if t.kind = 9 then zgw t.text
 else if t.kind = 10 ∨ t.kind = 11 then zdL t
 else if t.kind = 12 then zdL t && t.unit != []
 else if t.kind = 6 ∨ t.kind = 8 then false
 else decide (1 ≤ t.kind) && decide (t.kind ≤ 24))))
def jbZ (t : Tok) : Bool := decide (t.kind = 9) && t.text == [92]
def JcY (t : Tok) : Bool := decide (t.kind = 2) && Zaj t.text [117, 114, 108]
def swK (l : List Tok) (k : Int) : Bool := match l with
 | [] => false
 | t :: _ => decide (t.kind = k)
def zfQ (t : Tok) (l : List Tok) : Bool := if jbZ t then swK l 13 else if JcY t then swK (if swK l 13 then l.tail else l) 5 else true
def zcZ : List Tok → Bool
 | [] => true
 | t :: l => ZcY t && (zfQ t l && zcZ l)
def ZfA (l : List Tok) : Int := if 1500 < l.length then 4 else if zcZ l then 0 else 8
def JfA : List Tok → Nat
 | [] => 1
 | t :: l => if jbZ t then 2 else if JcY t then 1 + (l.takeWhile fun t => decide (t.kind ≠ 5)).length + 1 else 1
def jff (l : List Tok) : List UInt8 := match l with
 | t :: _ => if jbZ t then [92, 10] else l.flatMap tokT
 | [] => []
def Jba : List Tok → List Tok → Bool
 | [], [] => true
 | a :: x, b :: y => jbg a b && Jba x y
 | _, _ => false
def Zgh (s : List UInt8) : Option (List Tok) := if 4000 < s.length then none else
 if 1500 < (Jgg (Jq s)).length then none else some ((Jgg (Jq s)).map (·.1))
def asM (s : List UInt8) (l : List Tok) : Bool := match Zgh s with
 | some m => Jba m l
 | none => false
def wrM (l : List Tok) : Nat → List UInt8 → List (Nat × Nat) → Nat → List UInt8 × Int
 | 0, b, _, _ => (b, 0)
 | f + 1, b, sts, i =>
  if l.length ≤ i then (b, 0) else
   let e := i + JfA (l.drop i)
   let b1 := b ++ jff ((l.drop i).take (e - i))
   let st1 := (b.length, i) :: sts
   let fr := (st1.take 4).getLastD (0, 0)
   let b2 := if asM (b1.drop fr.1) ((l.drop fr.2).take (e - fr.2)) then b1 else b ++ ([47, 42, 42, 47] ++ b1.drop b.length)
   if 4000 < b2.length then ([], 28) else wrM l f b2 st1 e
def jfQ (l : List Tok) : List UInt8 × Int := if ZfA l ≠ 0 then ([], ZfA l) else wrM l (l.length + 1) [] [] 0
end Go.Proofs.YtkokbidbmidlbaaGreatDoor
set_option linter.unusedVariables false
namespace Go.Proofs.YtkokbidbmidlbaaGreatDoor
open Go.Vm Go.Sx Go.RowKit
def jcx : T_glue_isName := fun s K => K (!(s == []))
theorem JfW (s K) (h : jcx s K) : ZaL s K := h
def jdV : T_glue_isWhole := fun n K => K (jd3 n)
theorem zgF (n K) (h : jdV n K) : Zav n K := ⟨by decide, h⟩
def JcP : T_glue_used := fun t K => K (zeI t)
theorem Zgk (t K) (h : JcP t K) : jaL t K := by
 unfold JcP zeI tk at h
 unfold jaL
 simp only [decide_eq_true_eq, decide_eq_false_iff_not]
 simp only [List.mem_cons, List.not_mem_nil, or_false] at h
 obtain ⟨k, tx, n, u, f⟩ := t
 dsimp only at h ⊢
 repeat' (first | apply And.intro | intro _)
 all_goals first | (subst k; exact h) | (rw [if_neg (by omega), if_neg (by omega), if_neg (by omega), if_neg (by omega), if_neg (by omega)] at h; exact h)
def ZbQ : T_glue_isNumber := fun t K => K (zdL t)
theorem zfX (t K) (h : ZbQ t K) : Z3 jdV t K := by
 unfold ZbQ zdL at h
 unfold Z3 jdV
 simp only [decide_eq_true_eq, decide_eq_false_iff_not]
 refine ⟨fun q => ⟨fun q2 => ?_, fun q2 => ⟨fun q3 => ?_, fun q3 => ?_⟩⟩, fun q => ?_⟩
 ·rw [decide_eq_true (by omega), decide_eq_false (by omega)] at h; exact h
 ·rw [decide_eq_true (by omega), decide_eq_true (by omega), q3] at h; exact h
 ·rw [decide_eq_true (by omega), decide_eq_true (by omega), q3] at h; exact h
 ·rw [decide_eq_false (by omega)] at h; exact h
def ZeY : T_glue_isBackslash := fun t K => K (jbZ t)
theorem zgZ (t K) (h : ZeY t K) : J3 t K := by
 unfold ZeY jbZ at h
 refine ⟨fun q => ?_, fun q => ?_⟩ <;> rw [q] at h <;> exact h
def ZfE : T_glue_isURLFunction := fun t K => t.text.length ≤ 10000000 ∧ K (JcY t)
theorem jgZ (A : T_i_Alike) (hA : ∀ a b K, a.length ≤ 10000000 ∧ K (Zaj a b) → A a b K) (t K) (h : ZfE t K) : JD A t K := by
 obtain ⟨h0, h⟩ := h
 unfold JcY at h
 refine ⟨fun q => hA _ _ _ ⟨h0, ?_⟩, fun q => ?_⟩ <;> rw [q] at h <;> exact h
def zga : T_g_sWith := fun l k K => K (swK l k)
theorem ZgZ (l k K) (h : zga l k K) : Zcv l k K := by
 unfold zga swK at h
 cases l with
 | nil => exact ⟨fun q => by exact absurd q (by decide), fun _ => h⟩
 | cons t l => exact ⟨fun _ => ⟨⟨by omega, by rw [List.length_cons]; omega⟩, h⟩, fun q => by simp at q⟩
def JeY : T_glue_hasItsFollowers := fun t l K => t.text.length ≤ 10000000 ∧ K (zfQ t l)
theorem jgF (t l K) (h : JeY t l K) : zz ZeY zga ZfE t l K := by
 obtain ⟨h0, h⟩ := h
 unfold zfQ at h
 unfold zz ZeY zga ZfE
 refine ⟨fun q => ?_, fun q => ⟨h0, fun q2 => ⟨fun q3 => ?_, fun q3 => ?_⟩, fun q2 => ?_⟩⟩
 ·have q : jbZ t = true := q
  rw [q] at h; exact h
 ·have q : jbZ t = false := q
  have q2 : JcY t = true := q2
  rw [q, q2, q3] at h
  refine ⟨⟨by omega, ?_⟩, ?_⟩
  ·cases l with
   | nil => simp [swK] at q3
   | cons a l => rw [List.length_cons]; omega
  ·rw [List.drop_one]; exact h
 ·have q : jbZ t = false := q
  have q2 : JcY t = true := q2
  rw [q, q2, q3] at h; exact h
 ·have q : jbZ t = false := q
  have q2 : JcY t = false := q2
  rw [q, q2] at h; exact h
end Go.Proofs.YtkokbidbmidlbaaGreatDoor
set_option linter.unusedVariables false
namespace Go.Proofs.YtkokbidbmidlbaaGreatDoor
open Go.Vm Go.Sx Go.RowKit
theorem Je9 {n : Int} (h : -9223372036854775808 ≤ n ∧ n < 9223372036854775808) : I64 n := by unfold I64; omega
def zeZ : T_glue_canBeWritten := fun t K => (t.text.length ≤ 10000000 ∧ t.unit.length ≤ 10000000) ∧ K (ZcY t)
def jga (t : Tok) : Prop := t.text.length ≤ 10000000 ∧ t.unit.length ≤ 10000000
theorem ZdV {l : List Tok} {i : Nat} (h : i < l.length) : l.getD i (zg Cd.tok) = l[i] := by
 show l.getD i (⟨0, [], 0, [], false⟩ : Tok) = l[i]
 rw [List.getD_eq_getElem?_getD, List.getElem?_eq_getElem h, Option.getD_some]
theorem jad {l : List Tok} {i : Nat} (h : i < l.length) : l.drop i = l.getD i (zg Cd.tok) :: l.drop (i + 1) := by
 have e := ZdV h
 exact (List.drop_eq_getElem_cons h).trans (congrArg (· :: l.drop (i + 1)) e.symm)
theorem jd8 {l : List Tok} (h : ∀ t ∈ l, jga t) {i : Nat} (hi : i < l.length) : jga (l.getD i (zg Cd.tok)) := by
 have e := ZdV hi
 exact e ▸ h _ (List.getElem_mem hi)
theorem Zd8 (l : List Tok) (hl : ∀ t ∈ l, jga t) (hs : l.length ≤ 1500) (Ke : Unit → Prop) (Kr : Int → Prop) : ∀ (n i : Nat), i + n = l.length → (zcZ (l.drop i) = true → Ke ()) → (zcZ (l.drop i) = false → Kr 8) →
  Z5 zeZ JeY (n + 1) l l (l.length : Int) (i : Int) Ke Kr
 | 0, i, hi, h1, h2 => by
  refine ⟨fun q => absurd (of_decide_eq_true q) (by omega), fun _ => h1 ?_⟩
  rw [List.drop_of_length_le (by omega)]
  rfl
 | n + 1, i, hi, h1, h2 => by
  have hlt : i < l.length := by omega
  have ht : ((i : Int)).toNat = i := rfl
  have ht1 : ((i : Int) + 1).toNat = i + 1 := by omega
  have hd := jad hlt
  have hok := jd8 hl hlt
  refine ⟨fun _ => ⟨⟨by omega, by omega⟩, ⟨hok.1, hok.2⟩, fun q => ⟨Je9 (by omega), ⟨by omega, by omega⟩, hok.1, fun q2 => ?_, fun q2 => ⟨Je9 (by omega), ?_⟩⟩, fun q => ?_⟩, fun q => absurd (of_decide_eq_false q) (by omega)⟩
  ·rw [ht, ht1] at q2
   refine h2 ?_
   rw [hd, zcZ]
   have q2 : zfQ (l.getD i (zg Cd.tok)) (l.drop (i + 1)) = false := by simpa using q2
   rw [q2]; simp
  ·rw [ht, ht1] at q2
   rw [ht] at q
   have q2 : zfQ (l.getD i (zg Cd.tok)) (l.drop (i + 1)) = true := by simpa using q2
   have q : ZcY (l.getD i (zg Cd.tok)) = true := by simpa using q
   rw [hd, zcZ, q, q2] at h1 h2
   exact Zd8 l hl hs Ke Kr n (i + 1) (by omega) (by simpa using h1) (by simpa using h2)
  ·rw [ht] at q
   refine h2 ?_
   have q : ZcY (l.getD i (zg Cd.tok)) = false := by simpa using q
   rw [hd, zcZ, q]; rfl
def jeZ : T_glue_Check := fun l K => (∀ t ∈ l, jga t) ∧ K (ZfA l)
theorem ZgF (l K) (h : jeZ l K) : za2 zeZ JeY l K := by
 obtain ⟨hl, h⟩ := h
 unfold ZfA at h
 refine ⟨fun q => ?_, fun q => ⟨l.length + 1, ?_⟩⟩
 ·have q := of_decide_eq_true q
  rw [if_pos (by omega)] at h
  exact h
 ·have q := of_decide_eq_false q
  rw [if_neg (by omega)] at h
  refine Zd8 l hl (by omega) _ _ l.length 0 (by omega) (fun z => ?_) (fun z => ?_) <;> rw [List.drop_zero] at z <;> rw [z] at h <;> exact h
theorem Jd8 (A : T_glue_isBackslash) (B : T_glue_isURLFunction) (l : List Tok) (hs : l.length ≤ 1500) (Ke : Int → Prop) : ∀ (n i : Nat), i + n = l.length → ((l.drop i).any fun t => decide (t.kind = 5)) = true →
  Ke ((i : Int) + (((l.drop i).takeWhile fun t => decide (t.kind ≠ 5)).length : Int)) → JM A B (n + 1) l (i : Int) Ke
 | 0, i, hi, h1, h2 => by rw [List.drop_of_length_le (by omega)] at h1; cases h1
 | n + 1, i, hi, h1, h2 => by
  have hlt : i < l.length := by omega
  have ht : ((i : Int)).toNat = i := rfl
  have hd := jad hlt
  rw [hd] at h1 h2
  refine ⟨⟨by omega, by omega⟩, fun q => ⟨Je9 (by omega), ?_⟩, fun q => ?_⟩
  ·rw [ht] at q
   have q' : decide ((l.getD i (zg Cd.tok)).kind = 5) = false := by simpa using q
   rw [List.any_cons, q', Bool.false_or] at h1
   rw [List.takeWhile_cons, if_pos q, List.length_cons] at h2
   refine Jd8 A B l hs Ke n (i + 1) (by omega) h1 ?_
   rw [show ((i + 1 : Nat) : Int) + (((l.drop (i + 1)).takeWhile fun t => decide (t.kind ≠ 5)).length : Int) = (i : Int) + ((((l.drop (i + 1)).takeWhile fun t => decide (t.kind ≠ 5)).length + 1 : Nat) : Int) from by omega]
   exact h2
  ·rw [ht] at q
   rw [List.takeWhile_cons, q] at h2
   simpa using h2
end Go.Proofs.YtkokbidbmidlbaaGreatDoor
set_option linter.unusedVariables false
namespace Go.Proofs.YtkokbidbmidlbaaGreatDoor
open Go.Vm Go.Sx Go.RowKit
def ZeZ : T_glue_pieceEnd := fun l i K => (0 ≤ i ∧ i < (l.length : Int) ∧ l.length ≤ 1500) ∧ (∀ t ∈ l, jga t) ∧ (JcY (l.getD i.toNat (zg Cd.tok)) = true → ((l.drop i.toNat).any fun t => decide (t.kind = 5)) = true) ∧ K (i + (JfA (l.drop i.toNat) : Int))
theorem JeZ {t : Tok} (h : JcY t = true) : t.kind = 2 := by
 unfold JcY at h
 rw [Bool.and_eq_true] at h
 exact of_decide_eq_true h.1
theorem JgF (l i K) (h : ZeZ l i K) : zam ZeY ZfE l i K := by
 obtain ⟨⟨h1, h2, h3⟩, hl, ha, hk⟩ := h
 obtain ⟨n, rfl⟩ : ∃ n : Nat, i = n := ⟨i.toNat, by omega⟩
 have ht : ((n : Int)).toNat = n := rfl
 have hlt : n < l.length := by omega
 have hd := jad hlt
 have hok := jd8 hl hlt
 rw [ht] at ha hk
 have e : (JfA (l.drop n)) = if jbZ (l.getD n (zg Cd.tok)) then 2 else if JcY (l.getD n (zg Cd.tok)) then 1 + ((l.drop (n + 1)).takeWhile fun t => decide (t.kind ≠ 5)).length + 1 else 1 := by rw [hd]; rfl
 rw [e] at hk
 refine ⟨⟨h1, h2⟩, fun q => ⟨Je9 (by omega), ?_⟩, fun q => ⟨⟨h1, h2⟩, hok.1, fun q2 => ⟨l.length - n + 1, ?_⟩, fun q2 => ⟨Je9 (by omega), ?_⟩⟩⟩
 ·have q : jbZ (l.getD n (zg Cd.tok)) = true := q
  rw [q] at hk; exact hk
 ·have q : jbZ (l.getD n (zg Cd.tok)) = false := q
  have q2 : JcY (l.getD n (zg Cd.tok)) = true := q2
  rw [q, q2] at hk
  refine Jd8 _ _ l h3 _ (l.length - n) n (by omega) (ha q2) ?_
  have hk2 := JeZ q2
  have e2 : ((l.drop n).takeWhile fun t => decide (t.kind ≠ 5)).length = ((l.drop (n + 1)).takeWhile fun t => decide (t.kind ≠ 5)).length + 1 := by
   rw [hd, List.takeWhile_cons, if_pos (by rw [hk2]; decide), List.length_cons]
  have e3 : ((l.drop (n + 1)).takeWhile fun t => decide (t.kind ≠ 5)).length ≤ l.length := by
   have z := List.Sublist.length_le (List.takeWhile_sublist (fun t : Tok => decide (t.kind ≠ 5)) (l := l.drop (n + 1)))
   rw [List.length_drop] at z
   omega
  refine ⟨Je9 (by omega), ?_⟩
  rw [e2]
  have e4 : (n : Int) + ((((l.drop (n + 1)).takeWhile fun t => decide (t.kind ≠ 5)).length + 1 : Nat) : Int) + 1 = (n : Int) + ((1 + ((l.drop (n + 1)).takeWhile fun t => decide (t.kind ≠ 5)).length + 1 : Nat) : Int) := by omega
  rw [e4]
  exact hk
 ·have q : jbZ (l.getD n (zg Cd.tok)) = false := q
  have q2 : JcY (l.getD n (zg Cd.tok)) = false := q2
  rw [q, q2] at hk; exact hk
theorem ZdA (a b : List Tok) (hs : a.length = b.length) (hm : a.length ≤ 1000000) (Ke : Unit → Prop) (Kr : Bool → Prop) : ∀ (n i : Nat), i + n = a.length → (Jba (a.drop i) (b.drop i) = true → Ke ()) → (Jba (a.drop i) (b.drop i) = false → Kr false) →
  JR (n + 1) a b (a.length : Int) (i : Int) Ke Kr
 | 0, i, hi, h1, h2 => by
  refine ⟨fun q => absurd (of_decide_eq_true q) (by omega), fun _ => h1 ?_⟩
  rw [List.drop_of_length_le (by omega), List.drop_of_length_le (by omega)]
  rfl
 | n + 1, i, hi, h1, h2 => by
  have hlt : i < a.length := by omega
  have hlt2 : i < b.length := by omega
  have ht : ((i : Int)).toNat = i := rfl
  rw [jad hlt, jad hlt2, Jba] at h1 h2
  have key : ∀ x y : Tok, (decide (x.kind = y.kind) && ((x.text == y.text) && (decide (x.num = y.num) && ((x.unit == y.unit) && ((x.flag == y.flag) && true))))) = jbg x y := fun x y => by
   unfold jbg
   have e : ∀ u v : List UInt8, (u == v) = decide (u = v) := fun u v => by by_cases z : u = v <;> simp [z]
   have e2 : ∀ u v : Bool, (u == v) = decide (u = v) := fun u v => by by_cases z : u = v <;> simp [z]
   rw [e, e, e2, Bool.and_true]
  refine ⟨fun _ => ⟨⟨by omega, by omega⟩, ⟨by omega, by omega⟩, fun q => ?_, fun q => ⟨Je9 (by omega), ?_⟩⟩, fun q => absurd (of_decide_eq_false q) (by omega)⟩
  ·rw [ht, key] at q
   have q : jbg (a.getD i (zg Cd.tok)) (b.getD i (zg Cd.tok)) = false := by simpa using q
   refine h2 ?_
   rw [q]; rfl
  ·rw [ht, key] at q
   have q : jbg (a.getD i (zg Cd.tok)) (b.getD i (zg Cd.tok)) = true := by simpa using q
   rw [q, Bool.true_and] at h1 h2
   exact ZdA a b hs hm Ke Kr n (i + 1) (by omega) h1 h2
theorem JdA : ∀ {a b : List Tok}, Jba a b = true → a.length = b.length
 | [], [], _ => rfl
 | x :: a, y :: b, h => by
  rw [Jba, Bool.and_eq_true] at h
  rw [List.length_cons, List.length_cons, JdA h.2]
 | [], _ :: _, h => by cases h
 | _ :: _, [], h => by cases h
def Jgw : T_slices_Equal := fun a b K => a.length ≤ 1000000 ∧ K (Jba a b)
theorem JgZ (a b K) (h : Jgw a b K) : jaw a b K := by
 obtain ⟨hm, h⟩ := h
 refine ⟨fun q => ?_, fun q => ⟨a.length + 1, ?_⟩⟩
 ·have q := of_decide_eq_true q
  cases hs : Jba a b with
  | true => exact absurd (JdA hs) (by omega)
  | false => rw [hs] at h; exact h
 ·have q := of_decide_eq_false q
  refine ZdA a b (by omega) hm _ _ a.length 0 (by omega) (fun z => ?_) (fun z => ?_) <;> rw [List.drop_zero, List.drop_zero] at z <;> rw [z] at h <;> exact h
end Go.Proofs.YtkokbidbmidlbaaGreatDoor
set_option linter.unusedVariables false
namespace Go.Proofs.YtkokbidbmidlbaaGreatDoor
open Go.Vm Go.Sx Go.RowKit
def jgH : T_gslIndexByte := fun s c K => (0 ≤ c ∧ c < 256) ∧ K (Lib.indexByte s (UInt8.ofNat c.toNat))
def zdC : T_gs_IndexByte := fun s c K => (0 ≤ c ∧ c < 256) ∧ K (Lib.indexByte s (UInt8.ofNat c.toNat))
theorem ZgH (s c K) (h : zdC s c K) : jau jgH s c K := h
theorem zgm : ∀ (s : List UInt8) (c : UInt8), -1 ≤ Lib.indexByte s c
 | [], _ => by simp [Lib.indexByte]
 | d :: w, c => by
  have := zgm w c
  unfold Lib.indexByte
  split
  ·omega
  ·split
   ·omega
   ·omega
theorem jgm (s : List UInt8) (c : UInt8) : 0 ≤ Lib.indexByte s c ↔ c ∈ s := by
 induction s with
 | nil => simp [Lib.indexByte]
 | cons d w ih =>
  have hg := zgm w c
  unfold Lib.indexByte
  by_cases q : d = c
  ·subst q; simp
  ·have q1 : (d == c) = false := by simpa using q
   have q2 : ¬ c = d := fun z => q z.symm
   simp only [q1, Bool.false_eq_true, if_false, List.mem_cons, q2, false_or]
   rw [← ih]
   by_cases z : Lib.indexByte w c = -1
   ·simp [z]
   ·simp only [beq_iff_eq, z, if_false]
    omega
theorem Zgm (s : List UInt8) (c : UInt8) : decide (Lib.indexByte s c < 0) = !s.contains c := by
 have := jgm s c
 by_cases q : c ∈ s
 ·have z := this.2 q
  rw [decide_eq_false (by omega)]
  simp [q]
 ·have z : ¬ 0 ≤ Lib.indexByte s c := fun z => q (this.1 z)
  rw [decide_eq_true (by omega)]
  simp [q]
theorem je0 (s : List UInt8) (c : UInt8) : decide (0 ≤ Lib.indexByte s c) = s.contains c := by
 have := Zgm s c
 by_cases q : 0 ≤ Lib.indexByte s c
 ·rw [decide_eq_false (by omega)] at this
  rw [decide_eq_true q]
  cases h : s.contains c
  ·rw [h] at this; cases this
  ·rfl
 ·rw [decide_eq_true (by omega)] at this
  rw [decide_eq_false q]
  cases h : s.contains c
  ·rfl
  ·rw [h] at this; cases this
def Zer : T_glue_isDelim := fun s K => K (zgw s)
theorem JgH (s K) (h : Zer s K) : Jab JG jcK JU J9 zdC s K := by
 unfold Zer at h
 unfold Jab JG jcK JU J9 zdC
 match s, h with
 | [], h => exact ⟨fun _ => h, fun q => absurd (of_decide_eq_false q) (by decide)⟩
 | a :: b :: w, h => exact ⟨fun _ => h, fun q => absurd (of_decide_eq_false q) (by simp only [List.length_cons]; omega)⟩
 | [b], h =>
  simp only [zgw] at h
  have hb := jdB b
  refine ⟨fun q => absurd (of_decide_eq_true q) (by simp), fun _ => ⟨⟨by omega, by simp⟩, fun q1 => ⟨fun q2 => ⟨fun q3 => ⟨fun q4 => ⟨⟨hb.1, by show (b.toNat : Int) < 256; omega⟩, ?_⟩, fun q4 => ?_⟩, fun q3 => ?_⟩, fun q2 => ?_⟩, fun q1 => ?_⟩⟩
  ·dsimp only
   rw [Zgm]
   rw [show (!mSp (b.toNat : Int)) = true from q1, show (!mQ (b.toNat : Int)) = true from q2, show (!mN0 (b.toNat : Int)) = true from q3, show (!mD (b.toNat : Int)) = true from q4] at h
   have e : UInt8.ofNat ((([b] : List UInt8).getD 0 0).toNat : Int).toNat = b := zfa b
   rw [e]
   exact h
  ·rw [show (!mD (b.toNat : Int)) = false from q4] at h
   simpa using h
  ·rw [show (!mN0 (b.toNat : Int)) = false from q3] at h
   simpa using h
  ·rw [show (!mQ (b.toNat : Int)) = false from q2] at h
   simpa using h
  ·rw [show (!mSp (b.toNat : Int)) = false from q1] at h
   simpa using h
end Go.Proofs.YtkokbidbmidlbaaGreatDoor
set_option linter.unusedVariables false
namespace Go.Proofs.YtkokbidbmidlbaaGreatDoor
open Go.Vm Go.Sx Go.RowKit
def jdC : T_glue_obstacle := fun s K => K (zfP s)
theorem Ze0 (x y : Tok) : (decide (x.kind = y.kind) && ((x.text == y.text) && (decide (x.num = y.num) && ((x.unit == y.unit) && ((x.flag == y.flag) && true))))) = jbg x y := by
 unfold jbg
 have e : ∀ u v : List UInt8, (u == v) = decide (u = v) := fun u v => by by_cases z : u = v <;> simp [z]
 have e2 : ∀ u v : Bool, (u == v) = decide (u = v) := fun u v => by by_cases z : u = v <;> simp [z]
 rw [e, e, e2, Bool.and_true]
theorem zgI (t K) (h : zeZ t K) : JI JcP zdC jcx jdC Zer ZbQ t K := by
 obtain ⟨_, h⟩ := h
 unfold ZcY at h
 unfold JI JcP zdC jcx jdC Zer ZbQ
 rw [show Tok.mk t.kind t.text t.num t.unit t.flag = t from rfl]
 dsimp only
 rw [Ze0]
 refine ⟨fun q => ⟨⟨by omega, by omega⟩, fun q2 => ⟨⟨by omega, by omega⟩, fun q3 => ?_, fun q3 => ?_⟩, fun q2 => ?_⟩, fun q => ?_⟩
 ·have q3 : t.unit.contains 0 = true := by rw [← je0]; exact q3
  have q2 : t.text.contains 0 = false := by rw [← je0]; exact q2
  rw [q3, q2] at h
  simpa using h
 ·have q3 : t.unit.contains 0 = false := by rw [← je0]; exact q3
  have q2 : t.text.contains 0 = false := by rw [← je0]; exact q2
  have q : jbg t (zeI t) = true := by simpa using q
  rw [q3, q2, q] at h
  simp only [Bool.not_false, Bool.true_and, List.mem_cons, List.not_mem_nil, or_false] at h
  simp only [decide_eq_true_eq, decide_eq_false_iff_not]
  generalize zdL t = a at h ⊢
  generalize zgw t.text = b at h ⊢
  generalize zfP t.text = o at h ⊢
  have e : ∀ u : List UInt8, (!(u == [])) = (u != []) := fun u => rfl
  rw [e, e]
  generalize (t.text != []) = x at h ⊢
  generalize (t.unit != []) = y at h ⊢
  generalize t.flag = f at h ⊢
  generalize t.kind = k at h ⊢
  clear q q2 q3
  repeat' (first | apply And.intro | intro _)
  all_goals first | (subst k; simp_all; done) | (simp_all; done) | skip
 ·have q2 : t.text.contains 0 = true := by rw [← je0]; exact q2
  rw [q2] at h
  simpa using h
 ·have q : jbg t (zeI t) = false := by simpa using q
  rw [q] at h
  exact h
end Go.Proofs.YtkokbidbmidlbaaGreatDoor
set_option linter.unusedVariables false
namespace Go.Proofs.YtkokbidbmidlbaaGreatDoor
open Go.Vm Go.Sx Go.RowKit
theorem Jg0 (c : UInt8) : UInt8.ofNat (c.toNat : Int).toNat = c := zfa c
def zet : T_g_sWithDigit := fun s K => K (swD s)
theorem jgL (s K) (h : zet s K) : Jau J9 s K := by
 cases s with
 | nil => exact ⟨fun q => by exact absurd q (by decide), fun _ => h⟩
 | cons c w => exact ⟨fun _ => ⟨⟨by omega, by rw [List.length_cons]; omega⟩, h⟩, fun q => by simp at q⟩
def Ze4 : T_g_sWithMinusDigit := fun s K => K (swM s)
theorem ZgL (s K) (h : Ze4 s K) : ZI Jeu zet s K := by
 unfold Ze4 swM at h
 unfold ZI Jeu
 cases s with
 | nil => exact ⟨fun q => by exact absurd q (by decide), fun _ => h⟩
 | cons c w =>
  refine ⟨fun q => ⟨⟨by omega, by rw [List.length_cons]; omega⟩, ?_⟩, fun q => ?_⟩
  ·have e : c = 45 := (show (45 : UInt8) = c by simpa [List.isPrefixOf] using q).symm
   subst e
   exact h
  ·have e : ¬ (c.toNat : Int) = 45 := by
    intro z
    have : c = 45 := UInt8.toNat_inj.mp (by show c.toNat = 45; omega)
    subst this
    simp [List.isPrefixOf] at q
   rw [JC, decide_eq_false e, Bool.false_and] at h
   exact h
theorem JgL (s K) (h : jdC s K) : zal zet Ze4 s K := by
 unfold jdC zfP at h
 refine ⟨fun q => ?_, fun q => ?_⟩
 ·have q : ¬ s = [45] := by simpa using q
  rw [if_neg q] at h
  refine ⟨fun q2 => ?_, fun q2 => ⟨fun q3 => ?_, fun q3 => ?_⟩⟩
  ·rw [if_pos q2] at h; exact h
  ·rw [if_neg (by rw [q2]; decide)] at h
   rw [if_pos (by simpa using q3)] at h
   exact h
  ·rw [if_neg (by rw [q2]; decide)] at h
   rw [if_neg (by simpa using q3)] at h
   exact h
 ·have q : s = [45] := by simpa using q
  rw [if_pos q] at h
  exact h
def ZcQ : T_glue_isReadAs := fun s l K => K (asM s l)
theorem jgq (s l K) (h : ZcQ s l K) : jam jca Jgw s l K := by
 unfold ZcQ asM Zgh at h
 refine ⟨fun q => ?_, fun q1 q2 => ?_, fun q1 q2 => ?_⟩
 ·rw [if_pos q] at h
  exact ⟨fun z => by simp at z, fun _ => h⟩
 ·rw [if_neg (by omega), if_neg (by omega)] at h
  exact ⟨fun _ => ⟨by rw [List.length_map]; omega, h⟩, fun z => by simp at z⟩
 ·rw [if_neg (by omega), if_pos q2] at h
  exact ⟨fun z => by simp at z, fun _ => h⟩
end Go.Proofs.YtkokbidbmidlbaaGreatDoor
