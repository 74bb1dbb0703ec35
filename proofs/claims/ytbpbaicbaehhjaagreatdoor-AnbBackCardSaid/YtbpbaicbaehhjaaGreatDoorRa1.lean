/-
 Progressions read: what the functions do, by a model. Nothing is claimed here.
-/
import Derived.Test.YtbpbaicbaehhjaaGreatDoorKb
import Derived.Test.YtbpbaicbaehhjaaGreatDoorWa1
import Derived.Test.YtbpbaicbaehhjaaGreatDoorIa2
import Derived.Test.YtbpbaicbaehhjaaGreatDoorVa4
set_option linter.unusedVariables false
set_option linter.unusedSimpArgs false
namespace Go.Proofs.YtbpbaicbaehhjaaGreatDoor
open Go.Vm Go.Sx Go.RowKit
def lowB (c : UInt8) : UInt8 := UInt8.ofNat (low (c.toNat : Int)).toNat
theorem jhf (c : UInt8) : 0 ≤ low (c.toNat : Int) ∧ low (c.toNat : Int) ≤ 255 := by
 have := c.toNat_lt
 unfold low
 split <;> omega
theorem Jgg (d : List UInt8) (c : UInt8) (w : List UInt8) (x : UInt8) : (d ++ c :: w).getD d.length x = c := by
 rw [List.getD_eq_getElem?_getD, List.getElem?_append_right (Nat.le_refl _), Nat.sub_self]
 rfl
theorem Zgt (Ke : List UInt8 → Prop) : ∀ (w d : List UInt8) (N : Int), N = (d.length : Int) + w.length → d.length + w.length ≤ 10000000 → Ke (d ++ w.map lowB) → ∃ m, jah Jec m N (d.length : Int) (d ++ w) Ke
 | [], d, N, hN, hl, h => by
  refine ⟨1, ?_⟩
  simp only [jah, List.append_nil]
  rw [List.map_nil, List.append_nil] at h
  rw [List.length_nil] at hN
  exact ⟨fun q => by have := of_decide_eq_true q; omega, fun _ => h⟩
 | c :: w, d, N, hN, hl, h => by
  rw [List.length_cons] at hl hN
  obtain ⟨m, hm⟩ := Zgt Ke w (d ++ [lowB c]) N (by rw [List.length_append, List.length_singleton]; omega) (by rw [List.length_append, List.length_singleton]; omega) (by rw [List.append_assoc]; exact h)
  have hlow := jhf c
  have e1 : (d ++ c :: w).getD (d.length : Int).toNat (zI Cd.u8) = c := by
   rw [Int.toNat_natCast]
   exact Jgg d c w _
  have e2 : (d ++ c :: w).set (d.length : Int).toNat (lowB c) = d ++ [lowB c] ++ w := by
   rw [Int.toNat_natCast, List.set_append_right _ _ (Nat.le_refl _), Nat.sub_self, List.append_assoc]
   rfl
  rw [List.length_append, List.length_singleton, ← e2, show ((d.length + 1 : Nat) : Int) = (d.length : Int) + 1 from by omega] at hm
  refine ⟨m + 1, ?_⟩
  simp only [jah]
  have hlen : (d ++ c :: w).length = d.length + (w.length + 1) := by rw [List.length_append, List.length_cons]
  refine ⟨fun _ => ⟨⟨by omega, by omega⟩, by omega, ?_⟩, fun q => by have := of_decide_eq_false q; omega⟩
  rw [e1]
  exact ⟨⟨by omega, by have := c.toNat_lt; omega⟩, ⟨by omega, by omega⟩, by omega, ⟨hlow.1, hlow.2⟩, by unfold I64; omega, hm⟩
def Jdk : JS := fun s K => s.length ≤ 10000000 ∧ K (s.map lowB)
theorem Zhf (s K) (h : Jdk s K) : zcT Jec s K := ⟨by have := h.1; omega, Zgt _ s [] _ (by simp) (by have := h.1; simpa using this) h.2⟩
def JeR : jG := fun s p K => (p.isPrefixOf s = true → K (s.drop p.length) true) ∧ (p.isPrefixOf s = false → K s false)
theorem Jhf (s p K) (h : JeR s p K) : JaL jeD s p K := by
 obtain ⟨h1, h2⟩ := h
 show ((!(p.isPrefixOf s)) = true → _) ∧ _
 cases hp : p.isPrefixOf s with
 | false => exact ⟨fun _ => h2 hp, fun q => by simp at q⟩
 | true =>
  have := (List.isPrefixOf_iff_prefix.1 hp).length_le
  exact ⟨fun q => by simp at q, fun _ => ⟨⟨by omega, by omega⟩, by rw [Int.toNat_natCast]; exact h1 hp⟩⟩
def zcm : zh := fun s p K => (p.isPrefixOf s = true → K (s.drop p.length) true) ∧ (p.isPrefixOf s = false → K s false)
theorem zhg (s p K) (h : zcm s p K) : jaM JeR s p K := h
def okN (t : Tok) : Prop := (-1000000000000000 ≤ t.num ∧ t.num ≤ 1000000000000000) ∧ t.text.length ≤ 1000000 ∧ t.unit.length ≤ 1000000
def ZaV (t : Tok) : Int × Bool := if t.flag = true ∧ t.num.tmod 1000 = 0 ∧ inW (t.num.tdiv 1000) = true then (t.num.tdiv 1000, true) else (0, false)
def Jbu : jC := fun t K => okN t ∧ K (ZaV t).1 (ZaV t).2
theorem zgh (t K) (h : Jbu t K) : zbJ je9 t K := by
 obtain ⟨⟨⟨h0, h1⟩, _⟩, h⟩ := h
 have hd := ZgI t.num 1000
 unfold ZaV at h
 refine ⟨by decide, by unfold I64; omega, fun q => ⟨by decide, fun q2 => ⟨fun q3 => ?_, fun q3 => ?_⟩, fun q2 => ?_⟩, fun q => ?_⟩
 ·have q3 : inW (t.num.tdiv 1000) = false := by simpa using q3
  rw [if_neg (by rw [q3]; simp)] at h
  exact h
 ·have q : t.flag = true := by simpa using q
  have q2 := of_decide_eq_false q2
  have q3 : inW (t.num.tdiv 1000) = true := by simpa using q3
  rw [if_pos ⟨q, by omega, q3⟩] at h
  exact h
 ·have q2 := of_decide_eq_true q2
  rw [if_neg (fun z => q2 z.2.1)] at h
  exact h
 ·have q : t.flag = false := by simpa using q
  rw [if_neg (fun z => by rw [q] at z; cases z.1)] at h
  exact h
def jav : List Tok → Int × Bool
 | [t] => if t.kind = 10 then ZaV t else (0, false)
 | _ => (0, false)
def jcm : Jk := fun l K => (∀ t ∈ l, okN t) ∧ K (jav l).1 (jav l).2
theorem jhg (l K) (h : jcm l K) : jbk Jbu l K := by
 obtain ⟨hl, h⟩ := h
 match l, hl, h with
 | [], hl, h => exact ⟨fun q => by simp at q, fun _ => h⟩
 | [t], hl, h =>
  refine ⟨fun _ => ⟨⟨by decide, by rw [List.length_singleton]; decide⟩, fun q => ?_, fun q => ⟨⟨by decide, by rw [List.length_singleton]; decide⟩, hl t (List.mem_singleton.2 rfl), ?_⟩⟩, fun q => by simp at q⟩
  ·have q : ¬ t.kind = 10 := of_decide_eq_true q
   unfold jav at h
   dsimp only at h
   rw [if_neg q] at h
   exact h
  ·have q : t.kind = 10 := by
    have := of_decide_eq_false q
    exact Decidable.not_not.1 this
   unfold jav at h
   dsimp only at h
   rw [if_pos q] at h
   exact h
 | a :: b :: w, hl, h => exact ⟨fun q => by simp at q; omega, fun _ => h⟩
def zdl : Jq := fun t s K => K (decide (t.kind = 9) && t.text == s)
theorem Zhg (t s K) (h : zdl t s K) : Ja3 t s K := by
 have h : K (decide (t.kind = 9) && t.text == s) := h
 refine ⟨fun q => ?_, fun q => ?_⟩
 ·rwa [q, Bool.true_and] at h
 ·rwa [q, Bool.false_and] at h
def bSp : List Tok → List Tok
 | [] => []
 | t :: w => if t.kind = 13 then bSp w else t :: w
theorem Jgt (K : List Tok → Prop) : ∀ l : List Tok, K (bSp l) → ∃ m, Z7 m l K
 | [], h => ⟨1, by
  simp only [Z7]
  exact ⟨fun q => by simp at q, fun _ => h⟩⟩
 | t :: w, h => by
  unfold bSp at h
  by_cases k : t.kind = 13
  ·rw [if_pos k] at h
   obtain ⟨m, hm⟩ := Jgt K w h
   refine ⟨m + 1, ?_⟩
   simp only [Z7]
   refine ⟨fun _ => ⟨⟨by decide, by rw [List.length_cons]; omega⟩, fun _ => ⟨⟨by decide, by rw [List.length_cons]; omega⟩, hm⟩, fun q => absurd k (of_decide_eq_false q)⟩, fun q => by have := of_decide_eq_false q; rw [List.length_cons] at this; omega⟩
  ·rw [if_neg k] at h
   refine ⟨1, ?_⟩
   simp only [Z7]
   refine ⟨fun _ => ⟨⟨by decide, by rw [List.length_cons]; omega⟩, fun q => absurd (of_decide_eq_true q) k, fun _ => h⟩, fun q => by have := of_decide_eq_false q; rw [List.length_cons] at this; omega⟩
def zdJ : Jl := fun l K => K (bSp l)
theorem jhz (l K) (h : zdJ l K) : ZcV l K := Jgt _ l h
def rSp (l : List Tok) : List Tok := (bSp l.reverse).reverse
theorem jdJ (l : List Tok) (t : Tok) : rSp (l ++ [t]) = if t.kind = 13 then rSp l else l ++ [t] := by
 unfold rSp
 rw [List.reverse_append, List.reverse_singleton, List.singleton_append, bSp]
 split
 ·rfl
 ·rw [List.reverse_cons, List.reverse_reverse]
theorem zee (l : List Tok) (t : Tok) : (l ++ [t]).getD l.length (zI Cd.tok) = t := by
 show (l ++ [t]).getD l.length (⟨0, [], 0, [], false⟩ : Tok) = t
 rw [List.getD_eq_getElem?_getD, List.getElem?_append_right (Nat.le_refl _), Nat.sub_self]
 rfl
theorem JfJ (K : List Tok → Prop) : ∀ (n : Nat) (l : List Tok), l.length = n → n ≤ 1000000 → K (rSp l) → ∃ m, JE zdJ m l K
 | 0, l, hn, _, h => by
  obtain rfl := List.length_eq_zero_iff.1 hn
  refine ⟨1, ?_⟩
  simp only [JE]
  exact ⟨fun q => by simp at q, fun _ => h⟩
 | n + 1, l, hn, hb, h => by
  rcases List.eq_nil_or_concat l with rfl | ⟨x, t, rfl⟩
  ·cases hn
  rw [List.concat_eq_append] at hn h ⊢
  rw [List.length_append, List.length_singleton] at hn
  rw [jdJ] at h
  have hx : x.length = n := by omega
  have hlen : ((x ++ [t]).length : Int) = (x.length : Int) + 1 := by rw [List.length_append, List.length_singleton]; omega
  have e0 : ((x.length : Int) + 1 - 1).toNat = x.length := by omega
  by_cases k : t.kind = 13
  ·rw [if_pos k] at h
   obtain ⟨m, hm⟩ := JfJ K n x hx (by omega) h
   refine ⟨m + 1, ?_⟩
   simp only [JE, hlen, e0, zee, List.take_left]
   exact ⟨fun _ => ⟨by unfold I64; omega, ⟨by omega, by omega⟩, fun _ => ⟨by unfold I64; omega, ⟨by omega, by omega⟩, hm⟩, fun q => absurd k (of_decide_eq_false q)⟩, fun q => by have := of_decide_eq_false q; omega⟩
  ·rw [if_neg k] at h
   refine ⟨1, ?_⟩
   simp only [JE, hlen, e0, zee, List.take_left]
   exact ⟨fun _ => ⟨by unfold I64; omega, ⟨by omega, by omega⟩, fun q => absurd (of_decide_eq_true q) k, fun _ => h⟩, fun q => by have := of_decide_eq_false q; omega⟩
theorem zfK : ∀ l : List Tok, (bSp l).length ≤ l.length
 | [] => Nat.le_refl _
 | t :: w => by
  unfold bSp
  split
  ·have := zfK w; rw [List.length_cons]; omega
  ·exact Nat.le_refl _
def ZdJ : zN := fun l K => l.length ≤ 1000000 ∧ K (rSp (bSp l))
theorem zgN (l K) (h : ZdJ l K) : ja4 zdJ l K := JfJ _ _ _ rfl (by have := zfK l; have := h.1; omega) h.2
def odd : List UInt8 := [111, 100, 100]
def ZgZ : List UInt8 := [101, 118, 101, 110]
def Jb1 (l : List Tok) : (Int × Int) × Bool := match l with
 | [t] => if t.kind = 1 then (if t.text.map lowB = odd then ((2, 1), true) else if t.text.map lowB = ZgZ then ((2, 0), true) else ((0, (jav l).1), (jav l).2)) else ((0, (jav l).1), (jav l).2)
 | _ => ((0, (jav l).1), (jav l).2)
def JdJ : J7 := fun l K => (∀ t ∈ l, okN t) ∧ K (Jb1 l).1 (Jb1 l).2
theorem jgN (l K) (h : JdJ l K) : ZbJ Jdk jcm l K := by
 obtain ⟨hl, h⟩ := h
 match l, hl, h with
 | [], hl, h => exact ⟨fun q => by simp at q, fun _ => ⟨hl, h⟩⟩
 | a :: b :: w, hl, h => exact ⟨fun q => by have := of_decide_eq_true q; rw [List.length_cons, List.length_cons] at this; omega, fun _ => ⟨hl, h⟩⟩
 | [t], hl, h =>
  have ht := hl t (List.mem_singleton.2 rfl)
  unfold Jb1 at h
  dsimp only at h
  refine ⟨fun _ => ⟨⟨by decide, by rw [List.length_singleton]; decide⟩, fun q => ⟨⟨by decide, by rw [List.length_singleton]; decide⟩, by have := ht.2.1; show t.text.length ≤ _; omega, ?_⟩, fun q => ⟨hl, ?_⟩⟩, fun q => by simp at q⟩
  ·have q : t.kind = 1 := of_decide_eq_true q
   rw [if_pos q] at h
   refine ⟨fun z => ?_, fun z => ⟨fun z2 => ?_, fun z2 => ⟨hl, ?_⟩⟩⟩
   ·rw [if_pos (by have z : (t.text.map lowB == odd) = true := z; simpa using z)] at h; exact h
   ·rw [if_neg (by have z : (t.text.map lowB == odd) = false := z; simpa using z), if_pos (by have z : (t.text.map lowB == ZgZ) = true := z2; simpa using z)] at h; exact h
   ·rw [if_neg (by have z : (t.text.map lowB == odd) = false := z; simpa using z), if_neg (by have z : (t.text.map lowB == ZgZ) = false := z2; simpa using z)] at h; exact h
  ·have q : ¬ t.kind = 1 := of_decide_eq_false q
   rw [if_neg q] at h
   exact h
def Zao (l : List Tok) : Int × List UInt8 × List Tok × Bool := match l with
 | [] => (0, [], [], false)
 | t :: w => if t.kind = 1 then (if [45].isPrefixOf (t.text.map lowB) then (-1, (t.text.map lowB).drop 1, w, true) else (1, t.text.map lowB, w, true))
  else if t.kind = 12 then ((ZaV t).1, t.unit.map lowB, w, (ZaV t).2)
  else if (decide (t.kind = 9) && t.text == [43]) = true then (match w with
   | [] => (0, [], [], false)
   | u :: v => if u.kind = 1 then (1, u.text.map lowB, v, true) else (0, [], [], false))
  else (0, [], [], false)
def zeS : jN := fun l K => (∀ t ∈ l, okN t) ∧ K (Zao l).1 (Zao l).2.1 (Zao l).2.2.1 (Zao l).2.2.2
theorem Jhg (l K) (h : zeS l K) : Za4 Jdk zcm Jbu zdl l K := by
 obtain ⟨hl, h⟩ := h
 match l, hl, h with
 | [], hl, h => exact ⟨fun _ => h, fun q => by simp at q⟩
 | t :: w, hl, h =>
  have ht := hl t (List.mem_cons_self ..)
  have hlen : ((t :: w).length : Int) = (w.length : Int) + 1 := by rw [List.length_cons]; omega
  have b0 : (0 : Int) < ((t :: w).length : Int) := by omega
  unfold Zao at h
  dsimp only at h
  refine ⟨fun q => by have := of_decide_eq_true q; omega, fun _ => ⟨⟨by decide, b0⟩, fun q => ⟨⟨by decide, b0⟩, by have := ht.2.1; show t.text.length ≤ _; omega, fun z => ?_, fun z => ?_⟩, fun q => ⟨⟨by decide, b0⟩, fun q2 => ⟨⟨by decide, b0⟩, ht, ⟨by decide, b0⟩, by have := ht.2.2; show t.unit.length ≤ _; omega, ⟨by decide, by omega⟩, ?_⟩, fun q2 => ⟨⟨by decide, b0⟩, fun q3 => ?_, fun q3 => ?_⟩⟩⟩⟩
  ·have q : t.kind = 1 := of_decide_eq_true q
   have z : [45].isPrefixOf (t.text.map lowB) = true := z
   rw [if_pos q, if_pos z] at h
   exact ⟨fun _ => ⟨⟨by decide, by omega⟩, h⟩, fun z => by cases z⟩
  ·have q : t.kind = 1 := of_decide_eq_true q
   have z : [45].isPrefixOf (t.text.map lowB) = false := z
   rw [if_pos q, if_neg (by rw [z]; decide)] at h
   exact ⟨fun z => (by cases z), fun _ => ⟨⟨by decide, by omega⟩, h⟩⟩
  ·have q : ¬ t.kind = 1 := of_decide_eq_false q
   have q2 : t.kind = 12 := of_decide_eq_true q2
   rw [if_neg q, if_pos q2] at h
   exact h
  ·have q : ¬ t.kind = 1 := of_decide_eq_false q
   have q2 : ¬ t.kind = 12 := of_decide_eq_false q2
   have q3 : (decide (t.kind = 9) && t.text == [43]) = true := q3
   rw [if_neg q, if_neg q2, if_pos q3] at h
   match w, hl, h, hlen with
   | [], hl, h, hlen => exact ⟨fun z => by simp at z, fun _ => h⟩
   | u :: v, hl, h, hlen =>
    have hu := hl u (by simp)
    have hlen2 : ((t :: u :: v).length : Int) = (v.length : Int) + 2 := by simp only [List.length_cons]; omega
    dsimp only at h
    refine ⟨fun _ => ⟨⟨by decide, by omega⟩, fun z => ⟨⟨by decide, by omega⟩, by have := hu.2.1; show u.text.length ≤ _; omega, ⟨by decide, by omega⟩, ?_⟩, fun z => ?_⟩, fun z => by have := of_decide_eq_false z; omega⟩
    ·have z : u.kind = 1 := of_decide_eq_true z
     rw [if_pos z] at h; exact h
    ·have z : ¬ u.kind = 1 := of_decide_eq_false z
     rw [if_neg z] at h; exact h
  ·have q : ¬ t.kind = 1 := of_decide_eq_false q
   have q2 : ¬ t.kind = 12 := of_decide_eq_false q2
   have q3 : (decide (t.kind = 9) && t.text == [43]) = false := q3
   rw [if_neg q, if_neg q2, if_neg (by rw [q3]; decide)] at h
   exact h
def jfb : zr := fun n b K => (-1000000000000 ≤ n ∧ n ≤ 1000000000000) ∧ K (0 - n) b
theorem Zhz (n b K) (h : jfb n b K) : za5 n b K := ⟨by have := h.1; unfold I64; omega, h.2⟩
def Zde (l : List Tok) : Int × Bool := if (jav (bSp l)).1 < 0 then (0, false) else jav (bSp l)
def Zfb : Zn := fun l K => (∀ t ∈ l, okN t) ∧ K (Zde l).1 (Zde l).2
theorem zdK {l : List Tok} {p : Tok → Prop} (h : ∀ t ∈ l, p t) : ∀ t ∈ bSp l, p t := by
 induction l with
 | nil => exact h
 | cons a w ih =>
  unfold bSp
  split
  ·exact ih fun t ht => h t (List.mem_cons_of_mem _ ht)
  ·exact h
theorem Jhz (l K) (h : Zfb l K) : jaN zdJ jcm l K := by
 obtain ⟨hl, h⟩ := h
 unfold Zde at h
 refine ⟨zdK hl, fun q => ?_, fun q => ?_⟩
 ·rw [if_pos (of_decide_eq_true q)] at h; exact h
 ·rw [if_neg (of_decide_eq_false q)] at h; exact h
theorem jfK (t : Tok) : -1000000000 ≤ (ZaV t).1 ∧ (ZaV t).1 ≤ 1000000000 := by
 unfold ZaV
 split
 ·rename_i q
  exact Jac.1 q.2.2
 ·exact ⟨by decide, by decide⟩
theorem ZgN (l : List Tok) : -1000000000 ≤ (jav l).1 ∧ (jav l).1 ≤ 1000000000 := by
 match l with
 | [] => exact ⟨by decide, by decide⟩
 | [t] =>
  unfold jav
  dsimp only
  split
  ·exact jfK t
  ·exact ⟨by decide, by decide⟩
 | _ :: _ :: _ => show -1000000000 ≤ (0 : Int) ∧ (0 : Int) ≤ 1000000000; decide
theorem zgu (l : List Tok) : -1000000000 ≤ (Zde l).1 ∧ (Zde l).1 ≤ 1000000000 := by
 unfold Zde
 split
 ·exact ⟨by decide, by decide⟩
 ·exact ZgN _
def JgN (l : List Tok) : Int × Bool := match bSp l with
 | [] => (0, true)
 | t :: w => if (decide (t.kind = 9) && t.text == [43]) = true then Zde w else if (decide (t.kind = 9) && t.text == [45]) = true then (0 - (Zde w).1, (Zde w).2) else jav (t :: w)
def jgh : zA := fun l K => (∀ t ∈ l, okN t) ∧ K (JgN l).1 (JgN l).2
theorem zhA (l K) (h : jgh l K) : Jat zdJ zdl Zfb jfb jcm l K := by
 obtain ⟨hl, h⟩ := h
 have hb := zdK hl
 unfold JgN at h
 show ((decide (((bSp l).length : Int) = 0)) = true → _) ∧ _
 generalize bSp l = m at h hb ⊢
 match m, hb, h with
 | [], hb, h => exact ⟨fun _ => h, fun q => by simp at q⟩
 | t :: w, hb, h =>
  have hw : ∀ u ∈ w, okN u := fun u hu => hb u (List.mem_cons_of_mem _ hu)
  have hlen : ((t :: w).length : Int) = (w.length : Int) + 1 := by rw [List.length_cons]; omega
  have b0 : (0 : Int) < ((t :: w).length : Int) := by omega
  dsimp only at h
  refine ⟨fun q => by have := of_decide_eq_true q; omega, fun _ => ⟨⟨by decide, b0⟩, fun q => ⟨⟨by decide, by omega⟩, hw, ?_⟩, fun q => ⟨⟨by decide, b0⟩, fun q2 => ⟨⟨by decide, by omega⟩, hw, by have := zgu w; show (-1000000000000 : Int) ≤ (Zde w).1 ∧ (Zde w).1 ≤ 1000000000000; omega, ?_⟩, fun q2 => ⟨hb, ?_⟩⟩⟩⟩
  ·have q : (decide (t.kind = 9) && t.text == [43]) = true := q
   rw [if_pos q] at h; exact h
  ·have q : (decide (t.kind = 9) && t.text == [43]) = false := q
   have q2 : (decide (t.kind = 9) && t.text == [45]) = true := q2
   rw [if_neg (by rw [q]; decide), if_pos q2] at h
   exact h
  ·have q : (decide (t.kind = 9) && t.text == [43]) = false := q
   have q2 : (decide (t.kind = 9) && t.text == [45]) = false := q2
   rw [if_neg (by rw [q]; decide), if_neg (by rw [q2]; decide)] at h
   exact h
def zb3 : List UInt8 → Int → Int × Bool
 | [], n => (n, true)
 | c :: w, n => if mD (c.toNat : Int) = true then zb3 w (min (10 * n + ((c.toNat : Int) - 48)) 1000000000) else (0, false)
theorem jgu : ∀ (w : List UInt8) (n : Int), 0 ≤ n → n ≤ 1000000000 → 0 ≤ (zb3 w n).1 ∧ (zb3 w n).1 ≤ 1000000000
 | [], n, h0, h1 => ⟨h0, h1⟩
 | c :: w, n, h0, h1 => by
  unfold zb3
  split
  ·rename_i q
   have : 48 ≤ (c.toNat : Int) := by unfold mD at q; simp at q; omega
   exact jgu w _ (by omega) (by omega)
  ·exact ⟨by decide, by decide⟩
theorem jdl {l w : List UInt8} {i : Nat} {x : UInt8} (h : l.drop i = x :: w) : l.drop (i + 1) = w ∧ i < l.length ∧ l.getD i 0 = x := by
 refine ⟨by rw [← List.drop_drop, h]; rfl, ?_, ?_⟩
 ·rcases Nat.lt_or_ge i l.length with q | q
  ·exact q
  ·rw [List.drop_eq_nil_of_le q] at h; cases h
 ·have := congrArg (·[0]?) h
  simp only [List.getElem?_drop, List.getElem?_cons_zero, Nat.add_zero] at this
  rw [List.getD_eq_getElem?_getD, this]
  rfl
theorem Zgu (s : List UInt8) (hs : s.length ≤ 1000000) (Ke : Int → Prop) (Kr : Int → Bool → Prop) : ∀ (w : List UInt8) (i : Nat) (n : Int), s.drop i = w → i ≤ s.length → 0 ≤ n → n ≤ 1000000000 → ((zb3 w n).2 = true → Ke (zb3 w n).1) → ((zb3 w n).2 = false → Kr 0 false) → ∃ m, Zw Jar m s n (s.length : Int) (i : Int) Ke Kr
 | [], i, n, hw, hi, h0, h3, h1, h2 => ⟨1, by
  have hle : s.length ≤ i := List.drop_eq_nil_iff.1 hw
  simp only [Zw]
  exact ⟨fun q => by have := of_decide_eq_true q; omega, fun _ => h1 rfl⟩⟩
 | c :: w, i, n, hw, hi, h0, h3, h1, h2 => by
  obtain ⟨g1, g2, g3⟩ := jdl hw
  have n0 : ((i : Int)).toNat = i := rfl
  unfold zb3 at h1 h2
  cases hc : mD (c.toNat : Int) with
  | false =>
   rw [hc, if_neg (by decide)] at h2
   refine ⟨1, ?_⟩
   simp only [Zw, n0, g3]
   exact ⟨fun _ => ⟨⟨by omega, by omega⟩, isDK hc ⟨fun _ => h2 rfl, fun q => by simp at q⟩⟩, fun q => by have := of_decide_eq_false q; omega⟩
  | true =>
   rw [hc, if_pos rfl] at h1 h2
   have hd : 48 ≤ (c.toNat : Int) ∧ (c.toNat : Int) ≤ 57 := by unfold mD at hc; simpa using hc
   obtain ⟨m, hm⟩ := Zgu s hs Ke Kr w (i + 1) (min (10 * n + ((c.toNat : Int) - 48)) 1000000000) g1 (by omega) (by omega) (by omega) h1 h2
   have ew : IntKind.u8.wrap ((c.toNat : Int) - 48) = (c.toNat : Int) - 48 := by rw [IntKind.wrap_u8]; omega
   have em : (if (1000000000 : Int) < 10 * n + ((c.toNat : Int) - 48) then (1000000000 : Int) else 10 * n + ((c.toNat : Int) - 48)) = min (10 * n + ((c.toNat : Int) - 48)) 1000000000 := by
    split <;> omega
   refine ⟨m + 1, ?_⟩
   simp only [Zw, n0, g3, ew, em]
   exact ⟨fun _ => ⟨⟨by omega, by omega⟩, isDK hc ⟨fun q => by simp at q, fun _ => ⟨by unfold I64; omega, ⟨by omega, by omega⟩, by unfold I64; omega, by unfold I64; omega, by unfold I64; omega, by rw [show (i : Int) + 1 = ((i + 1 : Nat) : Int) from by omega]; exact hm⟩⟩⟩, fun q => by have := of_decide_eq_false q; omega⟩
where
 isDK {c : Int} {b : Bool} {K : Bool → Prop} (h : mD c = b) (hk : K b) : Jar c K := by subst h; exact hk
def Zgh : jA := fun s K => s.length ≤ 1000000 ∧ K (zb3 s 0).1 (zb3 s 0).2
theorem Jgu : ∀ (w : List UInt8) (n : Int), (zb3 w n).2 = false → (zb3 w n).1 = 0
 | [], n, h => by cases h
 | c :: w, n, h => by
  unfold zb3 at h ⊢
  split
  ·rename_i q
   rw [if_pos q] at h
   exact Jgu w _ h
  ·rfl
theorem jhA (s K) (h : Zgh s K) : jau Jar s K := by
 obtain ⟨hl, h⟩ := h
 refine Zgu s hl _ _ s 0 0 rfl (Nat.zero_le _) (by decide) (by decide) (fun q => ?_) (fun q => ?_)
 ·rw [q] at h; exact h
 ·rw [q, Jgu s 0 q] at h; exact h
def ZeD (s : List UInt8) (l : List Tok) : Int × Bool :=
 if s = [] then JgN l
 else if [45].isPrefixOf s = true then (if s.drop 1 = [] then (0 - (Zde l).1, (Zde l).2) else if l ≠ [] then (0, false) else (0 - (zb3 (s.drop 1) 0).1, (zb3 (s.drop 1) 0).2))
 else (0, false)
def jeS : ZA := fun s l K => ((∀ t ∈ l, okN t) ∧ s.length ≤ 1000000) ∧ K (ZeD s l).1 (ZeD s l).2
theorem zhh (s l K) (h : jeS s l K) : Zau jgh zcm Zfb jfb Zgh s l K := by
 obtain ⟨⟨hl, hs⟩, h⟩ := h
 unfold ZeD at h
 refine ⟨fun q => ⟨hl, ?_⟩, fun q => ⟨fun z => ?_, fun z => ?_⟩⟩
 ·rw [if_pos (by simpa using q)] at h; exact h
 ·rw [if_neg (by simpa using q), if_pos z] at h
  refine ⟨fun z => by simp at z, fun _ => ⟨fun z2 => ⟨hl, by have := zgu l; omega, ?_⟩, fun z2 => ⟨fun z3 => ?_, fun z3 => ⟨?_, by have := jgu (s.drop 1) 0 (by decide) (by decide); show (-1000000000000 : Int) ≤ (zb3 (s.drop 1) 0).1 ∧ (zb3 (s.drop 1) 0).1 ≤ 1000000000000; omega, ?_⟩⟩⟩⟩
  ·rw [if_pos (by have z2 : (s.drop 1 == []) = true := z2; simpa using z2)] at h; exact h
  ·have z3 := of_decide_eq_true z3
   rw [if_neg (by have z2 : (s.drop 1 == []) = false := z2; simpa using z2), if_pos (by intro e; rw [e] at z3; simp at z3)] at h; exact h
  ·show (s.drop 1).length ≤ _
   rw [List.length_drop]; omega
  ·have z3 := of_decide_eq_false z3
   rw [if_neg (by have z2 : (s.drop 1 == []) = false := z2; simpa using z2), if_neg (by intro e; apply e; exact List.length_eq_zero_iff.1 (by omega))] at h; exact h
 ·rw [if_neg (by simpa using q), if_neg (by rw [z]; decide)] at h
  exact ⟨fun _ => h, fun z => by simp at z⟩
def Zc0 (l : List Tok) : (Int × Int) × Bool :=
 let m := rSp (bSp l)
 if (Jb1 m).2 = true then ((Jb1 m).1, true)
 else if (Zao m).2.2.2 = true ∧ [110].isPrefixOf (Zao m).2.1 = true ∧ (ZeD ((Zao m).2.1.drop 1) (Zao m).2.2.1).2 = true then (((Zao m).1, (ZeD ((Zao m).2.1.drop 1) (Zao m).2.2.1).1), true)
 else ((0, 0), false)
theorem zgO {l : List Tok} {p : Tok → Prop} (h : ∀ t ∈ l, p t) : ∀ t ∈ rSp l, p t := by
 intro t ht
 unfold rSp at ht
 rw [List.mem_reverse] at ht
 exact zdK (p := p) (fun u hu => h u (List.mem_reverse.1 hu)) t ht
theorem jgO {l : List Tok} (h : ∀ t ∈ l, okN t) : (Zao l).2.1.length ≤ 1000000 ∧ ∀ t ∈ (Zao l).2.2.1, okN t := by
 match l, h with
 | [], h => exact ⟨by simp [Zao], by simp [Zao]⟩
 | t :: w, h =>
  have ht := h t (List.mem_cons_self ..)
  have hw : ∀ u ∈ w, okN u := fun u hu => h u (List.mem_cons_of_mem _ hu)
  unfold Zao
  dsimp only
  split
  ·split
   ·exact ⟨by rw [List.length_drop, List.length_map]; have := ht.2.1; omega, hw⟩
   ·exact ⟨by rw [List.length_map]; exact ht.2.1, hw⟩
  ·split
   ·exact ⟨by rw [List.length_map]; exact ht.2.2, hw⟩
   ·split
    ·match w, hw with
     | [], _ => exact ⟨Nat.zero_le _, fun u hu => by cases hu⟩
     | u :: v, hw =>
      dsimp only
      split
      ·exact ⟨by rw [List.length_map]; exact (hw u (List.mem_cons_self ..)).2.1, fun x hx => hw x (List.mem_cons_of_mem _ hx)⟩
      ·exact ⟨Nat.zero_le _, fun u hu => by cases hu⟩
    ·exact ⟨Nat.zero_le _, fun u hu => by cases hu⟩
def ZeS : Zah := fun l K => (l.length ≤ 1000000 ∧ ∀ t ∈ l, okN t) ∧ K (Zc0 l).1 (Zc0 l).2
theorem jhh (l K) (h : ZeS l K) : Jcf ZdJ JdJ zeS zcm jeS l K := by
 obtain ⟨⟨hn, hl⟩, h⟩ := h
 unfold Zc0 at h
 have hm : ∀ t ∈ rSp (bSp l), okN t := zgO (zdK hl)
 refine ⟨hn, ?_⟩
 generalize rSp (bSp l) = m at h hm ⊢
 obtain ⟨k1, k2⟩ := jgO hm
 dsimp only at h
 refine ⟨hm, fun q => ?_, fun q => ⟨hm, fun z => ?_, fun z => ⟨fun y => ⟨fun w => (by simp at w), fun _ => ⟨⟨k2, ?_⟩, fun x => ?_, fun x => ?_⟩⟩, fun y => ⟨fun _ => ?_, fun w => (by simp at w)⟩⟩⟩⟩
 ·rw [if_pos q] at h; exact h
 ·have z : (Zao m).2.2.2 = false := by simpa using z
  rw [if_neg (by rw [q]; decide), if_neg (fun y => by rw [z] at y; cases y.1)] at h; exact h
 ·show ((Zao m).2.1.drop 1).length ≤ _
  rw [List.length_drop]; omega
 ·have x : (ZeD ((Zao m).2.1.drop 1) (Zao m).2.2.1).2 = false := by simpa using x
  rw [if_neg (by rw [q]; decide), if_neg (fun y => by rw [x] at y; cases y.2.2)] at h; exact h
 ·have x : (ZeD ((Zao m).2.1.drop 1) (Zao m).2.2.1).2 = true := by simpa using x
  have z : (Zao m).2.2.2 = true := by simpa using z
  rw [if_neg (by rw [q]; decide), if_pos ⟨z, y, x⟩] at h; exact h
 ·have y : [110].isPrefixOf (Zao m).2.1 = false := y
  rw [if_neg (by rw [q]; decide), if_neg (fun w => by rw [y] at w; cases w.2.1)] at h; exact h
def jdK : jD := fun l K => (l.length ≤ 1000000 ∧ ∀ t ∈ l, okN t) ∧ ∃ a, Zc0 l = (a, true) ∧ K a 0
theorem ZhA (l K) (h : jdK l K) : jdG ZeS l K := by
 obtain ⟨hl, a, e, hK⟩ := h
 refine ⟨hl, ?_⟩
 rw [e]
 exact ⟨fun q => by simp at q, fun _ => hK⟩
def ja6 : Zz := fun s K => ∃ l a, zaq s (fun m e => m = l ∧ e = 0) ∧ (l.length ≤ 1000000 ∧ ∀ t ∈ l, okN t) ∧ Zc0 l = (a, true) ∧ K a 0
theorem ZgO (s K) (h : ja6 s K) : jcg zaq jdK s K := by
 obtain ⟨l, a, ⟨t1, t2, t3⟩, hl, e, hK⟩ := h
 have fin : ∀ m e2, (m = l ∧ e2 = 0) → ((decide (e2 ≠ (0 : Int))) = true → K (0, 0) e2) ∧ ((decide (e2 ≠ (0 : Int))) = false → jdK m fun y3 y4 => K (y3.1, y3.2) y4) := by
  rintro m e2 ⟨rfl, rfl⟩
  exact ⟨fun q => absurd rfl (of_decide_eq_true q), fun _ => ⟨hl, a, e, hK⟩⟩
 exact ⟨fun q => fin _ _ (t1 q), fun q q2 => fin _ _ (t2 q q2), fun q q2 => fin _ _ (t3 q q2)⟩
end Go.Proofs.YtbpbaicbaehhjaaGreatDoor
set_option linter.unusedVariables false
set_option linter.unusedSimpArgs false
namespace Go.Proofs.YtbpbaicbaehhjaaGreatDoor
open Go.Vm Go.Sx Go.RowKit
theorem zfP (c : UInt8) (w : List UInt8) (n : Int) : zb3 (c :: w) n = if mD (c.toNat : Int) = true then zb3 w (min (10 * n + ((c.toNat : Int) - 48)) 1000000000) else (0, false) := rfl
theorem jfP : ∀ (x y : List UInt8) (n : Int), (zb3 x n).2 = true → zb3 (x ++ y) n = zb3 y (zb3 x n).1
 | [], y, n, _ => rfl
 | c :: x, y, n, h => by
  rw [List.cons_append]
  simp only [zfP] at h ⊢
  split
  ·rename_i q
   rw [if_pos q] at h
   exact jfP x y _ h
  ·rename_i q
   rw [if_neg q] at h
   cases h
theorem JgT (m : Nat) (hm : m ≤ 1000000000) : zb3 (Lib.decDigits m) 0 = ((m : Int), true) := by
 induction m using Nat.strongRecOn with
 | _ m ih =>
  have one : ∀ d, d < 10 → mD ((UInt8.ofNat (48 + d)).toNat : Int) = true ∧ ((UInt8.ofNat (48 + d)).toNat : Int) - 48 = d := by
   have key : ∀ d, d < 10 → mD ((UInt8.ofNat (48 + d)).toNat : Int) = true ∧ ((UInt8.ofNat (48 + d)).toNat : Int) - 48 = d := by decide +kernel
   exact key
  rw [Lib.decDigits]
  split
  ·rename_i q
   obtain ⟨h1, h2⟩ := one m q
   unfold zb3 zb3
   rw [if_pos h1, h2]
   congr 1
   omega
  ·rename_i q
   have hd := ih (m / 10) (by omega) (by omega)
   rw [jfP _ _ _ (by rw [hd]), hd]
   obtain ⟨h1, h2⟩ := one (m % 10) (Nat.mod_lt _ (by decide))
   unfold zb3 zb3
   rw [if_pos h1, h2]
   congr 1
   dsimp only
   omega
theorem Zbo (m : Nat) : ∀ c ∈ Lib.decDigits m, 48 ≤ (c.toNat : Int) ∧ (c.toNat : Int) ≤ 57 := by
 intro c hc
 have := (I.dec_ok m).1 c hc
 unfold mD at this
 simpa using this
theorem ZfP (m : Nat) : Lib.decDigits m ≠ [] := (I.dec_ok m).2.1
def ZcA (B : Int) : Tok := tk 10 [] (1000 * B) [] true
theorem jeT (k : Int) (A : Int) (u x : List UInt8) (h : inW A = true) : ZaV ⟨k, x, 1000 * A, u, true⟩ = (A, true) := by
 unfold ZaV
 have e1 : (1000 * A).tmod 1000 = 0 := Int.mul_tmod_right 1000 A
 have e2 : (1000 * A).tdiv 1000 = A := Int.mul_tdiv_cancel_left A (by decide)
 dsimp only
 rw [e2, if_pos ⟨rfl, e1, h⟩]
theorem JfP {B : Int} (h : inW B = true) : jav [ZcA B] = (B, true) := by
 unfold jav ZcA tk
 dsimp only
 rw [if_pos rfl, jeT _ _ _ _ h]
theorem JdL {B : Int} (h : inW B = true) : NumOK (1000 * B) true := by
 have := Jac.1 h
 exact ⟨by omega, by omega, fun _ => Int.mul_tmod_right 1000 B⟩
theorem zfQ (B : Int) : zaJ (1000 * B) true = Lib.itoa B := by
 unfold zaJ Lib.itoa
 have e0 : (1000 * B).natAbs = 1000 * B.natAbs := by rw [Int.natAbs_mul]; rfl
 have e : (1000 * B).natAbs / 1000 = B.natAbs := by omega
 rw [e]
 by_cases q : B < 0
 ·rw [if_pos (by omega), if_pos q]; simp
 ·rw [if_neg (by omega), if_neg q]
  have : B.natAbs = B.toNat := by omega
  rw [this]; simp
def sfx (B : Int) : List UInt8 := if B < 0 then Lib.itoa B else []
theorem Jef (B : Int) : ∀ c ∈ sfx B, c = 45 ∨ (48 ≤ (c.toNat : Int) ∧ (c.toNat : Int) ≤ 57) := by
 intro c hc
 unfold sfx at hc
 split at hc
 ·rename_i q
  unfold Lib.itoa at hc
  rw [if_pos q] at hc
  rcases List.mem_cons.1 hc with rfl | hc
  ·exact .inl rfl
  ·exact .inr (Zbo _ c hc)
 ·cases hc
theorem jfQ {c : UInt8} (h : c = 45 ∨ c = 110 ∨ (48 ≤ (c.toNat : Int) ∧ (c.toNat : Int) ≤ 57)) : lowB c = c := by
 unfold lowB low
 rcases h with rfl | rfl | h
 ·rfl
 ·rfl
 ·rw [if_neg (by omega), Int.toNat_natCast, UInt8.ofNat_toNat]
theorem ZfQ (B : Int) : (sfx B).map lowB = sfx B := by
 have : ∀ l : List UInt8, (∀ c ∈ l, lowB c = c) → l.map lowB = l := by
  intro l h
  induction l with
  | nil => rfl
  | cons c w ih => rw [List.map_cons, h c (List.mem_cons_self ..), ih fun x hx => h x (List.mem_cons_of_mem _ hx)]
 exact this _ fun c hc => jfQ ((Jef B c hc).elim .inl fun h => .inr (.inr h))
theorem zgl {B : Int} (h : inW B = true) (hB : B ≤ 0) : ZeD (sfx B) [] = (B, true) := by
 have hw := Jac.1 h
 unfold ZeD sfx
 by_cases q : B < 0
 ·have e : Lib.itoa B = 45 :: Lib.decDigits B.natAbs := by unfold Lib.itoa; rw [if_pos q]
  rw [if_pos q, e, if_neg (by simp), if_pos (by simp [List.isPrefixOf]), List.drop_one, List.tail_cons, if_neg (ZfP _), if_neg (by simp), JgT _ (by omega)]
  congr 1
  dsimp only
  omega
 ·have : B = 0 := by omega
  subst this
  rw [if_pos (by decide)]
  rfl
theorem jgl {B : Int} (h : inW B = true) : ZeD [] [ZcA B] = (B, true) := by
 unfold ZeD JgN
 rw [if_pos rfl]
 show (if (decide ((10 : Int) = 9) && ([] : List UInt8) == [43]) = true then Zde [] else if (decide ((10 : Int) = 9) && ([] : List UInt8) == [45]) = true then (0 - (Zde []).1, (Zde []).2) else jav [ZcA B]) = _
 rw [if_neg (by decide), if_neg (by decide), JfP h]
def spK : Tok := tk 13
def Zgw (c : UInt8) : Tok := tk 9 [c]
def Zci (B : Int) : List Tok := if B = 0 then [] else [spK, Zgw (if 0 < B then 43 else 45), spK, ZcA (B.natAbs : Int)]
theorem Zgl (w : List Tok) : JgN (spK :: Zgw 43 :: w) = Zde w := rfl
theorem JfQ (w : List Tok) : JgN (spK :: Zgw 45 :: w) = (0 - (Zde w).1, (Zde w).2) := rfl
theorem zfR {B : Int} (h : inW B = true) : ZeD [] (Zci B) = (B, true) := by
 have hw := Jac.1 h
 have hn : inW (B.natAbs : Int) = true := Jac.2 (by omega)
 have hu : Zde [spK, ZcA (B.natAbs : Int)] = ((B.natAbs : Int), true) := by
  unfold Zde
  show (if (jav [ZcA (B.natAbs : Int)]).1 < 0 then _ else jav [ZcA (B.natAbs : Int)]) = _
  rw [JfP hn, if_neg (by omega)]
 unfold ZeD Zci
 rw [if_pos rfl]
 by_cases q : B = 0
 ·rw [if_pos q, q]; rfl
 rw [if_neg q]
 by_cases q2 : 0 < B
 ·rw [if_pos q2]
  rw [Zgl, hu]
  congr 1
  omega
 ·rw [if_neg q2]
  rw [JfQ, hu]
  congr 1
  dsimp only
  omega
def Jde (A : Int) (y : UInt8) (x : List UInt8) : Tok := if A = 1 then tk 1 (y :: x) else if A = -1 then tk 1 (45 :: y :: x) else tk 12 [] (1000 * A) (y :: x) true
theorem ZeT (A : Int) (y : UInt8) (x : List UInt8) : (Jde A y x).kind = 1 ∨ (Jde A y x).kind = 12 := by
 unfold Jde
 split
 ·exact .inl rfl
 ·split
  ·exact .inl rfl
  ·exact .inr rfl
theorem Jgl {A B : Int} {y : UInt8} {x : List UInt8} {w : List Tok} (hA : inW A = true) (hy : lowB y = 110) (hw : ZeD (x.map lowB) w = (B, true)) :
  (Jb1 (Jde A y x :: w)).2 = false ∧ Zao (Jde A y x :: w) = (A, 110 :: x.map lowB, w, true) := by
 have nb : ∀ t : Tok, t.kind = 1 ∨ t.kind = 12 → ∀ w, (jav (t :: w)).2 = false := by
  intro t ht w
  cases w with
  | nil => unfold jav; dsimp only; rw [if_neg (by omega)]
  | cons a v => rfl
 have hk := ZeT A y x
 constructor
 ·cases w with
  | cons a v => exact nb _ hk _
  | nil =>
   unfold Jb1
   dsimp only
   split
   ·rw [if_neg, if_neg]
    ·exact nb _ hk _
    ·unfold Jde
     split
     ·show ¬ (y :: x).map lowB = ZgZ
      rw [List.map_cons, hy]; intro z; injection z with z _; exact absurd z (by decide)
     ·split
      ·show ¬ (45 :: y :: x).map lowB = ZgZ
       intro z; injection z with z _; exact absurd z (by decide)
      ·show ¬ ([] : List UInt8).map lowB = ZgZ
       intro z; cases z
    ·unfold Jde
     split
     ·show ¬ (y :: x).map lowB = odd
      rw [List.map_cons, hy]; intro z; injection z with z _; exact absurd z (by decide)
     ·split
      ·show ¬ (45 :: y :: x).map lowB = odd
       intro z; injection z with z _; exact absurd z (by decide)
      ·show ¬ ([] : List UInt8).map lowB = odd
       intro z; cases z
   ·exact nb _ hk _
 ·unfold Zao Jde
  dsimp only
  by_cases q : A = 1
  ·rw [if_pos q]
   show (if (1 : Int) = 1 then (if [45].isPrefixOf ((y :: x).map lowB) then _ else (1, (y :: x).map lowB, w, true)) else _) = _
   rw [if_pos rfl, List.map_cons, hy, if_neg (by simp [List.isPrefixOf]), q]
  rw [if_neg q]
  by_cases q2 : A = -1
  ·rw [if_pos q2]
   show (if (1 : Int) = 1 then (if [45].isPrefixOf ((45 :: y :: x).map lowB) then (-1, ((45 :: y :: x).map lowB).drop 1, w, true) else _) else _) = _
   have e45 : lowB 45 = 45 := rfl
   rw [if_pos rfl, List.map_cons, List.map_cons, hy, e45, if_pos (by simp [List.isPrefixOf]), q2]
   rfl
  ·rw [if_neg q2]
   show (if (12 : Int) = 1 then _ else if (12 : Int) = 12 then ((ZaV ⟨12, [], 1000 * A, y :: x, true⟩).1, (y :: x).map lowB, w, (ZaV ⟨12, [], 1000 * A, y :: x, true⟩).2) else _) = _
   rw [if_neg (by decide), if_pos rfl, jeT _ _ _ _ hA, List.map_cons, hy]
theorem Jc1 {A B : Int} {y : UInt8} {x : List UInt8} {w : List Tok} {l : List Tok} (hA : inW A = true) (hy : lowB y = 110) (hw : ZeD (x.map lowB) w = (B, true)) (hl : rSp (bSp l) = Jde A y x :: w) : Zc0 l = ((A, B), true) := by
 obtain ⟨h1, h2⟩ := Jgl hA hy hw
 unfold Zc0
 rw [hl]
 dsimp only
 rw [h1, if_neg (by decide), h2]
 have e : (110 :: x.map lowB).drop 1 = x.map lowB := rfl
 rw [e, hw, if_pos ⟨rfl, by simp [List.isPrefixOf], rfl⟩]
theorem zeg {B : Int} {l : List Tok} (h : inW B = true) (hl : rSp (bSp l) = [ZcA B]) : Zc0 l = ((0, B), true) := by
 unfold Zc0
 rw [hl]
 have e : Jb1 [ZcA B] = ((0, B), true) := by
  unfold Jb1
  show (if (10 : Int) = 1 then _ else ((0, (jav [ZcA B]).1), (jav [ZcA B]).2)) = _
  rw [if_neg (by decide), JfP h]
 dsimp only
 rw [e, if_pos rfl]
end Go.Proofs.YtbpbaicbaehhjaaGreatDoor
set_option linter.unusedVariables false
set_option linter.unusedSimpArgs false
namespace Go.Proofs.YtbpbaicbaehhjaaGreatDoor
open Go.Vm Go.Sx Go.RowKit
theorem jfR {c : UInt8} {w : List UInt8} (hc : mD (c.toNat : Int) = true) : zb1 (43 :: c :: w) = ((zb1 (c :: w)).1, (zb1 (c :: w)).2.1, (zb1 (c :: w)).2.2 + 1) := by
 have hs : mSg (c.toNat : Int) = false := (I.mD_not hc).1
 have h45 : ¬ (c.toNat : Int) = 45 := fun z => by rw [z] at hc; exact absurd hc (by decide)
 have s1 : zai (43 :: c :: w) = 1 := rfl
 have s0 : zai (c :: w) = 0 := by unfold zai; rw [Jf, hs]; rfl
 have w1 : j8 (43 :: c :: w) = j8 (c :: w) := by unfold j8; rw [s1, s0]; rfl
 have b1 : Zo (43 :: c :: w) = Zo (c :: w) + 1 := by unfold Zo; rw [s1, s0, w1]; omega
 have dr : ∀ k, (43 :: c :: w).drop (k + 1) = (c :: w).drop k := fun _ => rfl
 have f1 : ZaE (43 :: c :: w) = ZaE (c :: w) := by unfold ZaE; rw [b1, dr]
 have b2 : Jg (43 :: c :: w) = Jg (c :: w) + 1 := by unfold Jg; rw [f1, b1, dr]; omega
 have b3 : JX (43 :: c :: w) = JX (c :: w) + 1 := by unfold JX; rw [b2, dr]; omega
 unfold zb1
 rw [b3, b2, b1, w1, f1, dr, dr, Jf, Jf]
 dsimp only
 rw [if_neg h45, if_neg (by decide)]
theorem zhK : jfc true [] := ⟨by decide, fun _ => by decide, by decide, by decide⟩
theorem zgm {m : Nat} (hm : m ≤ 1000000000) : ZN (43 :: Lib.decDigits m) = (ZcA (m : Int), (Lib.decDigits m).length + 1) := by
 have hw : inW (m : Int) = true := Jac.2 (by omega)
 have hi : Lib.itoa (m : Int) = Lib.decDigits m := by unfold Lib.itoa; rw [if_neg (by omega)]; rfl
 obtain ⟨c, w, hcw⟩ := List.exists_cons_of_ne_nil (ZfP m)
 have hc : mD (c.toNat : Int) = true := (I.dec_ok m).1 c (by rw [hcw]; simp)
 have hn := zfO (JdL hw) (v := []) zhK
 obtain ⟨g1, g2, g3⟩ := jb2 (JdL hw) (v := []) (by decide) (fun _ => by decide)
 have g3 := g3 (by decide)
 rw [List.append_nil, zfQ, hi] at g1 g2 g3
 have s43 : Zbm (43 :: Lib.decDigits m) = true := by
  unfold Zbm
  rw [hcw, Jf, if_pos (by decide), List.tail_cons, Jf, hc]
  rfl
 rw [jbM s43]
 unfold zQ
 have e : zb1 (43 :: Lib.decDigits m) = (1000 * (m : Int), true, (Lib.decDigits m).length + 1) := by
  rw [hcw] at g2 g3 ⊢
  rw [jfR hc, g3, g2]
  rfl
 rw [e]
 dsimp only
 have hd : (43 :: Lib.decDigits m).drop ((Lib.decDigits m).length + 1) = [] := by rw [List.drop_succ_cons]; exact List.drop_length
 rw [hd, if_neg (by decide), if_neg (by decide)]
 rfl
theorem JeT : RD [] [] := .nil (by simp)
theorem zgU {m : Nat} (hm : m ≤ 1000000000) : RD (43 :: Lib.decDigits m) [ZcA (m : Int)] := by
 refine jfO (Zbv fun z => absurd z.1 (by rw [Jf]; decide)) (by simp) (zgm hm) ?_
 have hd : (43 :: Lib.decDigits m).drop ((Lib.decDigits m).length + 1) = [] := by rw [List.drop_succ_cons]; exact List.drop_length
 rw [hd]
 exact JeT
theorem ZfR {B : Int} (h : inW B = true) {V : List UInt8} {L : List Tok} (hV : jfc true V) : RD (Lib.itoa B ++ V) (ZcA B :: L) ↔ RD V L := by
 have hs : stM (ZcA B) V := .inl hV
 have := Jbv (V := V) (L := L) (Can.num (1000 * B) true (JdL h)) rfl rfl hs
 have e : zgv (tk 10 [] (1000 * B) [] true) = Lib.itoa B := zfQ B
 rw [e] at this
 exact this
theorem JfR : ∀ (x : List UInt8) (i : Int), 0 ≤ i → (∀ c ∈ x, mN (c.toNat : Int) = true) → jby (-1) i x = x
 | [], _, _, _ => rfl
 | c :: w, i, h0, h => by
  rw [jby, if_pos ⟨by omega, h c (List.mem_cons_self ..)⟩, JfR w (i + 1) (by omega) fun d hd => h d (List.mem_cons_of_mem _ hd)]
  rfl
def zg0 (y : UInt8) : Prop := y = 110 ∨ y = 78
theorem zc2 {y : UInt8} (h : zg0 y) (B : Int) : ∀ c ∈ y :: sfx B, mN (c.toNat : Int) = true ∧ c ≠ 0 := by
 intro c hc
 rcases List.mem_cons.1 hc with rfl | hc
 ·rcases h with rfl | rfl <;> decide
 ·rcases Jef B c hc with rfl | h
  ·decide
  ·refine ⟨?_, fun z => by rw [z] at h; exact absurd h.1 (by decide)⟩
   unfold mN mD
   rw [decide_eq_true h.1, decide_eq_true h.2]
   simp
theorem zfS {y : UInt8} (h : zg0 y) (B : Int) : jas (y :: sfx B) = y :: sfx B := by
 have ho : Zdl (y :: sfx B) = -1 := by
  unfold Zdl swD swM
  rcases h with rfl | rfl
  ·rw [if_neg (by simp), if_neg (by simp [mD]), if_neg (by simp)]
  ·rw [if_neg (by simp), if_neg (by simp [mD]), if_neg (by simp)]
 unfold jas
 rw [ho]
 exact JfR _ 0 (Int.le_refl _) fun c hc => (zc2 h B c hc).1
theorem jgm {y : UInt8} (h : zg0 y) (B : Int) : jas (45 :: y :: sfx B) = 45 :: y :: sfx B := by
 have ho : Zdl (45 :: y :: sfx B) = -1 := by
  unfold Zdl swD swM
  rcases h with rfl | rfl
  ·rw [if_neg (by simp), if_neg (by simp [mD]), if_neg (by simp [mD])]
  ·rw [if_neg (by simp), if_neg (by simp [mD]), if_neg (by simp [mD])]
 unfold jas
 rw [ho]
 refine JfR _ 0 (Int.le_refl _) fun c hc => ?_
 rcases List.mem_cons.1 hc with rfl | hc
 ·decide
 ·exact (zc2 h B c hc).1
theorem zeU {y : UInt8} (h : zg0 y) (B : Int) : Za6 (y :: sfx B) = y :: sfx B := by
 have he : zen (y :: sfx B) = false := by
  unfold zen
  rw [Jf]
  rcases h with rfl | rfl <;> simp [mE]
 unfold Za6
 rw [he, if_neg (by decide)]
 exact zfS h B
theorem zdM {y : UInt8} (h : zg0 y) (B : Int) : (0 : UInt8) ∉ y :: sfx B := fun z => (zc2 h B 0 z).2 rfl
theorem jfS {A B : Int} {y : UInt8} (hA : inW A = true) (hy : zg0 y) {V : List UInt8} {L : List Tok} (h1 : j4 V = false) (h2 : hb V ≠ 40) :
  RD (Jdj A ++ (y :: sfx B) ++ V) (Jde A y (sfx B) :: L) ↔ RD V L := by
 have y45 : y ≠ 45 := by rcases hy with rfl | rfl <;> decide
 unfold Jdj Jde
 by_cases q : A = 1
 ·rw [if_pos q, if_pos q, List.nil_append]
  have := Jbv (V := V) (L := L) (Can.ident (y :: sfx B) (by simp) (zdM hy B)) rfl rfl (show stM (tk 1 (y :: sfx B)) V from ⟨h1, h2, fun z => y45 (by have := z.1; injection this)⟩)
  have e : zgv (tk 1 (y :: sfx B)) = y :: sfx B := zfS hy B
  rw [e] at this
  exact this
 rw [if_neg q, if_neg q]
 by_cases q2 : A = -1
 ·rw [if_pos q2, if_pos q2]
  have := Jbv (V := V) (L := L) (Can.ident (45 :: y :: sfx B) (by simp) (fun z => by rcases List.mem_cons.1 z with z | z; exact absurd z (by decide); exact zdM hy B z)) rfl rfl (show stM (tk 1 (45 :: y :: sfx B)) V from ⟨h1, h2, fun z => y45 (by have := z.1; injection this with _ this; injection this)⟩)
  have e : zgv (tk 1 (45 :: y :: sfx B)) = 45 :: y :: sfx B := jgm hy B
  rw [e] at this
  exact this
 ·rw [if_neg q2, if_neg q2]
  have hx : ZgQ (Za6 (y :: sfx B) ++ V) = false := by
   rw [zeU hy B]
   unfold ZgQ
   rw [List.cons_append, Jf]
   rcases hy with rfl | rfl <;> simp [mE]
  have := Jbv (V := V) (L := L) (Can.dim (1000 * A) (y :: sfx B) true (JdL hA) (by simp) (zdM hy B)) rfl rfl (show stM (tk 12 [] (1000 * A) (y :: sfx B) true) V from ⟨h1, hx⟩)
  have e : zgv (tk 12 [] (1000 * A) (y :: sfx B) true) = Lib.itoa A ++ (y :: sfx B) := by
   show zaJ (1000 * A) true ++ Za6 (y :: sfx B) = _
   rw [zfQ, zeU hy B]
  rw [e] at this
  exact this
theorem Zb2 {n : Int} (h : 0 ≤ n) : Lib.itoa n = Lib.decDigits n.toNat := by unfold Lib.itoa; rw [if_neg (by omega)]
theorem jdM {n : Int} (h : n < 0) : Lib.itoa n = 45 :: Lib.decDigits n.natAbs := by unfold Lib.itoa; rw [if_pos h]
theorem Jhj {A B : Int} (hA : A ≠ 0) : JbM (A, B) = Jdj A ++ (110 :: sfx B) ++ (if 0 < B then 43 :: Lib.decDigits B.toNat else []) := by
 unfold JbM Jgs sfx
 dsimp only
 rw [if_neg hA]
 by_cases q : B = 0
 ·subst q; simp
 by_cases q2 : 0 < B
 ·rw [if_neg q, if_pos q2, if_neg (by omega), if_pos q2, Zb2 (by omega)]; simp
 ·rw [if_neg q, if_neg q2, if_pos (by omega), if_neg q2]; simp
def ZfS (A B : Int) : List Tok := if A = 0 then [ZcA B] else Jde A 110 (sfx B) :: (if 0 < B then [ZcA B] else [])
theorem jeU {A B : Int} (hA : inW A = true) (hB : inW B = true) : RD (JbM (A, B)) (ZfS A B) := by
 have hb2 := Jac.1 hB
 unfold ZfS
 by_cases q : A = 0
 ·have e : JbM (A, B) = Lib.itoa B ++ [] := by unfold JbM; rw [if_pos q, List.append_nil]
  rw [if_pos q, e, ZfR hB zhK]
  exact JeT
 ·rw [if_neg q, Jhj q]
  by_cases q2 : 0 < B
  ·rw [if_pos q2, if_pos q2, jfS hA (.inl rfl) (by simp [j4, zbL, mN, mN0, mL, mD]) (by simp)]
   have := zgU (m := B.toNat) (by omega)
   rwa [Int.toNat_of_nonneg (by omega)] at this
  ·rw [if_neg q2, if_neg q2, jfS hA (.inl rfl) (by decide) (by decide)]
   exact JeT
theorem ZeU {l : List Tok} {t : Tok} (h : t.kind ≠ 13) : rSp (l ++ [t]) = l ++ [t] := by rw [jdJ, if_neg h]
theorem JfS (A : Int) (y : UInt8) (x : List UInt8) : (Jde A y x).kind ≠ 13 := by have := ZeT A y x; omega
theorem ZeF (A : Int) (y : UInt8) (x : List UInt8) (w : List Tok) : bSp (Jde A y x :: w) = Jde A y x :: w := by unfold bSp; rw [if_neg (JfS A y x)]
theorem JcA {A B : Int} (hA : inW A = true) (hB : inW B = true) : Zc0 (ZfS A B) = ((A, B), true) := by
 unfold ZfS
 by_cases q : A = 0
 ·rw [if_pos q, q]
  exact zeg hB rfl
 rw [if_neg q]
 by_cases q2 : 0 < B
 ·rw [if_pos q2]
  refine Jc1 (y := 110) (x := sfx B) (w := [ZcA B]) hA rfl ?_ ?_
  ·rw [ZfQ]
   have : sfx B = [] := by unfold sfx; rw [if_neg (by omega)]
   rw [this]
   exact jgl hB
  ·rw [ZeF]
   exact ZeU (l := [Jde A 110 (sfx B)]) (t := ZcA B) (by show ¬ (10 : Int) = 13; decide)
 ·rw [if_neg q2]
  refine Jc1 (y := 110) (x := sfx B) (w := []) hA rfl ?_ ?_
  ·rw [ZfQ]; exact zgl hB (by omega)
  ·rw [ZeF]
   exact ZeU (l := []) (JfS _ _ _)
def wdM : Nat → List UInt8 → List UInt8
 | _, [] => []
 | k, c :: w => (if c = 110 then [78] else if 0 < k ∧ (c = 43 ∨ c = 45) then [32, c, 32] else [c]) ++ wdM (k + 1) w
theorem zfT : ∀ (x : List UInt8) (k : Nat) (y : List UInt8), wdM k (x ++ y) = wdM k x ++ wdM (k + x.length) y
 | [], k, y => rfl
 | c :: x, k, y => by
  rw [List.cons_append, wdM, zfT x (k + 1) y, wdM, List.append_assoc, List.length_cons, show k + 1 + x.length = k + (x.length + 1) from by omega]
theorem jeg : ∀ (x : List UInt8) (k : Nat), (∀ c ∈ x, 48 ≤ (c.toNat : Int) ∧ (c.toNat : Int) ≤ 57) → wdM k x = x
 | [], _, _ => rfl
 | c :: x, k, h => by
  have hc := h c (List.mem_cons_self ..)
  have n1 : ¬ c = 110 := fun z => by rw [z] at hc; exact absurd hc.2 (by decide)
  have n2 : ¬ (0 < k ∧ (c = 43 ∨ c = 45)) := fun z => by
   rcases z.2 with z | z <;> (rw [z] at hc; exact absurd hc.1 (by decide))
  rw [wdM, if_neg n1, if_neg n2, jeg x (k + 1) fun d hd => h d (List.mem_cons_of_mem _ hd)]
  rfl
theorem JeU (n : Int) : wdM 0 (Lib.itoa n) = Lib.itoa n := by
 by_cases q : n < 0
 ·rw [jdM q, wdM, if_neg (by decide), if_neg (by simp), jeg _ _ (Zbo _)]
  rfl
 ·rw [Zb2 (by omega)]
  exact jeg _ _ (Zbo _)
theorem zhk (A : Int) : wdM 0 (Jdj A) = Jdj A := by
 unfold Jdj
 split
 ·rfl
 ·split
  ·rfl
  ·exact JeU A
def ZdM (B : Int) : List UInt8 := if B = 0 then [] else [32, (if 0 < B then 43 else 45), 32] ++ Lib.decDigits B.natAbs
theorem jhk {A B : Int} (hA : A ≠ 0) : wdM 0 (JbM (A, B)) = Jdj A ++ [78] ++ ZdM B := by
 unfold JbM
 dsimp only
 rw [if_neg hA, zfT, zfT, zhk]
 have e1 : wdM (0 + (Jdj A).length) [110] = [78] := rfl
 rw [e1]
 congr 1
 unfold Jgs ZdM
 by_cases q : B = 0
 ·rw [if_pos q, if_pos q]; rfl
 rw [if_neg q, if_neg q]
 have hk : 0 < 0 + (Jdj A ++ [110]).length := by rw [List.length_append]; simp
 generalize 0 + (Jdj A ++ [110]).length = k at hk ⊢
 by_cases q2 : 0 < B
 ·rw [if_pos q2, if_pos q2, Zb2 (by omega)]
  show wdM k (43 :: Lib.decDigits B.toNat) = _
  rw [wdM, if_neg (by decide), if_pos ⟨hk, .inl rfl⟩, jeg _ _ (Zbo _), show B.toNat = B.natAbs from by omega]
 ·rw [if_neg q2, if_neg q2, jdM (by omega), wdM, if_neg (by decide), if_pos ⟨hk, .inr rfl⟩, jeg _ _ (Zbo _)]
def wtK (A B : Int) : List Tok := if A = 0 then [spK, ZcA B, spK] else spK :: Jde A 78 [] :: (Zci B ++ [spK])
theorem jfT {V : List UInt8} {L : List Tok} (h : mSp (hb V) = false) : RD (32 :: V) (spK :: L) ↔ RD V L := Jbv (t := tk 13) Can.sp rfl rfl h
theorem jc2 : RD [32] [spK] := (jfT (V := []) (by decide)).2 JeT
theorem Zhk (V : List UInt8) : jfc true (32 :: V) := ⟨by simp [mD], fun _ => by simp [jar], by simp [ZK, zbL, mN0, mL], by simp⟩
theorem Jgw {c : UInt8} (h : c = 43 ∨ c = 45) : DelOK c ∧ c ≠ 0 := by
 rcases h with rfl | rfl
 ·exact ⟨⟨by decide, by decide, by decide, by decide, by decide, by decide⟩, by decide⟩
 ·exact ⟨⟨by decide, by decide, by decide, by decide, by decide, by decide⟩, by decide⟩
theorem Jhk {c : UInt8} (h : c = 43 ∨ c = 45) {V : List UInt8} {L : List Tok} : RD (c :: 32 :: V) (Zgw c :: L) ↔ RD (32 :: V) L := by
 have hs : stM (Zgw c) (32 :: V) := by
  have : ∀ d, [c] = [d] → Zgj d (32 :: V) := by
   intro d hd
   injection hd with hd
   subst hd
   rcases h with rfl | rfl
   ·exact ⟨by simp, by simp [Zbm, mSg, mD, jar], by simp [List.isPrefixOf], by simp [List.isPrefixOf], by simp, by simp [ZK, zbL, mN0, mL], by simp⟩
   ·exact ⟨by simp, by simp [Zbm, mSg, mD, jar], by simp [List.isPrefixOf], by simp [List.isPrefixOf], by simp, by simp [ZK, zbL, mN0, mL], by simp⟩
  exact this
 have hb : JhA (tk 9 [c]) = false := by rcases h with rfl | rfl <;> rfl
 exact Jbv (Can.del c (Jgw h).1 (Jgw h).2) hb rfl hs
theorem jhR : sfx 0 = [] := rfl
theorem JeF (B : Int) (V : List UInt8) : mSp (hb (Lib.itoa B ++ V)) = false := by
 have hd : ∀ m V, mSp (hb (Lib.decDigits m ++ V)) = false := by
  intro m V
  obtain ⟨c, w, hcw⟩ := List.exists_cons_of_ne_nil (ZfP m)
  have := Zbo m c (by rw [hcw]; simp)
  rw [hcw, List.cons_append, Jf]
  unfold mSp
  simp
  omega
 by_cases q : B < 0
 ·rw [jdM q]; rfl
 ·rw [Zb2 (by omega)]; exact hd _ _
theorem zhl (A : Int) (V : List UInt8) : mSp (hb (Jdj A ++ [78] ++ V)) = false := by
 unfold Jdj
 split
 ·rfl
 ·split
  ·rfl
  ·rw [List.append_assoc]; exact JeF A _
theorem jgU {A B : Int} (hA : inW A = true) (hB : inW B = true) : RD ([32] ++ wdM 0 (JbM (A, B)) ++ [32]) (wtK A B) := by
 have hb2 := Jac.1 hB
 unfold wtK
 by_cases q : A = 0
 ·have e : wdM 0 (JbM (A, B)) = Lib.itoa B := by unfold JbM; rw [if_pos q]; exact JeU B
  rw [if_pos q, e]
  show RD (32 :: (Lib.itoa B ++ [32])) _
  rw [jfT (JeF B _), ZfR hB (Zhk [])]
  exact jc2
 rw [if_neg q, jhk q]
 have nB : inW (B.natAbs : Int) = true := Jac.2 (by omega)
 have ni : Lib.itoa (B.natAbs : Int) = Lib.decDigits B.natAbs := Zb2 (by omega)
 have e : [32] ++ (Jdj A ++ [78] ++ ZdM B) ++ [32] = 32 :: (Jdj A ++ [78] ++ (ZdM B ++ [32])) := by simp
 rw [e, jfT (zhl A _)]
 have key := jfS (A := A) (B := 0) (y := 78) (V := ZdM B ++ [32]) (L := Zci B ++ [spK]) hA (.inr rfl)
 rw [jhR] at key
 by_cases q2 : B = 0
 ·have e1 : ZdM B = [] := by unfold ZdM; rw [if_pos q2]
  have e2 : Zci B = [] := by unfold Zci; rw [if_pos q2]
  rw [e1, e2] at key ⊢
  rw [key (by decide) (by decide)]
  exact jc2
 ·have e1 : ZdM B ++ [32] = 32 :: (if 0 < B then 43 else 45) :: 32 :: (Lib.itoa (B.natAbs : Int) ++ [32]) := by unfold ZdM; rw [if_neg q2, ni]; simp
  have e2 : Zci B ++ [spK] = spK :: Zgw (if 0 < B then 43 else 45) :: spK :: ZcA (B.natAbs : Int) :: [spK] := by unfold Zci; rw [if_neg q2]; rfl
  have hc : (if 0 < B then (43 : UInt8) else 45) = 43 ∨ (if 0 < B then (43 : UInt8) else 45) = 45 := by split <;> simp
  rw [e1, e2] at key ⊢
  generalize (if 0 < B then (43 : UInt8) else 45) = c at hc key ⊢
  rw [key (by simp [j4, zbL, mN, mN0, mL, mD]) (by simp), jfT (by rcases hc with rfl | rfl <;> simp [mSp]), Jhk hc, jfT (JeF _ _), ZfR nB (Zhk [])]
  exact jc2
theorem ZfT {A B : Int} (hA : inW A = true) (hB : inW B = true) : Zc0 (wtK A B) = ((A, B), true) := by
 unfold wtK
 by_cases q : A = 0
 ·rw [if_pos q, q]
  exact zeg hB rfl
 rw [if_neg q]
 refine Jc1 (y := 78) (x := []) (w := Zci B) hA rfl (zfR hB) ?_
 show rSp (bSp (Jde A 78 [] :: (Zci B ++ [spK]))) = _
 rw [ZeF, ← List.cons_append, jdJ, if_pos (show spK.kind = 13 from rfl)]
 unfold Zci
 by_cases q2 : B = 0
 ·rw [if_pos q2]; exact ZeU (l := []) (JfS _ _ _)
 ·rw [if_neg q2]
  exact ZeU (l := [Jde A 78 [], spK, Zgw (if 0 < B then 43 else 45), spK]) (t := ZcA (B.natAbs : Int)) (by show ¬ (10 : Int) = 13; decide)
end Go.Proofs.YtbpbaicbaehhjaaGreatDoor
set_option linter.unusedVariables false
set_option linter.unusedSimpArgs false
namespace Go.Proofs.YtbpbaicbaehhjaaGreatDoor
open Go.Vm Go.Sx Go.RowKit
def gB (c : UInt8) : Prop := c = 32 ∨ c = 43 ∨ c = 45 ∨ c = 78 ∨ c = 110 ∨ (48 ≤ (c.toNat : Int) ∧ (c.toNat : Int) ≤ 57)
theorem ZhC {c : UInt8} (h : gB c) : okB c := by
 rcases h with rfl | rfl | rfl | rfl | rfl | h
 ·exact ⟨by decide, by decide, by decide⟩
 ·exact ⟨by decide, by decide, by decide⟩
 ·exact ⟨by decide, by decide, by decide⟩
 ·exact ⟨by decide, by decide, by decide⟩
 ·exact ⟨by decide, by decide, by decide⟩
 ·exact ⟨by omega, by omega, by omega⟩
theorem zcn {x y : List UInt8} (hx : ∀ c ∈ x, gB c) (hy : ∀ c ∈ y, gB c) : ∀ c ∈ x ++ y, gB c := fun c hc => (List.mem_append.1 hc).elim (hx c) (hy c)
theorem zbA {c : UInt8} (h : gB c) : ∀ d ∈ [c], gB d := fun d hd => by rw [List.mem_singleton.1 hd]; exact h
theorem JdM (n : Int) : ∀ c ∈ Lib.itoa n, gB c := by
 intro c hc
 unfold Lib.itoa at hc
 split at hc
 ·rcases List.mem_cons.1 hc with rfl | hc
  ·exact .inr (.inr (.inl rfl))
  ·exact .inr (.inr (.inr (.inr (.inr (Zbo _ c hc)))))
 ·exact .inr (.inr (.inr (.inr (.inr (Zbo _ c hc)))))
theorem JfT : ∀ c ∈ ([] : List UInt8), gB c := fun c hc => by cases hc
theorem zfU (a : Int × Int) : ∀ c ∈ JbM a, gB c := by
 unfold JbM Jdj Jgs
 split
 ·exact JdM _
 ·refine zcn (zcn ?_ (zbA (.inr (.inr (.inr (.inr (.inl rfl))))))) ?_
  ·split
   ·exact JfT
   ·split
    ·exact zbA (.inr (.inr (.inl rfl)))
    ·exact JdM _
  ·split
   ·exact JfT
   ·split
    ·exact zcn (zbA (.inr (.inl rfl))) (JdM _)
    ·exact JdM _
theorem jhl : ∀ (x : List UInt8) (k : Nat), (∀ c ∈ x, gB c) → ∀ c ∈ wdM k x, gB c
 | [], _, _ => JfT
 | d :: x, k, h => by
  have hd := h d (List.mem_cons_self ..)
  have s32 : gB 32 := .inl rfl
  rw [wdM]
  refine zcn ?_ (jhl x (k + 1) fun c hc => h c (List.mem_cons_of_mem _ hc))
  split
  ·exact zbA (.inr (.inr (.inr (.inl rfl))))
  ·split
   ·exact zcn (zbA s32) (zcn (zbA hd) (zbA s32))
   ·exact zbA hd
theorem jfU : ∀ (x : List UInt8) (k : Nat), (wdM k x).length ≤ 3 * x.length
 | [], _ => Nat.le_refl _
 | d :: x, k => by
  have := jfU x (k + 1)
  rw [wdM, List.length_append, List.length_cons]
  split
  ·simp; omega
  ·split
   ·simp; omega
   ·simp; omega
theorem zeG {a : Int × Int} (h : Zcy a = true) : (JbM a).length ≤ 30 := by
 unfold Zcy at h
 rw [Bool.and_eq_true] at h
 have l0 := Jb0 h.2
 have l1 := jfF h.1
 have l2 := ZfF h.2
 unfold JbM
 split
 ·omega
 ·rw [List.length_append, List.length_append, List.length_singleton]; omega
theorem ZgU {B : Int} (h : inW B = true) : (sfx B).length ≤ 12 := by
 have := Jb0 h
 unfold sfx
 split
 ·exact this
 ·exact Nat.zero_le _
theorem zdN {B : Int} (h : inW B = true) : okN (ZcA B) := by
 have := Jac.1 h
 exact ⟨⟨by show _ ≤ 1000 * B; omega, by show 1000 * B ≤ _; omega⟩, Nat.zero_le _, Nat.zero_le _⟩
theorem jdN {A : Int} (h : inW A = true) {y : UInt8} {x : List UInt8} (hx : x.length ≤ 12) : okN (Jde A y x) := by
 have := Jac.1 h
 unfold Jde
 split
 ·exact ⟨⟨by show (-1000000000000000 : Int) ≤ 0; decide, by show (0 : Int) ≤ 1000000000000000; decide⟩, by show (y :: x).length ≤ _; rw [List.length_cons]; omega, Nat.zero_le _⟩
 ·split
  ·exact ⟨⟨by show (-1000000000000000 : Int) ≤ 0; decide, by show (0 : Int) ≤ 1000000000000000; decide⟩, by show (45 :: y :: x).length ≤ _; rw [List.length_cons, List.length_cons]; omega, Nat.zero_le _⟩
  ·exact ⟨⟨by show _ ≤ 1000 * A; omega, by show 1000 * A ≤ _; omega⟩, Nat.zero_le _, by show (y :: x).length ≤ _; rw [List.length_cons]; omega⟩
theorem jcn : okN spK := ⟨⟨by decide, by decide⟩, Nat.zero_le _, Nat.zero_le _⟩
theorem JgU (c : UInt8) : okN (Zgw c) := ⟨⟨by show (-1000000000000000 : Int) ≤ 0; decide, by show (0 : Int) ≤ 1000000000000000; decide⟩, by show [c].length ≤ _; rw [List.length_singleton]; omega, Nat.zero_le _⟩
theorem zgx {A B : Int} (hA : inW A = true) (hB : inW B = true) : (ZfS A B).length ≤ 1000000 ∧ ∀ t ∈ ZfS A B, okN t := by
 have hs := ZgU hB
 unfold ZfS
 split
 ·refine ⟨by rw [List.length_singleton]; omega, fun t ht => ?_⟩
  rw [List.mem_singleton.1 ht]; exact zdN hB
 ·split
  ·refine ⟨by simp, fun t ht => ?_⟩
   rcases List.mem_cons.1 ht with rfl | ht
   ·exact jdN hA hs
   ·rw [List.mem_singleton.1 ht]; exact zdN hB
  ·refine ⟨by simp, fun t ht => ?_⟩
   rw [List.mem_singleton.1 ht]; exact jdN hA hs
theorem zgV {A B : Int} (hA : inW A = true) (hB : inW B = true) : (wtK A B).length ≤ 1000000 ∧ ∀ t ∈ wtK A B, okN t := by
 have hb2 := Jac.1 hB
 have nB : inW (B.natAbs : Int) = true := Jac.2 (by omega)
 unfold wtK Zci
 split
 ·refine ⟨by simp, fun t ht => ?_⟩
  simp only [List.mem_cons, List.not_mem_nil, or_false] at ht
  rcases ht with rfl | rfl | rfl
  ·exact jcn
  ·exact zdN hB
  ·exact jcn
 ·split
  ·refine ⟨by simp, fun t ht => ?_⟩
   simp only [List.nil_append, List.mem_cons, List.not_mem_nil, or_false] at ht
   rcases ht with rfl | rfl | rfl
   ·exact jcn
   ·exact jdN hA (Nat.zero_le _)
   ·exact jcn
  ·refine ⟨by simp, fun t ht => ?_⟩
   simp only [List.cons_append, List.nil_append, List.mem_cons, List.not_mem_nil, or_false] at ht
   rcases ht with rfl | rfl | rfl | rfl | rfl | rfl | rfl
   ·exact jcn
   ·exact jdN hA (Nat.zero_le _)
   ·exact jcn
   ·exact JgU _
   ·exact jcn
   ·exact zdN nB
   ·exact jcn
theorem ZfU {u : List UInt8} {L : List Tok} (hu : ∀ c ∈ u, gB c) (hl : u.length ≤ 4000) (hL : L.length ≤ 1500) (h : RD u L) {K : List Tok → Int → Prop} (hK : K L 0) : zaq u K := by
 have hc : jx u = u := jee u fun c h => ZhC (hu c h)
 have he := (jeF (fun w hw => (Zcz hw).1) u L).1 h
 have e : (JgY u).map jho = L := he
 have el : (JgY u).length = L.length := by rw [← e, List.length_map]
 refine ⟨fun z => absurd hl (by omega), fun _ _ => ?_, fun _ z => ?_⟩
 ·rw [hc, e]; exact hK
 ·rw [hc] at z; omega
theorem jgV {a b : Int × Int} (ha : Zcy a = true) (hb : Zcy b = true) : (JbM a == JbM b) = (decide (a.1 = b.1) && decide (a.2 = b.2)) := by
 obtain ⟨A, B⟩ := a
 obtain ⟨C, D⟩ := b
 unfold Zcy at ha hb
 rw [Bool.and_eq_true] at ha hb
 rw [Bool.eq_iff_iff, beq_iff_eq, Bool.and_eq_true, decide_eq_true_eq, decide_eq_true_eq]
 constructor
 ·intro h
  have h1 := (jeF (fun w hw => (Zcz hw).1) _ _).1 (jeU ha.1 ha.2)
  have h2 := (jeF (fun w hw => (Zcz hw).1) _ _).1 (jeU hb.1 hb.2)
  rw [h] at h1
  have e := JcA ha.1 ha.2
  rw [← h1, h2, JcA hb.1 hb.2] at e
  injection e with e _
  injection e with e1 e2
  exact ⟨e1.symm, e2.symm⟩
 ·rintro ⟨h1, h2⟩
  have h1 : A = C := h1
  have h2 : B = D := h2
  rw [h1, h2]
theorem Zc2 (s : List UInt8) (hs : s.length ≤ 1000) (A B : Int) (Ke : List UInt8 → Int → Int → Prop) : ∀ (w : List UInt8) (i : Nat) (x : List UInt8), s.drop i = w → i ≤ s.length → x.length + 3 * w.length ≤ 100000 → Ke (x ++ wdM i w) A B → ∃ m, zb Ze9 Jcg ZeB ja6 zaq jdK m s x (i : Int) A B Ke
 | [], i, x, hw, hi, hx, h => ⟨1, by
  have hle : s.length ≤ i := List.drop_eq_nil_iff.1 hw
  have d0 : decide ((i : Int) < (s.length : Int)) = false := decide_eq_false (by omega)
  rw [wdM, List.append_nil] at h
  simp only [zb, d0]
  exact ⟨fun q => (by cases q), fun _ => h⟩⟩
 | c :: w, i, x, hw, hi, hx, h => by
  obtain ⟨g1, g2, _⟩ := jdl hw
  rw [List.length_cons] at hx
  have d0 : decide ((i : Int) < (s.length : Int)) = true := decide_eq_true (by omega)
  have b1 : (0 ≤ (i : Int) ∧ (i : Int) ≤ (i : Int) + 1 ∧ (i : Int) + 1 ≤ (s.length : Int)) = True := eq_true ⟨by omega, by omega, by omega⟩
  have i1 : I64 ((i : Int) + 1) = True := eq_true (by unfold I64; omega)
  have ec : (s.drop (i : Int).toNat).take (((i : Int) + 1).toNat - (i : Int).toNat) = [c] := by
   rw [show ((i : Int)).toNat = i from rfl, hw, show ((i : Int) + 1).toNat - i = 1 from by omega]
   rfl
  have e1 : (i : Int) + 1 = ((i + 1 : Nat) : Int) := by omega
  rw [wdM] at h
  have cc : ∀ d : UInt8, ([c] == [d]) = decide (c = d) := fun d => by rw [Bool.eq_iff_iff]; simp
  have nN : (([78] : List UInt8) == [43]) = false := by decide
  have nM : (([78] : List UInt8) == [45]) = false := by decide
  have nO : (([110] : List UInt8) == [110]) = true := by decide
  by_cases q : c = 110
  ·rw [if_pos q, ← List.append_assoc] at h
   obtain ⟨m, hm⟩ := Zc2 s hs A B Ke w (i + 1) (x ++ [78]) g1 (by omega) (by rw [List.length_append, List.length_singleton]; omega) h
   rw [← e1] at hm
   have l1 : (x.length + ([78] : List UInt8).length ≤ 1099511627776) = True := eq_true (by rw [List.length_singleton]; omega)
   refine ⟨m + 1, ?_⟩
   simp only [zb, d0, b1, i1, ec, q, nO, nN, nM, l1, decide_true, true_and, true_implies, and_true, reduceCtorEq, Bool.false_eq_true, Bool.true_eq_false, false_implies, hm, implies_true, and_self]
  ·rw [if_neg q] at h
   have q' : decide (c = 110) = false := decide_eq_false q
   by_cases k : 0 < i
   ·have k' : decide ((0 : Int) < (i : Int)) = true := decide_eq_true (by omega)
    by_cases z : c = 43 ∨ c = 45
    ·rw [if_pos ⟨k, z⟩, ← List.append_assoc] at h
     obtain ⟨m, hm⟩ := Zc2 s hs A B Ke w (i + 1) (x ++ [32, c, 32]) g1 (by omega) (by rw [List.length_append]; simp; omega) h
     rw [← e1] at hm
     have ew : [32] ++ [c] ++ [32] = [32, c, 32] := rfl
     have l1 : (([32] : List UInt8).length + [c].length ≤ 1099511627776) = True := eq_true (by rw [List.length_singleton, List.length_singleton]; omega)
     have l2 : (([32] ++ [c]).length + ([32] : List UInt8).length ≤ 1099511627776) = True := eq_true (by simp)
     have l3 : (x.length + [32, c, 32].length ≤ 1099511627776) = True := eq_true (by simp; omega)
     refine ⟨m + 1, ?_⟩
     rcases z with z | z
     ·have z1 : decide (c = 43) = true := decide_eq_true z
      simp only [zb, d0, b1, i1, ec, cc, q', k', z1, ew, l1, l2, l3, true_and, true_implies, and_true, reduceCtorEq, Bool.false_eq_true, Bool.true_eq_false, false_implies, hm, implies_true, and_self]
     ·have z1 : decide (c = 43) = false := decide_eq_false (fun y => by rw [z] at y; exact absurd y (by decide))
      have z2 : decide (c = 45) = true := decide_eq_true z
      simp only [zb, d0, b1, i1, ec, cc, q', k', z1, z2, ew, l1, l2, l3, true_and, true_implies, and_true, reduceCtorEq, Bool.false_eq_true, Bool.true_eq_false, false_implies, hm, implies_true, and_self]
    ·rw [if_neg (fun y => z y.2), ← List.append_assoc] at h
     obtain ⟨m, hm⟩ := Zc2 s hs A B Ke w (i + 1) (x ++ [c]) g1 (by omega) (by rw [List.length_append, List.length_singleton]; omega) h
     rw [← e1] at hm
     have z1 : decide (c = 43) = false := decide_eq_false fun y => z (.inl y)
     have z2 : decide (c = 45) = false := decide_eq_false fun y => z (.inr y)
     have l1 : (x.length + [c].length ≤ 1099511627776) = True := eq_true (by rw [List.length_singleton]; omega)
     refine ⟨m + 1, ?_⟩
     simp only [zb, d0, b1, i1, ec, cc, q', k', z1, z2, l1, true_and, true_implies, and_true, reduceCtorEq, Bool.false_eq_true, Bool.true_eq_false, false_implies, hm, implies_true, and_self]
   ·have k' : decide ((0 : Int) < (i : Int)) = false := decide_eq_false (by omega)
    rw [if_neg (fun y => k y.1), ← List.append_assoc] at h
    obtain ⟨m, hm⟩ := Zc2 s hs A B Ke w (i + 1) (x ++ [c]) g1 (by omega) (by rw [List.length_append, List.length_singleton]; omega) h
    rw [← e1] at hm
    have l1 : (x.length + [c].length ≤ 1099511627776) = True := eq_true (by rw [List.length_singleton]; omega)
    refine ⟨m + 1, ?_⟩
    simp only [zb, d0, b1, i1, ec, cc, q', k', l1, true_and, true_implies, and_true, reduceCtorEq, Bool.false_eq_true, Bool.true_eq_false, false_implies, hm, implies_true, and_self]
theorem Zgm {A B : Int} (hv : Zcy (A, B) = true) {K : (Int × Int) → Int → Prop} (hK : K (A, B) 0) : ja6 (JbM (A, B)) K := by
 have hl := zeG hv
 unfold Zcy at hv
 rw [Bool.and_eq_true] at hv
 have ok := zgx hv.1 hv.2
 refine ⟨ZfS A B, (A, B), ZfU (zfU _) (by show (JbM (A, B)).length ≤ 4000; omega) ?_ (jeU hv.1 hv.2) ⟨rfl, rfl⟩, ok, JcA hv.1 hv.2, hK⟩
 unfold ZfS
 split
 ·simp
 ·split <;> simp
theorem JfU {A B : Int} (hv : Zcy (A, B) = true) {K : (Int × Int) → Int → Prop} (hK : K (A, B) 0) : ja6 ([32] ++ wdM 0 (JbM (A, B)) ++ [32]) K := by
 have hl := zeG hv
 unfold Zcy at hv
 rw [Bool.and_eq_true] at hv
 have ok := zgV hv.1 hv.2
 have hw := jfU (JbM (A, B)) 0
 have s32 : gB 32 := .inl rfl
 refine ⟨wtK A B, (A, B), ZfU (zcn (zcn (zbA s32) (jhl _ _ (zfU _))) (zbA s32)) (by show ([32] ++ wdM 0 (JbM (A, B)) ++ [32]).length ≤ 4000; rw [List.length_append, List.length_append, List.length_singleton]; omega) ?_ (jgU hv.1 hv.2) ⟨rfl, rfl⟩, ok, ZfT hv.1 hv.2, hK⟩
 unfold wtK Zci
 split
 ·simp
 ·split <;> simp
theorem Zhl (a b K) (h : K true) : j0 Ze9 Jcg ZeB ja6 zaq jdK a b K := by
 show ((!Zcy a) = false → _) ∧ _
 cases ha : Zcy a with
 | false => exact ⟨fun q => by simp at q, fun _ => h⟩
 | true =>
 refine ⟨fun _ => ?_, fun q => by simp at q⟩
 show ((!Zcy b) = true → _) ∧ _
 cases hb : Zcy b with
 | false => exact ⟨fun _ => h, fun q => by simp at q⟩
 | true =>
 refine ⟨fun q => by simp at q, fun _ => ?_⟩
 have ta : JdG (a.1, a.2) = (JbM a, 0) := by unfold JdG; rw [if_pos ha]
 have tb : JdG (b.1, b.2) = (JbM b, 0) := by unfold JdG; rw [if_pos hb]
 have hinj := jgV ha hb
 have hl := zeG ha
 have ha2 := ha
 unfold Zcy at ha2
 rw [Bool.and_eq_true] at ha2
 have ok := zgx ha2.1 ha2.2
 have hL : (ZfS a.1 a.2).length ≤ 1500 := by
  unfold ZfS
  split
  ·simp
  ·split <;> simp
 have fin : ∃ m, zb Ze9 Jcg ZeB ja6 zaq jdK m (JbM a) [32] 0 a.1 a.2 (fun y14 y15 y16 => (y14.length + ([32] : List UInt8).length ≤ 1099511627776 ∧ (ja6 (y14 ++ ([32] : List UInt8)) (fun y17 y18 => (((decide (y18 = (0 : Int))) = true → (((decide (y17.1 = y15) && (decide (y17.2 = y16) && true)) = true → (Jcg (fun y19 => K y19))) ∧ ((decide (y17.1 = y15) && (decide (y17.2 = y16) && true)) = false → K false))) ∧ ((decide (y18 = (0 : Int))) = false → K false)))))) := by
  refine Zc2 (JbM a) (by omega) a.1 a.2 _ (JbM a) 0 [32] rfl (Nat.zero_le _) (by rw [List.length_singleton]; omega) ?_
  have hw := jfU (JbM a) 0
  refine ⟨by rw [List.length_append, List.length_singleton]; omega, ?_⟩
  refine JfU (A := a.1) (B := a.2) ha ⟨fun _ => ⟨fun _ => h, fun z => ?_⟩, fun z => absurd rfl (of_decide_eq_false z)⟩
  rw [decide_eq_true rfl, decide_eq_true rfl] at z
  cases z
 simp only [ZeB, ta, tb]
 refine Zgm (A := a.1) (B := a.2) ha ?_
 refine ZfU (zfU _) (by show (JbM a).length ≤ 4000; omega) hL (jeU ha2.1 ha2.2) ?_
 refine ⟨ok, (a.1, a.2), JcA ha2.1 ha2.2, ?_⟩
 have eq1 : (!(decide (a.1 = a.1) && (decide (a.2 = a.2) && true))) = false := by simp
 refine ⟨fun _ => ⟨fun _ => ⟨fun _ => ⟨fun _ => ⟨fun _ => ⟨fun _ => ⟨fun _ => ⟨fun q => ⟨fun z => ?_, fun _ => fin⟩, fun q => ⟨fun z => ?_, fun _ => fin⟩⟩, fun z => ?_⟩, fun z => ?_⟩, fun z => ?_⟩, fun z => ?_⟩, fun z => ?_⟩, fun z => ?_⟩, fun z => ?_⟩
 ·rw [hinj, q, Bool.true_and] at z; simp at z
 ·rw [hinj, q, Bool.false_and] at z; simp at z
 all_goals first | (rw [eq1] at z; cases z) | exact absurd rfl (of_decide_eq_true z)
end Go.Proofs.YtbpbaicbaehhjaaGreatDoor
set_option linter.unusedVariables false
namespace Go.Proofs.YtbpbaicbaehhjaaGreatDoor
open Go.Vm Go.Sx Go.RowKit
variable {ro : Nat}
theorem ZhR : FO ro 67 (jaU JfI) := by
 intro o0 us k h st vs hn hg ho hr
 unfold jaU at h
 split at h
 ·rename_i a0 a1
  obtain ⟨hl, hk⟩ := h
  obtain ⟨v0, r0, rfl, hv0, hr0⟩ := hr
  obtain ⟨v1, r1, rfl, hv1, hr1⟩ := hr0
  have hr1 : r1 = [] := hr1
  have hv0 : v0 = V.str a0 := hv0
  have hv1 : v1 = V.str a1 := hv1
  subst hr1 hv0 hv1
  refine ⟨.i .i64 (Lib.index a0 a1), st, ⟨1, fun n hn => ?_⟩, .i .i64 (Lib.index a0 a1), rfl, ⟨Nat.le_refl _, fun _ _ => rfl, fun _ _ q => q⟩, hk⟩
  cases n with
  | zero => omega
  | succ n =>
   have e : ovD ro 67 [V.str a0, V.str a1] st = some (.i .i64 (Lib.index a0 a1), st) := by
    have hb : Nat.blt a0.length 4294967281 = true := by rw [Nat.blt_eq]; omega
    have h0 : ovI 67 [V.str a0, V.str a1] = some (V.i .i64 (Lib.index a0 a1)) := by
     show cond (Nat.blt a0.length 4294967281) (some (V.i .i64 (Lib.index (Zc a0.length (ZG a0)) (Zc a1.length (ZG a1))))) none = _
     rw [hb, zF, zF]
     rfl
    have h1 : ov00 67 [V.str a0, V.str a1] = some (V.i .i64 (Lib.index a0 a1)) := h0
    show zc3 ov00 67 [V.str a0, V.str a1] st = _
    unfold zc3
    rw [h1]
   unfold evF ZH
   rw [e]
 ·exact h.elim
theorem JhR : FO ro 31 (jI jgI) := by
 intro o0 us k h st vs hn hg ho hr
 unfold jI at h
 split at h
 ·rename_i a0 a1
  obtain ⟨⟨rfl, h0, h1⟩, hk⟩ := h
  obtain ⟨v0, r0, rfl, hv0, hr0⟩ := hr
  obtain ⟨v1, r1, rfl, hv1, hr1⟩ := hr0
  have hr1 : r1 = [] := hr1
  have hv0 : v0 = .i .i64 a0 := hv0
  have hv1 : v1 = .i .i64 10 := hv1
  subst hr1 hv0 hv1
  refine ⟨V.str (Lib.itoa a0), st, ⟨1, fun n hn => ?_⟩, .s (Lib.itoa a0), rfl, ⟨Nat.le_refl _, fun _ _ => rfl, fun _ _ q => q⟩, hk⟩
  cases n with
  | zero => omega
  | succ n =>
   have e : ovD ro 31 [.i .i64 a0, .i .i64 (.ofNat 10)] st = some (V.str (Lib.itoa a0), st) := by
    cases a0 with
    | ofNat c =>
     have hc : c < 9223372036854775808 := by have : ((c : Nat) : Int) < 9223372036854775808 := h1; omega
     have hb : Zfd 10 c 9223372036854775808 = true := by unfold Zfd; rw [Bool.and_eq_true, Nat.beq_eq, Nat.blt_eq]; exact ⟨rfl, hc⟩
     have hi : Lib.itoa (Int.ofNat c) = Lib.decDigits c := by unfold Lib.itoa; rw [if_neg (by simp)]; rfl
     have hM : ovM 31 [.i .i64 (.ofNat c), .i .i64 (.ofNat 10)] = some (V.str (Lib.itoa (Int.ofNat c))) := by
      rw [hi]
      show cond (Zfd 10 c 9223372036854775808) (some (V.str (dgF 20 c []))) none = _
      rw [hb, cond_true, jdX 19 c [] (Nat.lt_trans hc (by decide)), List.append_nil]
     have h0 := (show ov00 31 _ = _ from by unfold ov00; rw [hM])
     show zc3 ov00 31 _ st = _
     unfold zc3
     rw [h0]
    | negSucc c =>
     have hc : c < 9223372036854775808 := by omega
     have hb : Zfd 10 c 9223372036854775808 = true := by unfold Zfd; rw [Bool.and_eq_true, Nat.beq_eq, Nat.blt_eq]; exact ⟨rfl, hc⟩
     have hi : Lib.itoa (Int.negSucc c) = 45 :: Lib.decDigits (c + 1) := by unfold Lib.itoa; rw [if_pos (Int.negSucc_lt_zero _)]; rfl
     have hM : ovM 31 [.i .i64 (.negSucc c), .i .i64 (.ofNat 10)] = some (V.str (Lib.itoa (Int.negSucc c))) := by
      rw [hi]
      show cond (Zfd 10 c 9223372036854775808) (some (V.str (45 :: dgF 20 (c + 1) []))) none = _
      rw [hb, cond_true, jdX 19 (c + 1) [] (Nat.lt_of_le_of_lt hc (by decide)), List.append_nil]
     have h0 := (show ov00 31 _ = _ from by unfold ov00; rw [hM])
     show zc3 ov00 31 _ st = _
     unfold zc3
     rw [h0]
   unfold evF ZH
   rw [show ((10 : Int)) = .ofNat 10 from rfl, e]
 ·exact h.elim
theorem zhS : FO ro 15 (js Jcg) := by
 intro o0 us k h st vs hn hg ho hr
 unfold js at h
 split at h
 ·have e : vs = [] := hr
  subst e
  exact ⟨.b true, st, ⟨1, fun n hn => by
   cases n with
   | zero => omega
   | succ n => rfl⟩, .b true, rfl, ⟨Nat.le_refl _, fun _ _ => rfl, fun _ _ q => q⟩, h⟩
 ·exact h.elim
theorem jhS : FO ro 16 (Jh Ze9) := JaN (jbm) zhv
theorem jhK : FO ro 23 (jq je9) := jbI (zcU) Zht
theorem ZhS : FO ro 14 (ZW zga) := jct (Zd8 je9 jhK) Jht
theorem JhC : FO ro 20 (Zm Zeb) := JbX (jdb jgI JhR) zhu
theorem JhS : FO ro 21 (ZM jga) := Zcd (JdD Zeb JhC) jhu
theorem zhT : FO ro 22 (JM Zga) := Jcd (zdE Zeb JhC) Zhu
theorem jhT : FO ro 13 (zT ZeB) := JcU (jeA zga Zeb jga Zga ZhS JhC JhS zhT) Jhu
theorem ZhT : FO ro 46 (Zg jgZ) := ZaD (Za8) ZhQ
theorem JhT : FO ro 32 (JY jc0) := jc7 (je5 jgZ ZhT) JgM
theorem ZhK : FO ro 61 (jad jeD) := Jdz (zfB) jhy
theorem JhK : FO ro 47 (Z2 jgg) := ZdA (jfB jeD ZhK) jhQ
theorem zhU : FO ro 48 (ZS zfJ) := JcR (Jey JfI ZhR) Zhy
theorem jhU : FO ro 33 (zj jfJ) := Ja8 (zbX jgg zfJ JhK zhU) Jhy
theorem Jhl : FO ro 49 (zg zas) := Zcq (jd2) Jg9
theorem Jfd : FO ro 68 (jc Zh) := zcL (jer) Zgb
theorem zhD : FO ro 50 (z6 jgc) := Jd2 (Zf6 Zh zas Jfd Jhl) zhQ
theorem zhL : FO ro 51 (jE JeB) := Jcq (Zd2) zhw
theorem zhm : ShOK sy Tryz.prog GT (ovD ro) ro Tryz.f87.ntmps (za Tryz.f87) sl_uA_q Zbh (Jcl zdI) := (ZgH).weak (fun _ _ h => jgK _ _ _ _ _ _ _ _ h)
theorem ZgV : FO ro 62 (zf Jar) := zcp (jdY) jhv
theorem jhL : FO ro 88 (jo Zec) := Zca (jdB Jar ZgV) Zhw
theorem jgx : ShOK sy Tryz.prog GT (ovD ro) ro Tryz.f69.ntmps (za Tryz.f69) sl_aE_q zan (zaU Zbn) := (zgI zdI Zec Zh zas zhm jhL Jfd Jhl).weak (fun _ _ h => ZgK _ _ _ _ _ _ _ _ _ h)
theorem ZhU : FO ro 52 (ja2 zgd) := jd6 (Jf9 Zbn jgx) Jhw
theorem JhU : FO ro 89 (ZL zfa) := jb9 (Zdx) Zhv
theorem ZhL : FO ro 72 (Jp Jay) := zbF (ZcM zfa JhU) zgc
theorem zhV : FO ro 70 (JL jfa) := Zb9 (zdy Jay Jar ZhL ZgV) Jhv
theorem Zho : FO ro 71 (JJ jb1) := Jd1 (Jf5 Zh Jfd) jhw
theorem JhL : FO ro 53 (jak ZbL) := zd2 (zf6 Zh jfa jb1 Jfd zhV Zho) jgJ
theorem zhM : FO ro 54 (zq jao) := jbF (JcM Zh Jay jb1 Jfd ZhL Zho) zgJ
theorem jhm : ShOK sy Tryz.prog GT (ovD ro) ro Tryz.f87.ntmps (za Tryz.f87) sl_uA_e Jbg (Zcl JdH) := (JgG).weak (fun _ _ h => ZgJ _ _ _ h)
theorem Zgx : ShOK sy Tryz.prog GT (ovD ro) ro Tryz.f69.ntmps (za Tryz.f69) sl_aE_e Jam (jaT zbn) := (jgH JdH Zec Zh zas jhm jhL Jfd Jhl).weak (fun _ _ h => JgJ _ _ _ _ h)
theorem jhD : FO ro 55 (jp Jbz) := jcb (jdC ZbL zbn JhL Zgx) Jhc
theorem ZhD : FO ro 73 (Jy zae) := jcL (Zer) Jgb
theorem jhM : FO ro 74 (Zas ZcY) := zdZ (zf4 Zh Jar Jfd ZgV) zha
theorem jhV : FO ro 56 (jaY zec) := jdZ (jf4 Zh zae Jar ZcY Jfd ZhD ZgV jhM) jha
theorem ZhV : FO ro 92 (Jo zch) := ZaY (jbE) JgI
theorem JhV : FO ro 93 (Jx jec) := jbx (jcp Zh zae Jar Jfd ZhD ZgV) Zha
theorem zhW : FO ro 94 (JaY jch) := ZdZ (Jf4) jgL
theorem JhD : FO ro 104 (Jax ZdI) := Jdw (jfy) ZgL
theorem zhE : FO ro 103 (zy ZeQ) := zbU (zc6 ZdI JhD) jhe
theorem jhW : FO ro 95 (za0 JfH) := zd0 (jf5 ZeQ zhE) Jhx
theorem ZhW : FO ro 75 (ja0 jge) := Zd1 (Zf5 ZcY Zh zch jec jch JfH zae Jar jhM Jfd ZhV JhV zhW jhW ZhD ZgV) zhy
theorem JhW : FO ro 57 (JC Jbn) := jbG (jcS jge jao Jbz Zh ZhW zhM jhD Jfd) ZfJ
theorem ZhM : FO ro 60 (Zl Jec) := jbV (Jc8) Zhx
theorem JhM : FO ro 36 (jZ Jdk) := FnOK.swap (Y := syc) (Y' := sy) (fun _ => rfl) (fun _ => rfl) (zdb (ze8 Jec (FnOK.cv ZhM)) Zhf)
theorem zhX : FO ro 76 (Jak jdI) := zc9 (Ze6 Jec ZhM) JgK
theorem jhX : FO ro 96 (jy Zbu) := zbV (Zc8) jgd
theorem ZhX : FO ro 97 (JaB JfG) := jd4 (jf8 jb1 zbn Zho Zgx) zhx
theorem JhX : FO ro 77 (JV Zgd) := zcr (zd6 jgc zas jb1 Zbn Zbu JfG zhD Jhl Zho jgx jhX ZhX) jhx
theorem zhY : FO ro 58 (jF za6) := ZbW (zda Jbz Zh jdI jgc JeB Zgd jhD Jfd zhX zhD zhL JhX) zgL
theorem jhY : FO ro 59 (zaa Zb1) := zcS (zez) Jhe
theorem ZhY : FO ro 34 (Jz zc0) := zcd (ZdD zas jgc JeB zgd ZbL jao Jbz zec Jbn jgg za6 Zb1 Jhl zhD zhL ZhU JhL zhM jhD jhV JhW JhK zhY jhY) ZgM
theorem zhN : FO ro 17 (jM zaq) := Jda (Ze7 jc0 jfJ zc0 JhT jhU ZhY) Zgg
theorem jhE : FO ro 35 (zE zdJ) := jdd (Ze8) jhz
theorem JhY : FO ro 26 (ZF ZdJ) := ZbY (Jdd zdJ jhE) zgN
theorem jhN : FO ro 38 (ZE Jbu) := Zct (jd9 je9 jhK) zgh
theorem ZhE : FO ro 37 (Zp jcm) := Zce (jdF Jbu jhN) jhg
theorem zhZ : FO ro 27 (zX JdJ) := Zcu (jea Jdk jcm JhM ZhE) jgN
theorem jhZ : FO ro 40 (zD JeR) := JbH (ZcT jeD ZhK) Jhf
theorem JhE : FO ro 29 (zk zcm) := zbI (JcT JeR jhZ) zhg
theorem ZhN : FO ro 39 (Zu zdl) := zbY (zdd) Zhg
theorem ZhZ : FO ro 28 (JF zeS) := JbY (zde Jdk zcm Jbu zdl JhM JhE jhN ZhN) Jhg
theorem JhN : FO ro 43 (Zq Zfb) := zbK (ZcX zdJ jcm jhE ZhE) Jhz
theorem zhO : FO ro 42 (Ju jfb) := zbZ (jde) Zhz
theorem JhZ : FO ro 41 (zv jgh) := Zbl (Jce zdJ zdl Zfb jfb jcm jhE ZhN JhN zhO ZhE) zhA
theorem zh0 : FO ro 44 (jv Zgh) := Jbl (jcf Jar ZgV) jhA
theorem jh0 : FO ro 30 (Zv jeS) := zbm (Zcf jgh zcm Zfb jfb Zgh JhZ JhE JhN zhO zh0) zhh
theorem Zh0 : FO ro 18 (Jaa ZeS) := JcX (zeB ZdJ JdJ zeS zcm jeS JhY zhZ ZhZ JhE jh0) jhh
theorem jhO : FO ro 10 (Z3 jdK) := zdG (zfF ZeS Zh0) ZhA
theorem t_9 : FO ro 9 (jT ja6) := zcY (jeB zaq jdK zhN jhO) ZgO
theorem zhF : FO ro 5 (jt (fun _ _ K => K true)) :=
 JaC (Ja5 Ze9 Jcg ZeB ja6 zaq jdK jhS zhS jhT t_9 zhN jhO) (fun a b K h => Zhl a b K h)
theorem Jh0 : GOK GT GL (st0 gs1) := JhP
theorem Zhm (x y z w : Int) : ∃ m st', evF Tryz.prog (ovA GL) GL m 5 [.a [.i .i64 x, .i .i64 y], .a [.i .i64 z, .i .i64 w]] (st0 gs1) = some (.b true, st') := by
 obtain ⟨v, st', ⟨M, h1⟩, u, h2, _, h3⟩ := zhF (ro := GL) (fun _ => False) [.a [.i .i64 x, .i .i64 y], .a [.i .i64 z, .i .i64 w]] (fun u => u = .b true) rfl (st0 gs1) [.a [.i .i64 x, .i .i64 y], .a [.i .i64 z, .i .i64 w]] (Nat.le_refl _) Jh0 (fun _ q => q.elim) ⟨_, _, rfl, ⟨_, rfl, _, _, rfl, rfl, _, _, rfl, rfl, rfl⟩, _, _, rfl, ⟨_, rfl, _, _, rfl, rfl, _, _, rfl, rfl, rfl⟩, rfl⟩
 subst h3
 have e : v = .b true := h2
 subst e
 exact ⟨M, st', h1 M (Nat.le_refl _)⟩
end Go.Proofs.YtbpbaicbaehhjaaGreatDoor
