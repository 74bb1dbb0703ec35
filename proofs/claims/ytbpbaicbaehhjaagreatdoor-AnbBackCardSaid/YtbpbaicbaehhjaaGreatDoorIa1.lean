/-
 A model of glue: the text of tokens, as plain functions. Nothing is claimed here.
-/
import Derived.Test.YtbpbaicbaehhjaaGreatDoorWa1
import Derived.Test.YtbpbaicbaehhjaaGreatDoorAw1
namespace Go.Proofs.YtbpbaicbaehhjaaGreatDoor
open Go.Vm Go.Sx Go.RowKit
def jcv (c : UInt8) : List UInt8 := 92 :: (if (33 ≤ (c.toNat : Int) ∧ (c.toNat : Int) ≤ 126) ∧ mD (c.toNat : Int) = false ∧ mL (c.toNat : Int) = false then [c] else JgZ c.toNat ++ [32])
def jby (e : Int) : Int → List UInt8 → List UInt8
 | _, [] => []
 | i, c :: w => (if i ≠ e ∧ mN (c.toNat : Int) = true then [c] else jcv c) ++ jby e (i + 1) w
def swD (s : List UInt8) : Bool := mD (hb s)
def swM (s : List UInt8) : Bool := decide (hb s = 45) && mD (hb s.tail)
def Zdl (s : List UInt8) : Int := if s = [45] then 0 else if swD s then 0 else if swM s then 1 else -1
def jas (s : List UInt8) : List UInt8 := jby (Zdl s) 0 s
def fr3 : Nat → Nat → List UInt8
 | 0, _ => []
 | k + 1, r => UInt8.ofNat (48 + r * 10 / 1000) :: if r * 10 % 1000 = 0 then [] else fr3 k (r * 10 % 1000)
def zaJ (n : Int) (whole : Bool) : List UInt8 := (if n < 0 then [45] else []) ++ (Lib.decDigits (n.natAbs / 1000) ++ (if whole then [] else 46 :: fr3 3 (n.natAbs % 1000)))
def Zcm (n : Int) : Bool := decide (n.tmod 1000 = 0)
def Jdl : List UInt8 → List UInt8
 | [] => []
 | c :: w => (if c ∈ [10, 12, 13, 34, 92] then jcv c else [c]) ++ Jdl w
def Jc2 : List UInt8 → List UInt8
 | [] => []
 | c :: w => (if c.toNat ≤ 32 ∨ c ∈ [34, 39, 40, 41, 92, 127] then jcv c else [c]) ++ Jc2 w
def zen (u : List UInt8) : Bool := mE (hb u) && (swD u.tail || swM u.tail)
def Za6 (u : List UInt8) : List UInt8 := if zen u then jby 0 0 u else jas u
def JeD (t : List UInt8) (f : Bool) : List UInt8 := 35 :: if f then jas t else jby (-1) 0 t
def marksT : List UInt8 := [58, 59, 44, 91, 93, 40, 41, 123, 125]
def zgv (t : Tok) : List UInt8 :=
 if t.kind = 13 then [32]
 else if t.kind = 1 then jas t.text
 else if t.kind = 2 then jas t.text ++ [40]
 else if t.kind = 3 then 64 :: jas t.text
 else if t.kind = 4 then JeD t.text t.flag
 else if t.kind = 5 then 34 :: (Jdl t.text ++ [34])
 else if t.kind = 7 then [117, 114, 108, 40] ++ (Jc2 t.text ++ [41])
 else if t.kind = 10 then zaJ t.num t.flag
 else if t.kind = 11 then zaJ t.num (Zcm t.num) ++ [37]
 else if t.kind = 12 then zaJ t.num t.flag ++ Za6 t.unit
 else if t.kind = 9 then t.text
 else if t.kind = 14 then [60, 33, 45, 45]
 else if t.kind = 15 then [45, 45, 62]
 else [marksT.getD (t.kind - 16).toNat 0]
def ZfK (a b : Tok) : Bool := decide (a.kind = b.kind) && (decide (a.text = b.text) && (decide (a.num = b.num) && (decide (a.unit = b.unit) && decide (a.flag = b.flag))))
def JhA (t : Tok) : Bool := decide (t.kind = 9) && t.text == [92]
def zhB (t : Tok) : Bool := decide (t.kind = 2) && zad t.text [117, 114, 108]
def jc3 : List Tok → List Tok → Bool
 | [], [] => true
 | a :: x, b :: y => ZfK a b && jc3 x y
 | _, _ => false
end Go.Proofs.YtbpbaicbaehhjaaGreatDoor
set_option linter.unusedVariables false
set_option linter.unusedSimpArgs false
namespace Go.Proofs.YtbpbaicbaehhjaaGreatDoor
open Go.Vm Go.Sx Go.RowKit
theorem JfK {u v : List UInt8} (h : 1 ≤ u.length) : hb (u ++ v) = hb u := by
 cases u with
 | nil => simp at h
 | cons c w => rfl
theorem Jcz : ∀ {u v : List UInt8}, (JI u).length < u.length → JI (u ++ v) = JI u
 | [], v, h => by simp at h
 | c :: w, v, h => by
  unfold JI at h ⊢
  rw [List.cons_append, List.takeWhile_cons, List.takeWhile_cons]
  rw [List.takeWhile_cons] at h
  by_cases q : mD (c.toNat : Int) = true
  ·simp only [if_pos q] at h ⊢
   rw [List.length_cons, List.length_cons] at h
   have := Jcz (u := w) (v := v) (by unfold JI; omega)
   unfold JI at this
   rw [this]
  ·simp only [if_neg q]
end Go.Proofs.YtbpbaicbaehhjaaGreatDoor
set_option linter.unusedVariables false
set_option linter.unusedSimpArgs false
namespace Go.Proofs.YtbpbaicbaehhjaaGreatDoor
open Go.Vm Go.Sx Go.RowKit
end Go.Proofs.YtbpbaicbaehhjaaGreatDoor
set_option linter.unusedVariables false
set_option linter.unusedSimpArgs false
namespace Go.Proofs.YtbpbaicbaehhjaaGreatDoor
open Go.Vm Go.Sx Go.RowKit
def jhB (u : List UInt8) : Option (Tok × List UInt8) := match u.drop (zav u) with
 | [] => none
 | c :: w => some ((ZN (c :: w)).1, (c :: w).drop (ZN (c :: w)).2)
inductive Reads : List UInt8 → List Tok → List UInt8 → Prop where
 | nil (u : List UInt8) : Reads u [] u
 | cons {u r s : List UInt8} {t : Tok} {L : List Tok} : jhB u = some (t, r) → Reads r L s → Reads u (t :: L) s
theorem Reads.trans {u r s : List UInt8} {L M : List Tok} (h : Reads u L r) (k : Reads r M s) : Reads u (L ++ M) s := by
 induction h with
 | nil u => exact k
 | cons h1 _ ih => exact .cons h1 (ih k)
end Go.Proofs.YtbpbaicbaehhjaaGreatDoor
set_option linter.unusedVariables false
namespace Go.Proofs.YtbpbaicbaehhjaaGreatDoor
open Go.Vm Go.Sx Go.RowKit
theorem ZhB (c : UInt8) : UInt8.ofNat (c.toNat : Int).toNat = c := by simp
theorem zbo : ∀ d, d < 16 → Jb2 ((ZdN d).toNat : Int) = ((d : Int), true) ∧ ((ZdN d).toNat : Int) ≠ 10 ∧ ((ZdN d).toNat : Int) ≠ 0 ∧ ((ZdN d).toNat : Int) ≠ 12 ∧ ((ZdN d).toNat : Int) ≠ 13 := by decide
theorem zeE (k : Nat) (d : Nat) (hd : d < 16) (w : List UInt8) (a : Int) : Js (k + 1) (ZdN d :: w) a = ((Js k w (a * 16 + d)).1, (Js k w (a * 16 + d)).2 + 1) := by
 simp only [Js, Jf, (zbo d hd).1, if_true, List.tail_cons]
theorem zfL (k : Nat) (r : List UInt8) (a : Int) : Js (k + 1) (32 :: r) a = (a, 0) := by
 have h : (Jb2 (hb (32 :: r))).2 = false := rfl
 unfold Js
 rw [if_neg (by rw [h]; decide)]
theorem JgO : ∀ c : UInt8, (33 ≤ (c.toNat : Int) ∧ (c.toNat : Int) ≤ 126) ∧ mD (c.toNat : Int) = false ∧ mL (c.toNat : Int) = false → (Jb2 (c.toNat : Int)).2 = false := by
 intro c h
 obtain ⟨h1, h2, h3⟩ := h
 unfold Jb2
 rw [if_neg (by rw [h2]; decide)]
 unfold mL at h3
 simp only [Bool.or_eq_false_iff, Bool.and_eq_false_iff, decide_eq_false_iff_not] at h3
 rw [if_neg (by omega), if_neg (by omega)]
theorem ZdK (c : UInt8) (h0 : c ≠ 0) (h1 : (c.toNat : Int) < 128) (r : List UInt8) : z8 ((jcv c).tail ++ r) = ([c], (jcv c).length - 1) := by
 have hc0 : ¬ (c.toNat : Int) = 0 := fun z => h0 (UInt8.toNat_inj.mp (by show c.toNat = 0; omega))
 unfold jcv
 simp only [List.tail_cons, List.length_cons]
 by_cases q : (33 ≤ (c.toNat : Int) ∧ (c.toNat : Int) ≤ 126) ∧ mD (c.toNat : Int) = false ∧ mL (c.toNat : Int) = false
 ·rw [if_pos q]
  show JfF c r = _
  unfold JfF
  rw [if_neg (by rw [JgO c q]; decide)]
  rfl
 ·rw [if_neg q]
  have e8 : zdH (c.toNat : Int) = [c] := by
   unfold zdH
   rw [if_pos (by omega)]
   show [UInt8.ofNat (c.toNat : Int).toNat] = _
   rw [ZhB]
  by_cases hu : c.toNat < 16
  ·have hl : JgZ c.toNat = [ZdN c.toNat] := by unfold JgZ; rw [if_pos hu]
   rw [hl]
   show JfF (ZdN c.toNat) (32 :: r) = _
   have hr : Js 6 (ZdN c.toNat :: 32 :: r) 0 = ((c.toNat : Int), 1) := by rw [zeE _ _ hu, zfL]; simp
   unfold JfF
   rw [(zbo _ hu).1, if_pos rfl, hr, if_neg hc0, e8]
   rfl
  ·have hl : JgZ c.toNat = [ZdN (c.toNat / 16), ZdN (c.toNat % 16)] := by unfold JgZ; rw [if_neg hu]
   have hd1 : c.toNat / 16 < 16 := by omega
   have hd2 : c.toNat % 16 < 16 := by omega
   rw [hl]
   show JfF (ZdN (c.toNat / 16)) (ZdN (c.toNat % 16) :: 32 :: r) = _
   have hr : Js 6 (ZdN (c.toNat / 16) :: ZdN (c.toNat % 16) :: 32 :: r) 0 = ((c.toNat : Int), 2) := by
    rw [zeE _ _ hd1, zeE _ _ hd2, zfL]
    refine Prod.ext ?_ rfl
    show (0 * 16 + ((c.toNat / 16 : Nat) : Int)) * 16 + ((c.toNat % 16 : Nat) : Int) = _
    omega
   unfold JfF
   rw [(zbo _ hd1).1, if_pos rfl, hr, if_neg hc0, e8]
   rfl
theorem zb2 (c : UInt8) : ∃ d v, jcv c = 92 :: d :: v ∧ (d.toNat : Int) ≠ 10 := by
 unfold jcv
 by_cases q : (33 ≤ (c.toNat : Int) ∧ (c.toNat : Int) ≤ 126) ∧ mD (c.toNat : Int) = false ∧ mL (c.toNat : Int) = false
 ·rw [if_pos q]
  exact ⟨c, [], rfl, by omega⟩
 ·rw [if_neg q]
  have hlt := c.toNat_lt
  unfold JgZ
  by_cases hu : c.toNat < 16
  ·rw [if_pos hu]
   exact ⟨_, _, rfl, (zbo _ hu).2.1⟩
  ·rw [if_neg hu]
   exact ⟨_, _, rfl, (zbo _ (by omega)).2.1⟩
theorem zbv (c : UInt8) (r : List UInt8) : zbL (jcv c ++ r) = true := by
 obtain ⟨d, v, h, hd⟩ := zb2 c
 rw [h]
 unfold zbL
 simp only [List.cons_append, Jf, List.tail_cons]
 rw [Bool.and_eq_true]
 exact ⟨rfl, decide_eq_true hd⟩
theorem JhB : mN 92 = false := by decide
theorem Jgh {c : UInt8} (h : mN (c.toNat : Int) = true) (r : List UInt8) : Jn (c :: r) = (c :: (Jn r).1, 1 + (Jn r).2) := by
 rw [Jn]
 rw [if_pos (by unfold j4; rw [Jf, h]; rfl)]
 rw [if_neg (fun z => by rw [z, JhB] at h; cases h)]
theorem zgi (c : UInt8) (h0 : c ≠ 0) (h1 : (c.toNat : Int) < 128) (r : List UInt8) : Jn (jcv c ++ r) = (c :: (Jn r).1, (jcv c).length + (Jn r).2) := by
 have hs := zbv c r
 have he := ZdK c h0 h1 r
 have hl : jcv c = 92 :: (jcv c).tail := rfl
 rw [hl, List.cons_append] at hs ⊢
 rw [Jn]
 rw [if_pos (by unfold j4; rw [hs, Bool.or_true]), if_pos (show ((92 : UInt8).toNat : Int) = 92 from rfl), he]
 have hd : ((jcv c).tail ++ r).drop ((jcv c).length - 1) = r := by
  rw [show (jcv c).length - 1 = (jcv c).tail.length from by rw [List.length_tail], List.drop_left]
 rw [hd]
 refine Prod.ext rfl ?_
 show 1 + ((jcv c).length - 1) + (Jn r).2 = (92 :: (jcv c).tail).length + (Jn r).2
 rw [← hl]
 have : 1 ≤ (jcv c).length := by rw [hl]; simp
 omega
def okE (e : Int) : Int → List UInt8 → Prop
 | _, [] => True
 | i, c :: w => (i = e → (c.toNat : Int) < 128) ∧ okE e (i + 1) w
theorem Ja6 (e : Int) : ∀ (w : List UInt8) (i : Int), e < i → okE e i w
 | [], _, _ => trivial
 | c :: w, i, h => ⟨fun z => by omega, Ja6 e w (i + 1) (by omega)⟩
theorem jgi {c : UInt8} (h : mN (c.toNat : Int) = false) : (c.toNat : Int) < 128 := by
 unfold mN mN0 at h
 simp only [Bool.or_eq_false_iff, decide_eq_false_iff_not] at h
 omega
theorem jgv {c : Int} (h : mD c = true) : c < 128 := by
 unfold mD at h
 simp only [Bool.and_eq_true, decide_eq_true_eq] at h
 omega
theorem jbo (s : List UInt8) : Zdl s = if s = [45] then 0 else if mD (hb s) = true then 0 else if hb s = 45 ∧ mD (hb s.tail) = true then 1 else -1 := by
 unfold Zdl swD swM
 simp only [Bool.and_eq_true, decide_eq_true_eq]
theorem Zhh (s : List UInt8) : okE (Zdl s) 0 s := by
 rw [jbo]
 split
 ·rename_i h; subst h; exact ⟨fun _ => by decide, trivial⟩
 ·split
  ·rename_i h
   cases s with
   | nil => trivial
   | cons c w => exact ⟨fun _ => jgv h, Ja6 0 w _ (by omega)⟩
  ·split
   ·rename_i h
    cases s with
    | nil => trivial
    | cons c w =>
     refine ⟨fun z => by omega, ?_⟩
     cases w with
     | nil => trivial
     | cons d v => exact ⟨fun _ => jgv h.2, Ja6 1 v _ (by omega)⟩
   ·exact Ja6 _ _ _ (by omega)
theorem jaD (e i : Int) (c : UInt8) (w : List UInt8) : (i ≠ e ∧ mN (c.toNat : Int) = true ∧ jby e i (c :: w) = c :: jby e (i + 1) w) ∨ (¬ (i ≠ e ∧ mN (c.toNat : Int) = true) ∧ jby e i (c :: w) = jcv c ++ jby e (i + 1) w) := by
 simp only [jby]
 by_cases q : i ≠ e ∧ mN (c.toNat : Int) = true
 ·left; rw [if_pos q]; exact ⟨q.1, q.2, rfl⟩
 ·right; rw [if_neg q]; exact ⟨q, rfl⟩
theorem zcA {c : Int} (h : mN c = true) : mN0 c = true ∨ mD c = true ∨ c = 45 := by
 unfold mN at h
 simpa only [Bool.or_eq_true, decide_eq_true_eq] using h
theorem zdm {w : List UInt8} (h : zbL w = true) : ZK w = true := by
 have h1 : hb w = 92 := by
  unfold zbL at h
  simp only [Bool.and_eq_true, decide_eq_true_eq] at h
  exact h.1
 unfold ZK
 rw [if_pos (by omega), h, Bool.or_true]
theorem Jfb {a : List UInt8} (ha : a ≠ []) : ZK (jas a) = true := by
 obtain ⟨c, w, rfl⟩ := List.exists_cons_of_ne_nil ha
 unfold jas
 rcases jaD (Zdl (c :: w)) 0 c w with ⟨q1, q2, q3⟩ | ⟨_, q3⟩
 ·rw [q3]
  have hD : mD (c.toNat : Int) = false := by
   cases z : mD (c.toNat : Int) with
   | false => rfl
   | true =>
    exfalso
    apply q1
    rw [jbo]
    split
    ·rfl
    ·rw [Jf, z, if_pos rfl]
  rcases zcA q2 with z | z | z
  ·unfold ZK
   rw [Jf, if_pos (fun y => by rw [y] at z; exact absurd z (by decide)), z, Bool.true_or]
  ·rw [z] at hD; cases hD
  ·have hne : w ≠ [] := by
    intro y
    subst y
    apply q1
    rw [jbo]
    have : c = 45 := UInt8.toNat_inj.mp (by show c.toNat = 45; omega)
    rw [this, if_pos rfl]
   obtain ⟨d, v, rfl⟩ := List.exists_cons_of_ne_nil hne
   have key : ∀ r : List UInt8, mN0 (hb r) = true ∨ hb r = 45 ∨ zbL r = true → ZK (c :: r) = true := by
    intro r hr
    unfold ZK
    rw [Jf, if_neg (by omega), List.tail_cons]
    rcases hr with x | x | x
    ·rw [x, Bool.true_or]
    ·rw [decide_eq_true x, Bool.true_or, Bool.or_true]
    ·rw [x, Bool.or_true, Bool.or_true]
   apply key
   rcases jaD (Zdl (c :: d :: v)) (0 + 1) d v with ⟨p1, p2, p3⟩ | ⟨_, p3⟩
   ·rw [p3, Jf]
    rcases zcA p2 with y | y | y
    ·exact .inl y
    ·exfalso
     apply p1
     rw [jbo]
     rw [if_neg (by simp), Jf, if_neg (by rw [hD]; decide), List.tail_cons, Jf, if_pos ⟨z, y⟩]
     rfl
    ·exact .inr (.inl y)
   ·rw [p3]
    exact .inr (.inr (zbv d _))
 ·rw [q3]
  exact zdm (zbv c _)
theorem jcA {x : List UInt8} (h : ZK x = true) : mN0 (hb x) = true ∨ hb x = 92 ∨ (hb x = 45 ∧ (mN0 (hb x.tail) = true ∨ hb x.tail = 45 ∨ hb x.tail = 92)) := by
 unfold ZK at h
 have e92 : ∀ w : List UInt8, zbL w = true → hb w = 92 := fun w hw => by
  unfold zbL at hw
  simp only [Bool.and_eq_true, decide_eq_true_eq] at hw
  exact hw.1
 split at h
 ·simp only [Bool.or_eq_true] at h
  exact h.imp id fun z => .inl (e92 _ z)
 ·rename_i q
  have q : hb x = 45 := by omega
  simp only [Bool.or_eq_true, decide_eq_true_eq] at h
  exact .inr (.inr ⟨q, h.imp id fun z => z.imp id (e92 _)⟩)
theorem jdm {c : Int} (h : mN0 c = true) : (97 ≤ c ∧ c ≤ 122) ∨ (65 ≤ c ∧ c ≤ 90) ∨ c = 95 ∨ 128 ≤ c := by
 unfold mN0 mL at h
 simp only [Bool.or_eq_true, Bool.and_eq_true, decide_eq_true_eq] at h
 omega
theorem jfL {x : List UInt8} (h : ZK x = true) : Zbm x = false := by
 unfold Zbm jar mSg mD
 rcases jcA h with q | q | ⟨q, q2⟩
 ·have := jdm q
  rw [if_neg (by simp; omega)]
  simp
  omega
 ·rw [q, if_neg (by decide)]; rfl
 ·rw [q]
  have : ¬ hb x.tail = 46 ∧ ¬ (48 ≤ hb x.tail ∧ hb x.tail ≤ 57) := by
   rcases q2 with z | z | z
   ·have := jdm z; omega
   ·omega
   ·omega
  simp
  omega
def okB (c : UInt8) : Prop := ¬ (c.toNat : Int) = 0 ∧ ¬ (c.toNat : Int) = 12 ∧ ¬ (c.toNat : Int) = 13
theorem jee : ∀ w : List UInt8, (∀ c ∈ w, okB c) → jx w = w
 | [], _ => rfl
 | c :: w, h => by
  obtain ⟨h1, h2, h3⟩ := h c (List.mem_cons_self ..)
  simp only [jx, if_neg h1, if_neg h2, if_neg h3]
  rw [jee w fun d hd => h d (List.mem_cons_of_mem _ hd)]
theorem Jhh (e i : Int) (w : List UInt8) : hb (jby e i w) ≠ 62 := by
 cases w with
 | nil =>
  show (0 : Int) ≠ 62
  decide
 | cons c w =>
  rcases jaD e i c w with ⟨_, q2, q3⟩ | ⟨_, q3⟩
  ·rw [q3, Jf]
   intro z
   rw [z] at q2
   exact absurd q2 (by decide)
  ·rw [q3]
   show (92 : Int) ≠ 62
   decide
theorem Jc0 {p x : List UInt8} {c : UInt8} (h : (c :: p).isPrefixOf x = true) : hb x = (c.toNat : Int) := by
 obtain ⟨t, ht⟩ := List.isPrefixOf_iff_prefix.1 h
 rw [← ht]
 rfl
end Go.Proofs.YtbpbaicbaehhjaaGreatDoor
set_option linter.unusedVariables false
set_option linter.unusedSimpArgs false
namespace Go.Proofs.YtbpbaicbaehhjaaGreatDoor
open Go.Vm Go.Sx Go.RowKit
theorem JdK (e : Int) : ∀ (w : List UInt8) (i : Int) (v : List UInt8), (0 : UInt8) ∉ w → okE e i w → Jn (jby e i w ++ v) = (w ++ (Jn v).1, (jby e i w).length + (Jn v).2)
 | [], _, v, _, _ => by simp [jby]
 | c :: w, i, v, h0, hk => by
  obtain ⟨k1, k2⟩ := hk
  have h0' : (0 : UInt8) ∉ w := fun z => h0 (List.mem_cons_of_mem _ z)
  have hc : c ≠ 0 := fun z => h0 (by rw [z]; exact List.mem_cons_self ..)
  have ih := JdK e w (i + 1) v h0' k2
  simp only [jby]
  by_cases q : i ≠ e ∧ mN (c.toNat : Int) = true
  ·rw [if_pos q, List.singleton_append, List.cons_append, Jgh q.2, ih, List.length_cons]
   refine Prod.ext ?_ ?_
   ·simp
   ·simp only; omega
  ·rw [if_neg q]
   have h128 : (c.toNat : Int) < 128 := by
    by_cases z : i = e
    ·exact k1 z
    ·cases hm : mN (c.toNat : Int) with
     | false => exact jgi hm
     | true => exact absurd ⟨z, hm⟩ q
   rw [List.append_assoc, zgi c hc h128, ih, List.length_append]
   refine Prod.ext ?_ ?_
   ·simp
   ·simp only; omega
theorem zdL {a : List UInt8} (h0 : (0 : UInt8) ∉ a) (v : List UInt8) : Jn (jas a ++ v) = (a ++ (Jn v).1, (jas a).length + (Jn v).2) := JdK _ a 0 v h0 (Zhh a)
theorem jbv {v : List UInt8} (h : j4 v = false) : Jn v = ([], 0) := by
 cases v with
 | nil => simp [Jn]
 | cons c w => rw [Jn, h]; simp
theorem Jcm (c : UInt8) (r : List UInt8) : ZK (jcv c ++ r) = true := zdm (zbv c r)
theorem ZZ {a : List UInt8} (ha : a ≠ []) (v : List UInt8) : ZK (jas a ++ v) = true := by
 obtain ⟨c, w, rfl⟩ := List.exists_cons_of_ne_nil ha
 unfold jas
 rcases jaD (Zdl (c :: w)) 0 c w with ⟨q1, q2, q3⟩ | ⟨_, q3⟩
 ·rw [q3, List.cons_append]
  have hD : mD (c.toNat : Int) = false := by
   cases z : mD (c.toNat : Int) with
   | false => rfl
   | true =>
    exfalso
    apply q1
    rw [jbo]
    split
    ·rfl
    ·rw [Jf, z, if_pos rfl]
  rcases zcA q2 with z | z | z
  ·unfold ZK
   rw [Jf, if_pos (fun y => by rw [y] at z; exact absurd z (by decide)), z, Bool.true_or]
  ·rw [z] at hD; cases hD
  ·have hne : w ≠ [] := by
    intro y
    subst y
    apply q1
    rw [jbo]
    have : c = 45 := UInt8.toNat_inj.mp (by show c.toNat = 45; omega)
    rw [this, if_pos rfl]
   obtain ⟨d, w, rfl⟩ := List.exists_cons_of_ne_nil hne
   have key : ∀ r : List UInt8, mN0 (hb r) = true ∨ hb r = 45 ∨ zbL r = true → ZK (c :: r) = true := by
    intro r hr
    unfold ZK
    rw [Jf, if_neg (by omega), List.tail_cons]
    rcases hr with x | x | x
    ·rw [x, Bool.true_or]
    ·rw [decide_eq_true x, Bool.true_or, Bool.or_true]
    ·rw [x, Bool.or_true, Bool.or_true]
   apply key
   rcases jaD (Zdl (c :: d :: w)) (0 + 1) d w with ⟨p1, p2, p3⟩ | ⟨_, p3⟩
   ·rw [p3, List.cons_append, Jf]
    rcases zcA p2 with y | y | y
    ·exact .inl y
    ·exfalso
     apply p1
     rw [jbo]
     rw [if_neg (by simp), Jf, if_neg (by rw [hD]; decide), List.tail_cons, Jf, if_pos ⟨z, y⟩]
     rfl
    ·exact .inr (.inl y)
   ·rw [p3, List.append_assoc]
    exact .inr (.inr (zbv d _))
 ·rw [q3, List.append_assoc]
  exact Jcm c _
theorem ZfL {a : List UInt8} (ha : a ≠ []) : jas a ≠ [] := by
 intro z
 have := ZZ ha []
 rw [z] at this
 exact absurd this (by decide)
theorem JfL (e i : Int) (w v : List UInt8) (hw : w ≠ []) : hb (jby e i w ++ v) ≠ 62 := by
 have := Jhh e i w
 obtain ⟨c, w, rfl⟩ := List.exists_cons_of_ne_nil hw
 have hne : jby e i (c :: w) ≠ [] := by
  simp only [jby]
  split
  ·simp
  ·intro z
   have := (List.append_eq_nil_iff.1 z).1
   unfold jcv at this
   cases this
 rw [JfK (by have := List.length_pos_iff.2 hne; omega)]
 exact this
theorem zgP {a : List UInt8} (h : [45, 45].isPrefixOf (jas a) = true) : ∃ r, a = 45 :: 45 :: r ∧ jas a = 45 :: 45 :: jby (Zdl a) (0 + 1 + 1) r := by
 obtain ⟨t, ht⟩ := List.isPrefixOf_iff_prefix.1 h
 cases a with
 | nil => cases ht
 | cons c w =>
  unfold jas at ht ⊢
  have e92 : ∀ (d : UInt8) (r s : List UInt8), jcv d ++ r = 45 :: s → False := fun d r s q => by
   obtain ⟨x, y, hx, _⟩ := zb2 d
   rw [hx] at q
   injection q with q1 q2
   exact absurd q1 (by decide)
  rcases jaD (Zdl (c :: w)) 0 c w with ⟨q1, q2, q3⟩ | ⟨_, q3⟩
  ·rw [q3] at ht ⊢
   simp only [List.cons_append, List.nil_append, List.cons.injEq] at ht
   obtain ⟨rfl, ht⟩ := ht
   cases w with
   | nil => cases ht
   | cons d w =>
    rcases jaD (Zdl (45 :: d :: w)) (0 + 1) d w with ⟨p1, p2, p3⟩ | ⟨_, p3⟩
    ·rw [p3] at ht ⊢
     simp only [List.cons.injEq] at ht
     obtain ⟨rfl, ht⟩ := ht
     exact ⟨w, rfl, rfl⟩
    ·rw [p3] at ht
     exact (e92 _ _ _ ht.symm).elim
  ·rw [q3] at ht
   exact (e92 _ _ _ ht.symm).elim
theorem jeE {a : List UInt8} (ha : a ≠ []) (v : List UInt8) : [45, 45, 62].isPrefixOf (jas a ++ v) = (decide (a = [45, 45]) && decide (hb v = 62)) := by
 have hbp : ∀ x : List UInt8, [45, 45, 62].isPrefixOf x = true ↔ ∃ t, x = 45 :: 45 :: 62 :: t := fun x => by
  rw [List.isPrefixOf_iff_prefix]
  exact ⟨fun ⟨t, q⟩ => ⟨t, q.symm⟩, fun ⟨t, q⟩ => ⟨t, q.symm⟩⟩
 have hz : ∀ x : List UInt8, hb x = 62 ↔ ∃ t, x = 62 :: t := fun x => by
  cases x with
  | nil => simp
  | cons c r =>
   constructor
   ·intro q
    have : c = 62 := UInt8.toNat_inj.mp (by have : (c.toNat : Int) = 62 := q; show c.toNat = 62; omega)
    exact ⟨r, by rw [this]⟩
   ·rintro ⟨t, q⟩
    injection q with q1 q2
    subst q1; rfl
 rw [Bool.eq_iff_iff, Bool.and_eq_true, decide_eq_true_eq, decide_eq_true_eq, hbp]
 constructor
 ·rintro ⟨t, ht⟩
  have hne := ZfL ha
  have h2 : [45, 45].isPrefixOf (jas a) = true ∨ jas a = [45] := by
   match hn : jas a with
   | [] => exact absurd hn hne
   | [x] => right; rw [hn] at ht; injection ht with q1 q2; rw [q1]
   | x :: y :: r =>
    left
    rw [hn] at ht
    injection ht with q1 q2
    injection q2 with q2 q3
    rw [q1, q2]
    rfl
  rcases h2 with h2 | h2
  ·obtain ⟨r, rfl, hn⟩ := zgP h2
   rw [hn] at ht
   simp only [List.cons_append, List.cons.injEq, true_and] at ht
   cases r with
   | nil => exact ⟨rfl, (hz v).2 ⟨t, by simpa [jby] using ht⟩⟩
   | cons c r =>
    exfalso
    have := JfL (Zdl (45 :: 45 :: c :: r)) (0 + 1 + 1) (c :: r) v (by simp)
    rw [ht] at this
    exact this rfl
  ·exfalso
   have := ZZ ha []
   rw [h2] at this
   exact absurd this (by decide)
 ·rintro ⟨rfl, h⟩
  obtain ⟨t, rfl⟩ := (hz v).1 h
  exact ⟨t, by rfl⟩
theorem Zee {x : List UInt8} (h : ZK x = true) : hb x ≠ 47 ∧ hb x ≠ 60 ∧ hb x ≠ 35 ∧ hb x ≠ 64 ∧ hb x ≠ 34 ∧ hb x ≠ 39 ∧ hb x ≠ 10 ∧ hb x ≠ 9 ∧ hb x ≠ 32 := by
 rcases jcA h with q | q | ⟨q, _⟩
 ·have := jdm q; omega
 ·omega
 ·omega
theorem zfM {x : List UInt8} (h : ZK x = true) (hc : [45, 45, 62].isPrefixOf x = false) : ZN x = jaV x := by
 have hf := Zee h
 unfold ZN
 rw [if_neg (by unfold mSp; simp; omega), if_neg (by unfold mQ; simp; omega), if_neg (fun z => hf.2.2.1 z.1)]
 unfold Je9
 rw [jfL h, if_neg (by decide), hc, if_neg (by decide), if_neg (fun z => hf.2.1 (Jc0 z))]
 unfold JfV
 rw [if_neg (fun z => hf.2.2.2.1 z.1)]
 unfold Jga
 rw [h, if_pos rfl]
theorem jgP {x : List UInt8} (h : [45, 45, 62].isPrefixOf x = true) : ZN x = (tk 15, 3) := by
 obtain ⟨t, rfl⟩ := List.isPrefixOf_iff_prefix.1 h
 have hn : Zbm ([45, 45, 62] ++ t) = false := rfl
 unfold ZN
 rw [if_neg (by show ¬ mSp 45 = true; decide), if_neg (by show ¬ mQ 45 = true; decide), if_neg (by show ¬ ((45 : Int) = 35 ∧ _); exact fun z => absurd z.1 (by decide))]
 unfold Je9
 rw [hn, if_neg (by decide), h, if_pos rfl]
theorem jfM {a : List UInt8} (ha : a ≠ []) (h0 : (0 : UInt8) ∉ a) {v : List UInt8} (hc : ¬ (a = [45, 45] ∧ hb v = 62)) : ZN (jas a ++ v) = jaV (jas a ++ v) := by
 refine zfM (ZZ ha v) ?_
 rw [jeE ha]
 by_cases q : a = [45, 45]
 ·rw [decide_eq_false (fun z => hc ⟨q, z⟩), Bool.and_false]
 ·rw [decide_eq_false q, Bool.false_and]
theorem Jee {a : List UInt8} (h0 : (0 : UInt8) ∉ a) (v : List UInt8) (hg : j4 v = false) : jaV (jas a ++ v) = if hb v ≠ 40 then (tk 1 a, (jas a).length) else if zad a [117, 114, 108] && !mQ (hb (v.tail.drop (nSp v.tail))) then ((ZX v.tail).1, (jas a).length + 1 + (ZX v.tail).2) else (tk 2 a, (jas a).length + 1) := by
 unfold jaV
 simp only [zdL h0, jbv hg, List.append_nil, Nat.add_zero, List.drop_left]
def ZeE (a v : List UInt8) : Prop := j4 v = false ∧ hb v ≠ 40 ∧ ¬ (a = [45, 45] ∧ hb v = 62)
theorem ZfM {a v : List UInt8} (ha : a ≠ []) (h0 : (0 : UInt8) ∉ a) (h : ZeE a v) : ZN (jas a ++ v) = (tk 1 a, (jas a).length) := by
 rw [jfM ha h0 h.2.2, Jee h0 v h.1, if_pos h.2.1]
def zhC (a v : List UInt8) : Prop := zad a [117, 114, 108] = true → mQ (hb (v.drop (nSp v))) = true
theorem JfM {a : List UInt8} (ha : a ≠ []) (h0 : (0 : UInt8) ∉ a) (v : List UInt8) : ZN (jas a ++ 40 :: v) = if zad a [117, 114, 108] && !mQ (hb (v.drop (nSp v))) then ((ZX v).1, (jas a).length + 1 + (ZX v).2) else (tk 2 a, (jas a).length + 1) := by
 have hg : j4 (40 :: v) = false := by unfold j4 zbL; rfl
 rw [jfM ha h0 (fun z => absurd z.2 (by show ¬ ((40 : Int) = 62); decide)), Jee h0 _ hg, if_neg (fun z => z rfl), List.tail_cons]
theorem ZgP {a v : List UInt8} (ha : a ≠ []) (h0 : (0 : UInt8) ∉ a) (h : zhC a v) : ZN (jas a ++ 40 :: v) = (tk 2 a, (jas a).length + 1) := by
 rw [JfM ha h0, if_neg]
 intro q
 rw [Bool.and_eq_true, Bool.not_eq_true'] at q
 rw [h q.1] at q
 cases q.2
theorem zhi {a : List UInt8} (ha : a ≠ []) (h0 : (0 : UInt8) ∉ a) (v : List UInt8) : ZN (64 :: (jas a ++ v)) = (tk 3 (a ++ (Jn v).1), 1 + ((jas a).length + (Jn v).2)) := by
 have hs := ZZ ha v
 unfold ZN
 rw [if_neg (by show ¬ mSp 64 = true; decide), if_neg (by show ¬ mQ 64 = true; decide), if_neg (fun z => absurd z.1 (by show ¬ ((64 : Int) = 35); decide))]
 unfold Je9
 have hn : Zbm (64 :: (jas a ++ v)) = false := by
  unfold Zbm jar
  simp only [Jf, List.tail_cons]
  rfl
 rw [hn, if_neg (by decide), if_neg (fun z => absurd (Jc0 z) (by show ¬ ((64 : Int) = 45); decide)), if_neg (fun z => absurd (Jc0 z) (by show ¬ ((64 : Int) = 60); decide))]
 unfold JfV
 rw [if_pos ⟨rfl, by rw [List.tail_cons]; exact hs⟩, List.tail_cons, zdL h0]
theorem jhi {a v : List UInt8} (ha : a ≠ []) (h0 : (0 : UInt8) ∉ a) (h : j4 v = false) : ZN (64 :: (jas a ++ v)) = (tk 3 a, (64 :: jas a).length) := by
 rw [zhi ha h0, jbv h, List.append_nil, List.length_cons, Nat.add_zero, Nat.add_comm]
end Go.Proofs.YtbpbaicbaehhjaaGreatDoor
set_option linter.unusedVariables false
set_option linter.unusedSimpArgs false
namespace Go.Proofs.YtbpbaicbaehhjaaGreatDoor
open Go.Vm Go.Sx Go.RowKit
theorem Zhi {w : List UInt8} (h : ZK w = true) : j4 w = true := by
 unfold j4
 rcases jcA h with q | q | ⟨q, _⟩
 ·unfold mN; rw [q]; rfl
 ·unfold ZK at h
  rw [if_pos (by omega)] at h
  unfold mN
  rcases Bool.or_eq_true _ _ |>.mp h with z | z
  ·rw [z]; rfl
  ·rw [z, Bool.or_true]
 ·unfold mN; rw [q]; simp
theorem Jch (c : UInt8) (w : List UInt8) : ZK (c :: w) = if (c.toNat : Int) ≠ 45 then mN0 (c.toNat : Int) || zbL (c :: w) else mN0 (hb w) || (decide (hb w = 45) || zbL w) := rfl
theorem zci (c : UInt8) (w : List UInt8) : j4 (c :: w) = (mN (c.toNat : Int) || zbL (c :: w)) := rfl
theorem zef (c : UInt8) (w : List UInt8) : zbL (c :: w) = (decide ((c.toNat : Int) = 92) && decide (hb w ≠ 10)) := rfl
theorem Zgi {v : List UInt8} (h : j4 v = false) : mN (hb v) = false ∧ zbL v = false := by unfold j4 at h; simpa using h
theorem Jgi {c : Int} (h : mN c = false) : mN0 c = false ∧ mD c = false ∧ c ≠ 45 := by unfold mN at h; simpa using h
theorem zfc {t v : List UInt8} (ho : Zdl t ≠ -1) (hg : j4 v = false) : ZK (jby (-1) 0 t ++ v) = false ∧ j4 (jby (-1) 0 t ++ v) = true := by
 obtain ⟨s1, s2⟩ := Zgi hg
 obtain ⟨s3, s4, s5⟩ := Jgi s1
 have raw : ∀ (c : UInt8) (w : List UInt8) (i : Int), 0 ≤ i → mN (c.toNat : Int) = true → jby (-1) i (c :: w) = c :: jby (-1) (i + 1) w := fun c w i hi hc => by
  simp only [jby]
  rw [if_pos ⟨by omega, hc⟩]
  rfl
 rw [jbo] at ho
 split at ho
 ·rename_i h
  subst h
  rw [raw 45 [] 0 (by decide) (by decide)]
  simp only [jby, List.singleton_append]
  rw [Jch, zci, if_neg (by decide), s3, decide_eq_false s5, s2]
  exact ⟨rfl, by rw [show mN ((45 : UInt8).toNat : Int) = true from by decide]; rfl⟩
 ·split at ho
  ·rename_i h
   cases t with
   | nil => exact absurd h (by decide)
   | cons c w =>
    have hc : mD (c.toNat : Int) = true := h
    have hm : mN (c.toNat : Int) = true := by unfold mN; rw [hc]; simp
    rw [raw c w 0 (by decide) hm, List.cons_append]
    unfold mD at hc
    simp only [Bool.and_eq_true, decide_eq_true_eq] at hc
    have : mN0 (c.toNat : Int) = false := by unfold mN0 mL; simp; omega
    rw [Jch, zci, zef, if_pos (by omega), hm, this, decide_eq_false (by omega : ¬ (c.toNat : Int) = 92)]
    exact ⟨rfl, rfl⟩
  ·split at ho
   ·rename_i h
    match t, h with
    | [], h => exact absurd h.1 (by decide)
    | [c], h => exact absurd h.2 (by show ¬ mD 0 = true; decide)
    | c :: d :: w, h =>
     have hc : (c.toNat : Int) = 45 := h.1
     have hd : mD (d.toNat : Int) = true := h.2
     have hmc : mN (c.toNat : Int) = true := by rw [hc]; decide
     have hmd : mN (d.toNat : Int) = true := by unfold mN; rw [hd]; simp
     rw [raw c _ 0 (by decide) hmc, raw d w (0 + 1) (by decide) hmd]
     unfold mD at hd
     simp only [Bool.and_eq_true, decide_eq_true_eq] at hd
     have h0 : mN0 (d.toNat : Int) = false := by unfold mN0 mL; simp; omega
     rw [List.cons_append, List.cons_append, Jch, zci, hmc, if_neg (by omega), zef d, Jf, h0, decide_eq_false (by omega : ¬ (d.toNat : Int) = 45), decide_eq_false (by omega : ¬ (d.toNat : Int) = 92)]
     exact ⟨rfl, rfl⟩
   ·exact absurd rfl ho
theorem zgj {t v : List UInt8} {f : Bool} (ht : t ≠ []) (h0 : (0 : UInt8) ∉ t) (hf : f = true ∨ Zdl t ≠ -1) (hg2 : f = false → j4 v = false) :
  ∃ b, ZN (JeD t f ++ v) = (tk 4 (t ++ (Jn v).1) 0 [] b, (JeD t f).length + (Jn v).2) ∧ (j4 v = false ∨ f = true → b = f) := by
 cases f with
 | true =>
  have hs := ZZ ht v
  refine ⟨true, ?_, fun _ => rfl⟩
  show ZN (35 :: (jas t ++ v)) = _
  unfold ZN
  rw [if_neg (by show ¬ mSp 35 = true; decide), if_neg (by show ¬ mQ 35 = true; decide), if_pos ⟨rfl, by rw [List.tail_cons]; exact Zhi hs⟩, List.tail_cons, zdL h0, hs]
  refine Prod.ext rfl ?_
  show 1 + ((jas t).length + (Jn v).2) = (35 :: jas t).length + (Jn v).2
  rw [List.length_cons]; omega
 | false =>
  have hg := hg2 rfl
  obtain ⟨q1, q2⟩ := zfc (hf.resolve_left (by decide)) hg
  refine ⟨false, ?_, fun _ => rfl⟩
  show ZN (35 :: (jby (-1) 0 t ++ v)) = _
  unfold ZN
  rw [if_neg (by show ¬ mSp 35 = true; decide), if_neg (by show ¬ mQ 35 = true; decide), if_pos ⟨rfl, by rw [List.tail_cons]; exact q2⟩, List.tail_cons, JdK (-1) t 0 v h0 (Ja6 _ _ _ (by decide)), q1]
  refine Prod.ext rfl ?_
  show 1 + ((jby (-1) 0 t).length + (Jn v).2) = (35 :: jby (-1) 0 t).length + (Jn v).2
  rw [List.length_cons]; omega
theorem jgj {t v : List UInt8} {f : Bool} (ht : t ≠ []) (h0 : (0 : UInt8) ∉ t) (hf : f = true ∨ Zdl t ≠ -1) (hg : j4 v = false) : ZN (JeD t f ++ v) = (tk 4 t 0 [] f, (JeD t f).length) := by
 obtain ⟨b, h1, h2⟩ := zgj ht h0 hf (fun _ => hg)
 rw [h1, h2 (.inl hg), jbv hg, List.append_nil, Nat.add_zero]
theorem Jdp : ∀ (t v : List UInt8), (0 : UInt8) ∉ t → strM 34 (Jdl t ++ 34 :: v) = (true, t, (Jdl t).length + 1)
 | [], v, _ => by
  show strM 34 (34 :: v) = _
  rw [strM.eq_def 34 (34 :: v)]
  dsimp only
  rw [if_pos (by decide)]
  rfl
 | c :: t, v, h0 => by
  have h0' : (0 : UInt8) ∉ t := fun z => h0 (List.mem_cons_of_mem _ z)
  have hc : c ≠ 0 := fun z => h0 (by rw [z]; exact List.mem_cons_self ..)
  have ih := Jdp t v h0'
  simp only [Jdl]
  by_cases q : c ∈ [10, 12, 13, 34, 92]
  ·rw [if_pos q]
   have h128 : (c.toNat : Int) < 128 := by
    simp only [List.mem_cons, List.not_mem_nil, or_false] at q
    rcases q with rfl | rfl | rfl | rfl | rfl <;> decide
   obtain ⟨d, r, he, hd⟩ := zb2 c
   have hr := ZdK c hc h128 (Jdl t ++ 34 :: v)
   rw [he] at hr ⊢
   simp only [List.tail_cons, List.cons_append, List.append_assoc] at hr ⊢
   rw [strM.eq_def 34 (92 :: d :: (r ++ (Jdl t ++ 34 :: v)))]
   dsimp only
   rw [if_neg (by decide), if_neg (by decide), if_neg (by simp), if_neg hd, hr]
   have hdrop : (d :: (r ++ (Jdl t ++ 34 :: v))).drop ((92 :: d :: r).length - 1) = Jdl t ++ 34 :: v := by
    have : (92 :: d :: r).length - 1 = (d :: r).length := by simp
    rw [this, ← List.cons_append, List.drop_left]
   rw [hdrop, ih]
   refine Prod.ext rfl (Prod.ext rfl ?_)
   simp only [List.length_cons, List.length_append]
   omega
  ·rw [if_neg q]
   simp only [List.mem_cons, List.not_mem_nil, or_false, not_or] at q
   have hne : ∀ k : UInt8, c ≠ k → ¬ (c.toNat : Int) = (k.toNat : Int) := fun k h z => h (UInt8.toNat_inj.mp (by omega))
   rw [List.singleton_append, List.cons_append, strM.eq_def 34 (c :: (Jdl t ++ 34 :: v))]
   dsimp only
   have g1 : ¬ (c.toNat : Int) = 34 := hne 34 q.2.2.2.1
   have g2 : ¬ (c.toNat : Int) = 10 := hne 10 q.1
   have g3 : ¬ (c.toNat : Int) = 92 := hne 92 q.2.2.2.2
   rw [if_neg g1, if_neg g2, if_pos g3, ih]
   refine Prod.ext rfl (Prod.ext rfl ?_)
   simp only [List.length_cons]
   omega
theorem JgP {t v : List UInt8} (h0 : (0 : UInt8) ∉ t) : ZN (34 :: (Jdl t ++ [34]) ++ v) = (tk 5 t, (34 :: (Jdl t ++ [34])).length) := by
 have e : 34 :: (Jdl t ++ [34]) ++ v = 34 :: (Jdl t ++ 34 :: v) := by simp
 rw [e]
 unfold ZN
 rw [if_neg (by show ¬ mSp 34 = true; decide), if_pos (by show mQ 34 = true; decide)]
 show ((if (strM 34 (Jdl t ++ 34 :: v)).1 = true then tk 5 (strM 34 (Jdl t ++ 34 :: v)).2.1 else tk 6), 1 + (strM 34 (Jdl t ++ 34 :: v)).2.2) = _
 rw [Jdp t v h0, if_pos rfl]
 refine Prod.ext rfl ?_
 simp only [List.length_cons, List.length_append, List.length_nil]
 omega
theorem zfN : ∀ (t v : List UInt8), (0 : UInt8) ∉ t → jbL (Jc2 t ++ 41 :: v) = (t, (Jc2 t).length)
 | [], v, _ => by
  show jbL (41 :: v) = _
  rw [jbL]
  rw [if_pos (by decide)]
  rfl
 | c :: t, v, h0 => by
  have h0' : (0 : UInt8) ∉ t := fun z => h0 (List.mem_cons_of_mem _ z)
  have hc : c ≠ 0 := fun z => h0 (by rw [z]; exact List.mem_cons_self ..)
  have ih := zfN t v h0'
  simp only [Jc2]
  by_cases q : c.toNat ≤ 32 ∨ c ∈ [34, 39, 40, 41, 92, 127]
  ·rw [if_pos q]
   have h128 : (c.toNat : Int) < 128 := by
    rcases q with q | q
    ·omega
    ·simp only [List.mem_cons, List.not_mem_nil, or_false] at q
     rcases q with rfl | rfl | rfl | rfl | rfl | rfl <;> decide
   obtain ⟨d, r, he, hd⟩ := zb2 c
   have hr := ZdK c hc h128 (Jc2 t ++ 41 :: v)
   have hs := zbv c (Jc2 t ++ 41 :: v)
   rw [he] at hr hs ⊢
   simp only [List.tail_cons, List.cons_append, List.append_assoc] at hr hs ⊢
   rw [jbL]
   rw [if_neg (by decide), if_neg (by decide), if_pos hs, hr]
   have hdrop : (d :: (r ++ (Jc2 t ++ 41 :: v))).drop ((92 :: d :: r).length - 1) = Jc2 t ++ 41 :: v := by
    have : (92 :: d :: r).length - 1 = (d :: r).length := by simp
    rw [this, ← List.cons_append, List.drop_left]
   simp only
   rw [hdrop, ih]
   refine Prod.ext rfl ?_
   simp only [List.length_cons, List.length_append]
   omega
  ·rw [if_neg q]
   simp only [List.mem_cons, List.not_mem_nil, or_false, not_or] at q
   have hne : ∀ k : UInt8, c ≠ k → ¬ (c.toNat : Int) = (k.toNat : Int) := fun k h z => h (UInt8.toNat_inj.mp (by omega))
   have h1 := hne 34 q.2.1
   have h2 := hne 39 q.2.2.1
   have h3 := hne 40 q.2.2.2.1
   have h4 := hne 41 q.2.2.2.2.1
   have h5 := hne 92 q.2.2.2.2.2.1
   have h6 := hne 127 q.2.2.2.2.2.2
   have h7 := q.1
   have e34 : ((34 : UInt8).toNat : Int) = 34 := rfl
   have e39 : ((39 : UInt8).toNat : Int) = 39 := rfl
   have e40 : ((40 : UInt8).toNat : Int) = 40 := rfl
   have e41 : ((41 : UInt8).toNat : Int) = 41 := rfl
   have e92 : ((92 : UInt8).toNat : Int) = 92 := rfl
   have e127 : ((127 : UInt8).toNat : Int) = 127 := rfl
   have hsp : mSp (c.toNat : Int) = false := by unfold mSp; simp; omega
   have hes : zbL (c :: (Jc2 t ++ 41 :: v)) = false := by unfold zbL; rw [Jf, decide_eq_false (by omega)]; rfl
   have hspo : zdk (c.toNat : Int) = false := by unfold zdk; simp; omega
   rw [List.singleton_append, List.cons_append, jbL]
   rw [if_neg (by omega), hsp, if_neg (by decide), hes, if_neg (by decide), hspo, if_neg (by decide), ih]
   refine Prod.ext rfl ?_
   simp only [List.length_cons]
   omega
theorem jfN (t v : List UInt8) : mSp (hb (Jc2 t ++ 41 :: v)) = false ∧ mQ (hb (Jc2 t ++ 41 :: v)) = false := by
 cases t with
 | nil => exact ⟨by show mSp 41 = false; decide, by show mQ 41 = false; decide⟩
 | cons c t =>
  simp only [Jc2]
  by_cases q : c.toNat ≤ 32 ∨ c ∈ [34, 39, 40, 41, 92, 127]
  ·rw [if_pos q]
   obtain ⟨d, r, he, hd⟩ := zb2 c
   rw [he]
   exact ⟨by show mSp 92 = false; decide, by show mQ 92 = false; decide⟩
  ·rw [if_neg q]
   simp only [List.mem_cons, List.not_mem_nil, or_false, not_or] at q
   have hne : ∀ k : UInt8, c ≠ k → ¬ (c.toNat : Int) = (k.toNat : Int) := fun k h z => h (UInt8.toNat_inj.mp (by omega))
   have h1 : ¬ (c.toNat : Int) = 34 := hne 34 q.2.1
   have h2 : ¬ (c.toNat : Int) = 39 := hne 39 q.2.2.1
   have h7 := q.1
   rw [List.singleton_append, List.cons_append, Jf]
   exact ⟨by unfold mSp; simp; omega, by unfold mQ; simp; omega⟩
theorem zgQ {t v : List UInt8} (h0 : (0 : UInt8) ∉ t) : ZN ([117, 114, 108, 40] ++ (Jc2 t ++ [41]) ++ v) = (tk 7 t, ([117, 114, 108, 40] ++ (Jc2 t ++ [41])).length) := by
 have e : [117, 114, 108, 40] ++ (Jc2 t ++ [41]) ++ v = jas [117, 114, 108] ++ 40 :: (Jc2 t ++ 41 :: v) := by
  have : jas [117, 114, 108] = [117, 114, 108] := by decide
  rw [this]
  simp
 obtain ⟨f1, f2⟩ := jfN t v
 have hn : nSp (Jc2 t ++ 41 :: v) = 0 := by
  cases hx : Jc2 t ++ 41 :: v with
  | nil => rfl
  | cons c w => rw [hx, Jf] at f1; simp only [nSp]; rw [f1]; rfl
 rw [e, JfM (by simp) (by decide), hn, List.drop_zero, f2, if_pos (by decide)]
 have hr : ZX (Jc2 t ++ 41 :: v) = (tk 7 t, (Jc2 t).length + 1) := by
  unfold ZX
  simp only [hn, List.drop_zero, zfN t v h0, Nat.zero_add, List.drop_left]
  rw [if_neg (by simp), if_pos (by rfl)]
 rw [hr]
 refine Prod.ext rfl ?_
 have : (jas [117, 114, 108]).length = 3 := by decide
 simp only [this, List.length_cons, List.length_append, List.length_nil]
theorem Jhi (c : UInt8) (hc : c = 32 ∨ c = 10) (v : List UInt8) : ZN (c :: v) = (tk 13, 1 + nSp v) := by
 unfold ZN
 rcases hc with rfl | rfl
 ·rw [if_pos (by show mSp 32 = true; decide)]
  simp only [nSp]
  rw [if_pos (by decide), Nat.add_comm]
 ·rw [if_pos (by show mSp 10 = true; decide)]
  simp only [nSp]
  rw [if_pos (by decide), Nat.add_comm]
theorem jgQ (v : List UInt8) : ZN ([60, 33, 45, 45] ++ v) = (tk 14, 4) := by
 have hn : Zbm ([60, 33, 45, 45] ++ v) = false := rfl
 unfold ZN
 rw [if_neg (by show ¬ mSp 60 = true; decide), if_neg (by show ¬ mQ 60 = true; decide), if_neg (fun z => absurd z.1 (by show ¬ ((60 : Int) = 35); decide))]
 unfold Je9
 rw [hn, if_neg (by decide), if_neg (by show ¬ ([45, 45, 62].isPrefixOf (60 :: _) = true); simp [List.isPrefixOf]), if_pos (by simp [List.isPrefixOf])]
theorem ZfN {c : UInt8} {v : List UInt8} (h1 : mSp (c.toNat : Int) = false) (h2 : mQ (c.toNat : Int) = false) (h3 : ¬ ((c.toNat : Int) = 35 ∧ j4 v = true)) (h4 : Zbm (c :: v) = false) (h5 : [45, 45, 62].isPrefixOf (c :: v) = false) (h6 : [60, 33, 45, 45].isPrefixOf (c :: v) = false) (h7 : ¬ ((c.toNat : Int) = 64 ∧ ZK v = true)) (h8 : ZK (c :: v) = false) :
  ZN (c :: v) = if jcY (c.toNat : Int) ≠ 0 then (tk (jcY (c.toNat : Int)), 1) else (tk 9 [c], 1) := by
 unfold ZN
 rw [Jf, h1, if_neg (by decide), h2, if_neg (by decide), List.tail_cons, if_neg h3]
 unfold Je9
 rw [h4, if_neg (by decide), h5, if_neg (by decide), h6, if_neg (by decide)]
 unfold JfV
 rw [Jf, List.tail_cons, if_neg h7]
 unfold Jga
 rw [h8, if_neg (by decide)]
 rfl
end Go.Proofs.YtbpbaicbaehhjaaGreatDoor
set_option linter.unusedVariables false
set_option linter.unusedSimpArgs false
namespace Go.Proofs.YtbpbaicbaehhjaaGreatDoor
open Go.Vm Go.Sx Go.RowKit
def ZgQ (v : List UInt8) : Bool := mE (hb v) && Zg9 v.tail
theorem jef {v : List UInt8} (h : ZgQ v = false) : Ja9 v = (0, 0) := by
 unfold ZgQ at h
 unfold Ja9
 rw [if_neg (by rw [h]; decide)]
def Zgj (c : UInt8) (v : List UInt8) : Prop :=
 ¬ ((c.toNat : Int) = 35 ∧ j4 v = true) ∧ Zbm (c :: v) = false ∧ [45, 45, 62].isPrefixOf (c :: v) = false ∧ [60, 33, 45, 45].isPrefixOf (c :: v) = false ∧
 ¬ ((c.toNat : Int) = 64 ∧ ZK v = true) ∧ ZK (c :: v) = false ∧ ¬ ((c.toNat : Int) = 47 ∧ hb v = 42)
theorem JgQ (c : UInt8) (h : c ∉ marksT) : jcY (c.toNat : Int) = 0 := by
 have key : ∀ n : Nat, n < 126 → UInt8.ofNat n ∉ marksT → marksA.getD n 0 = 0 := by decide +kernel
 unfold jcY
 split
 ·rename_i q
  have := key c.toNat (by omega) (by rw [UInt8.ofNat_toNat]; exact h)
  rw [Int.toNat_natCast]
  exact this
 ·rfl
structure DelOK (c : UInt8) : Prop where
 sp : mSp (c.toNat : Int) = false
 q : mQ (c.toNat : Int) = false
 n0 : mN0 (c.toNat : Int) = false
 d : mD (c.toNat : Int) = false
 nm : c ∉ marksT
 z : c ≠ 12 ∧ c ≠ 13
theorem zgR {c : UInt8} {v : List UInt8} (hc : DelOK c) (h : Zgj c v) : ZN (c :: v) = (tk 9 [c], 1) := by
 obtain ⟨h1, h2, h3, h4, h5, h6, h7⟩ := h
 rw [ZfN hc.sp hc.q h1 h2 h3 h4 h5 h6, JgQ c hc.nm, if_neg (by decide)]
theorem Zbv {w : List UInt8} (h : ¬ (hb w = 47 ∧ hb w.tail = 42)) : zav w = 0 := by
 unfold zav
 rw [if_neg]
 intro z
 apply h
 rcases w with _ | ⟨a, _ | ⟨b, r⟩⟩
 ·cases z
 ·simp [List.isPrefixOf] at z
 ·simp only [List.isPrefixOf, Bool.and_eq_true, beq_iff_eq] at z
  obtain ⟨rfl, rfl, -⟩ := z
  exact ⟨rfl, rfl⟩
theorem Jgj {k : Int} (hk : 16 ≤ k ∧ k ≤ 24) (v : List UInt8) : ZN ([marksT.getD (k - 16).toNat 0] ++ v) = (tk k, 1) := by
 obtain ⟨n, rfl⟩ : ∃ n : Nat, k = 16 + (n : Int) := ⟨(k - 16).toNat, by omega⟩
 have hn : n < 9 := by omega
 have key : ∀ n : Nat, n < 9 → (let c := marksT.getD n 0; mSp (c.toNat : Int) = false ∧ mQ (c.toNat : Int) = false ∧ mSg (c.toNat : Int) = false ∧ mD (c.toNat : Int) = false ∧ mN0 (c.toNat : Int) = false ∧ jcY (c.toNat : Int) = 16 + (n : Int) ∧ c ≠ 35 ∧ c ≠ 64 ∧ c ≠ 45 ∧ c ≠ 60 ∧ c ≠ 92 ∧ c ≠ 46) := by decide +kernel
 obtain ⟨k1, k2, k3, k4, k5, k6, k7, k8, k9, k10, k11, k12⟩ := key n hn
 rw [show (16 + (n : Int) - 16).toNat = n by omega]
 generalize marksT.getD n 0 = c at *
 have hne : ∀ j : UInt8, c ≠ j → ¬ (c.toNat : Int) = (j.toNat : Int) := fun j h z => h (UInt8.toNat_inj.mp (by omega))
 have e35 : ¬ (c.toNat : Int) = 35 := hne 35 k7
 have e64 : ¬ (c.toNat : Int) = 64 := hne 64 k8
 have e45 : ¬ (c.toNat : Int) = 45 := hne 45 k9
 have e92 : ¬ (c.toNat : Int) = 92 := hne 92 k11
 have e46 : ¬ (c.toNat : Int) = 46 := hne 46 k12
 rw [List.singleton_append, ZfN k1 k2 (fun z => e35 z.1) ?_ ?_ ?_ (fun z => e64 z.1) ?_, k6, if_pos (by omega)]
 ·simp only [Zbm, Jf, k3, jar, k4, e46]; simp
 ·simp only [List.isPrefixOf]
  rw [show ((45 : UInt8) == c) = false from by rw [beq_eq_false_iff_ne]; exact Ne.symm k9]; rfl
 ·simp only [List.isPrefixOf]
  rw [show ((60 : UInt8) == c) = false from by rw [beq_eq_false_iff_ne]; exact Ne.symm k10]; rfl
 ·simp only [ZK, Jf, k5, zbL, e92]; simp; exact fun z => absurd z e45
theorem jgR (v : List UInt8) : ZN ([45, 45, 62] ++ v) = (tk 15, 3) := jgP (by simp [List.isPrefixOf])
end Go.Proofs.YtbpbaicbaehhjaaGreatDoor
set_option linter.unusedVariables false
set_option linter.unusedSimpArgs false
namespace Go.Proofs.YtbpbaicbaehhjaaGreatDoor.I
open Go.Vm Go.Sx Go.RowKit
def AllDg (w : List UInt8) : Prop := ∀ b, b ∈ w → mD (b.toNat : Int) = true
theorem digs_pos {c : UInt8} {w : List UInt8} (h : mD (c.toNat : Int) = true) : JI (c :: w) = c :: JI w := by unfold JI; rw [List.takeWhile_cons, if_pos h]
theorem digs_neg {c : UInt8} {w : List UInt8} (h : mD (c.toNat : Int) = false) : JI (c :: w) = [] := by unfold JI; rw [List.takeWhile_cons, if_neg (by rw [h]; decide)]
theorem zeros0_len (w : List UInt8) : (Zy w).length ≤ w.length := (List.dropWhile_sublist _).length_le
theorem fr3_len : ∀ k r, (fr3 k r).length ≤ k
 | 0, _ => Nat.le_refl _
 | k + 1, r => by
  simp only [fr3, List.length_cons]
  split
  ·simp
  ·have := fr3_len k (r * 10 % 1000); omega
theorem ZgR {a : Nat} (h : a ≤ 1000000000) : (Lib.decDigits a).length ≤ 10 := by
 rw [Lib.decDigits_length]
 have h10 : ∀ k u, u < 10 ^ (k + 1) → Lib.nDigits u ≤ k + 1 := by
  intro k
  induction k with
  | zero => intro u hu; rw [Lib.nDigits_small (by simpa using hu)]; omega
  | succ k ih =>
   intro u hu
   by_cases q : u < 10
   ·rw [Lib.nDigits_small q]; omega
   ·rw [Lib.nDigits_big q]
    have := ih (u / 10) (by rw [Nat.pow_succ] at hu; omega)
    omega
 exact h10 9 a (by omega)
theorem tm {x : Int} {y : Nat} (h : x = (y : Int)) (k : Nat) : x.tmod (k : Int) = ((y % k : Nat) : Int) := by
 subst h
 rw [Int.tmod_eq_emod_of_nonneg (by omega)]
 omega
def dvG (a : Int) (c : UInt8) : Int := a * 10 + ((c.toNat : Int) - 48)
def dv (w : List UInt8) : Int := w.foldl dvG 0
theorem JeE : ∀ (w : List UInt8) (a : Int), w.foldl dvG a = a * 10 ^ w.length + dv w
 | [], a => by simp [dv]
 | c :: w, a => by
  have h1 := JeE w (dvG a c)
  have h2 := JeE w (dvG 0 c)
  show w.foldl dvG (dvG a c) = _
  rw [h1]
  show _ = a * 10 ^ (w.length + 1) + w.foldl dvG (dvG 0 c)
  rw [h2, Int.pow_succ]
  unfold dvG
  rw [Int.add_mul, Int.add_mul, Int.mul_assoc, Int.mul_comm 10]
  omega
theorem Zgv (u v : List UInt8) : dv (u ++ v) = dv u * 10 ^ v.length + dv v := by
 unfold dv
 rw [List.foldl_append]
 exact JeE v _
theorem Zdm : ∀ (k : Nat) (a : Int), zaD k [] a = a * 10 ^ k
 | 0, a => by simp [zaD]
 | k + 1, a => by rw [zaD, Zdm k, Int.mul_assoc, Int.pow_succ, Int.mul_comm (10 ^ k)]
theorem Jdm : ∀ (w : List UInt8) (k : Nat) (a : Int), zaD (w.length + k) w a = w.foldl dvG a * 10 ^ k
 | [], k, a => by rw [List.length_nil, Nat.zero_add]; exact Zdm k a
 | c :: w, k, a => by
  rw [List.length_cons, show w.length + 1 + k = (w.length + k) + 1 from by omega]
  exact Jdm w k _
theorem JeS : ∀ w : List UInt8, dv (Zy w) = dv w
 | [] => rfl
 | c :: w => by
  unfold Zy
  rw [List.dropWhile_cons]
  split
  ·rename_i h
   have e : c = 48 := eq_of_beq h
   subst e
   exact JeS w
  ·rfl
theorem dec_ok (a : Nat) : AllDg (Lib.decDigits a) ∧ Lib.decDigits a ≠ [] ∧ dv (Lib.decDigits a) = a := by
 induction a using Nat.strongRecOn with
 | _ a ih =>
  have one : ∀ d, d < 10 → mD ((UInt8.ofNat (48 + d)).toNat : Int) = true ∧ ((UInt8.ofNat (48 + d)).toNat : Int) - 48 = d := by
   intro d hd
   have : (UInt8.ofNat (48 + d)).toNat = 48 + d := by rw [UInt8.toNat_ofNat']; omega
   rw [this]
   refine ⟨?_, by omega⟩
   unfold mD
   simp
   omega
  by_cases h : a < 10
  ·rw [Lib.decDigits_one h]
   refine ⟨fun b hb => ?_, by simp, ?_⟩
   ·rw [List.mem_singleton] at hb
    subst hb
    exact (one a h).1
   ·show dvG 0 _ = _
    unfold dvG
    have := (one a h).2
    omega
  ·rw [Lib.decDigits, dif_neg h]
   obtain ⟨h1, h2, h3⟩ := ih (a / 10) (by omega)
   refine ⟨fun b hb => ?_, by simp, ?_⟩
   ·rcases List.mem_append.1 hb with q | q
    ·exact h1 b q
    ·rw [List.mem_singleton] at q
     subst q
     exact (one _ (Nat.mod_lt _ (by decide))).1
   ·rw [Zgv, h3]
    have := (one (a % 10) (Nat.mod_lt _ (by decide))).2
    show _ + dvG 0 _ = _
    unfold dvG
    simp only [List.length_cons, List.length_nil]
    omega
def frB (r : Nat) : Bool := (fr3 3 r).all (fun c => mD (c.toNat : Int)) && (!(fr3 3 r).isEmpty && (decide (dv (fr3 3 r) * 10 ^ (3 - (fr3 3 r).length) = (r : Int)) && (!((fr3 3 r).getLast? == some 48) || decide ((fr3 3 r).length = 1))))
theorem JgR : (List.range 1000).all frB = true := by decide +kernel
theorem fr_ok {r : Nat} (h : r < 1000) : AllDg (fr3 3 r) ∧ fr3 3 r ≠ [] ∧ dv (fr3 3 r) * 10 ^ (3 - (fr3 3 r).length) = (r : Int) ∧ ((fr3 3 r).getLast? ≠ some 48 ∨ (fr3 3 r).length = 1) := by
 have := List.all_eq_true.1 JgR r (List.mem_range.2 h)
 unfold frB at this
 simp only [Bool.and_eq_true, Bool.or_eq_true, Bool.not_eq_true', decide_eq_true_eq, List.all_eq_true] at this
 obtain ⟨h1, h2, h3, h4⟩ := this
 refine ⟨h1, fun q => (by rw [q] at h2; cases h2), h3, h4.imp (fun q z => ?_) id⟩
 rw [z] at q
 simp at q
theorem Jcz {D rest : List UInt8} (hD : AllDg D) (hr : mD (hb rest) = false) : JI (D ++ rest) = D := by
 induction D with
 | nil =>
  cases rest with
  | nil => rfl
  | cons c r => exact digs_neg hr
 | cons c D ih =>
  rw [List.cons_append, digs_pos (hD c (List.mem_cons_self ..)), ih fun b hb => hD b (List.mem_cons_of_mem _ hb)]
theorem mD_not {c : Int} (h : mD c = true) : mSg c = false ∧ (c = 46) = False ∧ (c = 45) = False ∧ mE c = false := by
 unfold mD at h
 simp only [Bool.and_eq_true, decide_eq_true_eq] at h
 refine ⟨?_, ?_, ?_, ?_⟩
 ·unfold mSg; simp; omega
 ·simp; omega
 ·simp; omega
 ·unfold mE; simp; omega
theorem cut_val {a r : Nat} (ha : a ≤ 1000000000) (hv : a * 1000 + r ≤ 1000000000000) (F : List UInt8) (hF : F.length ≤ 3) (hd : dv F * 10 ^ (3 - F.length) = (r : Int)) :
  jdH (Lib.decDigits a ++ F) (((Lib.decDigits a).length : Int) + 0 + 3) = ((a * 1000 + r : Nat) : Int) := by
 obtain ⟨h1, h2, h3⟩ := dec_ok a
 have hl := ZgR ha
 have hp : (0 : Int) < 10 ^ (3 - F.length) := Int.pow_pos (by decide)
 have key : dv (Lib.decDigits a ++ F) * 10 ^ (3 - F.length) = ((a * 1000 + r : Nat) : Int) := by
  rw [Zgv, h3, Int.add_mul, hd, Int.mul_assoc, ← Int.pow_add, show F.length + (3 - F.length) = 3 from by omega]
  omega
 unfold jdH
 dsimp only
 have hz := zeros0_len (Lib.decDigits a ++ F)
 rw [List.length_append] at hz
 have hdz := JeS (Lib.decDigits a ++ F)
 generalize hvv : Zy (Lib.decDigits a ++ F) = v at hz hdz ⊢
 rw [List.length_append]
 by_cases hv0 : v = []
 ·rw [if_pos (.inl hv0)]
  rw [hv0] at hdz
  have hdz : (0 : Int) = dv (Lib.decDigits a ++ F) := hdz
  rw [← hdz] at key
  omega
 ·have hvl : 0 < v.length := List.length_pos_iff.2 hv0
  rw [if_neg (fun z => z.elim hv0 (fun z => by omega)), if_neg (by omega)]
  have hq : (((Lib.decDigits a).length : Int) + 0 + 3 - (((((Lib.decDigits a).length + F.length : Nat) : Int)) - (v.length : Int))).toNat = v.length + (3 - F.length) := by omega
  rw [hq, Jdm]
  show min (dv v * _) _ = _
  rw [hdz, key]
  omega
theorem num_gen {W F v : List UInt8} (sg : Bool) (hW : AllDg W) (hW0 : W ≠ []) (hF : AllDg F) (hv : mD (hb v) = false) (hv2 : F = [] → jar v = false) :
  Zbm ((if sg then [45] else []) ++ (W ++ ((if F = [] then [] else 46 :: F) ++ v))) = true ∧
  zb1 ((if sg then [45] else []) ++ (W ++ ((if F = [] then [] else 46 :: F) ++ v))) =
   (if sg then 0 - jdH (W ++ F) ((W.length : Int) + (Ja9 v).1 + 3) else jdH (W ++ F) ((W.length : Int) + (Ja9 v).1 + 3),
   decide (F = []) && decide ((Ja9 v).2 = 0), ((if sg then [45] else []) ++ (W ++ (if F = [] then [] else 46 :: F))).length + (Ja9 v).2) := by
 obtain ⟨d, W', rfl⟩ := List.exists_cons_of_ne_nil hW0
 have hd := hW d (List.mem_cons_self ..)
 obtain ⟨m1, m2, m3, m4⟩ := mD_not hd
 generalize hR : (if F = [] then ([] : List UInt8) else 46 :: F) = R
 have hRv : mD (hb (R ++ v)) = false := by
  subst hR
  by_cases q : F = []
  ·rw [if_pos q]; exact hv
  ·rw [if_neg q]; rfl
 have hRl : R.length = if F = [] then 0 else 1 + F.length := by
  subst hR
  split
  ·rfl
  ·rw [List.length_cons]; omega
 have hfs : jar (R ++ v) = !decide (F = []) := by
  subst hR
  by_cases q : F = []
  ·rw [if_pos q, List.nil_append, hv2 q]; simp [q]
  ·rw [if_neg q]
   obtain ⟨e, F', rfl⟩ := List.exists_cons_of_ne_nil q
   have he := hF e (List.mem_cons_self ..)
   unfold jar
   simp only [List.cons_append, Jf, List.tail_cons, he]
   simp
 generalize hX : (if sg then ([45] : List UInt8) else []) ++ (d :: W' ++ (R ++ v)) = X
 have hs : zai X = (if sg then 1 else 0) ∧ X.drop (zai X) = d :: W' ++ (R ++ v) ∧ Zbm X = true ∧ (hb X = 45 ↔ sg = true) := by
  subst hX
  cases sg with
  | true =>
   refine ⟨rfl, rfl, ?_, ⟨fun _ => rfl, fun _ => rfl⟩⟩
   show Zbm (45 :: d :: (W' ++ (R ++ v))) = true
   unfold Zbm
   rw [if_pos (by rfl)]
   simp only [List.tail_cons, Jf, hd, Bool.true_or]
  | false =>
   have h0 : zai (d :: (W' ++ (R ++ v))) = 0 := by unfold zai; rw [Jf, m1]; rfl
   refine ⟨h0, ?_, ?_, ⟨fun z => ?_, fun z => by cases z⟩⟩
   ·show (d :: (W' ++ (R ++ v))).drop (zai (d :: (W' ++ (R ++ v)))) = _
    rw [h0]; rfl
   ·show Zbm (d :: (W' ++ (R ++ v))) = true
    unfold Zbm
    rw [Jf, m1]
    simp only [Bool.false_eq_true, if_false, hd, Bool.true_or]
   ·have z : hb (d :: (W' ++ (R ++ v))) = 45 := z
    rw [Jf, m3] at z
    exact z.elim
 obtain ⟨s1, s2, s3, s4⟩ := hs
 have hwd : j8 X = d :: W' := by unfold j8; rw [s2]; exact Jcz hW hRv
 have hbw : Zo X = zai X + (d :: W').length := by unfold Zo; rw [hwd]
 have hdw : X.drop (Zo X) = R ++ v := by rw [hbw, ← List.drop_drop, s2, List.drop_left]
 have hfd : ZaE X = F := by
  unfold ZaE
  rw [hdw, hfs]
  by_cases q : F = []
  ·simp [q]
  ·simp only [q, decide_false, Bool.not_false, if_true]
   subst hR
   rw [if_neg q, List.cons_append, List.tail_cons]
   exact Jcz hF hv
 have hbf : Jg X = zai X + ((d :: W').length + R.length) := by
  unfold Jg
  rw [hdw, hfs, hfd, hbw, hRl]
  by_cases q : F = []
  ·simp [q]
  ·simp only [q, decide_false, Bool.not_false, if_true, if_false]; omega
 have hbv : X.drop (Jg X) = v := by
  rw [hbf, ← List.drop_drop, s2, ← List.drop_drop, List.drop_left, List.drop_left]
 have hlen : ((if sg then ([45] : List UInt8) else []) ++ (d :: W' ++ R)).length = Jg X := by
  rw [hbf, s1]
  cases sg <;> simp <;> omega
 refine ⟨s3, ?_⟩
 unfold zb1 JX
 simp only [hbv, hwd, hfd, hdw, hfs, Bool.not_not]
 rw [hlen]
 refine Prod.ext ?_ rfl
 dsimp only
 cases sg with
 | true => rw [if_pos (s4.2 rfl)]; rfl
 | false => rw [if_neg (fun z => by have := s4.1 z; cases this)]; rfl
end Go.Proofs.YtbpbaicbaehhjaaGreatDoor.I
