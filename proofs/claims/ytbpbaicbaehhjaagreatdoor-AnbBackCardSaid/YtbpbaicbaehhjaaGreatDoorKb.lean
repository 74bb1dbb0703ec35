/-
 Progressions: what their functions do; the laws of sums, steps, all places. Nothing is claimed here. (The texts Ka, Kb, one behind the other.)
-/
import Derived.Test.YtbpbaicbaehhjaaGreatDoorTi
import Derived.Lib.ItoaNum
set_option linter.unusedVariables false
set_option linter.unusedSimpArgs false
namespace Go.Proofs.YtbpbaicbaehhjaaGreatDoor
open Go.Vm Go.Sx Go.RowKit
def inW (n : Int) : Bool := decide (-1000000000 ≤ n) && decide (n ≤ 1000000000)
theorem Jac {n : Int} : inW n = true ↔ -1000000000 ≤ n ∧ n ≤ 1000000000 := by unfold inW; simp
def Zcy (a : Int × Int) : Bool := inW a.1 && inW a.2
def jgI : zw := fun n b K => (b = 10 ∧ -9223372036854775808 ≤ n ∧ n < 9223372036854775808) ∧ K (Lib.itoa n)
def je9 : jn := fun n K => K (inW n)
theorem Zht (n K) (h : je9 n K) : JaM n K := by
 have h : K (inW n) := h
 unfold inW at h
 refine ⟨fun q => ?_, fun q => ?_⟩
 ·rwa [q, Bool.true_and] at h
 ·rwa [q, Bool.false_and] at h
theorem ZgI (x y : Int) : (x.tdiv y).natAbs ≤ x.natAbs := by rw [Int.natAbs_tdiv]; exact Nat.div_le_self _ _
def zga : j7 := fun a K => K (if Zcy a = true then 0 else 8)
theorem Jht (a K) (h : zga a K) : ZbI je9 a K := by
 have h : K (if Zcy a = true then 0 else 8) := h
 unfold Zcy at h
 refine ⟨fun q => ⟨fun z => ?_, fun z => ?_⟩, fun q => ?_⟩
 ·have q : inW a.1 = true := by simpa using q
  have z : inW a.2 = false := by simpa using z
  rwa [q, z, if_neg (by decide)] at h
 ·have q : inW a.1 = true := by simpa using q
  have z : inW a.2 = true := by simpa using z
  rwa [q, z, if_pos (by decide)] at h
 ·have q : inW a.1 = false := by simpa using q
  rwa [q, Bool.false_and, if_neg (by decide)] at h
theorem Jb0 {n : Int} (h : inW n = true) : (Lib.itoa n).length ≤ 12 := by
 have h := Jac.1 h
 have key : ∀ (k m : Nat), m < 10 ^ (k + 1) → (Lib.decDigits m).length ≤ k + 1 := by
  intro k
  induction k with
  | zero => intro m hm; rw [Lib.decDigits, dif_pos (by omega)]; simp
  | succ k ih =>
   intro m hm
   rw [Lib.decDigits]
   split
   ·simp
   ·have := ih (m / 10) (by rw [Nat.pow_succ] at hm; exact Nat.div_lt_of_lt_mul (by omega))
    rw [List.length_append, List.length_singleton]
    omega
 unfold Lib.itoa
 split
 ·have := key 10 n.natAbs (by omega)
  rw [List.length_cons]; omega
 ·have := key 10 n.toNat (by omega)
  omega
def Zeb : Zi := fun n K => inW n = true ∧ K (Lib.itoa n)
theorem zhu (n K) (h : Zeb n K) : ja3 jgI n K := ⟨⟨rfl, by have := Jac.1 h.1; omega, by have := Jac.1 h.1; omega⟩, h.2⟩
def Jdj (n : Int) : List UInt8 := if n = 1 then [] else if n = -1 then [45] else Lib.itoa n
def Jgs (n : Int) : List UInt8 := if n = 0 then [] else if 0 < n then [43] ++ Lib.itoa n else Lib.itoa n
def jga : JU := fun n K => inW n = true ∧ K (Jdj n)
theorem jhu (n K) (h : jga n K) : jbj Zeb n K := by
 obtain ⟨hw, hK⟩ := h
 unfold Jdj at hK
 refine ⟨fun q => ?_, fun q => ⟨fun z => ?_, fun z => ?_⟩⟩
 ·rwa [if_pos (of_decide_eq_true q)] at hK
 ·rwa [if_neg (of_decide_eq_false q), if_pos (of_decide_eq_true z)] at hK
 ·rw [if_neg (of_decide_eq_false q), if_neg (of_decide_eq_false z)] at hK
  exact ⟨hw, hK⟩
def Zga : zV := fun n K => inW n = true ∧ K (Jgs n)
theorem Zhu (n K) (h : Zga n K) : Jbj Zeb n K := by
 obtain ⟨hw, hK⟩ := h
 have hl := Jb0 hw
 unfold Jgs at hK
 refine ⟨fun q => ?_, fun q => ⟨fun z => ?_, fun z => ?_⟩⟩
 ·rwa [if_pos (of_decide_eq_true q)] at hK
 ·rw [if_neg (of_decide_eq_false q), if_pos (of_decide_eq_true z)] at hK
  exact ⟨hw, by simp only [List.length_cons, List.length_nil]; omega, hK⟩
 ·rw [if_neg (of_decide_eq_false q), if_neg (of_decide_eq_false z)] at hK
  exact ⟨hw, hK⟩
def JbM (a : Int × Int) : List UInt8 := if a.1 = 0 then Lib.itoa a.2 else (Jdj a.1 ++ [110]) ++ Jgs a.2
def JdG (a : Int × Int) : List UInt8 × Int := if Zcy a = true then (JbM a, 0) else ([], 8)
theorem jfF {n : Int} (h : inW n = true) : (Jdj n).length ≤ 12 := by
 have := Jb0 h
 unfold Jdj
 split
 ·simp
 ·split
  ·simp
  ·exact this
theorem ZfF {n : Int} (h : inW n = true) : (Jgs n).length ≤ 13 := by
 have := Jb0 h
 unfold Jgs
 split
 ·simp
 ·split
  ·rw [List.length_append, List.length_singleton]; omega
  ·omega
def ZeB : jz := fun a K => K (JdG a).1 (JdG a).2
theorem Jhu (a K) (h : ZeB a K) : zce zga Zeb jga Zga a K := by
 have h : K (JdG a).1 (JdG a).2 := h
 unfold JdG at h
 show ((decide ((if Zcy a = true then (0 : Int) else 8) ≠ 0)) = true → _) ∧ _
 cases hv : Zcy a with
 | false =>
  rw [hv, if_neg (by decide)] at h
  exact ⟨fun _ => h, fun q => by simp at q⟩
 | true =>
  rw [hv, if_pos rfl] at h
  unfold Zcy at hv
  rw [Bool.and_eq_true] at hv
  have l1 := jfF hv.1
  have l2 := ZfF hv.2
  unfold JbM at h
  refine ⟨fun q => by simp at q, fun _ => ⟨fun z => ?_, fun z => ?_⟩⟩
  ·rw [if_pos (of_decide_eq_true z)] at h
   exact ⟨hv.2, h⟩
  ·rw [if_neg (of_decide_eq_false z)] at h
   exact ⟨hv.1, by simp only [List.length_cons, List.length_nil]; omega, hv.2, by simp only [List.length_append, List.length_cons, List.length_nil]; omega, h⟩
end Go.Proofs.YtbpbaicbaehhjaaGreatDoor
set_option linter.unusedVariables false
set_option linter.unusedSimpArgs false
namespace Go.Proofs.YtbpbaicbaehhjaaGreatDoor
open Go.Vm Go.Sx Go.RowKit
def Jcg : je := fun K => K true
def Ze9 : Jd := fun a K => K (Zcy a)
theorem zhv (a K) (h : Ze9 a K) : jac a K := by
 have h : K (Zcy a) := h
 unfold Zcy inW at h
 refine ⟨fun q => ⟨fun q2 => ⟨fun q3 => ?_, fun q3 => ?_⟩, fun q2 => ?_⟩, fun q => ?_⟩
 ·rwa [q, q2, q3, Bool.true_and, Bool.true_and, Bool.true_and] at h
 ·rwa [q, q2, q3, Bool.true_and, Bool.true_and, Bool.false_and] at h
 ·rwa [q, q2, Bool.true_and, Bool.false_and] at h
 ·rwa [q, Bool.false_and, Bool.false_and] at h
theorem JhP : GOK GT GL (st0 gs1) := by
 intro g k l h
 match g, h with
 | 0, h =>
  obtain ⟨rfl, rfl⟩ : IntKind.u8 = k ∧ marksL = l := by
   have h2 := Option.some.inj h
   exact ⟨congrArg Prod.fst h2, congrArg Prod.snd h2⟩
  have e : ((st0 gs1).hp.get 0).map (fun b => (List.range 126).map fun j => b.get j) = some ((List.range 126).map fun j => some (V.i .u8 (marksL.getD j 0))) := by kernel_rfl
  cases hh : (st0 gs1).hp.get 0 with
  | none => rw [hh] at e; cases e
  | some b =>
  rw [hh] at e
  have h2 := Option.some.inj e
  refine ⟨by decide, b, rfl, fun j hj => ?_⟩
  have hj2 : j < 126 := hj
  have h3 := congrArg (fun x => x[j]?) h2
  simpa [hj2] using h3
 | _ + 1, h => cases h
end Go.Proofs.YtbpbaicbaehhjaaGreatDoor
