/-
 strconv.FormatInt to base 10, known beforehand, of any number. Nothing is claimed here.
-/
import Derived.Shelf.Strconv.Itoa4
import Derived.Lib.AppendIntMem
import Derived.Lib.ItoaNum
import Derived.Test.YtbpbaicbaehhjaaGreatDoorVa3
set_option linter.unusedVariables false
set_option linter.unusedSimpArgs false
namespace Go.Vm
open Go.Proofs Go.Shelf Go.RowKit Go.Sort Go.Lib
variable {P : Program} {ρ : Ren}
def dgF : Nat → Nat → List UInt8 → List UInt8
 | 0, _, acc => acc
 | k + 1, n, acc => cond (Nat.blt n 10) (UInt8.ofNat (48 + n) :: acc) (dgF k (n / 10) (UInt8.ofNat (48 + n % 10) :: acc))
theorem jdX : ∀ (k n : Nat) (acc : List UInt8), n < 10 ^ (k + 1) → dgF (k + 1) n acc = Lib.decDigits n ++ acc
 | k, n, acc, h => by
  rw [dgF]
  cases hb : Nat.blt n 10 with
  | true =>
   rw [Nat.blt_eq] at hb
   rw [cond_true, Lib.decDigits, dif_pos hb]
   rfl
  | false =>
   have hb' : ¬ n < 10 := fun q => by rw [← Nat.blt_eq, hb] at q; cases q
   rw [cond_false, Lib.decDigits, dif_neg hb']
   cases k with
   | zero => exact absurd h (by simpa using hb')
   | succ k =>
    rw [jdX k (n / 10) _ (by rw [Nat.pow_succ] at h; exact Nat.div_lt_of_lt_mul (by omega))]
    simp
def Zfd (b : Nat) (n : Nat) (m : Nat) : Bool := Nat.beq b 10 && Nat.blt n m
def zht (fid : FuncId) : Ov0 := fun f args => cond (Nat.beq f fid) (match args with
 | [.i .i64 (.ofNat n), .i .i64 (.ofNat b)] => cond (Zfd b n 9223372036854775808) (some (V.str (dgF 20 n []))) none
 | [.i .i64 (.negSucc n), .i .i64 (.ofNat b)] => cond (Zfd b n 9223372036854775808) (some (V.str (45 :: dgF 20 (n + 1) []))) none
 | _ => none) none
theorem jgG (L : LaysM.n173 P ρ) {B : World} (hT : ∃ e fz, B.heap[ρ.g 17]? = some (.cells (Lib.pow10Tab.map fun z => Value.int .u64 z).toArray e fz)) : Zdp P B (zht (ρ.f 173)) := by
 intro f args v h
 unfold zht at h
 cases hf : Nat.beq f (ρ.f 173) with
 | false => simp [hf] at h
 | true =>
 simp only [hf, cond_true] at h
 rw [Nat.beq_eq] at hf
 subst hf
 have htab : ∀ {w : World}, Old B w → Lib.TabIs P w "internal/strconv.uint64pow10" .u64 Lib.pow10Tab := by
  intro w hw
  obtain ⟨e, fz, hp⟩ := hT
  have hlt : ρ.g 17 < B.heap.size := (Array.getElem?_eq_some_iff.1 hp).1
  unfold Lib.TabIs World.var?
  rw [L.m17, Option.bind_some, hw.block _ hlt, hp]
 split at h
 ·rename_i n b
  cases hc : Zfd b n 9223372036854775808 with
  | false => simp [hc] at h
  | true =>
  simp only [hc, cond_true] at h
  obtain rfl := Option.some.inj h
  unfold Zfd at hc
  rw [Bool.and_eq_true, Nat.beq_eq, Nat.blt_eq] at hc
  obtain ⟨rfl, hn⟩ := hc
  refine ⟨rfl, V.str_ok _ _, ⟨_, _, L.f173, rfl⟩, fun J w _ hw => ?_⟩
  refine (Any.strconv_FormatInt_10 L (n : Int) (by omega) (by omega) w (htab hw)).mono ?_
  rintro e w' ⟨rfl, k, os, rfl⟩
  refine ⟨?_, Lib.below_grow _ w (Nat.le_refl _) k os⟩
  have hp : n < 10 ^ (19 + 1) := Nat.lt_trans hn (by decide)
  rw [V.str_real, jdX 19 n [] hp, List.append_nil]
  have e : Lib.itoa (n : Int) = Lib.decDigits n := by unfold Lib.itoa; rw [if_neg (by omega)]; simp
  rw [e]
 ·rename_i n b
  cases hc : Zfd b n 9223372036854775808 with
  | false => simp [hc] at h
  | true =>
  simp only [hc, cond_true] at h
  obtain rfl := Option.some.inj h
  unfold Zfd at hc
  rw [Bool.and_eq_true, Nat.beq_eq, Nat.blt_eq] at hc
  obtain ⟨rfl, hn⟩ := hc
  refine ⟨rfl, V.str_ok _ _, ⟨_, _, L.f173, rfl⟩, fun J w _ hw => ?_⟩
  refine (Any.strconv_FormatInt_10 L (.negSucc n) (by omega) (by omega) w (htab hw)).mono ?_
  rintro e w' ⟨rfl, k, os, rfl⟩
  refine ⟨?_, Lib.below_grow _ w (Nat.le_refl _) k os⟩
  have hp : n + 1 < 10 ^ (19 + 1) := Nat.lt_of_le_of_lt hn (by decide)
  rw [V.str_real, jdX 19 (n + 1) [] hp, List.append_nil]
  have e : Lib.itoa (.negSucc n) = 45 :: Lib.decDigits (n + 1) := by unfold Lib.itoa; rw [if_pos (by omega)]; rfl
  rw [e]
 ·cases h
end Go.Vm
