/-
  The kinds of data of this program's slices. Nothing is claimed here.
-/
import Derived.Test.YtnfddmjbfkfnhaaGreatDoorSm
namespace Go.Proofs.YtnfddmjbfkfnhaaGreatDoor
open Go.Vm Go.Sx Go.RowKit

inductive Cd where
  | u8 | str
def Den : Cd → Type
  | .u8 => UInt8
  | .str => List UInt8
def sg : Sg := ⟨Cd, Den⟩
abbrev W := U sg

def cellsD : (c : Cd) → Den c → List W
  | .u8, x => [.i .u8 (UInt8.toNat x : Int)]
  | .str, x => [.s (id x)]
def dfltD : (c : Cd) → Den c
  | .u8 => (0 : UInt8)
  | .str => ([] : List UInt8)
def decU8 (us : List W) (k : UInt8 → Prop) : Prop := match us with
  | [.i .u8 n] => (0 ≤ n ∧ n ≤ 255) ∧ k (UInt8.ofNat n.toNat)
  | _ => False
def dec_str (us : List W) (k : List UInt8 → Prop) : Prop := match us with
  | [.s a] => k a
  | _ => False
def decD : (c : Cd) → List W → (Den c → Prop) → Prop
  | .u8 => decU8
  | .str => dec_str
def bytD : (c : Cd) → List (Den c) → (List UInt8 → Prop) → Prop
  | .u8, xs, k => k xs
  | _, _, _ => False
def ofBD : (c : Cd) → List UInt8 → (List (Den c) → Prop) → Prop
  | .u8, xs, k => k xs
  | _, _, _ => False
def castD : (c c' : Cd) → List (Den c) → (List (Den c') → Prop) → Prop
  | .u8, .u8, xs, k => k xs
  | .str, .str, xs, k => k xs
  | _, _, _, _ => False
def codeD : TypeId → Option Cd
  | 5 => some .u8
  | 9 => some .str
  | _ => none
def sy : Sy sg where
  wid c := match c with | Cd.u8 => 1 | Cd.str => 1
  wpos c := by cases c <;> decide
  cells := cellsD
  dflt := dfltD
  dec := decD
  byt := bytD
  ofB := ofBD
  code := codeD
  opn _ := false
  cast := castD
  len c x := by cases c <;> rfl
  flat c x u h := by
    cases c <;> simp only [cellsD, List.mem_cons, List.not_mem_nil, or_false] at h <;> (try (rcases h with rfl | h)) <;> first | rfl | skip
    all_goals (first | (subst h; rfl) | (rcases h with rfl | h <;> first | rfl | skip))
  dec_ok c us k h := by
    cases c with
    | u8 =>
      change decU8 us k at h
      unfold decU8 at h
      split at h
      · rename_i n
        obtain ⟨⟨h1, h2⟩, h⟩ := h
        refine ⟨_, ?_, h⟩
        show [U.i IntKind.u8 n] = [U.i IntKind.u8 ((UInt8.ofNat n.toNat).toNat : Int)]
        have : (UInt8.ofNat n.toNat).toNat = n.toNat := by rw [UInt8.toNat_ofNat']; exact Nat.mod_eq_of_lt (by omega)
        rw [this, Int.toNat_of_nonneg h1]
      · exact h.elim
    | str =>
      change dec_str us k at h
      unfold dec_str at h
      split at h
      · exact ⟨_, rfl, h⟩
      · exact h.elim
  byt_ok c xs k h := by
    cases c with
    | u8 => exact ⟨xs, rfl, rfl, h⟩
    | str => exact h.elim
  ofB_ok c bs k h := by
    cases c with
    | u8 => exact ⟨bs, rfl, rfl, h⟩
    | str => exact h.elim
  cast_ok c c' xs k h := by
    cases c <;> cases c' <;> first | exact ⟨rfl, h⟩ | exact h.elim

def bodyOf (f : Func) : Code := match f.body with
  | some c => c
  | none => .skip
def noL : LoopT sg := fun _ _ _ => False
end Go.Proofs.YtnfddmjbfkfnhaaGreatDoor
