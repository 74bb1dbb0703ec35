/-
 The kinds of data of this program's slices. Nothing is claimed here.
-/
import Derived.Test.YtbpbaicbaehhjaaGreatDoorSa2
namespace Go.Proofs.YtbpbaicbaehhjaaGreatDoor
open Go.Vm Go.Sx Go.RowKit
abbrev Bt := List UInt8
abbrev bv8 (n : Int) : BitVec IntKind.u8.bits := BitVec.ofInt IntKind.u8.bits n
inductive Cd where
 | u8 | i64 | tok | anb
structure Tok where
 kind : Int
 text : List UInt8
 num : Int
 unit : List UInt8
 flag : Bool
def Den : Cd → Type
 | .u8 => UInt8
 | .i64 => Int
 | .tok => Tok
 | .anb => Int × Int
def sg : Sg := ⟨Cd, Den⟩
abbrev W := U sg
def JhG (x : Tok) : List W := [.i .u8 x.kind, .s x.text, .i .i64 x.num, .s x.unit, .b x.flag]
def zgq : (c : Cd) → Den c → List W
 | .u8, x => [.i .u8 (UInt8.toNat x : Int)]
 | .i64, x => [.i .i64 (id x)]
 | .tok, x => JhG x
 | .anb, x => [.i .i64 (Prod.fst x), .i .i64 (Prod.snd x)]
def zI : (c : Cd) → Den c
 | .u8 => (0 : UInt8)
 | .i64 => (0 : Int)
 | .tok => (⟨0, [], 0, [], false⟩ : Tok)
 | .anb => ((0, 0) : Int × Int)
def jgE (us : List W) (k : UInt8 → Prop) : Prop := match us with
 | [.i .u8 n] => (0 ≤ n ∧ n ≤ 255) ∧ k (UInt8.ofNat n.toNat)
 | _ => False
def Jen (us : List W) (k : Int → Prop) : Prop := match us with
 | [.i .i64 a] => k a
 | _ => False
def zeo (us : List W) (k : Tok → Prop) : Prop := match us with
 | [.i .u8 a, .s b, .i .i64 c, .s d, .b e] => k ⟨a, b, c, d, e⟩
 | _ => False
def jeo (us : List W) (k : Int × Int → Prop) : Prop := match us with
 | [.i .i64 a, .i .i64 b] => k (a, b)
 | _ => False
def JhO : (c : Cd) → List W → (Den c → Prop) → Prop
 | .u8 => jgE
 | .i64 => Jen
 | .tok => zeo
 | .anb => jeo
def zhP : (c : Cd) → List (Den c) → (List UInt8 → Prop) → Prop
 | .u8, xs, k => k xs
 | _, _, _ => False
def jhP : (c : Cd) → List UInt8 → (List (Den c) → Prop) → Prop
 | .u8, xs, k => k xs
 | _, _, _ => False
def jhr : (c c' : Cd) → List (Den c) → (List (Den c') → Prop) → Prop
 | .u8, .u8, xs, k => k xs
 | .i64, .i64, xs, k => k xs
 | .tok, .tok, xs, k => k xs
 | .anb, .anb, xs, k => k xs
 | _, _, _, _ => False
def Zhr : TypeId → Option Cd
 | 5 => some .u8
 | 3 => some .i64
 | 2 => some .i64
 | 53 => some .tok
 | 25 => some .anb
 | _ => none
def sy : Sy sg where
 wid c := match c with | Cd.u8 => 1 | Cd.i64 => 1 | Cd.tok => 5 | Cd.anb => 2
 wpos c := by cases c <;> decide
 cells := zgq
 dflt := zI
 dec := JhO
 byt := zhP
 ofB := jhP
 code := Zhr
 opn _ := false
 cast := jhr
 len c x := by cases c <;> rfl
 flat c x u h := by
  cases c <;> simp only [zgq, JhG, List.mem_cons, List.not_mem_nil, or_false] at h <;> (try (rcases h with rfl | h)) <;> first | rfl | skip
  all_goals (first | (subst h; rfl) | (rcases h with rfl | h <;> first | rfl | skip))
  all_goals (first | (subst h; rfl) | (rcases h with rfl | h <;> first | rfl | skip))
  all_goals (first | (subst h; rfl) | (rcases h with rfl | h <;> first | rfl | skip))
  all_goals (first | (subst h; rfl) | (rcases h with rfl | h <;> first | rfl | skip))
  all_goals (first | (subst h; rfl) | (rcases h with rfl | h <;> first | rfl | skip))
 dec_ok c us k h := by
  cases c with
  | u8 =>
   change jgE us k at h
   unfold jgE at h
   split at h
   ·rename_i n
    obtain ⟨⟨h1, h2⟩, h⟩ := h
    refine ⟨_, ?_, h⟩
    show [U.i IntKind.u8 n] = [U.i IntKind.u8 ((UInt8.ofNat n.toNat).toNat : Int)]
    have : (UInt8.ofNat n.toNat).toNat = n.toNat := by rw [UInt8.toNat_ofNat']; exact Nat.mod_eq_of_lt (by omega)
    rw [this, Int.toNat_of_nonneg h1]
   ·exact h.elim
  | i64 =>
   change Jen us k at h
   unfold Jen at h
   split at h
   ·exact ⟨_, rfl, h⟩
   ·exact h.elim
  | tok =>
   change zeo us k at h
   unfold zeo at h
   split at h
   ·exact ⟨_, rfl, h⟩
   ·exact h.elim
  | anb =>
   change jeo us k at h
   unfold jeo at h
   split at h
   ·exact ⟨_, rfl, h⟩
   ·exact h.elim
 byt_ok c xs k h := by
  cases c with
  | u8 => exact ⟨xs, rfl, rfl, h⟩
  | i64 => exact h.elim
  | tok => exact h.elim
  | anb => exact h.elim
 ofB_ok c bs k h := by
  cases c with
  | u8 => exact ⟨bs, rfl, rfl, h⟩
  | i64 => exact h.elim
  | tok => exact h.elim
  | anb => exact h.elim
 cast_ok c c' xs k h := by
  cases c <;> cases c' <;> first | exact ⟨rfl, h⟩ | exact h.elim
def za (f : Func) : Code := match f.body with
 | some c => c
 | none => .skip
def noL : Z5 sg := fun _ _ _ => False
end Go.Proofs.YtbpbaicbaehhjaaGreatDoor
