/-
  The kinds of data of this program's slices. Nothing is claimed here.
-/
import Derived.Test.YtfpobnafniefpaaGreatDoorSm
namespace Go.Proofs.YtfpobnafniefpaaGreatDoor
open Go.Vm Go.Sx Go.RowKit

inductive Cd where
  | u8 | i64 | wt
/-- A token. -/
structure Tok where
  kind : Int
  text : List UInt8
  num : Int
  unit : List UInt8
  flag : Bool
def Den : Cd → Type
  | .u8 => UInt8
  | .i64 => Int
  | .wt => Int × Int × Int
def sg : Sg := ⟨Cd, Den⟩
abbrev W := U sg

def tokU (x : Tok) : List W := [.i .u8 x.kind, .s x.text, .i .i64 x.num, .s x.unit, .b x.flag]
def cellsD : (c : Cd) → Den c → List W
  | .u8, x => [.i .u8 (UInt8.toNat x : Int)]
  | .i64, x => [.i .i64 (id x)]
  | .wt, x => [.i .i64 (Prod.fst x), .i .i64 (Prod.fst (Prod.snd x)), .i .i64 (Prod.snd (Prod.snd x))]
def dfltD : (c : Cd) → Den c
  | .u8 => (0 : UInt8)
  | .i64 => (0 : Int)
  | .wt => ((0, 0, 0) : Int × Int × Int)
def decU8 (us : List W) (k : UInt8 → Prop) : Prop := match us with
  | [.i .u8 n] => (0 ≤ n ∧ n ≤ 255) ∧ k (UInt8.ofNat n.toNat)
  | _ => False
def dec_i64 (us : List W) (k : Int → Prop) : Prop := match us with
  | [.i .i64 a] => k a
  | _ => False
def dec_wt (us : List W) (k : Int × Int × Int → Prop) : Prop := match us with
  | [.i .i64 a, .i .i64 b, .i .i64 c] => k (a, b, c)
  | _ => False
def decD : (c : Cd) → List W → (Den c → Prop) → Prop
  | .u8 => decU8
  | .i64 => dec_i64
  | .wt => dec_wt
def bytD : (c : Cd) → List (Den c) → (List UInt8 → Prop) → Prop
  | .u8, xs, k => k xs
  | _, _, _ => False
def ofBD : (c : Cd) → List UInt8 → (List (Den c) → Prop) → Prop
  | .u8, xs, k => k xs
  | _, _, _ => False
def castD : (c c' : Cd) → List (Den c) → (List (Den c') → Prop) → Prop
  | .u8, .u8, xs, k => k xs
  | .i64, .i64, xs, k => k xs
  | .wt, .wt, xs, k => k xs
  | _, _, _, _ => False
def codeD : TypeId → Option Cd
  | 5 => some .u8
  | 3 => some .i64
  | 2 => some .i64
  | 28 => some .wt
  | _ => none
def sy : Sy sg where
  wid c := match c with | Cd.u8 => 1 | Cd.i64 => 1 | Cd.wt => 3
  wpos c := by cases c <;> decide
  cells := cellsD
  dflt := dfltD
  dec := decD
  byt := bytD
  ofB := ofBD
  code := codeD
  opn _ := false
  cast := castD
  len c x := by cases c <;> rfl
  flat c x u h := by
    cases c <;> simp only [cellsD, tokU, List.mem_cons, List.not_mem_nil, or_false] at h <;> (try (rcases h with rfl | h)) <;> first | rfl | skip
    all_goals (first | (subst h; rfl) | (rcases h with rfl | h <;> first | rfl | skip))
    all_goals (first | (subst h; rfl) | (rcases h with rfl | h <;> first | rfl | skip))
    all_goals (first | (subst h; rfl) | (rcases h with rfl | h <;> first | rfl | skip))
  dec_ok c us k h := by
    cases c with
    | u8 =>
      change decU8 us k at h
      unfold decU8 at h
      split at h
      · rename_i n
        obtain ⟨⟨h1, h2⟩, h⟩ := h
        refine ⟨_, ?_, h⟩
        show [U.i IntKind.u8 n] = [U.i IntKind.u8 ((UInt8.ofNat n.toNat).toNat : Int)]
        have : (UInt8.ofNat n.toNat).toNat = n.toNat := by rw [UInt8.toNat_ofNat']; exact Nat.mod_eq_of_lt (by omega)
        rw [this, Int.toNat_of_nonneg h1]
      · exact h.elim
    | i64 =>
      change dec_i64 us k at h
      unfold dec_i64 at h
      split at h
      · exact ⟨_, rfl, h⟩
      · exact h.elim
    | wt =>
      change dec_wt us k at h
      unfold dec_wt at h
      split at h
      · exact ⟨_, rfl, h⟩
      · exact h.elim
  byt_ok c xs k h := by
    cases c with
    | u8 => exact ⟨xs, rfl, rfl, h⟩
    | i64 => exact h.elim
    | wt => exact h.elim
  ofB_ok c bs k h := by
    cases c with
    | u8 => exact ⟨bs, rfl, rfl, h⟩
    | i64 => exact h.elim
    | wt => exact h.elim
  cast_ok c c' xs k h := by
    cases c <;> cases c' <;> first | exact ⟨rfl, h⟩ | exact h.elim

def bodyOf (f : Func) : Code := match f.body with
  | some c => c
  | none => .skip
def noL : LoopT sg := fun _ _ _ => False
end Go.Proofs.YtfpobnafniefpaaGreatDoor
