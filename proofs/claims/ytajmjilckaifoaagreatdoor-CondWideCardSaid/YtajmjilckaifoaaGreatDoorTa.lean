/-
  The kinds of data of this program's slices. Nothing is claimed here.
-/
import Derived.Test.YtajmjilckaifoaaGreatDoorJa4
namespace Go.Proofs.YtajmjilckaifoaaGreatDoor
open Go.Vm Go.Sx Go.RowKit

inductive Cd where
  | u8 | bl | val | env | dcl | cnd
/-- A token. -/
structure Tok where
  kind : Int
  text : List UInt8
  num : Int
  unit : List UInt8
  flag : Bool
/-- A token, and what is inside its block. -/
inductive Val where
  | mk (t : Tok) (l : List Val)
@[reducible] def Val.tok : Val → Tok
  | .mk t _ => t
@[reducible] def Val.list : Val → List Val
  | .mk _ l => l
/-- A declaration. -/
structure Dcl where
  name : List UInt8
  val : List Val
  imp : Bool
/-- A condition. -/
inductive Cnd where
  | mk (kind : Int) (name : List UInt8) (num : Int) (decl : Dcl) (list : List Cnd)
@[reducible] def Cnd.kind : Cnd → Int
  | .mk k _ _ _ _ => k
@[reducible] def Cnd.name : Cnd → List UInt8
  | .mk _ n _ _ _ => n
@[reducible] def Cnd.num : Cnd → Int
  | .mk _ _ n _ _ => n
@[reducible] def Cnd.decl : Cnd → Dcl
  | .mk _ _ _ d _ => d
@[reducible] def Cnd.list : Cnd → List Cnd
  | .mk _ _ _ _ l => l
def Den : Cd → Type
  | .u8 => UInt8
  | .bl => Bool
  | .val => Val
  | .env => Int
  | .dcl => Dcl
  | .cnd => Cnd
def sg : Sg := ⟨Cd, Den⟩
abbrev W := U sg

def tokU (x : Tok) : List W := [.i .u8 x.kind, .s x.text, .i .i64 x.num, .s x.unit, .b x.flag]
def cellsD : (c : Cd) → Den c → List W
  | .u8, x => [.i .u8 (UInt8.toNat x : Int)]
  | .bl, x => [.b (id x)]
  | .val, x => [.i .u8 x.tok.kind, .s x.tok.text, .i .i64 x.tok.num, .s x.tok.unit, .b x.tok.flag, .l Cd.val x.list]
  | .env, x => [.i .i64 (id x)]
  | .dcl, x => [.s x.name, .l Cd.val x.val, .b x.imp]
  | .cnd, x => [.i .u8 x.kind, .s x.name, .i .i64 x.num, .s x.decl.name, .l Cd.val x.decl.val, .b x.decl.imp, .l Cd.cnd x.list]
def dfltD : (c : Cd) → Den c
  | .u8 => (0 : UInt8)
  | .bl => false
  | .val => (Val.mk ⟨0, [], 0, [], false⟩ [] : Val)
  | .env => (0 : Int)
  | .dcl => (⟨[], [], false⟩ : Dcl)
  | .cnd => (Cnd.mk 0 [] 0 ⟨[], [], false⟩ [] : Cnd)
def decU8 (us : List W) (k : UInt8 → Prop) : Prop := match us with
  | [.i .u8 n] => (0 ≤ n ∧ n ≤ 255) ∧ k (UInt8.ofNat n.toNat)
  | _ => False
def dec_bl (us : List W) (k : Bool → Prop) : Prop := match us with
  | [.b a] => k a
  | _ => False
def dec_val (us : List W) (k : Val → Prop) : Prop := match us with
  | [.i .u8 a, .s b, .i .i64 c, .s d, .b e, .l .val xs] => k (Val.mk ⟨a, b, c, d, e⟩ xs)
  | _ => False
def dec_env (us : List W) (k : Int → Prop) : Prop := match us with
  | [.i .i64 a] => k a
  | _ => False
def dec_dcl (us : List W) (k : Dcl → Prop) : Prop := match us with
  | [.s a, .l .val b, .b c] => k ⟨a, b, c⟩
  | _ => False
def dec_cnd (us : List W) (k : Cnd → Prop) : Prop := match us with
  | [.i .u8 a, .s b, .i .i64 c, .s d, .l .val e, .b f, .l .cnd g] => k (Cnd.mk a b c ⟨d, e, f⟩ g)
  | _ => False
def decD : (c : Cd) → List W → (Den c → Prop) → Prop
  | .u8 => decU8
  | .bl => dec_bl
  | .val => dec_val
  | .env => dec_env
  | .dcl => dec_dcl
  | .cnd => dec_cnd
def bytD : (c : Cd) → List (Den c) → (List UInt8 → Prop) → Prop
  | .u8, xs, k => k xs
  | _, _, _ => False
def ofBD : (c : Cd) → List UInt8 → (List (Den c) → Prop) → Prop
  | .u8, xs, k => k xs
  | _, _, _ => False
def castD : (c c' : Cd) → List (Den c) → (List (Den c') → Prop) → Prop
  | .u8, .u8, xs, k => k xs
  | .bl, .bl, xs, k => k xs
  | .val, .val, xs, k => k xs
  | .env, .env, xs, k => k xs
  | .dcl, .dcl, xs, k => k xs
  | .cnd, .cnd, xs, k => k xs
  | _, _, _, _ => False
def codeD : TypeId → Option Cd
  | 5 => some .u8
  | 4 => some .bl
  | 38 => some .val
  | 42 => some .env
  | 27 => some .dcl
  | 30 => some .cnd
  | _ => none
def sy : Sy sg where
  wid c := match c with | Cd.u8 => 1 | Cd.bl => 1 | Cd.val => 6 | Cd.env => 1 | Cd.dcl => 3 | Cd.cnd => 7
  wpos c := by cases c <;> decide
  cells := cellsD
  dflt := dfltD
  dec := decD
  byt := bytD
  ofB := ofBD
  code := codeD
  opn _ := false
  cast := castD
  lk c := match c with | Cd.val => [none, none, none, none, none, some Cd.val] | Cd.dcl => [none, some Cd.val, none] | Cd.cnd => [none, none, none, none, some Cd.val, none, some Cd.cnd] | _ => []
  len c x := by cases c <;> rfl
  flat c x u h := by
    cases c <;> simp only [cellsD, tokU, List.mem_cons, List.not_mem_nil, or_false] at h <;> (try (rcases h with rfl | h)) <;> first | rfl | skip
    all_goals (first | (subst h; rfl) | (rcases h with rfl | h <;> first | rfl | skip))
    all_goals (first | (subst h; rfl) | (rcases h with rfl | h <;> first | rfl | skip))
    all_goals (first | (subst h; rfl) | (rcases h with rfl | h <;> first | rfl | skip))
    all_goals (first | (subst h; rfl) | (rcases h with rfl | h <;> first | rfl | skip))
    all_goals (first | (subst h; rfl) | (rcases h with rfl | h <;> first | rfl | skip))
    all_goals (first | (subst h; rfl) | (rcases h with rfl | h <;> first | rfl | skip))
    all_goals (first | (subst h; rfl) | (rcases h with rfl | h <;> first | rfl | skip))
  dec_ok c us k h := by
    cases c with
    | u8 =>
      change decU8 us k at h
      unfold decU8 at h
      split at h
      · rename_i n
        obtain ⟨⟨h1, h2⟩, h⟩ := h
        refine ⟨_, ?_, h⟩
        show [U.i IntKind.u8 n] = [U.i IntKind.u8 ((UInt8.ofNat n.toNat).toNat : Int)]
        have : (UInt8.ofNat n.toNat).toNat = n.toNat := by rw [UInt8.toNat_ofNat']; exact Nat.mod_eq_of_lt (by omega)
        rw [this, Int.toNat_of_nonneg h1]
      · exact h.elim
    | bl =>
      change dec_bl us k at h
      unfold dec_bl at h
      split at h
      · exact ⟨_, rfl, h⟩
      · exact h.elim
    | val =>
      change dec_val us k at h
      unfold dec_val at h
      split at h
      · exact ⟨_, rfl, h⟩
      · exact h.elim
    | env =>
      change dec_env us k at h
      unfold dec_env at h
      split at h
      · exact ⟨_, rfl, h⟩
      · exact h.elim
    | dcl =>
      change dec_dcl us k at h
      unfold dec_dcl at h
      split at h
      · exact ⟨_, rfl, h⟩
      · exact h.elim
    | cnd =>
      change dec_cnd us k at h
      unfold dec_cnd at h
      split at h
      · exact ⟨_, rfl, h⟩
      · exact h.elim
  byt_ok c xs k h := by
    cases c with
    | u8 => exact ⟨xs, rfl, rfl, h⟩
    | bl => exact h.elim
    | val => exact h.elim
    | env => exact h.elim
    | dcl => exact h.elim
    | cnd => exact h.elim
  ofB_ok c bs k h := by
    cases c with
    | u8 => exact ⟨bs, rfl, rfl, h⟩
    | bl => exact h.elim
    | val => exact h.elim
    | env => exact h.elim
    | dcl => exact h.elim
    | cnd => exact h.elim
  cast_ok c c' xs k h := by
    cases c <;> cases c' <;> first | exact ⟨rfl, h⟩ | exact h.elim

def bodyOf (f : Func) : Code := match f.body with
  | some c => c
  | none => .skip
def noL : LoopT sg := fun _ _ _ => False
end Go.Proofs.YtajmjilckaifoaaGreatDoor
