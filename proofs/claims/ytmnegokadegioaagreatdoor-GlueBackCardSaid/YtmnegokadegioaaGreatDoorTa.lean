/-
 The kinds of data of this program's slices. Nothing is claimed here.
-/
import Derived.Test.YtmnegokadegioaaGreatDoorSa2
namespace Go.Proofs.YtmnegokadegioaaGreatDoor
open Go.Vm Go.Sx Go.RowKit
abbrev Bt:=List UInt8
abbrev bv8 (n:Int):BitVec IntKind.u8.bits:=BitVec.ofInt IntKind.u8.bits n
inductive Cd where
 | u8|tok|span
structure Tok where
 kind:Int
 text:List UInt8
 num:Int
 unit:List UInt8
 flag:Bool
def Den:Cd→Type
 | .u8=>UInt8
 | .tok=>Tok
 | .span=>Int×Int
def sg:Sg:=⟨Cd,Den⟩
abbrev W:=U sg
def zi1 (x:Tok):List W:=[.i .u8 x.kind,.s x.text,.i .i64 x.num,.s x.unit,.b x.flag]
def Jhw:(c:Cd)→Den c→List W
 | .u8,x=>[.i .u8 (UInt8.toNat x:Int)]
 | .tok,x=>zi1 x
 | .span,x=>[.i .i64 (Prod.fst x),.i .i64 (Prod.snd x)]
def Ze:(c:Cd)→Den c
 | .u8=>(0:UInt8)
 | .tok=>(⟨0,[],0,[],false⟩:Tok)
 | .span=>((0,0):Int×Int)
def zhN (us:List W) (k:UInt8→Prop):Prop:=match us with
 | [.i .u8 n]=>(0≤n∧n≤255)∧k (UInt8.ofNat n.toNat)
 | _=>False
def jgt (us:List W) (k:Tok→Prop):Prop:=match us with
 | [.i .u8 a,.s b,.i .i64 c,.s d,.b e]=>k ⟨a,b,c,d,e⟩
 | _=>False
def Zfh (us:List W) (k:Int×Int→Prop):Prop:=match us with
 | [.i .i64 a,.i .i64 b]=>k (a,b)
 | _=>False
def zi7:(c:Cd)→List W→(Den c→Prop)→Prop
 | .u8=>zhN
 | .tok=>jgt
 | .span=>Zfh
def ji7:(c:Cd)→List (Den c)→(List UInt8→Prop)→Prop
 | .u8,xs,k=>k xs
 | _,_,_=>False
def Zi7:(c:Cd)→List UInt8→(List (Den c)→Prop)→Prop
 | .u8,xs,k=>k xs
 | _,_,_=>False
def ZiF:(c c':Cd)→List (Den c)→(List (Den c')→Prop)→Prop
 | .u8,.u8,xs,k=>k xs
 | .tok,.tok,xs,k=>k xs
 | .span,.span,xs,k=>k xs
 | _,_,_,_=>False
def JiF:TypeId→Option Cd
 | 5=>some .u8
 | 24=>some .tok
 | 62=>some .span
 | 66=>some .span
 | _=>none
def sy:Sy sg where
 wid c:=match c with|Cd.u8=>1|Cd.tok=>5|Cd.span=>2
 wpos c:=by cases c <;> decide
 cells:=Jhw
 dflt:=Ze
 dec:=zi7
 byt:=ji7
 ofB:=Zi7
 code:=JiF
 opn _:=false
 cast:=ZiF
 len c x:=by cases c <;> rfl
 flat c x u h:=by
  cases c <;> simp only [Jhw,zi1,List.mem_cons,List.not_mem_nil,or_false] at h <;> rcases h with rfl|h <;> first|rfl|skip
  all_goals (rcases h with rfl|h <;> first|rfl|skip)
  all_goals (rcases h with rfl|h <;> first|rfl|skip)
  all_goals (rcases h with rfl|h <;> first|rfl|skip)
  all_goals (rcases h with rfl|h <;> first|rfl|skip)
 dec_ok c us k h:=by
  cases c with
  | u8=>
   change zhN us k at h;unfold zhN at h;split at h
   ·rename_i n;obtain ⟨⟨h1,h2⟩,h⟩:=h;refine ⟨_,?_,h⟩;show [U.i IntKind.u8 n]=[U.i IntKind.u8 ((UInt8.ofNat n.toNat).toNat:Int)];have:(UInt8.ofNat n.toNat).toNat=n.toNat:=by rw [UInt8.toNat_ofNat'];exact Nat.mod_eq_of_lt (by omega)
    rw [this,Int.toNat_of_nonneg h1]
   ·exact h.elim
  | tok=>
   change jgt us k at h;unfold jgt at h;split at h
   ·exact ⟨_,rfl,h⟩
   ·exact h.elim
  | span=>
   change Zfh us k at h;unfold Zfh at h;split at h
   ·exact ⟨_,rfl,h⟩
   ·exact h.elim
 byt_ok c xs k h:=by
  cases c with
  | u8=>exact ⟨xs,rfl,rfl,h⟩
  | tok=>exact h.elim
  | span=>exact h.elim
 ofB_ok c bs k h:=by
  cases c with
  | u8=>exact ⟨bs,rfl,rfl,h⟩
  | tok=>exact h.elim
  | span=>exact h.elim
 cast_ok c c' xs k h:=by
  cases c <;> cases c' <;> first|exact ⟨rfl,h⟩|exact h.elim
def za (f:Func):Code:=match f.body with
 | some c=>c
 | none=>.skip
def noL:jV sg:=fun _ _ _=>False
end Go.Proofs.YtmnegokadegioaaGreatDoor
