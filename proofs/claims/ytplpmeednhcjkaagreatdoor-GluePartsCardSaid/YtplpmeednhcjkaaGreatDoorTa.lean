/- Lemmas. -/
import Derived.Test.YtplpmeednhcjkaaGreatDoorSa2
namespace Go.Proofs.YtplpmeednhcjkaaGreatDoor
open Go.Vm Go.Sx Go.RowKit
abbrev Bt:=List UInt8
abbrev bv8 (n:Int):BitVec IntKind.u8.bits:=BitVec.ofInt IntKind.u8.bits n
inductive Cd where
 | u8|tok|span
structure Tok where
 kind:Int
 text:List UInt8
 num:Int
 unit:List UInt8
 flag:Bool
def Den:Cd->Type
 | .u8=>UInt8
 | .tok=>Tok
 | .span=>Int×Int
def sg:Sg:=⟨Cd,Den⟩
abbrev W:=U sg
def ZjA (x:Tok):List W:=[.i .u8 x.kind,.s x.text,.i .i64 x.num,.s x.unit,.b x.flag]
def jhZ:(c:Cd)->Den c->List W
 | .u8,x=>[.i .u8 (UInt8.toNat x:Int)]
 | .tok,x=>ZjA x
 | .span,x=>[.i .i64 (Prod.fst x),.i .i64 (Prod.snd x)]
def Ze:(c:Cd)->Den c
 | .u8=>(0:UInt8)
 | .tok=>(⟨0,[],0,[],false⟩:Tok)
 | .span=>((0,0):Int×Int)
def jih (us:List W) (k:UInt8->Prop):Prop:=match us with
 | [.i .u8 n]=>(0<=n/\n<=255)/\k (UInt8.ofNat n.toNat)
 | _=>False
def JgR (us:List W) (k:Tok->Prop):Prop:=match us with
 | [.i .u8 a,.s b,.i .i64 c,.s d,.b e]=>k ⟨a,b,c,d,e⟩
 | _=>False
def jfA (us:List W) (k:Int×Int->Prop):Prop:=match us with
 | [.i .i64 a,.i .i64 b]=>k (a,b)
 | _=>False
def ZjG:(c:Cd)->List W->(Den c->Prop)->Prop
 | .u8=>jih
 | .tok=>JgR
 | .span=>jfA
def JjG:(c:Cd)->List (Den c)->(List UInt8->Prop)->Prop
 | .u8,xs,k=>k xs
 | _,_,_=>False
def zjH:(c:Cd)->List UInt8->(List (Den c)->Prop)->Prop
 | .u8,xs,k=>k xs
 | _,_,_=>False
def jjf:(c c':Cd)->List (Den c)->(List (Den c')->Prop)->Prop
 | .u8,.u8,xs,k=>k xs
 | .tok,.tok,xs,k=>k xs
 | .span,.span,xs,k=>k xs
 | _,_,_,_=>False
def Zjf:TypeId->Option Cd
 | 5=>some .u8
 | 34=>some .tok
 | 47=>some .span
 | 55=>some .span
 | _=>none
def sy:Sy sg where
 wid c:=match c with|Cd.u8=>1|Cd.tok=>5|Cd.span=>2
 wpos c:=by cases c <;> decide
 cells:=jhZ
 dflt:=Ze
 dec:=ZjG
 byt:=JjG
 ofB:=zjH
 code:=Zjf
 opn _:=false
 cast:=jjf
 len c x:=by cases c <;> rfl
 flat c x u h:=by
  cases c <;> simp only [jhZ,ZjA,gc,Qe,or_false] at h <;> rcases h with rfl|h <;> first|rfl|skip
  all_goals (rcases h with rfl|h <;> first|rfl|skip)
  all_goals (rcases h with rfl|h <;> first|rfl|skip)
  all_goals (rcases h with rfl|h <;> first|rfl|skip)
  all_goals (rcases h with rfl|h <;> first|rfl|skip)
 dec_ok c us k h:=by
  cases c with
  | u8=>
   change jih us k at h;unfold jih at h;split at h
   ·rename_i n;obtain ⟨⟨h1,h2⟩,h⟩:=h;refine ⟨_,?_,h⟩;show [U.i IntKind.u8 n]=[U.i IntKind.u8 ((UInt8.ofNat n.toNat).toNat:Int)];have:(UInt8.ofNat n.toNat).toNat=n.toNat:=by rw [Qo];exact Hm (by omega)
    rw [this,Int.toNat_of_nonneg h1]
   ·exact h.elim
  | tok=>
   change JgR us k at h;unfold JgR at h;split at h
   ·exact ⟨_,rfl,h⟩
   ·exact h.elim
  | span=>
   change jfA us k at h;unfold jfA at h;split at h
   ·exact ⟨_,rfl,h⟩
   ·exact h.elim
 byt_ok c xs k h:=by
  cases c with
  | u8=>exact ⟨xs,rfl,rfl,h⟩
  | tok=>exact h.elim
  | span=>exact h.elim
 ofB_ok c bs k h:=by
  cases c with
  | u8=>exact ⟨bs,rfl,rfl,h⟩
  | tok=>exact h.elim
  | span=>exact h.elim
 cast_ok c c' xs k h:=by
  cases c <;> cases c' <;> first|exact ⟨rfl,h⟩|exact h.elim
def za (f:Func):Code:=match f.body with
 | some c=>c
 | none=>.skip
def noL:ZY sg:=λ_ _ _=>False
