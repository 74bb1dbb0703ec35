/- Lemmas. -/
import Derived.Test.YtplpmeednhcjkaaGreatDoorVa3
namespace Go.Vk
open Go.Vm
abbrev zgS:=FuncId->List V->St->(V->St->Bool)->Bool
noncomputable def ifB (x t f:Bool):Bool:=Bool.rec f t x
noncomputable def Zec (f:Nat):Nat->List Bool:=
 Nat.rec (motive:=λ_=>Nat->List Bool) (λ_=>[])
  (λ_ ih i=>Nat.rec (motive:=λ_=>List Bool) [] (λk _=>Bool.rec (motive:=λ_=>List Bool) (false::ih (k / 2)) (true::ih (k / 2)) (Nat.beq (k%2) 0)) i) f
noncomputable def Zeo (i:Nat):List Bool:=Zec (i+1) i
noncomputable def getD {α:Type} (p:List Bool) (t:T α) (k:α->Bool) (d:Bool):Bool:=
 List.rec (motive:=λ_=>T α->Bool)
  (λt=>T.rec (motive:=λ_=>Bool) d (λ_ v _ _ _=>Option.rec d k v) t)
  (λb _ ih t=>T.rec (motive:=λ_=>Bool) d (λl _ r _ _=>Bool.rec (ih r) (ih l) b) t) p t
noncomputable def ZhZ {α:Type} (p:List Bool) (t:T α) (v:Option α) (k:T α->Bool):Bool:=
 List.rec (motive:=λ_=>T α->(T α->Bool)->Bool)
  (λt k=>T.rec (motive:=λ_=>Bool) (k (.n .e v .e)) (λl _ r _ _=>k (.n l v r)) t)
  (λb _ ih t k=>Bool.rec
   (T.rec (motive:=λ_=>Bool) (ih .e λr=>k (.n .e none r)) (λl x r _ _=>ih r λr=>k (.n l x r)) t)
   (T.rec (motive:=λ_=>Bool) (ih .e λl=>k (.n l none .e)) (λl x r _ _=>ih l λl=>k (.n l x r)) t) b) p t k
noncomputable def Zjb (p:List Bool) (t:T V) (v:V) (k:T V->Bool):Bool:=ZhZ p t (some v) k
structure KOpd where
 run:T V->List V->(V->Bool)->Bool
structure KOpds where
 run:T V->List V->(List V->Bool)->Bool
structure KOpdO where
 run:T V->List V->(Option V->Bool)->Bool
structure KParts where
 run:T V->List V->(List (Nat×V)->Bool)->Bool
def ZfA:List Nat->Nat->Option Nat
 | [],_=>none
 | x::r,t=>match Nat.beq x t with
  | true=>some 0
  | false=>match ZfA r t with
   | some j=>some (j+1)
   | none=>none
def Ze6 (mask t:Nat):Bool:=Nat.beq (mask / 2^t%2) 1
section
variable (mask:Nat) (JaR:List Nat)
end
structure KBin where
 run:V->V->(V->Bool)->Bool
noncomputable def JjA (st:St) (k:Nat->T Blk->Nat->Bool):Bool:=St.rec (motive:=λ_=>Bool) k st
noncomputable def JhZ (st:St) (id:Nat) (b:Option Blk) (k:St->Bool):Bool:=JjA st λnx hp ver=>ZhZ (Zeo id) hp b λhp=>ifB (Nat.ble ver id) (k ⟨nx,hp,ver⟩) (k ⟨nx,hp,id⟩)
structure KLoad where
 run:St->Nat->Nat->(V->Bool)->Bool
structure KStore where
 run:St->Nat->Nat->V->(St->Bool)->Bool
structure KOne where
 run:St->V->(V->St->Bool)->Bool
structure KApp where
 run:St->V->V->(V->St->Bool)->Bool
structure KConv where
 run:St->V->(V->St->Bool)->Bool
structure KO where
 run:zgS->T V->List V->St->(Option V->St->Bool)->Bool
section
variable (P:Program) (ro mask:Nat) (JaR:List Nat)
end
structure KPut where
 run:T V->List V->Option V->(T V->List V->Bool)->Bool
def Zih:V:=.t []
noncomputable def zjB (nt mask:Nat):Option Nat->KPut
 | none=>⟨λfr ls _ k=>k fr ls⟩
 | some d=>match Nat.blt d nt with
  | true=>match Ze6 mask d with
   | true=>⟨λfr ls v k=>Option.rec (motive:=λ_=>Bool) (Zjb (Zeo d) fr Zih λfr=>k fr ls) (λv=>Zjb (Zeo d) fr v λfr=>k fr ls) v⟩
   | false=>⟨λfr ls v k=>Option.rec (motive:=λ_=>Bool) (k fr (Zih::ls)) (λv=>k fr (v::ls)) v⟩
  | false=>⟨λ_ _ _ _=>false⟩
def JfA (mask:Nat) (JaR:List Nat):Option Nat->List Nat
 | none=>JaR
 | some d=>match Ze6 mask d with
  | true=>JaR
  | false=>d::JaR
structure KW where
 run:T V->List V->Bool->Bool->Bool
structure KR where
 run:zgS->T V->List V->St->(T V->St->Bool)->Bool
structure KRE where
 run:zgS->T V->List V->List Ent->St->(T V->St->Bool)->Bool
structure KB where
 run:zgS->T V->St->(T V->St->Bool)->(Ex->T V->St->Bool)->Bool
structure KRes where
 run:T V->St->(List V->Bool)->Bool
structure KF where
 run:zgS->List V->St->(V->St->Bool)->Bool
