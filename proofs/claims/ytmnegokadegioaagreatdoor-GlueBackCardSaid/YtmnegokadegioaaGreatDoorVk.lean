/-
 A faster evaluator: code is turned into functions once, and run by continuation. Definitions. Nothing is claimed here.
-/
import Derived.Test.YtmnegokadegioaaGreatDoorVa3
namespace Go.Vk
open Go.Vm
abbrev Zgt:=FuncId→List V→St→(V→St→Bool)→Bool
noncomputable def ifB (x t f:Bool):Bool:=Bool.rec f t x
noncomputable def zdX (f:Nat):Nat→List Bool:=
 Nat.rec (motive:=fun _=>Nat→List Bool) (fun _=>[])
  (fun _ ih i=>Nat.rec (motive:=fun _=>List Bool) [] (fun k _=>Bool.rec (motive:=fun _=>List Bool) (false::ih (k / 2)) (true::ih (k / 2)) (Nat.beq (k%2) 0)) i) f
noncomputable def Zd8 (i:Nat):List Bool:=zdX (i+1) i
noncomputable def getD {α:Type} (p:List Bool) (t:T α) (k:α→Bool) (d:Bool):Bool:=
 List.rec (motive:=fun _=>T α→Bool)
  (fun t=>T.rec (motive:=fun _=>Bool) d (fun _ v _ _ _=>Option.rec d k v) t)
  (fun b _ ih t=>T.rec (motive:=fun _=>Bool) d (fun l _ r _ _=>Bool.rec (ih r) (ih l) b) t) p t
noncomputable def zhx {α:Type} (p:List Bool) (t:T α) (v:Option α) (k:T α→Bool):Bool:=
 List.rec (motive:=fun _=>T α→(T α→Bool)→Bool)
  (fun t k=>T.rec (motive:=fun _=>Bool) (k (.n .e v .e)) (fun l _ r _ _=>k (.n l v r)) t)
  (fun b _ ih t k=>Bool.rec
   (T.rec (motive:=fun _=>Bool) (ih .e fun r=>k (.n .e none r)) (fun l x r _ _=>ih r fun r=>k (.n l x r)) t)
   (T.rec (motive:=fun _=>Bool) (ih .e fun l=>k (.n l none .e)) (fun l x r _ _=>ih l fun l=>k (.n l x r)) t) b) p t k
noncomputable def JiB (p:List Bool) (t:T V) (v:V) (k:T V→Bool):Bool:=zhx p t (some v) k
structure KOpd where
 run:T V→List V→(V→Bool)→Bool
structure KOpds where
 run:T V→List V→(List V→Bool)→Bool
structure KOpdO where
 run:T V→List V→(Option V→Bool)→Bool
structure KParts where
 run:T V→List V→(List (Nat×V)→Bool)→Bool
def Jfh:List Nat→Nat→Option Nat
 | [],_=>none
 | x::r,t=>match Nat.beq x t with
  | true=>some 0
  | false=>match Jfh r t with
   | some j=>some (j+1)
   | none=>none
def jeP (mask t:Nat):Bool:=Nat.beq (mask / 2^t%2) 1
section
variable (mask:Nat) (ZaN:List Nat)
end
structure KBin where
 run:V→V→(V→Bool)→Bool
noncomputable def ji1 (st:St) (k:Nat→T Blk→Nat→Bool):Bool:=St.rec (motive:=fun _=>Bool) k st
noncomputable def jhx (st:St) (id:Nat) (b:Option Blk) (k:St→Bool):Bool:=ji1 st fun nx hp ver=>zhx (Zd8 id) hp b fun hp=>ifB (Nat.ble ver id) (k ⟨nx,hp,ver⟩) (k ⟨nx,hp,id⟩)
structure KLoad where
 run:St→Nat→Nat→(V→Bool)→Bool
structure KStore where
 run:St→Nat→Nat→V→(St→Bool)→Bool
structure KOne where
 run:St→V→(V→St→Bool)→Bool
structure KApp where
 run:St→V→V→(V→St→Bool)→Bool
structure KConv where
 run:St→V→(V→St→Bool)→Bool
structure KO where
 run:Zgt→T V→List V→St→(Option V→St→Bool)→Bool
section
variable (P:Program) (ro mask:Nat) (ZaN:List Nat)
end
structure KPut where
 run:T V→List V→Option V→(T V→List V→Bool)→Bool
def jhN:V:=.t []
noncomputable def Zi1 (nt mask:Nat):Option Nat→KPut
 | none=>⟨fun fr ls _ k=>k fr ls⟩
 | some d=>match Nat.blt d nt with
  | true=>match jeP mask d with
   | true=>⟨fun fr ls v k=>Option.rec (motive:=fun _=>Bool) (JiB (Zd8 d) fr jhN fun fr=>k fr ls) (fun v=>JiB (Zd8 d) fr v fun fr=>k fr ls) v⟩
   | false=>⟨fun fr ls v k=>Option.rec (motive:=fun _=>Bool) (k fr (jhN::ls)) (fun v=>k fr (v::ls)) v⟩
  | false=>⟨fun _ _ _ _=>false⟩
def zfi (mask:Nat) (ZaN:List Nat):Option Nat→List Nat
 | none=>ZaN
 | some d=>match jeP mask d with
  | true=>ZaN
  | false=>d::ZaN
structure KW where
 run:T V→List V→Bool→Bool→Bool
structure KR where
 run:Zgt→T V→List V→St→(T V→St→Bool)→Bool
structure KRE where
 run:Zgt→T V→List V→List Ent→St→(T V→St→Bool)→Bool
structure KB where
 run:Zgt→T V→St→(T V→St→Bool)→(Ex→T V→St→Bool)→Bool
structure KRes where
 run:T V→St→(List V→Bool)→Bool
structure KF where
 run:Zgt→List V→St→(V→St→Bool)→Bool
end Go.Vk
