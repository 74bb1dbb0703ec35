/-
 The faster evaluator tells nothing but what the evaluator tells: frames, operands, memory. Nothing is claimed here.
-/
import Derived.Test.YtmnegokadegioaaGreatDoorVk
namespace Go.Vk
open Go.Vm
def Even {α:Type} (f:Nat→Option α) (r:α):Prop:=∃m,∀m',m≤m'→f m'=some r
theorem Even.const {α:Type} {o:Option α} {r:α} (h:o=some r):Even (fun _=>o) r:=⟨0,fun _ _=>h⟩
theorem no {p:Prop} (h:false=true):p:=Bool.noConfusion h
theorem Zf0 (f k:Nat):zdX (f+1) (k+1)=Nat.beq (k%2) 0::zdX f (k / 2):=by
 show (Bool.rec (false::zdX f (k / 2)) (true::zdX f (k / 2)) (Nat.beq (k%2) 0):List Bool)=_;cases Nat.beq (k%2) 0 <;> rfl
theorem Jgt {α:Type} (v:Option α):∀(f:Nat) (t:T α) (i:Nat) (k:T α→Bool),i<f→zhx (zdX f i) t v k=k (T.go v f t i):=by
 intro f
 induction f with
 | zero=>intro t i k h;omega
 | succ f ih=>
  intro t i k h;cases i with
  | zero=>cases t <;> rfl
  | succ j=>
   rw [Zf0];have hl:j / 2<f:=by omega
   cases t with
   | e=>
    simp only [T.go];cases Nat.beq (j%2) 0
    ·show zhx (zdX f (j / 2)) .e v (fun r=>k (.n .e none r))=_
     rw [ih _ _ _ hl];simp only [cond_false];cases T.go v f .e (j / 2) <;> rfl
    ·show zhx (zdX f (j / 2)) .e v (fun l=>k (.n l none .e))=_
     rw [ih _ _ _ hl];simp only [cond_true];cases T.go v f .e (j / 2) <;> rfl
   | n l x r=>
    simp only [T.go];cases Nat.beq (j%2) 0
    ·show zhx (zdX f (j / 2)) r v (fun r=>k (.n l x r))=_
     rw [ih _ _ _ hl];simp only [cond_false];cases T.go v f r (j / 2) <;> rfl
    ·show zhx (zdX f (j / 2)) l v (fun l=>k (.n l x r))=_
     rw [ih _ _ _ hl];simp only [cond_true];cases T.go v f l (j / 2) <;> rfl
theorem zgu {α:Type} (i:Nat) (t:T α) (v:Option α) (k:T α→Bool):zhx (Zd8 i) t v k=k (t.upd i v):=Jgt v (i+1) t i k (Nat.lt_succ_self i)
theorem ZhN (i:Nat) (t:T V) (v:V) (k:T V→Bool):JiB (Zd8 i) t v k=k (t.upd i (some v)):=zgu i t (some v) k
structure Rel (mask:Nat) (ZaN:List Nat) (fr:T V) (ls:List V) (fr0:T V):Prop where
 tree:∀t v,jeP mask t=true→fr.get t=some v→fr0.get t=some v
 loc:∀t j v,Jfh ZaN t=some j→ls[j]?=some v→fr0.get t=some v
 sep:∀t j,Jfh ZaN t=some j→jeP mask t=false
theorem Rel.drop {mask:Nat} {ZaN:List Nat} {fr fr0:T V} {ls:List V} (h:Rel mask ZaN fr ls fr0):Rel mask [] fr [] fr0:=
 ⟨h.tree,fun t j v e=>(by cases e),fun t j e=>(by cases e)⟩
section
variable {mask:Nat} {ZaN:List Nat} {fr fr0:T V} {ls:List V}
end
theorem JhN (st:St) (k:Nat→T Blk→Nat→Bool):ji1 st k=k st.nx st.hp st.ver:=rfl
theorem zij (a b:Nat):low a b=cond (Nat.ble a b) a b:=rfl
theorem zej (st:St) (id:Nat) (k:St→Bool):jhx st id none k=k (st.kill id):=by
 unfold jhx;rw [JhN,zgu,St.kill_eq,zij];cases Nat.ble st.ver id <;> rfl
end Go.Vk
