/- Lemmas. -/
import Derived.Test.YtplpmeednhcjkaaGreatDoorVk
namespace Go.Vk
open Go.Vm
def Even {α:Type} (f:Nat->Option α) (r:α):Prop:=∃m,∀m',m<=m'->f m'=some r
theorem Even.const {α:Type} {o:Option α} {r:α} (h:o=some r):Even (λ_=>o) r:=⟨0,λ_ _=>h⟩
theorem no {p:Prop} (h:false=true):p:=Bool.noConfusion h
theorem jgp (f k:Nat):Zec (f+1) (k+1)=Nat.beq (k%2) 0::Zec f (k / 2):=by
 show (Bool.rec (false::Zec f (k / 2)) (true::Zec f (k / 2)) (Nat.beq (k%2) 0):List Bool)=_;cases Nat.beq (k%2) 0 <;> rfl
theorem jgS {α:Type} (v:Option α):∀(f:Nat) (t:T α) (i:Nat) (k:T α->Bool),i<f->ZhZ (Zec f i) t v k=k (T.go v f t i):=by
 intro f
 induction f with
 | zero=>intro t i k h;omega
 | succ f ih=>
  intro t i k h;cases i with
  | zero=>cases t <;> rfl
  | succ j=>
   rw [jgp];have hl:j / 2<f:=by omega
   cases t with
   | e=>
    simp only [T.go];cases Nat.beq (j%2) 0
    ·show ZhZ (Zec f (j / 2)) .e v (λr=>k (.n .e none r))=_
     rw [ih _ _ _ hl];simp only [Yc];cases T.go v f .e (j / 2) <;> rfl
    ·show ZhZ (Zec f (j / 2)) .e v (λl=>k (.n l none .e))=_
     rw [ih _ _ _ hl];simp only [Qa];cases T.go v f .e (j / 2) <;> rfl
   | n l x r=>
    simp only [T.go];cases Nat.beq (j%2) 0
    ·show ZhZ (Zec f (j / 2)) r v (λr=>k (.n l x r))=_
     rw [ih _ _ _ hl];simp only [Yc];cases T.go v f r (j / 2) <;> rfl
    ·show ZhZ (Zec f (j / 2)) l v (λl=>k (.n l x r))=_
     rw [ih _ _ _ hl];simp only [Qa];cases T.go v f l (j / 2) <;> rfl
theorem ZgS {α:Type} (i:Nat) (t:T α) (v:Option α) (k:T α->Bool):ZhZ (Zeo i) t v k=k (t.upd i v):=jgS v (i+1) t i k (gk i)
theorem Jih (i:Nat) (t:T V) (v:V) (k:T V->Bool):Zjb (Zeo i) t v k=k (t.upd i (some v)):=ZgS i t (some v) k
structure Rel (mask:Nat) (JaR:List Nat) (fr:T V) (ls:List V) (fr0:T V):Prop where
 tree:∀t v,Ze6 mask t=true->fr.get t=some v->fr0.get t=some v
 loc:∀t j v,ZfA JaR t=some j->ls[j]?=some v->fr0.get t=some v
 sep:∀t j,ZfA JaR t=some j->Ze6 mask t=false
theorem Rel.drop {mask:Nat} {JaR:List Nat} {fr fr0:T V} {ls:List V} (h:Rel mask JaR fr ls fr0):Rel mask [] fr [] fr0:=
 ⟨h.tree,λt j v e=>(by cases e),λt j e=>(by cases e)⟩
section
variable {mask:Nat} {JaR:List Nat} {fr fr0:T V} {ls:List V}
end
theorem zii (st:St) (k:Nat->T Blk->Nat->Bool):JjA st k=k st.nx st.hp st.ver:=rfl
theorem ziQ (a b:Nat):low a b=cond (Nat.ble a b) a b:=rfl
theorem zeB (st:St) (id:Nat) (k:St->Bool):JhZ st id none k=k (st.kill id):=by
 unfold JhZ;rw [zii,ZgS,St.kill_eq,ziQ];cases Nat.ble st.ver id <;> rfl
