/- Lemmas. -/
import Derived.Test.YtplpmeednhcjkaaGreatDoorVi4
namespace Go.Vk
open Go.Vm
section
variable {P:Program} {ov:Ov} {ro mask:Nat} {JaR:List Nat} {fr fr0:T V} {ls:List V} {st:St}
theorem Rel.put {nt:Nat} (hr:Rel mask JaR fr ls fr0) {dst:Option Nat} {v:Option V} {k:T V->List V->Bool} (h:(zjB nt mask dst).run fr ls v k=true) :
  ∃fr0',Ja4 nt fr0 dst v=some fr0'/\∃fr' ls',Rel mask (JfA mask JaR dst) fr' ls' fr0'/\k fr' ls'=true:=by
 cases dst with
 | none=>exact ⟨fr0,rfl,fr,ls,hr,h⟩
 | some d=>
  simp only [zjB] at h;cases hd:Nat.blt d nt with
  | false=>rw [hd] at h;exact no h
  | true=>
   rw [hd] at h;have key:∀u:V,Ja4 nt fr0 (some d) v=some (fr0.upd d (some u))->(match Ze6 mask d with|true=>Zjb (Zeo d) fr u (λfr=>k fr ls)|false=>k fr (u::ls))=true->
     ∃fr0',Ja4 nt fr0 (some d) v=some fr0'/\∃fr' ls',Rel mask (JfA mask JaR (some d)) fr' ls' fr0'/\k fr' ls'=true:=by
    intro u hu hk;refine ⟨_,hu,?_⟩;simp only [JfA];cases hl:Ze6 mask d with
    | true=>
     rw [hl] at hk;dsimp only at hk;rw [Jih] at hk;refine ⟨fr.upd d (some u),ls,⟨λt v ht hg=>?_,λt j v hp hj=>?_,hr.sep⟩,hk⟩
     ·rw [Tgu] at hg |-;by_cases e:t=d
      ·rw [ya e] at hg |-;exact hg
      ·rw [ga e] at hg |-;exact hr.tree t v ht hg
     ·by_cases e:t=d
      ·subst e;rw [hr.sep t j hp] at hl;cases hl
      ·rw [Tgu,ga e];exact hr.loc t j v hp hj
    | false=>
     rw [hl] at hk;refine ⟨fr,u::ls,⟨λt v ht hg=>?_,λt j v hp hj=>?_,λt j hp=>?_⟩,hk⟩
     ·rw [Tgu];by_cases e:t=d
      ·subst e;rw [hl] at ht;cases ht
      ·rw [ga e];exact hr.tree t v ht hg
     ·simp only [ZfA] at hp;rw [Tgu];cases hq:Nat.beq d t with
      | true=>
       rw [hq] at hp;obtain rfl:=Rd hp;rw [Rc] at hq;rw [ya hq.symm];simpa using hj
      | false=>
       rw [hq] at hp;have hne:t≠d:=λe=>by subst e;rw [Nat.beq_refl] at hq;cases hq
       rw [ga hne];cases hq2:ZfA JaR t with
       | none=>rw [hq2] at hp;cases hp
       | some i=>
        rw [hq2] at hp;obtain rfl:=Rd hp;exact hr.loc t i v hq2 (by simpa using hj)
     ·simp only [ZfA] at hp;cases hq:Nat.beq d t with
      | true=>rw [Rc] at hq;subst hq;exact hl
      | false=>
       rw [hq] at hp;cases hq2:ZfA JaR t with
       | none=>rw [hq2] at hp;cases hp
       | some i=>exact hr.sep t i hq2
   cases v with
   | none=>exact key Zih (by simp only [Ja4,hd,Qa];rfl) (by cases hl:Ze6 mask d <;> (rw [hl] at h;exact h))
   | some u=>exact key u (by simp only [Ja4,hd,Qa,V.force_eq]) (by cases hl:Ze6 mask d <;> (rw [hl] at h;exact h))
end
