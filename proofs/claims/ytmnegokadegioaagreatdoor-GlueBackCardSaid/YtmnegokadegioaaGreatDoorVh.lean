/-
 The faster evaluator tells nothing but what the evaluator tells: operations, one behind the other. Nothing is claimed here.
-/
import Derived.Test.YtmnegokadegioaaGreatDoorVi4
namespace Go.Vk
open Go.Vm
section
variable {P:Program} {ov:Ov} {ro mask:Nat} {ZaN:List Nat} {fr fr0:T V} {ls:List V} {st:St}
theorem Rel.put {nt:Nat} (hr:Rel mask ZaN fr ls fr0) {dst:Option Nat} {v:Option V} {k:T V→List V→Bool} (h:(Zi1 nt mask dst).run fr ls v k=true) :
  ∃fr0',jaZ nt fr0 dst v=some fr0'∧∃fr' ls',Rel mask (zfi mask ZaN dst) fr' ls' fr0'∧k fr' ls'=true:=by
 cases dst with
 | none=>exact ⟨fr0,rfl,fr,ls,hr,h⟩
 | some d=>
  simp only [Zi1] at h;cases hd:Nat.blt d nt with
  | false=>rw [hd] at h;exact no h
  | true=>
   rw [hd] at h;have key:∀u:V,jaZ nt fr0 (some d) v=some (fr0.upd d (some u))→(match jeP mask d with|true=>JiB (Zd8 d) fr u (fun fr=>k fr ls)|false=>k fr (u::ls))=true→
     ∃fr0',jaZ nt fr0 (some d) v=some fr0'∧∃fr' ls',Rel mask (zfi mask ZaN (some d)) fr' ls' fr0'∧k fr' ls'=true:=by
    intro u hu hk;refine ⟨_,hu,?_⟩;simp only [zfi];cases hl:jeP mask d with
    | true=>
     rw [hl] at hk;dsimp only at hk;rw [ZhN] at hk;refine ⟨fr.upd d (some u),ls,⟨fun t v ht hg=>?_,fun t j v hp hj=>?_,hr.sep⟩,hk⟩
     ·rw [T.get_upd] at hg ⊢;by_cases e:t=d
      ·rw [if_pos e] at hg ⊢;exact hg
      ·rw [if_neg e] at hg ⊢;exact hr.tree t v ht hg
     ·by_cases e:t=d
      ·subst e;rw [hr.sep t j hp] at hl;cases hl
      ·rw [T.get_upd,if_neg e];exact hr.loc t j v hp hj
    | false=>
     rw [hl] at hk;refine ⟨fr,u::ls,⟨fun t v ht hg=>?_,fun t j v hp hj=>?_,fun t j hp=>?_⟩,hk⟩
     ·rw [T.get_upd];by_cases e:t=d
      ·subst e;rw [hl] at ht;cases ht
      ·rw [if_neg e];exact hr.tree t v ht hg
     ·simp only [Jfh] at hp;rw [T.get_upd];cases hq:Nat.beq d t with
      | true=>
       rw [hq] at hp;obtain rfl:=Option.some.inj hp;rw [Nat.beq_eq] at hq;rw [if_pos hq.symm];simpa using hj
      | false=>
       rw [hq] at hp;have hne:t≠d:=fun e=>by subst e;rw [Nat.beq_refl] at hq;cases hq
       rw [if_neg hne];cases hq2:Jfh ZaN t with
       | none=>rw [hq2] at hp;cases hp
       | some i=>
        rw [hq2] at hp;obtain rfl:=Option.some.inj hp;exact hr.loc t i v hq2 (by simpa using hj)
     ·simp only [Jfh] at hp;cases hq:Nat.beq d t with
      | true=>rw [Nat.beq_eq] at hq;subst hq;exact hl
      | false=>
       rw [hq] at hp;cases hq2:Jfh ZaN t with
       | none=>rw [hq2] at hp;cases hp
       | some i=>exact hr.sep t i hq2
   cases v with
   | none=>exact key jhN (by simp only [jaZ,hd,cond_true];rfl) (by cases hl:jeP mask d <;> (rw [hl] at h;exact h))
   | some u=>exact key u (by simp only [jaZ,hd,cond_true,V.force_eq]) (by cases hl:jeP mask d <;> (rw [hl] at h;exact h))
end
end Go.Vk
