/- Lemmas. -/
import Derived.Test.YtplpmeednhcjkaaGreatDoorVa3
import Derived.WalkKit
import Derived.ProofKit
import Derived.OpenShut
namespace Go.Vm
open Go.RowKit Go.ChangeShapes Go.WideShapes Go.ChangeAt
open Go.ChangeMaps (open_string shut_string)
theorem jht {H:Type} {enc:TypeId×Value->H} {P:Program} {f:Func} {s:ChangeSpec} {W W':World} {args:Array Value} {ds:List (DataW H)} {pa:List MemPlace} {tb:TypeId}
  (hv:s.vars=[]) (hW:DataW.Whole enc P f.params.toList s.vars false W args.toList ds [] pa) (hfn:s.fn H (ds++[]) = { results:=[.lit (.bool true)],args:=ds })
  (hrt:f.resultTypes = #[tb]) (ht:P.underlying tb=some .bool) (hargs:DataW.TrodAll enc P W' 0 (λb=>decide (b<W.heap.size)) true f.params.toList args.toList ds pa) (hb:Below W.heap.size W W') :
  s.post enc P f false true false false W args (.bool true) W':=by
 refine ⟨ds,[],pa,[],pa,[],hW,?_,?_,?_,?_,λq=>by cases q⟩
 ·rw [hfn,hrt];exact trodAll_cons_mk (shut_bool ht true) trodAll_mk0
 ·rw [hfn];exact hargs
 ·rw [hfn,hv];rfl
 ·exact hb.frame _
end Go.Vm
namespace Go.Vm
theorem T.get_same {α:Type} {t:T α} {i:Nat} {x:Option α}:(t.upd i x).get i=x:=by rw [Tgu,ya rfl]
section
variable (P:Program) (ov:Ov) (ro:Nat)
def Ev (n:Nat) (f:FuncId) (args:List V) (st:St) (Q:V->St->Prop):Prop:=∃v st',evF P ov ro n f args st=some (v,st')/\Q v st'
def Wp (n nt:Nat) (c:Code) (fr:T V) (st:St) (Q:Ex->T V->St->Prop):Prop:=∃e fr' st',evC P ov ro n nt c fr st=some (e,fr',st')/\Q e fr' st'
def Ops (n nt:Nat) (ops:Array Oper) (l:List Oper) (fr:T V) (st:St) (K:T V->St->Prop):Prop:=∃fr' st',Jdu P ro nt (evF P ov ro n) ops l fr st=some (fr',st')/\K fr' st'
def OpsQ (n nt:Nat) (ops:Array Oper) (l:List Oper) (fr:T V) (st:St) (K:T V->Prop):Prop:=∃fr',ZaR P ro nt (evF P ov ro n) ops l fr st=some fr'/\K fr'
end
section
variable {P:Program} {ov:Ov} {ro n nt:Nat}
theorem Ev.mono {f:FuncId} {args:List V} {st:St} {Q Q':V->St->Prop} (h:Ev P ov ro n f args st Q) (hq:∀v st',Q v st'->Q' v st'):Ev P ov ro n f args st Q':=
 let ⟨v,st',h1,h2⟩:=h;⟨v,st',h1,hq _ _ h2⟩
theorem Ev.known {f:FuncId} {args:List V} {st st1:St} {v:V} (ho:ov f args st=some (v,st1)):Ev P ov ro n f args st (λu st'=>u=v/\st'=st1):=
 ⟨v,st1,by unfold evF ZS;simp only [ho],rfl,rfl⟩
theorem zic:(evF P ov ro n)=ZS P ov (evC P ov ro n):=rfl
def Fin (P:Program) (fn:Func) (Q:V->St->Prop) (e:Ex) (fr:T V) (st:St):Prop:=
 match e with
 | .nrm|.ret=>∃vs,JG P fr st fn.results.toList=some vs/\Q (zcn vs) st
 | _=>False
theorem Ev.enter {f:FuncId} {fn:Func} {c:Code} {args:List V} {st:St} {Q:V->St->Prop} {nt:Nat} {fr:T V} (ho:ov f args st=none) (hf:P.funcs[f]?=some fn) (hb:fn.body=some c) (hnt:fn.ntmps=nt) (hl:Nat.ble args.length nt=true)
  (hfr:jaK args 0 .e=fr) (h:Wp P ov ro n nt c fr st (Fin P fn Q)):Ev P ov ro n f args st Q:=by
 subst hnt hfr;obtain ⟨e,fr',st',h1,h2⟩:=h;have key:∀e,evC P ov ro n fn.ntmps c (jaK args 0 .e) st=some (e,fr',st')->Fin P fn Q e fr' st'->Ev P ov ro n f args st Q:=by
  intro e h1 h2;cases e <;> simp only [Fin] at h2
  all_goals
   obtain ⟨vs,h3,h4⟩:=h2;exact ⟨_,_,by unfold evF ZS;simp only [ho,hf,hb,hl,Qa,h1,h3],h4⟩
 exact key e h1 h2
theorem Wp.mono {c:Code} {fr:T V} {st:St} {Q Q':Ex->T V->St->Prop} (h:Wp P ov ro n nt c fr st Q) (hq:∀e fr st,Q e fr st->Q' e fr st):Wp P ov ro n nt c fr st Q':=
 let ⟨e,fr',st',h1,h2⟩:=h;⟨e,fr',st',h1,hq _ _ _ h2⟩
def jjG (P:Program) (ov:Ov) (ro n nt:Nat) (b:Code) (Q:Ex->T V->St->Prop):Ex->T V->St->Prop
 | .nrm,fr,st=>Wp P ov ro n nt b fr st Q
 | e,fr,st=>Q e fr st
theorem Wp.seq {a b:Code} {fr:T V} {st:St} {Q:Ex->T V->St->Prop} (h:Wp P ov ro n nt a fr st (jjG P ov ro n nt b Q)):Wp P ov ro (n+1) nt (.seq a b) fr st Q:=by
 obtain ⟨e,fr',st',h1,h2⟩:=h;cases e with
 | nrm=>
  obtain ⟨e2,fr2,st2,h3,h4⟩:=h2;exact ⟨e2,fr2,st2,by simp only [evC,h1,h3],h4⟩
 | _=>exact ⟨_,fr',st',by simp only [evC,h1],h2⟩
theorem Wp.skip {fr:T V} {st:St} {Q:Ex->T V->St->Prop} (h:Q .nrm fr st):Wp P ov ro (n+1) nt .skip fr st Q:=⟨_,_,_,rfl,h⟩
theorem Wp.label {l:Nat} {fr:T V} {st:St} {Q:Ex->T V->St->Prop} (h:Q .nrm fr st):Wp P ov ro (n+1) nt (.label l) fr st Q:=⟨_,_,_,rfl,h⟩
theorem Wp.exit {i:Nat} {fr:T V} {st:St} {Q:Ex->T V->St->Prop} (h:Q (.exit i) fr st):Wp P ov ro (n+1) nt (.exit i) fr st Q:=⟨_,_,_,rfl,h⟩
theorem Wp.goto {i:Nat} {fr:T V} {st:St} {Q:Ex->T V->St->Prop} (h:Q (.goto i) fr st):Wp P ov ro (n+1) nt (.goto i) fr st Q:=⟨_,_,_,rfl,h⟩
theorem Wp.ret {fr:T V} {st:St} {Q:Ex->T V->St->Prop} (h:Q .ret fr st):Wp P ov ro (n+1) nt .ret fr st Q:=⟨_,_,_,rfl,h⟩
theorem Wp.cond {c:Operand} {a b:Code} {fr:T V} {st:St} {Q:Ex->T V->St->Prop} {x:Bool} (hx:zL fr c=some (.b x)) (ht:x=true->Wp P ov ro n nt a fr st Q) (hf:x=false->Wp P ov ro n nt b fr st Q) :
  Wp P ov ro (n+1) nt (.cond c a b) fr st Q:=by
 cases x with
 | true=>
  obtain ⟨e,fr',st',h1,h2⟩:=ht rfl;exact ⟨e,fr',st',by simp only [evC,hx,h1],h2⟩
 | false=>
  obtain ⟨e,fr',st',h1,h2⟩:=hf rfl;exact ⟨e,fr',st',by simp only [evC,hx,h1],h2⟩
def Out (i:Nat) (Q:Ex->T V->St->Prop):Ex->T V->St->Prop
 | .exit j,fr,st=>match Nat.beq j i with
  | true=>Q .nrm fr st
  | false=>Q (.exit j) fr st
 | e,fr,st=>Q e fr st
theorem Wp.block {i:Nat} {b:Code} {fr:T V} {st:St} {Q:Ex->T V->St->Prop} (h:Wp P ov ro n nt b fr st (Out i Q)):Wp P ov ro (n+1) nt (.block i b) fr st Q:=by
 obtain ⟨e,fr',st',h1,h2⟩:=h;cases e with
 | exit j=>
  simp only [Out] at h2;cases hj:Nat.beq j i with
  | true=>simp only [hj] at h2;exact ⟨.nrm,fr',st',by simp only [evC,h1,hj,Qa],h2⟩
  | false=>simp only [hj] at h2;exact ⟨.exit j,fr',st',by simp only [evC,h1,hj,Yc],h2⟩
 | _=>exact ⟨_,fr',st',by simp only [evC,h1],h2⟩
def zhu (Q:Ex->T V->St->Prop):Ex->T V->St->Prop
 | .goto _,_,_=>False
 | e,fr,st=>Q e fr st
theorem Wp.scope {b:Code} {fr:T V} {st:St} {Q:Ex->T V->St->Prop} (h:Wp P ov ro (n+1) nt b fr st (zhu Q)):Wp P ov ro (n+2) nt (.scope b) fr st Q:=by
 obtain ⟨e,fr',st',h1,h2⟩:=h;cases e with
 | goto l=>exact h2.elim
 | _=>exact ⟨_,fr',st',by rw [show evC P ov ro (n+2) nt (.scope b) fr st=jaT (evC P ov ro (n+1) nt) b (n+1) b fr st from rfl];simp only [jaT,h1],h2⟩
def jjd (I:Nat->T V->St->Prop) (k:Nat) (Q:Ex->T V->St->Prop):Ex->T V->St->Prop
 | .nrm,fr,st=>∃k',k'<k/\I k' fr st
 | e,fr,st=>Q e fr st
theorem Wp.loop {I:Nat->T V->St->Prop} {b:Code} {fr:T V} {st:St} {Q:Ex->T V->St->Prop} (k:Nat) (hk:k<n) (h0:I k fr st) (step:∀k fr st,I k fr st->Wp P ov ro n nt b fr st (jjd I k Q)) :
  Wp P ov ro (n+1) nt (.loop b) fr st Q:=by
 have key:∀(m k:Nat) (fr:T V) (st:St),k<m->I k fr st->∃e fr' st',Zbv (evC P ov ro n nt b) m fr st=some (e,fr',st')/\Q e fr' st':=by
  intro m
  induction m with
  | zero=>intro k fr st h;omega
  | succ m ih=>
   intro k fr st hk hI;obtain ⟨e,fr',st',h1,h2⟩:=step k fr st hI;cases e with
   | nrm=>
    obtain ⟨k',hk',hI'⟩:=h2;obtain ⟨e2,fr2,st2,h3,h4⟩:=ih k' fr' st' (by omega) hI'
    exact ⟨e2,fr2,st2,by simp only [Zbv,h1,h3],h4⟩
   | _=>exact ⟨_,fr',st',by simp only [Zbv,h1],h2⟩
 obtain ⟨e,fr',st',h1,h2⟩:=key n k fr st hk h0;exact ⟨e,fr',st',by simp only [evC,h1],h2⟩
theorem Wp.region {i:Nat} {ops:Array Oper} {l:List Oper} {fr:T V} {st:St} {Q:Ex->T V->St->Prop} (hl:ops.toList=l) (h:Ops P ov ro n nt ops l fr st (λfr st=>Q .nrm fr st)):Wp P ov ro (n+1) nt (.region i ops false) fr st Q:=by
 subst hl;obtain ⟨fr',st',h1,h2⟩:=h;exact ⟨.nrm,fr',st',by simp only [evC];rw [<-zic,h1],h2⟩
theorem Ops.nil {ops:Array Oper} {fr:T V} {st:St} {K:T V->St->Prop} (h:K fr st):Ops P ov ro n nt ops [] fr st K:=⟨fr,st,rfl,h⟩
theorem OpsQ.nil {ops:Array Oper} {fr:T V} {st:St} {K:T V->Prop} (h:K fr):OpsQ P ov ro n nt ops [] fr st K:=⟨fr,rfl,h⟩
def Val (P:Program) (ro:Nat) (call:jbv) (fr:T V) (op:Op) (v:V):Prop:=Jak op=true/\∀st,vop P ro call fr st op=some (some v,st)
theorem Ops.val {ops:Array Oper} {l:List Oper} {fr:T V} {st:St} {K:T V->St->Prop} {d:Nat} {op:Op} {ty:TypeId} {pos:String} {after:Array Edge} {v:V} (h:Val P ro (evF P ov ro n) fr op v) (hd:Nat.blt d nt=true)
  (k:Ops P ov ro n nt ops l (fr.upd d (some v)) st K):Ops P ov ro n nt ops (⟨some d,op,ty,pos,after,none⟩::l) fr st K:=by
 obtain ⟨fr',st',h1,h2⟩:=k;exact ⟨fr',st',by simp only [Jdu,ZG,h.2 st,Ja4,hd,Qa,V.force_eq,h1],h2⟩
theorem OpsQ.val {ops:Array Oper} {l:List Oper} {fr:T V} {st:St} {K:T V->Prop} {d:Nat} {op:Op} {ty:TypeId} {pos:String} {after:Array Edge} {v:V} (h:Val P ro (evF P ov ro n) fr op v) (hd:Nat.blt d nt=true)
  (k:OpsQ P ov ro n nt ops l (fr.upd d (some v)) st K):OpsQ P ov ro n nt ops (⟨some d,op,ty,pos,after,none⟩::l) fr st K:=by
 obtain ⟨fr',h1,h2⟩:=k;have e1:Nat.ble st.nx st.nx=true:=by rw [xd];exact Ra _
 have e2:Nat.beq st.nx st.nx=true:=by rw [Rc]
 exact ⟨fr',by simp only [ZaR,ZG,h.1,h.2 _,e1,e2,Yh,xk,Ja4,hd,Qa,V.force_eq,h1],h2⟩
theorem Ops.call {ops:Array Oper} {l:List Oper} {fr:T V} {st:St} {K:T V->St->Prop} {d:Nat} {f:FuncId} {xs:Array Operand} {ts:Array TypeId} {ty:TypeId} {pos:String} {after:Array Edge} {args:List V} {Q:V->St->Prop}
  (ha:ja4 fr xs.toList=some args) (hd:Nat.blt d nt=true) (h:Ev P ov ro n f args st Q)
  (k:∀v st',Q v st'->Ops P ov ro n nt ops l (fr.upd d (some v)) st' K):Ops P ov ro n nt ops (⟨some d,.call ⟨.value (.func f),xs,ts⟩,ty,pos,after,none⟩::l) fr st K:=by
 obtain ⟨v,st',h1,h2⟩:=h;obtain ⟨fr',st2,h3,h4⟩:=k v st' h2;refine ⟨fr',st2,?_,h4⟩;simp only [Jdu,ZG,vop,ha,zL,gf,xf,h1,Ja4,hd,Qa,V.force_eq,h3]
theorem OpsQ.call {ops:Array Oper} {l:List Oper} {fr:T V} {st:St} {K:T V->Prop} {d:Nat} {f:FuncId} {xs:Array Operand} {ts:Array TypeId} {ty:TypeId} {pos:String} {after:Array Edge} {args:List V} {v:V}
  (ha:ja4 fr xs.toList=some args) (hd:Nat.blt d nt=true) (h:∀st,Ev P ov ro n f args st (λu st'=>u=v/\st'=st))
  (k:OpsQ P ov ro n nt ops l (fr.upd d (some v)) st K):OpsQ P ov ro n nt ops (⟨some d,.call ⟨.value (.func f),xs,ts⟩,ty,pos,after,none⟩::l) fr st K:=by
 obtain ⟨u,st',h1,rfl,rfl⟩:=h ⟨st.nx,st.hp,st.nx⟩;obtain ⟨fr',h3,h4⟩:=k;have e1:Nat.ble st.nx st.nx=true:=by rw [xd];exact Ra _
 have e2:Nat.beq st.nx st.nx=true:=by rw [Rc]
 exact ⟨fr',by simp only [ZaR,ZG,Jak,vop,ha,zL,gf,xf,h1,e1,e2,Yh,xk,Ja4,hd,Qa,V.force_eq,h3],h4⟩
theorem Ops.cut {ops:Array Oper} {l1 l2:List Oper} {fr:T V} {st:St} {R K:T V->St->Prop} (h:Ops P ov ro n nt ops l1 fr st R) (k:∀fr' st',R fr' st'->Ops P ov ro n nt ops l2 fr' st' K):Ops P ov ro n nt ops (l1++l2) fr st K:=by
 have key:∀(l1:List Oper) (fr:T V) (st:St) (fr':T V) (st':St),Jdu P ro nt (evF P ov ro n) ops l1 fr st=some (fr',st')->Jdu P ro nt (evF P ov ro n) ops (l1++l2) fr st=Jdu P ro nt (evF P ov ro n) ops l2 fr' st':=by
  intro l1
  induction l1 with
  | nil=>intro fr st fr' st' h;simp only [Jdu,xa,xb] at h;obtain ⟨rfl,rfl⟩:=h;rfl
  | cons o l1 ih=>
   intro fr st fr' st' h;simp only [Qc,Jdu] at h |-;cases hw:ZG ops fr o with
   | none=>simp [hw] at h
   | some x=>
    simp only [hw] at h |-;cases x with
    | true=>
     simp only at h |-;cases hv:vop P ro (evF P ov ro n) fr st o.op with
     | none=>simp [hv] at h
     | some r=>
      obtain ⟨v,st1⟩:=r;simp only [hv] at h |-;cases hp:Ja4 nt fr o.dst v with
      | none=>simp [hp] at h
      | some fr1=>simp only [hp] at h |-;exact ih _ _ _ _ h
    | false=>
     simp only at h |-;cases hp:Ja4 nt fr o.dst none with
     | none=>simp [hp] at h
     | some fr1=>simp only [hp] at h |-;exact ih _ _ _ _ h
 obtain ⟨fr',st',h1,h2⟩:=h;obtain ⟨fr2,st2,h3,h4⟩:=k fr' st' h2;exact ⟨fr2,st2,by rw [key l1 fr st fr' st' h1,h3],h4⟩
theorem OpsQ.cut {ops:Array Oper} {l1 l2:List Oper} {fr:T V} {st:St} {R K:T V->Prop} (h:OpsQ P ov ro n nt ops l1 fr st R) (k:∀fr',R fr'->OpsQ P ov ro n nt ops l2 fr' st K):OpsQ P ov ro n nt ops (l1++l2) fr st K:=by
 have key:∀(l1:List Oper) (fr:T V) (fr':T V),ZaR P ro nt (evF P ov ro n) ops l1 fr st=some fr'->ZaR P ro nt (evF P ov ro n) ops (l1++l2) fr st=ZaR P ro nt (evF P ov ro n) ops l2 fr' st:=by
  intro l1
  induction l1 with
  | nil=>intro fr fr' h;simp only [ZaR,xa] at h;subst h;rfl
  | cons o l1 ih=>
   intro fr fr' h;simp only [Qc,ZaR] at h |-;cases hw:ZG ops fr o with
   | none=>simp [hw] at h
   | some x=>
    simp only [hw] at h |-;cases x with
    | true=>
     simp only at h |-;cases hq:Jak o.op with
     | false=>simp [hq] at h
     | true=>
      simp only [hq] at h |-;cases hv:vop P ro (evF P ov ro n) fr ⟨st.nx,st.hp,st.nx⟩ o.op with
      | none=>simp [hv] at h
      | some r=>
       obtain ⟨v,st1⟩:=r;simp only [hv] at h |-;cases hc:(Nat.ble st.nx st1.ver&&(Nat.beq st1.nx st.nx||jdB v)) with
       | false=>simp [hc] at h
       | true=>
        simp only [hc,Qa] at h |-;cases hp:Ja4 nt fr o.dst v with
        | none=>simp [hp] at h
        | some fr1=>simp only [hp] at h |-;exact ih _ _ h
    | false=>
     simp only at h |-;cases hp:Ja4 nt fr o.dst none with
     | none=>simp [hp] at h
     | some fr1=>simp only [hp] at h |-;exact ih _ _ h
 obtain ⟨fr',h1,h2⟩:=h;obtain ⟨fr2,h3,h4⟩:=k fr' h2;exact ⟨fr2,by rw [key l1 fr fr' h1,h3],h4⟩
theorem Ops.no {ops:Array Oper} {l:List Oper} {fr:T V} {st:St} {K:T V->St->Prop} {d:Nat} {op:Op} {ty:TypeId} {pos:String} {after:Array Edge} {j:Nat} {want:Bool} {c:Nat} {x:Bool} (hj:(ops[j]?).bind (·.dst)=some c) (hx:fr.get c=some (.b x)) (hw:x = !want) (hd:Nat.blt d nt=true)
  (k:Ops P ov ro n nt ops l (fr.upd d (some (.t []))) st K):Ops P ov ro n nt ops (⟨some d,op,ty,pos,after,some (j,want)⟩::l) fr st K:=by
 obtain ⟨fr',st',h1,h2⟩:=k;refine ⟨fr',st',?_,h2⟩;have:(x==want)=false:=by rw [hw];cases want <;> rfl
 simp only [Jdu,ZG,hj,hx,this,Ja4,hd,Qa,h1]
theorem OpsQ.no {ops:Array Oper} {l:List Oper} {fr:T V} {st:St} {K:T V->Prop} {d:Nat} {op:Op} {ty:TypeId} {pos:String} {after:Array Edge} {j:Nat} {want:Bool} {c:Nat} {x:Bool} (hj:(ops[j]?).bind (·.dst)=some c) (hx:fr.get c=some (.b x)) (hw:x = !want) (hd:Nat.blt d nt=true)
  (k:OpsQ P ov ro n nt ops l (fr.upd d (some (.t []))) st K):OpsQ P ov ro n nt ops (⟨some d,op,ty,pos,after,some (j,want)⟩::l) fr st K:=by
 obtain ⟨fr',h1,h2⟩:=k;refine ⟨fr',?_,h2⟩;have:(x==want)=false:=by rw [hw];cases want <;> rfl
 simp only [ZaR,ZG,hj,hx,this,Ja4,hd,Qa,h1]
theorem Ops.off {ops:Array Oper} {l:List Oper} {fr:T V} {st:St} {K:T V->St->Prop} {d:Nat} {op:Op} {ty:TypeId} {pos:String} {after:Array Edge} {j:Nat} {want:Bool} {c:Nat} (hj:(ops[j]?).bind (·.dst)=some c) (hx:fr.get c=some (.t [])) (hd:Nat.blt d nt=true)
  (k:Ops P ov ro n nt ops l (fr.upd d (some (.t []))) st K):Ops P ov ro n nt ops (⟨some d,op,ty,pos,after,some (j,want)⟩::l) fr st K:=by
 obtain ⟨fr',st',h1,h2⟩:=k;exact ⟨fr',st',by simp only [Jdu,ZG,hj,hx,Ja4,hd,Qa,h1],h2⟩
theorem OpsQ.off {ops:Array Oper} {l:List Oper} {fr:T V} {st:St} {K:T V->Prop} {d:Nat} {op:Op} {ty:TypeId} {pos:String} {after:Array Edge} {j:Nat} {want:Bool} {c:Nat} (hj:(ops[j]?).bind (·.dst)=some c) (hx:fr.get c=some (.t [])) (hd:Nat.blt d nt=true)
  (k:OpsQ P ov ro n nt ops l (fr.upd d (some (.t []))) st K):OpsQ P ov ro n nt ops (⟨some d,op,ty,pos,after,some (j,want)⟩::l) fr st K:=by
 obtain ⟨fr',h1,h2⟩:=k;exact ⟨fr',by simp only [ZaR,ZG,hj,hx,Ja4,hd,Qa,h1],h2⟩
end
end Go.Vm
namespace Go.Vm
theorem Ze3 (a b:List UInt8):jY (a++b)=jY a+256^a.length*jY b:=by
 induction a with
 | nil=>simp [jY]
 | cons c r ih=>
  simp only [Qc,jY,ih,da,gl];rw [Nat.mul_add,yl (256^r.length) 256,Nat.mul_assoc];omega
theorem jey (a b:List UInt8):ziI a.length (jY a) b.length (jY b)=V.str (a++b):=by simp [ziI,V.str,Ze3]
theorem ZiM (n x:Nat) (h:x<256^n):V.s n x=V.str (Jf n x):=by simp [V.str,zp,zbF n x h]
theorem Zey (s:List UInt8) (lo hi:Nat) (h1:lo<=hi) (h2:hi<=s.length):ZiK (jY s) lo hi=V.str ((s.drop lo).take (hi-lo)):=by
 have h:=jcv s.length (jY s) lo hi h1 h2;rw [zN] at h;unfold ZiK;rw [ZiM _ _ (gh _ (Nat.pow_pos (by decide))),h]
theorem Je3 (s:List UInt8) (i:Nat) (h:i<s.length):ZcH (jY s) i=(s.getD i 0).toNat:=by
 have h1:=JdC s.length (jY s) i h;rw [zN] at h1;have h2:s.getD i 0=UInt8.ofNat (ZcH (jY s) i):=by rw [List.getD_eq_getElem?_getD,h1];rfl
 rw [h2];have:=ZeZ (jY s) i;simp;omega
theorem jgJ (a b:List UInt8):(Nat.beq a.length b.length&&Nat.beq (jY a) (jY b))=(a==b):=by
 have h:=Zcv a.length b.length (jY a) (jY b) (zew a) (zew b);rw [zN,zN] at h;exact h.symm
section
variable {P:Program} {ro:Nat} {call:jbv} {fr:T V}
theorem Val.move {x:Operand} {v:V} (h:zL fr x=some v):Val P ro call fr (.move x) v:=⟨rfl,λst=>by simp only [vop,h]⟩
theorem Val.assign {x:Operand} {v:V} (h:zL fr x=some v):Val P ro call fr (.assign x) v:=⟨rfl,λst=>by simp only [vop,h]⟩
theorem Val.pick {c a b:Operand} {x:Bool} {v:V} (hc:zL fr c=some (.b x)) (h:zL fr (cond x a b)=some v):Val P ro call fr (.pick c a b) v:=⟨rfl,λst=>by simp only [vop,hc,h]⟩
theorem Val.extract {x:Operand} {i:Nat} {vs:List V} {v:V} (h:zL fr x=some (.t vs)) (hv:vs[i]?=some v):Val P ro call fr (.extract x i) v:=⟨rfl,λst=>by simp only [vop,h,hv]⟩
theorem Val.not {x:Operand} {t:TypeId} {p:Bool} (h:zL fr x=some (.b p)):Val P ro call fr (.unOp .not t x) (.b (!p)):=⟨rfl,λst=>by simp only [vop,h,vun]⟩
theorem Val.bini {op:BinOp} {t t':TypeId} {x y:Operand} {k:IntKind} {a b:Int} {v:V} (hx:zL fr x=some (.i k a)) (hy:zL fr y=some (.i k b)) (hv:JeY P op t (.i k a) (.i k b)=some v):Val P ro call fr (.binOp op t x y t') v:=
 ⟨rfl,λst=>by simp only [vop,hx,hy,hv]⟩
theorem Val.lss {t t':TypeId} {x y:Operand} {k:IntKind} {a b:Int} (hx:zL fr x=some (.i k a)) (hy:zL fr y=some (.i k b)):Val P ro call fr (.binOp .lss t x y t') (.b (decide (a<b))):=Val.bini hx hy (by simp [JeY,zgF,ilt])
theorem Val.leq {t t':TypeId} {x y:Operand} {k:IntKind} {a b:Int} (hx:zL fr x=some (.i k a)) (hy:zL fr y=some (.i k b)):Val P ro call fr (.binOp .leq t x y t') (.b (decide (a<=b))):=Val.bini hx hy (by simp [JeY,zgF,ile])
theorem Val.gtr {t t':TypeId} {x y:Operand} {k:IntKind} {a b:Int} (hx:zL fr x=some (.i k a)) (hy:zL fr y=some (.i k b)):Val P ro call fr (.binOp .gtr t x y t') (.b (decide (b<a))):=Val.bini hx hy (by simp [JeY,zgF,ilt])
theorem Val.geq {t t':TypeId} {x y:Operand} {k:IntKind} {a b:Int} (hx:zL fr x=some (.i k a)) (hy:zL fr y=some (.i k b)):Val P ro call fr (.binOp .geq t x y t') (.b (decide (b<=a))):=Val.bini hx hy (by simp [JeY,zgF,ile])
theorem JiM {a:Int} (h1:-9223372036854775808<=a) (h2:a<=9223372036854775807):IntKind.i64.wrap a=a:=by rw [IntKind.wrap_i64];omega
end
theorem el {t i:Nat} {W:List Nat} (h:W.elem t=false) (hi:W.elem i=true):Nat.beq t i=false:=by
 cases e:Nat.beq t i with
 | false=>rfl
 | true=>rw [Rc] at e;subst e;rw [h] at hi;cases hi
section
variable {P:Program} {ov:Ov} {ro n nt:Nat}
theorem Fin.one {fn:Func} {Q:V->St->Prop} {e:Ex} {fr:T V} {st:St} {t:Nat} {v:V} (he:e=.nrm\/e=.ret) (hr:fn.results.toList=[.tmp t]) (hv:fr.get t=some v) (h:Q v st):Fin P fn Q e fr st:=by
 have key:∃vs,JG P fr st fn.results.toList=some vs/\Q (zcn vs) st:=⟨[v],by rw [hr];simp only [JG,za5,hv],h⟩
 rcases he with rfl|rfl <;> exact key
theorem Fin.two {fn:Func} {Q:V->St->Prop} {e:Ex} {fr:T V} {st:St} {t u:Nat} {v x:V} (he:e=.nrm\/e=.ret) (hr:fn.results.toList=[.tmp t,.tmp u]) (hv:fr.get t=some v) (hx:fr.get u=some x) (h:Q (.t [v,x]) st):Fin P fn Q e fr st:=by
 have key:∃vs,JG P fr st fn.results.toList=some vs/\Q (zcn vs) st:=⟨[v,x],by rw [hr];simp only [JG,za5,hv,hx],h⟩
 rcases he with rfl|rfl <;> exact key
theorem Fin.three {fn:Func} {Q:V->St->Prop} {e:Ex} {fr:T V} {st:St} {t u s:Nat} {v x y:V} (he:e=.nrm\/e=.ret) (hr:fn.results.toList=[.tmp t,.tmp u,.tmp s]) (hv:fr.get t=some v) (hx:fr.get u=some x) (hy:fr.get s=some y) (h:Q (.t [v,x,y]) st):Fin P fn Q e fr st:=by
 have key:∃vs,JG P fr st fn.results.toList=some vs/\Q (zcn vs) st:=⟨[v,x,y],by rw [hr];simp only [JG,za5,hv,hx,hy],h⟩
 rcases he with rfl|rfl <;> exact key
end
end Go.Vm
namespace Go.Vm
def cB (l:List UInt8):List V:=l.map λc=>V.i .u8 (c.toNat:Int)
theorem zbb (l:List UInt8):(cB l).length=l.length:=by simp [cB]
theorem ZgJ (l:List UInt8) (i:Nat):(cB l)[i]?=(l[i]?).map λc=>V.i .u8 (c.toNat:Int):=by simp [cB]
theorem jcY (l:List UInt8):∀v∈cB l,v.atom=true:=by
 intro v hv;obtain ⟨c,_,rfl⟩:=xm.1 hv;rfl
theorem zdI (l:List UInt8):Zao l.length (jY l)=cB l:=by rw [ZaK,zN];rfl
theorem Zen:∀l:List UInt8,zv (cB l)=some l
 | []=>rfl
 | c::r=>by
  have:=Zen r;simp only [cB,Rl] at this |-;simp [zv,this]
theorem Blk.put_ok:∀(vs:List V) (b:Blk) (o:Nat),o+vs.length<=b.sz->(∀v∈vs,v.atom=true)->∃b',b.put vs o=some b'
 | [],b,o,_,_=>⟨b,rfl⟩
 | v::r,b,o,h,ha=>by
  simp only [Blk.put,V.force_eq];have h1:Nat.blt o b.sz=true:=by rw [ge];simp at h;omega
  rw [h1,ha v (yc ..)];exact Blk.put_ok r (b.set o v) (o+1) (by have:(b.set o v).sz=b.sz:=rfl;rw [this];simp at h;omega) (λx hx=>ha x (gd _ hx))
theorem zbG (cs:List V) (es:Nat) (op:Bool) (ha:∀v∈cs,v.atom=true):∃b,JbE cs es op=some b:=Blk.put_ok cs _ 0 (by simp) ha
theorem Blk.row_ok {b:Blk}:∀(cs:List V) (o:Nat),(∀j:Nat,j<cs.length->b.get (o+j)=cs[j]?)->b.row cs.length o=some cs
 | [],_,_=>rfl
 | v::r,o,h=>by
  have h0:=h 0 (by simp)
  simp only [Re,List.getElem?_cons_zero] at h0;have hr:=Blk.row_ok (b:=b) r (o+1) (λj hj=>by
   have:=h (j+1) (by simp;omega)
   rw [show o+1+j=o+(j+1) from by omega,this];simp)
  simp only [da,Blk.row,h0,hr]
structure Byt (st:St) (id:Nat) (l:List UInt8):Prop where
 b:∃b,st.hp.get id=some b/\b.sz=l.length/\b.es=1/\b.zero=[]/\∀i:Nat,b.get i=(cB l)[i]?
structure Sub (k:Nat) (st st':St):Prop where
 nx:st.nx<=st'.nx
 same:∀id,id<k->st'.hp.get id=st.hp.get id
 ver:∀j,j<=k->j<=st.ver->j<=st'.ver
theorem Sub.refl (k:Nat) (st:St):Sub k st st:=⟨Ra _,λ_ _=>rfl,λ_ _ q=>q⟩
theorem Sub.trans {k:Nat} {a b c:St} (h:Sub k a b) (h':Sub k b c):Sub k a c:=
 ⟨Yb h.nx h'.nx,λi hi=>(h'.same i hi).trans (h.same i hi),λj hj q=>h'.ver j hj (h.ver j hj q)⟩
theorem Sub.less {k j:Nat} {a b:St} (h:Sub k a b) (hj:j<=k):Sub j a b:=
 ⟨h.nx,λi hi=>h.same i (by omega),λi hi q=>h.ver i (by omega) q⟩
theorem Sub.then {k:Nat} {a b c:St} (h:Sub k a b) (h':Sub b.nx b c) (hk:k<=a.nx):Sub k a c:=h.trans (h'.less (Yb hk h.nx))
theorem Byt.keep {st st':St} {id k:Nat} {l:List UInt8} (h:Byt st id l) (hs:Sub k st st') (hk:id<k):Byt st' id l:=by
 obtain ⟨b,h1,h2⟩:=h.b;exact ⟨b,by rw [hs.same id hk,h1],h2⟩
theorem Sub.alloc {st:St} (b:Blk):Sub st.nx st (st.alloc b):=
 ⟨by unfold St.alloc;simp,λi hi=>by unfold St.alloc;dsimp only;rw [Tgu,ga (by omega)],λ_ _ q=>q⟩
theorem ze4 {a b k:Nat} (h:k<=a) (h':k<=b):k<=low a b:=by unfold low;cases Nat.ble a b <;> simp [h,h']
theorem Sub.write {st:St} {id k:Nat} (b:Blk) (hk:k<=id):Sub k st (st.write id b):=by
 rw [Swe];exact ⟨Ra _,λi hi=>by dsimp only;rw [Tgu,ga (by omega)],λj hj q=>ze4 q (Yb hj hk)⟩
theorem Byt.fresh {st:St} {l:List UInt8} {op:Bool} {b:Blk} (h:JbE (cB l) 1 op=some b):Byt (st.alloc b) st.nx l:=by
 obtain ⟨h1,h2,_,h4,h5,_⟩:=JL h;exact ⟨b,by unfold St.alloc;dsimp only;rw [Tgu,ya rfl],by rw [h1,zbb],h2,h4,h5⟩
section
variable {P:Program} {ov:Ov} {ro n nt:Nat} {call:jbv} {fr:T V} {st:St}
theorem jgo {t:TypeId} {k:Nat} (h:zaa P t=some k):∃ti,P.info? t=some ti/\ti.size=k:=by
 unfold zaa at h;cases e:P.info? t with
 | none=>rw [e] at h;cases h
 | some ti=>rw [e] at h;exact ⟨ti,rfl,Rd h⟩
theorem Ops.mem {ops:Array Oper} {l:List Oper} {K:T V->St->Prop} {d:Nat} {op:Op} {ty:TypeId} {pos:String} {after:Array Edge} {R:V->St->Prop} (h:∃v st',vop P ro (evF P ov ro n) fr st op=some (some v,st')/\R v st') (hd:Nat.blt d nt=true)
  (k:∀v st',R v st'->Ops P ov ro n nt ops l (fr.upd d (some v)) st' K):Ops P ov ro n nt ops (⟨some d,op,ty,pos,after,none⟩::l) fr st K:=by
 obtain ⟨v,st',h1,h2⟩:=h;obtain ⟨fr',st2,h3,h4⟩:=k v st' h2;exact ⟨fr',st2,by simp only [Jdu,ZG,h1,Ja4,hd,Qa,V.force_eq,h3],h4⟩
theorem Ops.eff {ops:Array Oper} {l:List Oper} {K:T V->St->Prop} {op:Op} {ty:TypeId} {pos:String} {after:Array Edge} {R:St->Prop} (h:∃st',vop P ro (evF P ov ro n) fr st op=some (none,st')/\R st')
  (k:∀st',R st'->Ops P ov ro n nt ops l fr st' K):Ops P ov ro n nt ops (⟨none,op,ty,pos,after,none⟩::l) fr st K:=by
 obtain ⟨st',h1,h2⟩:=h;obtain ⟨fr',st2,h3,h4⟩:=k st' h2;exact ⟨fr',st2,by simp only [Jdu,ZG,h1,Ja4,h3],h4⟩
end
end Go.Vm
namespace Go.Vm
structure Buf (k:Nat) (st:St) (v:V) (l:List UInt8):Prop where
 b:∃id cap op b,v=.sl id 0 l.length cap op/\(k<=id/\id<st.nx)/\st.hp.get id=some b/\b.es=1/\l.length<=cap/\cap<=b.sz/\(op=true->b.op=true/\cap=b.sz)/\∀i:Nat,i<l.length->b.get i=(cB l)[i]?
theorem Buf.row {b:Blk} {l:List UInt8} (h:∀i:Nat,i<l.length->b.get i=(cB l)[i]?):b.row l.length 0=some (cB l):=by
 have:=Blk.row_ok (b:=b) (cB l) 0 (λj hj=>by rw [dd];exact h j (by rwa [zbb] at hj))
 rwa [zbb] at this
theorem jhW (a b:List UInt8):cB (a++b)=cB a++cB b:=by simp [cB]
theorem Jen {b b':Blk} {l new:List UInt8} (h:∀i:Nat,i<l.length->b.get i=(cB l)[i]?) (hp:b.put (cB new) l.length=some b') :
  ∀i:Nat,i<(l++new).length->b'.get i=(cB (l++new))[i]?:=by
 obtain ⟨_,_,_,_,p5,_⟩:=Blk.put_spec _ _ _ _ hp;intro i hi;rw [Rb] at hi;rw [p5 i,jhW,zbb];by_cases e:l.length<=i
 ·rw [ya (by omega),List.getElem?_append_right (by rw [zbb];exact e),zbb]
 ·rw [ga (by omega),h i (by omega),List.getElem?_append_left (by rw [zbb];omega)]
section
variable {P:Program} {ov:Ov} {ro n nt:Nat} {call:jbv} {fr:T V} {st:St}
theorem Do.append {t u e:TypeId} {d:TypeDesc} {x y:Operand} {xv yv:V} {l new:List UInt8} {k:Nat} (h1:P.underlying t=some (.slice e)) (hI:∃ti,P.info? e=some ti/\ti.size=1/\ti.bytes=1) (hz:Za4 P e 1=true)
  (hu:P.underlying u=some d) (hni:∀k,d≠.int k) (hx:zL fr x=some xv) (hy:zL fr y=some yv) (hb:Buf k st xv l) (hk:ro<=k) (hk2:k<=st.nx) (hl:Zfu yv=some new.length) (hf:zaS st 1 new.length yv=some (cB new)) (hm:l.length+new.length<=1099511627776) :
  ∃v st',vop P ro call fr st (.call ⟨.builtin .append,#[x,y],#[t,u]⟩)=some (some v,st')/\Buf k st' v (l++new)/\Sub k st st':=by
 obtain ⟨ti,hi,hsz,hby⟩:=hI;obtain ⟨id,cap,op,b,rfl,⟨g2,gn⟩,g3,g4,g5,g6,g7,g8⟩:=hb.b;have c1:(Nat.blt 0 1&&Nat.blt 0 1&&Za4 P e 1)=true:=by rw [hz];rfl
 have c2:Nat.ble ((l.length+new.length)*1) 1099511627776=true:=by rw [xd];omega
 have c2b:Nat.ble (l.length+new.length) 1099511627776=true:=by rw [xd];omega
 have hro:Nat.ble ro id=true:=by rw [xd];omega
 have base:vop P ro call fr st (.call ⟨.builtin .append,#[x,y],#[t,u]⟩)=(match zaT P ro st t (.sl id 0 l.length cap op) yv with|some (v,st)=>some (some v,st)|none=>none):=by
  simp only [vop,ja4,hx,hy,ZZ,hu];cases d <;> first|rfl|exact absurd rfl (hni _)
 by_cases hc:l.length+new.length<=cap
 ·obtain ⟨b',hb'⟩:=Blk.put_ok (cB new) b l.length (by rw [zbb];omega) (jcY new)
  have c3:Nat.ble (l.length+new.length) cap=true:=by rw [xd];exact hc
  obtain ⟨p1,p2,p3,p4,_,_⟩:=Blk.put_spec _ _ _ _ hb';refine ⟨.sl id 0 (l.length+new.length) cap op,st.write id b',?_,⟨id,cap,op,b',by rw [Rb],⟨g2,by rw [Swe];exact gn⟩,by rw [Swe];dsimp only;rw [Tgu,ya rfl],p2.trans g4,by rw [Rb];exact hc,by rw [p1];exact g6,λq=>by rw [p3,p1];exact g7 q,Jen g8 hb'⟩,(Sub.write b' g2)⟩
  rw [base];simp only [zaT,h1,hi,hl,hsz,hby,hf,c1,Qa,g3,c2b,c3,hro,dd,Hj,hb',jy]
 ·have c3:Nat.ble (l.length+new.length) cap=false:=by rw [dl];intro q;rw [xd] at q;exact hc q
  have grown:∃b',JcH b 0 l.length 1 (cB new)=some b'/\b'.es=1/\b'.op=true/\b'.sz=l.length+new.length/\∀i:Nat,i<(l++new).length->b'.get i=(cB (l++new))[i]?:=by
   unfold JcH;cases hq:(b.op&&Nat.beq 0 0&&Nat.beq (l.length*1) b.sz&&Nat.beq b.es 1) with
   | true=>
    simp only [yb,Rc,Hj] at hq;simp only [Qa];unfold Blk.grow;obtain ⟨b',hb'⟩:=Blk.put_ok (cB new) { b with sz:=b.sz+(cB new).length,op:=true } l.length (by dsimp only;omega) (jcY new)
    have hq2:=hq.1.2;rw [<-hq2];rw [<-hq2] at hb';obtain ⟨p1,p2,p3,p4,_,_⟩:=Blk.put_spec _ _ _ _ hb';refine ⟨b',hb',p2.trans g4,p3,by rw [p1,zbb],Jen (λi hi=>?_) hb'⟩
    rw [<-g8 i hi];unfold Blk.get;dsimp only;rw [show Nat.blt i (l.length+(cB new).length)=true from by rw [ge];omega,show Nat.blt i b.sz=true from by rw [ge];omega]
   | false=>
    simp only [Yc,Hj];rw [Buf.row g8];obtain ⟨b',hb'⟩:=zbG (cB l++cB new) 1 true (by intro v hv;rcases Rf.1 hv with h|h;exact jcY _ _ h;exact jcY _ _ h)
    obtain ⟨q1,q2,q3,_,q5,_⟩:=JL hb';exact ⟨b',hb',q2,q3,by rw [q1,Rb,zbb,zbb],λi _=>by rw [q5,jhW]⟩
  obtain ⟨b',hb',q1,q2,q3,q4⟩:=grown;cases op with
  | false=>
   refine ⟨.sl st.nx 0 (l.length+new.length) (l.length+new.length) true,St.alloc ⟨st.nx,st.hp,st.ver⟩ b',?_,⟨st.nx,l.length+new.length,true,b',by rw [Rb],⟨hk2,gk _⟩,by unfold St.alloc;dsimp only;rw [Tgu,ya rfl],q1,by rw [Rb];exact Ra _,by omega,λ_=>⟨q2,by omega⟩,q4⟩,(Sub.alloc (st:=st) b').less hk2⟩
   rw [base];simp only [zaT,h1,hi,hl,hsz,hby,hf,c1,Qa,Yc,g3,c2,c3,hb',jy]
  | true=>
   obtain ⟨r1,r2⟩:=g7 rfl;have c4:(Nat.ble ro id&&b.op&&Nat.beq b.es 1&&Nat.beq (0+cap*1) b.sz)=true:=by
    rw [hro,r1,g4,r2];simp
   refine ⟨.sl st.nx 0 (l.length+new.length) (l.length+new.length) true,St.alloc ⟨st.nx,(st.kill id).hp,(st.kill id).ver⟩ b',?_,⟨st.nx,l.length+new.length,true,b',by rw [Rb],⟨hk2,gk _⟩,by unfold St.alloc;dsimp only;rw [Tgu,ya rfl],q1,by rw [Rb];exact Ra _,by omega,λ_=>⟨q2,by omega⟩,q4⟩,?_⟩
   ·rw [base];simp only [zaT,h1,hi,hl,hsz,hby,hf,c1,Qa,g3,c2,c3,Yc,hb',c4,jy]
   ·refine ⟨di _,λi hi=>?_,λj hj q=>?_⟩
    ·unfold St.alloc;dsimp only;rw [Tgu,ga (by omega),St.kill_eq];dsimp only;rw [Tgu,ga (by omega)]
    ·unfold St.alloc;dsimp only;rw [St.kill_eq];exact ze4 q (by omega)
theorem Do.make {t e:TypeId} {x y:Operand} {c:Nat} (h1:P.underlying t=some (.slice e)) (hI:∃ti,P.info? e=some ti/\ti.size=1/\ti.bytes=1) (hz:Zba P e=some (.i .u8 0)) (hx:zL fr x=some (.i .i64 0)) (hy:zL fr y=some (.i .i64 (c:Int))) (hm:c<=1099511627776) :
  ∃v st',vop P ro call fr st (.makeSlice t x y)=some (some v,st')/\Buf st.nx st' v []/\Sub st.nx st st':=by
 obtain ⟨ti,hi,hsz,hby⟩:=hI;have c1:(ile 0 0&&ile 0 (c:Int)&&ile ((1:Int)*c) 1099511627776&&ile (c:Int) 1099511627776&&Nat.blt 0 1&&Nat.beq 1 1&&[V.i .u8 0].all V.atom)=true:=by
  have:Nat.beq 1 1=true:=rfl;have:Nat.blt 0 1=true:=rfl;simp [ile,V.atom];omega
 have hbuf:Buf st.nx (St.alloc ⟨st.nx,st.hp,st.ver⟩ ⟨.e,[.i .u8 0],c*1,1,false⟩) (.sl st.nx 0 0 c false) []:=by
  refine ⟨st.nx,c,false,⟨.e,[.i .u8 0],c*1,1,false⟩,rfl,⟨Ra _,gk _⟩,?_,rfl,dg _,?_,?_,?_⟩
  ·unfold St.alloc;dsimp only;rw [Tgu,ya rfl]
  ·dsimp only;omega
  ·intro q;cases q
  ·intro i hi;simp at hi
 refine ⟨.sl st.nx 0 0 c false,St.alloc ⟨st.nx,st.hp,st.ver⟩ ⟨.e,[.i .u8 0],c*1,1,false⟩,?_,hbuf,Sub.alloc (st:=st) _⟩;simp only [vop,hx,hy,JaS,h1,hi,hz,hsz,hby,V.cells,Yj];rw [show ((1:Nat):Int)=1 from rfl,c1]
 simp only [Qa,jy,xj,Int.toNat_zero]
theorem Buf.keep {k:Nat} {st st':St} {v:V} {l:List UInt8} (h:Buf k st v l) (hs:Sub st.nx st st'):Buf k st' v l:=by
 obtain ⟨id,cap,op,b,rfl,⟨g2,gn⟩,g3,g⟩:=h.b;exact ⟨id,cap,op,b,rfl,⟨g2,xi gn hs.nx⟩,by rw [hs.same id gn,g3],g⟩
theorem je4 (st:St) (l:List UInt8):zaS st 1 l.length (V.str l)=some (cB l):=by
 simp only [zaS,V.str];rw [show Nat.beq 1 1=true from rfl]
 simp only [Qa,zdI]
end
