/- Lemmas. -/
import Derived.Test.YtplpmeednhcjkaaGreatDoorVa2
import Derived.Scope
import Derived.OrdersHeld
namespace Go.Vm
open Go.RowKit
section
variable {P:Program} {J:Inj} {ro:Nat} {B:World} {st st':St} {w:World} {nt:Nat} {fr:T V} {a:Act}
def zgI (J:Inj) (st:St) (w:World) (v:Option V) (st':St) (r:Result Next):Prop:=
 st'=st/\∃x,v=some x/\r=.ok (.value (x.real J)) w/\x.ok J.nx
theorem ZaT {v:V} {u:Value} (he:u=v.real J) (hv:v.ok J.nx):zgI J st w (some v) st (.ok (.value u) w):=⟨rfl,v,rfl,by rw [he],hv⟩
theorem Jaa {s:Sem Value} {v:V} (hr:s.run P w=.ok (v.real J) w) (hv:v.ok J.nx):zgI J st w (some v) st ((do pure (.value (<-s)):Sem Next).run P w):=by
 simp only [Qd,hr,Yd,Yf];exact ⟨rfl,v,rfl,rfl,hv⟩
set_option maxHeartbeats 2000000 in
theorem jap {call:jbv} (hn:J.nx=st.nx) (hh:HR J ro B st.hp.get w) (hf:FR J nt fr a.tmps) {o:Oper} {v:Option V} (hq:Jak o.op=true) (hnc:Jbo o.op=true) (h:vop P ro call fr st o.op=some (v,st')) :
  zgI J st w v st' ((execOp a.eval o).run P w):=by
 have hop:=Zbw hf;obtain ⟨dst,op,ty,pos,after,guard⟩:=o;cases op <;> simp only [Jak,yd] at hq <;> simp only [vop] at h
 case move x=>
  cases hx:zL fr x with
  | none=>simp [hx] at h
  | some u=>
   simp only [hx,xa,xb] at h;obtain ⟨rfl,rfl⟩:=h;exact ZaT (hop x u hx).1 (hop x u hx).2
 case assign x=>
  cases hx:zL fr x with
  | none=>simp [hx] at h
  | some u=>
   simp only [hx,xa,xb] at h;obtain ⟨rfl,rfl⟩:=h;exact ZaT (hop x u hx).1 (hop x u hx).2
 case pick c x y=>
  cases hc:zL fr c with
  | none=>simp [hc] at h
  | some u=>
   cases u <;> simp only [hc,reduceCtorEq] at h
   rename_i t;cases hx:zL fr (cond t x y) with
   | none=>simp [hx] at h
   | some u=>
    simp only [hx,xa,xb] at h;obtain ⟨rfl,rfl⟩:=h;have hc':=(hop c _ hc).1;simp only [V.real] at hc';simp only [execOp,hc',asBool,Qd,Yf,Yd];cases t
    ·exact ZaT (hop y u hx).1 (hop y u hx).2
    ·exact ZaT (hop x u hx).1 (hop x u hx).2
 case load t x=>
  cases hx:zL fr x with
  | none=>simp [hx] at h
  | some u=>
   cases u <;> simp only [hx,reduceCtorEq] at h
   rename_i g off;cases hv:Zau P st t g off with
   | none=>simp [hv] at h
   | some y=>
    simp only [hv,xa,xb] at h;obtain ⟨rfl,rfl⟩:=h;obtain ⟨q1,q2⟩:=ZcX (P:=P) hn hh hv;simp only [execOp];refine Jaa (s:=Instr.loadAt t (a.eval x)) ?_ (by rw [hn];exact q2)
    rw [(hop x _ hx).1];exact q1
 case build t ps=>
  cases hps:Jan fr ps.toList with
  | none=>simp [hps] at h
  | some r=>
   simp only [hps] at h;cases hb:JdB P t r with
   | none=>simp [hb] at h
   | some u=>
    simp only [hb,xa,xb] at h;obtain ⟨rfl,rfl⟩:=h;obtain ⟨p1,p2⟩:=ZaZ hop _ _ hps;obtain ⟨q1,q2⟩:=JdE (P:=P) (J:=J) (w:=w) (n:=J.nx) p2 hb;have hm:(ps.map λp=>(p.1,a.eval p.2))=(r.map λx=>(x.1,x.2.real J)).toArray:=by
     apply Ri;simpa using p1
    have he:execOp a.eval ⟨dst,.build t ps,ty,pos,after,guard⟩=(do pure (.value (<-Instr.build t (ps.map λp=>(p.1,a.eval p.2)))):Sem Next):=rfl
    rw [he,hm];exact Jaa q1 q2
 case nilCheck x=>
  cases hx:zL fr x with
  | none=>simp [hx] at h
  | some u=>
   cases u <;> simp only [hx,reduceCtorEq] at h
   rename_i g off;simp only [xa,xb] at h;obtain ⟨rfl,rfl⟩:=h;have e:=hop x _ hx;simp only [execOp,e.1,V.real];exact ZaT (by simp [V.real]) e.2
 case binOp op xt x y yt=>
  cases hx:zL fr x with
  | none=>simp [hx] at h
  | some u=>
   cases hy:zL fr y with
   | none=>simp [hx,hy] at h
   | some z=>
    simp only [hx,hy] at h;cases hb:JeY P op xt u z with
    | none=>simp [hb] at h
    | some r=>
     simp only [hb,xa,xb] at h;obtain ⟨rfl,rfl⟩:=h;have q:=ze0 (P:=P) (J:=J) (n:=J.nx) w x y (hop x u hx).2 (hop y z hy).2 hb;have e1:=(hop x u hx).1;have e2:=(hop y z hy).1;rw [<-e1,<-e2] at q;have hrun:(execOp a.eval ⟨dst,.binOp op xt x y yt,ty,pos,after,guard⟩).run P w=.ok (.value (r.real J)) w:=by
      have:execOp a.eval ⟨dst,.binOp op xt x y yt,ty,pos,after,guard⟩=(do pure (.value (<-(do eqGuard op xt x y (a.eval x) (a.eval y);binOp op xt (a.eval x) (a.eval y):Sem Value))):Sem Next):=rfl
      rw [this,Qd,q.1];rfl
     rw [hrun];exact ZaT rfl q.2
 case unOp op xt x=>
  cases hx:zL fr x with
  | none=>simp [hx] at h
  | some u=>
   simp only [hx] at h;cases hb:vun op u with
   | none=>simp [hb] at h
   | some r=>
    simp only [hb,xa,xb] at h;obtain ⟨rfl,rfl⟩:=h;obtain ⟨q1,q2⟩:=zf2 (P:=P) (J:=J) w hb;simp only [execOp];refine Jaa (s:=Op.unary op (a.eval x)) ?_ (q2 _);rw [(hop x u hx).1];exact q1
 case makeFunc fn first caps=>
  cases hx:ja4 fr first.toList with
  | none=>simp [hx] at h
  | some xs=>
   cases hy:ja4 fr caps.toList with
   | none=>simp [hx,hy] at h
   | some ys=>
    simp only [hx,hy,xa,xb] at h;obtain ⟨rfl,rfl⟩:=h;obtain ⟨p1,p2⟩:=JaF hop _ _ hx;obtain ⟨q1,q2⟩:=JaF hop _ _ hy;simp only [execOp];refine Jaa (s:=Instr.makeFunc fn (first.map a.eval) (caps.map a.eval)) ?_ (by simp only [V.ok];exact ⟨p2,q2⟩)
    have e1:first.map a.eval=(V.reals J xs).toArray:=by apply Ri;rw [Vre];simpa using p1
    have e2:caps.map a.eval=(V.reals J ys).toArray:=by apply Ri;rw [Vre];simpa using q1
    rw [e1,e2];simp [Instr.makeFunc,V.real]
 case slice t x lo hi mx=>
  cases hx:zL fr x with
  | none=>simp [hx] at h
  | some u=>
   simp only [hx] at h;split at h
   ·rename_i lo' hi' mx' h1 h2 h3;cases hb:jao P t u lo' hi' mx' with
    | none=>simp [hb] at h
    | some r=>
     simp only [hb,xa,xb] at h;obtain ⟨rfl,rfl⟩:=h;obtain ⟨q1,q2⟩:=jdF (P:=P) (J:=J) (w:=w) (n:=J.nx) (hop x u hx).2 hb;simp only [execOp];refine Jaa (s:=Instr.sliceAt t (a.eval x) (lo.map a.eval) (hi.map a.eval) (mx.map a.eval)) ?_ q2;rw [(hop x u hx).1,Jbw hf h1,Jbw hf h2,Jbw hf h3];exact q1
   ·simp at h
 case fieldAddr t x f=>
  cases hx:zL fr x with
  | none=>simp [hx] at h
  | some u=>
   cases u <;> simp only [hx,reduceCtorEq] at h
   rename_i g off;cases hv:jaF P t g off f with
   | none=>simp [hv] at h
   | some y=>
    simp only [hv,xa,xb] at h;obtain ⟨rfl,rfl⟩:=h;have e:=hop x _ hx;simp only [V.ok] at e;obtain ⟨q1,q2⟩:=ZbZ (P:=P) (J:=J) w e.2 hv;simp only [execOp];refine Jaa (s:=Instr.fieldAt t (a.eval x) f) ?_ q2;rw [e.1];exact q1
 case field t x f=>
  cases hx:zL fr x with
  | none=>simp [hx] at h
  | some u=>
   simp only [hx] at h;cases hv:zdC P t u f with
   | none=>simp [hv] at h
   | some y=>
    simp only [hv,xa,xb] at h;obtain ⟨rfl,rfl⟩:=h;obtain ⟨q1,q2⟩:=zdE (P:=P) (J:=J) w (hop x u hx).2 hv;simp only [execOp];refine Jaa (s:=Instr.field t (a.eval x) f) ?_ q2;rw [(hop x u hx).1];exact q1
 case indexAddr t x i=>
  cases hx:zL fr x with
  | none=>simp [hx] at h
  | some u=>
   cases hi:zL fr i with
   | none=>simp [hx,hi] at h
   | some z=>
    cases z <;> simp only [hx,hi,reduceCtorEq] at h
    rename_i k n;cases hv:zZ P t u n with
    | none=>simp [hv] at h
    | some y=>
     simp only [hv,xa,xb] at h;obtain ⟨rfl,rfl⟩:=h;obtain ⟨q1,q2⟩:=JbZ (P:=P) (J:=J) (k:=k) w (hop x u hx).2 hv;simp only [execOp];refine Jaa (s:=Instr.indexAt t (a.eval x) (a.eval i)) ?_ q2;rw [(hop x u hx).1,(hop i _ hi).1];simp only [V.real] at q1 |-;exact q1
 case index t x i=>
  cases hx:zL fr x with
  | none=>simp [hx] at h
  | some u=>
   cases hi:zL fr i with
   | none=>simp [hx,hi] at h
   | some z=>
    cases z <;> simp only [hx,hi,reduceCtorEq] at h
    rename_i k n;cases hv:Zdf P t u n with
    | none=>simp [hv] at h
    | some y=>
     simp only [hv,xa,xb] at h;obtain ⟨rfl,rfl⟩:=h;obtain ⟨q1,q2⟩:=JdD (P:=P) (J:=J) (k:=k) w (hop x u hx).2 hv;simp only [execOp];refine Jaa (s:=Instr.index t (a.eval x) (a.eval i)) ?_ q2;rw [(hop x u hx).1,(hop i _ hi).1];simp only [V.real] at q1 |-;exact q1
 case extract x i=>
  cases hx:zL fr x with
  | none=>simp [hx] at h
  | some u=>
   cases u <;> simp only [hx,reduceCtorEq] at h
   rename_i vs;cases hv:vs[i]? with
   | none=>simp [hv] at h
   | some y=>
    simp only [hv,xa,xb] at h;obtain ⟨rfl,rfl⟩:=h;have e:=hop x _ hx;simp only [V.ok,V.oks_iff] at e;simp only [execOp];refine Jaa (s:=Instr.extract (a.eval x) i) ?_ (e.2 y (List.mem_of_getElem? hv));rw [e.1];simp [Instr.extract,V.real,Vre,hv]
 case call c=>
  simp only [Jbo] at hnc;cases hx:ja4 fr c.args.toList with
  | none=>simp [hx] at h
  | some args=>
   simp only [hx] at h;obtain ⟨p1,p2⟩:=JaF hop _ _ hx;have e1:c.args.map a.eval=(args.map (V.real J)).toArray:=by apply Ri;simpa using p1
   cases hc:c.callee with
   | invoke r m=>simp [hc] at h
   | value f=>simp [hc] at hnc
   | builtin b=>
    simp only [hc] at h hq;cases hb:ZZ P ro b c.argTypes.toList args st with
    | none=>simp [hb] at h
    | some r=>
     obtain ⟨y,st1⟩:=r;simp only [hb,xa,xb] at h;obtain ⟨rfl,rfl⟩:=h;simp only [execOp,resolve,hc,Qd,Yf,Yd,invoke,e1];unfold ZZ at hb;split at hb
     ·rename_i t x hts;obtain hts':c.argTypes = #[t]:=by apply Ri;simpa using hts
      rw [hts'];cases hv:zbv P t x with
      | none=>simp [hv] at hb
      | some u=>
       simp only [hv,xa,xb] at hb;obtain ⟨rfl,rfl⟩:=hb;obtain ⟨q1,q2⟩:=zdG (P:=P) (J:=J) (w:=w) (ty:=ty) hv;exact Jaa q1 (q2 _)
     ·simp at hq
     ·simp at hq
     ·rename_i x r;simp only [V.oks] at p2;cases hv:zcI true x r with
      | none=>simp [hv] at hb
      | some u=>
       simp only [hv,xa,xb] at hb;obtain ⟨rfl,rfl⟩:=hb;obtain ⟨q1,q2⟩:=zbw (P:=P) (J:=J) (w:=w) r hv p2.1 ((V.oks_iff _ _).1 p2.2);exact Jaa (s:=Builtin.min_ c.argTypes ty ((x::r).map (V.real J)).toArray) (by simpa [Builtin.min_] using q1) q2
     ·rename_i x r;simp only [V.oks] at p2;cases hv:zcI false x r with
      | none=>simp [hv] at hb
      | some u=>
       simp only [hv,xa,xb] at hb;obtain ⟨rfl,rfl⟩:=hb;obtain ⟨q1,q2⟩:=zbw (P:=P) (J:=J) (w:=w) r hv p2.1 ((V.oks_iff _ _).1 p2.2);exact Jaa (s:=Builtin.max_ c.argTypes ty ((x::r).map (V.real J)).toArray) (by simpa [Builtin.max_] using q1) q2
     ·simp at hb
theorem jf2 {call : jbv} (hcall : JbT P ro B call) (hname : ∀ (f : Nat) (fn : Func), P.funcs[f]? = some fn -> (fn.name == "runtime.NumGoroutine") = false) (hn : J.nx = st.nx) (hh : HR J ro B st.hp.get w) (hro : ro <= J.nx)
  (hf:FR J nt fr a.tmps) {o:Oper} {v:Option V} (hnc:Jbo o.op=false) (h:vop P ro call fr st o.op=some (v,st')) :
  ∃y fid args,v=some y/\(execOp a.eval o).run P w=.ok (.enter fid args) w/\Calls P fid args w λe w'=>∃J',e=.returned (y.real J')/\y.ok J'.nx/\Post J ro B st w J' st' w':=by
 have hop:=Zbw hf;obtain ⟨dst,op,ty,pos,after,guard⟩:=o;cases op with
 | call c=>
  simp only [vop] at h;simp only [Jbo] at hnc;cases hx:ja4 fr c.args.toList with
  | none=>simp [hx] at h
  | some args=>
   simp only [hx] at h;obtain ⟨p1,p2⟩:=JaF hop _ _ hx;have e1:c.args.map a.eval=(args.map (V.real J)).toArray:=by apply Ri;simpa using p1
   cases hc:c.callee with
   | invoke r m=>simp [hc] at h
   | builtin b=>simp [hc] at hnc
   | value f=>
    simp only [hc] at h;cases hfo:zL fr f with
    | none=>simp [hfo] at h
    | some u=>
     simp only [hfo] at h;split at h
     ·rename_i fid first caps heq
      simp only [xa] at heq;subst heq;cases hcl:call fid (first++args++caps) st with
      | none=>simp only [hcl,reduceCtorEq] at h
      | some r=>
       obtain ⟨y,st1⟩:=r;simp only [hcl,xa,xb] at h;obtain ⟨rfl,rfl⟩:=h;have e2:=hop f _ hfo;simp only [V.ok] at e2;have hok:V.oks J.nx (first++args++caps):=by
        rw [V.oks_iff];intro z hz;simp only [Rf] at hz;rcases hz with (hz|hz)|hz
        ·exact (V.oks_iff _ _).1 e2.2.1 z hz
        ·exact (V.oks_iff _ _).1 p2 z hz
        ·exact (V.oks_iff _ _).1 e2.2.2 z hz
       obtain ⟨⟨fn,cd,hfn,hbody⟩,hC⟩:=hcall fid _ st y st1 hcl J w hn hh hro hok;have hargs:(V.reals J first).toArray++(args.map (V.real J)).toArray++(V.reals J caps).toArray=(V.reals J (first++args++caps)).toArray:=by
        simp [Vre]
       have hnm:=hname fid fn hfn;simp only [execOp,resolve,hc,e2.1,V.real,Deferred.ofValue,Qd,Yf,Yd,invoke,e1,hargs,callFunc,run_program,hfn,hnm,hbody,yd,if_false,Option.isNone_some];exact ⟨y,_,_,rfl,rfl,hC⟩
     ·simp at h
 | _=>simp [Jbo] at hnc
end
end Go.Vm
namespace Go.Vm
open Go.RowKit
theorem FR.mono {J J':Inj} {nt:Nat} {fr:T V} {tmps:Array Value} (h:FR J nt fr tmps) (hle:J.le J'):FR J' nt fr tmps:=
 ⟨h.size,λt v hv=>by
  obtain ⟨q1,q2⟩:=h.get t v hv;exact ⟨V.ok_le hle.nx v q1,by rw [V.real_le hle v q1];exact q2⟩⟩
theorem FR.put {J:Inj} {nt:Nat} {fr fr':T V} {a:Act} {dst:Option Nat} {v:Option V} {u:Value} (h:FR J nt fr a.tmps) (hv:(∃x,v=some x/\u=x.real J/\x.ok J.nx)\/(v=none/\u=undef))
  (hp:Ja4 nt fr dst v=some fr'):FR J nt fr' (a.put dst u).tmps:=by
 unfold Ja4 at hp;cases dst with
 | none=>simp only [xa] at hp;subst hp;exact h
 | some d=>
  simp only at hp;cases hd:Nat.blt d nt with
  | false=>simp [hd] at hp
  | true=>
   simp only [hd,Qa] at hp;rw [ge] at hd;have key:∃x:V,fr'=fr.upd d (some x)/\u=x.real J/\x.ok J.nx:=by
    rcases hv with ⟨x,rfl,h1,h2⟩|⟨rfl,h1⟩
    ·simp only [V.force_eq,xa] at hp;exact ⟨x,hp.symm,h1,h2⟩
    ·simp only [xa] at hp;exact ⟨.t [],hp.symm,by rw [h1];simp [V.real,V.reals,undef],by simp [V.ok,V.oks]⟩
   obtain ⟨x,rfl,rfl,hx⟩:=key;refine ⟨by simp only [Act.put,Qh];exact h.size,λt y hy=>?_⟩
   rw [Tgu] at hy;by_cases e:t=d
   ·subst e;simp only [if_true,xa] at hy;subst hy;exact ⟨hx,by simp only [Act.put];rw [Array.getElem?_setIfInBounds_self_of_lt (xi hd h.size)]⟩
   ·rw [ga e] at hy;obtain ⟨q1,q2⟩:=h.get t y hy;exact ⟨q1,by simp only [Act.put];rw [Array.getElem?_setIfInBounds_ne (λq=>e q.symm)];exact q2⟩
theorem zM (a:Act) (dst:Option Nat) (u:Value):(a.put dst u).defers=a.defers:=by cases dst <;> rfl
theorem JZ {J:Inj} {nt:Nat} {fr:T V} {ops:Array Oper} {a:Act} {o:Oper} {x:Bool} (h:FR J nt fr a.tmps) (hw:ZG ops fr o=some x):Region.wanted o (yielded ops a.tmps)=x:=by
 unfold ZG at hw;unfold Region.wanted;cases hg:o.guard with
 | none=>simp only [hg,xa] at hw |-;exact hw
 | some jw=>
  obtain ⟨j,want⟩:=jw;simp only [hg] at hw |-;unfold yielded;cases hd:(ops[j]?).bind (·.dst) with
  | none=>simp only [hd,xa] at hw;subst hw;simp
  | some d=>
   simp only [hd] at hw;cases hf:fr.get d with
   | none=>simp [hf] at hw
   | some v=>
    obtain ⟨_,q2⟩:=h.get d v hf;simp only [Option.bind_some,q2];cases v <;> simp only [hf,xa] at hw <;> subst hw <;> simp [V.real]
section
variable {P:Program} {ro:Nat} {B:World}
theorem JcX {J:Inj} {st st':St} {w:World} {v:Option V} {o:Oper} {a:Act} {next:Act->World->Prop} {Q:Exit->Act->World->Prop} (h:zcH P J ro B st w v st' ((execOp a.eval o).run P w))
  (hnext:∀J' w' u,Post J ro B st w J' st' w'->((∃x,v=some x/\u=x.real J'/\x.ok J'.nx)\/(v=none/\u=undef))->next (a.put o.dst u) w'):o.wp P a w next Q:=by
 unfold Oper.wp;generalize (execOp a.eval o).run P w=r at h;cases r with
 | halt x w'=>exact h.elim
 | ok n w'=>
  cases n with
  | value u=>obtain ⟨x,J',h1,h2,h3,h4⟩:=h;exact hnext J' w' u h4 (.inl ⟨x,h1,h2,h3⟩)
  | skip=>obtain ⟨h1,J',h2⟩:=h;exact hnext J' w' undef h2 (.inr ⟨h1,rfl⟩)
  | enter f args=>
   obtain ⟨rfl,hc⟩:=h;refine hc.mono ?_;rintro e w'' ⟨x,J',h1,rfl,h3,h4⟩;exact hnext J' w'' _ h4 (.inl ⟨x,h1,rfl,h3⟩)
  | _=>exact h.elim
theorem zcg {nt : Nat} {call : jbv} (hcall : JbT P ro B call) (hname : ∀ (f : Nat) (fn : Func), P.funcs[f]? = some fn -> (fn.name == "runtime.NumGoroutine") = false) {ops : Array Oper} {Q : Exit -> Act -> World -> Prop} :
  ∀(l:List Oper) (k:Nat) (fr fr':T V) (st st':St) (J:Inj) (w:World) (a:Act),(∀j,l[j]?=ops[k+j]?)->Jdu P ro nt call ops l fr st=some (fr',st')->J.nx=st.nx->HR J ro B st.hp.get w->ro<=J.nx->
   FR J nt fr a.tmps->a.defers=[]->(∀J' a' w',Post J ro B st w J' st' w'->FR J' nt fr' a'.tmps->a'.defers=[]->Q .normal a' w')->wpOps P ops Q (List.range' k l.length) a w
 | [],k,fr,fr',st,st',J,w,a,_,h,hn,hh,hro,hf,hd,hQ=>by
  simp only [Jdu,xa,xb] at h;obtain ⟨rfl,rfl⟩:=h;exact hQ J a w (Post.refl hn hh hro) hf hd
 | o::l,k,fr,fr',st,st',J,w,a,hl,h,hn,hh,hro,hf,hd,hQ=>by
  have h0:ops[k]?=some o:=by simpa using (hl 0).symm
  have hl':∀j,l[j]?=ops[k+1+j]?:=λj=>by have:=hl (j+1);simpa [Qf,Nat.add_comm 1 j] using this
  simp only [Jdu] at h;rw [da,List.range'_succ];simp only [wpOps,h0];cases hw:ZG ops fr o with
  | none=>simp [hw] at h
  | some x=>
   rw [JZ hf hw];cases x with
   | true=>
    simp only [hw] at h;simp only [if_true];cases hv:vop P ro call fr st o.op with
    | none=>simp [hv] at h
    | some r=>
     obtain ⟨v,st1⟩:=r;simp only [hv] at h;cases hp:Ja4 nt fr o.dst v with
     | none=>simp [hp] at h
     | some fr1=>
      simp only [hp] at h;refine .inl (JcX (ZdG hcall hname hn hh hro hf hv) λJ1 w1 u hpost hu=>?_)
      exact zcg hcall hname l (k+1) fr1 fr' st1 st' J1 w1 _ hl' h hpost.nx hpost.hr hpost.ro ((hf.mono hpost.le).put hu hp) (by rw [zM];exact hd)
       λJ2 a2 w2 p2 f2 d2=>hQ J2 a2 w2 (hpost.trans p2) f2 d2
   | false=>
    simp only [hw] at h;simp only [yd,if_false];cases hp:Ja4 nt fr o.dst none with
    | none=>simp [hp] at h
    | some fr1=>
     simp only [hp] at h;exact zcg hcall hname l (k+1) fr1 fr' st st' J w _ hl' h hn hh hro (hf.put (.inr ⟨rfl,rfl⟩) hp) (by rw [zM];exact hd) hQ
def JdG (J:Inj) (ro:Nat) (B:World) (st:St) (w0:World) (w:World):Prop:=HR J ro B st.hp.get w/\Below B.heap.size w0 w/\Fr J st.hp.get w0 J st.hp.get w
theorem Jcw {nt : Nat} {call : jbv} (hcall : JbT P ro B call) (hname : ∀ (f : Nat) (fn : Func), P.funcs[f]? = some fn -> (fn.name == "runtime.NumGoroutine") = false) {ops : Array Oper} {st : St} {J : Inj} {w0 : World} (hn : J.nx = st.nx) (hro : ro <= J.nx) (hex : ∃ w, JdG J ro B st w0 w) {Q : Act -> Prop} :
  ∀(l:List Oper) (fr fr':T V) (a:Act),ZaR P ro nt call ops l fr st=some fr'->FR J nt fr a.tmps->a.defers=[]->
   (∀a',FR J nt fr' a'.tmps->a'.defers=[]->Q a')->wpQuiet P ops (JdG J ro B st w0) Q l a
 | [],fr,fr',a,h,hf,hd,hQ=>by
  simp only [ZaR,xa] at h;subst h;exact hQ a hf hd
 | o::l,fr,fr',a,h,hf,hd,hQ=>by
  simp only [ZaR] at h;unfold wpQuiet;cases hw:ZG ops fr o with
  | none=>simp [hw] at h
  | some x=>
   rw [JZ hf hw];cases x with
   | false=>
    simp only [hw] at h;simp only [yd,if_false];cases hp:Ja4 nt fr o.dst none with
    | none=>simp [hp] at h
    | some fr1=>
     simp only [hp] at h;exact Jcw hcall hname hn hro hex l fr1 fr' _ h (hf.put (.inr ⟨rfl,rfl⟩) hp) (by rw [zM];exact hd) hQ
   | true=>
    simp only [hw] at h;simp only [if_true];cases hq:Jak o.op with
    | false=>simp [hq] at h
    | true=>
     simp only [hq] at h;cases hv:vop P ro call fr ⟨st.nx,st.hp,st.nx⟩ o.op with
     | none=>simp [hv] at h
     | some r=>
      obtain ⟨v,st1⟩:=r;simp only [hv] at h;generalize hc:(Nat.ble st.nx st1.ver&&(Nat.beq st1.nx st.nx||jdB v))=c at h;cases c with
      | false=>simp at h
      | true=>
       simp only [Qa] at h;simp only [yb,Rc,xd,xg] at hc;cases hp:Ja4 nt fr o.dst v with
       | none=>simp [hp] at h
       | some fr1=>
        simp only [hp] at h;have fin:∀x:V,v=some x->x.ok J.nx->(∀w,JdG J ro B st w0 w->o.quietAt P a (JdG J ro B st w0) w (x.real J))->o.quiet P a (JdG J ro B st w0) (wpQuiet P ops (JdG J ro B st w0) Q l):=by
         intro x hx hok hat;exact ⟨x.real J,hat,Jcw hcall hname hn hro hex l fr1 fr' _ h (hf.put (.inl ⟨x,hx,rfl,hok⟩) hp) (by rw [zM];exact hd) hQ⟩
        cases hnc:Jbo o.op with
        | true=>
         obtain ⟨wx,hwx⟩:=hex;obtain ⟨_,x,hx,_,hok⟩:=jap (w:=wx) (st:=⟨st.nx,st.hp,st.nx⟩) hn hwx.1 hf hq hnc hv;refine fin x hx hok λw hs=>?_
         obtain ⟨_,x',hx',hr,_⟩:=jap (w:=w) (st:=⟨st.nx,st.hp,st.nx⟩) hn hs.1 hf hq hnc hv;rw [hx,xa] at hx';subst hx';unfold Oper.quietAt;rw [hr];exact ⟨rfl,rfl⟩
        | false=>
         have conv:∀(x:V) (J':Inj) (w w':World),v=some x->x.ok J'.nx->JdG J ro B st w0 w->Post J ro B ⟨st.nx,st.hp,st.nx⟩ w J' st1 w'->x.real J'=x.real J/\x.ok J.nx/\JdG J ro B st w0 w':=by
          intro x J' w w' hx hok hs hpo;subst hx;refine ⟨?_,?_,HR.back hs.1 hpo.hr hpo.le (λg b hg=>hpo.ext.hp g b hg (by have:=(hs.1.blk g b hg).1;omega)),hs.2.1.trans hpo.below,λi hi hf=>⟨(hpo.fr i (xi hi hs.2.1.size) hf).1.trans (hs.2.2 i hi hf).1,hf⟩⟩
          ·rcases hc.2 with e|e
           ·have:x.ok J.nx:=by rw [hn,<-e,<-hpo.nx];exact hok
            exact V.real_le hpo.le x this
           ·exact V.real_plainT J J' x e
          ·rcases hc.2 with e|e
           ·rw [hn,<-e,<-hpo.nx];exact hok
           ·exact V.ok_plainT J'.nx J.nx x e hok
         obtain ⟨wx,hwx⟩:=hex;obtain ⟨y,_,_,hy,_,hC⟩:=jf2 (st:=⟨st.nx,st.hp,st.nx⟩) hcall hname hn hwx.1 hro hf hnc hv;obtain ⟨_,w'',_,⟨J',_,h3,h4⟩,_⟩:=hC [];refine fin y hy (conv y J' wx w'' hy h3 hwx h4).2.1 λw hs=>?_
         obtain ⟨y',f',args',hy',hr,hC'⟩:=jf2 (st:=⟨st.nx,st.hp,st.nx⟩) hcall hname hn hs.1 hro hf hnc hv;rw [hy,xa] at hy';subst hy';unfold Oper.quietAt;rw [hr];refine ⟨rfl,hC'.mono ?_⟩;rintro e w' ⟨J',h1,h3,h4⟩;obtain ⟨q1,q2,q3⟩:=conv y J' w w' hy h3 hs h4;exact ⟨by rw [h1,q1],q3⟩
theorem zcx {nt:Nat} {call:jbv} {ops:Array Oper} {st:St} {J:Inj} {w1:World} (hn:J.nx=st.nx) (hs:HR J ro B st.hp.get w1) {Q:Act->Prop} :
  ∀(l:List Oper) (fr fr':T V) (a:Act),(l.all λo=>Jbo o.op)=true->ZaR P ro nt call ops l fr st=some fr'->FR J nt fr a.tmps->a.defers=[]->
   (∀a',FR J nt fr' a'.tmps->a'.defers=[]->Q a')->wpStill P ops w1 Q l a
 | [],fr,fr',a,_,h,hf,hd,hQ=>by
  simp only [ZaR,xa] at h;subst h;exact hQ a hf hd
 | o::l,fr,fr',a,hall,h,hf,hd,hQ=>by
  rw [List.all_cons,yb] at hall;simp only [ZaR] at h;unfold wpStill;cases hw:ZG ops fr o with
  | none=>simp [hw] at h
  | some x=>
   rw [JZ hf hw];cases x with
   | false=>
    simp only [hw] at h;simp only [yd,if_false];cases hp:Ja4 nt fr o.dst none with
    | none=>simp [hp] at h
    | some fr1=>
     simp only [hp] at h;exact zcx hn hs l fr1 fr' _ hall.2 h (hf.put (.inr ⟨rfl,rfl⟩) hp) (by rw [zM];exact hd) hQ
   | true=>
    simp only [hw] at h;simp only [if_true];cases hq:Jak o.op with
    | false=>simp [hq] at h
    | true=>
     simp only [hq] at h;cases hv:vop P ro call fr ⟨st.nx,st.hp,st.nx⟩ o.op with
     | none=>simp [hv] at h
     | some r=>
      obtain ⟨v,st1⟩:=r;simp only [hv] at h;generalize (Nat.ble st.nx st1.ver&&(Nat.beq st1.nx st.nx||jdB v))=c at h;cases c with
      | false=>simp at h
      | true=>
       simp only [Qa] at h;cases hp:Ja4 nt fr o.dst v with
       | none=>simp [hp] at h
       | some fr1=>
        simp only [hp] at h;obtain ⟨_,x,hx,hr,hok⟩:=jap (w:=w1) (st:=⟨st.nx,st.hp,st.nx⟩) hn hs hf hq hall.1 hv;unfold Oper.still;rw [hr];exact ⟨rfl,zcx hn hs l fr1 fr' _ hall.2 h (hf.put (.inl ⟨x,hx,rfl,hok⟩) hp) (by rw [zM];exact hd) hQ⟩
end
end Go.Vm
set_option linter.unusedVariables false
namespace Go
section
variable {P:Program} {ops:Array Oper} {Q:Exit->Act->World->Prop} {md:Region.Mode} {S0:World->Prop}
structure Held where
 x:Nat
 h:World->Prop
theorem Region.waitsT_spec {md:Region.Mode} {ops:Array Oper} {j i:Nat} (h:Region.waitsT md ops j i=true):∃oj,ops[j]?=some oj/\((∃e∈oj.after,Region.binds md e=true/\e.on=i)\/∃d∈oj.after,Region.binds md d=true/\∃od,ops[d.on]?=some od/\∃e∈od.after,Region.binds md e=true/\e.on=i):=by
 unfold Region.waitsT at h;cases hc:Region.waitsFor md ops j i with
 | true=>
  obtain ⟨oj,h1,h2⟩:=Region.waitsFor_spec hc;exact ⟨oj,h1,.inl h2⟩
 | false=>
  rw [hc] at h;dsimp only at h;split at h
  ·rename_i o ho;obtain ⟨d,hd,hb⟩:=Array.any_eq_true'.1 h;rw [yb] at hb;obtain ⟨od,h1,h2⟩:=Region.waitsFor_spec hb.2;exact ⟨o,ho,.inr ⟨d,hd,hb.1,od,h1,h2⟩⟩
  ·cases h
def Closed (md:Region.Mode) (ops:Array Oper) (listed:Array Bool):Prop:=∀d od,ops[d]?=some od->listed.getD d false=true->∀e∈od.after,Region.binds md e=true->listed.getD e.on false=true
theorem Closed.set {md:Region.Mode} {ops:Array Oper} {listed:Array Bool} (h:Closed md ops listed) {i:Nat} (hi:i∈Region.ready md ops listed):Closed md ops (listed.setIfInBounds i true):=by
 intro d od hd hl e he hb;refine getD_set_true ?_;by_cases q:i=d
 ·subst q;obtain ⟨_,o,ho,hall⟩:=mem_ready.1 hi;rw [hd] at ho;cases ho;exact hall e he hb
 ·rw [getD_set_ne false q] at hl;exact h d od hd hl e he hb
def Zb0 (P:Program) (md:Region.Mode) (ops:Array Oper) (Q:Exit->Act->World->Prop) (S0:World->Prop):Nat->Array Bool->List Held->Act->World->Prop
 | 0,listed,_,a,w=>Region.ready md ops listed=[]/\Q .normal a w
 | fuel+1,listed,E,a,w=>Closed md ops listed->(Region.ready md ops listed=[]->Q .normal a w)/\
  ∀i∈Region.ready md ops listed,wpOp P ops Q i (λa' w'=>∃E',(∀e∈E,Region.waitsT md ops i e.x=false->e∈E')/\(S0 w'/\∀e∈E',e.h w')/\Zb0 P md ops Q S0 fuel (listed.setIfInBounds i true) E' a' w') a w
theorem jen:∀(fuel:Nat) (listed:Array Bool) (E:List Held) (a:Act) (w:World),Closed md ops listed->Zb0 P md ops Q S0 fuel listed E a w->wpAny P md ops Q fuel listed a w
 | 0,_,_,_,_,_,h=>h
 | fuel+1,_,_,_,_,hc,h=>⟨(h hc).1,λi hi=>wpOp_mono (λa' w' ⟨E',_,_,h'⟩=>jen fuel _ E' a' w' (hc.set hi) h') ((h hc).2 i hi)⟩
theorem zfx {E1 E2:List Held} (hE:∀e∈E1,e∈E2):∀{fuel:Nat} {listed:Array Bool} {a:Act} {w:World},Zb0 P md ops Q S0 fuel listed E2 a w->Zb0 P md ops Q S0 fuel listed E1 a w
 | 0,_,_,_,h=>h
 | _+1,_,_,_,h=>λhc=>⟨(h hc).1,λi hi=>wpOp_mono (λ_ _ ⟨E',h1,h2,h3⟩=>⟨E',λe he hw=>h1 e (hE e he) hw,h2,h3⟩) ((h hc).2 i hi)⟩
theorem Jdg {oi:Oper} {v:Value} (e:Held) (hi:ops[e.x]?=some oi) (hsel:∀(j:Nat) (o:Oper) cs b,ops[j]?=some o->o.op≠.select cs b)
  (hQ:∀c a w,Q (.panic c) (a.put oi.dst v) w->Q (.panic c) a w) :
  ∀(fuel:Nat) (listed:Array Bool) (E:List Held) (a:Act) (w:World),
   (∀j oj,ops[j]?=some oj->j≠e.x->listed.getD j true=false->(∀d∈oj.after,Region.binds md d=true->d.on≠e.x)->oi.apart ops oj=true)->
   e.x∈Region.ready md ops listed->YieldsIf P ops (λw=>S0 w/\e.h w) oi v a->S0 w->e.h w->(∀e'∈E,e'.h w)->
   Zb0 P md ops Q S0 fuel (listed.setIfInBounds e.x true) (e::E) (a.put oi.dst v) w->Zb0 P md ops Q S0 (fuel+1) listed E a w:=by
 intro fuel
 induction fuel with
 | zero=>
  intro listed E a w _ hr hy hS he hE H hcl;refine ⟨λh=>(by rw [h] at hr;cases hr),λj hj=>?_⟩
  by_cases hji:j=e.x
  ·subst hji;exact hy.wpOp hi ⟨hS,he⟩ ⟨e::E,λe' he' _=>gd _ he',⟨hS,λe' he'=>(gc.1 he').elim (λq=>q▸he) (hE e')⟩,H⟩
  ·have:=ready_mono hj hji;rw [H.1] at this;cases this
 | succ fuel ih=>
  intro listed E a w hfree hr hy hS he hE H hcl;refine ⟨λh=>(by rw [h] at hr;cases hr),λj hj=>?_⟩
  by_cases hji:j=e.x
  ·subst hji;exact hy.wpOp hi ⟨hS,he⟩ ⟨e::E,λe' he' _=>gd _ he',⟨hS,λe' he'=>(gc.1 he').elim (λq=>q▸he) (hE e')⟩,H⟩
  ·have h1:=(H (hcl.set hr)).2 j (ready_mono hj hji);obtain ⟨hjun,oj,hoj,hall⟩:=mem_ready.1 hj;have hnot:∀d∈oj.after,Region.binds md d=true->d.on≠e.x:=λd hd hb heq=>by
    have h1:=hall d hd hb;have h0:=(mem_ready.1 hr).1;rw [heq,getD_both h0] at h1;cases h1
   have hw:Region.waitsT md ops j e.x=false:=by
    cases hc:Region.waitsT md ops j e.x with
    | false=>rfl
    | true=>
     obtain ⟨o2,ho2,⟨d,hd,hb,hon⟩|⟨d,hd,hb,od,hod,d2,hd2,hb2,hon⟩⟩:=Region.waitsT_spec hc
     ·rw [hoj] at ho2;cases ho2;exact absurd hon (hnot d hd hb)
     ·rw [hoj] at ho2;cases ho2;have q:=hcl _ _ hod (hall d hd hb) d2 hd2 hb2;rw [hon,getD_both (mem_ready.1 hr).1] at q;cases q
   have h2:=wpOp_putIf hoj (hfree j oj hoj hji hjun hnot) (λcs b=>hsel e.x oi cs b hi) (λcs b=>hsel j oj cs b hoj) hQ hy h1
   have hfree':∀k ok,ops[k]?=some ok->k≠e.x->(listed.setIfInBounds j true).getD k true=false->
     (∀d∈ok.after,Region.binds md d=true->d.on≠e.x)->oi.apart ops ok=true:=λk ok hk hki hun hno=>by
    refine hfree k ok hk hki ?_ hno;by_cases hjk:j=k
    ·subst hjk;exact hjun
    ·rw [getD_set_ne true hjk] at hun;exact hun
   refine wpOp_mono (λa' w' h3=>?_) h2
   obtain ⟨hy',E',hk,⟨hs0,hh⟩,hrec⟩:=h3;have hmem:e∈E':=hk e (yc ..) hw;refine ⟨E',λe2 he2 hw2=>hk e2 (gd _ he2) hw2,⟨hs0,hh⟩,ih (listed.setIfInBounds j true) E' a' w' hfree' (ready_mono hr (Ne.symm hji)) hy' hs0 (hh e hmem) hh ?_⟩
   rw [Array.setIfInBounds_comm _ _ hji];exact zfx (λx hx=>(gc.1 hx).elim (λq=>q▸hmem) id) hrec
end
end Go
namespace Go.Vm
theorem Zf2 {x y:V} (h:Jdm x y=true):x=y:=by
 unfold Jdm at h;split at h <;> first
  | rfl
  | (simp only [yb,Rc,xc] at h;simp_all;done)
  | (rename_i a b;cases a <;> cases b <;> simp_all;done)
  | (rename_i a b c d op a' b' c' d' op';simp only [yb,Rc] at h;cases op <;> cases op' <;> simp_all;done)
  | cases h
theorem ja5:∀{xs ys:List V},Zan xs ys=true->xs=ys
 | [],[],_=>rfl
 | x::xs,y::ys,h=>by
  simp only [Zan,yb] at h;rw [Zf2 h.1,ja5 h.2]
 | [],_::_,h=>by cases h
 | _::_,[],h=>by cases h
theorem zht {x y:V} (h:zfv x y=true):x=y:=by
 unfold zfv at h;split at h
 ·rw [ja5 h]
 ·exact Zf2 h
theorem JbF {op:Op} (h:jcn op=0\/jcn op=1):Jak op=true/\Jbo op=true:=by
 cases op <;> simp only [jcn,Jak,Jbo,Qa,Yc,and_true,true_and] at h |- <;> first
  | omega
  | trivial
  | (rename_i c;obtain ⟨callee,xs,ts⟩:=c;cases callee <;> simp_all;rename_i b;cases b <;> simp_all)
section
variable {P:Program} {ro:Nat} {B:World}
def Je1 (P:Program) (ro:Nat) (B:World) (J:Inj) (c:Ent) (e:Held):Prop:=
 e.x=c.x/\∀J' st' w',J.le J'->J'.nx=st'.nx->HR J' ro B st'.hp.get w'->Zau P st' c.t c.id c.off=some c.v->e.h w'
def EntsOK (P:Program) (ro:Nat) (B:World) (J:Inj) (es:List Ent) (E:List Held):Prop:=∀e∈E,(∀w,e.h w)\/∃c∈es,Je1 P ro B J c e
theorem EntsOK.mono {J J':Inj} (hle:J.le J') {es:List Ent} {E:List Held} (h:EntsOK P ro B J es E):EntsOK P ro B J' es E:=λe he=>
 (h e he).imp id λ⟨c,hc,h1,h2⟩=>⟨c,hc,h1,λJ2 st2 w2 hl=>h2 J2 st2 w2 (hle.trans hl)⟩
theorem zbx {ops:Array Oper} {i:Nat} {c:Ent}:∀{es:List Ent},c∈es->Region.waitsT .any ops i c.x=false->c∈ZaF ops i es
 | [],h,_=>by cases h
 | e::r,h,hw=>by
  simp only [ZaF];rcases gc.1 h with rfl|q
  ·rw [hw];exact yc ..
  ·cases Region.waitsT .any ops i e.x with
   | true=>exact zbx q hw
   | false=>exact gd _ (zbx q hw)
theorem Jba {ops:Array Oper} {i:Nat} {c:Ent}:∀{es:List Ent},c∈ZaF ops i es->c∈es
 | [],h=>by cases h
 | e::r,h=>by
  simp only [ZaF] at h;cases hw:Region.waitsT .any ops i e.x with
  | true=>rw [hw] at h;exact gd _ (Jba h)
  | false=>
   rw [hw] at h;rcases gc.1 h with rfl|q
   ·exact yc ..
   ·exact gd _ (Jba q)
theorem zdH {st:St} {c:Ent}:∀{es:List Ent},zcX P st es=true->c∈es->Zau P st c.t c.id c.off=some c.v
 | [],_,h=>by cases h
 | e::r,hk,h=>by
  simp only [zcX] at hk;cases hv:Zau P st e.t e.id e.off with
  | none=>rw [hv] at hk;cases hk
  | some v=>
   rw [hv] at hk;dsimp only at hk;cases hs:zfv v e.v with
   | false=>rw [hs] at hk;cases hk
   | true=>
    rw [hs] at hk;rcases gc.1 h with rfl|q
    ·rw [hv,zht hs]
    ·exact zdH hk q
theorem HR.empty {J:Inj} {w:World} (h:Old B w):HR J ro B (T.e:T Blk).get w:=⟨h,λg b hg=>(by rw [T.get_e] at hg;cases hg),λg g' b b' hg=>(by rw [T.get_e] at hg;cases hg)⟩
theorem jgn {nt : Nat} {call : jbv} (hcall : JbT P ro B call) (hname : ∀ (f : Nat) (fn : Func), P.funcs[f]? = some fn -> (fn.name == "runtime.NumGoroutine") = false) {ops : Array Oper} {Q : Exit -> Act -> World -> Prop}
  (hsel:Region.noSelect ops=true) (hQp:∀c a w,¬Q (.panic c) a w) :
  ∀(fuel:Nat) (listed:Array Bool) (l:List (Nat×Oper)) (es:List Ent) (E:List Held) (fr fr':T V) (st st':St) (J:Inj) (w:World) (a:Act),
   jem ops fuel listed=some l->jdC P ro nt call ops l es fr st=some (fr',st')->J.nx=st.nx->HR J ro B st.hp.get w->ro<=J.nx->FR J nt fr a.tmps->a.defers=[]->
   EntsOK P ro B J es E->(∀e∈E,e.h w)->(∀c∈es,Zau P st c.t c.id c.off=some c.v)->(∀J' a' w',Post J ro B st w J' st' w'->FR J' nt fr' a'.tmps->a'.defers=[]->Q .normal a' w')->Zb0 P .any ops Q (Old B) fuel listed E a w:=by
 intro fuel
 induction fuel with
 | zero=>
  intro listed l es E fr fr' st st' J w a hp h hn hh hro hf hd hes hE hvl hQ;simp only [jem] at hp;split at hp
  ·rename_i hr;cases hp;simp only [jdC,xa,xb] at h;obtain ⟨rfl,rfl⟩:=h;exact ⟨hr,hQ J a w (Post.refl hn hh hro) hf hd⟩
  ·cases hp
 | succ fuel ih=>
  intro listed l es E fr fr' st st' J w a hp h hn hh hro hf hd hes hE hvl hQ;have hsel':=Region.noSelect_spec hsel;simp only [jem] at hp;split at hp
  ·-- one that may come first
   rename_i i hfind;split at hp
   ·rename_i o hfree hi;split at hp
    ·rename_i l' hp';cases hp;have hmem:i∈Region.ready .any ops listed:=List.mem_of_find?_eq_some hfind;have hcls:Nat.ble (jcn o.op) 1=true:=by
      have:=List.find?_some hfind;simpa only [zgm,hi] using this
     rw [xd] at hcls;have go:∀(v:Value) (e:Held) (es':List Ent) (fr1:T V),e.x=i->YieldsIf P ops (λw=>Old B w/\e.h w) o v a->e.h w->EntsOK P ro B J es' (e::E)->(∀c∈es',Zau P st c.t c.id c.off=some c.v)->FR J nt fr1 (a.put o.dst v).tmps->
       jdC P ro nt call ops l' es' fr1 st=some (fr',st')->Zb0 P .any ops Q (Old B) (fuel+1) listed E a w:=by
      intro v e es' fr1 hx hy he hes' hvl' hf1 hrun;subst hx;exact Jdg e hi hsel' (λc a w q=>(hQp _ _ _ q).elim) fuel listed E a w (Region.free_spec hi hfree) hmem hy hh.base he hE
       (ih (listed.setIfInBounds e.x true) l' es' (e::E) fr1 fr' st st' J w _ hp' hrun hn hh hro hf1 (by rw [zM];exact hd) hes' (λe' he'=>(gc.1 he').elim (λq=>q▸he) (hE e')) hvl' hQ)
     have triv:EntsOK P ro B J es (⟨i,λ_=>True⟩::E):=λe he=>(gc.1 he).elim (λq=>.inl (by subst q;intro _;trivial)) (hes e)
     simp only [jdC] at h;cases hw:ZG ops fr o with
     | none=>simp [hw] at h
     | some x=>
      cases x with
      | false=>
       simp only [hw] at h;cases hpt:Ja4 nt fr o.dst none with
       | none=>simp [hpt] at h
       | some fr1=>
        simp only [hpt] at h;exact go undef ⟨i,λ_=>True⟩ es fr1 rfl (.inr ⟨JZ hf hw,rfl⟩) trivial triv hvl (hf.put (.inr ⟨rfl,rfl⟩) hpt) h
      | true=>
       simp only [hw] at h;split at h
       ·rename_i hc;obtain ⟨q1,q2⟩:=JbF (.inl hc);cases hv:vop P ro call fr ⟨st.nx,.e,0⟩ o.op with
        | none=>simp [hv] at h
        | some r=>
         obtain ⟨v,st1⟩:=r;simp only [hv] at h;cases hpt:Ja4 nt fr o.dst v with
         | none=>simp [hpt] at h
         | some fr1=>
          simp only [hpt] at h;obtain ⟨_,x,rfl,_,hok⟩:=jap (w:=w) (st:=⟨st.nx,.e,0⟩) hn (HR.empty hh.base) hf q1 q2 hv;refine go (x.real J) ⟨i,λ_=>True⟩ es fr1 rfl (.inl ⟨JZ hf hw,λw2 hw2=>?_⟩) trivial triv hvl (hf.put (.inl ⟨x,rfl,rfl,hok⟩) hpt) h
          obtain ⟨_,x',hx',hr,_⟩:=jap (w:=w2) (st:=⟨st.nx,.e,0⟩) hn (HR.empty hw2.1) hf q1 q2 hv;cases hx';exact hr
       ·rename_i hc;obtain ⟨q1,q2⟩:=JbF (.inr hc);split at h
        ·rename_i t x hop;split at h
         ·rename_i id off hx;cases hv:Zau P st t id off with
          | none=>simp [hv] at h
          | some v=>
           simp only [hv] at h;cases hpt:Ja4 nt fr o.dst (some v) with
           | none=>simp [hpt] at h
           | some fr1=>
            simp only [hpt] at h;have vl:∀st2:St,Zau P st2 t id off=some v->vop P ro call fr st2 o.op=some (some v,st2):=λst2 h2=>by rw [hop];simp only [vop,hx,h2]
            have yields:∀(J2:Inj) (st2:St) (w2:World),J.le J2->J2.nx=st2.nx->HR J2 ro B st2.hp.get w2->Zau P st2 t id off=some v->(execOp a.eval o).run P w2=.ok (.value (v.real J)) w2/\v.ok J2.nx:=by
             intro J2 st2 w2 hl hn2 hh2 hv2;obtain ⟨_,x',hx',hr,hok⟩:=jap (w:=w2) (st:=st2) hn2 hh2 (hf.mono hl) q1 q2 (vl st2 hv2);cases hx';obtain ⟨_,x'',hx'',_,hok0⟩:=jap (w:=w) (st:=st) hn hh hf q1 q2 (vl st hv);cases hx'';exact ⟨by rw [hr,V.real_le hl _ hok0],hok⟩
            have here:=yields J st w (Inj.le.refl J) hn hh hv;refine go (v.real J) ⟨i,λw2=>(execOp a.eval o).run P w2=.ok (.value (v.real J)) w2⟩ (⟨i,t,id,off,v⟩::es) fr1 rfl (.inl ⟨JZ hf hw,λw2 hw2=>hw2.2⟩) here.1 ?_ (λc hc=>(gc.1 hc).elim (λq=>by subst q;exact hv) (hvl c)) (hf.put (.inl ⟨v,rfl,rfl,by rw [hn] at *;exact here.2⟩) hpt) h
            intro e he;rcases gc.1 he with rfl|q
            ·exact .inr ⟨_,yc ..,rfl,λJ2 st2 w2 hl hn2 hh2 hv2=>(yields J2 st2 w2 hl hn2 hh2 hv2).1⟩
            ·exact (hes e q).imp (λq=>q) λ⟨c,hc,hok⟩=>⟨c,gd _ hc,hok⟩
         ·cases h
        ·cases h
       ·rename_i h0 h1;exfalso;rcases Nat.le_one_iff_eq_zero_or_eq_one.1 hcls with q|q
        ·exact h0 q
        ·exact h1 q
    ·cases hp
   ·cases hp
  ·-- the only one that may come
   rename_i hfind;split at hp
   ·rename_i i hr;split at hp
    ·rename_i o hi;split at hp
     ·rename_i l' hp';cases hp;have hcls:¬jcn o.op<=1:=by
       have:=List.find?_eq_none.1 hfind i (by rw [hr];exact yh.2 rfl)
       simpa only [zgm,hi,xd] using this
      intro hcl0;refine ⟨λh0=>(by rw [hr] at h0;cases h0),λj hj=>?_⟩
      rw [hr] at hj;obtain rfl:j=i:=yh.1 hj;unfold wpOp;simp only [hi];simp only [jdC] at h;cases hw:ZG ops fr o with
      | none=>simp [hw] at h
      | some x=>
       rw [JZ hf hw];cases x with
       | false=>
        simp only [hw] at h;cases hpt:Ja4 nt fr o.dst none with
        | none=>simp [hpt] at h
        | some fr1=>
         simp only [hpt] at h;simp only [yd,if_false];exact ⟨E,λe he _=>he,⟨hh.base,hE⟩,ih _ l' es E fr1 fr' st st' J w _ hp' h hn hh hro (hf.put (.inr ⟨rfl,rfl⟩) hpt) (by rw [zM];exact hd) hes hE hvl hQ⟩
       | true=>
        simp only [hw] at h;split at h
        ·omega
        ·omega
        ·cases hv:vop P ro call fr ⟨st.nx,st.hp,st.nx⟩ o.op with
         | none=>simp [hv] at h
         | some r=>
          obtain ⟨v,st1⟩:=r;simp only [hv] at h;generalize hk:(Nat.ble st.nx st1.ver||zcX P st1 (ZaF ops j es))=kk at h;cases kk with
          | false=>simp at h
          | true=>
           simp only at h;cases hpt:Ja4 nt fr o.dst v with
           | none=>simp [hpt] at h
           | some fr1=>
            simp only [hpt,jy] at h;simp only [if_true];refine .inl (JcX (ZdG (st:=⟨st.nx,st.hp,st.nx⟩) hcall hname hn hh hro hf hv) λJ1 w1 u hpost0 hu=>?_)
            have hpost:Post J ro B st w J1 ⟨st1.nx,st1.hp,low st.ver st1.ver⟩ w1:=⟨hpost0.le,hpost0.nx,hpost0.hr,hpost0.below,⟨hpost0.ext.nx,Jcf _ _,λg b hg he=>hpost0.ext.hp g b hg (xi he (zb0 _ _))⟩,hpost0.ro,hpost0.fr⟩
            have hkeep:∀c∈ZaF ops j es,Zau P st1 c.t c.id c.off=some c.v:=by
             intro c hc;rw [xg] at hk;rcases hk with q|q
             ·rw [xd] at q;have h0:=hvl c (Jba hc);have hb:∃b,st.hp.get c.id=some b:=by
               unfold Zau at h0;cases hg:st.hp.get c.id with
               | none=>simp [hg] at h0
               | some b=>exact ⟨b,rfl⟩
              obtain ⟨b,hb⟩:=hb;have hlt:=(hh.blk c.id b hb).1;have h1:=hpost0.ext.hp c.id b hb (by omega)
              unfold Zau at h0 |-;rw [h1];rw [hb] at h0;exact h0
             ·exact zdH q hc
            have hE':EntsOK P ro B J1 (ZaF ops j es) (E.filter λe=>!Region.waitsT .any ops j e.x):=by
             intro e he;obtain ⟨he1,he2⟩:=Ql.1 he;refine ((hes.mono hpost.le) e he1).imp id ?_;rintro ⟨c,hc,h1,h2⟩;exact ⟨c,zbx hc (by rw [<-h1];simpa using he2),h1,h2⟩
            have hold:∀e∈E.filter λe=>!Region.waitsT .any ops j e.x,e.h w1:=by
             intro e he;rcases hE' e he with q|⟨c,hc,h1,h2⟩
             ·exact q w1
             ·exact h2 J1 st1 w1 (Inj.le.refl _) hpost0.nx hpost0.hr (hkeep c hc)
            exact ⟨E.filter λe=>!Region.waitsT .any ops j e.x,λe he hwt=>Ql.2 ⟨he,by simpa using hwt⟩,⟨hpost.hr.base,hold⟩,
             ih _ l' _ _ fr1 fr' _ st' J1 w1 _ hp' h hpost.nx hpost.hr hpost.ro ((hf.mono hpost.le).put hu hpt) (by rw [zM];exact hd) hE' hold hkeep (λJ2 a2 w2 p2 f2 d2=>hQ J2 a2 w2 (hpost.trans p2) f2 d2)⟩
     ·cases hp
    ·cases hp
   ·cases hp
open Go.RowKit
structure AL (P:Program) (o:Oper) (d n:Nat) (cs:List V) (e:TypeId) (b:Blk):Prop where
 dst:o.dst=some d
 grd:o.guard=none
 cls:¬jcn o.op<=1
 sz:b.sz=cs.length
 op:b.op=false
 get:∀k:Nat,b.get k=cs[k]?
 ok:∀J:Inj,∀u∈cs,u.ok J.nx
 atom:∀u∈cs,u.atom=true
 run:∀(J:Inj) (w:World) (a:Act),(execOp a.eval o).run P w=.ok (.value (.slice (some ⟨w.heap.size,0,none⟩) n n)) (w.alloc (.cells (cs.map (V.real J)).toArray e))
 vop:∀(ro:Nat) (call:jbv) (fr:T V) (st:St),vop P ro call fr st o.op=some (some (.sl st.nx 0 n n false),st.alloc b)
theorem ZiL {x:Operand} {v:V} {fr:T V} (h:zL .e x=some v):zL fr x=some v:=by
 cases x with
 | tmp t=>simp only [zL,T.get_e] at h;cases h
 | _=>exact h
theorem ze2 {fr:T V}:∀{ps:List (Nat×Operand)} {r:List (Nat×V)},Jan .e ps=some r->Jan fr ps=some r
 | [],r,h=>h
 | (i,o)::ps,r,h=>by
  simp only [Jan] at h |-;cases h1:zL .e o with
  | none=>simp [h1] at h
  | some v=>
   simp only [h1] at h;cases h2:Jan .e ps with
   | none=>simp [h2] at h
   | some vs=>
    simp only [h2] at h;simp only [ZiL h1,ze2 h2];exact h
theorem AL.of {o:Oper} (h:Jf0 P o=true):∃d n cs e b,AL P o d n cs e b:=by
 obtain ⟨dst,op,ty,pos,after,guard⟩:=o;unfold Jf0 at h;split at h
 ·rename_i d t n ps h1 h2 h3;dsimp only at h1 h2 h3;subst h1;subst h2;subst h3;split at h
  ·rename_i pv hps;cases hb:zS P ⟨0,.e,0⟩ t n pv with
   | none=>rw [hb] at h;cases h
   | some u=>
    obtain ⟨v,st'⟩:=u;obtain ⟨e,es,cs,b,q1,q2,q3⟩:=jdn hb;obtain ⟨b1,b2,b3,b4,b5,b6⟩:=JL q1;have hp:∀(J:Inj) (a:Act),pv.map (λx=>(x.1,x.2.real J))=ps.toList.map (λp=>(p.1,a.eval p.2))/\∀x∈pv,x.2.ok J.nx:=by
     intro J a;have hf:FR J 0 (.e:T V) a.tmps:=⟨dg _,λt v ht=>by rw [T.get_e] at ht;cases ht⟩
     obtain ⟨p1,p2⟩:=ZaZ (J:=J) (f:=a.eval) (λx v hx=>Zbw hf x v hx) _ _ hps
     exact ⟨p1.symm,p2⟩
    refine ⟨d,n,cs,e,b,rfl,rfl,?_,b1,b3,b5,λJ=>?_,b6,λJ w a=>?_,λro call fr st=>?_⟩
    ·simp [jcn,Jak]
    ·exact (q3 J (hp J ⟨#[],[]⟩).2).1
    ·have hm:(ps.map λp=>(p.1,a.eval p.2))=(pv.map λx=>(x.1,x.2.real J)).toArray:=by
      apply Ri;simpa using (hp J a).1.symm
     have he:execOp a.eval ⟨some d,.buildSlice t n ps,ty,pos,after,none⟩=(do pure (.value (<-Instr.buildSlice t n (ps.map λp=>(p.1,a.eval p.2)))):Sem Next):=rfl
     rw [he,hm];simp only [Qd,(q3 J (hp J a).2).2 w,Yd,Yf]
    ·simp only [Go.Vm.vop,ze2 hps,q2 st]
  ·cases h
 ·cases h
structure Ax (ops:Array Oper) (pens:List (Nat×Nat)) (a0 a:Act):Prop where
 df:a.defers=a0.defers
 sz:a.tmps.size=a0.tmps.size
 get:∀t,(∀q∈pens,∀o,ops[q.1]?=some o->o.dst≠some t)->a.tmps[t]?=a0.tmps[t]?
theorem Ax.put {ops:Array Oper} {pens:List (Nat×Nat)} {a0 a:Act} (h:Ax ops pens a0 a) (dst:Option Nat) (u:Value):Ax ops pens (a0.put dst u) (a.put dst u):=by
 cases dst with
 | none=>exact h
 | some d=>
  refine ⟨h.df,by simp [Act.put,h.sz],λt ht=>?_⟩
  simp only [Act.put];rw [Array.getElem?_setIfInBounds,Array.getElem?_setIfInBounds,h.sz,h.get t ht]
theorem Ax.op {ops:Array Oper} {pens:List (Nat×Nat)} {a0 a:Act} (h:Ax ops pens a0 a) (hsel:Region.noSelect ops=true) {i:Nat} {o:Oper} (hi:ops[i]?=some o)
  (hap:∀q∈pens,∀oq,ops[q.1]?=some oq->oq.apart ops o=true):execOp a.eval o=execOp a0.eval o/\Region.wanted o (yielded ops a.tmps)=Region.wanted o (yielded ops a0.tmps):=by
 have hl:∀t,t∈o.looksAt ops->a.tmps[t]?=a0.tmps[t]?:=λt ht=>h.get t λq hq oq hoq hd=>(Oper.apart_spec (hap q hq oq hoq)).1 t hd ht
 refine ⟨execOp_congr o (λcs b=>Region.noSelect_spec hsel i o cs b hi) λx hx=>?_,?_⟩
 ·cases x with
  | tmp t=>
   have:=hl t (by
    unfold Oper.looksAt;refine yo _ (List.mem_filterMap.2 ⟨.tmp t,by simpa using hx,rfl⟩))
   simp [Act.eval,Array.getD_eq_getD_getElem?,this]
  | _=>rfl
 ·unfold Region.wanted;cases hg:o.guard with
  | none=>rfl
  | some jw=>
   obtain ⟨j,want⟩:=jw;simp only [yielded];cases hd:(ops[j]?).bind (·.dst) with
   | none=>rfl
   | some d=>
    have:=hl d (by
     unfold Oper.looksAt;refine ym _ ?_;simp [hg,hd])
    simp only [Option.bind_some,this]
def JiL (ops:Array Oper) (listed:Array Bool):Nat:=(List.range ops.size).countP λj=>!listed.getD j true
theorem jgI {listed:Array Bool} {i:Nat} (h:listed.getD i true=false):∀n,i<n->(List.range n).countP (λj=>!(listed.setIfInBounds i true).getD j true)+1=(List.range n).countP λj=>!listed.getD j true:=by
 have hi:(listed.setIfInBounds i true).getD i true=true:=by
  rcases Hg i listed.size with q|q
  ·simp [q]
  ·simp [q]
 have hlow:∀n,n<=i->(List.range n).countP (λj=>!(listed.setIfInBounds i true).getD j true)=(List.range n).countP λj=>!listed.getD j true:=by
  intro n hn;refine List.countP_congr λj hj=>?_
  rw [xo] at hj;rw [getD_set_ne true (by omega)]
 intro n
 induction n with
 | zero=>intro q;omega
 | succ n ih=>
  intro hn;rw [List.range_succ,List.countP_append,List.countP_append];simp only [List.countP_cons,List.countP_nil];by_cases e:i=n
  ·subst e;rw [hlow i (Ra _),hi,h];simp
  ·rw [getD_set_ne true e];have:=ih (by omega)
   omega
def Pen (P:Program) (ops:Array Oper) (N0:Nat) (J:Inj) (st:St) (w:World) (a:Act) (q:Nat×Nat):Prop:=
 ∃o d n cs e b,ops[q.1]?=some o/\AL P o d n cs e b/\(d<a.tmps.size->a.tmps[d]?=some (.slice (some ⟨q.2,0,none⟩) n n))/\N0<=q.2/\q.2<w.heap.size/\zhW J st.hp.get q.2/\w.heap[q.2]?=some (.cells (cs.map (V.real J)).toArray e)
structure PInv (P:Program) (ro:Nat) (B:World) (nt:Nat) (ops:Array Oper) (J0:Inj) (st0:St) (w0:World) (lA:Array Bool) (es:List Ent) (fr:T V) (st:St) (F:Nat) (J:Inj) (w:World) (a0 a:Act) (listed:Array Bool) (pens:List (Nat×Nat)) (E:List Held):Prop where
 acc:Post J0 ro B st0 w0 J st w
 fr:FR J nt fr a0.tmps
 df:a0.defers=[]
 ls:listed.size=ops.size
 la:lA.size=ops.size
 lr:∀j,j<ops.size->listed.getD j true=(lA.getD j true||pens.any λq=>q.1==j)
 cnt:JiL ops listed<=F
 ax:Ax ops pens a0 a
 pn:∀q∈pens,lA.getD q.1 true=false/\Pen P ops w0.heap.size J st w a q
 al:∀q∈pens,ZaC P ops q.1=true
 clo:∀q∈pens,∀x,listed.getD x true=false->Region.waitsT .any ops q.1 x=false
 rr:pens.Pairwise λp q=>p.1≠q.1/\p.2≠q.2
 hes:EntsOK P ro B J es E
 hE:∀e∈E,e.h w
 hw:∀e∈E,∀q∈pens,Region.waitsT .any ops q.1 e.x=false
 hvl:∀c∈es,Zau P st c.t c.id c.off=some c.v
theorem jex {l:Array Bool} {i:Nat} (h:i<l.size):l.getD i true=l.getD i false:=by simp [h]
theorem Pen.keep {ops:Array Oper} {N0:Nat} {J J1:Inj} {st st1:St} {w w1:World} {a:Act} {q:Nat×Nat} (h:Pen P ops N0 J st w a q) (hle:J.le J1) (hs:w.heap.size<=w1.heap.size)
  (hk:w1.heap[q.2]?=w.heap[q.2]?/\zhW J1 st1.hp.get q.2) {dst:Option Nat} {u:Value} (hd:∀o,ops[q.1]?=some o->o.dst=none\/o.dst≠dst):Pen P ops N0 J1 st1 w1 (a.put dst u) q:=by
 obtain ⟨o,d,n,cs,e,b,h1,h2,h3,h4,h5,h6,h7⟩:=h;refine ⟨o,d,n,cs,e,b,h1,h2,λhlt=>?_,h4,by omega,hk.2,?_⟩
 ·have hne:dst≠some d:=by
   rcases hd o h1 with q|q
   ·rw [h2.dst] at q;cases q
   ·rw [h2.dst] at q;exact λz=>q z.symm
  cases dst with
  | none=>exact h3 hlt
  | some d'=>
   have:d'≠d:=λz=>hne (by rw [z])
   simp only [Act.put,Qh] at hlt |-;rw [Array.getElem?_setIfInBounds_ne this];exact h3 hlt
 ·rw [hk.1,h7];congr 3;exact List.map_congr_left λu hu=>(V.real_le hle u (h2.ok J u hu)).symm
theorem ZgI {ops:Array Oper} {lA listed:Array Bool} {pens:List (Nat×Nat)} {i j:Nat} (ls:listed.size=ops.size) (lr:∀j,j<ops.size->listed.getD j true=(lA.getD j true||pens.any λq=>q.1==j))
  (al:∀q∈pens,ZaC P ops q.1=true) (hip:∀q∈pens,q.1≠i) (hall:(Region.ready .any ops (ziL P ops lA i)).all (λj=>Nat.beq j i||ZaC P ops j)=true) (hj:j∈Region.ready .any ops listed):j=i\/ZaC P ops j=true:=by
 by_cases e:j=i
 ·exact .inl e
 ·cases ha:ZaC P ops j with
  | true=>exact .inr rfl
  | false=>
   exfalso;obtain ⟨h0,o,ho,hdep⟩:=mem_ready.1 hj;have hjl:j<ops.size:=by
    rcases Hg j ops.size with q|q
    ·exact q
    ·rw [Array.getElem?_eq_none q] at ho;cases ho
   have hmay:∀k d,k<ops.size->(ziL P ops lA i).getD k d=(lA.getD k true||(ZaC P ops k&&!(Nat.beq k i))):=by
    intro k d hk;unfold ziL;simp [Array.getD_eq_getD_getElem?,hk]
   have hm:j∈Region.ready .any ops (ziL P ops lA i):=by
    refine mem_ready.2 ⟨?_,o,ho,λe' he' hb=>?_⟩
    ·rw [hmay j true hjl,ha];have:=lr j hjl;rw [h0] at this;simp only [yj,Bool.or_false];cases hq:lA.getD j true with
     | false=>rfl
     | true=>rw [hq] at this;simp at this
    ·have h1:=hdep e' he' hb;have hlt:e'.on<ops.size:=by
      rcases Hg e'.on ops.size with q|q
      ·exact q
      ·rw [<-ls] at q;simp [q] at h1
     rw [hmay _ false hlt];have h2:=lr e'.on hlt;rw [jex (by rw [ls];exact hlt),h1] at h2
     cases hq:lA.getD e'.on true with
     | true=>rfl
     | false=>
      rw [hq,Yi] at h2;obtain ⟨q,hq1,hq2⟩:=List.any_eq_true.1 h2.symm;rw [beq_iff_eq] at hq2;have:=al q hq1;rw [hq2] at this;have hne:Nat.beq e'.on i=false:=by
       cases hz:Nat.beq e'.on i with
       | false=>rfl
       | true=>rw [Rc] at hz;exact absurd (hq2.trans hz) (hip q hq1)
      rw [this,hne];rfl
   have:=Hk.1 hall j hm;rw [ha,Bool.or_false,Rc] at this;exact e this
theorem Pen.free {ops:Array Oper} {N0:Nat} {J:Inj} {st:St} {w:World} {a:Act} {q:Nat×Nat} (h:Pen P ops N0 J st w a q):N0<=q.2/\q.2<w.heap.size/\zhW J st.hp.get q.2:=by
 obtain ⟨o,d,n,cs,e,b,h1,h2,h3,h4,h5,h6,h7⟩:=h;exact ⟨h4,h5,h6⟩
theorem Jf2 {ops:Array Oper} (h:zgG P ops=true) {p j:Nat} {x y:Oper} (hp:ops[p]?=some x) (hj:ops[j]?=some y) (ha:ZaC P ops p=true) (hne:j≠p) :
  (Region.waitsFor .any ops j p=true\/x.apart ops y=true)/\(ZaC P ops j=true->x.dst≠y.dst):=by
 have lt:∀{k:Nat} {o:Oper},ops[k]?=some o->k<ops.size:=fun {k o} hk=>by
  rcases Hg k ops.size with q|q
  ·exact q
  ·rw [Array.getElem?_eq_none q] at hk;cases hk
 unfold zgG at h;have h1:=Hk.1 h p (xo.2 (lt hp));rw [ha,Hh,Yi] at h1;have h2:=Hk.1 h1 j (xo.2 (lt hj));have hb:Nat.beq j p=false:=by
  cases hz:Nat.beq j p with
  | false=>rfl
  | true=>rw [Rc] at hz;exact absurd hz hne
 rw [hb,Yi,hp,hj] at h2;simp only [yb,xg,Rm,xc] at h2;refine ⟨h2.1,λq=>?_⟩
 rcases h2.2 with z|z
 ·rw [q] at z;cases z
 ·exact z
theorem Jau {l:Array Bool} (i:Nat):(l.setIfInBounds i true).getD i true=true:=by
 rcases Hg i l.size with q|q
 ·simp [q]
 ·simp [q]
theorem ziM {α:Type} {R:α->α->Prop} (hs:∀a b,R a b->R b a):∀{l:List α},l.Pairwise R->∀a∈l,∀b∈l,a≠b->R a b
 | [],_,a,ha,_,_,_=>by cases ha
 | x::l,h,a,ha,b,hb,hne=>by
  obtain ⟨h1,h2⟩:=List.pairwise_cons.1 h;rcases gc.1 ha with e1|ha1
  ·rcases gc.1 hb with e2|hb1
   ·exact absurd (e1.trans e2.symm) hne
   ·rw [e1];exact h1 b hb1
  ·rcases gc.1 hb with e2|hb1
   ·rw [e2];exact hs _ _ (h1 a ha1)
   ·exact ziM hs h2 a ha1 b hb1 hne
theorem HR.under0 {J:Inj} {B:World} {h:Nat->Option Blk} {w w':World} (hh:HR J ro B h w) (hb:Below w.heap.size w w'):HR J ro B h w':=by
 refine ⟨hh.base.below (hb.mono hh.base.size),λg b hg=>?_,hh.inj⟩
 have h1:=hh.blk g b hg;have h2:=hb.block _ h1.lt;unfold BR at *;rw [h2];exact h1
theorem HR.more {J:Inj} {st:St} {w:World} (hh:HR J ro B st.hp.get w) (o:Obj):HR J ro B st.hp.get (w.alloc o):=hh.under0 ((Below.refl _ w).alloc (Ra _) o)
theorem Post.more {J:Inj} {st:St} {w:World} (hn:J.nx=st.nx) (hh:HR J ro B st.hp.get w) (hro:ro<=J.nx) (o:Obj):Post J ro B st w J st (w.alloc o):=
 ⟨Inj.le.refl J,hn,hh.more o,(Below.refl _ w).alloc hh.base.size o,Ext.refl _,hro,Fr.same λi hi=>Below.heap_alloc w o i hi⟩
theorem Zgn {nt : Nat} {call : jbv} (hcall : JbT P ro B call) (hname : ∀ (f : Nat) (fn : Func), P.funcs[f]? = some fn -> (fn.name == "runtime.NumGoroutine") = false) {ops : Array Oper} {Q : Exit -> Act -> World -> Prop}
  (hsel:Region.noSelect ops=true) (hQp:∀c a w,¬Q (.panic c) a w) (hpen:zgG P ops=true) {J0:Inj} {st0:St} {w0:World} {fr':T V} {st':St} (hB0:B.heap.size<=w0.heap.size)
  (hQ:∀J' a' w',Post J0 ro B st0 w0 J' st' w'->FR J' nt fr' a'.tmps->a'.defers=[]->Q .normal a' w') :
  ∀(fuel:Nat) (lA:Array Bool) (l:List (Nat×Oper)) (es:List Ent) (fr:T V) (st:St),jgm P ops fuel lA=some l->jdC P ro nt call ops l es fr st=some (fr',st')->
   ∀(F:Nat) (J:Inj) (w:World) (a0 a:Act) (listed:Array Bool) (pens:List (Nat×Nat)) (E:List Held),PInv P ro B nt ops J0 st0 w0 lA es fr st F J w a0 a listed pens E->Zb0 P .any ops Q (Old B) F listed E a w:=by
 have lt:∀{k:Nat} {o:Oper},ops[k]?=some o->k<ops.size:=fun {k o} hk=>by
  rcases Hg k ops.size with q|q
  ·exact q
  ·rw [Array.getElem?_eq_none q] at hk;cases hk
 have hsel':=Region.noSelect_spec hsel;intro fuel
 induction fuel with
 | zero=>
  intro lA l es fr st hp h F J w a0 a listed pens E I;simp only [jgm] at hp;split at hp
  ·rename_i hall;cases hp;simp only [jdC,xa,xb] at h;obtain ⟨rfl,rfl⟩:=h;have hl:∀j,j<ops.size->lA.getD j true=true:=λj hj=>by
    rw [jex (by rw [I.la];exact hj)]
    exact Hk.1 hall j (xo.2 hj)
   have hpe:pens=[]:=by
    cases pens with
    | nil=>rfl
    | cons q r=>
     obtain ⟨h1,o,d,n,cs,e,b,h2,_⟩:=I.pn q (yc ..);rw [hl q.1 (lt h2)] at h1;cases h1
   subst hpe;have hr:Region.ready .any ops listed=[]:=by
    refine List.eq_nil_iff_forall_not_mem.2 λj hj=>?_
    obtain ⟨h0,o,ho,_⟩:=mem_ready.1 hj;rw [I.lr j (lt ho),hl j (lt ho)] at h0;cases h0
   have hf:FR J nt fr a.tmps:=⟨by rw [I.ax.sz];exact I.fr.size,λt v ht=>by rw [I.ax.get t (λq hq=>by cases hq)];exact I.fr.get t v ht⟩
   have q:=hQ J a w I.acc hf (I.ax.df.trans I.df);cases F with
   | zero=>exact ⟨hr,q⟩
   | succ F=>exact λ_=>⟨λ_=>q,λi hi=>by rw [hr] at hi;cases hi⟩
  ·cases hp
 | succ fuel ih=>
  intro lA l es fr st hp h;have common:∀{i:Nat} {o:Oper},ops[i]?=some o->i∈Region.ready .any ops lA->∀{F:Nat} {J:Inj} {w:World} {a0 a:Act} {listed:Array Bool} {pens:List (Nat×Nat)} {E:List Held},
    PInv P ro B nt ops J0 st0 w0 lA es fr st F J w a0 a listed pens E->(∀q∈pens,q.1≠i)->
    listed.getD i true=false/\i∈Region.ready .any ops listed/\(∀q∈pens,∀oq,ops[q.1]?=some oq->oq.apart ops o=true)/\(∀q∈pens,∀oq d,ops[q.1]?=some oq->oq.dst=some d->o.dst≠some d)/\JiL ops (listed.setIfInBounds i true)+1<=F/\
    (∀j,j<ops.size->(listed.setIfInBounds i true).getD j true=((lA.setIfInBounds i true).getD j true||pens.any λq=>q.1==j))/\(∀q∈pens,∀x,(listed.setIfInBounds i true).getD x true=false->Region.waitsT .any ops q.1 x=false):=by
   intro i o hi hiA F J w a0 a listed pens E I hnp;obtain ⟨hi0,o2,ho2,hdep⟩:=mem_ready.1 hiA;rw [hi] at ho2;cases ho2;have hil:=lt hi;have hl0:listed.getD i true=false:=by
    rw [I.lr i hil,hi0,Yi];refine List.any_eq_false.2 λq hq=>?_
    rw [beq_iff_eq];exact hnp q hq
   have hap:∀q∈pens,∀oq,ops[q.1]?=some oq->oq.apart ops o=true:=by
    intro q hq oq hoq;rcases (Jf2 hpen hoq hi (I.al q hq) (λz=>hnp q hq z.symm)).1 with z|z
    ·obtain ⟨oj,hoj,e,he,hb,hon⟩:=Region.waitsFor_spec z;rw [hi] at hoj;cases hoj;have h1:=hdep e he hb;rw [hon,getD_both (I.pn q hq).1] at h1;cases h1
    ·exact z
   refine ⟨hl0,mem_ready.2 ⟨hl0,o,hi,λe he hb=>?_⟩,hap,λq hq oq d hoq hd=>(Oper.apart_spec (hap q hq oq hoq)).2.1 d hd,?_,λj hj=>?_,λq hq x hx=>?_⟩
   ·have h1:=hdep e he hb;have hlt:e.on<ops.size:=by
     rcases Hg e.on ops.size with q|q
     ·exact q
     ·rw [<-I.la] at q;simp [q] at h1
    rw [<-jex (by rw [I.ls];exact hlt),I.lr _ hlt,jex (by rw [I.la];exact hlt),h1]
    rfl
   ·have:=jgI hl0 ops.size hil;have h2:=I.cnt;unfold JiL at h2 |-;omega
   ·by_cases e:i=j
    ·subst e;rw [Jau,Jau];rfl
    ·rw [getD_set_ne true e,getD_set_ne true e];exact I.lr j hj
   ·by_cases e:i=x
    ·subst e;rw [Jau] at hx;cases hx
    ·rw [getD_set_ne true e] at hx;exact I.clo q hq x hx
  have pens1:∀{i:Nat} {J J1:Inj} {st1:St} {w w1:World} {a0 a:Act} {F:Nat} {listed:Array Bool} {pens:List (Nat×Nat)} {E:List Held} {dst:Option Nat} {u:Value},PInv P ro B nt ops J0 st0 w0 lA es fr st F J w a0 a listed pens E->(∀q∈pens,q.1≠i)->
    J.le J1->w.heap.size<=w1.heap.size->Fr J st.hp.get w J1 st1.hp.get w1->(∀q∈pens,∀oq d,ops[q.1]?=some oq->oq.dst=some d->dst≠some d)->
    ∀q∈pens,(lA.setIfInBounds i true).getD q.1 true=false/\Pen P ops w0.heap.size J1 st1 w1 (a.put dst u) q:=by
   intro i J J1 st1 w w1 a0 a F listed pens E dst u I hnp hle hs hfr hd q hq;obtain ⟨p1,p2⟩:=I.pn q hq;obtain ⟨f1,f2,f3⟩:=p2.free;exact ⟨by rw [getD_set_ne true (λz=>hnp q hq z.symm)];exact p1,p2.keep hle hs (hfr q.2 f2 f3) (λo ho=>by
    cases hod:o.dst with
    | none=>exact .inl rfl
    | some d=>exact .inr λz=>hd q hq o d ho hod z.symm)⟩
  simp only [jgm] at hp;split at hp
  ·-- one that may come first
   rename_i i hfind;split at hp
   ·rename_i o hfree hi;split at hp
    ·rename_i l' hp';cases hp;intro F J w a0 a listed pens E I;have hiA:=List.mem_of_find?_eq_some hfind;have hcls:Nat.ble (jcn o.op) 1=true:=by
      have:=List.find?_some hfind;simpa only [zgm,hi] using this
     rw [xd] at hcls;have hnp:∀q∈pens,q.1≠i:=by
      intro q hq e;obtain ⟨_,o',d,n,cs,e',b,h1,h2,_⟩:=I.pn q hq;rw [e,hi] at h1;cases h1;exact h2.cls hcls
     obtain ⟨hl0,hready,hap,hdq,hcn,hlr,hclo⟩:=common hi hiA I hnp;obtain ⟨hex,hwt⟩:=I.ax.op hsel hi hap;have hn:=I.acc.nx;have hh:=I.acc.hr;have hf:=I.fr;have hvl:=I.hvl;cases F with
     | zero=>omega
     | succ F=>
     have go:∀(v:Value) (e:Held) (es':List Ent) (fr1:T V),e.x=i->YieldsIf P ops (λw=>Old B w/\e.h w) o v a->e.h w->EntsOK P ro B J es' (e::E)->(∀c∈es',Zau P st c.t c.id c.off=some c.v)->FR J nt fr1 (a0.put o.dst v).tmps->
       jdC P ro nt call ops l' es' fr1 st=some (fr',st')->Zb0 P .any ops Q (Old B) (F+1) listed E a w:=by
      intro v e es' fr1 hx hy he hes' hvl' hf1 hrun;subst hx;refine Jdg e hi hsel' (λc a w q=>(hQp _ _ _ q).elim) F listed E a w (λj oj hj hji hun hno=>Region.free_spec hi hfree j oj hj hji ?_ hno) hready hy hh.base he I.hE ?_
      ·have:=I.lr j (lt hj);rw [hun] at this;cases hq:lA.getD j true with
       | false=>rfl
       | true=>rw [hq] at this;cases this
      ·exact ih (lA.setIfInBounds e.x true) l' es' fr1 st hp' hrun F J w (a0.put o.dst v) (a.put o.dst v) (listed.setIfInBounds e.x true) pens (e::E)
        { acc:=I.acc,fr:=hf1,df:=by rw [zM];exact I.df,ls:=by rw [Qh];exact I.ls,la:=by rw [Qh];exact I.la,lr:=hlr,cnt:=by omega,ax:=I.ax.put _ _,pn:=pens1 I hnp (Inj.le.refl J) (Ra _) (Fr.same λ_ _=>rfl) hdq,al:=I.al,clo:=hclo,rr:=I.rr,hes:=hes',hE:=λe' he'=>(gc.1 he').elim (λq=>q▸he) (I.hE e'),hw:=λe' he' q hq=>(gc.1 he').elim (λz=>by rw [z];exact I.clo q hq _ hl0) (λz=>I.hw e' z q hq),hvl:=hvl' }
     have triv:EntsOK P ro B J es (⟨i,λ_=>True⟩::E):=λe he=>(gc.1 he).elim (λq=>.inl (by subst q;intro _;trivial)) (I.hes e)
     simp only [jdC] at h;cases hw:ZG ops fr o with
     | none=>simp [hw] at h
     | some x=>
      have hwa:=hwt.trans (JZ hf hw);cases x with
      | false=>
       simp only [hw] at h;cases hpt:Ja4 nt fr o.dst none with
       | none=>simp [hpt] at h
       | some fr1=>
        simp only [hpt] at h;exact go undef ⟨i,λ_=>True⟩ es fr1 rfl (.inr ⟨hwa,rfl⟩) trivial triv hvl (hf.put (.inr ⟨rfl,rfl⟩) hpt) h
      | true=>
       simp only [hw] at h;split at h
       ·rename_i hc;obtain ⟨q1,q2⟩:=JbF (.inl hc);cases hv:vop P ro call fr ⟨st.nx,.e,0⟩ o.op with
        | none=>simp [hv] at h
        | some r=>
         obtain ⟨v,st1⟩:=r;simp only [hv] at h;cases hpt:Ja4 nt fr o.dst v with
         | none=>simp [hpt] at h
         | some fr1=>
          simp only [hpt] at h;obtain ⟨_,x,rfl,_,hok⟩:=jap (w:=w) (st:=⟨st.nx,.e,0⟩) hn (HR.empty hh.base) hf q1 q2 hv;refine go (x.real J) ⟨i,λ_=>True⟩ es fr1 rfl (.inl ⟨hwa,λw2 hw2=>?_⟩) trivial triv hvl (hf.put (.inl ⟨x,rfl,rfl,hok⟩) hpt) h
          obtain ⟨_,x',hx',hr,_⟩:=jap (w:=w2) (st:=⟨st.nx,.e,0⟩) hn (HR.empty hw2.1) hf q1 q2 hv;cases hx';rw [hex];exact hr
       ·rename_i hc;obtain ⟨q1,q2⟩:=JbF (.inr hc);split at h
        ·rename_i t x hop;split at h
         ·rename_i id off hx;cases hv:Zau P st t id off with
          | none=>simp [hv] at h
          | some v=>
           simp only [hv] at h;cases hpt:Ja4 nt fr o.dst (some v) with
           | none=>simp [hpt] at h
           | some fr1=>
            simp only [hpt] at h;have vl:∀st2:St,Zau P st2 t id off=some v->vop P ro call fr st2 o.op=some (some v,st2):=λst2 h2=>by rw [hop];simp only [vop,hx,h2]
            have yields:∀(J2:Inj) (st2:St) (w2:World),J.le J2->J2.nx=st2.nx->HR J2 ro B st2.hp.get w2->Zau P st2 t id off=some v->(execOp a.eval o).run P w2=.ok (.value (v.real J)) w2/\v.ok J2.nx:=by
             intro J2 st2 w2 hl hn2 hh2 hv2;obtain ⟨_,x',hx',hr,hok⟩:=jap (w:=w2) (st:=st2) hn2 hh2 (hf.mono hl) q1 q2 (vl st2 hv2);cases hx';obtain ⟨_,x'',hx'',_,hok0⟩:=jap (w:=w) (st:=st) hn hh hf q1 q2 (vl st hv);cases hx'';rw [hex];exact ⟨by rw [hr,V.real_le hl _ hok0],hok⟩
            have here:=yields J st w (Inj.le.refl J) hn hh hv;refine go (v.real J) ⟨i,λw2=>(execOp a.eval o).run P w2=.ok (.value (v.real J)) w2⟩ (⟨i,t,id,off,v⟩::es) fr1 rfl (.inl ⟨hwa,λw2 hw2=>hw2.2⟩) here.1 ?_ (λc hc=>(gc.1 hc).elim (λq=>by subst q;exact hv) (hvl c)) (hf.put (.inl ⟨v,rfl,rfl,by rw [hn] at *;exact here.2⟩) hpt) h
            intro e he;rcases gc.1 he with rfl|q
            ·exact .inr ⟨_,yc ..,rfl,λJ2 st2 w2 hl hn2 hh2 hv2=>(yields J2 st2 w2 hl hn2 hh2 hv2).1⟩
            ·exact (I.hes e q).imp (λq=>q) λ⟨c,hc,hok⟩=>⟨c,gd _ hc,hok⟩
         ·cases h
        ·cases h
       ·rename_i h0 h1;exfalso;rcases Nat.le_one_iff_eq_zero_or_eq_one.1 hcls with q|q
        ·exact h0 q
        ·exact h1 q
    ·cases hp
   ·cases hp
  ·rename_i hfind;split at hp
   ·rename_i i hpick;split at hp
    ·rename_i o hc hi;split at hp
     ·rename_i l' hp';cases hp;rw [yb] at hc;obtain ⟨hc1,hall⟩:=hc;have hiA:i∈Region.ready .any ops lA:=by simpa using hc1
      have hcls:¬jcn o.op<=1:=by
       have:=List.find?_eq_none.1 hfind i hiA;simpa only [zgm,hi,xd] using this
      simp only [jdC] at h;have early:∀{F:Nat} {J:Inj} {w:World} {a0 a:Act} {listed:Array Bool} {pens:List (Nat×Nat)} {E:List Held},PInv P ro B nt ops J0 st0 w0 lA es fr st F J w a0 a listed pens E->(∃q∈pens,q.1=i)->Zb0 P .any ops Q (Old B) F listed E a w:=by
       intro F J w a0 a listed pens E I ⟨q,hq,hqi⟩;subst hqi;obtain ⟨h0,o',d,n,cs,e,b,h1,hAL,h3,h4,h5,h6,h7⟩:=I.pn q hq;rw [hi] at h1;cases h1;have hw:ZG ops fr o=some true:=by unfold ZG;rw [hAL.grd]
       simp only [hw] at h;split at h
       ·omega
       ·omega
       ·simp only [hAL.vop] at h;generalize hk:(Nat.ble st.nx (St.alloc ⟨st.nx,st.hp,st.nx⟩ b).ver||zcX P (St.alloc ⟨st.nx,st.hp,st.nx⟩ b) (ZaF ops q.1 es))=kk at h;cases kk with
        | false=>simp at h
        | true=>
        simp only at h;cases hpt:Ja4 nt fr o.dst (some (.sl st.nx 0 n n false)) with
        | none=>simp [hpt] at h
        | some fr1=>
        simp only [hpt,jy] at h;have hn:=I.acc.nx;have hpush:=I.acc.hr.push (w':=w) (b:=b) (r:=q.2) (d:=0) (x:=0) (c:=(cs.map (V.real J)).toArray) (e:=e) (fz:=(0,0)) (λ_ _ _=>rfl) I.acc.hr.base h7 (by omega) h6 (by simp [hAL.sz])
         (λk=>by rw [hAL.op] at k;cases k) (λo _=>by simp) (λk v hv=>by
          rw [hAL.get k] at hv;have hm:=List.mem_of_getElem? hv;exact ⟨hAL.ok J v hm,hAL.atom v hm,by simp [hv]⟩)
        have hget:∀g,(St.alloc ⟨st.nx,st.hp,st.nx⟩ b).hp.get g=if g=J.nx then some b else st.hp.get g:=λg=>by
         show (st.hp.upd st.nx (some b)).get g=_;rw [Tgu,hn]
        have hold:∀g bg,st.hp.get g=some bg->g≠J.nx:=λg bg hg=>by have:=(I.acc.hr.blk g bg hg).1;omega
        have hpw:=ziM (R:=λp q:Nat×Nat=>p.1≠q.1/\p.2≠q.2) (λa b h=>⟨h.1.symm,h.2.symm⟩) I.rr
        have hle:=J.le_push (q.2,0,0);have hfrr:∀r,r≠q.2->zhW J st.hp.get r->zhW (J.push (q.2,0,0)) (St.alloc ⟨st.nx,st.hp,st.nx⟩ b).hp.get r:=by
         intro r hr hfree g bg hg;rw [hget] at hg;by_cases e1:g=J.nx
         ·rw [e1,Ips];exact λz=>hr z.symm
         ·rw [ga e1] at hg;rw [hle.m g (I.acc.hr.blk g bg hg).1];exact hfree g bg hg
        have hsub:∀p∈pens.filter (λp=>!(p.1==q.1)),p∈pens/\p.1≠q.1:=λp hp=>by
         obtain ⟨p1,p2⟩:=Ql.1 hp;exact ⟨p1,by simpa using p2⟩
        have hreal:(V.sl st.nx 0 n n false).real (J.push (q.2,0,0))=.slice (some ⟨q.2,0,none⟩) n n:=by
         rw [<-hn];simp [V.real,Ips]
        refine ih (lA.setIfInBounds q.1 true) l' (ZaF ops q.1 es) fr1 _ hp' h F (J.push (q.2,0,0)) w (a0.put o.dst (.slice (some ⟨q.2,0,none⟩) n n)) a listed (pens.filter λp=>!(p.1==q.1)) E
         { acc:=?acc,fr:=?fr,df:=by rw [zM];exact I.df,ls:=I.ls,la:=by rw [Qh];exact I.la,lr:=?lr,cnt:=I.cnt,ax:=?ax,pn:=?pn,al:=λp hp=>I.al p (hsub p hp).1,clo:=λp hp=>I.clo p (hsub p hp).1,rr:=I.rr.filter _,hes:=?hes,hE:=I.hE,hw:=λe he p hp=>I.hw e he p (hsub p hp).1,hvl:=?hvl }
        case acc=>
         refine ⟨I.acc.le.trans hle,by show J.nx+1=st.nx+1;omega,?_,I.acc.below,I.acc.ext.trans ⟨di _,Jcf _ _,λg bg hg he=>?_⟩,Ho I.acc.ro,λr hr hfree=>?_⟩
         ·rw [show (⟨(St.alloc ⟨st.nx,st.hp,st.nx⟩ b).nx,(St.alloc ⟨st.nx,st.hp,st.nx⟩ b).hp,low st.ver (St.alloc ⟨st.nx,st.hp,st.nx⟩ b).ver⟩:St).hp.get=λg=>if g=J.nx then some b else st.hp.get g from funext hget]
          exact hpush
         ·show (St.alloc ⟨st.nx,st.hp,st.nx⟩ b).hp.get g=_;rw [hget,ga (hold g bg hg)];exact hg
         ·obtain ⟨p1,p2⟩:=I.acc.fr r hr hfree;exact ⟨p1,hfrr r (by omega) p2⟩
        case fr=>exact (I.fr.mono hle).put (.inl ⟨.sl st.nx 0 n n false,rfl,hreal.symm,by simp only [V.ok,Inj.push];omega⟩) hpt
        case lr=>
         intro j hj;rw [I.lr j hj];by_cases e1:q.1=j
         ·have h1:(pens.any λp=>p.1==j)=true:=List.any_eq_true.2 ⟨q,hq,by simpa using e1⟩
          rw [h1,<-e1,Jau];simp
         ·rw [getD_set_ne true e1];congr 1;rw [He,List.any_eq_true,List.any_eq_true];constructor
          ·rintro ⟨p,hp,hpj⟩;exact ⟨p,Ql.2 ⟨hp,by
            have hpj':p.1=j:=by simpa using hpj
            have:p.1≠q.1:=λz=>e1 (z.symm.trans hpj')
            simpa using this⟩,hpj⟩
          ·rintro ⟨p,hp,hpj⟩;exact ⟨p,(hsub p hp).1,hpj⟩
        case ax=>
         refine ⟨by rw [zM];exact I.ax.df,?_,λt ht=>?_⟩
         ·rw [hAL.dst];simp [Act.put,I.ax.sz]
         ·rw [hAL.dst];simp only [Act.put];by_cases e1:d=t
          ·subst e1;rcases Hg d a.tmps.size with z|z
           ·rw [h3 z,Array.getElem?_setIfInBounds_self_of_lt (by rw [<-I.ax.sz];exact z)]
           ·rw [Array.getElem?_eq_none z,Array.getElem?_eq_none (by rw [Qh,<-I.ax.sz];exact z)]
          ·rw [Array.getElem?_setIfInBounds_ne e1];refine I.ax.get t λp hp op hop hd=>?_
           by_cases e2:p.1=q.1
           ·rw [e2,hi] at hop;cases hop;rw [hAL.dst] at hd;exact e1 (Rd hd)
           ·exact ht p (Ql.2 ⟨hp,by simpa using e2⟩) op hop hd
        case pn=>
         intro p hp;obtain ⟨p1,p2⟩:=hsub p hp;obtain ⟨f1,f2,f3⟩:=(I.pn p p1).2.free;refine ⟨by rw [getD_set_ne true (λz=>p2 z.symm)];exact (I.pn p p1).1,?_⟩
         have:=(I.pn p p1).2.keep (st1:=⟨(St.alloc ⟨st.nx,st.hp,st.nx⟩ b).nx,(St.alloc ⟨st.nx,st.hp,st.nx⟩ b).hp,low st.ver (St.alloc ⟨st.nx,st.hp,st.nx⟩ b).ver⟩) (w1:=w) (dst:=none) (u:=undef) hle (Ra _)
          ⟨rfl,hfrr p.2 (hpw p p1 q hq (λz=>p2 (by rw [z]))).2 f3⟩ (λo2 _=>by cases o2.dst <;> simp)
         exact this
        case hes=>
         intro e' he';refine ((I.hes.mono hle) e' he').imp id ?_;rintro ⟨c,hc,k1,k2⟩;exact ⟨c,zbx hc (by rw [<-k1];exact I.hw e' he' q hq),k1,k2⟩
        case hvl=>
         intro c hc;have k0:=I.hvl c (Jba hc);cases hg:st.hp.get c.id with
         | none=>simp [Zau,hg] at k0
         | some bg=>
          have e1:(St.alloc ⟨st.nx,st.hp,st.nx⟩ b).hp.get c.id=some bg:=by
           rw [hget,ga (hold _ bg hg)];exact hg
          unfold Zau at k0 |-;rw [hg] at k0;dsimp only;rw [e1];exact k0
      intro F
      induction F with
      | zero=>
       intro J w a0 a listed pens E I;by_cases hmem:∃q∈pens,q.1=i
       ·exact early I hmem
       ·have:=(common hi hiA I (λq hq z=>hmem ⟨q,hq,z⟩)).2.2.2.2.1
        omega
      | succ F ihF=>
       intro J w a0 a listed pens E I;by_cases hmem:∃q∈pens,q.1=i
       ·exact early I hmem
       have hnp:∀q∈pens,q.1≠i:=λq hq z=>hmem ⟨q,hq,z⟩
       obtain ⟨hl0,hready,hap,hdq,hcn,hlr,hclo⟩:=common hi hiA I hnp;obtain ⟨hex,hwt⟩:=I.ax.op hsel hi hap;have hn:=I.acc.nx;have hh:=I.acc.hr;have hf:=I.fr;have hro:=I.acc.ro;intro hcl0;refine ⟨λh0=>(by rw [h0] at hready;cases hready),λj hj=>?_⟩
       by_cases hji:j=i
       ·subst hji;unfold wpOp;simp only [hi];cases hw:ZG ops fr o with
        | none=>simp [hw] at h
        | some x=>
         rw [hwt,JZ hf hw];cases x with
         | false=>
          simp only [hw] at h;cases hpt:Ja4 nt fr o.dst none with
          | none=>simp [hpt] at h
          | some fr1=>
           simp only [hpt] at h;simp only [yd,if_false];exact ⟨E,λe he _=>he,⟨hh.base,I.hE⟩,ih _ l' es fr1 st hp' h F J w (a0.put o.dst undef) (a.put o.dst undef) (listed.setIfInBounds j true) pens E
            { acc:=I.acc,fr:=hf.put (.inr ⟨rfl,rfl⟩) hpt,df:=by rw [zM];exact I.df,ls:=by rw [Qh];exact I.ls,la:=by rw [Qh];exact I.la,lr:=hlr,cnt:=by omega,ax:=I.ax.put _ _,pn:=pens1 I hnp (Inj.le.refl J) (Ra _) (Fr.same λ_ _=>rfl) hdq,al:=I.al,clo:=hclo,rr:=I.rr,hes:=I.hes,hE:=I.hE,hw:=I.hw,hvl:=I.hvl }⟩
         | true=>
          simp only [hw] at h;split at h
          ·omega
          ·omega
          ·cases hv:vop P ro call fr ⟨st.nx,st.hp,st.nx⟩ o.op with
           | none=>simp [hv] at h
           | some r=>
            obtain ⟨v,st1⟩:=r;simp only [hv] at h;generalize hk:(Nat.ble st.nx st1.ver||zcX P st1 (ZaF ops j es))=kk at h;cases kk with
            | false=>simp at h
            | true=>
             simp only at h;cases hpt:Ja4 nt fr o.dst v with
             | none=>simp [hpt] at h
             | some fr1=>
              simp only [hpt,jy] at h;simp only [if_true];have hdone:=ZdG (st:=⟨st.nx,st.hp,st.nx⟩) hcall hname hn hh hro hf hv;rw [<-hex] at hdone;refine .inl (JcX hdone λJ1 w1 u hpost0 hu=>?_)
              have hpost:Post J ro B st w J1 ⟨st1.nx,st1.hp,low st.ver st1.ver⟩ w1:=⟨hpost0.le,hpost0.nx,hpost0.hr,hpost0.below,⟨hpost0.ext.nx,Jcf _ _,λg b hg he=>hpost0.ext.hp g b hg (xi he (zb0 _ _))⟩,hpost0.ro,hpost0.fr⟩
              have hkeep:∀c∈ZaF ops j es,Zau P st1 c.t c.id c.off=some c.v:=by
               intro c hc;rw [xg] at hk;rcases hk with q|q
               ·rw [xd] at q;have h0:=I.hvl c (Jba hc);have hb:∃b,st.hp.get c.id=some b:=by
                 unfold Zau at h0;cases hg:st.hp.get c.id with
                 | none=>simp [hg] at h0
                 | some b=>exact ⟨b,rfl⟩
                obtain ⟨b,hb⟩:=hb;have hlt:=(hh.blk c.id b hb).1;have h1:=hpost0.ext.hp c.id b hb (by omega)
                unfold Zau at h0 |-;rw [h1];rw [hb] at h0;exact h0
               ·exact zdH q hc
              have hE':EntsOK P ro B J1 (ZaF ops j es) (E.filter λe=>!Region.waitsT .any ops j e.x):=by
               intro e he;obtain ⟨he1,he2⟩:=Ql.1 he;refine ((I.hes.mono hpost.le) e he1).imp id ?_;rintro ⟨c,hc,h1,h2⟩;exact ⟨c,zbx hc (by rw [<-h1];simpa using he2),h1,h2⟩
              have hold:∀e∈E.filter λe=>!Region.waitsT .any ops j e.x,e.h w1:=by
               intro e he;rcases hE' e he with q|⟨c,hc,h1,h2⟩
               ·exact q w1
               ·exact h2 J1 st1 w1 (Inj.le.refl _) hpost0.nx hpost0.hr (hkeep c hc)
              exact ⟨E.filter λe=>!Region.waitsT .any ops j e.x,λe he hwt=>Ql.2 ⟨he,by simpa using hwt⟩,⟨hpost.hr.base,hold⟩,
               ih _ l' _ fr1 _ hp' h F J1 w1 (a0.put o.dst u) (a.put o.dst u) (listed.setIfInBounds j true) pens _
                { acc:=I.acc.trans hpost,fr:=(hf.mono hpost.le).put hu hpt,df:=by rw [zM];exact I.df,ls:=by rw [Qh];exact I.ls,la:=by rw [Qh];exact I.la,lr:=hlr,cnt:=by omega,ax:=I.ax.put _ _,pn:=pens1 I hnp hpost.le hpost.below.size hpost.fr hdq,al:=I.al,clo:=hclo,rr:=I.rr,hes:=hE',hE:=hold,hw:=λe he=>I.hw e (Ql.1 he).1,hvl:=hkeep }⟩
       ·-- a row of constants,before its turn
        have haj:ZaC P ops j=true:=by
         rcases ZgI I.ls I.lr I.al hnp hall hj with q|q
         ·exact absurd q hji
         ·exact q
        obtain ⟨hj0,oj,hoj,hdep⟩:=mem_ready.1 hj;have hjl:=lt hoj;have hob:Jf0 P oj=true:=by
         unfold ZaC at haj;rw [hoj] at haj;exact haj
        obtain ⟨d,n,cs,e,b,hAL⟩:=AL.of hob;have hlAj:lA.getD j true=false:=by
         have:=I.lr j hjl;rw [hj0] at this;cases hq:lA.getD j true with
         | false=>rfl
         | true=>rw [hq] at this;cases this
        have hjp:∀q∈pens,q.1≠j:=by
         intro q hq z;have:=I.lr j hjl;rw [hj0,hlAj,Yi] at this;have h1:=List.any_eq_false.1 this.symm q hq;rw [beq_iff_eq] at h1;exact h1 z
        unfold wpOp;simp only [hoj];have hwj:Region.wanted oj (yielded ops a.tmps)=true:=by unfold Region.wanted;rw [hAL.grd]
        rw [hwj];simp only [if_true];refine .inl ?_;unfold Oper.wp;rw [hAL.run J w a];show ∃E',_;have hm:=hh.more (Obj.cells (cs.map (V.real J)).toArray e);have hsz:(w.alloc (Obj.cells (cs.map (V.real J)).toArray e)).heap.size=w.heap.size+1:=by show (w.heap.push _).size=_;simp
        have hold:∀e'∈E.filter λe=>!Region.waitsT .any ops j e.x,e'.h (w.alloc (Obj.cells (cs.map (V.real J)).toArray e)):=by
         intro e' he';rcases I.hes e' (Ql.1 he').1 with q|⟨c,hc,h1,h2⟩
         ·exact q _
         ·exact h2 J st _ (Inj.le.refl _) hn hm (I.hvl c hc)
        refine ⟨E.filter λe=>!Region.waitsT .any ops j e.x,λe he hwt=>Ql.2 ⟨he,by simpa using hwt⟩,⟨hm.base,hold⟩,
         ihF J (w.alloc (Obj.cells (cs.map (V.real J)).toArray e)) a0 (a.put oj.dst (.slice (some ⟨w.heap.size,0,none⟩) n n)) (listed.setIfInBounds j true) ((j,w.heap.size)::pens) (E.filter λe=>!Region.waitsT .any ops j e.x)
          { acc:=I.acc.trans (Post.more hn hh hro _),fr:=hf,df:=I.df,ls:=by rw [Qh];exact I.ls,la:=I.la,lr:=?lr,cnt:=?cnt,ax:=?ax,pn:=?pn,al:=?al,clo:=?clo,rr:=?rr,hes:=λe' he'=>I.hes e' (Ql.1 he').1,hE:=hold,hw:=?hw,hvl:=I.hvl }⟩
        case lr=>
         intro k hk;rw [List.any_cons];by_cases e1:j=k
         ·subst e1;rw [Jau];simp
         ·rw [getD_set_ne true e1,I.lr k hk];have:(j==k)=false:=by simpa using e1
          dsimp only;rw [this,Yi]
        case cnt=>
         have h1:=jgI hj0 ops.size hjl;have h2:=I.cnt;unfold JiL at h2 |-;omega
        case ax=>
         refine ⟨by rw [zM];exact I.ax.df,by rw [hAL.dst];simp [Act.put,I.ax.sz],λt ht=>?_⟩
         have h1:=ht (j,w.heap.size) (yc ..) oj hoj;rw [hAL.dst] at h1 |-;have h2:d≠t:=λz=>h1 (by rw [z])
         simp only [Act.put];rw [Array.getElem?_setIfInBounds_ne h2];exact I.ax.get t λp hp=>ht p (gd _ hp)
        case pn=>
         intro q hq;rcases gc.1 hq with rfl|hq
         ·refine ⟨hlAj,oj,d,n,cs,e,b,hoj,hAL,λhlt=>?_,I.acc.below.size,by rw [hsz];exact gk _,λg bg hg z=>?_,?_⟩
          ·rw [hAL.dst] at hlt |-;simp only [Act.put,Qh] at hlt |-;rw [Array.getElem?_setIfInBounds_self_of_lt hlt]
          ·have:=(hh.blk g bg hg).lt;dsimp only at z;omega
          ·show (w.heap.push _)[w.heap.size]?=_;simp
         ·obtain ⟨f1,f2,f3⟩:=(I.pn q hq).2.free;exact ⟨(I.pn q hq).1,(I.pn q hq).2.keep (Inj.le.refl J) (by rw [hsz];exact di _) ⟨Below.heap_alloc w _ _ f2,f3⟩ (λoq hoq=>by
           have:=(Jf2 hpen hoq hoj (I.al q hq) (λz=>hjp q hq z.symm)).2 haj
           exact .inr this)⟩
        case al=>
         intro q hq;rcases gc.1 hq with rfl|hq
         ·exact haj
         ·exact I.al q hq
        case clo=>
         intro q hq x hx;have hxj:j≠x:=by
          intro z;subst z;rw [Jau] at hx;cases hx
         rw [getD_set_ne true hxj] at hx;rcases gc.1 hq with rfl|hq
         ·cases hz:Region.waitsT .any ops j x with
          | false=>rfl
          | true=>
           obtain ⟨o2,ho2,⟨e',he',hb,hon⟩|⟨d,hd2,hb,od,hod,e2,he2,hb2,hon⟩⟩:=Region.waitsT_spec hz
           ·rw [hoj] at ho2;cases ho2;have:=hdep e' he' hb;rw [hon,getD_both hx] at this;cases this
           ·rw [hoj] at ho2;cases ho2;have:=hcl0 _ _ hod (hdep d hd2 hb) e2 he2 hb2;rw [hon,getD_both hx] at this;cases this
         ·exact I.clo q hq x hx
        case rr=>
         refine List.pairwise_cons.2 ⟨λq hq=>⟨λz=>hjp q hq z.symm,λz=>?_⟩,I.rr⟩
         have:=(I.pn q hq).2.free.2.1;dsimp only at z;omega
        case hw=>
         intro e' he' q hq;obtain ⟨k1,k2⟩:=Ql.1 he';rcases gc.1 hq with rfl|hq
         ·simpa using k2
         ·exact I.hw e' k1 q hq
     ·cases hp
    ·cases hp
   ·cases hp
theorem je2 {nt : Nat} {call : jbv} (hcall : JbT P ro B call) (hname : ∀ (f : Nat) (fn : Func), P.funcs[f]? = some fn -> (fn.name == "runtime.NumGoroutine") = false) (hmix : P.follows .mixedOrders = true) {ops : Array Oper} {Q : Exit -> Act -> World -> Prop}
  (hQp:∀c a w,¬Q (.panic c) a w) {id:Nat} {l:List (Nat×Oper)} {fr fr':T V} {st st':St} {J:Inj} {w:World} {a:Act} (hp:Zem P ops=some l) (h:jdC P ro nt call ops l [] fr st=some (fr',st'))
  (hn:J.nx=st.nx) (hh:HR J ro B st.hp.get w) (hro:ro<=J.nx) (hf:FR J nt fr a.tmps) (hd:a.defers=[]) (hQ:∀J' a' w',Post J ro B st w J' st' w'->FR J' nt fr' a'.tmps->a'.defers=[]->Q .normal a' w'):(Code.region id ops true).wp P Q a w:=by
 unfold Zem at hp;split at hp
 ·rename_i hsel;refine wp_region_any hmix (jen (S0:=Old B) _ _ [] _ _ (λd od _ hl=>by
   have z:(Array.replicate ops.size false)[d]?.getD false=false:=by rw [Array.getElem?_replicate];split <;> rfl
   simp only [Array.getD_eq_getD_getElem?] at hl;rw [z] at hl;cases hl) ?_)
  have p0:Post J ro B st w J st { w with drawn:=w.drawn+1 }:=⟨Inj.le.refl J,hn,hh.congr rfl,⟨rfl,rfl,rfl,Ra _,λ_ _=>rfl⟩,Ext.refl _,hro,Fr.same λ_ _=>rfl⟩
  split at hp
  ·rename_i l0 hp0;cases hp;exact jgn hcall hname hsel hQp ops.size _ l [] [] fr fr' st st' J _ a hp0 h hn p0.hr hro hf hd (λ_ h=>by cases h) (λ_ h=>by cases h) (λ_ h=>by cases h) (λJ' a' w' hp'=>hQ J' a' w' (p0.trans hp'))
  ·cases hpen:zgG P ops with
   | false=>rw [hpen] at hp;cases hp
   | true=>
    rw [hpen,Qa] at hp;exact Zgn hcall hname hsel hQp hpen p0.hr.base.size (λJ' a' w' hp'=>hQ J' a' w' (p0.trans hp')) ops.size _ l [] fr st hp h ops.size J _ a a (Array.replicate ops.size false) [] []
     { acc:=Post.refl hn p0.hr hro,fr:=hf,df:=hd,ls:=by simp,la:=by simp,lr:=λj hj=>by simp,cnt:=by unfold JiL;exact Yb (List.countP_le_length) (by simp),ax:=⟨rfl,rfl,λ_ _=>rfl⟩,pn:=λ_ h=>(Qe h).elim,al:=λ_ h=>(Qe h).elim,clo:=λ_ h=>(Qe h).elim,rr:=List.Pairwise.nil,hes:=λ_ h=>(Qe h).elim,hE:=λ_ h=>(Qe h).elim,hw:=λ_ h=>(Qe h).elim,hvl:=λ_ h=>(Qe h).elim }
 ·cases hp
end
end Go.Vm
namespace Go.Vm
open Go.RowKit
def Ex.real:Ex->Exit
 | .nrm=>.normal
 | .exit id=>.exit id
 | .goto l=>.goto l
 | .ret=>.ret
def CQ (J:Inj) (ro:Nat) (B:World) (nt:Nat) (st:St) (w:World) (e:Ex) (fr':T V) (st':St) (e1:Exit) (a1:Act) (w1:World):Prop:=
 e1=e.real/\∃J',Post J ro B st w J' st' w1/\FR J' nt fr' a1.tmps/\a1.defers=[]
def Jib (P:Program) (ro:Nat) (B:World) (nt:Nat) (run:jiI):Prop:=
 ∀c fr st e fr' st',run c fr st=some (e,fr',st')->∀J w a,J.nx=st.nx->HR J ro B st.hp.get w->ro<=J.nx->FR J nt fr a.tmps->a.defers=[]->c.wp P (CQ J ro B nt st w e fr' st') a w
theorem CQ.trans {J J1:Inj} {ro:Nat} {B:World} {nt:Nat} {st st1:St} {w w1:World} {e:Ex} {fr':T V} {st':St} (h:Post J ro B st w J1 st1 w1) {e1:Exit} {a1:Act} {w2:World} (k:CQ J1 ro B nt st1 w1 e fr' st' e1 a1 w2) :
  CQ J ro B nt st w e fr' st' e1 a1 w2:=by
 obtain ⟨h1,J',h2,h3,h4⟩:=k;exact ⟨h1,J',h.trans h2,h3,h4⟩
section
variable {P:Program} {ov:Ov} {ro:Nat} {B:World}
theorem zdh {nt:Nat} {c:Code} {run:T V->St->Option (Ex×T V×St)}
  (hrun:∀fr st e fr' st',run fr st=some (e,fr',st')->∀J w a,J.nx=st.nx->HR J ro B st.hp.get w->ro<=J.nx->FR J nt fr a.tmps->a.defers=[]->c.wp P (CQ J ro B nt st w e fr' st') a w) :
  ∀(n:Nat) (fr:T V) (st:St) (e:Ex) (fr':T V) (st':St),Zbv run n fr st=some (e,fr',st')->∀J w a,J.nx=st.nx->HR J ro B st.hp.get w->ro<=J.nx->FR J nt fr a.tmps->a.defers=[]->
   ∀(b:Frame) (k:List Item) (cs:List Frame),∃e1 a1 w1,CQ J ro B nt st w e fr' st' e1 a1 w1/\Arrives P (lone (b.at a (.code c::.inLoop c::k)) cs w) b k cs e1 a1 w1
 | 0,fr,st,e,fr',st',h=>by simp [Zbv] at h
 | n+1,fr,st,e,fr',st',h=>by
  intro J w a hn hh hro hf hd b k cs;simp only [Zbv] at h;cases hr:run fr st with
  | none=>simp [hr] at h
  | some r=>
   obtain ⟨e0,fr0,st0⟩:=r;obtain ⟨e1,a1,w1,⟨he,J1,hp,hf1,hd1⟩,harr⟩:=hrun fr st e0 fr0 st0 hr J w a hn hh hro hf hd b (.inLoop c::k) cs;cases e0 with
   | nrm=>
    simp only [hr] at h;subst he;obtain ⟨e2,a2,w2,hq,harr2⟩:=zdh hrun n fr0 st0 e fr' st' h J1 w1 a1 hp.nx hp.hr hp.ro hf1 hd1 b k cs;exact ⟨e2,a2,w2,CQ.trans hp hq,.of_steps (Steps.trans harr (.one step_inLoop)) harr2⟩
   | exit id=>
    simp only [hr,xa,xb] at h;obtain ⟨rfl,rfl,rfl⟩:=h;subst he;exact ⟨.exit id,a1,w1,⟨rfl,J1,hp,hf1,hd1⟩,.pass (x:=.inLoop c) rfl (λ_ _=>.inl (by simp)) harr⟩
   | goto l=>
    simp only [hr,xa,xb] at h;obtain ⟨rfl,rfl,rfl⟩:=h;subst he;exact ⟨.goto l,a1,w1,⟨rfl,J1,hp,hf1,hd1⟩,.pass (x:=.inLoop c) rfl (λ_ _=>.inl (by simp)) harr⟩
   | ret=>
    simp only [hr,xa,xb] at h;obtain ⟨rfl,rfl,rfl⟩:=h;subst he;exact ⟨.ret,a1,w1,⟨rfl,J1,hp,hf1,hd1⟩,.pass (x:=.inLoop c) rfl (λ_ _=>.inl (by simp)) harr⟩
theorem jcI {nt:Nat} {body:Code} {run:jiI} (hrun:Jib P ro B nt run) :
  ∀(n:Nat) (c:Code) (fr:T V) (st:St) (e:Ex) (fr':T V) (st':St),jaT run body n c fr st=some (e,fr',st')->∀J w a,J.nx=st.nx->HR J ro B st.hp.get w->ro<=J.nx->FR J nt fr a.tmps->a.defers=[]->
   ∀(b:Frame) (k:List Item) (cs:List Frame),∃e1 a1 w1,CQ J ro B nt st w e fr' st' e1 a1 w1/\Arrives P (lone (b.at a (.code c::.inScope body::k)) cs w) b k cs e1 a1 w1
 | 0,c,fr,st,e,fr',st',h=>by simp [jaT] at h
 | n+1,c,fr,st,e,fr',st',h=>by
  intro J w a hn hh hro hf hd b k cs;simp only [jaT] at h;cases hr:run c fr st with
  | none=>simp [hr] at h
  | some r=>
   obtain ⟨e0,fr0,st0⟩:=r;obtain ⟨e1,a1,w1,⟨he,J1,hp,hf1,hd1⟩,harr⟩:=hrun c fr st e0 fr0 st0 hr J w a hn hh hro hf hd b (.inScope body::k) cs;cases e0 with
   | nrm=>
    simp only [hr,xa,xb] at h;obtain ⟨rfl,rfl,rfl⟩:=h;subst he;exact ⟨.normal,a1,w1,⟨rfl,J1,hp,hf1,hd1⟩,Steps.trans harr (.one step_inScope)⟩
   | exit id=>
    simp only [hr,xa,xb] at h;obtain ⟨rfl,rfl,rfl⟩:=h;subst he;exact ⟨.exit id,a1,w1,⟨rfl,J1,hp,hf1,hd1⟩,λk' hk=>harr k' (by simp [exitTo,hk])⟩
   | ret=>
    simp only [hr,xa,xb] at h;obtain ⟨rfl,rfl,rfl⟩:=h;subst he;exact ⟨.ret,a1,w1,⟨rfl,J1,hp,hf1,hd1⟩,harr⟩
   | goto l=>
    simp only [hr] at h;subst he;cases hl:findLabel body l with
    | none=>
     simp only [hl,xa,xb] at h;obtain ⟨rfl,rfl,rfl⟩:=h;exact ⟨.goto l,a1,w1,⟨rfl,J1,hp,hf1,hd1⟩,λk' hk=>harr k' (by simp [gotoIn,hl,hk])⟩
    | some rest=>
     simp only [hl] at h;obtain ⟨e2,a2,w2,hq,harr2⟩:=jcI hrun n rest fr0 st0 e fr' st' h J1 w1 a1 hp.nx hp.hr hp.ro hf1 hd1 b k cs;exact ⟨e2,a2,w2,CQ.trans hp hq,.of_steps (harr _ (by simp [gotoIn,hl])) harr2⟩
theorem jdH:∀(l:List V) (i:Nat) (fr:T V) (t:Nat),(jaK l i fr).get t=if i<=t/\t<i+l.length then l[t-i]? else fr.get t
 | [],i,fr,t=>by rw [ga (by simp)];rfl
 | v::r,i,fr,t=>by
  simp only [jaK,V.force_eq];rw [jdH r (i+1),Tgu];by_cases e:t=i
  ·subst e;rw [ga (by omega),ya rfl,ya (by simp)]
   simp
  ·by_cases e2:i+1<=t/\t<i+1+r.length
   ·rw [ya e2,ya (by simp;omega),show t-i=(t-(i+1))+1 from by omega]
    simp
   ·rw [ga e2,ga e,ga (by simp;omega)]
def jiM (tmps:Array Value):ResultVar->Sem Value
 | .tmp t=>pure (tmps.getD t undef)
 | .cell a t=>do loadVar t (<-asAddr (tmps.getD a undef))
theorem Jgn (fn:Func) (tmps:Array Value):results fn tmps=(do
  let vs <-fn.results.mapM (jiM tmps)
  pure (if h:vs.size=1 then vs[0] else .tuple vs)):=rfl
theorem Zex {J:Inj} {st:St} {w:World} {nt:Nat} {fr:T V} {tmps:Array Value} (hn:J.nx=st.nx) (hh:HR J ro B st.hp.get w) (hf:FR J nt fr tmps) {r:ResultVar} {v:V} (h:za5 P fr st r=some v) :
  (jiM tmps r).run P w=.ok (v.real J) w/\v.ok J.nx:=by
 cases r with
 | tmp t=>
  obtain ⟨q1,q2⟩:=hf.get t v h;exact ⟨by simp [jiM,Array.getD_eq_getD_getElem?,q2],q1⟩
 | cell a t=>
  simp only [za5] at h;cases hg:fr.get a with
  | none=>simp [hg] at h
  | some u=>
   cases u <;> simp only [hg,reduceCtorEq] at h
   rename_i g off;obtain ⟨q1,q2⟩:=hf.get a _ hg;obtain ⟨r1,r2⟩:=ZcX (P:=P) hn hh h;refine ⟨?_,by rw [hn];exact r2⟩
   simp only [V.real] at q2 r1;simp only [jiM,Array.getD_eq_getD_getElem?,q2,dm,asAddr,Qd,Yf,Yd];simpa [Instr.loadAt,Instr.sureAddr] using r1
theorem Ze2 {J:Inj} {st:St} {w:World} {nt:Nat} {fr:T V} {tmps:Array Value} (hn:J.nx=st.nx) (hh:HR J ro B st.hp.get w) (hf:FR J nt fr tmps) {fn:Func} {vs:List V} (h:JG P fr st fn.results.toList=some vs) :
  (results fn tmps).run P w=.ok ((zcn vs).real J) w/\(zcn vs).ok J.nx:=by
 have key:∀(rs:List ResultVar) (vs:List V),JG P fr st rs=some vs->
   (rs.mapM (jiM tmps)).run P w=.ok (vs.map (V.real J)) w/\V.oks J.nx vs:=by
  intro rs
  induction rs with
  | nil=>intro vs h;simp only [JG,xa] at h;subst h;simp [V.oks]
  | cons r rs ih=>
   intro vs h;simp only [JG] at h;cases h1:za5 P fr st r with
   | none=>simp [h1] at h
   | some v=>
    cases h2:JG P fr st rs with
    | none=>simp [h1,h2] at h
    | some us=>
     simp only [h1,h2,xa] at h;subst h;obtain ⟨q1,q2⟩:=Zex (tmps:=tmps) hn hh hf h1;obtain ⟨p1,p2⟩:=ih us h2;refine ⟨?_,q2,p2⟩;rw [List.mapM_cons,Qd,q1];simp only [Yd,Qd,p1,Yf,Rl]
 obtain ⟨k1,k2⟩:=key _ _ h;rw [Jgn,Qd,Array.mapM_eq_mapM_toList,Sem.run_map,k1];simp only [Yd,Yf];cases vs with
 | nil=>simp [zcn,V.real,V.reals,V.ok,V.oks]
 | cons v r=>
  cases r with
  | nil=>simp only [V.oks] at k2;simp [zcn,k2.1]
  | cons u r=>simp only [zcn,V.ok];exact ⟨by simp [V.real,Vre],k2⟩
def OvR (P:Program) (ro:Nat) (B:World) (ov:Ov):Prop:=∀B',Old B B'->JbT P ro B' ov
def OvOK (P:Program) (B:World) (ov:Ov):Prop:=OvR P GL B ov
def Je2 (P:Program) (B:World) (ov:Ov0):Prop:=
 ∀f args v,ov f args=some v->v.plainT=true/\v.ok 0/\(∃fn c,P.funcs[f]?=some fn/\fn.body=some c)/\
  ∀J w,V.oks J.nx args->Old B w->Calls P f (V.reals J args).toArray w λe w'=>e=.returned (v.real J)/\Below w.heap.size w w'
theorem HR.under {J:Inj} {ro:Nat} {B:World} {h:Nat->Option Blk} {w w':World} (hh:HR J ro B h w) (hb:Below w.heap.size w w'):HR J ro B h w':=by
 refine ⟨hh.base.below (hb.mono hh.base.size),λg b hg=>?_,hh.inj⟩
 have h1:=hh.blk g b hg;have h2:=hb.block _ h1.lt;unfold BR at *;rw [h2];exact h1
theorem Old.trans {A B C:World} (h:Old A B) (k:Old B C):Old A C:=⟨Yb h.size k.size,λi hi=>(k.block i (xi hi h.size)).trans (h.block i hi)⟩
theorem Jex {o:Ov0} (h:Je2 P B o):OvR P ro B (JcW o):=by
 intro B' hB f args st v st' h' J w hn hh hro hargs;unfold JcW at h';cases ho:o f args with
 | none=>rw [ho] at h';cases h'
 | some u=>
  simp only [ho,xa,xb] at h';obtain ⟨rfl,rfl⟩:=h';obtain ⟨h1,h2,h3,h4⟩:=h f args u ho;refine ⟨h3,(h4 J w hargs (hB.trans hh.base)).mono ?_⟩;rintro e w' ⟨he,hb⟩;exact ⟨J,he,V.ok_plainT 0 J.nx u h1 h2,Inj.le.refl J,hn,hh.under hb,hb.mono hh.base.size,Ext.refl _,hro,Fr.same λi hi=>hb.block i hi⟩
theorem jdh (hov:OvR P ro B ov) {run:Nat->jiI} (hrun:∀nt,Jib P ro B nt (run nt)):JbT P ro B (ZS P ov run):=by
 intro f args st v st' h J w hn hh hro hargs;unfold ZS at h;cases ho:ov f args st with
 | some u=>
  obtain ⟨u,st1⟩:=u;simp only [ho,xa,xb] at h;obtain ⟨rfl,rfl⟩:=h;exact hov B (Old.refl B) f args st u st1 ho J w hn hh hro hargs
 | none=>
 simp only [ho] at h;cases hf:P.funcs[f]? with
 | none=>simp [hf] at h
 | some fn=>
  simp only [hf] at h;cases hb:fn.body with
  | none=>simp [hb] at h
  | some c=>
   simp only [hb] at h;refine ⟨⟨fn,c,rfl,hb⟩,?_⟩;cases hl:Nat.ble args.length fn.ntmps with
   | false=>simp [hl] at h
   | true=>
    simp only [hl,Qa] at h;rw [xd] at hl;have hsz:(V.reals J args).toArray.size=args.length:=by simp [Vre]
    have hframe:FR J fn.ntmps (jaK args 0 .e) ((V.reals J args).toArray++Array.replicate (fn.ntmps-(V.reals J args).toArray.size) undef):=by
     refine ⟨by simp [Vre];omega,λt x hx=>?_⟩
     rw [jdH] at hx;by_cases e:0<=t/\t<0+args.length
     ·rw [ya e,Yn] at hx;refine ⟨(V.oks_iff _ _).1 hargs x (List.mem_of_getElem? hx),?_⟩;rw [Array.getElem?_append_left (by rw [hsz];omega)]
      simp [Vre,hx]
     ·rw [ga e] at hx;simp [T.get_e] at hx
    cases hr:run fn.ntmps c (jaK args 0 .e) st with
    | none=>simp [hr] at h
    | some r=>
     obtain ⟨e,fr1,st1⟩:=r;have hwp:=hrun fn.ntmps c _ st e fr1 st1 hr J w ⟨(V.reals J args).toArray++Array.replicate (fn.ntmps-(V.reals J args).toArray.size) undef,[]⟩ hn hh hro hframe rfl;have fin:(match JG P fr1 st1 fn.results.toList with|some vs=>some (zcn vs,st1)|none=>none)=some (v,st')->(e=.nrm\/e=.ret)->
       Calls P f (V.reals J args).toArray w λe w'=>∃J',e=.returned (v.real J')/\v.ok J'.nx/\Post J ro B st w J' st' w':=by
      intro hres he;cases hrs:JG P fr1 st1 fn.results.toList with
      | none=>simp [hrs] at hres
      | some vs=>
       simp only [hrs,xa,xb] at hres;obtain ⟨rfl,rfl⟩:=hres;refine calls_of_wp hf hb (wp_mono hwp ?_);rintro e1 a1 w1 ⟨h1,J1,hp,hf1,hd1⟩;obtain ⟨q1,q2⟩:=Ze2 (P:=P) hp.nx hp.hr hf1 hrs;rcases he with rfl|rfl <;> subst h1 <;> exact ⟨hd1,_,q1,J1,rfl,q2,hp⟩
     cases e <;> simp only [hr,reduceCtorEq] at h
     ·exact fin h (.inl rfl)
     ·exact fin h (.inr rfl)
theorem JgI (hov : OvR P ro B ov) (hmix : P.follows .mixedOrders = true) (hname : ∀ (f : Nat) (fn : Func), P.funcs[f]? = some fn -> (fn.name == "runtime.NumGoroutine") = false) : ∀ (n nt : Nat), Jib P ro B nt (evC P ov ro n nt) := by
 intro n
 induction n with
 | zero=>intro nt c fr st e fr' st' h;simp [evC] at h
 | succ n ih=>
  intro nt c fr st e fr' st' h J w a hn hh hro hf hd;have hcall:JbT P ro B (ZS P ov (evC P ov ro n)):=jdh hov ih;have here:∀(ex:Ex),CQ J ro B nt st w ex fr st ex.real a w:=λex=>⟨rfl,J,Post.refl hn hh hro,hf,hd⟩
  cases c with
  | skip=>
   simp only [evC,xa,xb] at h;obtain ⟨rfl,rfl,rfl⟩:=h;exact wp_skip (here .nrm)
  | label l=>
   simp only [evC,xa,xb] at h;obtain ⟨rfl,rfl,rfl⟩:=h;exact wp_label (here .nrm)
  | exit id=>
   simp only [evC,xa,xb] at h;obtain ⟨rfl,rfl,rfl⟩:=h;exact wp_exit (here (.exit id))
  | goto l=>
   simp only [evC,xa,xb] at h;obtain ⟨rfl,rfl,rfl⟩:=h;exact wp_goto (here (.goto l))
  | ret=>
   simp only [evC,xa,xb] at h;obtain ⟨rfl,rfl,rfl⟩:=h;exact wp_ret (here .ret)
  | region id ops draw=>
   simp only [evC] at h;cases draw with
   | false=>
    simp only at h;cases hv:Jdu P ro nt (ZS P ov (evC P ov ro n)) ops ops.toList fr st with
    | none=>simp [hv] at h
    | some r=>
     obtain ⟨fr1,st1⟩:=r;simp only [hv,xa,xb] at h;obtain ⟨rfl,rfl,rfl⟩:=h;refine wp_region ?_;have:=zcg (P:=P) hcall hname (Q:=CQ J ro B nt st w .nrm fr1 st1) ops.toList 0 fr fr1 st st1 J w a (by simp) hv hn hh hro hf hd (λJ' a' w' hp hf' hd'=>⟨rfl,J',hp,hf',hd'⟩)
     rw [Array.length_toList,<-List.range_eq_range'] at this;exact this
   | true=>
    simp only at h;have quiet:∀fr1,Jia ops=true->ZaR P ro nt (ZS P ov (evC P ov ro n)) ops ops.toList fr st=some fr1->(Code.region id ops true).wp P (CQ J ro B nt st w .nrm fr1 st) a w:=by
     intro fr1 hB hv;have hst:JdG J ro B st w { w with drawn:=w.drawn+1 }:=⟨hh.congr rfl,⟨rfl,rfl,rfl,Ra _,λ_ _=>rfl⟩,Fr.same λ_ _=>rfl⟩
     refine wp_region_quiet hmix (by unfold Jia at hB;rw [yb] at hB;exact hB.1) (C:=JdG J ro B st w) hst ?_
     refine Jcw hcall hname hn hro ⟨_,hst⟩ ops.toList fr fr1 a hv hf hd (λa' hf' hd' w' hs=>⟨rfl,J,⟨Inj.le.refl J,hn,hs.1,hs.2.1,Ext.refl _,hro,hs.2.2⟩,hf',hd'⟩)
    cases hB:JgF P ops with
    | false=>
     cases hT:ZgF ops with
     | false=>
      simp only [hB,hT] at h;cases hpl:Zem P ops with
      | none=>
       simp only [hpl] at h;cases hL:Jia ops with
       | false=>simp [hL] at h
       | true=>
        simp only [hL] at h;cases hv:ZaR P ro nt (ZS P ov (evC P ov ro n)) ops ops.toList fr st with
        | none=>simp [hv] at h
        | some fr1=>
         simp only [hv,xa,xb] at h;obtain ⟨rfl,rfl,rfl⟩:=h;exact quiet fr1 hL hv
      | some pl=>
       simp only [hpl] at h;cases hv:jdC P ro nt (ZS P ov (evC P ov ro n)) ops pl [] fr st with
       | none=>simp [hv] at h
       | some r=>
        obtain ⟨fr1,st1⟩:=r;simp only [hv,xa,xb] at h;obtain ⟨rfl,rfl,rfl⟩:=h;exact je2 hcall hname hmix (Q:=CQ J ro B nt st w .nrm fr1 st1) (λc a w q=>by cases q.1) hpl hv hn hh hro hf hd (λJ' a' w' hp hf' hd'=>⟨rfl,J',hp,hf',hd'⟩)
     | true=>
      simp only [hB,hT] at h;cases hv:ZaR P ro nt (ZS P ov (evC P ov ro n)) ops (ops.toList.take (ops.size-1)) fr st with
      | none=>simp [hv] at h
      | some fr1=>
       simp only [hv] at h;cases hv2:Jdu P ro nt (ZS P ov (evC P ov ro n)) ops (ops.toList.drop (ops.size-1)) fr1 st with
       | none=>simp [hv2] at h
       | some r=>
        obtain ⟨fr2,st2⟩:=r;simp only [hv2,xa,xb] at h;obtain ⟨rfl,rfl,rfl⟩:=h;unfold ZgF at hT;simp only [yb] at hT;have hst:JdG J ro B st w { w with drawn:=w.drawn+1 }:=⟨hh.congr rfl,⟨rfl,rfl,rfl,Ra _,λ_ _=>rfl⟩,Fr.same λ_ _=>rfl⟩
        have e:ops=ops.toList.toArray:=by simp
        rw [e];refine wp_region_still_tail (ops.size-1) hmix (by rw [<-e];exact hT.1) ?_
        rw [<-e];refine zcx hn hst.1 (ops.toList.take (ops.size-1)) fr fr1 a hT.2.1 hv hf hd (λa' hf' hd'=>?_)
        rw [<-wpOps_eq_wpList (ops.toList.drop (ops.size-1)) (ops.size-1) (λj=>by simp [List.getElem?_drop])]
        have p0:Post J ro B st w J st { w with drawn:=w.drawn+1 }:=⟨Inj.le.refl J,hn,hst.1,hst.2.1,Ext.refl _,hro,hst.2.2⟩
        exact zcg (P:=P) hcall hname (Q:=CQ J ro B nt st w .nrm fr2 st2) (ops.toList.drop (ops.size-1)) (ops.size-1) fr1 fr2 st st2 J _ a' (λj=>by simp [List.getElem?_drop]) hv2 hn hst.1 hro hf' hd' (λJ' a2 w' hp hf2 hd2=>⟨rfl,J',p0.trans hp,hf2,hd2⟩)
    | true=>
     simp only [hB] at h;cases hv:ZaR P ro nt (ZS P ov (evC P ov ro n)) ops ops.toList fr st with
     | none=>simp [hv] at h
     | some fr1=>
      simp only [hv,xa,xb] at h;obtain ⟨rfl,rfl,rfl⟩:=h;unfold JgF at hB;rw [yb] at hB;exact quiet fr1 hB.1 hv
  | seq x y=>
   simp only [evC] at h;cases hx:evC P ov ro n nt x fr st with
   | none=>simp [hx] at h
   | some r=>
    obtain ⟨e0,fr0,st0⟩:=r;have h1:=ih nt x fr st e0 fr0 st0 hx J w a hn hh hro hf hd;refine wp_seq (wp_mono h1 ?_);rintro e1 a1 w1 ⟨he,J1,hp,hf1,hd1⟩;cases e0 with
    | nrm=>
     simp only [hx] at h;subst he;exact wp_mono (ih nt y fr0 st0 e fr' st' h J1 w1 a1 hp.nx hp.hr hp.ro hf1 hd1) λ_ _ _ hq=>CQ.trans hp hq
    | _=>
     simp only [hx,xa,xb] at h;obtain ⟨rfl,rfl,rfl⟩:=h;subst he;exact ⟨rfl,J1,hp,hf1,hd1⟩
  | cond c x y=>
   simp only [evC] at h;cases hc:zL fr c with
   | none=>simp [hc] at h
   | some u=>
    cases u <;> simp only [hc,reduceCtorEq] at h
    rename_i t;have hev:=(Zbw hf c _ hc).1;simp only [V.real] at hev;cases t with
    | true=>exact wp_cond_true hev (ih nt x fr st e fr' st' h J w a hn hh hro hf hd)
    | false=>exact wp_cond_false hev (ih nt y fr st e fr' st' h J w a hn hh hro hf hd)
  | block id x=>
   simp only [evC] at h;cases hx:evC P ov ro n nt x fr st with
   | none=>simp [hx] at h
   | some r=>
    obtain ⟨e0,fr0,st0⟩:=r;have h1:=ih nt x fr st e0 fr0 st0 hx J w a hn hh hro hf hd;refine wp_block (wp_mono h1 ?_);rintro e1 a1 w1 ⟨he,J1,hp,hf1,hd1⟩;cases e0 with
    | exit id'=>
     simp only [hx] at h;subst he;simp only [Ex.real,Exit.inBlock];by_cases hid:id'=id
     ·have:Nat.beq id' id=true:=by rw [Rc];exact hid
      simp only [this,Qa,xa,xb] at h;obtain ⟨rfl,rfl,rfl⟩:=h;rw [ya hid];exact ⟨rfl,J1,hp,hf1,hd1⟩
     ·have:Nat.beq id' id=false:=by rw [dl];intro q;rw [Rc] at q;exact hid q
      simp only [this,Yc,xa,xb] at h;obtain ⟨rfl,rfl,rfl⟩:=h;rw [ga hid];exact ⟨rfl,J1,hp,hf1,hd1⟩
    | _=>
     simp only [hx,xa,xb] at h;obtain ⟨rfl,rfl,rfl⟩:=h;subst he;exact ⟨rfl,J1,hp,hf1,hd1⟩
  | loop x=>
   simp only [evC] at h;intro b k cs;obtain ⟨e1,a1,w1,hq,harr⟩:=zdh (c:=x) (λfr st e fr' st' hx=>ih nt x fr st e fr' st' hx) n fr st e fr' st' h J w a hn hh hro hf hd b k cs
   exact ⟨e1,a1,w1,hq,.of_steps (.one step_loop) harr⟩
  | scope x=>
   simp only [evC] at h;intro b k cs;obtain ⟨e1,a1,w1,hq,harr⟩:=jcI (ih nt) n x fr st e fr' st' h J w a hn hh hro hf hd b k cs;exact ⟨e1,a1,w1,hq,.of_steps (.one step_scope) harr⟩
  | rangeFunc _ _ _ _=>simp [evC] at h
  | refuse _=>simp [evC] at h
theorem ze3 (hov : OvR P ro B ov) (hmix : P.follows .mixedOrders = true) (hname : ∀ (f : Nat) (fn : Func), P.funcs[f]? = some fn -> (fn.name == "runtime.NumGoroutine") = false) : ∀ (n : Nat), JbT P ro B (evF P ov ro n) :=
 λn=>jdh hov (JgI hov hmix hname n)
theorem OvOK.old {A B:World} (h:OvOK P A ov) (k:Old A B):OvOK P B ov:=λB' hB=>h B' (k.trans hB)
def J0:Inj:=⟨GL,λg=>(g,0,0),λ_ h=>⟨h,rfl⟩⟩
def GOn (B:World) (gs:List (Nat×List V)):Prop:=
 ∀x∈gs,x.1<GL/\(∀v∈x.2,v.plain=true/\v.ok 0)/\∃c e fz,B.heap[x.1]?=some (.cells c e fz)/\c.toList=x.2.map (V.real J0)
theorem GOn.old {A B:World} {gs:List (Nat×List V)} (h:GOn A gs) (k:Old A B):GOn B gs:=λx hx=>by
 obtain ⟨h1,h2,c,e,fz,h3,h4⟩:=h x hx;refine ⟨h1,h2,c,e,fz,?_,h4⟩;rw [k.block x.1 ?_];exact h3;rcases Hg x.1 A.heap.size with h|h
 ·exact h
 ·rw [Array.getElem?_eq_none h] at h3;cases h3
theorem ZdH:∀(gs:List (Nat×List V)) (g:Nat) (b:Blk),(jfv gs).get g=some b->∃cs,(g,cs)∈gs/\JbE cs 1 false=some b
 | [],g,b,h=>by simp [jfv,T.get_e] at h
 | (k,cs)::r,g,b,h=>by
  simp only [jfv] at h;cases hb:JbE cs 1 false with
  | none=>
   simp only [hb] at h;obtain ⟨cs',h1,h2⟩:=ZdH r g b h;exact ⟨cs',gd _ h1,h2⟩
  | some b0=>
   simp only [hb] at h;rw [Tgu] at h;by_cases e:g=k
   ·subst e;rw [ya rfl] at h;obtain rfl:=Rd h;exact ⟨cs,yc ..,hb⟩
   ·rw [ga e] at h;obtain ⟨cs',h1,h2⟩:=ZdH r g b h;exact ⟨cs',gd _ h1,h2⟩
theorem HR.start {B:World} {gs:List (Nat×List V)} (h:GOn B gs):HR J0 GL B (jfv gs).get B:=by
 refine ⟨Old.refl B,λg b hg=>?_,λg g' b b' _ _ he=>he⟩
 obtain ⟨cs,hm,hb⟩:=ZdH gs g b hg;obtain ⟨h1,h2,c,e,fz,h3,h4⟩:=h _ hm;obtain ⟨q1,q2,q3,q4,q5,q6⟩:=JL hb;have hlen:c.size=cs.length:=by have:=Ya List.length h4;simpa using this
 refine ⟨h1,c,e,fz,h3,?_,?_,?_,?_⟩
 ·show 0+b.sz<=c.size;omega
 ·intro q;rw [q3] at q;cases q
 ·intro q;dsimp only at h1;omega
 ·intro o v hv;rw [q5 o] at hv;have hmem:=List.mem_of_getElem? hv;refine ⟨V.ok_plain 0 _ v (h2 v hmem).1 (h2 v hmem).2,q6 v hmem,?_⟩;show c[0+o]?=_;rw [dd,<-Array.getElem?_toList,h4,List.getElem?_map,hv];rfl
theorem ZcI {B : World} {gs : List (Nat × List V)} (hG : GOn B gs) (hov : OvOK P B ov) (hmix : P.follows .mixedOrders = true) (hname : ∀ (f : Nat) (fn : Func), P.funcs[f]? = some fn -> (fn.name == "runtime.NumGoroutine") = false) {n f : Nat} {args : List V} (hok : V.oks 0 args) {v : V} {st' : St}
  (h:evF P ov GL n f args (st0 gs)=some (v,st')) (w:World) (hw:Old B w) :
  Calls P f (V.reals J0 args).toArray w λe w'=>∃J',e=.returned (v.real J')/\Below w.heap.size w w':=by
 have:=(ze3 (P:=P) (ro:=GL) (B:=w) (hov.old hw) hmix hname n f args (st0 gs) _ st' h J0 w rfl (HR.start (hG.old hw)) (Ra _) (V.oks_le (dg _) args hok)).2;refine this.mono ?_;rintro e w' ⟨J',h1,_,h3⟩;exact ⟨J',h1,h3.below⟩
end
