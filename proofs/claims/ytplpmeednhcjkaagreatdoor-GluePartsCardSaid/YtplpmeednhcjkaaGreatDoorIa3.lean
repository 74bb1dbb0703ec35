/- Lemmas. -/
import Derived.Test.YtplpmeednhcjkaaGreatDoorIa2
set_option linter.unusedVariables false
set_option linter.unusedSimpArgs false
namespace Go.Proofs.YtplpmeednhcjkaaGreatDoor
open Go.Proofs.Tryz
open Go.Vm Go.Sx Go.RowKit
theorem zd8 {e i:Int} {c:UInt8} {w:List UInt8} (h:hb (JaB e i (c::w))≠92):JaB e i (c::w)=c::JaB e (i+1) w:=by
 rcases j6 e i c w with ⟨_,_,q⟩|⟨_,q⟩
 ·exact q
 ·exfalso;obtain ⟨d,v,e2,_⟩:=zay c;rw [q,e2] at h;exact h rfl
theorem Zet {u:List UInt8} (hu:u≠[]):Jbu (zQ u)=false:=by
 obtain ⟨c,w,rfl⟩:=yf hu;unfold zQ;by_cases q:JeB (c::w)=true
 ·rw [ya q];have e0:JaB 0 0 (c::w)=jbh c++JaB 0 (0+1) w:=by simp [JaB]
  obtain ⟨d,v,e2,_⟩:=zay c;rw [e0,e2];unfold Jbu;rw [show mE (hb (92::d::v++JaB 0 (0+1) w))=false from rfl]
  rfl
 ·rw [ga q];cases z:Jbu (zX (c::w)) with
  | false=>rfl
  | true=>
   exfalso;apply q;unfold Jbu at z;simp only [yb] at z;obtain ⟨z1,z2⟩:=z;unfold zX at z1 z2;generalize zcW (c::w)=e at z1 z2;have r1:=zd8 (e:=e) (i:=0) (c:=c) (w:=w) (λy=>by rw [y] at z1;exact absurd z1 (by decide))
   rw [r1] at z1 z2;rw [jc] at z1;rw [Hc] at z2;unfold JeB;rw [jc,z1,Hc];cases w with
   | nil=>exact absurd z2 (by show ¬zdk []=true;decide)
   | cons s v=>
    have hs92:hb (JaB e (0+1) (s::v))≠92:=by
     intro y;unfold zdk at z2;rw [y,ga (by decide)] at z2
     exact absurd z2 (by decide)
    have r2:=zd8 hs92;rw [r2] at z2;unfold zdk at z2;rw [jc,Hc] at z2;by_cases k:mSg (s.toNat:Int)=true
    ·rw [ya k] at z2;cases v with
     | nil=>exact absurd z2 (by show ¬mD 0=true;decide)
     | cons d x=>
      have r3:=zd8 (e:=e) (i:=0+1+1) (c:=d) (w:=x) (λy=>by rw [y] at z2;exact absurd z2 (by decide))
      rw [r3,jc] at z2;have hs:(s.toNat:Int)=45:=by
       rcases jgg k with y|y
       ·exfalso;rcases j6 e (0+1) s (d::x) with ⟨_,y2,_⟩|⟨_,y2⟩
        ·rw [y] at y2;exact absurd y2 (by decide)
        ·obtain ⟨d2,v2,e3,_⟩:=zay s;rw [y2,e3] at hs92;exact hs92 rfl
       ·exact y
      unfold swM;rw [jc,hs,Hc,jc,z2];simp
    ·rw [ga k] at z2;unfold swD;rw [jc,z2];simp
theorem Jet {tl:List UInt8} (h:tl=[]\/tl=[37]\/∃u,u≠[]/\(0:UInt8)∉u/\tl=zQ u):mD (hb tl)=false/\JQ tl=false/\Za0 tl=(0,0):=by
 rcases h with q|q|⟨u,hu,h0,q⟩
 ·rw [q];exact ⟨by decide,by decide,rfl⟩
 ·rw [q];exact ⟨by decide,by decide,rfl⟩
 ·rw [q];have h1:=(zbo hu h0 []).1;rw [xf] at h1;exact ⟨(jbo h1).1,(jbo h1).2.1,Zce (Zet hu)⟩
theorem jba {X:List UInt8} {t:Tok} (h:(Zn X).1=t) (hk:t.kind=10):Js (X.drop (zbn X).2.2)=false/\hb (X.drop (zbn X).2.2)≠37/\(Zn X).2=(zbn X).2.2/\t.flag=(zbn X).2.1:=by
 subst h;unfold Zn at hk |-;dsimp only at hk |-;cases q:Js (X.drop (zbn X).2.2) with
 | true=>rw [q,ya rfl] at hk;exact absurd hk (by show ¬(12:Int)=10;decide)
 | false=>
  rw [q,ga (by decide)] at hk
  by_cases q2:hb (X.drop (zbn X).2.2)=37
  ·rw [ya q2] at hk;exact absurd hk (by show ¬(11:Int)=10;decide)
  ·rw [ga (by decide),ga q2]
   exact ⟨rfl,q2,rfl,rfl⟩
theorem jd8 (X:List UInt8):(Zn X).1.num=(zbn X).1:=by
 unfold Zn;dsimp only;split
 ·rfl
 ·split <;> rfl
theorem Jhj {tl:List UInt8} (h:tl=[]\/tl=[37]\/∃u,u≠[]/\(0:UInt8)∉u/\tl=zQ u) (h1:Js tl=false) (h2:hb tl≠37):tl=[]:=by
 rcases h with q|q|⟨u,hu,h0,q⟩
 ·exact q
 ·rw [q] at h2;exact absurd rfl h2
 ·have h3:=(zbo hu h0 []).1;rw [xf,<-q,h1] at h3;cases h3
theorem Zjr {n:Int} {f:Bool} {T L:List Tok} {P:List UInt8} (hn:NumOK n f) (hf:First T P) (hd:mD (hb P)=true) (hT:L=T) (h:RD (jD n f++P) (tk 10 [] n [] f::L)):exV (tk 10 [] n [] f) P:=by
 obtain ⟨m,g,tl,hm,hP,hk⟩:=Jd7 hf (.inl hd);have htl:tl=[]\/tl=[37]\/∃u,u≠[]/\(0:UInt8)∉u/\tl=zQ u:=by
  rcases hk with ⟨_,q⟩|⟨_,q⟩|⟨u,hu,h0,_,q⟩
  ·exact .inl q
  ·exact .inr (.inl q)
  ·exact .inr (.inr ⟨u,hu,h0,q⟩)
 obtain ⟨t1,t2,t3⟩:=Jet htl;have hTm:∃t',T=[t']/\t'.num=m:=by
  rcases hk with ⟨q,_⟩|⟨q,_⟩|⟨u,_,_,q,_⟩ <;> exact ⟨_,q,rfl⟩
 obtain ⟨t',hT1,hT2⟩:=hTm;have hm0:¬m<0:=by
  intro z;rw [hP,jX (Rj.2 (JI hm))] at hd;unfold jD at hd;rw [ya z] at hd;exact absurd hd (by show ¬mD 45=true;decide)
 obtain ⟨d1,d2,d3⟩:=I.dec_ok (n.natAbs / 1000);obtain ⟨f1,f2,f3,_⟩:=I.fr_ok (r:=n.natAbs%1000) (gh _ (by decide))
 obtain ⟨p1,p2,p3⟩:=I.dec_ok (m.natAbs / 1000);obtain ⟨q1,q2,q3,_⟩:=I.fr_ok (r:=m.natAbs%1000) (gh _ (by decide))
 have hPw:P=Lib.decDigits (m.natAbs / 1000)++((if g then [] else 46::fr3 3 (m.natAbs%1000))++tl):=by
  rw [hP];unfold jD;rw [ga hm0];simp
 generalize hD':Lib.decDigits (m.natAbs / 1000)=D' at p1 p2 p3 hPw;obtain ⟨-,i2,i3⟩:=jG (Za1 (JI hn) (zaF hn)) h;have hcase:f=true\/f=false:=by cases f <;> simp
 rcases hcase with hft|hff
 ·exfalso;subst hft;generalize hF0:(if g then ([]:List UInt8) else fr3 3 (m.natAbs%1000))=F0
  have hF0a:I.AllDg F0:=by
   subst hF0;cases g with
   | true=>exact λb hb=>(by cases hb)
   | false=>exact q1
  have hF0e:(if g then ([]:List UInt8) else 46::fr3 3 (m.natAbs%1000))=if F0=[] then [] else 46::F0:=by
   subst hF0;cases g with
   | true=>rfl
   | false=>simp [q2]
  have hW:I.AllDg (Lib.decDigits (n.natAbs / 1000)++D'):=λb hb=>(Rf.1 hb).elim (d1 b) (p1 b)
  have gg:=I.num_gen (W:=Lib.decDigits (n.natAbs / 1000)++D') (F:=F0) (v:=tl) (decide (n<0)) hW (by simp [d2]) hF0a t1 (λ_=>t2)
  have e:=jcT n true P;simp only [if_true,gf] at e;have e2:jD n true++P=(if decide (n<0) then [45] else [])++(Lib.decDigits (n.natAbs / 1000)++D'++((if F0=[] then [] else 46::F0)++tl)):=by
   rw [e,hPw,hF0e];simp [Qb]
  rw [<-e2,t3] at gg;rw [jai gg.1] at i2 i3;obtain ⟨k1,k2,k3,k4⟩:=jba i2 rfl;have hlen:(jD n true++P).drop (zbn (jD n true++P)).2.2=tl:=by
   rw [gg.2];dsimp only;rw [Re,e2];have:∀A B C D:List UInt8,(A++(B++(C++D))).drop (A++(B++C)).length=D:=λA B C D=>by
    rw [show A++(B++(C++D))=(A++(B++C))++D by simp,ye]
   exact this _ _ _ _
  rw [hlen] at k1 k2;rw [k3,hlen,Jhj htl k1 k2,hT,hT1] at i3;have:=jay i3;cases this
 ·subst hff;generalize hR:(if g then ([]:List UInt8) else 46::fr3 3 (m.natAbs%1000))++tl=R at hPw
  have hR1:mD (hb R)=false/\Za0 R=(0,0):=by
   subst hR;cases g with
   | true=>exact ⟨t1,t3⟩
   | false=>exact ⟨by show mD 46=false;decide,ZcF rfl⟩
  have hFa:I.AllDg (fr3 3 (n.natAbs%1000)++D'):=λb hb=>(Rf.1 hb).elim (f1 b) (p1 b)
  have hFn:fr3 3 (n.natAbs%1000)++D'≠[]:=by simp [f2]
  have gg:=I.num_gen (W:=Lib.decDigits (n.natAbs / 1000)) (F:=fr3 3 (n.natAbs%1000)++D') (v:=R) (decide (n<0)) d1 d2 hFa hR1.1 (λz=>absurd z hFn)
  rw [ga hFn,hR1.2] at gg;have e:=jcT n false P;simp only [yd,if_false,ga f2] at e;have e2:jD n false++P=(if decide (n<0) then [45] else [])++(Lib.decDigits (n.natAbs / 1000)++(46::(fr3 3 (n.natAbs%1000)++D')++R)):=by
   rw [e,hPw];simp [Qb]
  rw [<-e2] at gg;rw [jai gg.1] at i2 i3;obtain ⟨k1,k2,k3,k4⟩:=jba i2 rfl;have hlen:(jD n false++P).drop (zbn (jD n false++P)).2.2=R:=by
   rw [gg.2];dsimp only;rw [Re,e2];have:∀A B C D:List UInt8,(A++(B++(C++D))).drop (A++(B++C)).length=D:=λA B C D=>by
    rw [show A++(B++(C++D))=(A++(B++C))++D by simp,ye]
   exact this _ _ _ _
  rw [hlen] at k1 k2;rw [k3,hlen,hT,hT1] at i3;have hgc:g=true\/g=false:=by cases g <;> simp
  rcases hgc with hg|hg
  ·exfalso;subst hg;have hRt:R=tl:=by rw [<-hR];rfl
   rw [hRt] at k1 k2 i3;rw [Jhj htl k1 k2] at i3;have:=jay i3;cases this
  ·subst hg;obtain ⟨d,F'',hFF⟩:=yf q2;have hdd:mD (d.toNat:Int)=true:=q1 d (by rw [hFF];exact yc ..)
   have hRe:R=46::d::(F''++tl):=by rw [<-hR,hFF];rfl
   have hc:comM R=0:=zai λz=>absurd z.1 (by rw [hRe];show ¬(46:Int)=47;decide)
   have j2:=(jG hc i3).2.1;have hsh:=zfX hdd (F''++tl);rw [<-hRe] at hsh;have hr1:((m.natAbs%1000:Nat):Int).natAbs=m.natAbs%1000:=Int.natAbs_natCast _;have hN:NumOK ((m.natAbs%1000:Nat):Int) false:=⟨by omega,by omega,λz=>by cases z⟩
   have e3:jD ((m.natAbs%1000:Nat):Int) false++tl=48::R:=by
    unfold jD;rw [ga (by omega),hr1,show m.natAbs%1000 / 1000=0 by omega,show m.natAbs%1000%1000=m.natAbs%1000 by omega,Lib.decDigits_one (by decide),hRe,hFF]
    rfl
   obtain ⟨u1,u2,u3⟩:=zaR hN t1 (λ_=>t2)
   rw [t3] at u3;have u3:=u3 rfl;rw [e3] at u1 u3;have j3:(zy (48::R)).1.num=((m.natAbs%1000:Nat):Int):=by rw [jai u1,jd8,u3]
   rw [hsh] at j3;have j4:(zy R).1.num=m:=by rw [j2,hT2]
   have j5:m.natAbs / 1000=0:=by
    have:(zy R).1.num=((m.natAbs%1000:Nat):Int):=j3;omega
   refine ⟨rfl,rfl,d,F''++tl,hdd,?_⟩;rw [hPw,<-hD',j5,Lib.decDigits_one (by decide),hRe]
   rfl
theorem Jjr {n:Int} {f:Bool} {u U P:List UInt8} {T L:List Tok} (hn:NumOK n f) (hu:u≠[]) (h0:(0:UInt8)∉u) (hf:First T P) (hU:Jbu (zQ u++U)=false) (he:Jbu (zQ u++(U++P))=true) (hL:L≠[]) (h:RD (jD n f++zQ u++(U++P)) (tk 12 [] n u f::L)):False:=by
 have hune:zQ u≠[]:=λz=>by
  have:=(zbo hu h0 []).1;rw [z] at this;exact absurd this (by decide)
 obtain ⟨y,Y,hY⟩:=yf (show zQ u++U≠[] by simp [hune])
 rw [<-Qb,hY] at he;rw [hY] at hU;have hl:Y.length<=1:=by
  rcases Hg Y.length 2 with q|q
  ·omega
  ·rw [ZeV (by rw [da];omega),hU] at he;cases he
 have hy:mE (y.toNat:Int)=true:=by unfold Jbu at he;simp only [yb] at he;exact he.1
 have he2:zdk (Y++P)=true:=by unfold Jbu at he;simp only [yb] at he;exact he.2
 have hU2:zdk Y=false:=by unfold Jbu at hU;rw [jc,hy] at hU;exact hU
 have key:∃S:List UInt8,(S=[]\/(∃s:UInt8,S=[s]/\mSg (s.toNat:Int)=true))/\(mD (hb P)=true\/(S=[]/\mSg (hb P)=true/\mD (hb P.tail)=true))/\Y=S:=by
  cases Y with
  | nil=>
   refine ⟨[],.inl rfl,?_,rfl⟩;rw [gf] at he2;unfold zdk at he2;by_cases q:mSg (hb P)=true
   ·rw [ya q] at he2;exact .inr ⟨rfl,q,he2⟩
   ·rw [ga q] at he2;exact .inl he2
  | cons s Y=>
   have:Y=[]:=by rw [da] at hl;exact Rk.1 (by omega)
   subst this;refine ⟨[s],.inr ⟨s,rfl,?_⟩,?_,rfl⟩
   ·cases q:mSg (s.toNat:Int) with
    | true=>rfl
    | false=>
     unfold zdk at he2 hU2;rw [Qc,jc,q,ga (by decide)] at he2
     rw [jc,q,ga (by decide),he2] at hU2
     cases hU2
   ·left;unfold zdk at he2 hU2;rw [Qc,jc,Hc,gf] at he2;rw [jc] at hU2;split at he2
    ·exact he2
    ·rename_i q;rw [ga q,he2] at hU2;cases hU2
 obtain ⟨S,hS,hP0,rfl⟩:=key;obtain ⟨m,g,tl,hm,hP,hk⟩:=Jd7 hf (hP0.imp id (·.2));have htl:tl=[]\/tl=[37]\/∃u,u≠[]/\(0:UInt8)∉u/\tl=zQ u:=by
  rcases hk with ⟨_,q⟩|⟨_,q⟩|⟨u,hu,h0,_,q⟩
  ·exact .inl q
  ·exact .inr (.inl q)
  ·exact .inr (.inr ⟨u,hu,h0,q⟩)
 obtain ⟨t1,t2,t3⟩:=Jet htl;obtain ⟨p1,p2,p3⟩:=I.dec_ok (m.natAbs / 1000);obtain ⟨q1,q2,q3,_⟩:=I.fr_ok (r:=m.natAbs%1000) (gh _ (by decide))
 have hPw:P=(if m<0 then [45] else [])++(Lib.decDigits (m.natAbs / 1000)++((if g then [] else 46::fr3 3 (m.natAbs%1000))++tl)):=by
  rw [hP];unfold jD;simp
 generalize hR:(if g then ([]:List UInt8) else 46::fr3 3 (m.natAbs%1000))++tl=R at hPw
 have hR1:mD (hb R)=false:=by
  subst hR;cases g with
  | true=>exact t1
  | false=>show mD 46=false;decide
 generalize hD':Lib.decDigits (m.natAbs / 1000)=D' at p1 p2 p3 hPw;obtain ⟨d,D2,hDc⟩:=yf p2;have hdd:mD (d.toNat:Int)=true:=p1 d (by rw [hDc];exact yc ..)
 have hm2:=I.mD_not hdd;have hexp:((y::Y)++P).drop (Za0 ((y::Y)++P)).2=R:=by
  have hx:(Za0 (y::(Y++P))).2=(if mSg (hb (Y++P)) then 2 else 1)+(jE (if mSg (hb (Y++P)) then (Y++P).tail else (Y++P))).length:=by
   unfold Za0;rw [ya (by rw [jc,Hc,hy,he2];rfl)]
   rfl
  rw [Qc,hx];have done:∀Z:List UInt8,(∃s,Z=s::(D'++R)/\mSg (s.toNat:Int)=true)\/Z=D'++R->(y::Z).drop ((if mSg (hb Z) then 2 else 1)+(jE (if mSg (hb Z) then Z.tail else Z)).length)=R:=by
   intro Z hZ;rcases hZ with ⟨s,rfl,hs⟩|rfl
   ·rw [jc,ya hs,ya hs,Hc,I.digs_app p1 hR1,show 2+D'.length=D'.length+1+1 by omega,Hf,Hf,ye]
   ·have:mSg (hb (D'++R))=false:=by rw [hDc,Qc,jc];exact hm2.1
    rw [this,ga (by decide),ga (by decide),I.digs_app p1 hR1,show 1+D'.length=D'.length+1 by omega,Hf,ye]
  apply done;rcases hS with rfl|⟨s,rfl,hs⟩
  ·rw [gf,hPw];by_cases q:m<0
   ·rw [ya q];exact .inl ⟨45,rfl,by decide⟩
   ·rw [ga q];exact .inr rfl
  ·have hmn:¬m<0:=by
    intro z;rcases hP0 with q|⟨q,_⟩
    ·rw [hPw,ya z] at q;exact absurd q (by show ¬mD 45=true;decide)
    ·cases q
   rw [hPw,ga hmn];exact .inl ⟨s,rfl,hs⟩
 have hX:jD n f++zQ u++(U++P)=jD n f++((y::Y)++P):=by
  rw [<-hY];simp [Qb]
 rw [hX] at h;have hv1:mD (hb ((y::Y)++P))=false:=by
  rw [Qc,jc];rcases jfX hy with q|q <;> rw [q] <;> decide
 have hv2:JQ ((y::Y)++P)=false:=by
  unfold JQ;rw [Qc,jc];rcases jfX hy with q|q <;> rw [q] <;> rfl
 obtain ⟨g1,g2,g3⟩:=zaR hn hv1 (λ_=>hv2)
 obtain ⟨-,i2,i3⟩:=jG (Za1 (JI hn) (zaF hn)) h;have hdrop:(jD n f++((y::Y)++P)).drop (zbn (jD n f++((y::Y)++P))).2.2=R:=by
  rw [g2];dsimp only;rw [<-xe,ye,hexp]
 rw [jai g1] at i2 i3;have hk12:(Zn (jD n f++((y::Y)++P))).1.kind=12:=by rw [i2];rfl
 have hr:Js R=true/\(Zn (jD n f++((y::Y)++P))).2=(zbn (jD n f++((y::Y)++P))).2.2+(jj R).2:=by
  unfold Zn at hk12 |-;dsimp only at hk12 |-;rw [hdrop] at hk12 |-;cases q:Js R with
  | true=>exact ⟨rfl,by rw [ya rfl]⟩
  | false=>
   rw [q,ga (by decide)] at hk12
   split at hk12
   ·exact absurd hk12 (by show ¬(11:Int)=12;decide)
   ·exact absurd hk12 (by show ¬(10:Int)=12;decide)
 have hall:R.drop (jj R).2=[]:=by
  have hrn:=hr.1;have hg:g=true:=by
   cases g with
   | true=>rfl
   | false=>rw [<-hR] at hrn;have h9:Js (46::(fr3 3 (m.natAbs%1000)++tl))=true:=hrn;rw [show Js (46::(fr3 3 (m.natAbs%1000)++tl))=false from rfl] at h9;cases h9
  subst hg;have hRt:R=tl:=by rw [<-hR];rfl
  rw [hRt] at hrn |-;rcases htl with q|q|⟨u',hu',h0',q⟩
  ·rw [q] at hrn;exact absurd hrn (by decide)
  ·rw [q] at hrn;exact absurd hrn (by decide)
  ·have h3:=(zbo hu' h0' []).2;rw [xf] at h3;rw [q,h3];simp [jj]
 rw [hr.2,<-xe,hdrop,hall] at i3;exact hL (jay i3)
theorem Ji2 {T T' L:List Tok} {X U P:List UInt8} (hp:Pc T X) (hp':Pc T' P) (hU:stP T U) (hL:L≠[]) (hL2:U=[]->L=T') (h:RD (X++(U++P)) (T++L)):stP T (U++P):=by
 have hf:=zcU hp';cases hp with
 | one t hc h1 h2=>
  rw [jaR] at hU |-;cases hc with
  | ident a ha h0=>
   exact zgf ha h0 (jG (Za1 (jdl ha) (Jes ha)) h).2.1
  | func a ha h0=>exact trivial
  | atk a ha h0=>exact ji2 ha h0 (jG (Za1 (X:=64::zX a) (by simp) (by show ¬(64:Int)=47;decide)) h).2.1
  | hash a f ha h0 hf=>exact Jhf ha h0 (jG (Za1 (X:=jcc a f) (by simp [jcc]) (by show ¬(35:Int)=47;decide)) h).2.1
  | str a h0=>exact trivial
  | url a h0=>exact trivial
  | del c hc h0=>
   intro b hb;have hb:[c]=[b]:=hb;injection hb with hb _
   subst hb;exact ziC hc hf (hU c rfl) h
  | num n f hn=>
   have hU:Jd6 f U\/exV (tk 10 [] n [] f) U:=hU;show Jd6 f (U++P)\/exV (tk 10 [] n [] f) (U++P);rcases hU with hU|hU
   ·cases U with
    | cons b U=>
     left;obtain ⟨u1,u2,u3,u4⟩:=hU;refine Zgf hn u1 ?_ (jG (Za1 (JI hn) (zaF hn)) h).2.1;cases q:Jbu (b::U++P) with
     | false=>rfl
     | true=>
      have:mE (hb (b::U))=true:=by unfold Jbu at q;simp only [yb] at q;exact q.1
      rw [zdf this] at u3;cases u3
    | nil=>
     rw [gf] at h |-;cases q:Jbu P with
     | true=>exact (jjr hn hf q (hL2 rfl) h).elim
     | false=>
      cases q2:mD (hb P) with
      | true=>exact .inr (Zjr hn hf q2 (hL2 rfl) h)
      | false=>exact .inl (Zgf hn q2 q (jG (Za1 (JI hn) (zaF hn)) h).2.1)
   ·exact .inr (Zd7 _ hU)
  | pct n hn=>exact trivial
  | dim n u f hn hu h0=>
   have hU:Jel u U:=hU;show Jel u (U++P);cases q:Jbu (zQ u++(U++P)) with
   | true=>exact (Jjr hn hu h0 hf hU.2 q hL h).elim
   | false=>exact Zh6 hn hu h0 q (jG (Za1 (X:=jD n f++zQ u) (by simp [JI hn]) (JcT (JI hn) (zaF hn))) h).2.1
  | sp=>exact Zi2 hf hU hL 32 (.inl rfl) h
  | cdo=>exact trivial
  | cdc=>exact trivial
  | mark k hk=>
   have e:∀j:Int,j<16->(tk k).kind≠j:=λj hj=>by show k≠j;omega
   unfold stM;rw [ga (e 1 (by decide)),ga (e 3 (by decide)),ga (e 4 (by decide)),ga (e 9 (by decide)),ga (e 10 (by decide)),ga (e 12 (by decide)),ga (e 13 (by decide))]
   trivial
 | bs=>
  rw [Jgf] at hU |-;have h:RD ([92]++(10::(U++P))) (tk 9 [92]::tk 13::L):=h;rw [Jbi (by simp) (by show ¬(92:Int)=47;decide) (Zhi _)] at h
  exact Zi2 hf hU hL 10 (.inr rfl) h
 | uf a s ha h0 hu hs=>exact ⟨λt e=>(by cases e),λt e=>(by cases e)⟩
 | ufs a s ha h0 hu hs=>exact ⟨λt e=>(by cases e),λt e=>(by cases e)⟩
structure Pi where
 T:List Tok
 X:List UInt8
 c:Bool
def Pi.ok (p:Pi):Prop:=Pc p.T p.X
def Pi.tx (p:Pi):List UInt8:=(if p.c then [47,42,42,47] else [])++p.X
def txs (ps:List Pi):List UInt8:=ps.flatMap Pi.tx
def jW (ps:List Pi):List Tok:=ps.flatMap Pi.T
theorem zO (p:Pi) (ps:List Pi):txs (p::ps)=p.tx++txs ps:=yp
theorem Z6 (p:Pi) (ps:List Pi):jW (p::ps)=p.T++jW ps:=yp
theorem JaW (a b:List Pi):txs (a++b)=txs a++txs b:=List.flatMap_append
theorem zaZ (a b:List Pi):jW (a++b)=jW a++jW b:=List.flatMap_append
theorem zcG (p:Pi):txs [p]=p.tx:=by rw [zO];exact xf _
theorem jdz (p:Pi):jW [p]=p.T:=by rw [Z6];exact xf _
def zeu:List Pi->Prop
 | []=>True
 | q::qs=>stP q.T (txs qs)/\zeu qs
theorem JgB {p:Pi} {V:List UInt8} {L:List Tok}:RD (p.tx++V) L↔RD (p.X++V) L:=by
 unfold Pi.tx;cases p.c with
 | true=>
  rw [ya rfl,Qb];exact Jh6
 | false=>exact Iff.rfl
theorem Jce:∀qs:List Pi,(∀p∈qs,p.ok)->zeu qs->RD (txs qs) (jW qs)
 | [],_,_=>.nil (by simp [txs])
 | q::qs,hv,hg=>by
  rw [zO,Z6,JgB,JcF (hv q (yc ..)) hg.1];exact Jce qs (λp hp=>hv p (gd _ hp)) hg.2
theorem Zdz {T:List Tok} {X:List UInt8} (hp:Pc T X):stP T []:=by
 cases hp with
 | one t hc h1 h2=>
  rw [jaR];cases hc with
  | ident a ha h0=>exact ⟨by decide,by decide,λz=>absurd z.2 (by decide)⟩
  | func a ha h0=>exact trivial
  | atk a ha h0=>show Jx []=false;decide
  | hash a f ha h0 hf=>show Jx []=false;decide
  | str a h0=>exact trivial
  | url a h0=>exact trivial
  | del c hc h0=>
   intro b hbb;have hbb:[c]=[b]:=hbb;injection hbb with hbb _
   subst hbb;have h92:¬(c.toNat:Int)=92:=by
    intro z;have:c=92:=UInt8.toNat_inj.mp (by show c.toNat=92;omega)
    subst this;exact absurd h1 (by decide)
   refine ⟨λz=>absurd z.2 (by decide),?_,by simp [List.isPrefixOf],by simp [List.isPrefixOf],λz=>absurd z.2 (by decide),?_,λz=>absurd z.2 (by decide)⟩
   ·unfold Za7;rw [jc,hc.d];have:JQ [c]=false:=by unfold JQ;rw [Hc,show mD (hb [])=false by decide,yn]
    rw [this];rw [show mD (hb [c].tail)=false from by show mD 0=false;decide,show JQ [c].tail=false from rfl]
    split <;> rfl
   ·rw [ZaW,hc.n0,zcT,Ye h92];split
    ·rfl
    ·decide
  | num n f hn=>exact .inl ⟨by decide,λ_=>by decide,by decide,by decide⟩
  | pct n hn=>exact trivial
  | dim n u f hn hu h0=>exact ⟨by decide,by rw [xf];exact Zet hu⟩
  | sp=>show mSp 0=false;decide
  | cdo=>exact trivial
  | cdc=>exact trivial
  | mark k hk=>
   have e:∀j:Int,j<16->(tk k).kind≠j:=λj hj=>by show k≠j;omega
   unfold stM;rw [ga (e 1 (by decide)),ga (e 3 (by decide)),ga (e 4 (by decide)),ga (e 9 (by decide)),ga (e 10 (by decide)),ga (e 12 (by decide)),ga (e 13 (by decide))]
   trivial
 | bs=>exact Jgf.2 (by decide)
 | uf a s ha h0 hu hs=>exact ⟨λt e=>(by cases e),λt e=>(by cases e)⟩
 | ufs a s ha h0 hu hs=>exact ⟨λt e=>(by cases e),λt e=>(by cases e)⟩
theorem Zgg {p:Pi} (hp:p.ok) (hc:p.c=true):∀qs:List Pi,zeu qs->zeu (qs++[p])
 | [],_=>⟨Zdz hp,trivial⟩
 | q::qs,hg=>by
  refine ⟨?_,Zgg hp hc qs hg.2⟩;show stP q.T (txs (qs++[p]));rw [JaW,zcG];unfold Pi.tx;rw [hc,ya rfl];exact jhi _ hg.1
theorem Jgg {qs:List Pi} (hv:∀p∈qs,p.ok) (h:txs qs=[]):qs=[]:=by
 cases qs with
 | nil=>rfl
 | cons q qs=>
  rw [zO] at h;have h2:=(dj.1 h).1;unfold Pi.tx at h2;exact absurd (dj.1 h2).2 (Jcs (hv q (yc ..))).1
theorem zgh {p:Pi} (hp:p.ok) (hc:p.c=false):∀qs:List Pi,(∀p∈qs,p.ok)->zeu qs->RD (txs qs++p.X) (jW qs++p.T)->zeu (qs++[p])
 | [],_,_,_=>⟨Zdz hp,trivial⟩
 | q::qs,hv,hg,h=>by
  have hv2:∀p∈qs,p.ok:=λp hp=>hv p (gd _ hp)
  have hpt:p.tx=p.X:=by unfold Pi.tx;rw [hc];rfl
  rw [zO,Z6,Qb,Qb,JgB] at h;have hs:=Ji2 (hv q (yc ..)) hp hg.1 (L:=jW qs++p.T) (λz=>(Jcs hp).2 (dj.1 z).2) (λz=>by rw [Jgg hv2 z];rfl) h
  refine ⟨?_,zgh hp hc qs hv2 hg.2 ((JcF (hv q (yc ..)) hs).1 h)⟩;show stP q.T (txs (qs++[p]));rw [JaW,zcG,hpt];exact hs
theorem Jdz:∀(pre w:List Pi),zeu (pre++w)->zeu w
 | [],w,h=>h
 | q::pre,w,h=>Jdz pre w h.2
theorem jgh {p:Pi}:∀(pre w:List Pi),zeu (pre++w)->3<=(txs w).length->zeu (w++[p])->zeu (pre++(w++[p]))
 | [],w,_,_,h=>h
 | q::pre,w,hg,hl,h=>by
  refine ⟨?_,jgh pre w hg.2 hl h⟩;show stP q.T (txs (pre++(w++[p])));rw [<-Qb,JaW];exact JiB _ (by rw [JaW,Rb];omega) hg.1
inductive Built:List Pi->Prop where
 | nil:Built []
 | com {ps:List Pi} {p:Pi}:Built ps->p.ok->p.c=true->Built (ps++[p])
 | win {pre w:List Pi} {p:Pi}:Built (pre++w)->p.ok->p.c=false->(pre=[]\/3<=(txs w).length)->RD (txs w++p.X) (jW w++p.T)->Built (pre++w++[p])
theorem jae {ps:List Pi} (h:Built ps):(∀p∈ps,p.ok)/\zeu ps:=by
 induction h with
 | nil=>exact ⟨λp hp=>(by cases hp),trivial⟩
 | com _ hp hc ih=>
  refine ⟨λq hq=>?_,Zgg hp hc _ ih.2⟩
  rcases Rf.1 hq with z|z
  ·exact ih.1 q z
  ·rw [yh] at z;rw [z];exact hp
 | @win pre w p _ hp hc hl hr ih=>
  have hvw:∀p∈w,p.ok:=λq hq=>ih.1 q (ym _ hq)
  have hgw:=zgh hp hc w hvw (Jdz pre w ih.2) hr;refine ⟨λq hq=>?_,?_⟩
  ·rcases Rf.1 hq with z|z
   ·exact ih.1 q z
   ·rw [yh] at z;rw [z];exact hp
  ·rw [Qb];rcases hl with rfl|hl
   ·exact hgw
   ·exact jgh pre w ih.2 hl hgw
theorem jeu {ps:List Pi} (h:Built ps):RD (txs ps) (jW ps):=Jce ps (jae h).1 (jae h).2
theorem zh7 (hpos:∀w:List UInt8,w≠[]->1<=(zy w).2):∀(f:Nat) (u:List UInt8) (p:Nat) (L:List Tok),(u.drop (comM u)).length<=f->(RD u L↔(zhH f (u.drop (comM u)) p).map (·.1)=L)
 | 0,u,p,L,hl=>by
  have h0:u.drop (comM u)=[]:=Rk.1 (by omega)
  constructor
  ·intro h;cases h with
   | nil _=>rfl
   | cons h1 _=>exact absurd h0 h1
  ·intro h;have h:[]=L:=h;rw [<-h];exact .nil h0
 | f+1,u,p,L,hl=>by
  cases hw:u.drop (comM u) with
  | nil=>
   constructor
   ·intro h;cases h with
    | nil _=>rfl
    | cons h1 _=>exact absurd hw h1
   ·intro h;have h:[]=L:=h;rw [<-h];exact .nil hw
  | cons c w=>
   rw [hw] at hl;have hp:=hpos (c::w) (by simp)
   have ih:=zh7 hpos f ((c::w).drop (zy (c::w)).2) (p+(zy (c::w)).2+comM ((c::w).drop (zy (c::w)).2));have hdd:(c::w).drop ((zy (c::w)).2+comM ((c::w).drop (zy (c::w)).2))=((c::w).drop (zy (c::w)).2).drop (comM ((c::w).drop (zy (c::w)).2)):=(xe ..).symm;have hlen:(((c::w).drop (zy (c::w)).2).drop (comM ((c::w).drop (zy (c::w)).2))).length<=f:=by
    rw [Hb,Hb];omega
   unfold zhH;rw [Rl,hdd];constructor
   ·intro h;cases h with
    | nil h=>rw [hw] at h;cases h
    | cons h1 h2=>
     rw [hw] at h2 |-;rw [(ih _ hlen).1 h2]
   ·intro h;rw [<-h];have h2:=(ih _ hlen).2 rfl;have h3:RD u ((zy (u.drop (comM u))).1::_):=.cons (by rw [hw];simp) (by rw [hw];exact h2)
    rw [hw] at h3;exact h3
theorem jcG (hpos:∀w:List UInt8,w≠[]->1<=(zy w).2) (u:List UInt8) (L:List Tok):RD u L↔(Jd1 u).map (·.1)=L:=
 zh7 hpos u.length u (comM u) L (by rw [Hb];omega)
theorem ja5:∀a b:List Tok,Zan a b=true->a=b
 | [],[],_=>rfl
 | [],_::_,h=>by cases h
 | _::_,[],h=>by cases h
 | a::x,b::y,h=>by
  unfold Zan at h;simp only [yb] at h;rw [jes h.1,ja5 x y h.2]
theorem zhk (hpos:∀w:List UInt8,w≠[]->1<=(zy w).2) {s:List UInt8} {l:List Tok} (hs:∀c∈s,okB c) (h:asM s l=true):RD s l:=by
 unfold asM Jek at h;rw [zbg s hs] at h;by_cases q1:4000<s.length
 ·rw [ya q1] at h;cases h
 ·rw [ga q1] at h;by_cases q2:1500<(Jd1 s).length
  ·rw [ya q2] at h;cases h
  ·rw [ga q2] at h;exact (jcG hpos s l).2 (ja5 _ _ h)
theorem zeW (hpos:∀w:List UInt8,w≠[]->1<=(zy w).2) {s:List UInt8} {l:List Tok} (hs:∀c∈s,okB c) (hl:s.length<=4000) (hn:l.length<=1500) (h:RD s l):Jek s=some l:=by
 have e:=(jcG hpos s l).1 h;unfold Jek;rw [zbg s hs,ga (by omega),ga ?_,e]
 have:(Jd1 s).length=l.length:=by rw [<-e,Qm]
 omega
theorem jh7 {w:List UInt8} (h:I.AllDg w):∀c∈w,okB c:=λc hc=>by
 have:=ZcT (h c hc);unfold okB;omega
theorem jS {w:List UInt8} (h:∀c∈w,c≠0/\c≠12/\c≠13):∀c∈w,okB c:=λc hc=>by
 obtain ⟨h1,h2,h3⟩:=h c hc;have hne:∀j:UInt8,c≠j->¬(c.toNat:Int)=(j.toNat:Int):=λj h z=>h (UInt8.toNat_inj.mp (by omega))
 exact ⟨hne 0 h1,hne 12 h2,hne 13 h3⟩
theorem zD {a b:List UInt8} (ha:∀c∈a,okB c) (hb:∀c∈b,okB c):∀c∈a++b,okB c:=λc hc=>(Rf.1 hc).elim (ha c) (hb c)
theorem jeW (n:Int) (f:Bool):∀c∈jD n f,okB c:=by
 unfold jD;refine zD ?_ (zD (jh7 (I.dec_ok _).1) ?_)
 ·split
  ·exact jS (by decide)
  ·exact λc hc=>(by cases hc)
 ·cases f with
  | true=>exact λc hc=>(by cases hc)
  | false=>exact zD (a:=[46]) (jS (by decide)) (jh7 (I.fr_ok (gh _ (by decide))).1)
theorem zdA:∀t:List UInt8,(0:UInt8)∉t->∀c∈jaJ t,okB c
 | [],_=>λc hc=>(by cases hc)
 | a::t,h0=>by
  unfold jaJ;refine zD ?_ (zdA t λz=>h0 (gd _ z))
  split
  ·exact zfV a
  ·rename_i q;simp only [gc,Qe,or_false,not_or] at q;refine jS λc hc=>?_
   rw [yh] at hc;rw [hc];exact ⟨λz=>h0 (by rw [z];exact yc ..),q.2.1,q.2.2.1⟩
theorem Zgh:∀t:List UInt8,∀c∈Zbi t,okB c
 | []=>λc hc=>(by cases hc)
 | a::t=>by
  unfold Zbi;refine zD ?_ (Zgh t);split
  ·exact zfV a
  ·rename_i q;intro c hc;rw [yh] at hc;rw [hc];have:¬a.toNat<=32:=λz=>q (.inl z)
   unfold okB;omega
theorem zbS (a:List UInt8):∀c∈zX a,okB c:=jd5 _ a 0
theorem Zd8 {T:List Tok} {X:List UInt8} (hp:Pc T X):∀c∈X,okB c:=by
 cases hp with
 | one t hc h1 h2=>
  cases hc with
  | ident a ha h0=>exact zbS a
  | func a ha h0=>exact zD (zbS a) (jS (by decide))
  | atk a ha h0=>exact zD (a:=[64]) (jS (by decide)) (zbS a)
  | hash a f ha h0 hf=>
   cases f with
   | true=>exact zD (a:=[35]) (jS (by decide)) (zbS a)
   | false=>exact zD (a:=[35]) (jS (by decide)) (jd5 _ a 0)
  | str a h0=>exact zD (a:=[34]) (jS (by decide)) (zD (zdA a h0) (jS (by decide)))
  | url a h0=>exact zD (a:=[117,114,108,40]) (jS (by decide)) (zD (Zgh a) (jS (by decide)))
  | del c hc h0=>
   refine jS λb hb=>?_
   rw [show b=c from yh.1 hb]
   exact ⟨h0,hc.z.1,hc.z.2⟩
  | num n f hn=>exact jeW n f
  | pct n hn=>exact zD (jeW n _) (jS (by decide))
  | dim n u f hn hu h0=>
   refine zD (jeW n f) ?_;unfold zQ;split
   ·exact jd5 _ u 0
   ·exact zbS u
  | sp=>exact jS (w:=[32]) (by decide)
  | cdo=>exact jS (w:=[60,33,45,45]) (by decide)
  | cdc=>exact jS (w:=[45,45,62]) (by decide)
  | mark k hk=>
   rw [Zbg hk];obtain ⟨n,rfl⟩:∃n:Nat,k=16+(n:Int):=⟨(k-16).toNat,by omega⟩
   have key:∀n:Nat,n<9->marksT.getD n 0≠0/\marksT.getD n 0≠12/\marksT.getD n 0≠13:=by decide +kernel
   rw [show (16+(n:Int)-16).toNat=n by omega]
   refine jS λb hb=>?_
   rw [yh.1 hb];exact key n (by omega)
 | bs=>exact jS (by decide)
 | uf a s ha h0 hu hs=>exact zD (zD (zbS a) (jS (by decide))) (zD (a:=[34]) (jS (by decide)) (zD (zdA s hs) (jS (by decide))))
 | ufs a s ha h0 hu hs=>exact zD (zD (zbS a) (jS (by decide))) (zD (a:=[32,34]) (jS (by decide)) (zD (zdA s hs) (jS (by decide))))
theorem jbu:∀ps:List Pi,(∀p∈ps,p.ok)->∀c∈txs ps,okB c
 | [],_=>λc hc=>(by cases hc)
 | p::ps,h=>by
  rw [zO];refine zD ?_ (jbu ps λq hq=>h q (gd _ hq))
  unfold Pi.tx;refine zD ?_ (Zd8 (h p (yc ..)));split
  ·exact jS (by decide)
  ·exact λc hc=>(by cases hc)
theorem ZbD:∀(i:Nat) (l:List Tok),jbn l=true->jbn (l.drop i)=true
 | 0,l,h=>h
 | i+1,[],h=>h
 | i+1,t::l,h=>by
  unfold jbn at h;simp only [yb] at h;exact ZbD i l h.2.2
theorem zi3 {t:Tok} (h:zcu t=true) (k:t.kind=13):t=tk 13:=by
 cases zfs h with
 | sp=>rfl
 | mark j hj=>have k:j=13:=k;omega
 | _=>simp [tk] at k
theorem JjD {t:Tok} (h:zcu t=true) (k:t.kind=5):∃s,t=tk 5 s/\(0:UInt8)∉s:=by
 cases zfs h with
 | str a h0=>exact ⟨a,rfl,h0⟩
 | mark j hj=>have k:j=5:=k;omega
 | _=>simp [tk] at k
theorem ZjK {t:Tok} (h:zcu t=true) (k:t.kind=2):∃a,t=tk 2 a/\a≠[]/\(0:UInt8)∉a:=by
 cases zfs h with
 | func a ha h0=>exact ⟨a,rfl,ha,h0⟩
 | mark j hj=>have k:j=2:=k;omega
 | _=>simp [tk] at k
theorem JjK {t:Tok} (h:zcu t=true) (hb:jbD t=true):t=tk 9 [92]:=by
 unfold jbD at hb;simp only [yb,xc,beq_iff_eq] at hb;obtain ⟨k,e⟩:=hb;cases zfs h with
 | del c hc h0=>have e:[c]=[92]:=e;rw [e]
 | mark j hj=>have k:j=9:=k;omega
 | _=>simp [tk] at k
theorem JbD (t:Tok) (l:List Tok):jcW (t::l)=if jbD t then 2 else if zcE t then 1+(l.takeWhile λt=>decide (t.kind≠5)).length+1 else 1:=rfl
theorem Jd8 (t:Tok) (l:List Tok):Zdk (t::l)=if jbD t then [92,10] else (t::l).flatMap tokT:=rfl
theorem jcU {t:Tok} {l:List Tok} (h:jbn (t::l)=true):Pc ((t::l).take (jcW (t::l))) (Zdk ((t::l).take (jcW (t::l))))/\((t::l).take (jcW (t::l))).length=jcW (t::l)/\1<=jcW (t::l):=by
 unfold jbn at h;simp only [yb] at h;obtain ⟨hc,hf,hl⟩:=h;cases hb:jbD t with
 | true=>
  have e:=JjK hc hb;unfold Zep at hf;rw [hb,ya rfl] at hf;cases l with
  | nil=>cases hf
  | cons s l=>
   unfold jbn at hl;simp only [yb] at hl;have hs:=zi3 hl.1 (by unfold swK at hf;simpa using hf)
   have hn:jcW (t::s::l)=2:=by rw [JbD,hb];rfl
   rw [hn,e,hs];exact ⟨.bs,rfl,by decide⟩
 | false=>
  cases hu:zcE t with
  | false=>
   have hn:jcW (t::l)=1:=by rw [JbD,hb,hu];rfl
   rw [hn];have hp:Zdk [t]=tokT t:=by rw [Jd8,hb,ga (by decide)];simp
   show Pc [t] (Zdk [t])/\_;rw [hp];exact ⟨.one t (zfs hc) hb hu,rfl,Ra _⟩
  | true=>
   have hk:t.kind=2:=by unfold zcE at hu;simp only [yb,xc] at hu;exact hu.1
   have ha:z6 t.text [117,114,108]=true:=by unfold zcE at hu;simp only [yb,xc] at hu;exact hu.2
   obtain ⟨a,rfl,ha0,h0⟩:=ZjK hc hk;unfold Zep at hf;rw [hb,ga (by decide),hu,ya rfl] at hf
   cases l with
   | nil=>cases hf
   | cons s l=>
    have hl2:=hl;unfold jbn at hl2;simp only [yb] at hl2;by_cases k13:s.kind=13
    ·have hs:=zi3 hl2.1 k13;rw [show swK (s::l) 13=true by unfold swK;simp [k13],ya rfl,Hc] at hf
     cases l with
     | nil=>cases hf
     | cons r l=>
      have k5:r.kind=5:=by unfold swK at hf;simpa using hf
      have hl3:=hl2.2.2;unfold jbn at hl3;simp only [yb] at hl3;obtain ⟨x,rfl,hx⟩:=JjD hl3.1 k5;subst hs;have hn:jcW (tk 2 a::tk 13::tk 5 x::l)=3:=by
       rw [JbD,hb,hu];rfl
      rw [hn];refine ⟨?_,rfl,by decide⟩
      have hp:Zdk [tk 2 a,tk 13,tk 5 x]=zX a++[40]++(32::34::(jaJ x++[34])):=by
       rw [Jd8,hb,ga (by decide)]
       show tokT (tk 2 a)++(tokT (tk 13)++(tokT (tk 5 x)++[]))=_;rw [xf];rfl
      show Pc [tk 2 a,tk 13,tk 5 x] (Zdk [tk 2 a,tk 13,tk 5 x]);rw [hp];exact .ufs a x ha0 h0 ha hx
    ·rw [show swK (s::l) 13=false by unfold swK;simp [k13],ga (by decide)] at hf
     have k5:s.kind=5:=by unfold swK at hf;simpa using hf
     obtain ⟨x,rfl,hx⟩:=JjD hl2.1 k5;have hn:jcW (tk 2 a::tk 5 x::l)=2:=by
      rw [JbD,hb,hu];rfl
     rw [hn];refine ⟨?_,rfl,by decide⟩
     have hp:Zdk [tk 2 a,tk 5 x]=zX a++[40]++(34::(jaJ x++[34])):=by
      rw [Jd8,hb,ga (by decide)]
      show tokT (tk 2 a)++(tokT (tk 5 x)++[])=_;rw [xf];rfl
     show Pc [tk 2 a,tk 5 x] (Zdk [tk 2 a,tk 5 x]);rw [hp];exact .uf a x ha0 h0 ha hx
def Jfs:List Pi->List (Nat×Nat)
 | []=>[]
 | p::r=>((txs r.reverse).length,(jW r.reverse).length)::Jfs r
theorem Jgh {p:Pi} (h:p.ok):1<=p.tx.length:=by
 have:=Rj.2 (Jcs h).1;unfold Pi.tx;rw [Rb];omega
theorem Zh7 (p:Pi) (r:List Pi) (hv:∀q∈r.reverse,q.ok):∃pre w,r.reverse=pre++w/\((Jfs (p::r)).take 4).getLastD (0,0)=((txs pre).length,(jW pre).length)/\(pre=[]\/3<=(txs w).length):=by
 rcases r with _|⟨a,_|⟨b,_|⟨c,r⟩⟩⟩
 ·exact ⟨[],[],rfl,rfl,.inl rfl⟩
 ·exact ⟨[],[a],rfl,rfl,.inl rfl⟩
 ·exact ⟨[],[b,a],rfl,rfl,.inl rfl⟩
 ·refine ⟨r.reverse,[c,b,a],by simp,rfl,.inr ?_⟩
  have h1:=Jgh (hv a (by simp))
  have h2:=Jgh (hv b (by simp))
  have h3:=Jgh (hv c (by simp))
  rw [zO,zO,zcG,Rb,Rb];omega
theorem zgi (hpos:∀w:List UInt8,w≠[]->1<=(zy w).2) (l:List Tok) (hl:jbn l=true):∀(f:Nat) (r:List Pi) (i:Nat) (s:List UInt8),Built r.reverse->jW r.reverse=l.take i->i<=l.length->l.length-i<f->(txs r.reverse).length<=4000->
  wrM l f (txs r.reverse) (Jfs r) i=(s,0)->∃ps,Built ps/\s=txs ps/\jW ps=l/\s.length<=4000
 | 0,r,i,s,_,_,_,hf,_,_=>absurd hf (by omega)
 | f+1,r,i,s,hB,hT,hi,hf,h4,h=>by
  unfold wrM at h;by_cases q:l.length<=i
  ·rw [ya q] at h;have hs:txs r.reverse=s:=Ya Prod.fst h;exact ⟨r.reverse,hB,hs.symm,by rw [hT,List.take_of_length_le q],by rw [<-hs];exact h4⟩
  rw [ga q] at h;obtain ⟨t,l',hd⟩:=yf (show l.drop i≠[] from λz=>by
   have:=Ya List.length z;rw [Hb,Hd] at this;omega)
  obtain ⟨hpc,hpl,hp1⟩:=jcU (by rw [<-hd];exact ZbD i l hl:jbn (t::l')=true)
  rw [<-hd] at hpc hpl hp1;generalize hn:jcW (l.drop i)=n at h hpc hpl hp1;dsimp only at h;rw [show i+n-i=n by omega] at h
  generalize hTt:(l.drop i).take n=T at h hpc hpl;generalize hX:Zdk T=X at h hpc;have hin:i+n<=l.length:=by
   have:((l.drop i).take n).length<=(l.drop i).length:=by rw [Qi];omega
   rw [hTt,hpl,Hb] at this;omega
  have htk:l.take (i+n)=jW r.reverse++T:=by rw [List.take_add,hT,hTt]
  obtain ⟨hv,-⟩:=jae hB;obtain ⟨pre,w,e1,e2,e3⟩:=Zh7 ⟨T,X,false⟩ r hv;have e2:((((txs r.reverse).length,i)::Jfs r).take 4).getLastD (0,0)=((txs pre).length,(jW pre).length):=by
   rw [<-e2];show _=((((txs r.reverse).length,(jW r.reverse).length)::Jfs r).take 4).getLastD (0,0);rw [hT,Qi,Nat.min_eq_left hi]
  rw [e2] at h;dsimp only at h;have hw1:(txs r.reverse++X).drop (txs pre).length=txs w++X:=by
   rw [e1,JaW,Qb,ye]
  have hw2:(l.drop (jW pre).length).take (i+n-(jW pre).length)=jW w++T:=by
   rw [<-List.drop_take,htk,e1,zaZ,Qb,ye]
  rw [hw1,hw2] at h;have hr:∀p:Pi,p.T=T->∃r2:List Pi,r2=p::r/\jW r2.reverse=l.take (i+n)/\Jfs r2=((txs r.reverse).length,i)::Jfs r:=by
   intro p hp;refine ⟨_,rfl,?_,?_⟩
   ·rw [Qn,zaZ,jdz,hp,htk]
   ·show ((txs r.reverse).length,(jW r.reverse).length)::Jfs r=_;rw [hT,Qi,Nat.min_eq_left hi]
  have fin:∀(p:Pi) (b2:List UInt8),p.T=T->Built (r.reverse++[p])->b2=txs r.reverse++p.tx->(if 4000<b2.length then ([],(28:Int)) else wrM l f b2 (((txs r.reverse).length,i)::Jfs r) (i+n))=(s,0)->∃ps,Built ps/\s=txs ps/\jW ps=l/\s.length<=4000:=by
   intro p b2 hp hBp hb2 hh;by_cases q4:4000<b2.length
   ·rw [ya q4] at hh;exact absurd (Ya Prod.snd hh) (by show ¬(28:Int)=0;decide)
   ·rw [ga q4] at hh;have hx:b2=txs (p::r).reverse:=by rw [Qn,JaW,zcG,hb2]
    obtain ⟨r2,rfl,g1,g2⟩:=hr p hp;rw [hx,<-g2] at hh;refine zgi hpos l hl f (p::r) (i+n) s (by rw [Qn];exact hBp) g1 hin (by omega) (by rw [<-hx];omega) hh
  by_cases qa:asM (txs w++X) (jW w++T)=true
  ·rw [ya qa] at h;have hvw:∀p∈w,p.ok:=λp hp=>hv p (by rw [e1];exact ym _ hp)
   have hRD:=zhk hpos (zD (jbu w hvw) (Zd8 hpc)) qa;refine fin ⟨T,X,false⟩ _ rfl ?_ rfl h;rw [e1] at hB |-;exact .win hB hpc rfl e3 hRD
  ·rw [ga qa] at h;refine fin ⟨T,X,true⟩ _ rfl (.com hB hpc rfl) ?_ h;rw [ye];rfl
theorem jhk (hpos:∀w:List UInt8,w≠[]->1<=(zy w).2) {l:List Tok} {s:List UInt8} (h:Jep l=(s,0)):Jek s=some l/\(∀c∈s,okB c):=by
 unfold Jep at h;by_cases q:jeb l≠0
 ·rw [ya q] at h;exact absurd (Ya Prod.snd h) q
 ·rw [ga q] at h;have q:jeb l=0:=Decidable.not_not.1 q;unfold jeb at q;by_cases q1:1500<l.length
  ·rw [ya q1] at q;exact absurd q (by decide)
  rw [ga q1] at q;cases q2:jbn l with
  | false=>rw [q2,ga (by decide)] at q;exact absurd q (by decide)
  | true=>
   obtain ⟨ps,hB,rfl,hT,h4⟩:=zgi hpos l q2 (l.length+1) [] 0 s .nil rfl (dg _) (by omega) (by decide) h
   have ho:=jbu ps (jae hB).1;refine ⟨zeW hpos ho h4 (by omega) ?_,ho⟩
   rw [<-hT];exact jeu hB
theorem zdm {p:Pi} (hp:p.ok):∀(pre w:List Pi),(∀q∈pre++w,q.ok)->zeu (pre++w)->RD (txs (pre++w)++p.X) (jW (pre++w)++p.T)->RD (txs w++p.X) (jW w++p.T)
 | [],w,_,_,h=>h
 | q::pre,w,hv,hg,h=>by
  have hv2:∀p∈pre++w,p.ok:=λp hp=>hv p (gd _ hp)
  rw [Qc,zO,Z6,Qb,Qb,JgB] at h;have hs:=Ji2 (hv q (yc ..)) hp hg.1 (L:=jW (pre++w)++p.T) (λz=>(Jcs hp).2 (dj.1 z).2) (λz=>by rw [Jgg hv2 z];rfl) h
  exact zdm hp pre w hv2 hg.2 ((JcF (hv q (yc ..)) hs).1 h)
theorem zbE:∀l:List Tok,Zan l l=true
 | []=>rfl
 | t::l=>by unfold Zan jaf;simp [zbE l]
theorem ji3 (hpos:∀w:List UInt8,w≠[]->1<=(zy w).2) {s:List UInt8} {l:List Tok} (hs:∀c∈s,okB c) (hl:s.length<=4000) (hn:l.length<=1500) (h:RD s l):asM s l=true:=by
 unfold asM;rw [zeW hpos hs hl hn h];exact zbE l
def wrR (l:List Tok):Nat->List UInt8->Nat->List UInt8
 | 0,b,_=>b
 | f+1,b,i=>
  if l.length<=i then b else
   let e:=i+jcW (l.drop i)
   let X:=Zdk ((l.drop i).take (e-i))
   wrR l f ((if Zan ((Jd1 (Jt (b++X))).map (·.1)) (l.take e) then b else b++[47,42,42,47])++X) e
theorem ZfX (l:List Tok):∀(f:Nat) (b:List UInt8) (i:Nat),b.length<=(wrR l f b i).length
 | 0,b,i=>Ra _
 | f+1,b,i=>by
  unfold wrR;split
  ·exact Ra _
  ·dsimp only;refine Yb ?_ (ZfX l f _ _);split <;> simp only [Rb] <;> omega
theorem Zhk (hpos:∀w:List UInt8,w≠[]->1<=(zy w).2) (l:List Tok) (hl:jbn l=true) (hn15:l.length<=1500):∀(f:Nat) (r:List Pi) (i:Nat),Built r.reverse->jW r.reverse=l.take i->i<=l.length->(txs r.reverse).length<=4000->
  wrM l f (txs r.reverse) (Jfs r) i=if 4000<(wrR l f (txs r.reverse) i).length then ([],28) else (wrR l f (txs r.reverse) i,0)
 | 0,r,i,_,_,_,h4=>by
  unfold wrM wrR;rw [ga (by omega)]
 | f+1,r,i,hB,hT,hi,h4=>by
  unfold wrM wrR;by_cases q:l.length<=i
  ·rw [ya q,ya q,ga (by omega)]
  rw [ga q,ga q];obtain ⟨t,l',hd⟩:=yf (show l.drop i≠[] from λz=>by
   have:=Ya List.length z;rw [Hb,Hd] at this;omega)
  obtain ⟨hpc,hpl,hp1⟩:=jcU (by rw [<-hd];exact ZbD i l hl:jbn (t::l')=true)
  rw [<-hd] at hpc hpl hp1;generalize hn:jcW (l.drop i)=n at hpc hpl hp1 |-;dsimp only;simp only [show i+n-i=n by omega]
  generalize hTt:(l.drop i).take n=T at hpc hpl |-;generalize hX:Zdk T=X at hpc |-;have hin:i+n<=l.length:=by
   have:((l.drop i).take n).length<=(l.drop i).length:=by rw [Qi];omega
   rw [hTt,hpl,Hb] at this;omega
  have htk:l.take (i+n)=jW r.reverse++T:=by rw [List.take_add,hT,hTt]
  obtain ⟨hv,hg⟩:=jae hB;obtain ⟨pre,w,e1,e2,e3⟩:=Zh7 ⟨T,X,false⟩ r hv;have e2:((((txs r.reverse).length,i)::Jfs r).take 4).getLastD (0,0)=((txs pre).length,(jW pre).length):=by
   rw [<-e2];show _=((((txs r.reverse).length,(jW r.reverse).length)::Jfs r).take 4).getLastD (0,0);rw [hT,Qi,Nat.min_eq_left hi]
  simp only [e2];have hw1:(txs r.reverse++X).drop (txs pre).length=txs w++X:=by
   rw [e1,JaW,Qb,ye]
  have hw2:(l.drop (jW pre).length).take (i+n-(jW pre).length)=jW w++T:=by
   rw [<-List.drop_take,htk,e1,zaZ,Qb,ye]
  simp only [hw1,hw2,ye];have okw:∀c∈txs r.reverse++X,okB c:=zD (jbu _ hv) (Zd8 hpc);by_cases q4:4000<(txs r.reverse++X).length
  ·-- too long,whatever the checks say
   have long:∀b2:List UInt8,(txs r.reverse++X).length<=b2.length->(if 4000<b2.length then (([]:List UInt8),(28:Int)) else wrM l f b2 (((txs r.reverse).length,i)::Jfs r) (i+n))=([],28):=λb2 hb2=>ya (by omega)
   have hl2:∀b2:List UInt8,(txs r.reverse++X).length<=b2.length->4000<(wrR l f b2 (i+n)).length:=λb2 hb2=>by have:=ZfX l f b2 (i+n);omega
   rw [long _ (by split <;> simp only [Rb] <;> omega),ya (hl2 _ (by split <;> simp only [Rb] <;> omega))]
  ·-- the two checks say the same
   have same:asM (txs w++X) (jW w++T)=Zan ((Jd1 (Jt (txs r.reverse++X))).map (·.1)) (l.take (i+n)):=by
    have hlw:(txs w++X).length<=4000:=by
     have:(txs r.reverse++X).length=(txs pre).length+(txs w++X).length:=by rw [e1,JaW];simp only [Rb];omega
     omega
    have hvw:∀q∈w,q.ok:=λq hq=>hv q (by rw [e1];exact ym _ hq)
    have okw2:∀c∈txs w++X,okB c:=zD (jbu w hvw) (Zd8 hpc);have hcount:(jW w++T).length<=1500:=by
     have:(l.take (i+n)).length=(jW pre).length+(jW w++T).length:=by rw [htk,e1,zaZ];simp only [Rb];omega
     rw [Qi] at this;omega
    rw [zbg _ okw];have dir1:asM (txs w++X) (jW w++T)=true->Zan ((Jd1 (txs r.reverse++X)).map (·.1)) (l.take (i+n))=true:=by
     intro ha;have hRD:=zhk hpos okw2 ha;have hB2:Built (r.reverse++[⟨T,X,false⟩]):=by
      rw [e1] at hB |-;exact .win hB hpc rfl e3 hRD
     have:=jeu hB2;rw [JaW,zcG,zaZ,jdz] at this;have this:RD (txs r.reverse++X) (jW r.reverse++T):=this;rw [(jcG hpos _ _).1 this,htk];exact zbE _
    have dir2:Zan ((Jd1 (txs r.reverse++X)).map (·.1)) (l.take (i+n))=true->asM (txs w++X) (jW w++T)=true:=by
     intro ha;have hRD:RD (txs r.reverse++X) (jW r.reverse++T):=(jcG hpos _ _).2 (by rw [<-htk];exact ja5 _ _ ha)
     rw [e1] at hRD hv hg;exact ji3 hpos okw2 hlw hcount (zdm (p:=⟨T,X,false⟩) hpc pre w hv hg hRD)
    cases q1:asM (txs w++X) (jW w++T) with
    | true=>exact (dir1 q1).symm
    | false=>
     cases q2:Zan ((Jd1 (txs r.reverse++X)).map (·.1)) (l.take (i+n)) with
     | false=>rfl
     | true=>rw [dir2 q2] at q1;cases q1
   have step:∀(p:Pi) (b2:List UInt8),p.T=T->Built (r.reverse++[p])->b2=txs r.reverse++p.tx->(if 4000<b2.length then ([],(28:Int)) else wrM l f b2 (((txs r.reverse).length,i)::Jfs r) (i+n))=if 4000<(wrR l f b2 (i+n)).length then ([],28) else (wrR l f b2 (i+n),0):=by
    intro p b2 hp hBp hb2;by_cases q5:4000<b2.length
    ·rw [ya q5,ya (by have:=ZfX l f b2 (i+n);omega)]
    ·rw [ga q5];have hx:b2=txs (p::r).reverse:=by rw [Qn,JaW,zcG,hb2]
     have g1:jW (p::r).reverse=l.take (i+n):=by rw [Qn,zaZ,jdz,hp,htk]
     have g2:Jfs (p::r)=((txs r.reverse).length,i)::Jfs r:=by
      show ((txs r.reverse).length,(jW r.reverse).length)::Jfs r=_;rw [hT,Qi,Nat.min_eq_left hi]
     rw [hx,<-g2];exact Zhk hpos l hl hn15 f (p::r) (i+n) (by rw [Qn];exact hBp) g1 hin (by rw [<-hx];omega)
   rw [same];by_cases qs:Zan ((Jd1 (Jt (txs r.reverse++X))).map (·.1)) (l.take (i+n))=true
   ·rw [ya qs,ya qs];refine step ⟨T,X,false⟩ _ rfl ?_ rfl;rw [<-same] at qs;have hvw:∀q∈w,q.ok:=λq hq=>hv q (by rw [e1];exact ym _ hq)
    have hRD:=zhk hpos (zD (jbu w hvw) (Zd8 hpc)) qs;rw [e1] at hB |-;exact .win hB hpc rfl e3 hRD
   ·rw [ga qs,ga qs,Qb];exact step ⟨T,X,true⟩ _ rfl (.com hB hpc rfl) rfl
theorem jgi (hpos:∀w:List UInt8,w≠[]->1<=(zy w).2) {l:List Tok} (h:jeb l=0):Jep l=if 4000<(wrR l (l.length+1) [] 0).length then ([],28) else (wrR l (l.length+1) [] 0,0):=by
 unfold Jep;rw [ga (by rw [h];decide)]
 unfold jeb at h;by_cases q1:1500<l.length
 ·rw [ya q1] at h;exact absurd h (by decide)
 rw [ga q1] at h;cases q2:jbn l with
 | false=>rw [q2,ga (by decide)] at h;exact absurd h (by decide)
 | true=>exact Zhk hpos l q2 (by omega) (l.length+1) [] 0 .nil rfl (dg _) (by decide)
theorem Jcu {α:Type} (p:α->Bool):∀(x y:List α),(∃a∈x,p a=false)->(x++y).takeWhile p=x.takeWhile p
 | [],_,h=>by obtain ⟨a,ha,_⟩:=h;cases ha
 | a::x,y,h=>by
  rw [Qc,gj,gj];cases q:p a with
  | false=>rfl
  | true=>
   obtain ⟨b,hb,hp⟩:=h;rcases gc.1 hb with rfl|hb
   ·rw [q] at hp;cases hp
   ·rw [ya rfl,ya rfl,Jcu p x y ⟨b,hb,hp⟩]
theorem Jhk {t:Tok} {x:List Tok} (h:jbn (t::x)=true) (y:List Tok):jcW (t::(x++y))=jcW (t::x):=by
 rw [JbD,JbD];cases hb:jbD t with
 | true=>rfl
 | false=>
  cases hu:zcE t with
  | false=>rfl
  | true=>
   simp only [yd,if_false,if_true];rw [Jcu];unfold jbn at h;simp only [yb] at h;have hf:=h.2.1;unfold Zep at hf;rw [hb,ga (by decide),hu,ya rfl] at hf
   have key:∀z:List Tok,swK z 5=true->∃a∈z,decide (a.kind≠5)=false:=by
    intro z hz;cases z with
    | nil=>cases hz
    | cons a z=>exact ⟨a,yc ..,by unfold swK at hz;simpa using hz⟩
   cases q:swK x 13 with
   | false=>rw [q,ga (by decide)] at hf;exact key x hf
   | true=>
    rw [q,ya rfl] at hf;obtain ⟨a,ha,hk⟩:=key x.tail hf;exact ⟨a,List.mem_of_mem_tail ha,hk⟩
theorem zft (x y:List Tok) (hx:jbn x=true):∀(f:Nat) (b:List UInt8) (i:Nat),i<=x.length->x.length-i<f->∃f2,f-(x.length-i)<=f2/\wrR (x++y) f b i=wrR (x++y) f2 (wrR x f b i) x.length
 | 0,b,i,_,hf=>absurd hf (by omega)
 | f+1,b,i,hi,hf=>by
  by_cases q:x.length<=i
  ·have e:i=x.length:=by omega
   refine ⟨f+1,by omega,?_⟩
   have:wrR x (f+1) b i=b:=by unfold wrR;rw [ya q]
   rw [this,e]
  obtain ⟨t,l',hd⟩:=yf (show x.drop i≠[] from λz=>by
   have:=Ya List.length z;rw [Hb,Hd] at this;omega)
  have hc:jbn (t::l')=true:=by rw [<-hd];exact ZbD i x hx
  obtain ⟨hpc,hpl,hp1⟩:=jcU hc;have hd2:(x++y).drop i=t::(l'++y):=by rw [List.drop_append_of_le_length hi,hd];rfl
  have hpn:jcW ((x++y).drop i)=jcW (x.drop i):=by rw [hd2,hd];exact Jhk hc y
  rw [<-hd] at hpc hpl hp1;generalize hn:jcW (x.drop i)=n at hpc hpl hp1 hpn;have hin:i+n<=x.length:=by
   have:((x.drop i).take n).length<=(x.drop i).length:=by rw [Qi];omega
   rw [hpl,Hb] at this;omega
  have hT:((x++y).drop i).take n=(x.drop i).take n:=by
   rw [List.drop_append_of_le_length hi,List.take_append_of_le_length (by rw [Hb];omega)]
  have hE:(x++y).take (i+n)=x.take (i+n):=List.take_append_of_le_length hin;have e1:wrR (x++y) (f+1) b i=wrR (x++y) f ((if Zan ((Jd1 (Jt (b++Zdk ((x.drop i).take n)))).map (·.1)) (x.take (i+n)) then b else b++[47,42,42,47])++Zdk ((x.drop i).take n)) (i+n):=by
   conv=>lhs;unfold wrR
   rw [ga (by rw [Rb];omega)]
   dsimp only;simp only [hpn,show i+n-i=n by omega,hT,hE]
  have e2:wrR x (f+1) b i=wrR x f ((if Zan ((Jd1 (Jt (b++Zdk ((x.drop i).take n)))).map (·.1)) (x.take (i+n)) then b else b++[47,42,42,47])++Zdk ((x.drop i).take n)) (i+n):=by
   conv=>lhs;unfold wrR
   rw [ga q];dsimp only;simp only [hn,show i+n-i=n by omega]
  obtain ⟨f2,g1,g2⟩:=zft x y hx f ((if Zan ((Jd1 (Jt (b++Zdk ((x.drop i).take n)))).map (·.1)) (x.take (i+n)) then b else b++[47,42,42,47])++Zdk ((x.drop i).take n)) (i+n) hin (by omega)
  exact ⟨f2,by omega,by rw [e1,e2,g2]⟩
