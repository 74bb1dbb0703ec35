/-
 A piece that is read back may end there: numbers before numbers, dimensions; the lemma for pieces. Nothing is claimed here.
-/
import Derived.Test.YtmnegokadegioaaGreatDoorIa2
set_option linter.unusedVariables false
set_option linter.unusedSimpArgs false
namespace Go.Proofs.YtmnegokadegioaaGreatDoor
open Go.Vm Go.Sx Go.RowKit
theorem jdX {e i:Int} {c:UInt8} {w:List UInt8} (h:hb (JaO e i (c::w))≠92):JaO e i (c::w)=c::JaO e (i+1) w:=by
 rcases jai e i c w with ⟨_,_,q⟩|⟨_,q⟩
 ·exact q
 ·exfalso;obtain ⟨d,v,e2,_⟩:=za4 c;rw [q,e2] at h;exact h rfl
theorem jeg {u:List UInt8} (hu:u≠[]):Zcy (zag u)=false:=by
 obtain ⟨c,w,rfl⟩:=List.exists_cons_of_ne_nil hu;unfold zag;by_cases q:ZeJ (c::w)=true
 ·rw [if_pos q];have e0:JaO 0 0 (c::w)=zbp c++JaO 0 (0+1) w:=by simp [JaO]
  obtain ⟨d,v,e2,_⟩:=za4 c;rw [e0,e2];unfold Zcy;rw [show mE (hb (92::d::v++JaO 0 (0+1) w))=false from rfl]
  rfl
 ·rw [if_neg q];cases z:Zcy (Jac (c::w)) with
  | false=>rfl
  | true=>
   exfalso;apply q;unfold Zcy at z;simp only [Bool.and_eq_true] at z;obtain ⟨z1,z2⟩:=z;unfold Jac at z1 z2;generalize jcO (c::w)=e at z1 z2;have r1:=jdX (e:=e) (i:=0) (c:=c) (w:=w) (fun y=>by rw [y] at z1;exact absurd z1 (by decide))
   rw [r1] at z1 z2;rw [je] at z1;rw [List.tail_cons] at z2;unfold ZeJ;rw [je,z1,List.tail_cons];cases w with
   | nil=>exact absurd z2 (by show ¬Jec []=true;decide)
   | cons s v=>
    have hs92:hb (JaO e (0+1) (s::v))≠92:=by
     intro y;unfold Jec at z2;rw [y,if_neg (by decide)] at z2
     exact absurd z2 (by decide)
    have r2:=jdX hs92;rw [r2] at z2;unfold Jec at z2;rw [je,List.tail_cons] at z2;by_cases k:mSg (s.toNat:Int)=true
    ·rw [if_pos k] at z2;cases v with
     | nil=>exact absurd z2 (by show ¬mD 0=true;decide)
     | cons d x=>
      have r3:=jdX (e:=e) (i:=0+1+1) (c:=d) (w:=x) (fun y=>by rw [y] at z2;exact absurd z2 (by decide))
      rw [r3,je] at z2;have hs:(s.toNat:Int)=45:=by
       rcases zgY k with y|y
       ·exfalso;rcases jai e (0+1) s (d::x) with ⟨_,y2,_⟩|⟨_,y2⟩
        ·rw [y] at y2;exact absurd y2 (by decide)
        ·obtain ⟨d2,v2,e3,_⟩:=za4 s;rw [y2,e3] at hs92;exact hs92 rfl
       ·exact y
      unfold swM;rw [je,hs,List.tail_cons,je,z2];simp
    ·rw [if_neg k] at z2;unfold swD;rw [je,z2];simp
theorem Zeg {tl:List UInt8} (h:tl=[]∨tl=[37]∨∃u,u≠[]∧(0:UInt8)∉u∧tl=zag u):mD (hb tl)=false∧Zac tl=false∧Jbd tl=(0,0):=by
 rcases h with q|q|⟨u,hu,h0,q⟩
 ·rw [q];exact ⟨by decide,by decide,rfl⟩
 ·rw [q];exact ⟨by decide,by decide,rfl⟩
 ·rw [q];have h1:=(jcM hu h0 []).1;rw [List.append_nil] at h1;exact ⟨(ZcM h1).1,(ZcM h1).2.1,zcM (jeg hu)⟩
theorem Jeg {X:List UInt8} {t:Tok} (h:(jr X).1=t) (hk:t.kind=10):ZE (X.drop (Zbx X).2.2)=false∧hb (X.drop (Zbx X).2.2)≠37∧(jr X).2=(Zbx X).2.2∧t.flag=(Zbx X).2.1:=by
 subst h;unfold jr at hk ⊢;dsimp only at hk ⊢;cases q:ZE (X.drop (Zbx X).2.2) with
 | true=>rw [q,if_pos rfl] at hk;exact absurd hk (by show ¬(12:Int)=10;decide)
 | false=>
  rw [q,if_neg (by decide)] at hk
  by_cases q2:hb (X.drop (Zbx X).2.2)=37
  ·rw [if_pos q2] at hk;exact absurd hk (by show ¬(11:Int)=10;decide)
  ·rw [if_neg (by decide),if_neg q2]
   exact ⟨rfl,q2,rfl,rfl⟩
theorem JfI (X:List UInt8):(jr X).1.num=(Zbx X).1:=by
 unfold jr;dsimp only;split
 ·rfl
 ·split <;> rfl
theorem jgZ {tl:List UInt8} (h:tl=[]∨tl=[37]∨∃u,u≠[]∧(0:UInt8)∉u∧tl=zag u) (h1:ZE tl=false) (h2:hb tl≠37):tl=[]:=by
 rcases h with q|q|⟨u,hu,h0,q⟩
 ·exact q
 ·rw [q] at h2;exact absurd rfl h2
 ·have h3:=(jcM hu h0 []).1;rw [List.append_nil,←q,h1] at h3;cases h3
theorem ziW {n:Int} {f:Bool} {T L:List Tok} {P:List UInt8} (hn:NumOK n f) (hf:First T P) (hd:mD (hb P)=true) (hT:L=T) (h:RD (J6 n f++P) (tk 10 [] n [] f::L)):exV (tk 10 [] n [] f) P:=by
 obtain ⟨m,g,tl,hm,hP,hk⟩:=jgY hf (.inl hd);have htl:tl=[]∨tl=[37]∨∃u,u≠[]∧(0:UInt8)∉u∧tl=zag u:=by
  rcases hk with ⟨_,q⟩|⟨_,q⟩|⟨u,hu,h0,_,q⟩
  ·exact .inl q
  ·exact .inr (.inl q)
  ·exact .inr (.inr ⟨u,hu,h0,q⟩)
 obtain ⟨t1,t2,t3⟩:=Zeg htl;have hTm:∃t',T=[t']∧t'.num=m:=by
  rcases hk with ⟨q,_⟩|⟨q,_⟩|⟨u,_,_,q,_⟩ <;> exact ⟨_,q,rfl⟩
 obtain ⟨t',hT1,hT2⟩:=hTm;have hm0:¬m<0:=by
  intro z;rw [hP,Zad (List.length_pos_iff.2 (jal hm))] at hd;unfold J6 at hd;rw [if_pos z] at hd;exact absurd hd (by show ¬mD 45=true;decide)
 obtain ⟨d1,d2,d3⟩:=I.dec_ok (n.natAbs / 1000);obtain ⟨f1,f2,f3,_⟩:=I.fr_ok (r:=n.natAbs%1000) (Nat.mod_lt _ (by decide))
 obtain ⟨p1,p2,p3⟩:=I.dec_ok (m.natAbs / 1000);obtain ⟨q1,q2,q3,_⟩:=I.fr_ok (r:=m.natAbs%1000) (Nat.mod_lt _ (by decide))
 have hPw:P=Lib.decDigits (m.natAbs / 1000)++((if g then [] else 46::fr3 3 (m.natAbs%1000))++tl):=by
  rw [hP];unfold J6;rw [if_neg hm0];simp
 generalize hD':Lib.decDigits (m.natAbs / 1000)=D' at p1 p2 p3 hPw;obtain ⟨-,i2,i3⟩:=zal (zcN (jal hn) (jbo hn)) h;have hcase:f=true∨f=false:=by cases f <;> simp
 rcases hcase with hft|hff
 ·exfalso;subst hft;generalize hF0:(if g then ([]:List UInt8) else fr3 3 (m.natAbs%1000))=F0
  have hF0a:I.AllDg F0:=by
   subst hF0;cases g with
   | true=>exact fun b hb=>(by cases hb)
   | false=>exact q1
  have hF0e:(if g then ([]:List UInt8) else 46::fr3 3 (m.natAbs%1000))=if F0=[] then [] else 46::F0:=by
   subst hF0;cases g with
   | true=>rfl
   | false=>simp [q2]
  have hW:I.AllDg (Lib.decDigits (n.natAbs / 1000)++D'):=fun b hb=>(List.mem_append.1 hb).elim (d1 b) (p1 b)
  have gg:=I.num_gen (W:=Lib.decDigits (n.natAbs / 1000)++D') (F:=F0) (v:=tl) (decide (n<0)) hW (by simp [d2]) hF0a t1 (fun _=>t2)
  have e:=jef n true P;simp only [if_true,List.nil_append] at e;have e2:J6 n true++P=(if decide (n<0) then [45] else [])++(Lib.decDigits (n.natAbs / 1000)++D'++((if F0=[] then [] else 46::F0)++tl)):=by
   rw [e,hPw,hF0e];simp [List.append_assoc]
  rw [←e2,t3] at gg;rw [ZaU gg.1] at i2 i3;obtain ⟨k1,k2,k3,k4⟩:=Jeg i2 rfl;have hlen:(J6 n true++P).drop (Zbx (J6 n true++P)).2.2=tl:=by
   rw [gg.2];dsimp only;rw [Nat.add_zero,e2];have:∀A B C D:List UInt8,(A++(B++(C++D))).drop (A++(B++C)).length=D:=fun A B C D=>by
    rw [show A++(B++(C++D))=(A++(B++C))++D by simp,List.drop_left]
   exact this _ _ _ _
  rw [hlen] at k1 k2;rw [k3,hlen,jgZ htl k1 k2,hT,hT1] at i3;have:=jcf i3;cases this
 ·subst hff;generalize hR:(if g then ([]:List UInt8) else 46::fr3 3 (m.natAbs%1000))++tl=R at hPw
  have hR1:mD (hb R)=false∧Jbd R=(0,0):=by
   subst hR;cases g with
   | true=>exact ⟨t1,t3⟩
   | false=>exact ⟨by show mD 46=false;decide,ZeH rfl⟩
  have hFa:I.AllDg (fr3 3 (n.natAbs%1000)++D'):=fun b hb=>(List.mem_append.1 hb).elim (f1 b) (p1 b)
  have hFn:fr3 3 (n.natAbs%1000)++D'≠[]:=by simp [f2]
  have gg:=I.num_gen (W:=Lib.decDigits (n.natAbs / 1000)) (F:=fr3 3 (n.natAbs%1000)++D') (v:=R) (decide (n<0)) d1 d2 hFa hR1.1 (fun z=>absurd z hFn)
  rw [if_neg hFn,hR1.2] at gg;have e:=jef n false P;simp only [Bool.false_eq_true,if_false,if_neg f2] at e;have e2:J6 n false++P=(if decide (n<0) then [45] else [])++(Lib.decDigits (n.natAbs / 1000)++(46::(fr3 3 (n.natAbs%1000)++D')++R)):=by
   rw [e,hPw];simp [List.append_assoc]
  rw [←e2] at gg;rw [ZaU gg.1] at i2 i3;obtain ⟨k1,k2,k3,k4⟩:=Jeg i2 rfl;have hlen:(J6 n false++P).drop (Zbx (J6 n false++P)).2.2=R:=by
   rw [gg.2];dsimp only;rw [Nat.add_zero,e2];have:∀A B C D:List UInt8,(A++(B++(C++D))).drop (A++(B++C)).length=D:=fun A B C D=>by
    rw [show A++(B++(C++D))=(A++(B++C))++D by simp,List.drop_left]
   exact this _ _ _ _
  rw [hlen] at k1 k2;rw [k3,hlen,hT,hT1] at i3;have hgc:g=true∨g=false:=by cases g <;> simp
  rcases hgc with hg|hg
  ·exfalso;subst hg;have hRt:R=tl:=by rw [←hR];rfl
   rw [hRt] at k1 k2 i3;rw [jgZ htl k1 k2] at i3;have:=jcf i3;cases this
  ·subst hg;obtain ⟨d,F'',hFF⟩:=List.exists_cons_of_ne_nil q2;have hdd:mD (d.toNat:Int)=true:=q1 d (by rw [hFF];exact List.mem_cons_self ..)
   have hRe:R=46::d::(F''++tl):=by rw [←hR,hFF];rfl
   have hc:Jat R=0:=jaO fun z=>absurd z.1 (by rw [hRe];show ¬(46:Int)=47;decide)
   have j2:=(zal hc i3).2.1;have hsh:=ZgW hdd (F''++tl);rw [←hRe] at hsh;have hr1:((m.natAbs%1000:Nat):Int).natAbs=m.natAbs%1000:=Int.natAbs_natCast _;have hN:NumOK ((m.natAbs%1000:Nat):Int) false:=⟨by omega,by omega,fun z=>by cases z⟩
   have e3:J6 ((m.natAbs%1000:Nat):Int) false++tl=48::R:=by
    unfold J6;rw [if_neg (by omega),hr1,show m.natAbs%1000 / 1000=0 by omega,show m.natAbs%1000%1000=m.natAbs%1000 by omega,Lib.decDigits_one (by decide),hRe,hFF]
    rfl
   obtain ⟨u1,u2,u3⟩:=Jbi hN t1 (fun _=>t2)
   rw [t3] at u3;have u3:=u3 rfl;rw [e3] at u1 u3;have j3:(JK (48::R)).1.num=((m.natAbs%1000:Nat):Int):=by rw [ZaU u1,JfI,u3]
   rw [hsh] at j3;have j4:(JK R).1.num=m:=by rw [j2,hT2]
   have j5:m.natAbs / 1000=0:=by
    have:(JK R).1.num=((m.natAbs%1000:Nat):Int):=j3;omega
   refine ⟨rfl,rfl,d,F''++tl,hdd,?_⟩;rw [hPw,←hD',j5,Lib.decDigits_one (by decide),hRe]
   rfl
theorem jiW {n:Int} {f:Bool} {u U P:List UInt8} {T L:List Tok} (hn:NumOK n f) (hu:u≠[]) (h0:(0:UInt8)∉u) (hf:First T P) (hU:Zcy (zag u++U)=false) (he:Zcy (zag u++(U++P))=true) (hL:L≠[]) (h:RD (J6 n f++zag u++(U++P)) (tk 12 [] n u f::L)):False:=by
 have hune:zag u≠[]:=fun z=>by
  have:=(jcM hu h0 []).1;rw [z] at this;exact absurd this (by decide)
 obtain ⟨y,Y,hY⟩:=List.exists_cons_of_ne_nil (show zag u++U≠[] by simp [hune])
 rw [←List.append_assoc,hY] at he;rw [hY] at hU;have hl:Y.length≤1:=by
  rcases Nat.lt_or_ge Y.length 2 with q|q
  ·omega
  ·rw [zfX (by rw [List.length_cons];omega),hU] at he;cases he
 have hy:mE (y.toNat:Int)=true:=by unfold Zcy at he;simp only [Bool.and_eq_true] at he;exact he.1
 have he2:Jec (Y++P)=true:=by unfold Zcy at he;simp only [Bool.and_eq_true] at he;exact he.2
 have hU2:Jec Y=false:=by unfold Zcy at hU;rw [je,hy] at hU;exact hU
 have key:∃S:List UInt8,(S=[]∨(∃s:UInt8,S=[s]∧mSg (s.toNat:Int)=true))∧(mD (hb P)=true∨(S=[]∧mSg (hb P)=true∧mD (hb P.tail)=true))∧Y=S:=by
  cases Y with
  | nil=>
   refine ⟨[],.inl rfl,?_,rfl⟩;rw [List.nil_append] at he2;unfold Jec at he2;by_cases q:mSg (hb P)=true
   ·rw [if_pos q] at he2;exact .inr ⟨rfl,q,he2⟩
   ·rw [if_neg q] at he2;exact .inl he2
  | cons s Y=>
   have:Y=[]:=by rw [List.length_cons] at hl;exact List.length_eq_zero_iff.1 (by omega)
   subst this;refine ⟨[s],.inr ⟨s,rfl,?_⟩,?_,rfl⟩
   ·cases q:mSg (s.toNat:Int) with
    | true=>rfl
    | false=>
     unfold Jec at he2 hU2;rw [List.cons_append,je,q,if_neg (by decide)] at he2
     rw [je,q,if_neg (by decide),he2] at hU2
     cases hU2
   ·left;unfold Jec at he2 hU2;rw [List.cons_append,je,List.tail_cons,List.nil_append] at he2;rw [je] at hU2;split at he2
    ·exact he2
    ·rename_i q;rw [if_neg q,he2] at hU2;cases hU2
 obtain ⟨S,hS,hP0,rfl⟩:=key;obtain ⟨m,g,tl,hm,hP,hk⟩:=jgY hf (hP0.imp id (·.2));have htl:tl=[]∨tl=[37]∨∃u,u≠[]∧(0:UInt8)∉u∧tl=zag u:=by
  rcases hk with ⟨_,q⟩|⟨_,q⟩|⟨u,hu,h0,_,q⟩
  ·exact .inl q
  ·exact .inr (.inl q)
  ·exact .inr (.inr ⟨u,hu,h0,q⟩)
 obtain ⟨t1,t2,t3⟩:=Zeg htl;obtain ⟨p1,p2,p3⟩:=I.dec_ok (m.natAbs / 1000);obtain ⟨q1,q2,q3,_⟩:=I.fr_ok (r:=m.natAbs%1000) (Nat.mod_lt _ (by decide))
 have hPw:P=(if m<0 then [45] else [])++(Lib.decDigits (m.natAbs / 1000)++((if g then [] else 46::fr3 3 (m.natAbs%1000))++tl)):=by
  rw [hP];unfold J6;simp
 generalize hR:(if g then ([]:List UInt8) else 46::fr3 3 (m.natAbs%1000))++tl=R at hPw
 have hR1:mD (hb R)=false:=by
  subst hR;cases g with
  | true=>exact t1
  | false=>show mD 46=false;decide
 generalize hD':Lib.decDigits (m.natAbs / 1000)=D' at p1 p2 p3 hPw;obtain ⟨d,D2,hDc⟩:=List.exists_cons_of_ne_nil p2;have hdd:mD (d.toNat:Int)=true:=p1 d (by rw [hDc];exact List.mem_cons_self ..)
 have hm2:=I.mD_not hdd;have hexp:((y::Y)++P).drop (Jbd ((y::Y)++P)).2=R:=by
  have hx:(Jbd (y::(Y++P))).2=(if mSg (hb (Y++P)) then 2 else 1)+(ZF (if mSg (hb (Y++P)) then (Y++P).tail else (Y++P))).length:=by
   unfold Jbd;rw [if_pos (by rw [je,List.tail_cons,hy,he2];rfl)]
   rfl
  rw [List.cons_append,hx];have done:∀Z:List UInt8,(∃s,Z=s::(D'++R)∧mSg (s.toNat:Int)=true)∨Z=D'++R→(y::Z).drop ((if mSg (hb Z) then 2 else 1)+(ZF (if mSg (hb Z) then Z.tail else Z)).length)=R:=by
   intro Z hZ;rcases hZ with ⟨s,rfl,hs⟩|rfl
   ·rw [je,if_pos hs,if_pos hs,List.tail_cons,I.digs_app p1 hR1,show 2+D'.length=D'.length+1+1 by omega,List.drop_succ_cons,List.drop_succ_cons,List.drop_left]
   ·have:mSg (hb (D'++R))=false:=by rw [hDc,List.cons_append,je];exact hm2.1
    rw [this,if_neg (by decide),if_neg (by decide),I.digs_app p1 hR1,show 1+D'.length=D'.length+1 by omega,List.drop_succ_cons,List.drop_left]
  apply done;rcases hS with rfl|⟨s,rfl,hs⟩
  ·rw [List.nil_append,hPw];by_cases q:m<0
   ·rw [if_pos q];exact .inl ⟨45,rfl,by decide⟩
   ·rw [if_neg q];exact .inr rfl
  ·have hmn:¬m<0:=by
    intro z;rcases hP0 with q|⟨q,_⟩
    ·rw [hPw,if_pos z] at q;exact absurd q (by show ¬mD 45=true;decide)
    ·cases q
   rw [hPw,if_neg hmn];exact .inl ⟨s,rfl,hs⟩
 have hX:J6 n f++zag u++(U++P)=J6 n f++((y::Y)++P):=by
  rw [←hY];simp [List.append_assoc]
 rw [hX] at h;have hv1:mD (hb ((y::Y)++P))=false:=by
  rw [List.cons_append,je];rcases zhv hy with q|q <;> rw [q] <;> decide
 have hv2:Zac ((y::Y)++P)=false:=by
  unfold Zac;rw [List.cons_append,je];rcases zhv hy with q|q <;> rw [q] <;> rfl
 obtain ⟨g1,g2,g3⟩:=Jbi hn hv1 (fun _=>hv2)
 obtain ⟨-,i2,i3⟩:=zal (zcN (jal hn) (jbo hn)) h;have hdrop:(J6 n f++((y::Y)++P)).drop (Zbx (J6 n f++((y::Y)++P))).2.2=R:=by
  rw [g2];dsimp only;rw [←List.drop_drop,List.drop_left,hexp]
 rw [ZaU g1] at i2 i3;have hk12:(jr (J6 n f++((y::Y)++P))).1.kind=12:=by rw [i2];rfl
 have hr:ZE R=true∧(jr (J6 n f++((y::Y)++P))).2=(Zbx (J6 n f++((y::Y)++P))).2.2+(jo R).2:=by
  unfold jr at hk12 ⊢;dsimp only at hk12 ⊢;rw [hdrop] at hk12 ⊢;cases q:ZE R with
  | true=>exact ⟨rfl,by rw [if_pos rfl]⟩
  | false=>
   rw [q,if_neg (by decide)] at hk12
   split at hk12
   ·exact absurd hk12 (by show ¬(11:Int)=12;decide)
   ·exact absurd hk12 (by show ¬(10:Int)=12;decide)
 have hall:R.drop (jo R).2=[]:=by
  have hrn:=hr.1;have hg:g=true:=by
   cases g with
   | true=>rfl
   | false=>rw [←hR] at hrn;have h9:ZE (46::(fr3 3 (m.natAbs%1000)++tl))=true:=hrn;rw [show ZE (46::(fr3 3 (m.natAbs%1000)++tl))=false from rfl] at h9;cases h9
  subst hg;have hRt:R=tl:=by rw [←hR];rfl
  rw [hRt] at hrn ⊢;rcases htl with q|q|⟨u',hu',h0',q⟩
  ·rw [q] at hrn;exact absurd hrn (by decide)
  ·rw [q] at hrn;exact absurd hrn (by decide)
  ·have h3:=(jcM hu' h0' []).2;rw [List.append_nil] at h3;rw [q,h3];simp [jo]
 rw [hr.2,←List.drop_drop,hdrop,hall] at i3;exact hL (jcf i3)
theorem ZiW {T T' L:List Tok} {X U P:List UInt8} (hp:Pc T X) (hp':Pc T' P) (hU:stP T U) (hL:L≠[]) (hL2:U=[]→L=T') (h:RD (X++(U++P)) (T++L)):stP T (U++P):=by
 have hf:=Zhu hp';cases hp with
 | one t hc h1 h2=>
  rw [ZfI] at hU ⊢;cases hc with
  | ident a ha h0=>
   exact Jhr ha h0 (zal (zcN (zdW ha) (Jfd ha)) h).2.1
  | func a ha h0=>exact trivial
  | atk a ha h0=>exact ziV ha h0 (zal (zcN (X:=64::Jac a) (by simp) (by show ¬(64:Int)=47;decide)) h).2.1
  | hash a f ha h0 hf=>exact Zh8 ha h0 (zal (zcN (X:=jcJ a f) (by simp [jcJ]) (by show ¬(35:Int)=47;decide)) h).2.1
  | str a h0=>exact trivial
  | url a h0=>exact trivial
  | del c hc h0=>
   intro b hb;have hb:[c]=[b]:=hb;injection hb with hb _
   subst hb;exact Zic hc hf (hU c rfl) h
  | num n f hn=>
   have hU:jgg f U∨exV (tk 10 [] n [] f) U:=hU;show jgg f (U++P)∨exV (tk 10 [] n [] f) (U++P);rcases hU with hU|hU
   ·cases U with
    | cons b U=>
     left;obtain ⟨u1,u2,u3,u4⟩:=hU;refine JhG hn u1 ?_ (zal (zcN (jal hn) (jbo hn)) h).2.1;cases q:Zcy (b::U++P) with
     | false=>rfl
     | true=>
      have:mE (hb (b::U))=true:=by unfold Zcy at q;simp only [Bool.and_eq_true] at q;exact q.1
      rw [jeH this] at u3;cases u3
    | nil=>
     rw [List.nil_append] at h ⊢;cases q:Zcy P with
     | true=>exact (JiV hn hf q (hL2 rfl) h).elim
     | false=>
      cases q2:mD (hb P) with
      | true=>exact .inr (ziW hn hf q2 (hL2 rfl) h)
      | false=>exact .inl (JhG hn q2 q (zal (zcN (jal hn) (jbo hn)) h).2.1)
   ·exact .inr (jfI _ hU)
  | pct n hn=>exact trivial
  | dim n u f hn hu h0=>
   have hU:Zgg u U:=hU;show Zgg u (U++P);cases q:Zcy (zag u++(U++P)) with
   | true=>exact (jiW hn hu h0 hf hU.2 q hL h).elim
   | false=>exact ziA hn hu h0 q (zal (zcN (X:=J6 n f++zag u) (by simp [jal hn]) (jdd (jal hn) (jbo hn))) h).2.1
  | sp=>exact ZiA hf hU hL 32 (.inl rfl) h
  | cdo=>exact trivial
  | cdc=>exact trivial
  | mark k hk=>
   have e:∀j:Int,j<16→(tk k).kind≠j:=fun j hj=>by show k≠j;omega
   unfold stM;rw [if_neg (e 1 (by decide)),if_neg (e 3 (by decide)),if_neg (e 4 (by decide)),if_neg (e 9 (by decide)),if_neg (e 10 (by decide)),if_neg (e 12 (by decide)),if_neg (e 13 (by decide))]
   trivial
 | bs=>
  rw [jgX] at hU ⊢;have h:RD ([92]++(10::(U++P))) (tk 9 [92]::tk 13::L):=h;rw [zbo (by simp) (by show ¬(92:Int)=47;decide) (jhH _)] at h
  exact ZiA hf hU hL 10 (.inr rfl) h
 | uf a s ha h0 hu hs=>exact ⟨fun t e=>(by cases e),fun t e=>(by cases e)⟩
 | ufs a s ha h0 hu hs=>exact ⟨fun t e=>(by cases e),fun t e=>(by cases e)⟩
end Go.Proofs.YtmnegokadegioaaGreatDoor
set_option linter.unusedVariables false
set_option linter.unusedSimpArgs false
namespace Go.Proofs.YtmnegokadegioaaGreatDoor
open Go.Vm Go.Sx Go.RowKit
structure Pi where
 T:List Tok
 X:List UInt8
 c:Bool
def Pi.ok (p:Pi):Prop:=Pc p.T p.X
def Pi.tx (p:Pi):List UInt8:=(if p.c then [47,42,42,47] else [])++p.X
def txs (ps:List Pi):List UInt8:=ps.flatMap Pi.tx
def zdm (ps:List Pi):List Tok:=ps.flatMap Pi.T
theorem zbM (p:Pi) (ps:List Pi):txs (p::ps)=p.tx++txs ps:=List.flatMap_cons
theorem ZdX (p:Pi) (ps:List Pi):zdm (p::ps)=p.T++zdm ps:=List.flatMap_cons
theorem Jc6 (a b:List Pi):txs (a++b)=txs a++txs b:=List.flatMap_append
theorem JfX (a b:List Pi):zdm (a++b)=zdm a++zdm b:=List.flatMap_append
theorem zeI (p:Pi):txs [p]=p.tx:=by rw [zbM];exact List.append_nil _
theorem jhv (p:Pi):zdm [p]=p.T:=by rw [ZdX];exact List.append_nil _
def jgj:List Pi→Prop
 | []=>True
 | q::qs=>stP q.T (txs qs)∧jgj qs
theorem ziB {p:Pi} {V:List UInt8} {L:List Tok}:RD (p.tx++V) L↔RD (p.X++V) L:=by
 unfold Pi.tx;cases p.c with
 | true=>
  rw [if_pos rfl,List.append_assoc];exact jiA
 | false=>exact Iff.rfl
theorem zfe:∀qs:List Pi,(∀p∈qs,p.ok)→jgj qs→RD (txs qs) (zdm qs)
 | [],_,_=>.nil (by simp [txs])
 | q::qs,hv,hg=>by
  rw [zbM,ZdX,ziB,JgX (hv q (List.mem_cons_self ..)) hg.1];exact zfe qs (fun p hp=>hv p (List.mem_cons_of_mem _ hp)) hg.2
theorem zfY {T:List Tok} {X:List UInt8} (hp:Pc T X):stP T []:=by
 cases hp with
 | one t hc h1 h2=>
  rw [ZfI];cases hc with
  | ident a ha h0=>exact ⟨by decide,by decide,fun z=>absurd z.2 (by decide)⟩
  | func a ha h0=>exact trivial
  | atk a ha h0=>show zI []=false;decide
  | hash a f ha h0 hf=>show zI []=false;decide
  | str a h0=>exact trivial
  | url a h0=>exact trivial
  | del c hc h0=>
   intro b hbb;have hbb:[c]=[b]:=hbb;injection hbb with hbb _
   subst hbb;have h92:¬(c.toNat:Int)=92:=by
    intro z;have:c=92:=UInt8.toNat_inj.mp (by show c.toNat=92;omega)
    subst this;exact absurd h1 (by decide)
   refine ⟨fun z=>absurd z.2 (by decide),?_,by simp [List.isPrefixOf],by simp [List.isPrefixOf],fun z=>absurd z.2 (by decide),?_,fun z=>absurd z.2 (by decide)⟩
   ·unfold Jbo;rw [je,hc.d];have:Zac [c]=false:=by unfold Zac;rw [List.tail_cons,show mD (hb [])=false by decide,Bool.and_false]
    rw [this];rw [show mD (hb [c].tail)=false from by show mD 0=false;decide,show Zac [c].tail=false from rfl]
    split <;> rfl
   ·rw [jbx,hc.n0,JcL,decide_eq_false h92];split
    ·rfl
    ·decide
  | num n f hn=>exact .inl ⟨by decide,fun _=>by decide,by decide,by decide⟩
  | pct n hn=>exact trivial
  | dim n u f hn hu h0=>exact ⟨by decide,by rw [List.append_nil];exact jeg hu⟩
  | sp=>show mSp 0=false;decide
  | cdo=>exact trivial
  | cdc=>exact trivial
  | mark k hk=>
   have e:∀j:Int,j<16→(tk k).kind≠j:=fun j hj=>by show k≠j;omega
   unfold stM;rw [if_neg (e 1 (by decide)),if_neg (e 3 (by decide)),if_neg (e 4 (by decide)),if_neg (e 9 (by decide)),if_neg (e 10 (by decide)),if_neg (e 12 (by decide)),if_neg (e 13 (by decide))]
   trivial
 | bs=>exact jgX.2 (by decide)
 | uf a s ha h0 hu hs=>exact ⟨fun t e=>(by cases e),fun t e=>(by cases e)⟩
 | ufs a s ha h0 hu hs=>exact ⟨fun t e=>(by cases e),fun t e=>(by cases e)⟩
theorem jfY {p:Pi} (hp:p.ok) (hc:p.c=true):∀qs:List Pi,jgj qs→jgj (qs++[p])
 | [],_=>⟨zfY hp,trivial⟩
 | q::qs,hg=>by
  refine ⟨?_,jfY hp hc qs hg.2⟩;show stP q.T (txs (qs++[p]));rw [Jc6,zeI];unfold Pi.tx;rw [hc,if_pos rfl];exact ZgX _ hg.1
theorem jiB {qs:List Pi} (hv:∀p∈qs,p.ok) (h:txs qs=[]):qs=[]:=by
 cases qs with
 | nil=>rfl
 | cons q qs=>
  rw [zbM] at h;have h2:=(List.append_eq_nil_iff.1 h).1;unfold Pi.tx at h2;exact absurd (List.append_eq_nil_iff.1 h2).2 (zic (hv q (List.mem_cons_self ..))).1
theorem ZfY {p:Pi} (hp:p.ok) (hc:p.c=false):∀qs:List Pi,(∀p∈qs,p.ok)→jgj qs→RD (txs qs++p.X) (zdm qs++p.T)→jgj (qs++[p])
 | [],_,_,_=>⟨zfY hp,trivial⟩
 | q::qs,hv,hg,h=>by
  have hv2:∀p∈qs,p.ok:=fun p hp=>hv p (List.mem_cons_of_mem _ hp)
  have hpt:p.tx=p.X:=by unfold Pi.tx;rw [hc];rfl
  rw [zbM,ZdX,List.append_assoc,List.append_assoc,ziB] at h;have hs:=ZiW (hv q (List.mem_cons_self ..)) hp hg.1 (L:=zdm qs++p.T) (fun z=>(zic hp).2 (List.append_eq_nil_iff.1 z).2) (fun z=>by rw [jiB hv2 z];rfl) h
  refine ⟨?_,ZfY hp hc qs hv2 hg.2 ((JgX (hv q (List.mem_cons_self ..)) hs).1 h)⟩;show stP q.T (txs (qs++[p]));rw [Jc6,zeI,hpt];exact hs
theorem JfY:∀(pre w:List Pi),jgj (pre++w)→jgj w
 | [],w,h=>h
 | q::pre,w,h=>JfY pre w h.2
theorem zfZ {p:Pi}:∀(pre w:List Pi),jgj (pre++w)→3≤(txs w).length→jgj (w++[p])→jgj (pre++(w++[p]))
 | [],w,_,_,h=>h
 | q::pre,w,hg,hl,h=>by
  refine ⟨?_,zfZ pre w hg.2 hl h⟩;show stP q.T (txs (pre++(w++[p])));rw [←List.append_assoc,Jc6];exact Jib _ (by rw [Jc6,List.length_append];omega) hg.1
inductive Built:List Pi→Prop where
 | nil:Built []
 | com {ps:List Pi} {p:Pi}:Built ps→p.ok→p.c=true→Built (ps++[p])
 | win {pre w:List Pi} {p:Pi}:Built (pre++w)→p.ok→p.c=false→(pre=[]∨3≤(txs w).length)→RD (txs w++p.X) (zdm w++p.T)→Built (pre++w++[p])
theorem Jcf {ps:List Pi} (h:Built ps):(∀p∈ps,p.ok)∧jgj ps:=by
 induction h with
 | nil=>exact ⟨fun p hp=>(by cases hp),trivial⟩
 | com _ hp hc ih=>
  refine ⟨fun q hq=>?_,jfY hp hc _ ih.2⟩
  rcases List.mem_append.1 hq with z|z
  ·exact ih.1 q z
  ·rw [List.mem_singleton] at z;rw [z];exact hp
 | @win pre w p _ hp hc hl hr ih=>
  have hvw:∀p∈w,p.ok:=fun q hq=>ih.1 q (List.mem_append_right _ hq)
  have hgw:=ZfY hp hc w hvw (JfY pre w ih.2) hr;refine ⟨fun q hq=>?_,?_⟩
  ·rcases List.mem_append.1 hq with z|z
   ·exact ih.1 q z
   ·rw [List.mem_singleton] at z;rw [z];exact hp
  ·rw [List.append_assoc];rcases hl with rfl|hl
   ·exact hgw
   ·exact zfZ pre w ih.2 hl hgw
theorem jgh {ps:List Pi} (h:Built ps):RD (txs ps) (zdm ps):=zfe ps (Jcf h).1 (Jcf h).2
theorem JhH (hpos:∀w:List UInt8,w≠[]→1≤(JK w).2):∀(f:Nat) (u:List UInt8) (p:Nat) (L:List Tok),(u.drop (Jat u)).length≤f→(RD u L↔(jgc f (u.drop (Jat u)) p).map (·.1)=L)
 | 0,u,p,L,hl=>by
  have h0:u.drop (Jat u)=[]:=List.length_eq_zero_iff.1 (by omega)
  constructor
  ·intro h;cases h with
   | nil _=>rfl
   | cons h1 _=>exact absurd h0 h1
  ·intro h;have h:[]=L:=h;rw [←h];exact .nil h0
 | f+1,u,p,L,hl=>by
  cases hw:u.drop (Jat u) with
  | nil=>
   constructor
   ·intro h;cases h with
    | nil _=>rfl
    | cons h1 _=>exact absurd hw h1
   ·intro h;have h:[]=L:=h;rw [←h];exact .nil hw
  | cons c w=>
   rw [hw] at hl;have hp:=hpos (c::w) (by simp)
   have ih:=JhH hpos f ((c::w).drop (JK (c::w)).2) (p+(JK (c::w)).2+Jat ((c::w).drop (JK (c::w)).2));have hdd:(c::w).drop ((JK (c::w)).2+Jat ((c::w).drop (JK (c::w)).2))=((c::w).drop (JK (c::w)).2).drop (Jat ((c::w).drop (JK (c::w)).2)):=(List.drop_drop ..).symm;have hlen:(((c::w).drop (JK (c::w)).2).drop (Jat ((c::w).drop (JK (c::w)).2))).length≤f:=by
    rw [List.length_drop,List.length_drop];omega
   unfold jgc;rw [List.map_cons,hdd];constructor
   ·intro h;cases h with
    | nil h=>rw [hw] at h;cases h
    | cons h1 h2=>
     rw [hw] at h2 ⊢;rw [(ih _ hlen).1 h2]
   ·intro h;rw [←h];have h2:=(ih _ hlen).2 rfl;have h3:RD u ((JK (u.drop (Jat u))).1::_):=.cons (by rw [hw];simp) (by rw [hw];exact h2)
    rw [hw] at h3;exact h3
theorem ZgZ (hpos:∀w:List UInt8,w≠[]→1≤(JK w).2) (u:List UInt8) (L:List Tok):RD u L↔(Jgi u).map (·.1)=L:=
 JhH hpos u.length u (Jat u) L (by rw [List.length_drop];omega)
theorem jcA:∀a b:List Tok,Ja6 a b=true→a=b
 | [],[],_=>rfl
 | [],_::_,h=>by cases h
 | _::_,[],h=>by cases h
 | a::x,b::y,h=>by
  unfold Ja6 at h;simp only [Bool.and_eq_true] at h;rw [Zef h.1,jcA x y h.2]
theorem ZiB (hpos:∀w:List UInt8,w≠[]→1≤(JK w).2) {s:List UInt8} {l:List Tok} (hs:∀c∈s,okB c) (h:asM s l=true):RD s l:=by
 unfold asM Ze7 at h;rw [zdV s hs] at h;by_cases q1:4000<s.length
 ·rw [if_pos q1] at h;cases h
 ·rw [if_neg q1] at h;by_cases q2:1500<(Jgi s).length
  ·rw [if_pos q2] at h;cases h
  ·rw [if_neg q2] at h;exact (ZgZ hpos s l).2 (jcA _ _ h)
theorem Zhv (hpos:∀w:List UInt8,w≠[]→1≤(JK w).2) {s:List UInt8} {l:List Tok} (hs:∀c∈s,okB c) (hl:s.length≤4000) (hn:l.length≤1500) (h:RD s l):Ze7 s=some l:=by
 have e:=(ZgZ hpos s l).1 h;unfold Ze7;rw [zdV s hs,if_neg (by omega),if_neg ?_,e]
 have:(Jgi s).length=l.length:=by rw [←e,List.length_map]
 omega
end Go.Proofs.YtmnegokadegioaaGreatDoor
set_option linter.unusedVariables false
set_option linter.unusedSimpArgs false
namespace Go.Proofs.YtmnegokadegioaaGreatDoor
open Go.Vm Go.Sx Go.RowKit
theorem zhI {w:List UInt8} (h:I.AllDg w):∀c∈w,okB c:=fun c hc=>by
 have:=Jef (h c hc);unfold okB;omega
theorem ZR {w:List UInt8} (h:∀c∈w,c≠0∧c≠12∧c≠13):∀c∈w,okB c:=fun c hc=>by
 obtain ⟨h1,h2,h3⟩:=h c hc;have hne:∀j:UInt8,c≠j→¬(c.toNat:Int)=(j.toNat:Int):=fun j h z=>h (UInt8.toNat_inj.mp (by omega))
 exact ⟨hne 0 h1,hne 12 h2,hne 13 h3⟩
theorem JP {a b:List UInt8} (ha:∀c∈a,okB c) (hb:∀c∈b,okB c):∀c∈a++b,okB c:=fun c hc=>(List.mem_append.1 hc).elim (ha c) (hb c)
theorem jeI (n:Int) (f:Bool):∀c∈J6 n f,okB c:=by
 unfold J6;refine JP ?_ (JP (zhI (I.dec_ok _).1) ?_)
 ·split
  ·exact ZR (by decide)
  ·exact fun c hc=>(by cases hc)
 ·cases f with
  | true=>exact fun c hc=>(by cases hc)
  | false=>exact JP (a:=[46]) (ZR (by decide)) (zhI (I.fr_ok (Nat.mod_lt _ (by decide))).1)
theorem Zdr:∀t:List UInt8,(0:UInt8)∉t→∀c∈Zcl t,okB c
 | [],_=>fun c hc=>(by cases hc)
 | a::t,h0=>by
  unfold Zcl;refine JP ?_ (Zdr t fun z=>h0 (List.mem_cons_of_mem _ z))
  split
  ·exact jfG a
  ·rename_i q;simp only [List.mem_cons,List.not_mem_nil,or_false,not_or] at q;refine ZR fun c hc=>?_
   rw [List.mem_singleton] at hc;rw [hc];exact ⟨fun z=>h0 (by rw [z];exact List.mem_cons_self ..),q.2.1,q.2.2.1⟩
theorem jfZ:∀t:List UInt8,∀c∈zcx t,okB c
 | []=>fun c hc=>(by cases hc)
 | a::t=>by
  unfold zcx;refine JP ?_ (jfZ t);split
  ·exact jfG a
  ·rename_i q;intro c hc;rw [List.mem_singleton] at hc;rw [hc];have:¬a.toNat≤32:=fun z=>q (.inl z)
   unfold okB;omega
theorem jbM (a:List UInt8):∀c∈Jac a,okB c:=jdV _ a 0
theorem jhI {T:List Tok} {X:List UInt8} (hp:Pc T X):∀c∈X,okB c:=by
 cases hp with
 | one t hc h1 h2=>
  cases hc with
  | ident a ha h0=>exact jbM a
  | func a ha h0=>exact JP (jbM a) (ZR (by decide))
  | atk a ha h0=>exact JP (a:=[64]) (ZR (by decide)) (jbM a)
  | hash a f ha h0 hf=>
   cases f with
   | true=>exact JP (a:=[35]) (ZR (by decide)) (jbM a)
   | false=>exact JP (a:=[35]) (ZR (by decide)) (jdV _ a 0)
  | str a h0=>exact JP (a:=[34]) (ZR (by decide)) (JP (Zdr a h0) (ZR (by decide)))
  | url a h0=>exact JP (a:=[117,114,108,40]) (ZR (by decide)) (JP (jfZ a) (ZR (by decide)))
  | del c hc h0=>
   refine ZR fun b hb=>?_
   rw [show b=c from List.mem_singleton.1 hb]
   exact ⟨h0,hc.z.1,hc.z.2⟩
  | num n f hn=>exact jeI n f
  | pct n hn=>exact JP (jeI n _) (ZR (by decide))
  | dim n u f hn hu h0=>
   refine JP (jeI n f) ?_;unfold zag;split
   ·exact jdV _ u 0
   ·exact jbM u
  | sp=>exact ZR (w:=[32]) (by decide)
  | cdo=>exact ZR (w:=[60,33,45,45]) (by decide)
  | cdc=>exact ZR (w:=[45,45,62]) (by decide)
  | mark k hk=>
   rw [JcM hk];obtain ⟨n,rfl⟩:∃n:Nat,k=16+(n:Int):=⟨(k-16).toNat,by omega⟩
   have key:∀n:Nat,n<9→marksT.getD n 0≠0∧marksT.getD n 0≠12∧marksT.getD n 0≠13:=by decide +kernel
   rw [show (16+(n:Int)-16).toNat=n by omega]
   refine ZR fun b hb=>?_
   rw [List.mem_singleton.1 hb];exact key n (by omega)
 | bs=>exact ZR (by decide)
 | uf a s ha h0 hu hs=>exact JP (JP (jbM a) (ZR (by decide))) (JP (a:=[34]) (ZR (by decide)) (JP (Zdr s hs) (ZR (by decide))))
 | ufs a s ha h0 hu hs=>exact JP (JP (jbM a) (ZR (by decide))) (JP (a:=[32,34]) (ZR (by decide)) (JP (Zdr s hs) (ZR (by decide))))
theorem zfJ:∀ps:List Pi,(∀p∈ps,p.ok)→∀c∈txs ps,okB c
 | [],_=>fun c hc=>(by cases hc)
 | p::ps,h=>by
  rw [zbM];refine JP ?_ (zfJ ps fun q hq=>h q (List.mem_cons_of_mem _ hq))
  unfold Pi.tx;refine JP ?_ (jhI (h p (List.mem_cons_self ..)));split
  ·exact ZR (by decide)
  ·exact fun c hc=>(by cases hc)
theorem jfe:∀(i:Nat) (l:List Tok),Jcn l=true→Jcn (l.drop i)=true
 | 0,l,h=>h
 | i+1,[],h=>h
 | i+1,t::l,h=>by
  unfold Jcn at h;simp only [Bool.and_eq_true] at h;exact jfe i l h.2.2
theorem JiB {t:Tok} (h:zcm t=true) (k:t.kind=13):t=tk 13:=by
 cases jfd h with
 | sp=>rfl
 | mark j hj=>have k:j=13:=k;omega
 | _=>simp [tk] at k
theorem Ji8 {t:Tok} (h:zcm t=true) (k:t.kind=5):∃s,t=tk 5 s∧(0:UInt8)∉s:=by
 cases jfd h with
 | str a h0=>exact ⟨a,rfl,h0⟩
 | mark j hj=>have k:j=5:=k;omega
 | _=>simp [tk] at k
theorem jjf {t:Tok} (h:zcm t=true) (k:t.kind=2):∃a,t=tk 2 a∧a≠[]∧(0:UInt8)∉a:=by
 cases jfd h with
 | func a ha h0=>exact ⟨a,rfl,ha,h0⟩
 | mark j hj=>have k:j=2:=k;omega
 | _=>simp [tk] at k
theorem Zjf {t:Tok} (h:zcm t=true) (hb:Jbx t=true):t=tk 9 [92]:=by
 unfold Jbx at hb;simp only [Bool.and_eq_true,decide_eq_true_eq,beq_iff_eq] at hb;obtain ⟨k,e⟩:=hb;cases jfd h with
 | del c hc h0=>have e:[c]=[92]:=e;rw [e]
 | mark j hj=>have k:j=9:=k;omega
 | _=>simp [tk] at k
theorem jcN (t:Tok) (l:List Tok):JeJ (t::l)=if Jbx t then 2 else if jcz t then 1+(l.takeWhile fun t=>decide (t.kind≠5)).length+1 else 1:=rfl
theorem JdX (t:Tok) (l:List Tok):je7 (t::l)=if Jbx t then [92,10] else (t::l).flatMap tokT:=rfl
theorem Jhv {t:Tok} {l:List Tok} (h:Jcn (t::l)=true):Pc ((t::l).take (JeJ (t::l))) (je7 ((t::l).take (JeJ (t::l))))∧((t::l).take (JeJ (t::l))).length=JeJ (t::l)∧1≤JeJ (t::l):=by
 unfold Jcn at h;simp only [Bool.and_eq_true] at h;obtain ⟨hc,hf,hl⟩:=h;cases hb:Jbx t with
 | true=>
  have e:=Zjf hc hb;unfold ZeB at hf;rw [hb,if_pos rfl] at hf;cases l with
  | nil=>cases hf
  | cons s l=>
   unfold Jcn at hl;simp only [Bool.and_eq_true] at hl;have hs:=JiB hl.1 (by unfold swK at hf;simpa using hf)
   have hn:JeJ (t::s::l)=2:=by rw [jcN,hb];rfl
   rw [hn,e,hs];exact ⟨.bs,rfl,by decide⟩
 | false=>
  cases hu:jcz t with
  | false=>
   have hn:JeJ (t::l)=1:=by rw [jcN,hb,hu];rfl
   rw [hn];have hp:je7 [t]=tokT t:=by rw [JdX,hb,if_neg (by decide)];simp
   show Pc [t] (je7 [t])∧_;rw [hp];exact ⟨.one t (jfd hc) hb hu,rfl,Nat.le_refl _⟩
  | true=>
   have hk:t.kind=2:=by unfold jcz at hu;simp only [Bool.and_eq_true,decide_eq_true_eq] at hu;exact hu.1
   have ha:Z6 t.text [117,114,108]=true:=by unfold jcz at hu;simp only [Bool.and_eq_true,decide_eq_true_eq] at hu;exact hu.2
   obtain ⟨a,rfl,ha0,h0⟩:=jjf hc hk;unfold ZeB at hf;rw [hb,if_neg (by decide),hu,if_pos rfl] at hf
   cases l with
   | nil=>cases hf
   | cons s l=>
    have hl2:=hl;unfold Jcn at hl2;simp only [Bool.and_eq_true] at hl2;by_cases k13:s.kind=13
    ·have hs:=JiB hl2.1 k13;rw [show swK (s::l) 13=true by unfold swK;simp [k13],if_pos rfl,List.tail_cons] at hf
     cases l with
     | nil=>cases hf
     | cons r l=>
      have k5:r.kind=5:=by unfold swK at hf;simpa using hf
      have hl3:=hl2.2.2;unfold Jcn at hl3;simp only [Bool.and_eq_true] at hl3;obtain ⟨x,rfl,hx⟩:=Ji8 hl3.1 k5;subst hs;have hn:JeJ (tk 2 a::tk 13::tk 5 x::l)=3:=by
       rw [jcN,hb,hu];rfl
      rw [hn];refine ⟨?_,rfl,by decide⟩
      have hp:je7 [tk 2 a,tk 13,tk 5 x]=Jac a++[40]++(32::34::(Zcl x++[34])):=by
       rw [JdX,hb,if_neg (by decide)]
       show tokT (tk 2 a)++(tokT (tk 13)++(tokT (tk 5 x)++[]))=_;rw [List.append_nil];rfl
      show Pc [tk 2 a,tk 13,tk 5 x] (je7 [tk 2 a,tk 13,tk 5 x]);rw [hp];exact .ufs a x ha0 h0 ha hx
    ·rw [show swK (s::l) 13=false by unfold swK;simp [k13],if_neg (by decide)] at hf
     have k5:s.kind=5:=by unfold swK at hf;simpa using hf
     obtain ⟨x,rfl,hx⟩:=Ji8 hl2.1 k5;have hn:JeJ (tk 2 a::tk 5 x::l)=2:=by
      rw [jcN,hb,hu];rfl
     rw [hn];refine ⟨?_,rfl,by decide⟩
     have hp:je7 [tk 2 a,tk 5 x]=Jac a++[40]++(34::(Zcl x++[34])):=by
      rw [JdX,hb,if_neg (by decide)]
      show tokT (tk 2 a)++(tokT (tk 5 x)++[])=_;rw [List.append_nil];rfl
     show Pc [tk 2 a,tk 5 x] (je7 [tk 2 a,tk 5 x]);rw [hp];exact .uf a x ha0 h0 ha hx
def zhw:List Pi→List (Nat×Nat)
 | []=>[]
 | p::r=>((txs r.reverse).length,(zdm r.reverse).length)::zhw r
theorem JgZ {p:Pi} (h:p.ok):1≤p.tx.length:=by
 have:=List.length_pos_iff.2 (zic h).1;unfold Pi.tx;rw [List.length_append];omega
theorem ziC (p:Pi) (r:List Pi) (hv:∀q∈r.reverse,q.ok):∃pre w,r.reverse=pre++w∧((zhw (p::r)).take 4).getLastD (0,0)=((txs pre).length,(zdm pre).length)∧(pre=[]∨3≤(txs w).length):=by
 rcases r with _|⟨a,_|⟨b,_|⟨c,r⟩⟩⟩
 ·exact ⟨[],[],rfl,rfl,.inl rfl⟩
 ·exact ⟨[],[a],rfl,rfl,.inl rfl⟩
 ·exact ⟨[],[b,a],rfl,rfl,.inl rfl⟩
 ·refine ⟨r.reverse,[c,b,a],by simp,rfl,.inr ?_⟩
  have h1:=JgZ (hv a (by simp))
  have h2:=JgZ (hv b (by simp))
  have h3:=JgZ (hv c (by simp))
  rw [zbM,zbM,zeI,List.length_append,List.length_append];omega
theorem ZfZ (hpos:∀w:List UInt8,w≠[]→1≤(JK w).2) (l:List Tok) (hl:Jcn l=true):∀(f:Nat) (r:List Pi) (i:Nat) (s:List UInt8),Built r.reverse→zdm r.reverse=l.take i→i≤l.length→l.length-i<f→(txs r.reverse).length≤4000→
  wrM l f (txs r.reverse) (zhw r) i=(s,0)→∃ps,Built ps∧s=txs ps∧zdm ps=l∧s.length≤4000
 | 0,r,i,s,_,_,_,hf,_,_=>absurd hf (by omega)
 | f+1,r,i,s,hB,hT,hi,hf,h4,h=>by
  unfold wrM at h;by_cases q:l.length≤i
  ·rw [if_pos q] at h;have hs:txs r.reverse=s:=congrArg Prod.fst h;exact ⟨r.reverse,hB,hs.symm,by rw [hT,List.take_of_length_le q],by rw [←hs];exact h4⟩
  rw [if_neg q] at h;obtain ⟨t,l',hd⟩:=List.exists_cons_of_ne_nil (show l.drop i≠[] from fun z=>by
   have:=congrArg List.length z;rw [List.length_drop,List.length_nil] at this;omega)
  obtain ⟨hpc,hpl,hp1⟩:=Jhv (by rw [←hd];exact jfe i l hl:Jcn (t::l')=true)
  rw [←hd] at hpc hpl hp1;generalize hn:JeJ (l.drop i)=n at h hpc hpl hp1;dsimp only at h;rw [show i+n-i=n by omega] at h
  generalize hTt:(l.drop i).take n=T at h hpc hpl;generalize hX:je7 T=X at h hpc;have hin:i+n≤l.length:=by
   have:((l.drop i).take n).length≤(l.drop i).length:=by rw [List.length_take];omega
   rw [hTt,hpl,List.length_drop] at this;omega
  have htk:l.take (i+n)=zdm r.reverse++T:=by rw [List.take_add,hT,hTt]
  obtain ⟨hv,-⟩:=Jcf hB;obtain ⟨pre,w,e1,e2,e3⟩:=ziC ⟨T,X,false⟩ r hv;have e2:((((txs r.reverse).length,i)::zhw r).take 4).getLastD (0,0)=((txs pre).length,(zdm pre).length):=by
   rw [←e2];show _=((((txs r.reverse).length,(zdm r.reverse).length)::zhw r).take 4).getLastD (0,0);rw [hT,List.length_take,Nat.min_eq_left hi]
  rw [e2] at h;dsimp only at h;have hw1:(txs r.reverse++X).drop (txs pre).length=txs w++X:=by
   rw [e1,Jc6,List.append_assoc,List.drop_left]
  have hw2:(l.drop (zdm pre).length).take (i+n-(zdm pre).length)=zdm w++T:=by
   rw [←List.drop_take,htk,e1,JfX,List.append_assoc,List.drop_left]
  rw [hw1,hw2] at h;have hr:∀p:Pi,p.T=T→∃r2:List Pi,r2=p::r∧zdm r2.reverse=l.take (i+n)∧zhw r2=((txs r.reverse).length,i)::zhw r:=by
   intro p hp;refine ⟨_,rfl,?_,?_⟩
   ·rw [List.reverse_cons,JfX,jhv,hp,htk]
   ·show ((txs r.reverse).length,(zdm r.reverse).length)::zhw r=_;rw [hT,List.length_take,Nat.min_eq_left hi]
  have fin:∀(p:Pi) (b2:List UInt8),p.T=T→Built (r.reverse++[p])→b2=txs r.reverse++p.tx→(if 4000<b2.length then ([],(28:Int)) else wrM l f b2 (((txs r.reverse).length,i)::zhw r) (i+n))=(s,0)→∃ps,Built ps∧s=txs ps∧zdm ps=l∧s.length≤4000:=by
   intro p b2 hp hBp hb2 hh;by_cases q4:4000<b2.length
   ·rw [if_pos q4] at hh;exact absurd (congrArg Prod.snd hh) (by show ¬(28:Int)=0;decide)
   ·rw [if_neg q4] at hh;have hx:b2=txs (p::r).reverse:=by rw [List.reverse_cons,Jc6,zeI,hb2]
    obtain ⟨r2,rfl,g1,g2⟩:=hr p hp;rw [hx,←g2] at hh;refine ZfZ hpos l hl f (p::r) (i+n) s (by rw [List.reverse_cons];exact hBp) g1 hin (by omega) (by rw [←hx];omega) hh
  by_cases qa:asM (txs w++X) (zdm w++T)=true
  ·rw [if_pos qa] at h;have hvw:∀p∈w,p.ok:=fun p hp=>hv p (by rw [e1];exact List.mem_append_right _ hp)
   have hRD:=ZiB hpos (JP (zfJ w hvw) (jhI hpc)) qa;refine fin ⟨T,X,false⟩ _ rfl ?_ rfl h;rw [e1] at hB ⊢;exact .win hB hpc rfl e3 hRD
  ·rw [if_neg qa] at h;refine fin ⟨T,X,true⟩ _ rfl (.com hB hpc rfl) ?_ h;rw [List.drop_left];rfl
theorem zg0 (hpos:∀w:List UInt8,w≠[]→1≤(JK w).2) {l:List Tok} {s:List UInt8} (h:Zgc l=(s,0)):Ze7 s=some l∧(∀c∈s,okB c):=by
 unfold Zgc at h;by_cases q:Zff l≠0
 ·rw [if_pos q] at h;exact absurd (congrArg Prod.snd h) q
 ·rw [if_neg q] at h;have q:Zff l=0:=Decidable.not_not.1 q;unfold Zff at q;by_cases q1:1500<l.length
  ·rw [if_pos q1] at q;exact absurd q (by decide)
  rw [if_neg q1] at q;cases q2:Jcn l with
  | false=>rw [q2,if_neg (by decide)] at q;exact absurd q (by decide)
  | true=>
   obtain ⟨ps,hB,rfl,hT,h4⟩:=ZfZ hpos l q2 (l.length+1) [] 0 s .nil rfl (Nat.zero_le _) (by omega) (by decide) h
   have ho:=zfJ ps (Jcf hB).1;refine ⟨Zhv hpos ho h4 (by omega) ?_,ho⟩
   rw [←hT];exact jgh hB
end Go.Proofs.YtmnegokadegioaaGreatDoor
set_option linter.unusedVariables false
set_option linter.unusedSimpArgs false
namespace Go.Proofs.YtmnegokadegioaaGreatDoor
open Go.Vm Go.Sx Go.RowKit
theorem zeh:∀l:List Tok,Ja6 l l=true
 | []=>rfl
 | t::l=>by unfold Ja6 jad;simp [zeh l]
end Go.Proofs.YtmnegokadegioaaGreatDoor
set_option linter.unusedVariables false
set_option linter.unusedSimpArgs false
namespace Go.Proofs.YtmnegokadegioaaGreatDoor
open Go.Vm Go.Sx Go.RowKit
end Go.Proofs.YtmnegokadegioaaGreatDoor
