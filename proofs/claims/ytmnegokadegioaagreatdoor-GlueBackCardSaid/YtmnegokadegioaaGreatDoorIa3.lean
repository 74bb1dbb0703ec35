/-
 A piece that is read back may end there: numbers before numbers, dimensions; the lemma for pieces. Nothing is claimed here.
-/
import Derived.Test.YtmnegokadegioaaGreatDoorIa2
set_option linter.unusedVariables false
set_option linter.unusedSimpArgs false
namespace Go.Proofs.YtmnegokadegioaaGreatDoor
open Go.Vm Go.Sx Go.RowKit
theorem zdV {e i:Int} {c:UInt8} {w:List UInt8} (h:hb (zaN e i (c::w))≠92):zaN e i (c::w)=c::zaN e (i+1) w:=by
 rcases Zag e i c w with ⟨_,_,q⟩|⟨_,q⟩
 ·exact q
 ·exfalso;obtain ⟨d,v,e2,_⟩:=za2 c;rw [q,e2] at h;exact h rfl
theorem zed {u:List UInt8} (hu:u≠[]):Zcv (zae u)=false:=by
 obtain ⟨c,w,rfl⟩:=List.exists_cons_of_ne_nil hu;unfold zae;by_cases q:JeG (c::w)=true
 ·rw [if_pos q];have e0:zaN 0 0 (c::w)=Zbm c++zaN 0 (0+1) w:=by simp [zaN]
  obtain ⟨d,v,e2,_⟩:=za2 c;rw [e0,e2];unfold Zcv;rw [show mE (hb (92::d::v++zaN 0 (0+1) w))=false from rfl]
  rfl
 ·rw [if_neg q];cases z:Zcv (Zaa (c::w)) with
  | false=>rfl
  | true=>
   exfalso;apply q;unfold Zcv at z;simp only [Bool.and_eq_true] at z;obtain ⟨z1,z2⟩:=z;unfold Zaa at z1 z2;generalize ZcL (c::w)=e at z1 z2;have r1:=zdV (e:=e) (i:=0) (c:=c) (w:=w) (fun y=>by rw [y] at z1;exact absurd z1 (by decide))
   rw [r1] at z1 z2;rw [Jd] at z1;rw [List.tail_cons] at z2;unfold JeG;rw [Jd,z1,List.tail_cons];cases w with
   | nil=>exact absurd z2 (by show ¬Zd9 []=true;decide)
   | cons s v=>
    have hs92:hb (zaN e (0+1) (s::v))≠92:=by
     intro y;unfold Zd9 at z2;rw [y,if_neg (by decide)] at z2
     exact absurd z2 (by decide)
    have r2:=zdV hs92;rw [r2] at z2;unfold Zd9 at z2;rw [Jd,List.tail_cons] at z2;by_cases k:mSg (s.toNat:Int)=true
    ·rw [if_pos k] at z2;cases v with
     | nil=>exact absurd z2 (by show ¬mD 0=true;decide)
     | cons d x=>
      have r3:=zdV (e:=e) (i:=0+1+1) (c:=d) (w:=x) (fun y=>by rw [y] at z2;exact absurd z2 (by decide))
      rw [r3,Jd] at z2;have hs:(s.toNat:Int)=45:=by
       rcases ZgU k with y|y
       ·exfalso;rcases Zag e (0+1) s (d::x) with ⟨_,y2,_⟩|⟨_,y2⟩
        ·rw [y] at y2;exact absurd y2 (by decide)
        ·obtain ⟨d2,v2,e3,_⟩:=za2 s;rw [y2,e3] at hs92;exact hs92 rfl
       ·exact y
      unfold swM;rw [Jd,hs,List.tail_cons,Jd,z2];simp
    ·rw [if_neg k] at z2;unfold swD;rw [Jd,z2];simp
theorem jed {tl:List UInt8} (h:tl=[]∨tl=[37]∨∃u,u≠[]∧(0:UInt8)∉u∧tl=zae u):mD (hb tl)=false∧jaa tl=false∧Zbb tl=(0,0):=by
 rcases h with q|q|⟨u,hu,h0,q⟩
 ·rw [q];exact ⟨by decide,by decide,rfl⟩
 ·rw [q];exact ⟨by decide,by decide,rfl⟩
 ·rw [q];have h1:=(JcJ hu h0 []).1;rw [List.append_nil] at h1;exact ⟨(zcK h1).1,(zcK h1).2.1,ZcJ (zed hu)⟩
theorem Zed {X:List UInt8} {t:Tok} (h:(Zs X).1=t) (hk:t.kind=10):JC (X.drop (ZbL X).2.2)=false∧hb (X.drop (ZbL X).2.2)≠37∧(Zs X).2=(ZbL X).2.2∧t.flag=(ZbL X).2.1:=by
 subst h;unfold Zs at hk ⊢;dsimp only at hk ⊢;cases q:JC (X.drop (ZbL X).2.2) with
 | true=>rw [q,if_pos rfl] at hk;exact absurd hk (by show ¬(12:Int)=10;decide)
 | false=>
  rw [q,if_neg (by decide)] at hk
  by_cases q2:hb (X.drop (ZbL X).2.2)=37
  ·rw [if_pos q2] at hk;exact absurd hk (by show ¬(11:Int)=10;decide)
  ·rw [if_neg (by decide),if_neg q2]
   exact ⟨rfl,q2,rfl,rfl⟩
theorem JfE (X:List UInt8):(Zs X).1.num=(ZbL X).1:=by
 unfold Zs;dsimp only;split
 ·rfl
 ·split <;> rfl
theorem JgV {tl:List UInt8} (h:tl=[]∨tl=[37]∨∃u,u≠[]∧(0:UInt8)∉u∧tl=zae u) (h1:JC tl=false) (h2:hb tl≠37):tl=[]:=by
 rcases h with q|q|⟨u,hu,h0,q⟩
 ·exact q
 ·rw [q] at h2;exact absurd rfl h2
 ·have h3:=(JcJ hu h0 []).1;rw [List.append_nil,←q,h1] at h3;cases h3
theorem JiR {n:Int} {f:Bool} {T L:List Tok} {P:List UInt8} (hn:NumOK n f) (hf:First T P) (hd:mD (hb P)=true) (hT:L=T) (h:RD (J3 n f++P) (tk 10 [] n [] f::L)):exV (tk 10 [] n [] f) P:=by
 obtain ⟨m,g,tl,hm,hP,hk⟩:=JgU hf (.inl hd);have htl:tl=[]∨tl=[37]∨∃u,u≠[]∧(0:UInt8)∉u∧tl=zae u:=by
  rcases hk with ⟨_,q⟩|⟨_,q⟩|⟨u,hu,h0,_,q⟩
  ·exact .inl q
  ·exact .inr (.inl q)
  ·exact .inr (.inr ⟨u,hu,h0,q⟩)
 obtain ⟨t1,t2,t3⟩:=jed htl;have hTm:∃t',T=[t']∧t'.num=m:=by
  rcases hk with ⟨q,_⟩|⟨q,_⟩|⟨u,_,_,q,_⟩ <;> exact ⟨_,q,rfl⟩
 obtain ⟨t',hT1,hT2⟩:=hTm;have hm0:¬m<0:=by
  intro z;rw [hP,Zab (List.length_pos_iff.2 (zaj hm))] at hd;unfold J3 at hd;rw [if_pos z] at hd;exact absurd hd (by show ¬mD 45=true;decide)
 obtain ⟨d1,d2,d3⟩:=I.dec_ok (n.natAbs / 1000);obtain ⟨f1,f2,f3,_⟩:=I.fr_ok (r:=n.natAbs%1000) (Nat.mod_lt _ (by decide))
 obtain ⟨p1,p2,p3⟩:=I.dec_ok (m.natAbs / 1000);obtain ⟨q1,q2,q3,_⟩:=I.fr_ok (r:=m.natAbs%1000) (Nat.mod_lt _ (by decide))
 have hPw:P=Lib.decDigits (m.natAbs / 1000)++((if g then [] else 46::fr3 3 (m.natAbs%1000))++tl):=by
  rw [hP];unfold J3;rw [if_neg hm0];simp
 generalize hD':Lib.decDigits (m.natAbs / 1000)=D' at p1 p2 p3 hPw;obtain ⟨-,i2,i3⟩:=Jai (ZcK (zaj hn) (Jbl hn)) h;have hcase:f=true∨f=false:=by cases f <;> simp
 rcases hcase with hft|hff
 ·exfalso;subst hft;generalize hF0:(if g then ([]:List UInt8) else fr3 3 (m.natAbs%1000))=F0
  have hF0a:I.AllDg F0:=by
   subst hF0;cases g with
   | true=>exact fun b hb=>(by cases hb)
   | false=>exact q1
  have hF0e:(if g then ([]:List UInt8) else 46::fr3 3 (m.natAbs%1000))=if F0=[] then [] else 46::F0:=by
   subst hF0;cases g with
   | true=>rfl
   | false=>simp [q2]
  have hW:I.AllDg (Lib.decDigits (n.natAbs / 1000)++D'):=fun b hb=>(List.mem_append.1 hb).elim (d1 b) (p1 b)
  have gg:=I.num_gen (W:=Lib.decDigits (n.natAbs / 1000)++D') (F:=F0) (v:=tl) (decide (n<0)) hW (by simp [d2]) hF0a t1 (fun _=>t2)
  have e:=zec n true P;simp only [if_true,List.nil_append] at e;have e2:J3 n true++P=(if decide (n<0) then [45] else [])++(Lib.decDigits (n.natAbs / 1000)++D'++((if F0=[] then [] else 46::F0)++tl)):=by
   rw [e,hPw,hF0e];simp [List.append_assoc]
  rw [←e2,t3] at gg;rw [ZaS gg.1] at i2 i3;obtain ⟨k1,k2,k3,k4⟩:=Zed i2 rfl;have hlen:(J3 n true++P).drop (ZbL (J3 n true++P)).2.2=tl:=by
   rw [gg.2];dsimp only;rw [Nat.add_zero,e2];have:∀A B C D:List UInt8,(A++(B++(C++D))).drop (A++(B++C)).length=D:=fun A B C D=>by
    rw [show A++(B++(C++D))=(A++(B++C))++D by simp,List.drop_left]
   exact this _ _ _ _
  rw [hlen] at k1 k2;rw [k3,hlen,JgV htl k1 k2,hT,hT1] at i3;have:=jcc i3;cases this
 ·subst hff;generalize hR:(if g then ([]:List UInt8) else 46::fr3 3 (m.natAbs%1000))++tl=R at hPw
  have hR1:mD (hb R)=false∧Zbb R=(0,0):=by
   subst hR;cases g with
   | true=>exact ⟨t1,t3⟩
   | false=>exact ⟨by show mD 46=false;decide,ZeE rfl⟩
  have hFa:I.AllDg (fr3 3 (n.natAbs%1000)++D'):=fun b hb=>(List.mem_append.1 hb).elim (f1 b) (p1 b)
  have hFn:fr3 3 (n.natAbs%1000)++D'≠[]:=by simp [f2]
  have gg:=I.num_gen (W:=Lib.decDigits (n.natAbs / 1000)) (F:=fr3 3 (n.natAbs%1000)++D') (v:=R) (decide (n<0)) d1 d2 hFa hR1.1 (fun z=>absurd z hFn)
  rw [if_neg hFn,hR1.2] at gg;have e:=zec n false P;simp only [Bool.false_eq_true,if_false,if_neg f2] at e;have e2:J3 n false++P=(if decide (n<0) then [45] else [])++(Lib.decDigits (n.natAbs / 1000)++(46::(fr3 3 (n.natAbs%1000)++D')++R)):=by
   rw [e,hPw];simp [List.append_assoc]
  rw [←e2] at gg;rw [ZaS gg.1] at i2 i3;obtain ⟨k1,k2,k3,k4⟩:=Zed i2 rfl;have hlen:(J3 n false++P).drop (ZbL (J3 n false++P)).2.2=R:=by
   rw [gg.2];dsimp only;rw [Nat.add_zero,e2];have:∀A B C D:List UInt8,(A++(B++(C++D))).drop (A++(B++C)).length=D:=fun A B C D=>by
    rw [show A++(B++(C++D))=(A++(B++C))++D by simp,List.drop_left]
   exact this _ _ _ _
  rw [hlen] at k1 k2;rw [k3,hlen,hT,hT1] at i3;have hgc:g=true∨g=false:=by cases g <;> simp
  rcases hgc with hg|hg
  ·exfalso;subst hg;have hRt:R=tl:=by rw [←hR];rfl
   rw [hRt] at k1 k2 i3;rw [JgV htl k1 k2] at i3;have:=jcc i3;cases this
  ·subst hg;obtain ⟨d,F'',hFF⟩:=List.exists_cons_of_ne_nil q2;have hdd:mD (d.toNat:Int)=true:=q1 d (by rw [hFF];exact List.mem_cons_self ..)
   have hRe:R=46::d::(F''++tl):=by rw [←hR,hFF];rfl
   have hc:Zax R=0:=JaM fun z=>absurd z.1 (by rw [hRe];show ¬(46:Int)=47;decide)
   have j2:=(Jai hc i3).2.1;have hsh:=zgT hdd (F''++tl);rw [←hRe] at hsh;have hr1:((m.natAbs%1000:Nat):Int).natAbs=m.natAbs%1000:=Int.natAbs_natCast _;have hN:NumOK ((m.natAbs%1000:Nat):Int) false:=⟨by omega,by omega,fun z=>by cases z⟩
   have e3:J3 ((m.natAbs%1000:Nat):Int) false++tl=48::R:=by
    unfold J3;rw [if_neg (by omega),hr1,show m.natAbs%1000 / 1000=0 by omega,show m.natAbs%1000%1000=m.natAbs%1000 by omega,Lib.decDigits_one (by decide),hRe,hFF]
    rfl
   obtain ⟨u1,u2,u3⟩:=jbg hN t1 (fun _=>t2)
   rw [t3] at u3;have u3:=u3 rfl;rw [e3] at u1 u3;have j3:(jK (48::R)).1.num=((m.natAbs%1000:Nat):Int):=by rw [ZaS u1,JfE,u3]
   rw [hsh] at j3;have j4:(jK R).1.num=m:=by rw [j2,hT2]
   have j5:m.natAbs / 1000=0:=by
    have:(jK R).1.num=((m.natAbs%1000:Nat):Int):=j3;omega
   refine ⟨rfl,rfl,d,F''++tl,hdd,?_⟩;rw [hPw,←hD',j5,Lib.decDigits_one (by decide),hRe]
   rfl
theorem ziS {n:Int} {f:Bool} {u U P:List UInt8} {T L:List Tok} (hn:NumOK n f) (hu:u≠[]) (h0:(0:UInt8)∉u) (hf:First T P) (hU:Zcv (zae u++U)=false) (he:Zcv (zae u++(U++P))=true) (hL:L≠[]) (h:RD (J3 n f++zae u++(U++P)) (tk 12 [] n u f::L)):False:=by
 have hune:zae u≠[]:=fun z=>by
  have:=(JcJ hu h0 []).1;rw [z] at this;exact absurd this (by decide)
 obtain ⟨y,Y,hY⟩:=List.exists_cons_of_ne_nil (show zae u++U≠[] by simp [hune])
 rw [←List.append_assoc,hY] at he;rw [hY] at hU;have hl:Y.length≤1:=by
  rcases Nat.lt_or_ge Y.length 2 with q|q
  ·omega
  ·rw [jfU (by rw [List.length_cons];omega),hU] at he;cases he
 have hy:mE (y.toNat:Int)=true:=by unfold Zcv at he;simp only [Bool.and_eq_true] at he;exact he.1
 have he2:Zd9 (Y++P)=true:=by unfold Zcv at he;simp only [Bool.and_eq_true] at he;exact he.2
 have hU2:Zd9 Y=false:=by unfold Zcv at hU;rw [Jd,hy] at hU;exact hU
 have key:∃S:List UInt8,(S=[]∨(∃s:UInt8,S=[s]∧mSg (s.toNat:Int)=true))∧(mD (hb P)=true∨(S=[]∧mSg (hb P)=true∧mD (hb P.tail)=true))∧Y=S:=by
  cases Y with
  | nil=>
   refine ⟨[],.inl rfl,?_,rfl⟩;rw [List.nil_append] at he2;unfold Zd9 at he2;by_cases q:mSg (hb P)=true
   ·rw [if_pos q] at he2;exact .inr ⟨rfl,q,he2⟩
   ·rw [if_neg q] at he2;exact .inl he2
  | cons s Y=>
   have:Y=[]:=by rw [List.length_cons] at hl;exact List.length_eq_zero_iff.1 (by omega)
   subst this;refine ⟨[s],.inr ⟨s,rfl,?_⟩,?_,rfl⟩
   ·cases q:mSg (s.toNat:Int) with
    | true=>rfl
    | false=>
     unfold Zd9 at he2 hU2;rw [List.cons_append,Jd,q,if_neg (by decide)] at he2
     rw [Jd,q,if_neg (by decide),he2] at hU2
     cases hU2
   ·left;unfold Zd9 at he2 hU2;rw [List.cons_append,Jd,List.tail_cons,List.nil_append] at he2;rw [Jd] at hU2;split at he2
    ·exact he2
    ·rename_i q;rw [if_neg q,he2] at hU2;cases hU2
 obtain ⟨S,hS,hP0,rfl⟩:=key;obtain ⟨m,g,tl,hm,hP,hk⟩:=JgU hf (hP0.imp id (·.2));have htl:tl=[]∨tl=[37]∨∃u,u≠[]∧(0:UInt8)∉u∧tl=zae u:=by
  rcases hk with ⟨_,q⟩|⟨_,q⟩|⟨u,hu,h0,_,q⟩
  ·exact .inl q
  ·exact .inr (.inl q)
  ·exact .inr (.inr ⟨u,hu,h0,q⟩)
 obtain ⟨t1,t2,t3⟩:=jed htl;obtain ⟨p1,p2,p3⟩:=I.dec_ok (m.natAbs / 1000);obtain ⟨q1,q2,q3,_⟩:=I.fr_ok (r:=m.natAbs%1000) (Nat.mod_lt _ (by decide))
 have hPw:P=(if m<0 then [45] else [])++(Lib.decDigits (m.natAbs / 1000)++((if g then [] else 46::fr3 3 (m.natAbs%1000))++tl)):=by
  rw [hP];unfold J3;simp
 generalize hR:(if g then ([]:List UInt8) else 46::fr3 3 (m.natAbs%1000))++tl=R at hPw
 have hR1:mD (hb R)=false:=by
  subst hR;cases g with
  | true=>exact t1
  | false=>show mD 46=false;decide
 generalize hD':Lib.decDigits (m.natAbs / 1000)=D' at p1 p2 p3 hPw;obtain ⟨d,D2,hDc⟩:=List.exists_cons_of_ne_nil p2;have hdd:mD (d.toNat:Int)=true:=p1 d (by rw [hDc];exact List.mem_cons_self ..)
 have hm2:=I.mD_not hdd;have hexp:((y::Y)++P).drop (Zbb ((y::Y)++P)).2=R:=by
  have hx:(Zbb (y::(Y++P))).2=(if mSg (hb (Y++P)) then 2 else 1)+(JE (if mSg (hb (Y++P)) then (Y++P).tail else (Y++P))).length:=by
   unfold Zbb;rw [if_pos (by rw [Jd,List.tail_cons,hy,he2];rfl)]
   rfl
  rw [List.cons_append,hx];have done:∀Z:List UInt8,(∃s,Z=s::(D'++R)∧mSg (s.toNat:Int)=true)∨Z=D'++R→(y::Z).drop ((if mSg (hb Z) then 2 else 1)+(JE (if mSg (hb Z) then Z.tail else Z)).length)=R:=by
   intro Z hZ;rcases hZ with ⟨s,rfl,hs⟩|rfl
   ·rw [Jd,if_pos hs,if_pos hs,List.tail_cons,I.digs_app p1 hR1,show 2+D'.length=D'.length+1+1 by omega,List.drop_succ_cons,List.drop_succ_cons,List.drop_left]
   ·have:mSg (hb (D'++R))=false:=by rw [hDc,List.cons_append,Jd];exact hm2.1
    rw [this,if_neg (by decide),if_neg (by decide),I.digs_app p1 hR1,show 1+D'.length=D'.length+1 by omega,List.drop_succ_cons,List.drop_left]
  apply done;rcases hS with rfl|⟨s,rfl,hs⟩
  ·rw [List.nil_append,hPw];by_cases q:m<0
   ·rw [if_pos q];exact .inl ⟨45,rfl,by decide⟩
   ·rw [if_neg q];exact .inr rfl
  ·have hmn:¬m<0:=by
    intro z;rcases hP0 with q|⟨q,_⟩
    ·rw [hPw,if_pos z] at q;exact absurd q (by show ¬mD 45=true;decide)
    ·cases q
   rw [hPw,if_neg hmn];exact .inl ⟨s,rfl,hs⟩
 have hX:J3 n f++zae u++(U++P)=J3 n f++((y::Y)++P):=by
  rw [←hY];simp [List.append_assoc]
 rw [hX] at h;have hv1:mD (hb ((y::Y)++P))=false:=by
  rw [List.cons_append,Jd];rcases Jhq hy with q|q <;> rw [q] <;> decide
 have hv2:jaa ((y::Y)++P)=false:=by
  unfold jaa;rw [List.cons_append,Jd];rcases Jhq hy with q|q <;> rw [q] <;> rfl
 obtain ⟨g1,g2,g3⟩:=jbg hn hv1 (fun _=>hv2)
 obtain ⟨-,i2,i3⟩:=Jai (ZcK (zaj hn) (Jbl hn)) h;have hdrop:(J3 n f++((y::Y)++P)).drop (ZbL (J3 n f++((y::Y)++P))).2.2=R:=by
  rw [g2];dsimp only;rw [←List.drop_drop,List.drop_left,hexp]
 rw [ZaS g1] at i2 i3;have hk12:(Zs (J3 n f++((y::Y)++P))).1.kind=12:=by rw [i2];rfl
 have hr:JC R=true∧(Zs (J3 n f++((y::Y)++P))).2=(ZbL (J3 n f++((y::Y)++P))).2.2+(Zo R).2:=by
  unfold Zs at hk12 ⊢;dsimp only at hk12 ⊢;rw [hdrop] at hk12 ⊢;cases q:JC R with
  | true=>exact ⟨rfl,by rw [if_pos rfl]⟩
  | false=>
   rw [q,if_neg (by decide)] at hk12
   split at hk12
   ·exact absurd hk12 (by show ¬(11:Int)=12;decide)
   ·exact absurd hk12 (by show ¬(10:Int)=12;decide)
 have hall:R.drop (Zo R).2=[]:=by
  have hrn:=hr.1;have hg:g=true:=by
   cases g with
   | true=>rfl
   | false=>rw [←hR] at hrn;have h9:JC (46::(fr3 3 (m.natAbs%1000)++tl))=true:=hrn;rw [show JC (46::(fr3 3 (m.natAbs%1000)++tl))=false from rfl] at h9;cases h9
  subst hg;have hRt:R=tl:=by rw [←hR];rfl
  rw [hRt] at hrn ⊢;rcases htl with q|q|⟨u',hu',h0',q⟩
  ·rw [q] at hrn;exact absurd hrn (by decide)
  ·rw [q] at hrn;exact absurd hrn (by decide)
  ·have h3:=(JcJ hu' h0' []).2;rw [List.append_nil] at h3;rw [q,h3];simp [Zo]
 rw [hr.2,←List.drop_drop,hdrop,hall] at i3;exact hL (jcc i3)
theorem jiS {T T' L:List Tok} {X U P:List UInt8} (hp:Pc T X) (hp':Pc T' P) (hU:stP T U) (hL:L≠[]) (hL2:U=[]→L=T') (h:RD (X++(U++P)) (T++L)):stP T (U++P):=by
 have hf:=jhq hp';cases hp with
 | one t hc h1 h2=>
  rw [ZfE] at hU ⊢;cases hc with
  | ident a ha h0=>
   exact Zhn ha h0 (Jai (ZcK (JdT ha) (Jfa ha)) h).2.1
  | func a ha h0=>exact trivial
  | atk a ha h0=>exact JiQ ha h0 (Jai (ZcK (X:=64::Zaa a) (by simp) (by show ¬(64:Int)=47;decide)) h).2.1
  | hash a f ha h0 hf=>exact Jh4 ha h0 (Jai (ZcK (X:=JcG a f) (by simp [JcG]) (by show ¬(35:Int)=47;decide)) h).2.1
  | str a h0=>exact trivial
  | url a h0=>exact trivial
  | del c hc h0=>
   intro b hb;have hb:[c]=[b]:=hb;injection hb with hb _
   subst hb;exact Jh8 hc hf (hU c rfl) h
  | num n f hn=>
   have hU:jgd f U∨exV (tk 10 [] n [] f) U:=hU;show jgd f (U++P)∨exV (tk 10 [] n [] f) (U++P);rcases hU with hU|hU
   ·cases U with
    | cons b U=>
     left;obtain ⟨u1,u2,u3,u4⟩:=hU;refine ZhD hn u1 ?_ (Jai (ZcK (zaj hn) (Jbl hn)) h).2.1;cases q:Zcv (b::U++P) with
     | false=>rfl
     | true=>
      have:mE (hb (b::U))=true:=by unfold Zcv at q;simp only [Bool.and_eq_true] at q;exact q.1
      rw [jeE this] at u3;cases u3
    | nil=>
     rw [List.nil_append] at h ⊢;cases q:Zcv P with
     | true=>exact (ZiR hn hf q (hL2 rfl) h).elim
     | false=>
      cases q2:mD (hb P) with
      | true=>exact .inr (JiR hn hf q2 (hL2 rfl) h)
      | false=>exact .inl (ZhD hn q2 q (Jai (ZcK (zaj hn) (Jbl hn)) h).2.1)
   ·exact .inr (jfE _ hU)
  | pct n hn=>exact trivial
  | dim n u f hn hu h0=>
   have hU:Zgd u U:=hU;show Zgd u (U++P);cases q:Zcv (zae u++(U++P)) with
   | true=>exact (ziS hn hu h0 hf hU.2 q hL h).elim
   | false=>exact Ziv hn hu h0 q (Jai (ZcK (X:=J3 n f++zae u) (by simp [zaj hn]) (zdb (zaj hn) (Jbl hn))) h).2.1
  | sp=>exact ziw hf hU hL 32 (.inl rfl) h
  | cdo=>exact trivial
  | cdc=>exact trivial
  | mark k hk=>
   have e:∀j:Int,j<16→(tk k).kind≠j:=fun j hj=>by show k≠j;omega
   unfold stM;rw [if_neg (e 1 (by decide)),if_neg (e 3 (by decide)),if_neg (e 4 (by decide)),if_neg (e 9 (by decide)),if_neg (e 10 (by decide)),if_neg (e 12 (by decide)),if_neg (e 13 (by decide))]
   trivial
 | bs=>
  rw [JgT] at hU ⊢;have h:RD ([92]++(10::(U++P))) (tk 9 [92]::tk 13::L):=h;rw [Zbl (by simp) (by show ¬(92:Int)=47;decide) (zhE _)] at h
  exact ziw hf hU hL 10 (.inr rfl) h
 | uf a s ha h0 hu hs=>exact ⟨fun t e=>(by cases e),fun t e=>(by cases e)⟩
 | ufs a s ha h0 hu hs=>exact ⟨fun t e=>(by cases e),fun t e=>(by cases e)⟩
end Go.Proofs.YtmnegokadegioaaGreatDoor
set_option linter.unusedVariables false
set_option linter.unusedSimpArgs false
namespace Go.Proofs.YtmnegokadegioaaGreatDoor
open Go.Vm Go.Sx Go.RowKit
structure Pi where
 T:List Tok
 X:List UInt8
 c:Bool
def Pi.ok (p:Pi):Prop:=Pc p.T p.X
def Pi.tx (p:Pi):List UInt8:=(if p.c then [47,42,42,47] else [])++p.X
def txs (ps:List Pi):List UInt8:=ps.flatMap Pi.tx
def jdk (ps:List Pi):List Tok:=ps.flatMap Pi.T
theorem jbJ (p:Pi) (ps:List Pi):txs (p::ps)=p.tx++txs ps:=List.flatMap_cons
theorem jdV (p:Pi) (ps:List Pi):jdk (p::ps)=p.T++jdk ps:=List.flatMap_cons
theorem jc4 (a b:List Pi):txs (a++b)=txs a++txs b:=List.flatMap_append
theorem zfV (a b:List Pi):jdk (a++b)=jdk a++jdk b:=List.flatMap_append
theorem zeF (p:Pi):txs [p]=p.tx:=by rw [jbJ];exact List.append_nil _
theorem zhr (p:Pi):jdk [p]=p.T:=by rw [jdV];exact List.append_nil _
def jgg:List Pi→Prop
 | []=>True
 | q::qs=>stP q.T (txs qs)∧jgg qs
theorem Ziw {p:Pi} {V:List UInt8} {L:List Tok}:RD (p.tx++V) L↔RD (p.X++V) L:=by
 unfold Pi.tx;cases p.c with
 | true=>
  rw [if_pos rfl,List.append_assoc];exact Jiv
 | false=>exact Iff.rfl
theorem zfb:∀qs:List Pi,(∀p∈qs,p.ok)→jgg qs→RD (txs qs) (jdk qs)
 | [],_,_=>.nil (by simp [txs])
 | q::qs,hv,hg=>by
  rw [jbJ,jdV,Ziw,jgU (hv q (List.mem_cons_self ..)) hg.1];exact zfb qs (fun p hp=>hv p (List.mem_cons_of_mem _ hp)) hg.2
theorem jfV {T:List Tok} {X:List UInt8} (hp:Pc T X):stP T []:=by
 cases hp with
 | one t hc h1 h2=>
  rw [ZfE];cases hc with
  | ident a ha h0=>exact ⟨by decide,by decide,fun z=>absurd z.2 (by decide)⟩
  | func a ha h0=>exact trivial
  | atk a ha h0=>show jH []=false;decide
  | hash a f ha h0 hf=>show jH []=false;decide
  | str a h0=>exact trivial
  | url a h0=>exact trivial
  | del c hc h0=>
   intro b hbb;have hbb:[c]=[b]:=hbb;injection hbb with hbb _
   subst hbb;have h92:¬(c.toNat:Int)=92:=by
    intro z;have:c=92:=UInt8.toNat_inj.mp (by show c.toNat=92;omega)
    subst this;exact absurd h1 (by decide)
   refine ⟨fun z=>absurd z.2 (by decide),?_,by simp [List.isPrefixOf],by simp [List.isPrefixOf],fun z=>absurd z.2 (by decide),?_,fun z=>absurd z.2 (by decide)⟩
   ·unfold jbm;rw [Jd,hc.d];have:jaa [c]=false:=by unfold jaa;rw [List.tail_cons,show mD (hb [])=false by decide,Bool.and_false]
    rw [this];rw [show mD (hb [c].tail)=false from by show mD 0=false;decide,show jaa [c].tail=false from rfl]
    split <;> rfl
   ·rw [Jbu,hc.n0,jcJ,decide_eq_false h92];split
    ·rfl
    ·decide
  | num n f hn=>exact .inl ⟨by decide,fun _=>by decide,by decide,by decide⟩
  | pct n hn=>exact trivial
  | dim n u f hn hu h0=>exact ⟨by decide,by rw [List.append_nil];exact zed hu⟩
  | sp=>show mSp 0=false;decide
  | cdo=>exact trivial
  | cdc=>exact trivial
  | mark k hk=>
   have e:∀j:Int,j<16→(tk k).kind≠j:=fun j hj=>by show k≠j;omega
   unfold stM;rw [if_neg (e 1 (by decide)),if_neg (e 3 (by decide)),if_neg (e 4 (by decide)),if_neg (e 9 (by decide)),if_neg (e 10 (by decide)),if_neg (e 12 (by decide)),if_neg (e 13 (by decide))]
   trivial
 | bs=>exact JgT.2 (by decide)
 | uf a s ha h0 hu hs=>exact ⟨fun t e=>(by cases e),fun t e=>(by cases e)⟩
 | ufs a s ha h0 hu hs=>exact ⟨fun t e=>(by cases e),fun t e=>(by cases e)⟩
theorem ZfV {p:Pi} (hp:p.ok) (hc:p.c=true):∀qs:List Pi,jgg qs→jgg (qs++[p])
 | [],_=>⟨jfV hp,trivial⟩
 | q::qs,hg=>by
  refine ⟨?_,ZfV hp hc qs hg.2⟩;show stP q.T (txs (qs++[p]));rw [jc4,zeF];unfold Pi.tx;rw [hc,if_pos rfl];exact zgU _ hg.1
theorem Jiw {qs:List Pi} (hv:∀p∈qs,p.ok) (h:txs qs=[]):qs=[]:=by
 cases qs with
 | nil=>rfl
 | cons q qs=>
  rw [jbJ] at h;have h2:=(List.append_eq_nil_iff.1 h).1;unfold Pi.tx at h2;exact absurd (List.append_eq_nil_iff.1 h2).2 (jh8 (hv q (List.mem_cons_self ..))).1
theorem JfV {p:Pi} (hp:p.ok) (hc:p.c=false):∀qs:List Pi,(∀p∈qs,p.ok)→jgg qs→RD (txs qs++p.X) (jdk qs++p.T)→jgg (qs++[p])
 | [],_,_,_=>⟨jfV hp,trivial⟩
 | q::qs,hv,hg,h=>by
  have hv2:∀p∈qs,p.ok:=fun p hp=>hv p (List.mem_cons_of_mem _ hp)
  have hpt:p.tx=p.X:=by unfold Pi.tx;rw [hc];rfl
  rw [jbJ,jdV,List.append_assoc,List.append_assoc,Ziw] at h;have hs:=jiS (hv q (List.mem_cons_self ..)) hp hg.1 (L:=jdk qs++p.T) (fun z=>(jh8 hp).2 (List.append_eq_nil_iff.1 z).2) (fun z=>by rw [Jiw hv2 z];rfl) h
  refine ⟨?_,JfV hp hc qs hv2 hg.2 ((jgU (hv q (List.mem_cons_self ..)) hs).1 h)⟩;show stP q.T (txs (qs++[p]));rw [jc4,zeF,hpt];exact hs
theorem zfW:∀(pre w:List Pi),jgg (pre++w)→jgg w
 | [],w,h=>h
 | q::pre,w,h=>zfW pre w h.2
theorem jfW {p:Pi}:∀(pre w:List Pi),jgg (pre++w)→3≤(txs w).length→jgg (w++[p])→jgg (pre++(w++[p]))
 | [],w,_,_,h=>h
 | q::pre,w,hg,hl,h=>by
  refine ⟨?_,jfW pre w hg.2 hl h⟩;show stP q.T (txs (pre++(w++[p])));rw [←List.append_assoc,jc4];exact zh8 _ (by rw [jc4,List.length_append];omega) hg.1
inductive Built:List Pi→Prop where
 | nil:Built []
 | com {ps:List Pi} {p:Pi}:Built ps→p.ok→p.c=true→Built (ps++[p])
 | win {pre w:List Pi} {p:Pi}:Built (pre++w)→p.ok→p.c=false→(pre=[]∨3≤(txs w).length)→RD (txs w++p.X) (jdk w++p.T)→Built (pre++w++[p])
theorem Jcc {ps:List Pi} (h:Built ps):(∀p∈ps,p.ok)∧jgg ps:=by
 induction h with
 | nil=>exact ⟨fun p hp=>(by cases hp),trivial⟩
 | com _ hp hc ih=>
  refine ⟨fun q hq=>?_,ZfV hp hc _ ih.2⟩
  rcases List.mem_append.1 hq with z|z
  ·exact ih.1 q z
  ·rw [List.mem_singleton] at z;rw [z];exact hp
 | @win pre w p _ hp hc hl hr ih=>
  have hvw:∀p∈w,p.ok:=fun q hq=>ih.1 q (List.mem_append_right _ hq)
  have hgw:=JfV hp hc w hvw (zfW pre w ih.2) hr;refine ⟨fun q hq=>?_,?_⟩
  ·rcases List.mem_append.1 hq with z|z
   ·exact ih.1 q z
   ·rw [List.mem_singleton] at z;rw [z];exact hp
  ·rw [List.append_assoc];rcases hl with rfl|hl
   ·exact hgw
   ·exact jfW pre w ih.2 hl hgw
theorem jge {ps:List Pi} (h:Built ps):RD (txs ps) (jdk ps):=zfb ps (Jcc h).1 (Jcc h).2
theorem ZhE (hpos:∀w:List UInt8,w≠[]→1≤(jK w).2):∀(f:Nat) (u:List UInt8) (p:Nat) (L:List Tok),(u.drop (Zax u)).length≤f→(RD u L↔(Jhe f (u.drop (Zax u)) p).map (·.1)=L)
 | 0,u,p,L,hl=>by
  have h0:u.drop (Zax u)=[]:=List.length_eq_zero_iff.1 (by omega)
  constructor
  ·intro h;cases h with
   | nil _=>rfl
   | cons h1 _=>exact absurd h0 h1
  ·intro h;have h:[]=L:=h;rw [←h];exact .nil h0
 | f+1,u,p,L,hl=>by
  cases hw:u.drop (Zax u) with
  | nil=>
   constructor
   ·intro h;cases h with
    | nil _=>rfl
    | cons h1 _=>exact absurd hw h1
   ·intro h;have h:[]=L:=h;rw [←h];exact .nil hw
  | cons c w=>
   rw [hw] at hl;have hp:=hpos (c::w) (by simp)
   have ih:=ZhE hpos f ((c::w).drop (jK (c::w)).2) (p+(jK (c::w)).2+Zax ((c::w).drop (jK (c::w)).2));have hdd:(c::w).drop ((jK (c::w)).2+Zax ((c::w).drop (jK (c::w)).2))=((c::w).drop (jK (c::w)).2).drop (Zax ((c::w).drop (jK (c::w)).2)):=(List.drop_drop ..).symm;have hlen:(((c::w).drop (jK (c::w)).2).drop (Zax ((c::w).drop (jK (c::w)).2))).length≤f:=by
    rw [List.length_drop,List.length_drop];omega
   unfold Jhe;rw [List.map_cons,hdd];constructor
   ·intro h;cases h with
    | nil h=>rw [hw] at h;cases h
    | cons h1 h2=>
     rw [hw] at h2 ⊢;rw [(ih _ hlen).1 h2]
   ·intro h;rw [←h];have h2:=(ih _ hlen).2 rfl;have h3:RD u ((jK (u.drop (Zax u))).1::_):=.cons (by rw [hw];simp) (by rw [hw];exact h2)
    rw [hw] at h3;exact h3
theorem zgW (hpos:∀w:List UInt8,w≠[]→1≤(jK w).2) (u:List UInt8) (L:List Tok):RD u L↔(ZgY u).map (·.1)=L:=
 ZhE hpos u.length u (Zax u) L (by rw [List.length_drop];omega)
theorem Zcx:∀a b:List Tok,Za4 a b=true→a=b
 | [],[],_=>rfl
 | [],_::_,h=>by cases h
 | _::_,[],h=>by cases h
 | a::x,b::y,h=>by
  unfold Za4 at h;simp only [Bool.and_eq_true] at h;rw [jec h.1,Zcx x y h.2]
theorem zix (hpos:∀w:List UInt8,w≠[]→1≤(jK w).2) {s:List UInt8} {l:List Tok} (hs:∀c∈s,okB c) (h:asM s l=true):RD s l:=by
 unfold asM Jey at h;rw [JdS s hs] at h;by_cases q1:4000<s.length
 ·rw [if_pos q1] at h;cases h
 ·rw [if_neg q1] at h;by_cases q2:1500<(ZgY s).length
  ·rw [if_pos q2] at h;cases h
  ·rw [if_neg q2] at h;exact (zgW hpos s l).2 (Zcx _ _ h)
theorem jhr (hpos:∀w:List UInt8,w≠[]→1≤(jK w).2) {s:List UInt8} {l:List Tok} (hs:∀c∈s,okB c) (hl:s.length≤4000) (hn:l.length≤1500) (h:RD s l):Jey s=some l:=by
 have e:=(zgW hpos s l).1 h;unfold Jey;rw [JdS s hs,if_neg (by omega),if_neg ?_,e]
 have:(ZgY s).length=l.length:=by rw [←e,List.length_map]
 omega
end Go.Proofs.YtmnegokadegioaaGreatDoor
set_option linter.unusedVariables false
set_option linter.unusedSimpArgs false
namespace Go.Proofs.YtmnegokadegioaaGreatDoor
open Go.Vm Go.Sx Go.RowKit
theorem JhE {w:List UInt8} (h:I.AllDg w):∀c∈w,okB c:=fun c hc=>by
 have:=Zec (h c hc);unfold okB;omega
theorem ZQ {w:List UInt8} (h:∀c∈w,c≠0∧c≠12∧c≠13):∀c∈w,okB c:=fun c hc=>by
 obtain ⟨h1,h2,h3⟩:=h c hc;have hne:∀j:UInt8,c≠j→¬(c.toNat:Int)=(j.toNat:Int):=fun j h z=>h (UInt8.toNat_inj.mp (by omega))
 exact ⟨hne 0 h1,hne 12 h2,hne 13 h3⟩
theorem ZO {a b:List UInt8} (ha:∀c∈a,okB c) (hb:∀c∈b,okB c):∀c∈a++b,okB c:=fun c hc=>(List.mem_append.1 hc).elim (ha c) (hb c)
theorem jeF (n:Int) (f:Bool):∀c∈J3 n f,okB c:=by
 unfold J3;refine ZO ?_ (ZO (JhE (I.dec_ok _).1) ?_)
 ·split
  ·exact ZQ (by decide)
  ·exact fun c hc=>(by cases hc)
 ·cases f with
  | true=>exact fun c hc=>(by cases hc)
  | false=>exact ZO (a:=[46]) (ZQ (by decide)) (JhE (I.fr_ok (Nat.mod_lt _ (by decide))).1)
theorem zdp:∀t:List UInt8,(0:UInt8)∉t→∀c∈Zci t,okB c
 | [],_=>fun c hc=>(by cases hc)
 | a::t,h0=>by
  unfold Zci;refine ZO ?_ (zdp t fun z=>h0 (List.mem_cons_of_mem _ z))
  split
  ·exact jfC a
  ·rename_i q;simp only [List.mem_cons,List.not_mem_nil,or_false,not_or] at q;refine ZQ fun c hc=>?_
   rw [List.mem_singleton] at hc;rw [hc];exact ⟨fun z=>h0 (by rw [z];exact List.mem_cons_self ..),q.2.1,q.2.2.1⟩
theorem ZfW:∀t:List UInt8,∀c∈zcu t,okB c
 | []=>fun c hc=>(by cases hc)
 | a::t=>by
  unfold zcu;refine ZO ?_ (ZfW t);split
  ·exact jfC a
  ·rename_i q;intro c hc;rw [List.mem_singleton] at hc;rw [hc];have:¬a.toNat≤32:=fun z=>q (.inl z)
   unfold okB;omega
theorem ZbJ (a:List UInt8):∀c∈Zaa a,okB c:=zdT _ a 0
theorem zhF {T:List Tok} {X:List UInt8} (hp:Pc T X):∀c∈X,okB c:=by
 cases hp with
 | one t hc h1 h2=>
  cases hc with
  | ident a ha h0=>exact ZbJ a
  | func a ha h0=>exact ZO (ZbJ a) (ZQ (by decide))
  | atk a ha h0=>exact ZO (a:=[64]) (ZQ (by decide)) (ZbJ a)
  | hash a f ha h0 hf=>
   cases f with
   | true=>exact ZO (a:=[35]) (ZQ (by decide)) (ZbJ a)
   | false=>exact ZO (a:=[35]) (ZQ (by decide)) (zdT _ a 0)
  | str a h0=>exact ZO (a:=[34]) (ZQ (by decide)) (ZO (zdp a h0) (ZQ (by decide)))
  | url a h0=>exact ZO (a:=[117,114,108,40]) (ZQ (by decide)) (ZO (ZfW a) (ZQ (by decide)))
  | del c hc h0=>
   refine ZQ fun b hb=>?_
   rw [show b=c from List.mem_singleton.1 hb]
   exact ⟨h0,hc.z.1,hc.z.2⟩
  | num n f hn=>exact jeF n f
  | pct n hn=>exact ZO (jeF n _) (ZQ (by decide))
  | dim n u f hn hu h0=>
   refine ZO (jeF n f) ?_;unfold zae;split
   ·exact zdT _ u 0
   ·exact ZbJ u
  | sp=>exact ZQ (w:=[32]) (by decide)
  | cdo=>exact ZQ (w:=[60,33,45,45]) (by decide)
  | cdc=>exact ZQ (w:=[45,45,62]) (by decide)
  | mark k hk=>
   rw [jcK hk];obtain ⟨n,rfl⟩:∃n:Nat,k=16+(n:Int):=⟨(k-16).toNat,by omega⟩
   have key:∀n:Nat,n<9→marksT.getD n 0≠0∧marksT.getD n 0≠12∧marksT.getD n 0≠13:=by decide +kernel
   rw [show (16+(n:Int)-16).toNat=n by omega]
   refine ZQ fun b hb=>?_
   rw [List.mem_singleton.1 hb];exact key n (by omega)
 | bs=>exact ZQ (by decide)
 | uf a s ha h0 hu hs=>exact ZO (ZO (ZbJ a) (ZQ (by decide))) (ZO (a:=[34]) (ZQ (by decide)) (ZO (zdp s hs) (ZQ (by decide))))
 | ufs a s ha h0 hu hs=>exact ZO (ZO (ZbJ a) (ZQ (by decide))) (ZO (a:=[32,34]) (ZQ (by decide)) (ZO (zdp s hs) (ZQ (by decide))))
theorem zfF:∀ps:List Pi,(∀p∈ps,p.ok)→∀c∈txs ps,okB c
 | [],_=>fun c hc=>(by cases hc)
 | p::ps,h=>by
  rw [jbJ];refine ZO ?_ (zfF ps fun q hq=>h q (List.mem_cons_of_mem _ hq))
  unfold Pi.tx;refine ZO ?_ (zhF (h p (List.mem_cons_self ..)));split
  ·exact ZQ (by decide)
  ·exact fun c hc=>(by cases hc)
theorem jfb:∀(i:Nat) (l:List Tok),Zcw l=true→Zcw (l.drop i)=true
 | 0,l,h=>h
 | i+1,[],h=>h
 | i+1,t::l,h=>by
  unfold Zcw at h;simp only [Bool.and_eq_true] at h;exact jfb i l h.2.2
theorem jix {t:Tok} (h:jck t=true) (k:t.kind=13):t=tk 13:=by
 cases jfa h with
 | sp=>rfl
 | mark j hj=>have k:j=13:=k;omega
 | _=>simp [tk] at k
theorem Zi4 {t:Tok} (h:jck t=true) (k:t.kind=5):∃s,t=tk 5 s∧(0:UInt8)∉s:=by
 cases jfa h with
 | str a h0=>exact ⟨a,rfl,h0⟩
 | mark j hj=>have k:j=5:=k;omega
 | _=>simp [tk] at k
theorem zjb {t:Tok} (h:jck t=true) (k:t.kind=2):∃a,t=tk 2 a∧a≠[]∧(0:UInt8)∉a:=by
 cases jfa h with
 | func a ha h0=>exact ⟨a,rfl,ha,h0⟩
 | mark j hj=>have k:j=2:=k;omega
 | _=>simp [tk] at k
theorem jjb {t:Tok} (h:jck t=true) (hb:zbv t=true):t=tk 9 [92]:=by
 unfold zbv at hb;simp only [Bool.and_eq_true,decide_eq_true_eq,beq_iff_eq] at hb;obtain ⟨k,e⟩:=hb;cases jfa h with
 | del c hc h0=>have e:[c]=[92]:=e;rw [e]
 | mark j hj=>have k:j=9:=k;omega
 | _=>simp [tk] at k
theorem JcK (t:Tok) (l:List Tok):zeH (t::l)=if zbv t then 2 else if jcw t then 1+(l.takeWhile fun t=>decide (t.kind≠5)).length+1 else 1:=rfl
theorem ZdV (t:Tok) (l:List Tok):je5 (t::l)=if zbv t then [92,10] else (t::l).flatMap tokT:=rfl
theorem Zhr {t:Tok} {l:List Tok} (h:Zcw (t::l)=true):Pc ((t::l).take (zeH (t::l))) (je5 ((t::l).take (zeH (t::l))))∧((t::l).take (zeH (t::l))).length=zeH (t::l)∧1≤zeH (t::l):=by
 unfold Zcw at h;simp only [Bool.and_eq_true] at h;obtain ⟨hc,hf,hl⟩:=h;cases hb:zbv t with
 | true=>
  have e:=jjb hc hb;unfold Zey at hf;rw [hb,if_pos rfl] at hf;cases l with
  | nil=>cases hf
  | cons s l=>
   unfold Zcw at hl;simp only [Bool.and_eq_true] at hl;have hs:=jix hl.1 (by unfold swK at hf;simpa using hf)
   have hn:zeH (t::s::l)=2:=by rw [JcK,hb];rfl
   rw [hn,e,hs];exact ⟨.bs,rfl,by decide⟩
 | false=>
  cases hu:jcw t with
  | false=>
   have hn:zeH (t::l)=1:=by rw [JcK,hb,hu];rfl
   rw [hn];have hp:je5 [t]=tokT t:=by rw [ZdV,hb,if_neg (by decide)];simp
   show Pc [t] (je5 [t])∧_;rw [hp];exact ⟨.one t (jfa hc) hb hu,rfl,Nat.le_refl _⟩
  | true=>
   have hk:t.kind=2:=by unfold jcw at hu;simp only [Bool.and_eq_true,decide_eq_true_eq] at hu;exact hu.1
   have ha:Z3 t.text [117,114,108]=true:=by unfold jcw at hu;simp only [Bool.and_eq_true,decide_eq_true_eq] at hu;exact hu.2
   obtain ⟨a,rfl,ha0,h0⟩:=zjb hc hk;unfold Zey at hf;rw [hb,if_neg (by decide),hu,if_pos rfl] at hf
   cases l with
   | nil=>cases hf
   | cons s l=>
    have hl2:=hl;unfold Zcw at hl2;simp only [Bool.and_eq_true] at hl2;by_cases k13:s.kind=13
    ·have hs:=jix hl2.1 k13;rw [show swK (s::l) 13=true by unfold swK;simp [k13],if_pos rfl,List.tail_cons] at hf
     cases l with
     | nil=>cases hf
     | cons r l=>
      have k5:r.kind=5:=by unfold swK at hf;simpa using hf
      have hl3:=hl2.2.2;unfold Zcw at hl3;simp only [Bool.and_eq_true] at hl3;obtain ⟨x,rfl,hx⟩:=Zi4 hl3.1 k5;subst hs;have hn:zeH (tk 2 a::tk 13::tk 5 x::l)=3:=by
       rw [JcK,hb,hu];rfl
      rw [hn];refine ⟨?_,rfl,by decide⟩
      have hp:je5 [tk 2 a,tk 13,tk 5 x]=Zaa a++[40]++(32::34::(Zci x++[34])):=by
       rw [ZdV,hb,if_neg (by decide)]
       show tokT (tk 2 a)++(tokT (tk 13)++(tokT (tk 5 x)++[]))=_;rw [List.append_nil];rfl
      show Pc [tk 2 a,tk 13,tk 5 x] (je5 [tk 2 a,tk 13,tk 5 x]);rw [hp];exact .ufs a x ha0 h0 ha hx
    ·rw [show swK (s::l) 13=false by unfold swK;simp [k13],if_neg (by decide)] at hf
     have k5:s.kind=5:=by unfold swK at hf;simpa using hf
     obtain ⟨x,rfl,hx⟩:=Zi4 hl2.1 k5;have hn:zeH (tk 2 a::tk 5 x::l)=2:=by
      rw [JcK,hb,hu];rfl
     rw [hn];refine ⟨?_,rfl,by decide⟩
     have hp:je5 [tk 2 a,tk 5 x]=Zaa a++[40]++(34::(Zci x++[34])):=by
      rw [ZdV,hb,if_neg (by decide)]
      show tokT (tk 2 a)++(tokT (tk 5 x)++[])=_;rw [List.append_nil];rfl
     show Pc [tk 2 a,tk 5 x] (je5 [tk 2 a,tk 5 x]);rw [hp];exact .uf a x ha0 h0 ha hx
def Jhr:List Pi→List (Nat×Nat)
 | []=>[]
 | p::r=>((txs r.reverse).length,(jdk r.reverse).length)::Jhr r
theorem jgW {p:Pi} (h:p.ok):1≤p.tx.length:=by
 have:=List.length_pos_iff.2 (jh8 h).1;unfold Pi.tx;rw [List.length_append];omega
theorem Zix (p:Pi) (r:List Pi) (hv:∀q∈r.reverse,q.ok):∃pre w,r.reverse=pre++w∧((Jhr (p::r)).take 4).getLastD (0,0)=((txs pre).length,(jdk pre).length)∧(pre=[]∨3≤(txs w).length):=by
 rcases r with _|⟨a,_|⟨b,_|⟨c,r⟩⟩⟩
 ·exact ⟨[],[],rfl,rfl,.inl rfl⟩
 ·exact ⟨[],[a],rfl,rfl,.inl rfl⟩
 ·exact ⟨[],[b,a],rfl,rfl,.inl rfl⟩
 ·refine ⟨r.reverse,[c,b,a],by simp,rfl,.inr ?_⟩
  have h1:=jgW (hv a (by simp))
  have h2:=jgW (hv b (by simp))
  have h3:=jgW (hv c (by simp))
  rw [jbJ,jbJ,zeF,List.length_append,List.length_append];omega
theorem JfW (hpos:∀w:List UInt8,w≠[]→1≤(jK w).2) (l:List Tok) (hl:Zcw l=true):∀(f:Nat) (r:List Pi) (i:Nat) (s:List UInt8),Built r.reverse→jdk r.reverse=l.take i→i≤l.length→l.length-i<f→(txs r.reverse).length≤4000→
  wrM l f (txs r.reverse) (Jhr r) i=(s,0)→∃ps,Built ps∧s=txs ps∧jdk ps=l∧s.length≤4000
 | 0,r,i,s,_,_,_,hf,_,_=>absurd hf (by omega)
 | f+1,r,i,s,hB,hT,hi,hf,h4,h=>by
  unfold wrM at h;by_cases q:l.length≤i
  ·rw [if_pos q] at h;have hs:txs r.reverse=s:=congrArg Prod.fst h;exact ⟨r.reverse,hB,hs.symm,by rw [hT,List.take_of_length_le q],by rw [←hs];exact h4⟩
  rw [if_neg q] at h;obtain ⟨t,l',hd⟩:=List.exists_cons_of_ne_nil (show l.drop i≠[] from fun z=>by
   have:=congrArg List.length z;rw [List.length_drop,List.length_nil] at this;omega)
  obtain ⟨hpc,hpl,hp1⟩:=Zhr (by rw [←hd];exact jfb i l hl:Zcw (t::l')=true)
  rw [←hd] at hpc hpl hp1;generalize hn:zeH (l.drop i)=n at h hpc hpl hp1;dsimp only at h;rw [show i+n-i=n by omega] at h
  generalize hTt:(l.drop i).take n=T at h hpc hpl;generalize hX:je5 T=X at h hpc;have hin:i+n≤l.length:=by
   have:((l.drop i).take n).length≤(l.drop i).length:=by rw [List.length_take];omega
   rw [hTt,hpl,List.length_drop] at this;omega
  have htk:l.take (i+n)=jdk r.reverse++T:=by rw [List.take_add,hT,hTt]
  obtain ⟨hv,-⟩:=Jcc hB;obtain ⟨pre,w,e1,e2,e3⟩:=Zix ⟨T,X,false⟩ r hv;have e2:((((txs r.reverse).length,i)::Jhr r).take 4).getLastD (0,0)=((txs pre).length,(jdk pre).length):=by
   rw [←e2];show _=((((txs r.reverse).length,(jdk r.reverse).length)::Jhr r).take 4).getLastD (0,0);rw [hT,List.length_take,Nat.min_eq_left hi]
  rw [e2] at h;dsimp only at h;have hw1:(txs r.reverse++X).drop (txs pre).length=txs w++X:=by
   rw [e1,jc4,List.append_assoc,List.drop_left]
  have hw2:(l.drop (jdk pre).length).take (i+n-(jdk pre).length)=jdk w++T:=by
   rw [←List.drop_take,htk,e1,zfV,List.append_assoc,List.drop_left]
  rw [hw1,hw2] at h;have hr:∀p:Pi,p.T=T→∃r2:List Pi,r2=p::r∧jdk r2.reverse=l.take (i+n)∧Jhr r2=((txs r.reverse).length,i)::Jhr r:=by
   intro p hp;refine ⟨_,rfl,?_,?_⟩
   ·rw [List.reverse_cons,zfV,zhr,hp,htk]
   ·show ((txs r.reverse).length,(jdk r.reverse).length)::Jhr r=_;rw [hT,List.length_take,Nat.min_eq_left hi]
  have fin:∀(p:Pi) (b2:List UInt8),p.T=T→Built (r.reverse++[p])→b2=txs r.reverse++p.tx→(if 4000<b2.length then ([],(28:Int)) else wrM l f b2 (((txs r.reverse).length,i)::Jhr r) (i+n))=(s,0)→∃ps,Built ps∧s=txs ps∧jdk ps=l∧s.length≤4000:=by
   intro p b2 hp hBp hb2 hh;by_cases q4:4000<b2.length
   ·rw [if_pos q4] at hh;exact absurd (congrArg Prod.snd hh) (by show ¬(28:Int)=0;decide)
   ·rw [if_neg q4] at hh;have hx:b2=txs (p::r).reverse:=by rw [List.reverse_cons,jc4,zeF,hb2]
    obtain ⟨r2,rfl,g1,g2⟩:=hr p hp;rw [hx,←g2] at hh;refine JfW hpos l hl f (p::r) (i+n) s (by rw [List.reverse_cons];exact hBp) g1 hin (by omega) (by rw [←hx];omega) hh
  by_cases qa:asM (txs w++X) (jdk w++T)=true
  ·rw [if_pos qa] at h;have hvw:∀p∈w,p.ok:=fun p hp=>hv p (by rw [e1];exact List.mem_append_right _ hp)
   have hRD:=zix hpos (ZO (zfF w hvw) (zhF hpc)) qa;refine fin ⟨T,X,false⟩ _ rfl ?_ rfl h;rw [e1] at hB ⊢;exact .win hB hpc rfl e3 hRD
  ·rw [if_neg qa] at h;refine fin ⟨T,X,true⟩ _ rfl (.com hB hpc rfl) ?_ h;rw [List.drop_left];rfl
theorem Zfb (hpos:∀w:List UInt8,w≠[]→1≤(jK w).2) {l:List Tok} {s:List UInt8} (h:ZfO l=(s,0)):Jey s=some l∧(∀c∈s,okB c):=by
 unfold ZfO at h;by_cases q:Zf9 l≠0
 ·rw [if_pos q] at h;exact absurd (congrArg Prod.snd h) q
 ·rw [if_neg q] at h;have q:Zf9 l=0:=Decidable.not_not.1 q;unfold Zf9 at q;by_cases q1:1500<l.length
  ·rw [if_pos q1] at q;exact absurd q (by decide)
  rw [if_neg q1] at q;cases q2:Zcw l with
  | false=>rw [q2,if_neg (by decide)] at q;exact absurd q (by decide)
  | true=>
   obtain ⟨ps,hB,rfl,hT,h4⟩:=JfW hpos l q2 (l.length+1) [] 0 s .nil rfl (Nat.zero_le _) (by omega) (by decide) h
   have ho:=zfF ps (Jcc hB).1;refine ⟨jhr hpos ho h4 (by omega) ?_,ho⟩
   rw [←hT];exact jge hB
end Go.Proofs.YtmnegokadegioaaGreatDoor
set_option linter.unusedVariables false
set_option linter.unusedSimpArgs false
namespace Go.Proofs.YtmnegokadegioaaGreatDoor
open Go.Vm Go.Sx Go.RowKit
theorem Jed:∀l:List Tok,Za4 l l=true
 | []=>rfl
 | t::l=>by unfold Za4 jab;simp [Jed l]
end Go.Proofs.YtmnegokadegioaaGreatDoor
set_option linter.unusedVariables false
set_option linter.unusedSimpArgs false
namespace Go.Proofs.YtmnegokadegioaaGreatDoor
open Go.Vm Go.Sx Go.RowKit
end Go.Proofs.YtmnegokadegioaaGreatDoor
