/- Lemmas. -/
import Derived.Test.YtplpmeednhcjkaaGreatDoorIa3
set_option linter.unusedVariables false
set_option linter.unusedSimpArgs false
namespace Go.Proofs.YtplpmeednhcjkaaGreatDoor
open Go.Proofs.Tryz
open Go.Vm Go.Sx Go.RowKit
theorem Zea {u:List UInt8} {L:List Tok} (h:RD u L):∀{M:List Tok},RD u M->L=M:=by
 induction h with
 | nil h0=>
  intro M hM;cases hM with
  | nil _=>rfl
  | cons h1 _=>exact absurd h0 h1
 | cons h1 h2 ih=>
  intro M hM;cases hM with
  | nil h0=>exact absurd h0 h1
  | cons g1 g2=>rw [ih g2]
theorem zbh {V:List UInt8} (Z:List UInt8) (hV:V≠[]):hb (V++Z)=hb V:=jX (Rj.2 hV)
theorem JeX {V:List UInt8} (Z:List UInt8) (h1:V≠[92]) (h:Jbt (V++Z)=false):Jbt V=false:=by
 rcases V with _|⟨a,_|⟨b,r⟩⟩
 ·rfl
 ·have:¬(a.toNat:Int)=92:=λz=>h1 (by rw [show a=92 from UInt8.toNat_inj.mp (by show a.toNat=92;omega)])
  unfold Jbt;rw [jc,Ye this];rfl
 ·exact h
theorem jcf {V:List UInt8} (Z:List UInt8) (h1:V≠[92]) (h:Jx (V++Z)=false):Jx V=false:=by
 cases hV:V with
 | nil=>decide
 | cons a r=>
  rw [<-hV];have hne:V≠[]:=by rw [hV];simp
  unfold Jx at h |-;rw [zbh Z hne] at h;simp only [Hl] at h |-;exact ⟨h.1,JeX Z h1 h.2⟩
theorem Jea {V:List UInt8} (Z:List UInt8) (h1:V≠[92]) (h2:V≠[45,92]) (h:Js (V++Z)=false):Js V=false:=by
 rcases V with _|⟨a,r⟩
 ·decide
 rw [Qc,ZaW,<-Qc] at h;rw [ZaW];by_cases q:(a.toNat:Int)≠45
 ·rw [ya q] at h |-;simp only [Hl] at h |-;exact ⟨h.1,JeX Z h1 h.2⟩
 ·rw [ga q] at h |-;have ha:a=45:=UInt8.toNat_inj.mp (by show a.toNat=45;omega)
  cases r with
  | nil=>decide
  | cons b r=>
   simp only [Hl] at h |-;refine ⟨h.1,h.2.1,JeX Z (λz=>h2 (by rw [ha,z])) h.2.2⟩
theorem Jgk {V Z:List UInt8} (h:mD (hb V)=true):mD (hb (V++Z))=true:=by
 cases V with
 | nil=>exact absurd h (by decide)
 | cons a r=>exact h
theorem zeb {V Z:List UInt8} (h:JQ V=true):JQ (V++Z)=true:=by
 rcases V with _|⟨a,r⟩
 ·exact absurd h (by decide)
 ·unfold JQ at h |-;simp only [yb] at h |-;exact ⟨h.1,Jgk h.2⟩
theorem zhU {V Z:List UInt8} (h:Za7 V=true):Za7 (V++Z)=true:=by
 rcases V with _|⟨a,r⟩
 ·exact absurd h (by decide)
 ·unfold Za7 at h |-;rw [Qc,jc,Hc];rw [jc,Hc] at h;split
  ·rename_i q;rw [ya q] at h;simp only [xg] at h |-;exact h.imp Jgk zeb
  ·rename_i q;rw [ga q] at h;simp only [xg] at h |-;exact h.imp id (λz=>zeb (V:=a::r) z)
theorem jhU {V Z:List UInt8} (h:Jbu V=true):Jbu (V++Z)=true:=by
 rcases V with _|⟨a,r⟩
 ·exact absurd h (by decide)
 ·unfold Jbu at h |-;simp only [yb] at h |-;refine ⟨h.1,?_⟩;rw [Qc,Hc];have h2:=h.2;rw [Hc] at h2;rcases r with _|⟨b,r⟩
  ·exact absurd h2 (by decide)
  ·unfold zdk at h2 |-;rw [Qc,jc,Hc];rw [jc,Hc] at h2;split
   ·rename_i q;rw [ya q] at h2;exact Jgk h2
   ·rename_i q;rw [ga q] at h2;exact h2
theorem Jhn {P V Z:List UInt8} (h:P.isPrefixOf V=true):P.isPrefixOf (V++Z)=true:=by
 rw [dn] at h |-;exact h.trans (List.prefix_append _ _)
theorem ZgC {f g:Bool} (h:f=true->g=true) (hg:g=false):f=false:=by
 cases f with
 | false=>rfl
 | true=>rw [h rfl] at hg;cases hg
theorem zho {c:UInt8} {V:List UInt8} (Z:List UInt8) (hV:V≠[]) (h1:V≠[92]) (h2:V≠[45,92]) (h:zbZ c (V++Z)):zbZ c V:=by
 obtain ⟨g1,g2,g3,g4,g5,g6,g7⟩:=h;rw [<-Qc] at g2 g3 g4 g6;refine ⟨λz=>?_,ZgC zhU g2,ZgC Jhn g3,ZgC Jhn g4,λz=>?_,?_,λz=>g7 ⟨z.1,by rw [zbh Z hV];exact z.2⟩⟩
 ·have:Jx (V++Z)=false:=by
   cases q:Jx (V++Z) with
   | false=>rfl
   | true=>exact absurd ⟨z.1,q⟩ g1
  rw [jcf Z h1 this] at z;cases z.2
 ·have:Js (V++Z)=false:=by
   cases q:Js (V++Z) with
   | false=>rfl
   | true=>exact absurd ⟨z.1,q⟩ g5
  rw [Jea Z h1 h2 this] at z;cases z.2
 ·refine Jea Z (λz=>hV (by injection z)) (λz=>h1 (by injection z)) g6
theorem jiF {t:Tok} {V:List UInt8} (Z:List UInt8) (hV:V≠[]) (h1:V≠[92]) (h2:V≠[45,92]) (hx:exV t (V++Z)->stM t V) (h:stM t (V++Z)):stM t V:=by
 by_cases k10:t.kind=10
 ·have h:=h;unfold stM at h;rw [ga (by omega),ga (by omega),ga (by omega),ga (by omega),ya k10] at h
  rcases h with ⟨g1,g2,g3,g4⟩|h
  ·unfold stM;rw [ga (by omega),ga (by omega),ga (by omega),ga (by omega),ya k10]
   refine .inl ⟨ZgC Jgk g1,λz=>ZgC zeb (g2 z),Jea Z h1 h2 g3,by rw [<-zbh Z hV];exact g4⟩
  ·exact hx h
 unfold stM at h |-;split
 ·rename_i q;rw [ya q] at h;obtain ⟨g1,g2,g3⟩:=h;rw [zbh Z hV] at g2 g3;exact ⟨jcf Z h1 g1,g2,g3⟩
 rename_i q;rw [ga q] at h;split
 ·rename_i q;rw [ya q] at h;exact jcf Z h1 h
 rename_i q;rw [ga q] at h;split
 ·rename_i q;rw [ya q] at h;exact jcf Z h1 h
 rename_i q;rw [ga q] at h;split
 ·rename_i q;rw [ya q] at h;exact λc hc=>zho Z hV h1 h2 (h c hc)
 rename_i q;rw [ga q] at h;rw [ga k10] at h;split
 ·rename_i q;rw [ya q] at h;exact ⟨jcf Z h1 h.1,ZgC jhU (by rw [Qb];exact h.2)⟩
 rename_i q;rw [ga q] at h;split
 ·rename_i q;rw [ya q] at h;rw [<-zbh Z hV];exact h
 ·trivial
theorem Jho {T:List Tok} {X:List UInt8} (hf:First T X) (h:mSp (hb X)=true):X=[32]/\T=[tk 13]:=by
 have hX:=zgg hf h;cases hf with
 | name a tl ha h0 hX2 _=>
  exfalso;have hs:=Jbn (zt ha tl);rw [<-hX2,hX] at hs
  revert hs
  show ¬_;decide
 | num n f tl hn hX2 _=>
  exfalso;have hs:=jfs (Zes hn);have e:hb X=hb (jD n f):=by rw [hX2,jX (Rj.2 (JI hn))]
  rw [<-e,hX] at hs;exact absurd hs (by decide)
 | del c hc hX2=>
  exfalso;have:=hc.sp;rw [hX2,jc,this] at h;cases h
 | sp _ hT=>exact ⟨hX,hT⟩
 | other _ h2=>rw [h2] at h;cases h
theorem jfZ {L M:List Tok} (h:L++M=M):L=[]:=List.append_left_eq_self.1 h
theorem Zh8 {U P Z:List UInt8} {T' L M:List Tok} (hf:First T' P) (hPne:P≠[]) (hZ:stP T' Z) (hM:RD Z M) (hU:mSp (hb U)=false) (hL:L≠[]) (c:UInt8) (hc:c=32\/c=10) (h:RD ([c]++(U++(P++Z))) (tk 13::(L++M))):mSp (hb (U++(P++Z)))=false:=by
 cases q:mSp (hb (U++(P++Z))) with
 | false=>rfl
 | true=>
  exfalso;cases U with
  | cons b U=>rw [Qc,jc] at q;rw [jc,q] at hU;cases hU
  | nil=>
   rw [gf,zbh Z hPne] at q;obtain ⟨hP,hT⟩:=Jho hf q;rw [hT] at hZ;have hz:mSp (hb Z)=false:=(jaR.1 hZ:stM (tk 13) Z);rw [hP] at h;apply hL;have hcm:comM ([c]++([]++([32]++Z)))=0:=zai λz=>(by rcases hc with rfl|rfl;exact absurd z.1 (by show ¬(32:Int)=47;decide);exact absurd z.1 (by show ¬(10:Int)=47;decide))
   have h3:=(jG hcm h).2.2;have ht:zy ([c]++([]++([32]++Z)))=(tk 13,2):=by
    rw [Qj,jfr c hc];show (tk 13,1+nSp (32::Z))=_;simp only [nSp];rw [ya (by decide),zjr hz]
   rw [ht] at h3;have h3:RD Z (L++M):=h3;exact jfZ (Zea h3 hM)
theorem Ji5 {T T' L M:List Tok} {X U P Z:List UInt8} (hp:Pc T X) (hp':Pc T' P) (hU:stP T U) (hZ:stP T' Z) (hM:RD Z M) (hL:L≠[]) (hns:¬(X=[47]/\U=[]/\P=[42]))
  (hnum:∀t,T=[t]->t.kind=10\/t.kind=12->stM t (U++(P++Z))) (h:RD (X++(U++(P++Z))) (T++(L++M))):stP T (U++(P++Z)):=by
 have hf:=zcU hp';have hPne:=(Jcs hp').1;cases hp with
 | one t hc h1 h2=>
  rw [jaR] at hU |-;cases hc with
  | ident a ha h0=>
   exact zgf ha h0 (jG (Za1 (jdl ha) (Jes ha)) h).2.1
  | func a ha h0=>exact trivial
  | atk a ha h0=>exact ji2 ha h0 (jG (Za1 (X:=64::zX a) (by simp) (by show ¬(64:Int)=47;decide)) h).2.1
  | hash a f ha h0 hf=>exact Jhf ha h0 (jG (Za1 (X:=jcc a f) (by simp [jcc]) (by show ¬(35:Int)=47;decide)) h).2.1
  | str a h0=>exact trivial
  | url a h0=>exact trivial
  | del c hc h0=>
   intro b hbb;have hbb:[c]=[b]:=hbb;injection hbb with hbb _
   subst hbb;have hU:zbZ c U:=hU c rfl;by_cases z:(c.toNat:Int)=47/\hb (U++(P++Z))=42
   ·exfalso;cases U with
    | cons b U=>exact hU.2.2.2.2.2.2 ⟨z.1,z.2⟩
    | nil=>
     have z2:=z.2;rw [gf,zbh Z hPne] at z2;have hc47:c=47:=UInt8.toNat_inj.mp (by show c.toNat=47;omega)
     exact hns ⟨by rw [hc47];rfl,rfl,zet hf z2⟩
   ·have hcm:comM (c::(U++(P++Z)))=0:=zai z;exact zh6 hc hcm (jG hcm h).2.1
  | num n f hn=>exact hnum _ rfl (.inl rfl)
  | pct n hn=>exact trivial
  | dim n u f hn hu h0=>exact hnum _ rfl (.inr rfl)
  | sp=>exact Zh8 hf hPne hZ hM hU hL 32 (.inl rfl) h
  | cdo=>exact trivial
  | cdc=>exact trivial
  | mark k hk=>
   have e:∀j:Int,j<16->(tk k).kind≠j:=λj hj=>by show k≠j;omega
   unfold stM;rw [ga (e 1 (by decide)),ga (e 3 (by decide)),ga (e 4 (by decide)),ga (e 9 (by decide)),ga (e 10 (by decide)),ga (e 12 (by decide)),ga (e 13 (by decide))]
   trivial
 | bs=>
  rw [Jgf] at hU |-;have h:RD ([92]++(10::(U++(P++Z)))) (tk 9 [92]::tk 13::(L++M)):=h;rw [Jbi (by simp) (by show ¬(92:Int)=47;decide) (Zhi _)] at h
  exact Zh8 hf hPne hZ hM hU hL 10 (.inr rfl) h
 | uf a s ha h0 hu hs=>exact ⟨λt e=>(by cases e),λt e=>(by cases e)⟩
 | ufs a s ha h0 hu hs=>exact ⟨λt e=>(by cases e),λt e=>(by cases e)⟩
theorem zi6 {n:Int} {f:Bool} {T L M:List Tok} {P Z:List UInt8} (hn:NumOK n f) (hf:First T P) (hPne:P≠[]) (he1:mE (hb P)=true) (hZ:stP T Z) (hM:RD Z M) (h43:¬(hb Z=43/\mD (hb Z.tail)=true)) (hT:L=T) (h:RD (jD n f++(P++Z)) (tk 10 [] n [] f::(L++M))):False:=by
 have hb1:hb (P++Z)=hb P:=zbh Z hPne;have hS:Js (P++Z)=true:=zdf (by rw [hb1];exact he1)
 obtain ⟨hPd,hPf,_⟩:=jbo hS;obtain ⟨-,i2,i3⟩:=jG (Za1 (JI hn) (zaF hn)) h;cases he:Jbu (P++Z) with
 | false=>
  have:=(Zgf hn hPd he i2).2.2.1;rw [hS] at this;cases this
 | true=>
  obtain ⟨a,tl,ha,h0,hP,hk⟩:=Jhi hf he1;obtain ⟨y,S,D,r,e1,e2,e3,e4,e5,e6,e7⟩:=Zfs he;obtain ⟨g1,g2,g3⟩:=zaR hn hPd (λ_=>hPf)
  have hdrop:(jD n f++(P++Z)).drop (zbn (jD n f++(P++Z))).2.2=r:=by
   rw [g2];dsimp only;rw [<-xe,ye,<-e6]
  rw [jai g1] at i2 i3;obtain ⟨k1,k2,k3,k4⟩:=jba i2 rfl;rw [hdrop] at k1 k2;rw [k3,hdrop,hT] at i3;obtain ⟨t',hT1,hkd⟩:∃t',T=[t']/\(t'.kind=1\/t'.kind=2):=by
   rcases hk with ⟨q,_⟩|⟨q,_⟩
   ·exact ⟨_,q,.inl rfl⟩
   ·exact ⟨_,q,.inr rfl⟩
  rw [hT1] at i3;have i3:RD r (t'::M):=i3;have notZ:r≠Z:=λz=>by
   rw [z] at i3;have:=Ya List.length (Zea i3 hM);rw [da] at this;omega
  have hg:Jx (tl++Z)=false:=by
   rcases hk with ⟨q,q2⟩|⟨_,q⟩
   ·rw [q2,gf];rw [q] at hZ;have hz:stM (tk 1 a) Z:=jaR.1 hZ;exact (hz:Zd6 a Z).1
   ·rw [q];rfl
  have n1:=zce h0 (tl++Z);rw [jZ hg,<-Qb,<-hP] at n1;have hy:mN (y.toNat:Int)=true:=by rcases jfX e2 with q|q <;> rw [q] <;> decide
  have hc:hb r≠47:=by
   intro z;have hgr:Jx r=false:=by
    unfold Jx Jbt;rw [z];rfl
   have fin:∀S:List UInt8,(∀b∈S,mN (b.toNat:Int)=true)->P++Z=y::(S++(D++r))->(Za0 (P++Z)).2=1+S.length+D.length->False:=by
    intro S hS1 e1 e7;have raw:∀b∈y::(S++D),mN (b.toNat:Int)=true:=by
     intro b hb;rcases gc.1 hb with rfl|hb
     ·exact hy
     ·rcases Rf.1 hb with hb|hb
      ·exact hS1 b hb
      ·exact jiC (e4 b hb)
    have n2:=zba (y::(S++D)) r raw;rw [jZ hgr,show (y::(S++D))++r=P++Z by rw [e1];simp,n1] at n2
    have n3:=Ya Prod.snd n2;have hr2:r=tl++Z:=by
     rw [e6,e7,hP,Qb,show 1+S.length+D.length=(zX a).length by simp at n3 |-;omega,ye]
    rcases hk with ⟨_,q⟩|⟨_,q⟩
    ·rw [q] at hr2;exact notZ hr2
    ·rw [hr2,q] at z;exact absurd z (by show ¬(40:Int)=47;decide)
   rcases e3 with q|q|q
   ·subst q;exact fin [] (λb hb=>by cases hb) e1 e7
   ·subst q;exact fin [45] (λb hb=>by rw [yh] at hb;rw [hb];decide) e1 e7
   ·have raw:∀b∈[y],mN (b.toNat:Int)=true:=by
     intro b hb;rw [yh] at hb;rw [hb];exact hy
    have hg2:Jx (43::(D++r))=false:=rfl;have n2:=zba [y] (43::(D++r)) raw;rw [jZ hg2,show [y]++(43::(D++r))=P++Z by rw [e1,q];rfl,n1] at n2
    have n3:=Ya Prod.snd n2;have hr2:tl++Z=43::(D++r):=by
     have w1:(P++Z).drop 1=tl++Z:=by rw [hP,Qb,show 1=(zX a).length by simp at n3;omega,ye]
     rw [<-w1,e1,q];rfl
    rcases hk with ⟨_,q2⟩|⟨_,q2⟩
    ·rw [q2,gf] at hr2;obtain ⟨d,D',hD⟩:=yf e5;apply h43;rw [hr2,hD];exact ⟨rfl,e4 d (by rw [hD];exact yc ..)⟩
    ·rw [q2] at hr2;injection hr2 with q3 _;exact absurd q3 (by decide)
  have:=(jG (zai λz=>hc z.1) i3).2.1
  rw [zhj (by rw [this];exact hkd)] at k1
  cases k1
theorem ji6 (A B C D:List UInt8):(A++(B++(C++D))).drop (A++(B++C)).length=D:=by
 rw [show A++(B++(C++D))=(A++(B++C))++D by simp,ye]
theorem JcG {T:List Tok} {m:Int} {g:Bool} {tl Z:List UInt8} (hk:(T=[tk 10 [] m [] g]/\tl=[])\/(T=[tk 11 [] m]/\tl=[37])\/(∃u,u≠[]/\(0:UInt8)∉u/\T=[tk 12 [] m u g]/\tl=zQ u)) (hZ:stP T Z) :
  (mD (hb (tl++Z))=false/\(g=true->JQ (tl++Z)=false)/\Za0 (tl++Z)=(0,0)/\(Js (tl++Z)=false->hb (tl++Z)≠37->tl=[]))\/(tl=[]/\g=false/\T=[tk 10 [] m [] g]/\∃(d:UInt8) (W:List UInt8),mD (d.toNat:Int)=true/\Z=48::46::d::W):=by
 rcases hk with ⟨q,q2⟩|⟨q,q2⟩|⟨u,hu,h0,q,q2⟩
 ·rw [q] at hZ;have hz:Jd6 g Z\/exV (tk 10 [] m [] g) Z:=(jaR.1 hZ:stM (tk 10 [] m [] g) Z);rw [q2,gf];rcases hz with ⟨z1,z2,z3,z4⟩|⟨_,z2,z3⟩
  ·exact .inl ⟨z1,z2,ZcF z3,λ_ _=>rfl⟩
  ·exact .inr ⟨rfl,z2,q,z3⟩
 ·left;rw [q2];exact ⟨by show mD 37=false;decide,λ_=>rfl,ZcF rfl,λ_ z=>absurd rfl z⟩
 ·left;rw [q] at hZ;have hz:Jel u Z:=(jaR.1 hZ:stM (tk 12 [] m u g) Z);have h1:=(zbo hu h0 Z).1;rw [q2];exact ⟨(jbo h1).1,λ_=>(jbo h1).2.1,Zce hz.2,λz=>by rw [h1] at z;cases z⟩
theorem Zi6 {n:Int} {f:Bool} {T L M:List Tok} {P Z:List UInt8} (hn:NumOK n f) (hf:First T P) (hd:mD (hb P)=true) (hZ:stP T Z) (hM:RD Z M) (hT:L=T) (h:RD (jD n f++(P++Z)) (tk 10 [] n [] f::(L++M))):exV (tk 10 [] n [] f) (P++Z):=by
 obtain ⟨m,g,tl,hm,hP,hk⟩:=Jd7 hf (.inl hd);have hTm:∃t',T=[t']/\t'.num=m:=by
  rcases hk with ⟨q,_⟩|⟨q,_⟩|⟨u,_,_,q,_⟩ <;> exact ⟨_,q,rfl⟩
 have tf:=JcG hk hZ;obtain ⟨t',hT1,hT2⟩:=hTm;have hm0:¬m<0:=by
  intro z;rw [hP,jX (Rj.2 (JI hm))] at hd;unfold jD at hd;rw [ya z] at hd;exact absurd hd (by show ¬mD 45=true;decide)
 obtain ⟨d1,d2,d3⟩:=I.dec_ok (n.natAbs / 1000);obtain ⟨f1,f2,f3,_⟩:=I.fr_ok (r:=n.natAbs%1000) (gh _ (by decide))
 obtain ⟨p1,p2,p3⟩:=I.dec_ok (m.natAbs / 1000);obtain ⟨q1,q2,q3,_⟩:=I.fr_ok (r:=m.natAbs%1000) (gh _ (by decide))
 have hPw:P=Lib.decDigits (m.natAbs / 1000)++((if g then [] else 46::fr3 3 (m.natAbs%1000))++tl):=by
  rw [hP];unfold jD;rw [ga hm0];simp
 generalize hD':Lib.decDigits (m.natAbs / 1000)=D' at p1 p2 p3 hPw;obtain ⟨-,i2,i3⟩:=jG (Za1 (JI hn) (zaF hn)) h;have lastZ:∀{L':List Tok},L'≠[]->RD Z (L'++M)->False:=λhne z=>hne (jfZ (Zea z hM))
 have hTne:T≠[]:=by rw [hT1];simp
 have hcase:f=true\/f=false:=by cases f <;> simp
 rcases hcase with hft|hff
 ·exfalso;subst hft;have hW:I.AllDg (Lib.decDigits (n.natAbs / 1000)++D'):=λb hb=>(Rf.1 hb).elim (d1 b) (p1 b)
  rcases tf with ⟨t1,t2,t3,t4⟩|⟨t1,t2,_,d,W,hdd,t4⟩
  ·generalize hF0:(if g then ([]:List UInt8) else fr3 3 (m.natAbs%1000))=F0
   have hF0a:I.AllDg F0:=by
    subst hF0;cases g with
    | true=>exact λb hb=>(by cases hb)
    | false=>exact q1
   have hF0g:F0=[]->g=true:=by
    subst hF0;cases g with
    | true=>exact λ_=>rfl
    | false=>exact λz=>absurd z q2
   have hF0e:(if g then ([]:List UInt8) else 46::fr3 3 (m.natAbs%1000))=if F0=[] then [] else 46::F0:=by
    subst hF0;cases g with
    | true=>rfl
    | false=>simp [q2]
   have gg:=I.num_gen (W:=Lib.decDigits (n.natAbs / 1000)++D') (F:=F0) (v:=tl++Z) (decide (n<0)) hW (by simp [d2]) hF0a t1 (λz=>t2 (hF0g z))
   have e:=jcT n true (P++Z);simp only [if_true,gf] at e;have e2:jD n true++(P++Z)=(if decide (n<0) then [45] else [])++(Lib.decDigits (n.natAbs / 1000)++D'++((if F0=[] then [] else 46::F0)++(tl++Z))):=by
    rw [e,hPw,hF0e];simp [Qb]
   rw [<-e2,t3] at gg;rw [jai gg.1] at i2 i3;obtain ⟨k1,k2,k3,k4⟩:=jba i2 rfl;have hlen:(jD n true++(P++Z)).drop (zbn (jD n true++(P++Z))).2.2=tl++Z:=by
    rw [gg.2];dsimp only;rw [Re,e2];exact ji6 _ _ _ _
   rw [hlen] at k1 k2;rw [k3,hlen,t4 k1 k2,hT] at i3;exact lastZ hTne i3
  ·subst t2;have hFa:I.AllDg (fr3 3 (m.natAbs%1000)++[48]):=by
    intro b hb;rcases Rf.1 hb with q|q
    ·exact q1 b q
    ·rw [yh] at q;subst q;decide
   have hne:fr3 3 (m.natAbs%1000)++[48]≠[]:=by simp
   have gg:=I.num_gen (W:=Lib.decDigits (n.natAbs / 1000)++D') (F:=fr3 3 (m.natAbs%1000)++[48]) (v:=46::d::W) (decide (n<0)) hW (by simp [d2]) hFa (by show mD 46=false;decide) (λz=>absurd z hne)
   rw [ga hne] at gg;have e:=jcT n true (P++Z);simp only [if_true,gf] at e;have e2:jD n true++(P++Z)=(if decide (n<0) then [45] else [])++(Lib.decDigits (n.natAbs / 1000)++D'++(46::(fr3 3 (m.natAbs%1000)++[48])++46::d::W)):=by
    rw [e,hPw,t1,t4];simp [Qb]
   rw [<-e2] at gg;rw [jai gg.1] at i2;have k4:=(jba i2 rfl).2.2.2;rw [gg.2] at k4;have k4:true=(decide (fr3 3 (m.natAbs%1000)++[48]=[])&&decide ((Za0 (46::d::W)).2=0)):=k4;rw [Ye hne] at k4;cases k4
 ·subst hff;have hFa:I.AllDg (fr3 3 (n.natAbs%1000)++D'):=λb hb=>(Rf.1 hb).elim (f1 b) (p1 b)
  have hFn:fr3 3 (n.natAbs%1000)++D'≠[]:=by simp [f2]
  generalize hR:(if g then ([]:List UInt8) else 46::fr3 3 (m.natAbs%1000))++tl=R at hPw
  have hR1:mD (hb (R++Z))=false/\Za0 (R++Z)=(0,0):=by
   subst hR;cases g with
   | true=>
    rcases tf with ⟨t1,t2,t3,t4⟩|⟨_,t2,_⟩
    ·exact ⟨t1,t3⟩
    ·cases t2
   | false=>exact ⟨by show mD 46=false;decide,ZcF rfl⟩
  have gg:=I.num_gen (W:=Lib.decDigits (n.natAbs / 1000)) (F:=fr3 3 (n.natAbs%1000)++D') (v:=R++Z) (decide (n<0)) d1 d2 hFa hR1.1 (λz=>absurd z hFn)
  rw [ga hFn,hR1.2] at gg;have e:=jcT n false (P++Z);simp only [yd,if_false,ga f2] at e;have e2:jD n false++(P++Z)=(if decide (n<0) then [45] else [])++(Lib.decDigits (n.natAbs / 1000)++(46::(fr3 3 (n.natAbs%1000)++D')++(R++Z))):=by
   rw [e,hPw];simp [Qb]
  rw [<-e2] at gg;rw [jai gg.1] at i2 i3;obtain ⟨k1,k2,k3,k4⟩:=jba i2 rfl;have hlen:(jD n false++(P++Z)).drop (zbn (jD n false++(P++Z))).2.2=R++Z:=by
   rw [gg.2];dsimp only;rw [Re,e2];exact ji6 _ _ _ _
  rw [hlen] at k1 k2;rw [k3,hlen,hT] at i3;have hgc:g=true\/g=false:=by cases g <;> simp
  rcases hgc with hg|hg
  ·exfalso;subst hg;have hRt:R=tl:=by rw [<-hR];rfl
   rw [hRt] at k1 k2 i3;rcases tf with ⟨t1,t2,t3,t4⟩|⟨_,t2,_⟩
   ·rw [t4 k1 k2] at i3;exact lastZ hTne i3
   ·cases t2
  ·subst hg;obtain ⟨d,F'',hFF⟩:=yf q2;have hdd:mD (d.toNat:Int)=true:=q1 d (by rw [hFF];exact yc ..)
   have hRe:R++Z=46::d::(F''++(tl++Z)):=by rw [<-hR,hFF];simp
   have hc:comM (R++Z)=0:=zai λz=>absurd z.1 (by rw [hRe];show ¬(46:Int)=47;decide)
   rw [hT1] at i3;have j2:=(jG hc i3).2.1;have hsh:=zfX hdd (F''++(tl++Z));rw [<-hRe] at hsh;have hr1:((m.natAbs%1000:Nat):Int).natAbs=m.natAbs%1000:=Int.natAbs_natCast _;have hN:NumOK ((m.natAbs%1000:Nat):Int) false:=⟨by omega,by omega,λz=>by cases z⟩
   have e3:jD ((m.natAbs%1000:Nat):Int) false++(tl++Z)=48::(R++Z):=by
    unfold jD;rw [ga (by omega),hr1,show m.natAbs%1000 / 1000=0 by omega,show m.natAbs%1000%1000=m.natAbs%1000 by omega,Lib.decDigits_one (by decide),hRe,hFF]
    simp
   have j3:(zy (48::(R++Z))).1.num=((m.natAbs%1000:Nat):Int):=by
    rcases tf with ⟨t1,t2,t3,t4⟩|⟨t1,t2,_,d2,W,hd2,t4⟩
    ·obtain ⟨u1,u2,u3⟩:=zaR hN t1 (λz=>by cases z)
     rw [t3] at u3;have u3:=u3 rfl;rw [e3] at u1 u3;rw [jai u1,jd8,u3]
    ·rw [<-e3,t1,gf,t4,Zhh hN hd2 W];rfl
   rw [hsh] at j3;have j4:(zy (R++Z)).1.num=m:=by rw [j2,hT2]
   have j5:m.natAbs / 1000=0:=by
    have:(zy (R++Z)).1.num=((m.natAbs%1000:Nat):Int):=j3;omega
   refine ⟨rfl,rfl,d,F''++(tl++Z),hdd,?_⟩;rw [hPw,Qb,hRe,<-hD',j5,Lib.decDigits_one (by decide)]
   rfl
theorem ZiF {n:Int} {f:Bool} {T' L M:List Tok} {U P Z:List UInt8} (hn:NumOK n f) (hp':Pc T' P) (hU:stM (tk 10 [] n [] f) U) (hZ:stP T' Z) (hM:RD Z M) (h43:¬(hb Z=43/\mD (hb Z.tail)=true)) (hL2:U=[]->L=T')
  (h:RD (jD n f++(U++(P++Z))) (tk 10 [] n [] f::(L++M))):stM (tk 10 [] n [] f) (U++(P++Z)):=by
 have hf:=zcU hp';have hPne:=(Jcs hp').1;have hU:Jd6 f U\/exV (tk 10 [] n [] f) U:=hU;show Jd6 f (U++(P++Z))\/exV (tk 10 [] n [] f) (U++(P++Z));have hno:∀v:List UInt8,RD (jD n f++v) (tk 10 [] n [] f::(L++M))->mD (hb v)=false->mE (hb v)=false->Jd6 f v:=by
  intro v hv v1 v2;refine Zgf hn v1 ?_ (jG (Za1 (JI hn) (zaF hn)) hv).2.1;unfold Jbu;rw [v2];rfl
 rcases hU with hU|hU
 ·cases U with
  | cons b U=>
   obtain ⟨u1,u2,u3,u4⟩:=hU;refine .inl (hno _ h u1 ?_);cases q:mE (hb (b::U)) with
   | false=>exact q
   | true=>rw [zdf q] at u3;cases u3
  | nil=>
   rw [gf] at h |-;have hb1:hb (P++Z)=hb P:=zbh Z hPne;cases q:mE (hb P) with
   | true=>exact (zi6 hn hf hPne q hZ hM h43 (hL2 rfl) h).elim
   | false=>
    cases q2:mD (hb P) with
    | true=>exact .inr (Zi6 hn hf q2 hZ hM (hL2 rfl) h)
    | false=>exact .inl (hno _ h (by rw [hb1];exact q2) (by rw [hb1];exact q))
 ·exact .inr (Zd7 _ hU)
theorem Ji6 {n:Int} {f:Bool} {u U P Z:List UInt8} {T L M:List Tok} (hn:NumOK n f) (hu:u≠[]) (h0:(0:UInt8)∉u) (hf:First T P) (hPne:P≠[]) (hZ:stP T Z) (hM:RD Z M) (hPZ:¬(mSg (hb P)=true/\P.tail=[]/\mD (hb Z)=true)) (hU:Jbu (zQ u++U)=false) (he:Jbu (zQ u++(U++(P++Z)))=true) (hL:L≠[]) (h:RD (jD n f++zQ u++(U++(P++Z))) (tk 12 [] n u f::(L++M))):False:=by
 have hune:zQ u≠[]:=λz=>by
  have:=(zbo hu h0 []).1;rw [z] at this;exact absurd this (by decide)
 obtain ⟨y,Y,hY⟩:=yf (show zQ u++U≠[] by simp [hune])
 rw [<-Qb,hY] at he;rw [hY] at hU;have hl:Y.length<=1:=by
  rcases Hg Y.length 2 with q|q
  ·omega
  ·rw [ZeV (by rw [da];omega),hU] at he;cases he
 have hy:mE (y.toNat:Int)=true:=by unfold Jbu at he;simp only [yb] at he;exact he.1
 have he2:zdk (Y++(P++Z))=true:=by unfold Jbu at he;simp only [yb] at he;exact he.2
 have hU2:zdk Y=false:=by unfold Jbu at hU;rw [jc,hy] at hU;exact hU
 have hbP:hb (P++Z)=hb P:=zbh Z hPne;have htP:mSg (hb P)=true->mD (hb (P++Z).tail)=true->mD (hb P.tail)=true:=by
  intro q1 q2;obtain ⟨p,P',hP'⟩:=yf hPne;rw [hP',Qc,Hc] at q2;cases P' with
  | nil=>exact absurd ⟨q1,by rw [hP'];rfl,q2⟩ hPZ
  | cons b P'=>rw [hP'];exact q2
 have key:(Y=[]\/(∃s:UInt8,Y=[s]/\mSg (s.toNat:Int)=true))/\(mD (hb P)=true\/(Y=[]/\mSg (hb P)=true/\mD (hb P.tail)=true)):=by
  cases Y with
  | nil=>
   refine ⟨.inl rfl,?_⟩;rw [gf] at he2;unfold zdk at he2;rw [hbP] at he2;by_cases q:mSg (hb P)=true
   ·rw [ya q] at he2;exact .inr ⟨rfl,q,htP q he2⟩
   ·rw [ga q] at he2;exact .inl he2
  | cons s Y=>
   have:Y=[]:=by rw [da] at hl;exact Rk.1 (by omega)
   subst this;refine ⟨.inr ⟨s,rfl,?_⟩,?_⟩
   ·cases q:mSg (s.toNat:Int) with
    | true=>rfl
    | false=>
     unfold zdk at he2 hU2;rw [Qc,jc,q,ga (by decide)] at he2
     rw [jc,q,ga (by decide),he2] at hU2
     cases hU2
   ·left;unfold zdk at he2 hU2;rw [Qc,jc,Hc,gf,hbP] at he2;rw [jc] at hU2;split at he2
    ·exact he2
    ·rename_i q;rw [ga q,he2] at hU2;cases hU2
 obtain ⟨hS,hP0⟩:=key;obtain ⟨m,g,tl,hm,hP,hk⟩:=Jd7 hf (hP0.imp id (·.2));have tf:=JcG hk hZ;obtain ⟨p1,p2,p3⟩:=I.dec_ok (m.natAbs / 1000);obtain ⟨q1,q2,q3,_⟩:=I.fr_ok (r:=m.natAbs%1000) (gh _ (by decide))
 have hPw:P=(if m<0 then [45] else [])++(Lib.decDigits (m.natAbs / 1000)++((if g then [] else 46::fr3 3 (m.natAbs%1000))++tl)):=by
  rw [hP];unfold jD;simp
 generalize hR:(if g then ([]:List UInt8) else 46::fr3 3 (m.natAbs%1000))++tl=R at hPw
 have hR1:mD (hb (R++Z))=false:=by
  subst hR;cases g with
  | true=>
   rcases tf with ⟨t1,_⟩|⟨_,t2,_⟩
   ·exact t1
   ·cases t2
  | false=>show mD 46=false;decide
 generalize hD':Lib.decDigits (m.natAbs / 1000)=D' at p1 p2 p3 hPw;obtain ⟨d,D2,hDc⟩:=yf p2;have hdd:mD (d.toNat:Int)=true:=p1 d (by rw [hDc];exact yc ..)
 have hm2:=I.mD_not hdd;have hPZw:P++Z=(if m<0 then [45] else [])++(D'++(R++Z)):=by rw [hPw];simp
 have hexp:((y::Y)++(P++Z)).drop (Za0 ((y::Y)++(P++Z))).2=R++Z:=by
  have hx:(Za0 (y::(Y++(P++Z)))).2=(if mSg (hb (Y++(P++Z))) then 2 else 1)+(jE (if mSg (hb (Y++(P++Z))) then (Y++(P++Z)).tail else (Y++(P++Z)))).length:=by
   unfold Za0;rw [ya (by rw [jc,Hc,hy,he2];rfl)]
   rfl
  rw [Qc,hx];have done:∀V:List UInt8,(∃s,V=s::(D'++(R++Z))/\mSg (s.toNat:Int)=true)\/V=D'++(R++Z)->(y::V).drop ((if mSg (hb V) then 2 else 1)+(jE (if mSg (hb V) then V.tail else V)).length)=R++Z:=by
   intro V hV;rcases hV with ⟨s,rfl,hs⟩|rfl
   ·rw [jc,ya hs,ya hs,Hc,I.digs_app p1 hR1,show 2+D'.length=D'.length+1+1 by omega,Hf,Hf,ye]
   ·have:mSg (hb (D'++(R++Z)))=false:=by rw [hDc,Qc,jc];exact hm2.1
    rw [this,ga (by decide),ga (by decide),I.digs_app p1 hR1,show 1+D'.length=D'.length+1 by omega,Hf,ye]
  apply done;rcases hS with rfl|⟨s,rfl,hs⟩
  ·rw [gf,hPZw];by_cases q:m<0
   ·rw [ya q];exact .inl ⟨45,rfl,by decide⟩
   ·rw [ga q];exact .inr rfl
  ·have hmn:¬m<0:=by
    intro z;rcases hP0 with q|⟨q,_⟩
    ·rw [hPw,ya z] at q;exact absurd q (by show ¬mD 45=true;decide)
    ·cases q
   rw [hPZw,ga hmn];exact .inl ⟨s,rfl,hs⟩
 have hX:jD n f++zQ u++(U++(P++Z))=jD n f++((y::Y)++(P++Z)):=by
  rw [<-hY];simp [Qb]
 rw [hX] at h;have hv1:mD (hb ((y::Y)++(P++Z)))=false:=by
  rw [Qc,jc];rcases jfX hy with q|q <;> rw [q] <;> decide
 have hv2:JQ ((y::Y)++(P++Z))=false:=by
  unfold JQ;rw [Qc,jc];rcases jfX hy with q|q <;> rw [q] <;> rfl
 obtain ⟨g1,g2,g3⟩:=zaR hn hv1 (λ_=>hv2)
 obtain ⟨-,i2,i3⟩:=jG (Za1 (JI hn) (zaF hn)) h;have hdrop:(jD n f++((y::Y)++(P++Z))).drop (zbn (jD n f++((y::Y)++(P++Z)))).2.2=R++Z:=by
  rw [g2];dsimp only;rw [<-xe,ye,hexp]
 rw [jai g1] at i2 i3;have hk12:(Zn (jD n f++((y::Y)++(P++Z)))).1.kind=12:=by rw [i2];rfl
 have hr:Js (R++Z)=true/\(Zn (jD n f++((y::Y)++(P++Z)))).2=(zbn (jD n f++((y::Y)++(P++Z)))).2.2+(jj (R++Z)).2:=by
  unfold Zn at hk12 |-;dsimp only at hk12 |-;rw [hdrop] at hk12 |-;cases q:Js (R++Z) with
  | true=>exact ⟨rfl,by rw [ya rfl]⟩
  | false=>
   rw [q,ga (by decide)] at hk12
   split at hk12
   ·exact absurd hk12 (by show ¬(11:Int)=12;decide)
   ·exact absurd hk12 (by show ¬(10:Int)=12;decide)
 have hall:(R++Z).drop (jj (R++Z)).2=Z:=by
  have hrn:=hr.1;have hg:g=true:=by
   cases g with
   | true=>rfl
   | false=>
    rw [<-hR] at hrn;have h9:Js (46::(fr3 3 (m.natAbs%1000)++tl++Z))=true:=hrn;rw [show Js (46::(fr3 3 (m.natAbs%1000)++tl++Z))=false from rfl] at h9
    cases h9
  subst hg;have hRt:R=tl:=by rw [<-hR];rfl
  rw [hRt] at hrn |-;rcases hk with ⟨q,w⟩|⟨q,w⟩|⟨u',hu',h0',q,w⟩
  ·rw [q] at hZ;have hz:Jd6 true Z\/exV (tk 10 [] m [] true) Z:=(jaR.1 hZ:stM (tk 10 [] m [] true) Z);rw [w,gf] at hrn;rcases hz with ⟨_,_,z3,_⟩|⟨_,z2,_⟩
   ·rw [z3] at hrn;cases hrn
   ·cases z2
  ·rw [w] at hrn;exact absurd hrn (by show ¬Js (37::Z)=true;rw [show Js (37::Z)=false from rfl];decide)
  ·rw [q] at hZ;have hz:Jel u' Z:=(jaR.1 hZ:stM (tk 12 [] m u' true) Z);rw [w,(zbo hu' h0' Z).2,jZ hz.1];simp
 rw [hr.2,<-xe,hdrop,hall] at i3;exact hL (jfZ (Zea i3 hM))
theorem JiF {n:Int} {f:Bool} {u U P Z:List UInt8} {T' L M:List Tok} (hn:NumOK n f) (hu:u≠[]) (h0:(0:UInt8)∉u) (hp':Pc T' P) (hU:Jel u U) (hZ:stP T' Z) (hM:RD Z M) (hPZ:¬(mSg (hb P)=true/\P.tail=[]/\mD (hb Z)=true)) (hL:L≠[])
  (h:RD (jD n f++zQ u++(U++(P++Z))) (tk 12 [] n u f::(L++M))):Jel u (U++(P++Z)):=by
 cases q:Jbu (zQ u++(U++(P++Z))) with
 | true=>exact (Ji6 hn hu h0 (zcU hp') (Jcs hp').1 hZ hM hPZ hU.2 q hL h).elim
 | false=>exact Zh6 hn hu h0 q (jG (Za1 (X:=jD n f++zQ u) (by simp [JI hn]) (JcT (JI hn) (zaF hn))) h).2.1
theorem ziG {n:Int} {f:Bool}:(hb (jD n f)=45/\(jD n f).tail≠[])\/mD (hb (jD n f))=true:=by
 obtain ⟨d1,d2,d3⟩:=I.dec_ok (n.natAbs / 1000);obtain ⟨d,D,hD⟩:=yf d2;unfold jD;by_cases q:n<0
 ·left;rw [ya q,hD];exact ⟨rfl,by simp⟩
 ·right;rw [ga q,hD];exact d1 d (by rw [hD];exact yc ..)
theorem ZhU {x:List UInt8} (h:Js x=true) (h45:hb x=45):x.tail≠[]:=by
 intro z;unfold Js at h;rw [ga (by omega),z] at h
 exact absurd h (by decide)
theorem zi7 {T:List Tok} {X:List UInt8} (hp:Pc T X) (h:mSg (hb X)=true):(∃c,X=[c]/\T=[tk 9 [c]])\/(hb X=45/\X.tail≠[]):=by
 have hs:=jgg h;have name:∀x:List UInt8,Js x=true->(hb x=43\/hb x=45)->hb x=45/\x.tail≠[]:=by
  intro x hx q;have h45:hb x=45:=by
   rcases Jbn hx with z|z|z
   ·have:=Zcu z;omega
   ·omega
   ·exact z.1
  exact ⟨h45,ZhU hx h45⟩
 have numb:∀(n:Int) (f:Bool) (tl:List UInt8),NumOK n f->mSg (hb (jD n f++tl))=true->hb (jD n f++tl)=45/\(jD n f++tl).tail≠[]:=by
  intro n f tl hn q;rw [jX (Rj.2 (JI hn))] at q |-;rcases ziG (n:=n) (f:=f) with z|z
  ·refine ⟨z.1,?_⟩;rw [Zd4 (Rj.2 (JI hn))];simp [z.2]
  ·rw [(I.mD_not z).1] at q;cases q
 cases hp with
 | one t hc h1 h2=>
  cases hc with
  | ident a ha h0=>exact .inr (name (zX a) (jer ha) hs)
  | func a ha h0=>exact .inr (name (zX a++[40]) (zt ha _) hs)
  | atk a ha h0=>exact absurd h (by show ¬mSg 64=true;decide)
  | hash a f ha h0 hf=>exact absurd h (by show ¬mSg 35=true;decide)
  | str a h0=>exact absurd h (by show ¬mSg 34=true;decide)
  | url a h0=>exact absurd h (by show ¬mSg 117=true;decide)
  | del c hc h0=>exact .inl ⟨c,rfl,rfl⟩
  | num n f hn=>
   have:=numb n f [] hn (by rw [xf];exact h)
   rw [xf] at this;exact .inr this
  | pct n hn=>exact .inr (numb n _ [37] hn h)
  | dim n u f hn hu h0=>exact .inr (numb n f (zQ u) hn h)
  | sp=>exact absurd h (by show ¬mSg 32=true;decide)
  | cdo=>exact absurd h (by show ¬mSg 60=true;decide)
  | cdc=>exact .inr ⟨rfl,by show [(45:UInt8),62]≠[];simp⟩
  | mark k hk=>
   rw [Zbg hk] at h;obtain ⟨n,rfl⟩:∃n:Nat,k=16+(n:Int):=⟨(k-16).toNat,by omega⟩
   have key:∀n:Nat,n<9->mSg ((marksT.getD n 0).toNat:Int)=false:=by decide +kernel
   rw [show (16+(n:Int)-16).toNat=n by omega,jc,key n (by omega)] at h
   cases h
 | bs=>exact absurd h (by show ¬mSg 92=true;decide)
 | uf a s ha h0 hu hs2=> 
  have e:=name (zX a++([40]++(34::(jaJ s++[34])))) (zt ha _);rw [<-Qb] at e;exact .inr (e hs)
 | ufs a s ha h0 hu hs2=>
  have e:=name (zX a++([40]++(32::34::(jaJ s++[34])))) (zt ha _);rw [<-Qb] at e;exact .inr (e hs)
theorem Jh8 {c:UInt8} {V:List UInt8} (h:zbZ c V) (hs:mSg (c.toNat:Int)=true):mD (hb V)=false:=by
 have:=h.2.1;unfold Za7 at this;rw [jc,ya hs,Hc] at this;simp only [Hl] at this;exact this.1
theorem JhU {T:List Tok} {P Z:List UInt8} (hp:Pc T P) (hZ:stP T Z):¬(mSg (hb P)=true/\P.tail=[]/\mD (hb Z)=true):=by
 rintro ⟨h1,h2,h3⟩;rcases zi7 hp h1 with ⟨c,rfl,rfl⟩|⟨_,q⟩
 ·have:zbZ c Z:=(jaR.1 hZ:stM (tk 9 [c]) Z) c rfl;rw [Jh8 this h1] at h3;cases h3
 ·exact q h2
theorem jiG:∀ps:List Pi,(∀p∈ps,p.ok)->zeu ps->¬(hb (txs ps)=43/\mD (hb (txs ps).tail)=true)
 | [],_,_=>λz=>absurd z.1 (by decide)
 | p::ps,hv,hg=>by
  rintro ⟨h1,h2⟩;have hp:=hv p (yc ..);rw [zO] at h1 h2;unfold Pi.tx at h1 h2;cases hc:p.c with
  | true=>rw [hc,ya rfl] at h1;exact absurd h1 (by show ¬(47:Int)=43;decide)
  | false=>
   rw [hc,ga (by decide),gf] at h1 h2
   have hne:=(Jcs hp).1;have h3:hb p.X=43:=by rw [<-h1,zbh _ hne]
   rcases zi7 hp (by rw [h3];decide) with ⟨c,e1,e2⟩|⟨q,_⟩
   ·have hst:=hg.1;rw [e2] at hst;have:zbZ c (txs ps):=(jaR.1 hst:stM (tk 9 [c]) (txs ps)) c rfl;rw [e1] at h2 h3;rw [jc] at h3;have h2:mD (hb (txs ps))=true:=h2;rw [Jh8 this (by rw [h3];decide)] at h2
    cases h2
   ·omega
