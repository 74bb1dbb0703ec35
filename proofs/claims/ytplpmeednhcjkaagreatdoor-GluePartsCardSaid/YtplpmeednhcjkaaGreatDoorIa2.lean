/- Lemmas. -/
import Derived.Test.YtplpmeednhcjkaaGreatDoorIa1
set_option linter.unusedVariables false
set_option linter.unusedSimpArgs false
namespace Go.Proofs.YtplpmeednhcjkaaGreatDoor.I
open Go.Proofs.Tryz
open Go.Vm Go.Sx Go.RowKit
def AllDg (w:List UInt8):Prop:=∀b,b∈w->mD (b.toNat:Int)=true
theorem digs_pos {c:UInt8} {w:List UInt8} (h:mD (c.toNat:Int)=true):jE (c::w)=c::jE w:=by unfold jE;rw [gj,ya h]
theorem digs_neg {c:UInt8} {w:List UInt8} (h:mD (c.toNat:Int)=false):jE (c::w)=[]:=by unfold jE;rw [gj,ga (by rw [h];decide)]
theorem zeros0_len (w:List UInt8):(ZI w).length<=w.length:=(List.dropWhile_sublist _).length_le
theorem fr3_len:∀k r,(fr3 k r).length<=k
 | 0,_=>Ra _
 | k+1,r=>by
  simp only [fr3,da];split
  ·simp
  ·have:=fr3_len k (r*10%1000);omega
theorem zeT {a:Nat} (h:a<=1000000000):(Lib.decDigits a).length<=10:=by
 rw [Lib.decDigits_length];have h10:∀k u,u<10^(k+1)->Lib.nDigits u<=k+1:=by
  intro k
  induction k with
  | zero=>intro u hu;rw [Lib.nDigits_small (by simpa using hu)];omega
  | succ k ih=>
   intro u hu;by_cases q:u<10
   ·rw [Lib.nDigits_small q];omega
   ·rw [Lib.nDigits_big q];have:=ih (u / 10) (by rw [gl] at hu;omega)
    omega
 exact h10 9 a (by omega)
theorem tm {x:Int} {y:Nat} (h:x=(y:Int)) (k:Nat):x.tmod (k:Int)=((y%k:Nat):Int):=by
 subst h;rw [Int.tmod_eq_emod_of_nonneg (by omega)]
 omega
def dvG (a:Int) (c:UInt8):Int:=a*10+((c.toNat:Int)-48)
def dv (w:List UInt8):Int:=w.foldl dvG 0
theorem JfW:∀(w:List UInt8) (a:Int),w.foldl dvG a=a*10^w.length+dv w
 | [],a=>by simp [dv]
 | c::w,a=>by
  have h1:=JfW w (dvG a c);have h2:=JfW w (dvG 0 c);show w.foldl dvG (dvG a c)=_;rw [h1];show _=a*10^(w.length+1)+w.foldl dvG (dvG 0 c);rw [h2,Ro];unfold dvG;rw [Int.add_mul,Int.add_mul,Int.mul_assoc,Int.mul_comm 10];omega
theorem jh6 (u v:List UInt8):dv (u++v)=dv u*10^v.length+dv v:=by
 unfold dv;rw [List.foldl_append];exact JfW v _
theorem Zer:∀(k:Nat) (a:Int),Jbf k [] a=a*10^k
 | 0,a=>by simp [Jbf]
 | k+1,a=>by rw [Jbf,Zer k,Int.mul_assoc,Ro,Int.mul_comm (10^k)]
theorem Jer:∀(w:List UInt8) (k:Nat) (a:Int),Jbf (w.length+k) w a=w.foldl dvG a*10^k
 | [],k,a=>by rw [Hd,dd];exact Zer k a
 | c::w,k,a=>by
  rw [da,show w.length+1+k=(w.length+k)+1 from by omega]
  exact Jer w k _
theorem jgf:∀w:List UInt8,dv (ZI w)=dv w
 | []=>rfl
 | c::w=>by
  unfold ZI;rw [dp];split
  ·rename_i h;have e:c=48:=eq_of_beq h;subst e;exact jgf w
  ·rfl
theorem dec_ok (a:Nat):AllDg (Lib.decDigits a)/\Lib.decDigits a≠[]/\dv (Lib.decDigits a)=a:=by
 induction a using Nat.strongRecOn with
 | _ a ih=>
  have one:∀d,d<10->mD ((UInt8.ofNat (48+d)).toNat:Int)=true/\((UInt8.ofNat (48+d)).toNat:Int)-48=d:=by
   intro d hd;have:(UInt8.ofNat (48+d)).toNat=48+d:=by rw [Qo];omega
   rw [this];refine ⟨?_,by omega⟩
   unfold mD;simp;omega
  by_cases h:a<10
  ·rw [Lib.decDigits_one h];refine ⟨λb hb=>?_,by simp,?_⟩
   ·rw [yh] at hb;subst hb;exact (one a h).1
   ·show dvG 0 _=_;unfold dvG;have:=(one a h).2;omega
  ·rw [Lib.decDigits,dif_neg h];obtain ⟨h1,h2,h3⟩:=ih (a / 10) (by omega)
   refine ⟨λb hb=>?_,by simp,?_⟩
   ·rcases Rf.1 hb with q|q
    ·exact h1 b q
    ·rw [yh] at q;subst q;exact (one _ (gh _ (by decide))).1
   ·rw [jh6,h3];have:=(one (a%10) (gh _ (by decide))).2
    show _+dvG 0 _=_;unfold dvG;simp only [da,Hd];omega
def frB (r:Nat):Bool:=(fr3 3 r).all (λc=>mD (c.toNat:Int))&&(!(fr3 3 r).isEmpty&&(decide (dv (fr3 3 r)*10^(3-(fr3 3 r).length)=(r:Int))&&(!((fr3 3 r).getLast?==some 48)||decide ((fr3 3 r).length=1))))
theorem ZiA:(List.range 1000).all frB=true:=by decide +kernel
theorem fr_ok {r:Nat} (h:r<1000):AllDg (fr3 3 r)/\fr3 3 r≠[]/\dv (fr3 3 r)*10^(3-(fr3 3 r).length)=(r:Int)/\((fr3 3 r).getLast?≠some 48\/(fr3 3 r).length=1):=by
 have:=Hk.1 ZiA r (xo.2 h);unfold frB at this;simp only [yb,xg,Rm,xc,Hk] at this;obtain ⟨h1,h2,h3,h4⟩:=this;refine ⟨h1,λq=>(by rw [q] at h2;cases h2),h3,h4.imp (λq z=>?_) id⟩
 rw [z] at q;simp at q
theorem digs_app {D rest:List UInt8} (hD:AllDg D) (hr:mD (hb rest)=false):jE (D++rest)=D:=by
 induction D with
 | nil=>
  cases rest with
  | nil=>rfl
  | cons c r=>exact digs_neg hr
 | cons c D ih=>
  rw [Qc,digs_pos (hD c (yc ..)),ih λb hb=>hD b (gd _ hb)]
theorem mD_not {c:Int} (h:mD c=true):mSg c=false/\(c=46)=False/\(c=45)=False/\mE c=false:=by
 unfold mD at h;simp only [yb,xc] at h;refine ⟨?_,?_,?_,?_⟩
 ·unfold mSg;simp;omega
 ·simp;omega
 ·simp;omega
 ·unfold mE;simp;omega
theorem cut_val {a r:Nat} (ha:a<=1000000000) (hv:a*1000+r<=1000000000000) (F:List UInt8) (hF:F.length<=3) (hd:dv F*10^(3-F.length)=(r:Int)) :
  ZeQ (Lib.decDigits a++F) (((Lib.decDigits a).length:Int)+0+3)=((a*1000+r:Nat):Int):=by
 obtain ⟨h1,h2,h3⟩:=dec_ok a;have hl:=zeT ha;have hp:(0:Int)<10^(3-F.length):=Int.pow_pos (by decide)
 have key:dv (Lib.decDigits a++F)*10^(3-F.length)=((a*1000+r:Nat):Int):=by
  rw [jh6,h3,Int.add_mul,hd,Int.mul_assoc,<-Int.pow_add,show F.length+(3-F.length)=3 from by omega]
  omega
 unfold ZeQ;dsimp only;have hz:=zeros0_len (Lib.decDigits a++F);rw [Rb] at hz;have hdz:=jgf (Lib.decDigits a++F);generalize hvv:ZI (Lib.decDigits a++F)=v at hz hdz |-;rw [Rb];by_cases hv0:v=[]
 ·rw [ya (.inl hv0)];rw [hv0] at hdz;have hdz:(0:Int)=dv (Lib.decDigits a++F):=hdz;rw [<-hdz] at key;omega
 ·have hvl:0<v.length:=Rj.2 hv0;rw [ga (λz=>z.elim hv0 (λz=>by omega)),ga (by omega)]
  have hq:(((Lib.decDigits a).length:Int)+0+3-(((((Lib.decDigits a).length+F.length:Nat):Int))-(v.length:Int))).toNat=v.length+(3-F.length):=by omega
  rw [hq,Jer];show min (dv v*_) _=_;rw [hdz,key];omega
theorem num_gen {W F v:List UInt8} (sg:Bool) (hW:AllDg W) (hW0:W≠[]) (hF:AllDg F) (hv:mD (hb v)=false) (hv2:F=[]->JQ v=false) :
  Za7 ((if sg then [45] else [])++(W++((if F=[] then [] else 46::F)++v)))=true/\
  zbn ((if sg then [45] else [])++(W++((if F=[] then [] else 46::F)++v))) =
   (if sg then 0-ZeQ (W++F) ((W.length:Int)+(Za0 v).1+3) else ZeQ (W++F) ((W.length:Int)+(Za0 v).1+3),
   decide (F=[])&&decide ((Za0 v).2=0),((if sg then [45] else [])++(W++(if F=[] then [] else 46::F))).length+(Za0 v).2):=by
 obtain ⟨d,W',rfl⟩:=yf hW0;have hd:=hW d (yc ..);obtain ⟨m1,m2,m3,m4⟩:=mD_not hd;generalize hR:(if F=[] then ([]:List UInt8) else 46::F)=R
 have hRv:mD (hb (R++v))=false:=by
  subst hR;by_cases q:F=[]
  ·rw [ya q];exact hv
  ·rw [ga q];rfl
 have hRl:R.length=if F=[] then 0 else 1+F.length:=by
  subst hR;split
  ·rfl
  ·rw [da];omega
 have hfs:JQ (R++v) = !decide (F=[]):=by
  subst hR;by_cases q:F=[]
  ·rw [ya q,gf,hv2 q];simp [q]
  ·rw [ga q];obtain ⟨e,F',rfl⟩:=yf q;have he:=hF e (yc ..);unfold JQ;simp only [Qc,jc,Hc,he];simp
 generalize hX:(if sg then ([45]:List UInt8) else [])++(d::W'++(R++v))=X
 have hs:ZaQ X=(if sg then 1 else 0)/\X.drop (ZaQ X)=d::W'++(R++v)/\Za7 X=true/\(hb X=45↔sg=true):=by
  subst hX;cases sg with
  | true=>
   refine ⟨rfl,rfl,?_,⟨λ_=>rfl,λ_=>rfl⟩⟩
   show Za7 (45::d::(W'++(R++v)))=true;unfold Za7;rw [ya (by rfl)]
   simp only [Hc,jc,hd,Yh]
  | false=>
   have h0:ZaQ (d::(W'++(R++v)))=0:=by unfold ZaQ;rw [jc,m1];rfl
   refine ⟨h0,?_,?_,⟨λz=>?_,λz=>by cases z⟩⟩
   ·show (d::(W'++(R++v))).drop (ZaQ (d::(W'++(R++v))))=_;rw [h0];rfl
   ·show Za7 (d::(W'++(R++v)))=true;unfold Za7;rw [jc,m1];simp only [yd,if_false,hd,Yh]
   ·have z:hb (d::(W'++(R++v)))=45:=z;rw [jc,m3] at z;exact z.elim
 obtain ⟨s1,s2,s3,s4⟩:=hs;have hwd:zaJ X=d::W':=by unfold zaJ;rw [s2];exact digs_app hW hRv
 have hbw:zA X=ZaQ X+(d::W').length:=by unfold zA;rw [hwd]
 have hdw:X.drop (zA X)=R++v:=by rw [hbw,<-xe,s2,ye]
 have hfd:zbD X=F:=by
  unfold zbD;rw [hdw,hfs];by_cases q:F=[]
  ·simp [q]
  ·simp only [q,decide_false,Rg,if_true];subst hR;rw [ga q,Qc,Hc];exact digs_app hF hv
 have hbf:Zl X=ZaQ X+((d::W').length+R.length):=by
  unfold Zl;rw [hdw,hfs,hfd,hbw,hRl];by_cases q:F=[]
  ·simp [q]
  ·simp only [q,decide_false,Rg,if_true,if_false];omega
 have hbv:X.drop (Zl X)=v:=by
  rw [hbf,<-xe,s2,<-xe,ye,ye]
 have hlen:((if sg then ([45]:List UInt8) else [])++(d::W'++R)).length=Zl X:=by
  rw [hbf,s1];cases sg <;> simp <;> omega
 refine ⟨s3,?_⟩;unfold zbn zae;simp only [hbv,hwd,hfd,hdw,hfs,Bool.not_not];rw [hlen];refine yi ?_ rfl;dsimp only;cases sg with
 | true=>rw [ya (s4.2 rfl)];rfl
 | false=>rw [ga (λz=>by have:=s4.1 z;cases this)];rfl
end Go.Proofs.YtplpmeednhcjkaaGreatDoor.I
namespace Go.Proofs.YtplpmeednhcjkaaGreatDoor
open Go.Proofs.Tryz
open Go.Vm Go.Sx Go.RowKit
theorem jai {x:List UInt8} (h:Za7 x=true):zy x=Zn x:=by
 have hx:(hb x=43\/hb x=45)\/(48<=hb x/\hb x<=57)\/hb x=46:=by
  unfold Za7 at h;split at h
  ·rename_i q;unfold mSg at q;simp only [xg,xc] at q;exact .inl q
  ·simp only [xg,mD,JQ,yb,xc] at h;rcases h with h|h
   ·exact .inr (.inl h)
   ·exact .inr (.inr h.1)
 have h1:mSp (hb x)=false:=by unfold mSp;simp;omega
 have h2:mQ (hb x)=false:=by unfold mQ;simp;omega
 unfold zy;rw [h1,ga (by decide),h2,ga (by decide),ga (λz=>by have:=z.1;omega)]
 unfold Zek;rw [ya h]
theorem jcT (n:Int) (f:Bool) (v:List UInt8):jD n f++v=(if decide (n<0) then [45] else [])++(Lib.decDigits (n.natAbs / 1000)++((if (if f then [] else fr3 3 (n.natAbs%1000))=[] then [] else 46::(if f then [] else fr3 3 (n.natAbs%1000)))++v)):=by
 have h2:=(I.fr_ok (r:=n.natAbs%1000) (gh _ (by decide))).2.1
 unfold jD;have e1:(if n<0 then [(45:UInt8)] else [])=if decide (n<0) then [45] else []:=by by_cases q:n<0 <;> simp [q]
 rw [e1];cases f with
 | true=>simp
 | false=>simp [h2]
theorem Zfr (n:Int) (f:Bool):(jD n f).length=((if decide (n<0) then [45] else [])++(Lib.decDigits (n.natAbs / 1000)++(if (if f then [] else fr3 3 (n.natAbs%1000))=[] then [] else 46::(if f then [] else fr3 3 (n.natAbs%1000))))).length:=by
 have:=jcT n f [];rw [xf,xf] at this;rw [<-this]
theorem Jjq {n:Int} (h:n.tmod 1000=0):n.natAbs%1000=0:=by
 rcases Int.le_total 0 n with q|q
 ·have h2:=I.tm (x:=n) (y:=n.natAbs) (by omega) 1000
  rw [show ((1000:Nat):Int)=1000 from rfl,h] at h2
  omega
 ·have h2:=Int.neg_tmod n 1000;have h3:=I.tm (x:=-n) (y:=n.natAbs) (by omega) 1000
  rw [show ((1000:Nat):Int)=1000 from rfl,h2,h] at h3
  omega
structure NumOK (n:Int) (f:Bool):Prop where
 lo:-1000000000000<=n
 hi:n<=1000000000000
 wh:f=true->n.tmod 1000=0
theorem zaR {n:Int} {f:Bool} (h:NumOK n f) {v:List UInt8} (hv:mD (hb v)=false) (hv2:f=true->JQ v=false) :
  Za7 (jD n f++v)=true/\(zbn (jD n f++v)).2=(f&&decide ((Za0 v).2=0),(jD n f).length+(Za0 v).2)/\((Za0 v).1=0->(zbn (jD n f++v)).1=n):=by
 obtain ⟨d1,d2,d3⟩:=I.dec_ok (n.natAbs / 1000);obtain ⟨f1,f2,f3,_⟩:=I.fr_ok (r:=n.natAbs%1000) (gh _ (by decide))
 have hlF:=I.fr3_len 3 (n.natAbs%1000);have hF:I.AllDg (if f then [] else fr3 3 (n.natAbs%1000)):=by
  cases f with
  | true=>intro b hb;cases hb
  | false=>exact f1
 have hFe:(if f then ([]:List UInt8) else fr3 3 (n.natAbs%1000))=[]->f=true:=by
  intro z;cases f with
  | true=>rfl
  | false=>exact absurd z f2
 have hFd:decide ((if f then ([]:List UInt8) else fr3 3 (n.natAbs%1000))=[])=f:=by
  cases f with
  | true=>rfl
  | false=>exact Ye f2
 have g:=I.num_gen (v:=v) (decide (n<0)) d1 d2 hF hv (λz=>hv2 (hFe z))
 rw [<-jcT n f v] at g;refine ⟨g.1,?_,λhe=>?_⟩
 ·rw [g.2,<-Zfr,hFd]
 ·rw [g.2,he];dsimp only;have hlo:=h.lo;have hhi:=h.hi;have hnat:n.natAbs=n.natAbs / 1000*1000+n.natAbs%1000:=by omega
  have hc:ZeQ (Lib.decDigits (n.natAbs / 1000)++(if f then [] else fr3 3 (n.natAbs%1000))) (((Lib.decDigits (n.natAbs / 1000)).length:Int)+0+3)=(n.natAbs:Int):=by
   cases f with
   | true=>
    have hr0:=Jjq (h.wh rfl);have:=I.cut_val (a:=n.natAbs / 1000) (r:=0) (by omega) (by omega) [] (by simp) (by simp [I.dv])
    simp only [if_true] at this |-;rw [this];omega
   | false=>
    have:=I.cut_val (a:=n.natAbs / 1000) (r:=n.natAbs%1000) (by omega) (by omega) _ hlF f3
    simp only [yd,if_false] at this |-;rw [this];omega
  rw [hc];by_cases q:n<0
  ·rw [ya (by simpa using q)];omega
  ·rw [ga (by simpa using q)];omega
def Jd6 (f:Bool) (v:List UInt8):Prop:=mD (hb v)=false/\(f=true->JQ v=false)/\Js v=false/\hb v≠37
theorem zdf {v:List UInt8} (h:mE (hb v)=true):Js v=true:=by
 have:hb v=101\/hb v=69:=by unfold mE at h;simpa using h
 unfold Js;rw [ya (by omega)]
 have h0:mN0 (hb v)=true:=by
  rcases this with q|q <;> rw [q] <;> decide
 rw [h0];rfl
theorem ZcF {v:List UInt8} (h:Js v=false):Za0 v=(0,0):=by
 refine Zce ?_;unfold Jbu;cases q:mE (hb v) with
 | false=>rfl
 | true=>rw [zdf q] at h;cases h
theorem JiA {n:Int} {f:Bool} (h:NumOK n f) {v:List UInt8} (hv:Jd6 f v):zy (jD n f++v)=(tk 10 [] n [] f,(jD n f).length):=by
 obtain ⟨v1,v2,v3,v4⟩:=hv;obtain ⟨g1,g2,g3⟩:=zaR h v1 v2;have he:=ZcF v3;rw [he] at g2 g3;have g3:=g3 rfl;have hd:(jD n f++v).drop (jD n f).length=v:=ye;rw [jai g1];unfold Zn;simp only [g2,g3,Re,hd,v3,ga v4,yd,if_false];simp
theorem Jfr {X:List UInt8} (h:(Zn X).1.flag=true):(zbn X).2.1=true:=by
 unfold Zn at h;dsimp only at h;generalize zbn X=r at *;split at h
 ·exact h
 ·split at h
  ·cases h
  ·exact h
theorem Zgf {n:Int} {f:Bool} (h:NumOK n f) {v:List UInt8} (v1:mD (hb v)=false) (v2:Jbu v=false) (ht:(zy (jD n f++v)).1=tk 10 [] n [] f):Jd6 f v:=by
 have he:=Zce v2;have hfr:f=true->JQ v=false:=by
  intro hf;cases q:JQ v with
  | false=>rfl
  | true=>
   exfalso;subst hf;have hv:∃c w,v=46::c::w/\mD (c.toNat:Int)=true:=by
    unfold JQ at q;simp only [yb,xc] at q;rcases v with _|⟨a,_|⟨b,r⟩⟩
    ·exact absurd q.1 (by decide)
    ·exact absurd q.2 (by show ¬mD 0=true;decide)
    ·have ha:a=46:=UInt8.toNat_inj.mp (by have:=q.1;rw [jc] at this;show a.toNat=46;omega)
     exact ⟨b,r,by rw [ha],q.2⟩
   obtain ⟨c,w,rfl,hc⟩:=hv;obtain ⟨d1,d2,d3⟩:=I.dec_ok (n.natAbs / 1000);have hsplit:c::w=jE (c::w)++(c::w).drop (jE (c::w)).length:=by
    have:(c::w).take (jE (c::w)).length=jE (c::w):=by
     have:∀x:List UInt8,x.take (jE x).length=jE x:=by
      intro x
      induction x with
      | nil=>rfl
      | cons a x ih=>
       cases hq:mD (a.toNat:Int) with
       | true=>rw [I.digs_pos hq,da,Hn,ih]
       | false=>rw [I.digs_neg hq];rfl
     exact this _
    conv=>lhs;rw [<-Hp (jE (c::w)).length (c::w)]
    rw [this]
   have hall:∀x:List UInt8,I.AllDg (jE x)/\mD (hb (x.drop (jE x).length))=false:=by
    intro x
    induction x with
    | nil=>exact ⟨λb hb=>(by cases hb),by decide⟩
    | cons a x ih=>
     cases hq:mD (a.toNat:Int) with
     | true=>
      rw [I.digs_pos hq,da,Hf];refine ⟨λb hb=>?_,ih.2⟩
      rcases gc.1 hb with rfl|hb
      ·exact hq
      ·exact ih.1 b hb
     | false=>rw [I.digs_neg hq];exact ⟨λb hb=>(by cases hb),hq⟩
   obtain ⟨a1,a2⟩:=hall (c::w);have hne:jE (c::w)≠[]:=by rw [I.digs_pos hc];simp
   have g:=I.num_gen (v:=(c::w).drop (jE (c::w)).length) (decide (n<0)) d1 d2 a1 a2 (λz=>absurd z hne)
   rw [ga hne,Qc,<-hsplit] at g;have e:=jcT n true (46::c::w);simp only [if_true,gf] at e;rw [<-e] at g;rw [jai g.1] at ht;have hfl:(Zn (jD n true++46::c::w)).1.flag=true:=by rw [ht];rfl
   have:=Jfr hfl;rw [g.2] at this;simp [hne] at this
 obtain ⟨g1,g2,g3⟩:=zaR h v1 hfr;rw [he] at g2 g3;have g3:=g3 rfl;have hd:(jD n f++v).drop (jD n f).length=v:=ye;rw [jai g1] at ht;unfold Zn at ht;simp only [g2,g3,Re,hd] at ht;cases h3:Js v with
 | true=>rw [h3,ya rfl] at ht;exact absurd (Ya Tok.kind ht) (by show ¬(12:Int)=10;decide)
 | false=>
  refine ⟨v1,hfr,h3,λz=>?_⟩
  rw [h3,ga (by decide),ya z] at ht
  exact absurd (Ya Tok.kind ht) (by show ¬(11:Int)=10;decide)
theorem ziB {n:Int} (h:NumOK n (jau n)) (v:List UInt8):zy (jD n (jau n)++[37]++v)=(tk 11 [] n,(jD n (jau n)++[37]).length):=by
 rw [Qb,Qj];have hn:Js (37::v)=false:=rfl;obtain ⟨g1,g2,g3⟩:=zaR h (v:=37::v) (by show mD 37=false;decide) (λ_=>rfl)
 have he:=ZcF hn;rw [he] at g2 g3;have g3:=g3 rfl;have hd:(jD n (jau n)++37::v).drop (jD n (jau n)).length=37::v:=ye;rw [jai g1];unfold Zn;simp only [g2,g3,Re,hd,hn,yd,if_false];rw [ya (by rfl)]
 simp [Rb]
theorem zbo {u:List UInt8} (hu:u≠[]) (h0:(0:UInt8)∉u) (v:List UInt8):Js (zQ u++v)=true/\jj (zQ u++v)=(u++(jj v).1,(zQ u).length+(jj v).2):=by
 unfold zQ;split
 ·refine ⟨?_,?_⟩
  ·obtain ⟨c,w,rfl⟩:=yf hu;have:JaB 0 0 (c::w)=jbh c++JaB 0 (0+1) w:=by simp [JaB]
   rw [this,Qb];exact zdl c _
  ·refine Jd5 0 u 0 v h0 ?_;rename_i q;obtain ⟨c,w,rfl⟩:=yf hu;unfold JeB at q;simp only [yb,jc] at q;have hc:(c.toNat:Int)=101\/(c.toNat:Int)=69:=by have:=q.1;unfold mE at this;simpa using this
   unfold okE
   first|(refine ⟨?_,JaY _ _ _ (by omega)⟩;intro;omega)|(exact ⟨λ_=>by omega,JaY _ _ _ (by omega)⟩)|(simp only [okE];omega)
 ·exact ⟨zt hu v,zce h0 v⟩
theorem jbo {x:List UInt8} (h:Js x=true):mD (hb x)=false/\JQ x=false/\hb x≠37:=by
 have h2:=Jbn h;refine ⟨?_,?_,?_⟩
 ·unfold mD;simp only [Bool.and_eq_false_iff,Rh];rcases h2 with q|q|q
  ·have:=Zcu q;omega
  ·omega
  ·omega
 ·unfold JQ;simp only [Bool.and_eq_false_iff,Rh];left;rcases h2 with q|q|q
  ·have:=Zcu q;omega
  ·omega
  ·omega
 ·rcases h2 with q|q|q
  ·have:=Zcu q;omega
  ·omega
  ·omega
def Jel (u v:List UInt8):Prop:=Jx v=false/\Jbu (zQ u++v)=false
theorem jhh {n:Int} {f:Bool} {u:List UInt8} (h:NumOK n f) (hu:u≠[]) (h0:(0:UInt8)∉u) {v:List UInt8} (he:Jbu (zQ u++v)=false) :
  zy (jD n f++zQ u++v)=(tk 12 [] n (u++(jj v).1) f,(jD n f++zQ u).length+(jj v).2):=by
 obtain ⟨n1,n2⟩:=zbo hu h0 v;obtain ⟨s1,s2,s3⟩:=jbo n1;rw [Qb];obtain ⟨g1,g2,g3⟩:=zaR h s1 (λ_=>s2)
 rw [Zce he] at g2 g3;have g3:=g3 rfl;have hd:(jD n f++(zQ u++v)).drop (jD n f).length=zQ u++v:=ye;rw [jai g1];unfold Zn;simp only [g2,g3,Re,hd,n1,if_true,n2];refine yi ?_ ?_
 ·simp
 ·simp only [Rb];omega
theorem jiB {n:Int} {f:Bool} {u:List UInt8} (h:NumOK n f) (hu:u≠[]) (h0:(0:UInt8)∉u) {v:List UInt8} (hv:Jel u v):zy (jD n f++zQ u++v)=(tk 12 [] n u f,(jD n f++zQ u).length):=by
 rw [jhh h hu h0 hv.2,jZ hv.1];simp
theorem Zh6 {n:Int} {f:Bool} {u:List UInt8} (h:NumOK n f) (hu:u≠[]) (h0:(0:UInt8)∉u) {v:List UInt8} (he:Jbu (zQ u++v)=false) (ht:(zy (jD n f++zQ u++v)).1=tk 12 [] n u f):Jel u v:=by
 rw [jhh h hu h0 he] at ht;refine ⟨?_,he⟩;cases q:Jx v with
 | false=>rfl
 | true=>
  have:=Ya Tok.unit ht;exact absurd (zdz this) (Jdy q)
theorem zd7:∀w:List UInt8,ZI (w++[48])=if ZI w=[] then [] else ZI w++[48]
 | []=>rfl
 | c::w=>by
  have ih:=zd7 w;unfold ZI at ih |-;rw [Qc,dp,dp];by_cases q:(c==48)=true
  ·rw [ya q,ya q,ih]
  ·rw [ga q,ga q,ga (by simp),Qc]
theorem jd7:∀(w:List UInt8) (k:Nat) (a:Int),Jbf k (w++[48]) a=Jbf k w a
 | [],0,a=>rfl
 | [],k+1,a=>by
  show Jbf k [] (a*10+(((48:UInt8).toNat:Int)-48))=Jbf k [] (a*10);rw [show a*10+(((48:UInt8).toNat:Int)-48)=a*10 by simp]
 | c::w,0,a=>rfl
 | c::w,k+1,a=>jd7 w k _
theorem JhQ (w:List UInt8) (p:Int):ZeQ (w++[48]) p=ZeQ w p:=by
 unfold ZeQ;dsimp only;rw [zd7,Rb];by_cases q:ZI w=[]
 ·rw [ya q,ya (.inl rfl),ya (.inl q)]
 ·rw [ga q,Rb];have hz:=I.zeros0_len w;simp only [da,Hd];have e:p-(((w.length+(0+1):Nat):Int)-((((ZI w).length+(0+1):Nat)):Int))=p-((w.length:Int)-((ZI w).length:Int)):=by omega
  rw [e];have h1:(ZI w++[48]=[]\/p-((w.length:Int)-((ZI w).length:Int))<=0)↔(ZI w=[]\/p-((w.length:Int)-((ZI w).length:Int))<=0):=by simp [q]
  by_cases q2:ZI w=[]\/p-((w.length:Int)-((ZI w).length:Int))<=0
  ·rw [ya q2,ya (h1.2 q2)]
  ·rw [ga q2,ga (λz=>q2 (h1.1 z)),jd7]
theorem zhR (w:List UInt8) (p:Int):ZeQ (48::w) (p+1)=ZeQ w p:=by
 have hz:ZI (48::w)=ZI w:=rfl;unfold ZeQ;dsimp only;rw [hz,da];have e:p+1-(((w.length+1:Nat):Int)-((ZI w).length:Int))=p-((w.length:Int)-((ZI w).length:Int)):=by omega
 rw [e]
theorem zfX {d:UInt8} (hd:mD (d.toNat:Int)=true) (W:List UInt8):zy (48::46::d::W)=((zy (46::d::W)).1,(zy (46::d::W)).2+1):=by
 have n1:Za7 (48::46::d::W)=true:=by
  unfold Za7;rw [ga (by show ¬mSg 48=true;decide)]
  show (mD 48||_)=true;rw [show mD 48=true by decide];rfl
 have f1:JQ (46::d::W)=true:=by simp [JQ,hd]
 have n2:Za7 (46::d::W)=true:=by
  unfold Za7;rw [ga (by show ¬mSg 46=true;decide),f1];simp
 rw [jai n1,jai n2];have s1:ZaQ (48::46::d::W)=0:=rfl;have s2:ZaQ (46::d::W)=0:=rfl;have w2:zaJ (46::d::W)=[]:=by unfold zaJ;rw [s2];exact I.digs_neg (by show mD 46=false;decide)
 have w1:zaJ (48::46::d::W)=[48]:=by
  unfold zaJ;rw [s1];show jE (48::46::d::W)=[48];rw [I.digs_pos (by show mD 48=true;decide),I.digs_neg (by show mD 46=false;decide)]
 have b1:zA (48::46::d::W)=1:=by unfold zA;rw [s1,w1];rfl
 have b2:zA (46::d::W)=0:=by unfold zA;rw [s2,w2];rfl
 have r1:(48::46::d::W).drop 1=46::d::W:=rfl;have r2:(46::d::W).drop 0=46::d::W:=rfl;have g1:zbD (48::46::d::W)=jE (d::W):=by unfold zbD;rw [b1,r1,ya f1];rfl
 have g2:zbD (46::d::W)=jE (d::W):=by unfold zbD;rw [b2,r2,ya f1];rfl
 have c2:Zl (46::d::W)=1+(jE (d::W)).length:=by unfold Zl;rw [b2,r2,ya f1,g2];omega
 have c1:Zl (48::46::d::W)=Zl (46::d::W)+1:=by rw [c2];unfold Zl;rw [b1,r1,ya f1,g1];omega
 have dr:∀k,(48::46::d::W).drop (k+1)=(46::d::W).drop k:=λk=>rfl
 have e1:zae (48::46::d::W)=zae (46::d::W)+1:=by unfold zae;rw [c1,dr];omega
 have m1:zbn (48::46::d::W)=((zbn (46::d::W)).1,(zbn (46::d::W)).2.1,(zbn (46::d::W)).2.2+1):=by
  unfold zbn;rw [w1,w2,g1,g2,c1,dr,b1,b2,r1,r2,e1];have k1:¬hb (48::46::d::W)=45:=by show ¬(48:Int)=45;decide
  have k2:¬hb (46::d::W)=45:=by show ¬(46:Int)=45;decide
  simp only [ga k1,ga k2];refine yi ?_ rfl;dsimp only;rw [Qj,gf];have e:∀x:Int,((([48]:List UInt8).length:Int))+x+3=((([]:List UInt8).length:Int))+x+3+1:=λx=>by
   show (1:Int)+x+3=0+x+3+1;omega
  rw [e];exact zhR _ _
 unfold Zn;rw [m1];dsimp only;rw [dr];split
 ·refine yi rfl ?_;dsimp only;omega
 ·split
  ·rfl
  ·rfl
theorem Zhh {n:Int} (h:NumOK n false) {d:UInt8} (hd:mD (d.toNat:Int)=true) (W:List UInt8):zy (jD n false++48::46::d::W)=(tk 10 [] n [] false,(jD n false).length+1):=by
 obtain ⟨d1,d2,d3⟩:=I.dec_ok (n.natAbs / 1000);obtain ⟨f1,f2,f3,_⟩:=I.fr_ok (r:=n.natAbs%1000) (gh _ (by decide))
 have hlF:=I.fr3_len 3 (n.natAbs%1000);have hlo:=h.lo;have hhi:=h.hi;have hF:I.AllDg (fr3 3 (n.natAbs%1000)++[48]):=by
  intro b hb;rcases Rf.1 hb with q|q
  ·exact f1 b q
  ·rw [yh] at q;subst q;decide
 have hne:fr3 3 (n.natAbs%1000)++[48]≠[]:=by simp
 have hnm:Js (46::d::W)=false:=rfl;have hex:=ZcF hnm;have g:=I.num_gen (v:=46::d::W) (decide (n<0)) d1 d2 hF (by show mD 46=false;decide) (λz=>absurd z hne)
 rw [ga hne,hex] at g;have e:=jcT n false (48::46::d::W);simp only [yd,if_false,ga f2] at e;have e2:(46::fr3 3 (n.natAbs%1000))++48::46::d::W=(46::(fr3 3 (n.natAbs%1000)++[48]))++46::d::W:=by simp
 rw [e2] at e;rw [<-e] at g;have hl:=Zfr n false;simp only [yd,if_false,ga f2] at hl;have hc:=I.cut_val (a:=n.natAbs / 1000) (r:=n.natAbs%1000) (by omega) (by omega) _ hlF f3
 have hv:zbn (jD n false++48::46::d::W)=(n,false,(jD n false).length+1):=by
  rw [g.2,<-Qb,JhQ,hc,hl];refine yi ?_ (yi ?_ ?_)
  ·dsimp only;by_cases q:n<0
   ·rw [ya (by simpa using q)];omega
   ·rw [ga (by simpa using q)];omega
  ·simp
  ·simp;omega
 rw [jai g.1];have hdrop:(jD n false++48::46::d::W).drop ((jD n false).length+1)=46::d::W:=by
  rw [<-xe,ye];rfl
 unfold Zn;rw [hv];dsimp only;rw [hdrop,hnm,ga (by decide),ga (by show ¬(46:Int)=37;decide)]
inductive RD:List UInt8->List Tok->Prop where
 | nil {u:List UInt8}:u.drop (comM u)=[]->RD u []
 | cons {u:List UInt8} {L:List Tok}:u.drop (comM u)≠[]->RD ((u.drop (comM u)).drop (zy (u.drop (comM u))).2) L->RD u ((zy (u.drop (comM u))).1::L)
theorem jay {L:List Tok} (h:RD [] L):L=[]:=by
 cases h with
 | nil _=>rfl
 | cons h _=>simp at h
theorem zes {u:List UInt8} {t:Tok} {L:List Tok} (h:RD u (t::L)):u.drop (comM u)≠[]/\(zy (u.drop (comM u))).1=t/\RD ((u.drop (comM u)).drop (zy (u.drop (comM u))).2) L:=by
 generalize hM:t::L=M at h;cases h with
 | nil _=>cases hM
 | cons h1 h2=>
  injection hM with e1 e2
  subst e1 e2;exact ⟨h1,rfl,h2⟩
theorem jG {u:List UInt8} {t:Tok} {L:List Tok} (hc:comM u=0) (h:RD u (t::L)):u≠[]/\(zy u).1=t/\RD (u.drop (zy u).2) L:=by
 have:=zes h;rw [hc,dh] at this;exact this
theorem jgB {u:List UInt8} {t:Tok} {n:Nat} {L:List Tok} (hc:comM u=0) (hu:u≠[]) (ht:zy u=(t,n)) (h:RD (u.drop n) L):RD u (t::L):=by
 have h2:RD u ((zy (u.drop (comM u))).1::L):=by
  refine .cons ?_ ?_
  ·rw [hc,dh];exact hu
  ·rw [hc,dh,ht];exact h
 rw [hc,dh,ht] at h2;exact h2
theorem Jhh {X V:List UInt8} {t:Tok} {L:List Tok} (hX:X≠[]) (hc:comM (X++V)=0) (ht:zy (X++V)=(t,X.length)):RD (X++V) (t::L)↔RD V L:=by
 refine ⟨λh=>?_,λh=>?_⟩
 ·have:=(jG hc h).2.2;rw [ht,ye] at this;exact this
 ·exact jgB hc (by simp [hX]) ht (by rw [ye];exact h)
theorem jhR (V:List UInt8):comM ([47,42,42,47]++V)=4+comM V:=by
 show comM (47::42::42::47::V)=_;rw [comM];have h1:[47,42].isPrefixOf (47::42::42::47::V)=true:=by simp [List.isPrefixOf]
 have h2:zW ((47::42::42::47::V).drop 2)=some 0:=by
  show zW (42::47::V)=some 0;unfold zW;rw [ya ⟨rfl,rfl⟩]
 rw [ya h1,h2];simp
theorem Jh6 {V:List UInt8} {L:List Tok}:RD ([47,42,42,47]++V) L↔RD V L:=by
 have e:([47,42,42,47]++V).drop (comM ([47,42,42,47]++V))=V.drop (comM V):=by
  rw [jhR,<-xe];rfl
 refine ⟨λh=>?_,λh=>?_⟩
 ·cases h with
  | nil h=>rw [e] at h;exact .nil h
  | cons h1 h2=>rw [e] at h1 h2 |-;exact .cons h1 h2
 ·cases h with
  | nil h=>rw [<-e] at h;exact .nil h
  | cons h1 h2=>rw [<-e] at h1 h2 |-;exact .cons h1 h2
def exV (t:Tok) (v:List UInt8):Prop:=t.kind=10/\t.flag=false/\∃(d:UInt8) (W:List UInt8),mD (d.toNat:Int)=true/\v=48::46::d::W
def stM (t:Tok) (v:List UInt8):Prop:=
 if t.kind=1 then Zd6 t.text v
 else if t.kind=3 then Jx v=false
 else if t.kind=4 then Jx v=false
 else if t.kind=9 then ∀c,t.text=[c]->zbZ c v
 else if t.kind=10 then Jd6 t.flag v\/exV t v
 else if t.kind=12 then Jel t.unit v
 else if t.kind=13 then mSp (hb v)=false
 else True
theorem Zd7 {t:Tok} {v:List UInt8} (W:List UInt8) (h:exV t v):exV t (v++W):=by
 obtain ⟨h1,h2,d,X,h3,rfl⟩:=h;exact ⟨h1,h2,d,X++W,h3,rfl⟩
theorem zhi {t:Tok} {v:List UInt8} (W:List UInt8) (h:stM t v):stM t (v++47::W):=by
 unfold stM at h |-;split
 ·rename_i q;rw [ya q] at h;obtain ⟨h1,h2,h3⟩:=h;refine ⟨by rw [jbg];exact h1,JbR W (λx=>x=40) (by decide) h2,λz=>?_⟩
  exact JbR W (λx=>x=62) (by decide) (λq=>h3 ⟨z.1,q⟩) z.2
 rename_i q;rw [ga q] at h;split
 ·rename_i q;rw [ya q] at h;rw [jbg];exact h
 rename_i q;rw [ga q] at h;split
 ·rename_i q;rw [ya q] at h;rw [jbg];exact h
 rename_i q;rw [ga q] at h;split
 ·rename_i q;rw [ya q] at h;exact λc hc=>ZfW W (h c hc)
 rename_i q;rw [ga q] at h;split
 ·rename_i q;rw [ya q] at h;rcases h with ⟨h1,h2,h3,h4⟩|h
  ·left;refine ⟨?_,λz=>by rw [jfW];exact h2 z,by rw [jcF];exact h3,JbR W (λx=>x=37) (by decide) h4⟩
   have:=JbR (V:=v) W (λx=>mD x=true) (by decide) (by rw [h1];decide)
   simpa using this
  ·exact .inr (Zd7 _ h)
 rename_i q;rw [ga q] at h;split
 ·rename_i q;rw [ya q] at h;exact ⟨by rw [jbg];exact h.1,by rw [<-Qb,JgA];exact h.2⟩
 rename_i q;rw [ga q] at h;split
 ·rename_i q;rw [ya q] at h;have:=JbR (V:=v) W (λx=>mSp x=true) (by decide) (by rw [h];decide)
  simpa using this
 ·trivial
theorem ZiB {t:Tok} {v:List UInt8} (W:List UInt8) (hl:3<=v.length) (h:stM t v):stM t (v++W):=by
 unfold stM at h |-;split
 ·rename_i q;rw [ya q] at h;obtain ⟨h1,h2,h3⟩:=h;exact ⟨by rw [Zcd (by omega)];exact h1,by rw [jX (by omega)];exact h2,by rw [jX (by omega)];exact h3⟩
 rename_i q;rw [ga q] at h;split
 ·rename_i q;rw [ya q] at h;rw [Zcd (by omega)];exact h
 rename_i q;rw [ga q] at h;split
 ·rename_i q;rw [ya q] at h;rw [Zcd (by omega)];exact h
 rename_i q;rw [ga q] at h;split
 ·rename_i q;rw [ya q] at h;exact λc hc=>(zhh W hl).2 (h c hc)
 rename_i q;rw [ga q] at h;split
 ·rename_i q;rw [ya q] at h;rcases h with ⟨h1,h2,h3,h4⟩|h
  ·exact .inl ⟨by rw [jX (by omega)];exact h1,λz=>by rw [zd5 (by omega)];exact h2 z,by rw [Jd4 (by omega)];exact h3,by rw [jX (by omega)];exact h4⟩
  ·exact .inr (Zd7 _ h)
 rename_i q;rw [ga q] at h;split
 ·rename_i q;rw [ya q] at h;exact ⟨by rw [Zcd (by omega)];exact h.1,by rw [<-Qb,ZeV (by rw [Rb];omega)];exact h.2⟩
 rename_i q;rw [ga q] at h;split
 ·rename_i q;rw [ya q] at h;rw [jX (by omega)];exact h
 ·trivial
theorem jes {a b:Tok} (h:jaf a b=true):a=b:=by
 unfold jaf at h;simp only [yb,xc] at h;obtain ⟨h1,h2,h3,h4,h5⟩:=h;cases a;cases b;simp only at h1 h2 h3 h4 h5;subst h1 h2 h3 h4 h5;rfl
theorem JeV {t:Tok} (h:ZbY t=true):NumOK t.num t.flag:=by
 unfold ZbY at h;simp only [yb,xg,xc,Rm] at h;refine ⟨h.1,h.2.1,λz=>?_⟩
 rcases h.2.2 with q|q
 ·rw [z] at q;cases q
 ·unfold jau at q;simpa using q
inductive Can:Tok->Prop where
 | ident (a:List UInt8) (ha:a≠[]) (h0:(0:UInt8)∉a):Can (tk 1 a)
 | func (a:List UInt8) (ha:a≠[]) (h0:(0:UInt8)∉a):Can (tk 2 a)
 | atk (a:List UInt8) (ha:a≠[]) (h0:(0:UInt8)∉a):Can (tk 3 a)
 | hash (a:List UInt8) (f:Bool) (ha:a≠[]) (h0:(0:UInt8)∉a) (hf:f=true\/zcW a≠-1):Can (tk 4 a 0 [] f)
 | str (a:List UInt8) (h0:(0:UInt8)∉a):Can (tk 5 a)
 | url (a:List UInt8) (h0:(0:UInt8)∉a):Can (tk 7 a)
 | del (c:UInt8) (hc:DelOK c) (h0:c≠0):Can (tk 9 [c])
 | num (n:Int) (f:Bool) (h:NumOK n f):Can (tk 10 [] n [] f)
 | pct (n:Int) (h:NumOK n (jau n)):Can (tk 11 [] n)
 | dim (n:Int) (u:List UInt8) (f:Bool) (h:NumOK n f) (hu:u≠[]) (h0:(0:UInt8)∉u):Can (tk 12 [] n u f)
 | sp:Can (tk 13)
 | cdo:Can (tk 14)
 | cdc:Can (tk 15)
 | mark (k:Int) (hk:16<=k/\k<=24):Can (tk k)
theorem zfs {t:Tok} (h:zcu t=true):Can t:=by
 unfold zcu at h;simp only [yb,Rm,List.contains_eq_mem,Rh] at h;obtain ⟨h1,h2,h3,h4⟩:=h;have e:=jes h1;unfold Zcs at e;by_cases k1:t.kind∈([1,2,3]:List Int)
 ·rw [ya k1] at h4;rw [ya (by simp only [gc,Qe,or_false] at k1 |-;omega)] at e
  have h4:t.text≠[]:=by simpa using h4
  simp only [gc,Qe,or_false] at k1;rw [e];rcases k1 with k|k|k <;> rw [k]
  ·exact .ident _ h4 h2
  ·exact .func _ h4 h2
  ·exact .atk _ h4 h2
 rw [ga k1] at h4;simp only [gc,Qe,or_false,not_or] at k1;by_cases k4:t.kind=4
 ·rw [ya k4] at h4;rw [ga (by simp only [gc,Qe,or_false];omega),ya k4,k4] at e
  simp only [yb,xg,xc,bne_iff_ne] at h4;rw [e];exact .hash _ _ h4.1 h2 h4.2
 rw [ga k4] at h4;by_cases k9:t.kind=9
 ·rw [ya k9] at h4;rw [ya (by simp [k9]),k9] at e
  obtain ⟨c,hc,ho⟩:=Jiz h4;rw [e,hc];exact .del c ho (λz=>h2 (by rw [hc,z];simp))
 rw [ga k9] at h4;by_cases k10:t.kind=10\/t.kind=11
 ·rw [ya k10] at h4;rw [ga (by simp only [gc,Qe,or_false];omega),ga k4] at e
  rcases k10 with k|k
  ·rw [ya k,k] at e;rw [e];exact .num _ _ (JeV h4)
  ·rw [ga (by omega),ya k,k] at e
   rw [e];have:=JeV h4;exact .pct _ ⟨this.lo,this.hi,λz=>by unfold jau at z;simpa using z⟩
 rw [ga k10] at h4;by_cases k12:t.kind=12
 ·rw [ya k12] at h4;simp only [yb,bne_iff_ne] at h4;rw [ga (by simp only [gc,Qe,or_false];omega),ga k4,ga (by omega),ga (by omega),ya k12,k12] at e
  rw [e];exact .dim _ _ _ (JeV h4.1) h4.2 h3
 rw [ga k12] at h4;by_cases k6:t.kind=6\/t.kind=8
 ·rw [ya k6] at h4;cases h4
 rw [ga k6] at h4;simp only [yb,xc] at h4;by_cases k5:t.kind=5\/t.kind=7
 ·rw [ya (by simp only [gc,Qe,or_false];omega)] at e
  rw [e];rcases k5 with k|k <;> rw [k]
  ·exact .str _ h2
  ·exact .url _ h2
 rw [ga (by simp only [gc,Qe,or_false];omega),ga k4,ga (by omega),ga (by omega),ga k12] at e
 rw [e];by_cases k13:t.kind=13
 ·rw [k13];exact .sp
 by_cases k14:t.kind=14
 ·rw [k14];exact .cdo
 by_cases k15:t.kind=15
 ·rw [k15];exact .cdc
 exact .mark _ (by omega)
theorem Jbi {X V:List UInt8} {t:Tok} {L:List Tok} (hX:X≠[]) (h47:hb X≠47) (ht:zy (X++V)=(t,X.length)):RD (X++V) (t::L)↔RD V L:=by
 refine Jhh hX (zai λz=>h47 ?_) ht
 rw [<-z.1,jX (Rj.2 hX)]
theorem jfs {x:List UInt8} (h:Za7 x=true):hb x=43\/hb x=45\/hb x=46\/mD (hb x)=true:=by
 unfold Za7 at h;split at h
 ·rename_i q;unfold mSg at q;simp only [xg,xc] at q;omega
 ·simp only [xg,JQ,yb,xc] at h;rcases h with h|h
  ·exact .inr (.inr (.inr h))
  ·exact .inr (.inr (.inl h.1))
theorem ZcT {c:Int} (h:mD c=true):48<=c/\c<=57:=by unfold mD at h;simpa using h
theorem Zes {n:Int} {f:Bool} (h:NumOK n f):Za7 (jD n f)=true:=by
 have:=(zaR h (v:=[]) (by decide) (λ_=>by decide)).1
 rwa [xf] at this
theorem JI {n:Int} {f:Bool} (h:NumOK n f):jD n f≠[]:=λz=>by
 have:=Zes h;rw [z] at this;exact absurd this (by decide)
theorem zaF {n:Int} {f:Bool} (h:NumOK n f):hb (jD n f)≠47:=λz=>by
 rcases jfs (Zes h) with q|q|q|q
 ·omega
 ·omega
 ·omega
 ·have:=ZcT q;omega
theorem JcT {X Y:List UInt8} (hX:X≠[]) (h:hb X≠47):hb (X++Y)≠47:=by
 rw [jX (Rj.2 hX)];exact h
theorem zjr {V:List UInt8} (h:mSp (hb V)=false):nSp V=0:=by
 cases V with
 | nil=>rfl
 | cons c w=>simp only [nSp];rw [jc] at h;rw [h];rfl
theorem Jes {a:List UInt8} (ha:a≠[]):hb (zX a)≠47:=(zfr (jer ha)).1
theorem Zbg {k:Int} (hk:16<=k/\k<=24):tokT (tk k)=[marksT.getD (k-16).toNat 0]:=by
 have h:∀j:Int,j<16->k≠j:=λj hj=>by omega
 have e:∀j:Int,j<16->(tk k).kind≠j:=h;unfold tokT;simp only [e 13 (by decide),e 1 (by decide),e 2 (by decide),e 3 (by decide),e 4 (by decide),e 5 (by decide),e 7 (by decide),e 10 (by decide),e 11 (by decide),e 12 (by decide),e 9 (by decide),e 14 (by decide),e 15 (by decide),if_false]
 rfl
theorem ZhR {t:Tok} {V:List UInt8} {L:List Tok} (hc:Can t) (hb1:jbD t=false) (hu1:zcE t=false) (h:stM t V):RD (tokT t++V) (t::L)↔RD V L:=by
 cases hc with
 | ident a ha h0=>
  have h:Zd6 a V:=h;exact Jbi (jdl ha) (Jes ha) (zhf ha h0 h)
 | func a ha h0=>
  have hu:z6 a [117,114,108]=false:=by simpa [zcE,tk] using hu1
  show RD (zX a++[40]++V) _↔_;refine Jbi (by simp) (JcT (jdl ha) (Jes ha)) ?_
  rw [Qb,Qj,ZfV ha h0 (λz=>by rw [hu] at z;cases z)]
  simp
 | atk a ha h0=>
  have h:Jx V=false:=h;exact Jbi (X:=64::zX a) (by simp) (by show ¬(64:Int)=47;decide) (zi2 ha h0 h)
 | hash a f ha h0 hf=>
  have h:Jx V=false:=h;exact Jbi (X:=jcc a f) (by simp [jcc]) (by show ¬(35:Int)=47;decide) (jhQ ha h0 hf h)
 | str a h0=>exact Jbi (X:=34::(jaJ a++[34])) (by simp) (by show ¬(34:Int)=47;decide) (JfV h0)
 | url a h0=>exact Jbi (X:=[117,114,108,40]++(Zbi a++[41])) (by simp) (by show ¬(117:Int)=47;decide) (ziz h0)
 | del c hc h0=>
  have h:zbZ c V:=h c rfl;refine Jhh (X:=[c]) (by simp) (zai λz=>h.2.2.2.2.2.2 z) (ziA hc h)
 | num n f hn=>
  have h:Jd6 f V\/exV (tk 10 [] n [] f) V:=h;show RD (jD n f++V) _↔_;rcases h with h|⟨_,hf,d,W,hd,rfl⟩
  ·exact Jbi (JI hn) (zaF hn) (JiA hn h)
  ·have hf:f=false:=hf;subst hf;have hr:=Zhh hn hd W;have hc0:comM (jD n false++48::46::d::W)=0:=zai λz=>JcT (JI hn) (zaF hn) z.1
   have hdr:(jD n false++48::46::d::W).drop ((jD n false).length+1)=46::d::W:=by rw [<-xe,ye];rfl
   have e1:RD (jD n false++48::46::d::W) (tk 10 [] n [] false::L)↔RD (46::d::W) L:=by
    refine ⟨λz=>?_,λz=>?_⟩
    ·have:=(jG hc0 z).2.2;rw [hr,hdr] at this;exact this
    ·exact jgB hc0 (by simp) hr (by rw [hdr];exact z)
   rw [e1];have k1:comM (48::46::d::W)=0:=zai λz=>absurd z.1 (by show ¬(48:Int)=47;decide)
   have k2:comM (46::d::W)=0:=zai λz=>absurd z.1 (by show ¬(46:Int)=47;decide)
   have hs:=zfX hd W;cases L with
   | nil=>
    refine ⟨λz=>?_,λz=>?_⟩
    ·cases z with
     | nil z=>rw [k2] at z;cases z
    ·cases z with
     | nil z=>rw [k1] at z;cases z
   | cons b L=>
    refine ⟨λz=>?_,λz=>?_⟩
    ·obtain ⟨-,z2,z3⟩:=jG k2 z;exact jgB k1 (by simp) (hs.trans (by rw [z2])) z3
    ·obtain ⟨-,z2,z3⟩:=jG k1 z;rw [hs] at z2 z3;exact jgB k2 (by simp) (yi z2 rfl) z3
 | pct n hn=>
  show RD (jD n (jau n)++[37]++V) _↔_;exact Jbi (by simp) (JcT (JI hn) (zaF hn)) (ziB hn V)
 | dim n u f hn hu h0=>
  have h:Jel u V:=h;show RD (jD n f++zQ u++V) _↔_;exact Jbi (by simp [JI hn]) (JcT (JI hn) (zaF hn)) (jiB hn hu h0 h)
 | sp=>
  have h:mSp (hb V)=false:=h;refine Jbi (X:=[32]) (by simp) (by show ¬(32:Int)=47;decide) ?_
  rw [Qj,jfr 32 (.inl rfl),zjr h];rfl
 | cdo=>exact Jbi (X:=[60,33,45,45]) (by simp) (by show ¬(60:Int)=47;decide) (jiz V)
 | cdc=>exact Jbi (X:=[45,45,62]) (by simp) (by show ¬(45:Int)=47;decide) (jiA V)
 | mark k hk=>
  have e:=Zbg hk;rw [e];refine Jbi (by simp) ?_ (ZhQ hk V)
  obtain ⟨n,rfl⟩:∃n:Nat,k=16+(n:Int):=⟨(k-16).toNat,by omega⟩
  have key:∀n:Nat,n<9->(((marksT.getD n 0).toNat:Int))≠47:=by decide +kernel
  rw [show (16+(n:Int)-16).toNat=n by omega]
  exact key n (by omega)
inductive Pc:List Tok->List UInt8->Prop where
 | one (t:Tok) (hc:Can t) (h1:jbD t=false) (h2:zcE t=false):Pc [t] (tokT t)
 | bs:Pc [tk 9 [92],tk 13] [92,10]
 | uf (a s:List UInt8) (ha:a≠[]) (h0:(0:UInt8)∉a) (hu:z6 a [117,114,108]=true) (hs:(0:UInt8)∉s):Pc [tk 2 a,tk 5 s] (zX a++[40]++(34::(jaJ s++[34])))
 | ufs (a s:List UInt8) (ha:a≠[]) (h0:(0:UInt8)∉a) (hu:z6 a [117,114,108]=true) (hs:(0:UInt8)∉s):Pc [tk 2 a,tk 13,tk 5 s] (zX a++[40]++(32::34::(jaJ s++[34])))
def stP (T:List Tok) (V:List UInt8):Prop:=(∀t,T=[t]->stM t V)/\(∀t,T=[t,tk 13]->mSp (hb V)=false)
theorem jaR {t:Tok} {V:List UInt8}:stP [t] V↔stM t V:=
 ⟨λh=>h.1 t rfl,λh=>⟨λu e=>by injection e with e _;subst e;exact h,λu e=>(by cases e)⟩⟩
theorem Jgf {V:List UInt8}:stP [tk 9 [92],tk 13] V↔mSp (hb V)=false:=
 ⟨λh=>h.2 _ rfl,λh=>⟨λu e=>(by cases e),λu e=>h⟩⟩
theorem jhi {T:List Tok} {V:List UInt8} (W:List UInt8) (h:stP T V):stP T (V++47::W):=by
 refine ⟨λt e=>zhi W (h.1 t e),λt e=>?_⟩
 have:=JbR (V:=V) W (λx=>mSp x=true) (by decide) (by rw [h.2 t e];decide)
 simpa using this
theorem JiB {T:List Tok} {V:List UInt8} (W:List UInt8) (hl:3<=V.length) (h:stP T V):stP T (V++W):=
 ⟨λt e=>ZiB W hl (h.1 t e),λt e=>by rw [jX (by omega)];exact h.2 t e⟩
theorem Zhi (V:List UInt8):zy ([92]++10::V)=(tk 9 [92],1):=by
 have h1:mSp (((92:UInt8).toNat:Int))=false:=by decide
 have h2:mQ (((92:UInt8).toNat:Int))=false:=by decide
 have h3:¬(((92:UInt8).toNat:Int))=35:=by decide
 have h4:¬(((92:UInt8).toNat:Int))=64:=by decide
 have h5:Za7 (92::10::V)=false:=by
  unfold Za7 JQ;rw [jc,show mSg (((92:UInt8).toNat:Int))=false by decide,show mD (((92:UInt8).toNat:Int))=false by decide,show decide ((((92:UInt8).toNat:Int))=46)=false by decide]
  rfl
 have h6:Js (92::10::V)=false:=by
  rw [ZaW,ya (by decide),show mN0 (((92:UInt8).toNat:Int))=false by decide,zcT,jc,show decide ((((10:UInt8).toNat:Int))≠10)=false by decide,yn]
  rfl
 rw [Qj,zfW h1 h2 (λz=>h3 z.1) h5 (by simp [List.isPrefixOf]) (by simp [List.isPrefixOf]) (λz=>h4 z.1) h6,ga (by decide)]
theorem Jcs {T:List Tok} {X:List UInt8} (h:Pc T X):X≠[]/\T≠[]:=by
 cases h with
 | one t hc h1 h2=>
  refine ⟨λz=>?_,by simp⟩
  cases hc with
  | ident a ha h0=>exact jdl ha z
  | func a ha h0=>have z:zX a++[40]=[]:=z;simp at z
  | atk a ha h0=>have z:64::zX a=[]:=z;cases z
  | hash a f ha h0 hf=>cases z
  | str a h0=>cases z
  | url a h0=>cases z
  | del c hc h0=>cases z
  | num n f hn=>exact JI hn z
  | pct n hn=>have z:jD n (jau n)++[37]=[]:=z;simp at z
  | dim n u f hn hu h0=>have z:jD n f++zQ u=[]:=z;simp [JI hn] at z
  | sp=>cases z
  | cdo=>cases z
  | cdc=>cases z
  | mark k hk=>
   have e:tokT (tk k)=[marksT.getD (k-16).toNat 0]:=Zbg hk;rw [e] at z;cases z
 | bs=>simp
 | uf a s ha h0 hu hs=>simp
 | ufs a s ha h0 hu hs=>simp
theorem JcF {T:List Tok} {X V:List UInt8} {L:List Tok} (hp:Pc T X) (h:stP T V):RD (X++V) (T++L)↔RD V L:=by
 cases hp with
 | one t hc h1 h2=>exact ZhR hc h1 h2 (jaR.1 h)
 | bs=>
  have h:=Jgf.1 h;show RD ([92]++(10::V)) (tk 9 [92]::tk 13::L)↔_;rw [Jbi (by simp) (by show ¬(92:Int)=47;decide) (Zhi V)]
  show RD ([10]++V) (tk 13::L)↔_;refine Jbi (by simp) (by show ¬(10:Int)=47;decide) ?_
  rw [Qj,jfr 10 (.inr rfl),zjr h];rfl
 | uf a s ha h0 hu hs=>
  rw [Qb];show RD (zX a++[40]++(34::(jaJ s++[34])++V)) (tk 2 a::tk 5 s::L)↔_;rw [Jbi (by simp) (JcT (jdl ha) (Jes ha)) (by rw [Qb,Qj,ZfV ha h0 (λz=>by rfl)];simp)]
  exact Jbi (by simp) (by show ¬(34:Int)=47;decide) (JfV hs)
 | ufs a s ha h0 hu hs=>
  rw [Qb];show RD (zX a++[40]++([32]++(34::(jaJ s++[34])++V))) (tk 2 a::tk 13::tk 5 s::L)↔_;rw [Jbi (by simp) (JcT (jdl ha) (Jes ha)) (by rw [Qb,Qj,ZfV ha h0 (λz=>by rfl)];simp)]
  rw [Jbi (by simp) (by show ¬(32:Int)=47;decide) (by rw [Qj,jfr 32 (.inl rfl)];rfl)]
  exact Jbi (by simp) (by show ¬(34:Int)=47;decide) (JfV hs)
inductive First (T:List Tok) (X:List UInt8):Prop where
 | name (a tl:List UInt8) (ha:a≠[]) (h0:(0:UInt8)∉a) (hX:X=zX a++tl) (h:(T=[tk 1 a]/\tl=[])\/(T=[tk 2 a]/\tl=[40])\/z6 a [117,114,108]=true)
 | num (n:Int) (f:Bool) (tl:List UInt8) (hn:NumOK n f) (hX:X=jD n f++tl) (h:(T=[tk 10 [] n [] f]/\tl=[])\/(T=[tk 11 [] n]/\tl=[37])\/(∃u,u≠[]/\(0:UInt8)∉u/\T=[tk 12 [] n u f]/\tl=zQ u))
 | del (c:UInt8) (hc:DelOK c) (hX:X=[c])
 | sp (hX:X=[32]) (hT:T=[tk 13])
 | other (h1:hb X≠42) (h2:mSp (hb X)=false) (h3:mD (hb X)=false) (h4:mE (hb X)=false) (h5:¬(mSg (hb X)=true/\mD (hb X.tail)=true))
theorem zcU {T:List Tok} {X:List UInt8} (hp:Pc T X):First T X:=by
 cases hp with
 | one t hc h1 h2=>
  cases hc with
  | ident a ha h0=>exact .name a [] ha h0 (xf _).symm (.inl ⟨rfl,rfl⟩)
  | func a ha h0=>exact .name a [40] ha h0 rfl (.inr (.inl ⟨rfl,rfl⟩))
  | atk a ha h0=>exact .other (by show ¬(64:Int)=42;decide) (by show mSp 64=false;decide) (by show mD 64=false;decide) (by show mE 64=false;decide) (λz=>absurd z.1 (by show ¬mSg 64=true;decide))
  | hash a f ha h0 hf=>exact .other (by show ¬(35:Int)=42;decide) (by show mSp 35=false;decide) (by show mD 35=false;decide) (by show mE 35=false;decide) (λz=>absurd z.1 (by show ¬mSg 35=true;decide))
  | str a h0=>exact .other (by show ¬(34:Int)=42;decide) (by show mSp 34=false;decide) (by show mD 34=false;decide) (by show mE 34=false;decide) (λz=>absurd z.1 (by show ¬mSg 34=true;decide))
  | url a h0=>exact .other (by show ¬(117:Int)=42;decide) (by show mSp 117=false;decide) (by show mD 117=false;decide) (by show mE 117=false;decide) (λz=>absurd z.1 (by show ¬mSg 117=true;decide))
  | del c hc h0=>exact .del c hc rfl
  | num n f hn=>exact .num n f [] hn (xf _).symm (.inl ⟨rfl,rfl⟩)
  | pct n hn=>exact .num n (jau n) [37] hn rfl (.inr (.inl ⟨rfl,rfl⟩))
  | dim n u f hn hu h0=>exact .num n f (zQ u) hn rfl (.inr (.inr ⟨u,hu,h0,rfl,rfl⟩))
  | sp=>exact .sp rfl rfl
  | cdo=>exact .other (by show ¬(60:Int)=42;decide) (by show mSp 60=false;decide) (by show mD 60=false;decide) (by show mE 60=false;decide) (λz=>absurd z.1 (by show ¬mSg 60=true;decide))
  | cdc=>exact .other (by show ¬(45:Int)=42;decide) (by show mSp 45=false;decide) (by show mD 45=false;decide) (by show mE 45=false;decide) (λz=>absurd z.2 (by show ¬mD 45=true;decide))
  | mark k hk=>
   rw [Zbg hk];obtain ⟨n,rfl⟩:∃n:Nat,k=16+(n:Int):=⟨(k-16).toNat,by omega⟩
   have key:∀n:Nat,n<9->((((marksT.getD n 0).toNat:Int))≠42/\mSp ((marksT.getD n 0).toNat:Int)=false/\mD ((marksT.getD n 0).toNat:Int)=false/\mE ((marksT.getD n 0).toNat:Int)=false/\mSg ((marksT.getD n 0).toNat:Int)=false):=by decide +kernel
   rw [show (16+(n:Int)-16).toNat=n by omega]
   obtain ⟨k1,k2,k3,k4,k5⟩:=key n (by omega)
   refine .other k1 k2 k3 k4 (λz=>?_)
   have z:=z.1;rw [jc,k5] at z;cases z
 | bs=>exact .other (by show ¬(92:Int)=42;decide) (by show mSp 92=false;decide) (by show mD 92=false;decide) (by show mE 92=false;decide) (λz=>absurd z.1 (by show ¬mSg 92=true;decide))
 | uf a s ha h0 hu hs=>exact .name a _ ha h0 (Qb _ _ _) (.inr (.inr hu))
 | ufs a s ha h0 hu hs=>exact .name a _ ha h0 (Qb _ _ _) (.inr (.inr hu))
theorem zet {T:List Tok} {X:List UInt8} (hf:First T X) (h:hb X=42):X=[42]:=by
 cases hf with
 | name a tl ha h0 hX _=>
  exfalso;rw [hX] at h;rcases Jbn (zt ha tl) with q|q|q
  ·have:=Zcu q;omega
  ·omega
  ·omega
 | num n f tl hn hX _=>
  exfalso;rw [hX,jX (Rj.2 (JI hn))] at h;rcases jfs (Zes hn) with q|q|q|q
  ·omega
  ·omega
  ·omega
  ·have:=ZcT q;omega
 | del c hc hX=>
  rw [hX,jc] at h;have:c=42:=UInt8.toNat_inj.mp (by show c.toNat=42;omega)
  rw [hX,this]
 | sp hX=>rw [hX] at h;exact absurd h (by decide)
 | other h1=>exact absurd h h1
theorem zgg {T:List Tok} {X:List UInt8} (hf:First T X) (h:mSp (hb X)=true):X=[32]:=by
 cases hf with
 | name a tl ha h0 hX _=>
  exfalso;rw [hX] at h;have hs:hb (zX a++tl)=10\/hb (zX a++tl)=9\/hb (zX a++tl)=32:=by unfold mSp at h;simpa using h
  rcases Jbn (zt ha tl) with q|q|q
  ·have:=Zcu q;omega
  ·omega
  ·omega
 | num n f tl hn hX _=>
  exfalso;rw [hX,jX (Rj.2 (JI hn))] at h;have hs:hb (jD n f)=10\/hb (jD n f)=9\/hb (jD n f)=32:=by unfold mSp at h;simpa using h
  rcases jfs (Zes hn) with q|q|q|q
  ·omega
  ·omega
  ·omega
  ·have:=ZcT q;omega
 | del c hc hX=>rw [hX,jc,hc.sp] at h;cases h
 | sp hX=>exact hX
 | other _ h2=>rw [h2] at h;cases h
theorem jfX {c:Int} (h:mE c=true):c=101\/c=69:=by unfold mE at h;simpa using h
theorem jgg {c:Int} (h:mSg c=true):c=43\/c=45:=by unfold mSg at h;simpa using h
theorem Jhi {T:List Tok} {X:List UInt8} (hf:First T X) (h:mE (hb X)=true):∃a tl,a≠[]/\(0:UInt8)∉a/\X=zX a++tl/\((T=[tk 1 a]/\tl=[])\/(T=[tk 2 a]/\tl=[40])):=by
 have he:=jfX h;cases hf with
 | name a tl ha h0 hX hh=>
  refine ⟨a,tl,ha,h0,hX,?_⟩;rcases hh with q|q|q
  ·exact .inl q
  ·exact .inr q
  ·exfalso;obtain ⟨c,w,rfl⟩:=yf ha;unfold z6 at q;simp only [yb,xc] at q;have hc:¬((c.toNat:Int)=101\/(c.toNat:Int)=69):=by
    intro z;have q1:=q.1;rcases z with z|z <;> rw [z] at q1 <;> exact absurd q1 (by decide)
   rw [hX] at he;unfold zX at he;rcases j6 (zcW (c::w)) 0 c w with ⟨_,_,e⟩|⟨_,e⟩
   ·rw [e,Qc,jc] at he;exact hc he
   ·obtain ⟨d,v,e2,_⟩:=zay c;rw [e,e2] at he;exact absurd he (by show ¬((92:Int)=101\/(92:Int)=69);decide)
 | num n f tl hn hX _=>
  exfalso;rw [hX,jX (Rj.2 (JI hn))] at he;rcases jfs (Zes hn) with q|q|q|q
  ·omega
  ·omega
  ·omega
  ·have:=ZcT q;omega
 | del c hc hX=>
  exfalso;rw [hX,jc] at he;have:=hc.n0;rcases he with z|z <;> rw [z] at this <;> exact absurd this (by decide)
 | sp hX=>rw [hX] at he;exact absurd he (by decide)
 | other _ _ _ h4=>rw [h4] at h;cases h
theorem Jd7 {T:List Tok} {X:List UInt8} (hf:First T X) (h:mD (hb X)=true\/(mSg (hb X)=true/\mD (hb X.tail)=true)) :
  ∃n f tl,NumOK n f/\X=jD n f++tl/\((T=[tk 10 [] n [] f]/\tl=[])\/(T=[tk 11 [] n]/\tl=[37])\/(∃u,u≠[]/\(0:UInt8)∉u/\T=[tk 12 [] n u f]/\tl=zQ u)):=by
 cases hf with
 | name a tl ha h0 hX _=>
  exfalso;rw [hX] at h;have hs:=zt ha tl;have hn:=Jfq hs;unfold Za7 at hn;rcases h with q|⟨q1,q2⟩
  ·by_cases z:mSg (hb (zX a++tl))=true
   ·have:=jgg z;have:=ZcT q;omega
   ·rw [ga z,q] at hn;cases hn
  ·rw [ya q1,q2] at hn;cases hn
 | num n f tl hn hX hh=>exact ⟨n,f,tl,hn,hX,hh⟩
 | del c hc hX=>
  exfalso;rw [hX] at h;rcases h with q|⟨_,q⟩
  ·rw [jc,hc.d] at q;cases q
  ·exact absurd q (by show ¬mD 0=true;decide)
 | sp hX=>rw [hX] at h;exact absurd h (by decide)
 | other _ _ h3 _ h5=>
  exfalso;rcases h with q|q
  ·rw [h3] at q;cases q
  ·exact h5 q
theorem Za1 {X W:List UInt8} (hX:X≠[]) (h:hb X≠47):comM (X++W)=0:=zai λz=>JcT hX h z.1
theorem Zi2 {U P:List UInt8} {T' L:List Tok} (hf:First T' P) (hU:mSp (hb U)=false) (hL:L≠[]) (c:UInt8) (hc:c=32\/c=10) (h:RD ([c]++(U++P)) (tk 13::L)):mSp (hb (U++P))=false:=by
 cases q:mSp (hb (U++P)) with
 | false=>rfl
 | true=>
  exfalso;cases U with
  | cons b U=>rw [Qc,jc] at q;rw [jc,q] at hU;cases hU
  | nil=>
   have hP:=zgg hf q;rw [hP] at h;apply hL;have hcm:comM ([c]++([]++[32]))=0:=zai λz=>(by rcases hc with rfl|rfl <;> exact absurd z.1 (by decide))
   have:=(jG hcm h).2.2;rw [show zy ([c]++([]++[32]))=(tk 13,2) by rw [Qj,jfr c hc];rfl] at this
   exact jay this
theorem ziC {c:UInt8} {U P:List UInt8} {T' L:List Tok} (hc:DelOK c) (hf:First T' P) (hU:zbZ c U) (h:RD ([c]++(U++P)) (tk 9 [c]::L)):zbZ c (U++P):=by
 by_cases z:(c.toNat:Int)=47/\hb (U++P)=42
 ·exfalso;cases U with
  | cons b U=>exact hU.2.2.2.2.2.2 ⟨z.1,z.2⟩
  | nil=>
   have hP:=zet hf z.2;have hc47:c=47:=UInt8.toNat_inj.mp (by show c.toNat=47;omega)
   rw [hP,hc47] at h;have:=(zes h).1;rw [show comM ([47]++([]++[42]))=2 by show comM [47,42]=2;rw [comM];rfl] at this
   exact this rfl
 ·have hcm:comM (c::(U++P))=0:=zai z;exact zh6 hc hcm (jG hcm h).2.1
theorem ZgB:∀n:Nat,n<126->marksA.getD n 0=0\/16<=marksA.getD n 0:=by decide +kernel
theorem zhj {r:List UInt8} (h:(zy r).1.kind=1\/(zy r).1.kind=2):Js r=true:=by
 cases q:Js r with
 | true=>rfl
 | false=>
  exfalso;unfold zy at h;split at h
  ·exact absurd h (by show ¬((13:Int)=1\/(13:Int)=2);decide)
  ·split at h
   ·dsimp only at h;split at h
    ·exact absurd h (by show ¬((5:Int)=1\/(5:Int)=2);decide)
    ·exact absurd h (by show ¬((6:Int)=1\/(6:Int)=2);decide)
   ·split at h
    ·exact absurd h (by show ¬((4:Int)=1\/(4:Int)=2);decide)
    ·unfold Zek at h;split at h
     ·have:=Jdl r;omega
     ·split at h
      ·exact absurd h (by show ¬((15:Int)=1\/(15:Int)=2);decide)
      ·split at h
       ·exact absurd h (by show ¬((14:Int)=1\/(14:Int)=2);decide)
       ·unfold JfR at h;split at h
        ·exact absurd h (by show ¬((3:Int)=1\/(3:Int)=2);decide)
        ·unfold Jfm at h;rw [q,ga (by decide)] at h
         split at h
         ·have h:zbu (hb r)=1\/zbu (hb r)=2:=h;unfold zbu at h;split at h
          ·rename_i z;have:=ZgB (hb r).toNat (by omega)
           omega
          ·omega
         ·exact absurd h (by show ¬((9:Int)=1\/(9:Int)=2);decide)
theorem zba:∀(X r:List UInt8),(∀b∈X,mN (b.toNat:Int)=true)->jj (X++r)=(X++(jj r).1,X.length+(jj r).2)
 | [],r,_=>by simp
 | c::X,r,h=>by
  rw [Qc,Zge (h c (yc ..)),zba X r λb hb=>h b (gd _ hb)]
  simp only [Qc,da];refine yi rfl ?_;dsimp only;omega
theorem jet (x:List UInt8):jE x++x.drop (jE x).length=x:=by
 induction x with
 | nil=>rfl
 | cons a x ih=>
  cases hq:mD (a.toNat:Int) with
  | true=>rw [I.digs_pos hq,da,Hf,Qc,ih]
  | false=>rw [I.digs_neg hq];rfl
theorem jhj (x:List UInt8):I.AllDg (jE x):=by
 induction x with
 | nil=>exact λb hb=>(by cases hb)
 | cons a x ih=>
  cases hq:mD (a.toNat:Int) with
  | true=>
   rw [I.digs_pos hq];intro b hb;rcases gc.1 hb with rfl|hb
   ·exact hq
   ·exact ih b hb
  | false=>rw [I.digs_neg hq];exact λb hb=>(by cases hb)
theorem jiC {c:Int} (h:mD c=true):mN c=true:=by unfold mN;rw [h];simp
theorem Zhj {x:List UInt8} (h:mD (hb x)=true):jE x≠[]:=by
 cases x with
 | nil=>exact absurd h (by decide)
 | cons a x=>rw [I.digs_pos h];simp
theorem Zfs {P:List UInt8} (h:Jbu P=true):∃(y:UInt8) (S D r:List UInt8),P=y::(S++(D++r))/\mE (y.toNat:Int)=true/\(S=[]\/S=[45]\/S=[43])/\I.AllDg D/\D≠[]/\r=P.drop (Za0 P).2/\(Za0 P).2=1+S.length+D.length:=by
 unfold Jbu at h;simp only [yb] at h;obtain ⟨h1,h2⟩:=h;cases P with
 | nil=>exact absurd h1 (by decide)
 | cons y w=>
  rw [jc] at h1;rw [Hc] at h2;have hx:(Za0 (y::w)).2=(if mSg (hb w) then 2 else 1)+(jE (if mSg (hb w) then w.tail else w)).length:=by
   unfold Za0;rw [ya (by rw [jc,Hc,h1,h2];rfl)]
   rfl
  cases w with
  | nil=>exact absurd h2 (by decide)
  | cons s w=>
   unfold zdk at h2;rw [jc,Hc] at h2;rw [jc,Hc] at hx;by_cases q:mSg (s.toNat:Int)=true
   ·rw [ya q] at h2;rw [ya q,ya q] at hx;have hs:s=45\/s=43:=by
     rcases jgg q with z|z
     ·exact .inr (UInt8.toNat_inj.mp (by show s.toNat=43;omega))
     ·exact .inl (UInt8.toNat_inj.mp (by show s.toNat=45;omega))
    refine ⟨y,[s],jE w,w.drop (jE w).length,?_,h1,?_,jhj w,Zhj h2,?_,hx⟩
    ·rw [jet];rfl
    ·rcases hs with rfl|rfl
     ·exact .inr (.inl rfl)
     ·exact .inr (.inr rfl)
    ·rw [hx,show 2+(jE w).length=(jE w).length+1+1 by omega,Hf,Hf]
   ·rw [ga q] at h2;rw [ga q,ga q] at hx;refine ⟨y,[],jE (s::w),(s::w).drop (jE (s::w)).length,?_,h1,.inl rfl,jhj _,Zhj h2,?_,hx⟩
    ·rw [jet];rfl
    ·rw [hx,show 1+(jE (s::w)).length=(jE (s::w)).length+1 by omega,Hf]
theorem jjr {n:Int} {f:Bool} {T L:List Tok} {P:List UInt8} (hn:NumOK n f) (hf:First T P) (he:Jbu P=true) (hT:L=T) (h:RD (jD n f++P) (tk 10 [] n [] f::L)):False:=by
 have he1:mE (hb P)=true:=by unfold Jbu at he;simp only [yb] at he;exact he.1
 obtain ⟨a,tl,ha,h0,hP,hk⟩:=Jhi hf he1;obtain ⟨y,S,D,r,e1,e2,e3,e4,e5,e6,e7⟩:=Zfs he;have hPd:mD (hb P)=false:=(jbo (zdf he1)).1;have hPf:JQ P=false:=(jbo (zdf he1)).2.1;obtain ⟨g1,g2,g3⟩:=zaR hn hPd (λ_=>hPf)
 obtain ⟨-,i2,i3⟩:=jG (Za1 (JI hn) (zaF hn)) h;have hdrop:(jD n f++P).drop (zbn (jD n f++P)).2.2=r:=by
  rw [g2];dsimp only;rw [<-xe,ye,<-e6]
 rw [jai g1] at i2 i3;have hr:Js r=false/\(Zn (jD n f++P)).2=(zbn (jD n f++P)).2.2:=by
  unfold Zn at i2 |-;dsimp only at i2 |-;rw [hdrop] at i2 |-;cases q:Js r with
  | true=>rw [q,ya rfl] at i2;exact absurd (Ya Tok.kind i2) (by show ¬(12:Int)=10;decide)
  | false=>
   refine ⟨rfl,?_⟩;rw [q,ga (by decide)] at i2
   by_cases q2:hb r=37
   ·rw [ya q2] at i2;exact absurd (Ya Tok.kind i2) (by show ¬(11:Int)=10;decide)
   ·rw [ga (by decide),ga q2]
 rw [hr.2,hdrop] at i3;have hc:hb r≠47:=by
  intro z;have hg:Jx r=false:=by
   unfold Jx Jbt;rw [z];rfl
  have htl:Jx tl=false:=by
   rcases hk with ⟨_,q⟩|⟨_,q⟩ <;> rw [q] <;> decide
  have hP2:=hP;have n1:=zce h0 tl;rw [jZ htl,<-hP] at n1;have hlen:P.length=(zX a).length+tl.length:=by rw [hP,Rb]
  have hy:mN (y.toNat:Int)=true:=by rcases jfX e2 with q|q <;> rw [q] <;> decide
  have htl2:hb tl≠47/\hb tl≠43:=by rcases hk with ⟨_,q⟩|⟨_,q⟩ <;> rw [q] <;> decide
  rcases e3 with q|q|q
  ·have raw:∀b∈y::D,mN (b.toNat:Int)=true:=by
    intro b hb;rcases gc.1 hb with rfl|hb
    ·exact hy
    ·exact jiC (e4 b hb)
   have n2:=zba (y::D) r raw;rw [jZ hg,show (y::D)++r=P by rw [e1,q];rfl,n1] at n2
   have n3:=Ya Prod.snd n2;have hr2:r=tl:=by
    rw [e6,e7,q,hP,show 1+([]:List UInt8).length+D.length=(zX a).length by simp at n3 |-;omega,ye]
   rw [hr2] at z;exact htl2.1 z
  ·have raw:∀b∈y::45::D,mN (b.toNat:Int)=true:=by
    intro b hb;rcases gc.1 hb with rfl|hb
    ·exact hy
    ·rcases gc.1 hb with rfl|hb
     ·decide
     ·exact jiC (e4 b hb)
   have n2:=zba (y::45::D) r raw;rw [jZ hg,show (y::45::D)++r=P by rw [e1,q];rfl,n1] at n2
   have n3:=Ya Prod.snd n2;have hr2:r=tl:=by
    rw [e6,e7,q,hP,show 1+[(45:UInt8)].length+D.length=(zX a).length by simp at n3 |-;omega,ye]
   rw [hr2] at z;exact htl2.1 z
  ·have raw:∀b∈[y],mN (b.toNat:Int)=true:=by
    intro b hb;rw [yh] at hb;rw [hb];exact hy
   have hg2:Jx (43::(D++r))=false:=rfl;have n2:=zba [y] (43::(D++r)) raw;rw [jZ hg2,show [y]++(43::(D++r))=P by rw [e1,q];rfl,n1] at n2
   have n3:=Ya Prod.snd n2;have hr2:tl=43::(D++r):=by
    have w1:P.drop 1=tl:=by rw [hP,show 1=(zX a).length by simp at n3;omega,ye]
    rw [<-w1,e1,q];rfl
   exact htl2.2 (by rw [hr2];rfl)
 rw [hT] at i3;rcases hk with ⟨q,_⟩|⟨q,_⟩
 ·rw [q] at i3;have:=(jG (zai λz=>hc z.1) i3).2.1
  rw [zhj (.inl (by rw [this];rfl))] at hr
  cases hr.1
 ·rw [q] at i3;have:=(jG (zai λz=>hc z.1) i3).2.1
  rw [zhj (.inr (by rw [this];rfl))] at hr
  cases hr.1
