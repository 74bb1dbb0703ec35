/- Lemmas. -/
import Derived.Test.YtplpmeednhcjkaaGreatDoorHa1
set_option linter.unusedVariables false
set_option linter.unusedSimpArgs false
namespace Go.Proofs.YtplpmeednhcjkaaGreatDoor
open Go.Proofs.Tryz
open Go.Vm Go.Sx Go.RowKit
theorem jX {u v:List UInt8} (h:1<=u.length):hb (u++v)=hb u:=by
 cases u with
 | nil=>simp at h
 | cons c w=>rfl
theorem Zd4 {u v:List UInt8} (h:1<=u.length):(u++v).tail=u.tail++v:=by
 cases u with
 | nil=>simp at h
 | cons c w=>rfl
theorem Jdk (u:List UInt8):u.tail.length=u.length-1:=List.length_tail
theorem jeV {u v:List UInt8} (h:2<=u.length):Jbt (u++v)=Jbt u:=by
 unfold Jbt;rw [jX (by omega),Zd4 (by omega),jX (by rw [Jdk];omega)]
theorem Zcd {u v:List UInt8} (h:2<=u.length):Jx (u++v)=Jx u:=by
 unfold Jx;rw [jX (by omega),jeV h]
theorem Jd4 {u v:List UInt8} (h:3<=u.length):Js (u++v)=Js u:=by
 unfold Js;rw [jX (by omega),jeV (by omega),Zd4 (by omega),jX (by rw [Jdk];omega),jeV (by rw [Jdk];omega)]
theorem zd5 {u v:List UInt8} (h:2<=u.length):JQ (u++v)=JQ u:=by
 unfold JQ;rw [jX (by omega),Zd4 (by omega),jX (by rw [Jdk];omega)]
theorem JhN {u v:List UInt8} (h:3<=u.length):Za7 (u++v)=Za7 u:=by
 unfold Za7;rw [jX (by omega),zd5 (by omega),Zd4 (by omega),jX (by rw [Jdk];omega),zd5 (by rw [Jdk];omega)]
theorem zhO {u v:List UInt8} (h:2<=u.length):zdk (u++v)=zdk u:=by
 unfold zdk;rw [jX (by omega),Zd4 (by omega),jX (by rw [Jdk];omega)]
theorem digs_app:∀{u v:List UInt8},(jE u).length<u.length->jE (u++v)=jE u
 | [],v,h=>by simp at h
 | c::w,v,h=>by
  unfold jE at h |-;rw [Qc,gj,gj];rw [gj] at h;by_cases q:mD (c.toNat:Int)=true
  ·simp only [ya q] at h |-;rw [da,da] at h;have:=digs_app (u:=w) (v:=v) (by unfold jE;omega)
   unfold jE at this;rw [this]
  ·simp only [ga q]
theorem jhO {a b c:UInt8} {u v:List UInt8} (h:3<=u.length):[a,b,c].isPrefixOf (u++v)=[a,b,c].isPrefixOf u:=by
 match u,h with
 | x::y::z::w,_=>simp [List.isPrefixOf]
theorem ZhO {a b c d:UInt8} {u v:List UInt8} (h:4<=u.length):[a,b,c,d].isPrefixOf (u++v)=[a,b,c,d].isPrefixOf u:=by
 match u,h with
 | x::y::z::t::w,_=>simp [List.isPrefixOf]
def Zjp (u:List UInt8):Option (Tok×List UInt8):=match u.drop (comM u) with
 | []=>none
 | c::w=>some ((zy (c::w)).1,(c::w).drop (zy (c::w)).2)
inductive Reads:List UInt8->List Tok->List UInt8->Prop where
 | nil (u:List UInt8):Reads u [] u
 | cons {u r s:List UInt8} {t:Tok} {L:List Tok}:Zjp u=some (t,r)->Reads r L s->Reads u (t::L) s
theorem Reads.trans {u r s:List UInt8} {L M:List Tok} (h:Reads u L r) (k:Reads r M s):Reads u (L++M) s:=by
 induction h with
 | nil u=>exact k
 | cons h1 _ ih=>exact .cons h1 (ih k)
theorem Jjp (c:UInt8):UInt8.ofNat (c.toNat:Int).toNat=c:=by simp
theorem ja1:∀d,d<16->jcs ((JcV d).toNat:Int)=((d:Int),true)/\((JcV d).toNat:Int)≠10/\((JcV d).toNat:Int)≠0/\((JcV d).toNat:Int)≠12/\((JcV d).toNat:Int)≠13:=by decide
theorem JfU (k:Nat) (d:Nat) (hd:d<16) (w:List UInt8) (a:Int):Zw (k+1) (JcV d::w) a=((Zw k w (a*16+d)).1,(Zw k w (a*16+d)).2+1):=by
 simp only [Zw,jc,(ja1 d hd).1,if_true,Hc]
theorem zhe (k:Nat) (r:List UInt8) (a:Int):Zw (k+1) (32::r) a=(a,0):=by
 have h:(jcs (hb (32::r))).2=false:=rfl;unfold Zw;rw [ga (by rw [h];decide)]
theorem Ziy:∀c:UInt8,(33<=(c.toNat:Int)/\(c.toNat:Int)<=126)/\mD (c.toNat:Int)=false/\mL (c.toNat:Int)=false->(jcs (c.toNat:Int)).2=false:=by
 intro c h;obtain ⟨h1,h2,h3⟩:=h;unfold jcs;rw [ga (by rw [h2];decide)]
 unfold mL at h3;simp only [Hl,Bool.and_eq_false_iff,Rh] at h3;rw [ga (by omega),ga (by omega)]
theorem Zdy (c:UInt8) (h0:c≠0) (h1:(c.toNat:Int)<128) (r:List UInt8):ZT ((jbh c).tail++r)=([c],(jbh c).length-1):=by
 have hc0:¬(c.toNat:Int)=0:=λz=>h0 (UInt8.toNat_inj.mp (by show c.toNat=0;omega))
 unfold jbh;simp only [Hc,da];by_cases q:(33<=(c.toNat:Int)/\(c.toNat:Int)<=126)/\mD (c.toNat:Int)=false/\mL (c.toNat:Int)=false
 ·rw [ya q];show jfm c r=_;unfold jfm;rw [ga (by rw [Ziy c q];decide)]
  rfl
 ·rw [ga q];have e8:jek (c.toNat:Int)=[c]:=by
   unfold jek;rw [ya (by omega)]
   show [UInt8.ofNat (c.toNat:Int).toNat]=_;rw [Jjp]
  by_cases hu:c.toNat<16
  ·have hl:jcH c.toNat=[JcV c.toNat]:=by unfold jcH;rw [ya hu]
   rw [hl];show jfm (JcV c.toNat) (32::r)=_;have hr:Zw 6 (JcV c.toNat::32::r) 0=((c.toNat:Int),1):=by rw [JfU _ _ hu,zhe];simp
   unfold jfm;rw [(ja1 _ hu).1,ya rfl,hr,ga hc0,e8];rfl
  ·have hl:jcH c.toNat=[JcV (c.toNat / 16),JcV (c.toNat%16)]:=by unfold jcH;rw [ga hu]
   have hd1:c.toNat / 16<16:=by omega
   have hd2:c.toNat%16<16:=by omega
   rw [hl];show jfm (JcV (c.toNat / 16)) (JcV (c.toNat%16)::32::r)=_;have hr:Zw 6 (JcV (c.toNat / 16)::JcV (c.toNat%16)::32::r) 0=((c.toNat:Int),2):=by
    rw [JfU _ _ hd1,JfU _ _ hd2,zhe];refine yi ?_ rfl;show (0*16+((c.toNat / 16:Nat):Int))*16+((c.toNat%16:Nat):Int)=_;omega
   unfold jfm;rw [(ja1 _ hd1).1,ya rfl,hr,ga hc0,e8];rfl
theorem zay (c:UInt8):∃d v,jbh c=92::d::v/\(d.toNat:Int)≠10:=by
 unfold jbh;by_cases q:(33<=(c.toNat:Int)/\(c.toNat:Int)<=126)/\mD (c.toNat:Int)=false/\mL (c.toNat:Int)=false
 ·rw [ya q];exact ⟨c,[],rfl,by omega⟩
 ·rw [ga q];have hlt:=c.toNat_lt;unfold jcH;by_cases hu:c.toNat<16
  ·rw [ya hu];exact ⟨_,_,rfl,(ja1 _ hu).2.1⟩
  ·rw [ga hu];exact ⟨_,_,rfl,(ja1 _ (by omega)).2.1⟩
theorem ZbR (c:UInt8) (r:List UInt8):Jbt (jbh c++r)=true:=by
 obtain ⟨d,v,h,hd⟩:=zay c;rw [h];unfold Jbt;simp only [Qc,jc,Hc];rw [yb];exact ⟨rfl,Qg hd⟩
theorem zjq:mN 92=false:=by decide
theorem Zge {c:UInt8} (h:mN (c.toNat:Int)=true) (r:List UInt8):jj (c::r)=(c::(jj r).1,1+(jj r).2):=by
 rw [jj];rw [ya (by unfold Jx;rw [jc,h];rfl)]
 rw [ga (λz=>by rw [z,zjq] at h;cases h)]
theorem JhO (c:UInt8) (h0:c≠0) (h1:(c.toNat:Int)<128) (r:List UInt8):jj (jbh c++r)=(c::(jj r).1,(jbh c).length+(jj r).2):=by
 have hs:=ZbR c r;have he:=Zdy c h0 h1 r;have hl:jbh c=92::(jbh c).tail:=rfl;rw [hl,Qc] at hs |-;rw [jj];rw [ya (by unfold Jx;rw [hs,Qk]),ya (show ((92:UInt8).toNat:Int)=92 from rfl),he]
 have hd:((jbh c).tail++r).drop ((jbh c).length-1)=r:=by
  rw [show (jbh c).length-1=(jbh c).tail.length from by rw [List.length_tail],ye]
 rw [hd];refine yi rfl ?_;show 1+((jbh c).length-1)+(jj r).2=(92::(jbh c).tail).length+(jj r).2;rw [<-hl];have:1<=(jbh c).length:=by rw [hl];simp
 omega
def okE (e:Int):Int->List UInt8->Prop
 | _,[]=>True
 | i,c::w=>(i=e->(c.toNat:Int)<128)/\okE e (i+1) w
theorem JaY (e:Int):∀(w:List UInt8) (i:Int),e<i->okE e i w
 | [],_,_=>trivial
 | c::w,i,h=>⟨λz=>by omega,JaY e w (i+1) (by omega)⟩
theorem Jge {c:UInt8} (h:mN (c.toNat:Int)=false):(c.toNat:Int)<128:=by
 unfold mN mN0 at h;simp only [Hl,Rh] at h;omega
theorem zh5 {c:Int} (h:mD c=true):c<128:=by
 unfold mD at h;simp only [yb,xc] at h;omega
theorem Jcd (s:List UInt8):zcW s=if s=[45] then 0 else if mD (hb s)=true then 0 else if hb s=45/\mD (hb s.tail)=true then 1 else -1:=by
 unfold zcW swD swM;simp only [yb,xc]
theorem jh5 (s:List UInt8):okE (zcW s) 0 s:=by
 rw [Jcd];split
 ·rename_i h;subst h;exact ⟨λ_=>by decide,trivial⟩
 ·split
  ·rename_i h;cases s with
   | nil=>trivial
   | cons c w=>exact ⟨λ_=>zh5 h,JaY 0 w _ (by omega)⟩
  ·split
   ·rename_i h;cases s with
    | nil=>trivial
    | cons c w=>
     refine ⟨λz=>by omega,?_⟩
     cases w with
     | nil=>trivial
     | cons d v=>exact ⟨λ_=>zh5 h.2,JaY 1 v _ (by omega)⟩
   ·exact JaY _ _ _ (by omega)
theorem j6 (e i:Int) (c:UInt8) (w:List UInt8):(i≠e/\mN (c.toNat:Int)=true/\JaB e i (c::w)=c::JaB e (i+1) w)\/(¬(i≠e/\mN (c.toNat:Int)=true)/\JaB e i (c::w)=jbh c++JaB e (i+1) w):=by
 simp only [JaB];by_cases q:i≠e/\mN (c.toNat:Int)=true
 ·left;rw [ya q];exact ⟨q.1,q.2,rfl⟩
 ·right;rw [ga q];exact ⟨q,rfl⟩
theorem JcS {c:Int} (h:mN c=true):mN0 c=true\/mD c=true\/c=45:=by
 unfold mN at h;simpa only [xg,xc] using h
theorem zer {w:List UInt8} (h:Jbt w=true):Js w=true:=by
 have h1:hb w=92:=by
  unfold Jbt at h;simp only [yb,xc] at h;exact h.1
 unfold Js;rw [ya (by omega),h,Qk]
theorem jer {a:List UInt8} (ha:a≠[]):Js (zX a)=true:=by
 obtain ⟨c,w,rfl⟩:=yf ha;unfold zX;rcases j6 (zcW (c::w)) 0 c w with ⟨q1,q2,q3⟩|⟨_,q3⟩
 ·rw [q3];have hD:mD (c.toNat:Int)=false:=by
   cases z:mD (c.toNat:Int) with
   | false=>rfl
   | true=>
    exfalso;apply q1;rw [Jcd];split
    ·rfl
    ·rw [jc,z,ya rfl]
  rcases JcS q2 with z|z|z
  ·unfold Js;rw [jc,ya (λy=>by rw [y] at z;exact absurd z (by decide)),z,Yh]
  ·rw [z] at hD;cases hD
  ·have hne:w≠[]:=by
    intro y;subst y;apply q1;rw [Jcd];have:c=45:=UInt8.toNat_inj.mp (by show c.toNat=45;omega)
    rw [this,ya rfl]
   obtain ⟨d,v,rfl⟩:=yf hne;have key:∀r:List UInt8,mN0 (hb r)=true\/hb r=45\/Jbt r=true->Js (c::r)=true:=by
    intro r hr;unfold Js;rw [jc,ga (by omega),Hc]
    rcases hr with x|x|x
    ·rw [x,Yh]
    ·rw [Qg x,Yh,Qk]
    ·rw [x,Qk,Qk]
   apply key;rcases j6 (zcW (c::d::v)) (0+1) d v with ⟨p1,p2,p3⟩|⟨_,p3⟩
   ·rw [p3,jc];rcases JcS p2 with y|y|y
    ·exact .inl y
    ·exfalso;apply p1;rw [Jcd];rw [ga (by simp),jc,ga (by rw [hD];decide),Hc,jc,ya ⟨z,y⟩]
     rfl
    ·exact .inr (.inl y)
   ·rw [p3];exact .inr (.inr (ZbR d _))
 ·rw [q3];exact zer (ZbR c _)
theorem Jbn {x:List UInt8} (h:Js x=true):mN0 (hb x)=true\/hb x=92\/(hb x=45/\(mN0 (hb x.tail)=true\/hb x.tail=45\/hb x.tail=92)):=by
 unfold Js at h;have e92:∀w:List UInt8,Jbt w=true->hb w=92:=λw hw=>by
  unfold Jbt at hw;simp only [yb,xc] at hw;exact hw.1
 split at h
 ·simp only [xg] at h;exact h.imp id λz=>.inl (e92 _ z)
 ·rename_i q;have q:hb x=45:=by omega
  simp only [xg,xc] at h;exact .inr (.inr ⟨q,h.imp id λz=>z.imp id (e92 _)⟩)
theorem Zcu {c:Int} (h:mN0 c=true):(97<=c/\c<=122)\/(65<=c/\c<=90)\/c=95\/128<=c:=by
 unfold mN0 mL at h;simp only [xg,yb,xc] at h;omega
theorem Jfq {x:List UInt8} (h:Js x=true):Za7 x=false:=by
 unfold Za7 JQ mSg mD;rcases Jbn h with q|q|⟨q,q2⟩
 ·have:=Zcu q;rw [ga (by simp;omega)]
  simp;omega
 ·rw [q,ga (by decide)];rfl
 ·rw [q];have:¬hb x.tail=46/\¬(48<=hb x.tail/\hb x.tail<=57):=by
   rcases q2 with z|z|z
   ·have:=Zcu z;omega
   ·omega
   ·omega
  simp;omega
def okB (c:UInt8):Prop:=¬(c.toNat:Int)=0/\¬(c.toNat:Int)=12/\¬(c.toNat:Int)=13
theorem zbg:∀w:List UInt8,(∀c∈w,okB c)->Jt w=w
 | [],_=>rfl
 | c::w,h=>by
  obtain ⟨h1,h2,h3⟩:=h c (yc ..);simp only [Jt,ga h1,ga h2,ga h3];rw [zbg w λd hd=>h d (gd _ hd)]
theorem zhP {c:UInt8} (h:mN (c.toNat:Int)=true):okB c:=by
 unfold okB;rcases JcS h with q|q|q
 ·have:=Zcu q;omega
 ·unfold mD at q;simp only [yb,xc] at q;omega
 ·omega
theorem zfV (c:UInt8):∀d∈jbh c,okB d:=by
 intro d hd;unfold jbh at hd;have h92:okB 92:=by unfold okB;decide
 have h32:okB 32:=by unfold okB;decide
 have hH:∀n,n<16->okB (JcV n):=λn hn=>⟨(ja1 n hn).2.2.1,(ja1 n hn).2.2.2.1,(ja1 n hn).2.2.2.2⟩
 have hlt:=c.toNat_lt;rcases gc.1 hd with rfl|hd
 ·exact h92
 ·split at hd
  ·rename_i q;rw [yh] at hd;subst hd;unfold okB;omega
  ·rcases Rf.1 hd with hd|hd
   ·unfold jcH at hd;split at hd
    ·rename_i hu;rw [yh] at hd;subst hd;exact hH _ hu
    ·simp only [gc,Qe,or_false] at hd;rcases hd with rfl|rfl
     ·exact hH _ (by omega)
     ·exact hH _ (by omega)
   ·rw [yh] at hd;subst hd;exact h32
theorem jd5 (e:Int):∀(w:List UInt8) (i:Int),∀d∈JaB e i w,okB d
 | [],_,d,hd=>by simp [JaB] at hd
 | c::w,i,d,hd=>by
  rcases j6 e i c w with ⟨_,q2,q3⟩|⟨_,q3⟩
  ·rw [q3] at hd;rcases gc.1 hd with rfl|hd
   ·exact zhP q2
   ·exact jd5 e w _ d hd
  ·rw [q3] at hd;rcases Rf.1 hd with hd|hd
   ·exact zfV c d hd
   ·exact jd5 e w _ d hd
theorem Ji1 (e i:Int) (w:List UInt8):hb (JaB e i w)≠62:=by
 cases w with
 | nil=>
  show (0:Int)≠62;decide
 | cons c w=>
  rcases j6 e i c w with ⟨_,q2,q3⟩|⟨_,q3⟩
  ·rw [q3,jc];intro z;rw [z] at q2;exact absurd q2 (by decide)
  ·rw [q3];show (92:Int)≠62;decide
theorem Zd5 {p x:List UInt8} {c:UInt8} (h:(c::p).isPrefixOf x=true):hb x=(c.toNat:Int):=by
 obtain ⟨t,ht⟩:=dn.1 h;rw [<-ht];rfl
theorem Jd5 (e:Int):∀(w:List UInt8) (i:Int) (v:List UInt8),(0:UInt8)∉w->okE e i w->jj (JaB e i w++v)=(w++(jj v).1,(JaB e i w).length+(jj v).2)
 | [],_,v,_,_=>by simp [JaB]
 | c::w,i,v,h0,hk=>by
  obtain ⟨k1,k2⟩:=hk;have h0':(0:UInt8)∉w:=λz=>h0 (gd _ z)
  have hc:c≠0:=λz=>h0 (by rw [z];exact yc ..)
  have ih:=Jd5 e w (i+1) v h0' k2;simp only [JaB];by_cases q:i≠e/\mN (c.toNat:Int)=true
  ·rw [ya q,Qj,Qc,Zge q.2,ih,da];refine yi ?_ ?_
   ·simp
   ·simp only;omega
  ·rw [ga q];have h128:(c.toNat:Int)<128:=by
    by_cases z:i=e
    ·exact k1 z
    ·cases hm:mN (c.toNat:Int) with
     | false=>exact Jge hm
     | true=>exact absurd ⟨z,hm⟩ q
   rw [Qb,JhO c hc h128,ih,Rb];refine yi ?_ ?_
   ·simp
   ·simp only;omega
theorem zce {a:List UInt8} (h0:(0:UInt8)∉a) (v:List UInt8):jj (zX a++v)=(a++(jj v).1,(zX a).length+(jj v).2):=Jd5 _ a 0 v h0 (jh5 a)
theorem jZ {v:List UInt8} (h:Jx v=false):jj v=([],0):=by
 cases v with
 | nil=>simp [jj]
 | cons c w=>rw [jj,h];simp
theorem jhP (w:List UInt8):(ZT w).1≠[]:=by
 have hu:∀c,jek c≠[]:=λc=>by unfold jek;split <;> (try split) <;> (try split) <;> (try split) <;> simp
 cases w with
 | nil=>exact hu 65533
 | cons c w=>
  show (jfm c w).1≠[];unfold jfm;split
  ·exact hu _
  ·simp
theorem Jdy {v:List UInt8} (h:Jx v=true):(jj v).1≠[]:=by
 cases v with
 | nil=>exact absurd h (by decide)
 | cons c w=>
  rw [jj,h,ya rfl];split
  ·intro q;exact jhP w (dj.1 q).1
  ·simp
theorem zdz {a b:List UInt8} (h:a++b=a):b=[]:=List.append_right_eq_self.1 h
theorem zdl (c:UInt8) (r:List UInt8):Js (jbh c++r)=true:=zer (ZbR c r)
theorem zt {a:List UInt8} (ha:a≠[]) (v:List UInt8):Js (zX a++v)=true:=by
 obtain ⟨c,w,rfl⟩:=yf ha;unfold zX;rcases j6 (zcW (c::w)) 0 c w with ⟨q1,q2,q3⟩|⟨_,q3⟩
 ·rw [q3,Qc];have hD:mD (c.toNat:Int)=false:=by
   cases z:mD (c.toNat:Int) with
   | false=>rfl
   | true=>
    exfalso;apply q1;rw [Jcd];split
    ·rfl
    ·rw [jc,z,ya rfl]
  rcases JcS q2 with z|z|z
  ·unfold Js;rw [jc,ya (λy=>by rw [y] at z;exact absurd z (by decide)),z,Yh]
  ·rw [z] at hD;cases hD
  ·have hne:w≠[]:=by
    intro y;subst y;apply q1;rw [Jcd];have:c=45:=UInt8.toNat_inj.mp (by show c.toNat=45;omega)
    rw [this,ya rfl]
   obtain ⟨d,w,rfl⟩:=yf hne;have key:∀r:List UInt8,mN0 (hb r)=true\/hb r=45\/Jbt r=true->Js (c::r)=true:=by
    intro r hr;unfold Js;rw [jc,ga (by omega),Hc]
    rcases hr with x|x|x
    ·rw [x,Yh]
    ·rw [Qg x,Yh,Qk]
    ·rw [x,Qk,Qk]
   apply key;rcases j6 (zcW (c::d::w)) (0+1) d w with ⟨p1,p2,p3⟩|⟨_,p3⟩
   ·rw [p3,Qc,jc];rcases JcS p2 with y|y|y
    ·exact .inl y
    ·exfalso;apply p1;rw [Jcd];rw [ga (by simp),jc,ga (by rw [hD];decide),Hc,jc,ya ⟨z,y⟩]
     rfl
    ·exact .inr (.inl y)
   ·rw [p3,Qb];exact .inr (.inr (ZbR d _))
 ·rw [q3,Qb];exact zdl c _
theorem jdl {a:List UInt8} (ha:a≠[]):zX a≠[]:=by
 intro z;have:=zt ha [];rw [z] at this;exact absurd this (by decide)
theorem jhe (e i:Int) (w v:List UInt8) (hw:w≠[]):hb (JaB e i w++v)≠62:=by
 have:=Ji1 e i w;obtain ⟨c,w,rfl⟩:=yf hw;have hne:JaB e i (c::w)≠[]:=by
  simp only [JaB];split
  ·simp
  ·intro z;have:=(dj.1 z).1;unfold jbh at this;cases this
 rw [jX (by have:=Rj.2 hne;omega)]
 exact this
theorem Jiy {a:List UInt8} (h:[45,45].isPrefixOf (zX a)=true):∃r,a=45::45::r/\zX a=45::45::JaB (zcW a) (0+1+1) r:=by
 obtain ⟨t,ht⟩:=dn.1 h;cases a with
 | nil=>cases ht
 | cons c w=>
  unfold zX at ht |-;have e92:∀(d:UInt8) (r s:List UInt8),jbh d++r=45::s->False:=λd r s q=>by
   obtain ⟨x,y,hx,_⟩:=zay d;rw [hx] at q;injection q with q1 q2
   exact absurd q1 (by decide)
  rcases j6 (zcW (c::w)) 0 c w with ⟨q1,q2,q3⟩|⟨_,q3⟩
  ·rw [q3] at ht |-;simp only [Qc,gf,List.cons.injEq] at ht;obtain ⟨rfl,ht⟩:=ht;cases w with
   | nil=>cases ht
   | cons d w=>
    rcases j6 (zcW (45::d::w)) (0+1) d w with ⟨p1,p2,p3⟩|⟨_,p3⟩
    ·rw [p3] at ht |-;simp only [List.cons.injEq] at ht;obtain ⟨rfl,ht⟩:=ht;exact ⟨w,rfl,rfl⟩
    ·rw [p3] at ht;exact (e92 _ _ _ ht.symm).elim
  ·rw [q3] at ht;exact (e92 _ _ _ ht.symm).elim
theorem zd6 {a:List UInt8} (ha:a≠[]) (v:List UInt8):[45,45,62].isPrefixOf (zX a++v)=(decide (a=[45,45])&&decide (hb v=62)):=by
 have hbp:∀x:List UInt8,[45,45,62].isPrefixOf x=true↔∃t,x=45::45::62::t:=λx=>by
  rw [dn];exact ⟨λ⟨t,q⟩=>⟨t,q.symm⟩,λ⟨t,q⟩=>⟨t,q.symm⟩⟩
 have hz:∀x:List UInt8,hb x=62↔∃t,x=62::t:=λx=>by
  cases x with
  | nil=>simp
  | cons c r=>
   constructor
   ·intro q;have:c=62:=UInt8.toNat_inj.mp (by have:(c.toNat:Int)=62:=q;show c.toNat=62;omega)
    exact ⟨r,by rw [this]⟩
   ·rintro ⟨t,q⟩;injection q with q1 q2
    subst q1;rfl
 rw [He,yb,xc,xc,hbp];constructor
 ·rintro ⟨t,ht⟩;have hne:=jdl ha;have h2:[45,45].isPrefixOf (zX a)=true\/zX a=[45]:=by
   match hn:zX a with
   | []=>exact absurd hn hne
   | [x]=>right;rw [hn] at ht;injection ht with q1 q2;rw [q1]
   | x::y::r=>
    left;rw [hn] at ht;injection ht with q1 q2
    injection q2 with q2 q3
    rw [q1,q2];rfl
  rcases h2 with h2|h2
  ·obtain ⟨r,rfl,hn⟩:=Jiy h2;rw [hn] at ht;simp only [Qc,List.cons.injEq,true_and] at ht;cases r with
   | nil=>exact ⟨rfl,(hz v).2 ⟨t,by simpa [JaB] using ht⟩⟩
   | cons c r=>
    exfalso;have:=jhe (zcW (45::45::c::r)) (0+1+1) (c::r) v (by simp)
    rw [ht] at this;exact this rfl
  ·exfalso;have:=zt ha [];rw [h2] at this;exact absurd this (by decide)
 ·rintro ⟨rfl,h⟩;obtain ⟨t,rfl⟩:=(hz v).1 h;exact ⟨t,by rfl⟩
theorem zfr {x:List UInt8} (h:Js x=true):hb x≠47/\hb x≠60/\hb x≠35/\hb x≠64/\hb x≠34/\hb x≠39/\hb x≠10/\hb x≠9/\hb x≠32:=by
 rcases Jbn h with q|q|⟨q,_⟩
 ·have:=Zcu q;omega
 ·omega
 ·omega
theorem Zhe {x:List UInt8} (h:Js x=true) (hc:[45,45,62].isPrefixOf x=false):zy x=zaf x:=by
 have hf:=zfr h;unfold zy;rw [ga (by unfold mSp;simp;omega),ga (by unfold mQ;simp;omega),ga (λz=>hf.2.2.1 z.1)]
 unfold Zek;rw [Jfq h,ga (by decide),hc,ga (by decide),ga (λz=>hf.2.1 (Zd5 z))]
 unfold JfR;rw [ga (λz=>hf.2.2.2.1 z.1)]
 unfold Jfm;rw [h,ya rfl]
theorem Jhe {x:List UInt8} (h:[45,45,62].isPrefixOf x=true):zy x=(tk 15,3):=by
 obtain ⟨t,rfl⟩:=dn.1 h;have hn:Za7 ([45,45,62]++t)=false:=rfl;unfold zy;rw [ga (by show ¬mSp 45=true;decide),ga (by show ¬mQ 45=true;decide),ga (by show ¬((45:Int)=35/\_);exact λz=>absurd z.1 (by decide))]
 unfold Zek;rw [hn,ga (by decide),h,ya rfl]
theorem jfV {a:List UInt8} (ha:a≠[]) (h0:(0:UInt8)∉a) {v:List UInt8} (hc:¬(a=[45,45]/\hb v=62)):zy (zX a++v)=zaf (zX a++v):=by
 refine Zhe (zt ha v) ?_;rw [zd6 ha];by_cases q:a=[45,45]
 ·rw [Ye (λz=>hc ⟨q,z⟩),yn]
 ·rw [Ye q,yj]
theorem jd6 {a:List UInt8} (h0:(0:UInt8)∉a) (v:List UInt8) (hg:Jx v=false):zaf (zX a++v)=if hb v≠40 then (tk 1 a,(zX a).length) else if z6 a [117,114,108]&&!mQ (hb (v.tail.drop (nSp v.tail))) then ((JU v.tail).1,(zX a).length+1+(JU v.tail).2) else (tk 2 a,(zX a).length+1):=by
 unfold zaf;simp only [zce h0,jZ hg,xf,Re,ye]
def Zd6 (a v:List UInt8):Prop:=Jx v=false/\hb v≠40/\¬(a=[45,45]/\hb v=62)
theorem zhf {a v:List UInt8} (ha:a≠[]) (h0:(0:UInt8)∉a) (h:Zd6 a v):zy (zX a++v)=(tk 1 a,(zX a).length):=by
 rw [jfV ha h0 h.2.2,jd6 h0 v h.1,ya h.2.1]
theorem Zdl (w:List UInt8):(JU w).1.kind=7\/(JU w).1.kind=8:=by
 unfold JU;dsimp only;split
 ·exact .inl rfl
 ·split
  ·exact .inl rfl
  ·exact .inr rfl
theorem jce (x:List UInt8):(∃n,zaf x=(tk 1 (jj x).1,n)/\n=(jj x).2)\/(zaf x=(tk 2 (jj x).1,(jj x).2+1))\/(zaf x).1.kind=7\/(zaf x).1.kind=8:=by
 unfold zaf;dsimp only;split
 ·exact .inl ⟨_,rfl,rfl⟩
 ·split
  ·right;right;exact Zdl _
  ·exact .inr (.inl rfl)
theorem zgf {a v:List UInt8} (ha:a≠[]) (h0:(0:UInt8)∉a) (h:(zy (zX a++v)).1=tk 1 a):Zd6 a v:=by
 by_cases hc:a=[45,45]/\hb v=62
 ·exfalso;have:[45,45,62].isPrefixOf (zX a++v)=true:=by rw [zd6 ha,Qg hc.1,Qg hc.2];rfl
  rw [Jhe this] at h;exact absurd (Ya Tok.kind h) (by simp [tk])
 ·rw [jfV ha h0 hc] at h;have hr:=zce h0 v;have hg:Jx v=false:=by
   cases q:Jx v with
   | false=>rfl
   | true=>
    exfalso;rcases jce (zX a++v) with ⟨n,e,_⟩|e|e|e
    ·rw [e,hr] at h;exact Jdy q (zdz (Ya Tok.text h))
    ·rw [e] at h;exact absurd (Ya Tok.kind h) (by simp [tk])
    ·rw [h] at e;exact absurd e (by simp [tk])
    ·rw [h] at e;exact absurd e (by simp [tk])
  refine ⟨hg,?_,hc⟩;intro q;rw [jd6 h0 v hg,ga (λz=>z q)] at h
  split at h
  ·have:=Zdl v.tail;rw [h] at this;exact absurd this (by simp [tk])
  ·exact absurd (Ya Tok.kind h) (by simp [tk])
def jjq (a v:List UInt8):Prop:=z6 a [117,114,108]=true->mQ (hb (v.drop (nSp v)))=true
theorem jhf {a:List UInt8} (ha:a≠[]) (h0:(0:UInt8)∉a) (v:List UInt8):zy (zX a++40::v)=if z6 a [117,114,108]&&!mQ (hb (v.drop (nSp v))) then ((JU v).1,(zX a).length+1+(JU v).2) else (tk 2 a,(zX a).length+1):=by
 have hg:Jx (40::v)=false:=by unfold Jx Jbt;rfl
 rw [jfV ha h0 (λz=>absurd z.2 (by show ¬((40:Int)=62);decide)),jd6 h0 _ hg,ga (λz=>z rfl),Hc]
theorem ZfV {a v:List UInt8} (ha:a≠[]) (h0:(0:UInt8)∉a) (h:jjq a v):zy (zX a++40::v)=(tk 2 a,(zX a).length+1):=by
 rw [jhf ha h0,ga];intro q;rw [yb,Rm] at q;rw [h q.1] at q;cases q.2
theorem Zh5 {a:List UInt8} (ha:a≠[]) (h0:(0:UInt8)∉a) (v:List UInt8):zy (64::(zX a++v))=(tk 3 (a++(jj v).1),1+((zX a).length+(jj v).2)):=by
 have hs:=zt ha v;unfold zy;rw [ga (by show ¬mSp 64=true;decide),ga (by show ¬mQ 64=true;decide),ga (λz=>absurd z.1 (by show ¬((64:Int)=35);decide))]
 unfold Zek;have hn:Za7 (64::(zX a++v))=false:=by
  unfold Za7 JQ;simp only [jc,Hc];rfl
 rw [hn,ga (by decide),ga (λz=>absurd (Zd5 z) (by show ¬((64:Int)=45);decide)),ga (λz=>absurd (Zd5 z) (by show ¬((64:Int)=60);decide))]
 unfold JfR;rw [ya ⟨rfl,by rw [Hc];exact hs⟩,Hc,zce h0]
theorem zi2 {a v:List UInt8} (ha:a≠[]) (h0:(0:UInt8)∉a) (h:Jx v=false):zy (64::(zX a++v))=(tk 3 a,(64::zX a).length):=by
 rw [Zh5 ha h0,jZ h,xf,da,Re,Nat.add_comm]
theorem ji2 {a v:List UInt8} (ha:a≠[]) (h0:(0:UInt8)∉a) (h:(zy (64::(zX a++v))).1=tk 3 a):Jx v=false:=by
 rw [Zh5 ha h0] at h;cases q:Jx v with
 | false=>rfl
 | true=>exact absurd (zdz (Ya Tok.text h)) (Jdy q)
theorem Jh5 {w:List UInt8} (h:Js w=true):Jx w=true:=by
 unfold Jx;rcases Jbn h with q|q|⟨q,_⟩
 ·unfold mN;rw [q];rfl
 ·unfold Js at h;rw [ya (by omega)] at h
  unfold mN;rcases xg _ _ |>.mp h with z|z
  ·rw [z];rfl
  ·rw [z,Qk]
 ·unfold mN;rw [q];simp
theorem ZaW (c:UInt8) (w:List UInt8):Js (c::w)=if (c.toNat:Int)≠45 then mN0 (c.toNat:Int)||Jbt (c::w) else mN0 (hb w)||(decide (hb w=45)||Jbt w):=rfl
theorem Jde (c:UInt8) (w:List UInt8):Jx (c::w)=(mN (c.toNat:Int)||Jbt (c::w)):=rfl
theorem zcT (c:UInt8) (w:List UInt8):Jbt (c::w)=(decide ((c.toNat:Int)=92)&&decide (hb w≠10)):=rfl
theorem ZhP {v:List UInt8} (h:Jx v=false):mN (hb v)=false/\Jbt v=false:=by unfold Jx at h;simpa using h
theorem JhP {c:Int} (h:mN c=false):mN0 c=false/\mD c=false/\c≠45:=by unfold mN at h;simpa using h
theorem zgA {t v:List UInt8} (ho:zcW t≠-1) (hg:Jx v=false):Js (JaB (-1) 0 t++v)=false/\Jx (JaB (-1) 0 t++v)=true:=by
 obtain ⟨s1,s2⟩:=ZhP hg;obtain ⟨s3,s4,s5⟩:=JhP s1;have raw:∀(c:UInt8) (w:List UInt8) (i:Int),0<=i->mN (c.toNat:Int)=true->JaB (-1) i (c::w)=c::JaB (-1) (i+1) w:=λc w i hi hc=>by
  simp only [JaB];rw [ya ⟨by omega,hc⟩]
  rfl
 rw [Jcd] at ho;split at ho
 ·rename_i h;subst h;rw [raw 45 [] 0 (by decide) (by decide)]
  simp only [JaB,Qj];rw [ZaW,Jde,ga (by decide),s3,Ye s5,s2]
  exact ⟨rfl,by rw [show mN ((45:UInt8).toNat:Int)=true from by decide];rfl⟩
 ·split at ho
  ·rename_i h;cases t with
   | nil=>exact absurd h (by decide)
   | cons c w=>
    have hc:mD (c.toNat:Int)=true:=h;have hm:mN (c.toNat:Int)=true:=by unfold mN;rw [hc];simp
    rw [raw c w 0 (by decide) hm,Qc]
    unfold mD at hc;simp only [yb,xc] at hc;have:mN0 (c.toNat:Int)=false:=by unfold mN0 mL;simp;omega
    rw [ZaW,Jde,zcT,ya (by omega),hm,this,Ye (by omega:¬(c.toNat:Int)=92)]
    exact ⟨rfl,rfl⟩
  ·split at ho
   ·rename_i h
    match t,h with
    | [],h=>exact absurd h.1 (by decide)
    | [c],h=>exact absurd h.2 (by show ¬mD 0=true;decide)
    | c::d::w,h=>
     have hc:(c.toNat:Int)=45:=h.1;have hd:mD (d.toNat:Int)=true:=h.2;have hmc:mN (c.toNat:Int)=true:=by rw [hc];decide
     have hmd:mN (d.toNat:Int)=true:=by unfold mN;rw [hd];simp
     rw [raw c _ 0 (by decide) hmc,raw d w (0+1) (by decide) hmd]
     unfold mD at hd;simp only [yb,xc] at hd;have h0:mN0 (d.toNat:Int)=false:=by unfold mN0 mL;simp;omega
     rw [Qc,Qc,ZaW,Jde,hmc,ga (by omega),zcT d,jc,h0,Ye (by omega:¬(d.toNat:Int)=45),Ye (by omega:¬(d.toNat:Int)=92)]
     exact ⟨rfl,rfl⟩
   ·exact absurd rfl ho
theorem zhQ {t v:List UInt8} {f:Bool} (ht:t≠[]) (h0:(0:UInt8)∉t) (hf:f=true\/zcW t≠-1) (hg2:f=false->Jx v=false) :
  ∃b,zy (jcc t f++v)=(tk 4 (t++(jj v).1) 0 [] b,(jcc t f).length+(jj v).2)/\(Jx v=false\/f=true->b=f):=by
 cases f with
 | true=>
  have hs:=zt ht v;refine ⟨true,?_,λ_=>rfl⟩
  show zy (35::(zX t++v))=_;unfold zy;rw [ga (by show ¬mSp 35=true;decide),ga (by show ¬mQ 35=true;decide),ya ⟨rfl,by rw [Hc];exact Jh5 hs⟩,Hc,zce h0,hs]
  refine yi rfl ?_;show 1+((zX t).length+(jj v).2)=(35::zX t).length+(jj v).2;rw [da];omega
 | false=>
  have hg:=hg2 rfl;obtain ⟨q1,q2⟩:=zgA (hf.resolve_left (by decide)) hg
  refine ⟨false,?_,λ_=>rfl⟩
  show zy (35::(JaB (-1) 0 t++v))=_;unfold zy;rw [ga (by show ¬mSp 35=true;decide),ga (by show ¬mQ 35=true;decide),ya ⟨rfl,by rw [Hc];exact q2⟩,Hc,Jd5 (-1) t 0 v h0 (JaY _ _ _ (by decide)),q1]
  refine yi rfl ?_;show 1+((JaB (-1) 0 t).length+(jj v).2)=(35::JaB (-1) 0 t).length+(jj v).2;rw [da];omega
theorem jhQ {t v:List UInt8} {f:Bool} (ht:t≠[]) (h0:(0:UInt8)∉t) (hf:f=true\/zcW t≠-1) (hg:Jx v=false):zy (jcc t f++v)=(tk 4 t 0 [] f,(jcc t f).length):=by
 obtain ⟨b,h1,h2⟩:=zhQ ht h0 hf (λ_=>hg)
 rw [h1,h2 (.inl hg),jZ hg,xf,Re]
theorem Zhf (t v:List UInt8) (h0:(0:UInt8)∉t):jj (JaB (-1) 0 t++v)=(t++(jj v).1,(JaB (-1) 0 t).length+(jj v).2):=Jd5 (-1) t 0 v h0 (JaY _ _ _ (by decide))
theorem Zjq (t v:List UInt8) (ht:t≠[]):Jx (JaB (-1) 0 t++v)=true:=by
 obtain ⟨c,w,rfl⟩:=yf ht;rcases j6 (-1) 0 c w with ⟨_,q2,q3⟩|⟨_,q3⟩
 ·rw [q3,Qc];unfold Jx;rw [jc,q2,Yh]
 ·rw [q3,Qb];unfold Jx;rw [ZbR,Qk]
theorem Jhf {t v:List UInt8} {f:Bool} (ht:t≠[]) (h0:(0:UInt8)∉t) (h:(zy (jcc t f++v)).1=tk 4 t 0 [] f):Jx v=false:=by
 have key:∀x:List UInt8,Jx x=true->(jj x).1=t++(jj v).1->(zy (35::x)).1=tk 4 t 0 [] f->Jx v=false:=λx hx hn hh=>by
  unfold zy at hh;rw [ga (by show ¬mSp 35=true;decide),ga (by show ¬mQ 35=true;decide),ya ⟨rfl,by rw [Hc];exact hx⟩,Hc,hn] at hh
  cases q:Jx v with
  | false=>rfl
  | true=>exact absurd (zdz (Ya Tok.text hh)) (Jdy q)
 cases f with
 | true=>exact key (zX t++v) (Jh5 (zt ht v)) (by rw [zce h0]) h
 | false=>exact key (JaB (-1) 0 t++v) (Zjq t v ht) (by rw [Zhf t v h0]) h
theorem jey:∀(t v:List UInt8),(0:UInt8)∉t->strM 34 (jaJ t++34::v)=(true,t,(jaJ t).length+1)
 | [],v,_=>by
  show strM 34 (34::v)=_;rw [strM.eq_def 34 (34::v)];dsimp only;rw [ya (by decide)]
  rfl
 | c::t,v,h0=>by
  have h0':(0:UInt8)∉t:=λz=>h0 (gd _ z)
  have hc:c≠0:=λz=>h0 (by rw [z];exact yc ..)
  have ih:=jey t v h0';simp only [jaJ];by_cases q:c∈[10,12,13,34,92]
  ·rw [ya q];have h128:(c.toNat:Int)<128:=by
    simp only [gc,Qe,or_false] at q;rcases q with rfl|rfl|rfl|rfl|rfl <;> decide
   obtain ⟨d,r,he,hd⟩:=zay c;have hr:=Zdy c hc h128 (jaJ t++34::v);rw [he] at hr |-;simp only [Hc,Qc,Qb] at hr |-;rw [strM.eq_def 34 (92::d::(r++(jaJ t++34::v)))];dsimp only;rw [ga (by decide),ga (by decide),ga (by simp),ga hd,hr]
   have hdrop:(d::(r++(jaJ t++34::v))).drop ((92::d::r).length-1)=jaJ t++34::v:=by
    have:(92::d::r).length-1=(d::r).length:=by simp
    rw [this,<-Qc,ye]
   rw [hdrop,ih];refine yi rfl (yi rfl ?_);simp only [da,Rb];omega
  ·rw [ga q];simp only [gc,Qe,or_false,not_or] at q;have hne:∀k:UInt8,c≠k->¬(c.toNat:Int)=(k.toNat:Int):=λk h z=>h (UInt8.toNat_inj.mp (by omega))
   rw [Qj,Qc,strM.eq_def 34 (c::(jaJ t++34::v))];dsimp only;have g1:¬(c.toNat:Int)=34:=hne 34 q.2.2.2.1;have g2:¬(c.toNat:Int)=10:=hne 10 q.1;have g3:¬(c.toNat:Int)=92:=hne 92 q.2.2.2.2;rw [ga g1,ga g2,ya g3,ih];refine yi rfl (yi rfl ?_);simp only [da];omega
theorem JfV {t v:List UInt8} (h0:(0:UInt8)∉t):zy (34::(jaJ t++[34])++v)=(tk 5 t,(34::(jaJ t++[34])).length):=by
 have e:34::(jaJ t++[34])++v=34::(jaJ t++34::v):=by simp
 rw [e];unfold zy;rw [ga (by show ¬mSp 34=true;decide),ya (by show mQ 34=true;decide)]
 show ((if (strM 34 (jaJ t++34::v)).1=true then tk 5 (strM 34 (jaJ t++34::v)).2.1 else tk 6),1+(strM 34 (jaJ t++34::v)).2.2)=_
 rw [jey t v h0,ya rfl];refine yi rfl ?_;simp only [da,Rb,Hd];omega
theorem zhg:∀(t v:List UInt8),(0:UInt8)∉t->Za2 (Zbi t++41::v)=(t,(Zbi t).length)
 | [],v,_=>by
  show Za2 (41::v)=_;rw [Za2];rw [ya (by decide)]
  rfl
 | c::t,v,h0=>by
  have h0':(0:UInt8)∉t:=λz=>h0 (gd _ z)
  have hc:c≠0:=λz=>h0 (by rw [z];exact yc ..)
  have ih:=zhg t v h0';simp only [Zbi];by_cases q:c.toNat<=32\/c∈[34,39,40,41,92,127]
  ·rw [ya q];have h128:(c.toNat:Int)<128:=by
    rcases q with q|q
    ·omega
    ·simp only [gc,Qe,or_false] at q;rcases q with rfl|rfl|rfl|rfl|rfl|rfl <;> decide
   obtain ⟨d,r,he,hd⟩:=zay c;have hr:=Zdy c hc h128 (Zbi t++41::v);have hs:=ZbR c (Zbi t++41::v);rw [he] at hr hs |-;simp only [Hc,Qc,Qb] at hr hs |-;rw [Za2];rw [ga (by decide),ga (by decide),ya hs,hr]
   have hdrop:(d::(r++(Zbi t++41::v))).drop ((92::d::r).length-1)=Zbi t++41::v:=by
    have:(92::d::r).length-1=(d::r).length:=by simp
    rw [this,<-Qc,ye]
   simp only;rw [hdrop,ih];refine yi rfl ?_;simp only [da,Rb];omega
  ·rw [ga q];simp only [gc,Qe,or_false,not_or] at q;have hne:∀k:UInt8,c≠k->¬(c.toNat:Int)=(k.toNat:Int):=λk h z=>h (UInt8.toNat_inj.mp (by omega))
   have h1:=hne 34 q.2.1;have h2:=hne 39 q.2.2.1;have h3:=hne 40 q.2.2.2.1;have h4:=hne 41 q.2.2.2.2.1;have h5:=hne 92 q.2.2.2.2.2.1;have h6:=hne 127 q.2.2.2.2.2.2;have h7:=q.1;have e34:((34:UInt8).toNat:Int)=34:=rfl;have e39:((39:UInt8).toNat:Int)=39:=rfl;have e40:((40:UInt8).toNat:Int)=40:=rfl;have e41:((41:UInt8).toNat:Int)=41:=rfl;have e92:((92:UInt8).toNat:Int)=92:=rfl;have e127:((127:UInt8).toNat:Int)=127:=rfl;have hsp:mSp (c.toNat:Int)=false:=by unfold mSp;simp;omega
   have hes:Jbt (c::(Zbi t++41::v))=false:=by unfold Jbt;rw [jc,Ye (by omega)];rfl
   have hspo:jdk (c.toNat:Int)=false:=by unfold jdk;simp;omega
   rw [Qj,Qc,Za2];rw [ga (by omega),hsp,ga (by decide),hes,ga (by decide),hspo,ga (by decide),ih]
   refine yi rfl ?_;simp only [da];omega
theorem jhg (t v:List UInt8):mSp (hb (Zbi t++41::v))=false/\mQ (hb (Zbi t++41::v))=false:=by
 cases t with
 | nil=>exact ⟨by show mSp 41=false;decide,by show mQ 41=false;decide⟩
 | cons c t=>
  simp only [Zbi];by_cases q:c.toNat<=32\/c∈[34,39,40,41,92,127]
  ·rw [ya q];obtain ⟨d,r,he,hd⟩:=zay c;rw [he];exact ⟨by show mSp 92=false;decide,by show mQ 92=false;decide⟩
  ·rw [ga q];simp only [gc,Qe,or_false,not_or] at q;have hne:∀k:UInt8,c≠k->¬(c.toNat:Int)=(k.toNat:Int):=λk h z=>h (UInt8.toNat_inj.mp (by omega))
   have h1:¬(c.toNat:Int)=34:=hne 34 q.2.1;have h2:¬(c.toNat:Int)=39:=hne 39 q.2.2.1;have h7:=q.1;rw [Qj,Qc,jc];exact ⟨by unfold mSp;simp;omega,by unfold mQ;simp;omega⟩
theorem ziz {t v:List UInt8} (h0:(0:UInt8)∉t):zy ([117,114,108,40]++(Zbi t++[41])++v)=(tk 7 t,([117,114,108,40]++(Zbi t++[41])).length):=by
 have e:[117,114,108,40]++(Zbi t++[41])++v=zX [117,114,108]++40::(Zbi t++41::v):=by
  have:zX [117,114,108]=[117,114,108]:=by decide
  rw [this];simp
 obtain ⟨f1,f2⟩:=jhg t v;have hn:nSp (Zbi t++41::v)=0:=by
  cases hx:Zbi t++41::v with
  | nil=>rfl
  | cons c w=>rw [hx,jc] at f1;simp only [nSp];rw [f1];rfl
 rw [e,jhf (by simp) (by decide),hn,dh,f2,ya (by decide)]
 have hr:JU (Zbi t++41::v)=(tk 7 t,(Zbi t).length+1):=by
  unfold JU;simp only [hn,dh,zhg t v h0,dd,ye];rw [ga (by simp),ya (by rfl)]
 rw [hr];refine yi rfl ?_;have:(zX [117,114,108]).length=3:=by decide
 simp only [this,da,Rb,Hd]
theorem jfr (c:UInt8) (hc:c=32\/c=10) (v:List UInt8):zy (c::v)=(tk 13,1+nSp v):=by
 unfold zy;rcases hc with rfl|rfl
 ·rw [ya (by show mSp 32=true;decide)]
  simp only [nSp];rw [ya (by decide),Nat.add_comm]
 ·rw [ya (by show mSp 10=true;decide)]
  simp only [nSp];rw [ya (by decide),Nat.add_comm]
theorem jiz (v:List UInt8):zy ([60,33,45,45]++v)=(tk 14,4):=by
 have hn:Za7 ([60,33,45,45]++v)=false:=rfl;unfold zy;rw [ga (by show ¬mSp 60=true;decide),ga (by show ¬mQ 60=true;decide),ga (λz=>absurd z.1 (by show ¬((60:Int)=35);decide))]
 unfold Zek;rw [hn,ga (by decide),ga (by show ¬([45,45,62].isPrefixOf (60::_)=true);simp [List.isPrefixOf]),ya (by simp [List.isPrefixOf])]
theorem zfW {c:UInt8} {v:List UInt8} (h1:mSp (c.toNat:Int)=false) (h2:mQ (c.toNat:Int)=false) (h3:¬((c.toNat:Int)=35/\Jx v=true)) (h4:Za7 (c::v)=false) (h5:[45,45,62].isPrefixOf (c::v)=false) (h6:[60,33,45,45].isPrefixOf (c::v)=false) (h7:¬((c.toNat:Int)=64/\Js v=true)) (h8:Js (c::v)=false) :
  zy (c::v)=if zbu (c.toNat:Int)≠0 then (tk (zbu (c.toNat:Int)),1) else (tk 9 [c],1):=by
 unfold zy;rw [jc,h1,ga (by decide),h2,ga (by decide),Hc,ga h3]
 unfold Zek;rw [h4,ga (by decide),h5,ga (by decide),h6,ga (by decide)]
 unfold JfR;rw [jc,Hc,ga h7];unfold Jfm;rw [h8,ga (by decide)]
 rfl
def Jbu (v:List UInt8):Bool:=mE (hb v)&&zdk v.tail
theorem jbg (V W:List UInt8):Jx (V++47::W)=Jx V:=by
 rcases V with _|⟨a,_|⟨b,r⟩⟩ <;> simp [Jx,Jbt,mN,mN0,mL,mD] <;> rfl
theorem jcF (V W:List UInt8):Js (V++47::W)=Js V:=by
 rcases V with _|⟨a,_|⟨b,_|⟨c,r⟩⟩⟩ <;> simp [Js,Jbt,mN0,mL,mD] <;> rfl
theorem jfW (V W:List UInt8):JQ (V++47::W)=JQ V:=by
 rcases V with _|⟨a,_|⟨b,r⟩⟩ <;> simp [JQ,mD] <;> rfl
theorem jgA (V W:List UInt8):Za7 (V++47::W)=Za7 V:=by
 rcases V with _|⟨a,_|⟨b,_|⟨c,r⟩⟩⟩ <;> simp [Za7,JQ,mD,mSg] <;> rfl
theorem ZgA (V W:List UInt8):zdk (V++47::W)=zdk V:=by
 rcases V with _|⟨a,_|⟨b,r⟩⟩ <;> simp [zdk,mD,mSg] <;> rfl
theorem JgA (V W:List UInt8):Jbu (V++47::W)=Jbu V:=by
 rcases V with _|⟨a,r⟩
 ·simp [Jbu,mE]
 ·simp only [Jbu,Qc,jc,Hc,ZgA]
theorem JbR {V:List UInt8} (W:List UInt8) (P:Int->Prop) (h0:¬P 47) (h:¬P (hb V)):¬P (hb (V++47::W)):=by
 cases V with
 | nil=>exact h0
 | cons a r=>exact h
theorem Zhg (V W:List UInt8):[45,45,62].isPrefixOf (V++47::W)=[45,45,62].isPrefixOf V:=by
 rcases V with _|⟨a,_|⟨b,_|⟨c,r⟩⟩⟩ <;> simp [List.isPrefixOf] <;> rfl
theorem Jhg (V W:List UInt8):[60,33,45,45].isPrefixOf (V++47::W)=[60,33,45,45].isPrefixOf V:=by
 rcases V with _|⟨a,_|⟨b,_|⟨c,_|⟨d,r⟩⟩⟩⟩ <;> simp [List.isPrefixOf] <;> rfl
theorem ZeV {u v:List UInt8} (h:3<=u.length):Jbu (u++v)=Jbu u:=by
 unfold Jbu;rw [jX (by omega),Zd4 (by omega),zhO (by rw [Jdk];omega)]
theorem Zce {v:List UInt8} (h:Jbu v=false):Za0 v=(0,0):=by
 unfold Jbu at h;unfold Za0;rw [ga (by rw [h];decide)]
def zbZ (c:UInt8) (v:List UInt8):Prop:=
 ¬((c.toNat:Int)=35/\Jx v=true)/\Za7 (c::v)=false/\[45,45,62].isPrefixOf (c::v)=false/\[60,33,45,45].isPrefixOf (c::v)=false/\
 ¬((c.toNat:Int)=64/\Js v=true)/\Js (c::v)=false/\¬((c.toNat:Int)=47/\hb v=42)
theorem ZfW {c:UInt8} {v:List UInt8} (W:List UInt8) (h:zbZ c v):zbZ c (v++47::W):=by
 obtain ⟨h1,h2,h3,h4,h5,h6,h7⟩:=h;unfold zbZ;rw [jbg,<-Qc,jgA,Zhg,Jhg,jcF,jcF];refine ⟨h1,h2,h3,h4,h5,h6,λz=>?_⟩
 exact JbR W (λx=>x=42) (by decide) (λq=>h7 ⟨z.1,q⟩) z.2
theorem zhh {c:UInt8} {v:List UInt8} (W:List UInt8) (hl:3<=v.length):zbZ c (v++W)↔zbZ c v:=by
 unfold zbZ;rw [Zcd (by omega),<-Qc,JhN (by rw [da];omega),jhO (by rw [da];omega),ZhO (by rw [da];omega),Jd4 (by omega),Jd4 (by rw [da];omega),jX (by omega)]
theorem Ziz (c:UInt8) (h:c∉marksT):zbu (c.toNat:Int)=0:=by
 have key:∀n:Nat,n<126->UInt8.ofNat n∉marksT->marksA.getD n 0=0:=by decide +kernel
 unfold zbu;split
 ·rename_i q;have:=key c.toNat (by omega) (by rw [UInt8.ofNat_toNat];exact h)
  rw [xj];exact this
 ·rfl
structure DelOK (c:UInt8):Prop where
 sp:mSp (c.toNat:Int)=false
 q:mQ (c.toNat:Int)=false
 n0:mN0 (c.toNat:Int)=false
 d:mD (c.toNat:Int)=false
 nm:c∉marksT
 z:c≠12/\c≠13
theorem Jiz {s:List UInt8} (h:Zg6 s=true):∃c,s=[c]/\DelOK c:=by
 unfold Zg6 at h;split at h
 ·rename_i b;simp only [yb,Rm,List.contains_eq_mem,Rh,Rf,not_or] at h;obtain ⟨h1,h2,h3,h4,h5,h6⟩:=h;refine ⟨b,rfl,h1,h2,h3,h4,h6,?_⟩;simp only [gc,Qe,or_false,not_or] at h5;exact h5
 ·cases h
theorem ziA {c:UInt8} {v:List UInt8} (hc:DelOK c) (h:zbZ c v):zy (c::v)=(tk 9 [c],1):=by
 obtain ⟨h1,h2,h3,h4,h5,h6,h7⟩:=h;rw [zfW hc.sp hc.q h1 h2 h3 h4 h5 h6,Ziz c hc.nm,ga (by decide)]
theorem Jdl (w:List UInt8):(Zn w).1.kind=10\/(Zn w).1.kind=11\/(Zn w).1.kind=12:=by
 unfold Zn;dsimp only;split
 ·exact .inr (.inr rfl)
 ·split
  ·exact .inr (.inl rfl)
  ·exact .inl rfl
theorem zgB (w:List UInt8):(zaf w).1.kind=1\/(zaf w).1.kind=2\/(zaf w).1.kind=7\/(zaf w).1.kind=8:=by
 rcases jce w with ⟨n,h,_⟩|h|h|h
 ·rw [h];exact .inl rfl
 ·rw [h];exact .inr (.inl rfl)
 ·exact .inr (.inr (.inl h))
 ·exact .inr (.inr (.inr h))
theorem zh6 {c:UInt8} {v:List UInt8} (hc:DelOK c) (hcm:comM (c::v)=0) (h:(zy (c::v)).1=tk 9 [c]):zbZ c v:=by
 have h9:(zy (c::v)).1.kind=9:=by rw [h];rfl
 unfold zy at h9;rw [jc,hc.sp,ga (by decide),hc.q,ga (by decide),Hc] at h9
 have h1:¬((c.toNat:Int)=35/\Jx v=true):=by
  intro z;rw [ya z] at h9;exact absurd h9 (by show ¬(4:Int)=9;decide)
 rw [ga h1] at h9;unfold Zek at h9;cases h2:Za7 (c::v) with
 | true=>
  rw [h2,ya rfl] at h9;have:=Jdl (c::v);omega
 | false=>
  rw [h2,ga (by decide)] at h9
  cases h3:[45,45,62].isPrefixOf (c::v) with
  | true=>rw [h3,ya rfl] at h9;exact absurd h9 (by decide)
  | false=>
   rw [h3,ga (by decide)] at h9
   cases h4:[60,33,45,45].isPrefixOf (c::v) with
   | true=>rw [h4,ya rfl] at h9;exact absurd h9 (by decide)
   | false=>
    rw [h4,ga (by decide)] at h9
    unfold JfR at h9;rw [jc,Hc] at h9;by_cases h5:(c.toNat:Int)=64/\Js v=true
    ·rw [ya h5] at h9;exact absurd h9 (by show ¬(3:Int)=9;decide)
    rw [ga h5] at h9;unfold Jfm at h9;cases h6:Js (c::v) with
    | true=>
     rw [h6,ya rfl] at h9;have:=zgB (c::v);omega
    | false=>
     refine ⟨h1,h2,h3,h4,h5,h6,λz=>?_⟩
     have hc47:c=47:=UInt8.toNat_inj.mp (by show c.toNat=47;omega)
     cases v with
     | nil=>exact absurd z.2 (by decide)
     | cons d w=>
      have hd:d=42:=UInt8.toNat_inj.mp (by have:=z.2;rw [jc] at this;show d.toNat=42;omega)
      subst hc47 hd;unfold comM at hcm;rw [ya (by simp [List.isPrefixOf])] at hcm
      split at hcm
      ·simp at hcm
      ·rw [ga (by simp)] at hcm;omega
theorem zai {w:List UInt8} (h:¬(hb w=47/\hb w.tail=42)):comM w=0:=by
 unfold comM;rw [ga];intro z;apply h;rcases w with _|⟨a,_|⟨b,r⟩⟩
 ·cases z
 ·simp [List.isPrefixOf] at z
 ·simp only [List.isPrefixOf,yb,beq_iff_eq] at z;obtain ⟨rfl,rfl,-⟩:=z;exact ⟨rfl,rfl⟩
theorem ZhQ {k:Int} (hk:16<=k/\k<=24) (v:List UInt8):zy ([marksT.getD (k-16).toNat 0]++v)=(tk k,1):=by
 obtain ⟨n,rfl⟩:∃n:Nat,k=16+(n:Int):=⟨(k-16).toNat,by omega⟩
 have hn:n<9:=by omega
 have key:∀n:Nat,n<9->(let c:=marksT.getD n 0;mSp (c.toNat:Int)=false/\mQ (c.toNat:Int)=false/\mSg (c.toNat:Int)=false/\mD (c.toNat:Int)=false/\mN0 (c.toNat:Int)=false/\zbu (c.toNat:Int)=16+(n:Int)/\c≠35/\c≠64/\c≠45/\c≠60/\c≠92/\c≠46):=by decide +kernel
 obtain ⟨k1,k2,k3,k4,k5,k6,k7,k8,k9,k10,k11,k12⟩:=key n hn;rw [show (16+(n:Int)-16).toNat=n by omega]
 generalize marksT.getD n 0=c at *;have hne:∀j:UInt8,c≠j->¬(c.toNat:Int)=(j.toNat:Int):=λj h z=>h (UInt8.toNat_inj.mp (by omega))
 have e35:¬(c.toNat:Int)=35:=hne 35 k7;have e64:¬(c.toNat:Int)=64:=hne 64 k8;have e45:¬(c.toNat:Int)=45:=hne 45 k9;have e92:¬(c.toNat:Int)=92:=hne 92 k11;have e46:¬(c.toNat:Int)=46:=hne 46 k12;rw [Qj,zfW k1 k2 (λz=>e35 z.1) ?_ ?_ ?_ (λz=>e64 z.1) ?_,k6,ya (by omega)]
 ·simp only [Za7,jc,k3,JQ,k4,e46];simp
 ·simp only [List.isPrefixOf];rw [show ((45:UInt8)==c)=false from by rw [beq_eq_false_iff_ne];exact Ne.symm k9];rfl
 ·simp only [List.isPrefixOf];rw [show ((60:UInt8)==c)=false from by rw [beq_eq_false_iff_ne];exact Ne.symm k10];rfl
 ·simp only [Js,jc,k5,Jbt,e92];simp;exact λz=>absurd z e45
theorem jiA (v:List UInt8):zy ([45,45,62]++v)=(tk 15,3):=Jhe (by simp [List.isPrefixOf])
