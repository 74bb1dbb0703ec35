/- Lemmas. -/
import Derived.Test.YtplpmeednhcjkaaGreatDoorHh1
import Derived.Test.YtplpmeednhcjkaaGreatDoorTn
import Derived.Test.YtplpmeednhcjkaaGreatDoorJf1
import Derived.Test.YtplpmeednhcjkaaGreatDoorAt1
set_option linter.unusedVariables false
set_option linter.unusedSimpArgs false
namespace Go.Proofs.YtplpmeednhcjkaaGreatDoor
open Go.Proofs.Tryz
open Go.Vm Go.Sx Go.RowKit
def Zd9:Int->List Tok->Bool
 | _,[]=>false
 | n,t::w=>if 1000<n+((t.text.length:Int)+(t.unit.length:Int)) then true else Zd9 (n+((t.text.length:Int)+(t.unit.length:Int))) w
def Zgi (l:List Tok):Bool:=if 100<l.length/\l.length<=1500 then true else if 1510<l.length then true else Zd9 0 l
theorem jdm:∀(w:List Tok) (n:Int),0<=n->Zd9 n w=false->∀t∈w,t.text.length<=1000/\t.unit.length<=1000
 | [],_,_,_,t,h=>by cases h
 | a::w,n,hn,h,t,ht=>by
  rw [Zd9] at h;split at h
  ·cases h
  ·rename_i q;rcases gc.1 ht with rfl|ht
   ·omega
   ·exact jdm w _ (by omega) h t ht
theorem JfX {l:List Tok} (h:Zgi l=false):l.length<=1510/\∀t∈l,t.text.length<=1000/\t.unit.length<=1000:=by
 unfold Zgi at h;split at h
 ·cases h
 split at h
 ·cases h
 ·exact ⟨by omega,jdm l 0 (by omega) h⟩
def JhR (t:Tok):Prop:=t.text.length<=1000000000000000/\t.unit.length<=1000000000000000
theorem ZeW (l:List Tok) (hl:∀t∈l,JhR t) (hs:l.length<=1510) (Ke:Unit->Prop) (Kr:Bool->Prop):∀(w:List Tok) (i:Nat) (n:Int),l.drop i=w->i<=l.length->0<=n->n<=1000->(Zd9 n w=false->Ke ())->(Zd9 n w=true->Kr true)->∃m,J5 m l n (i:Int) Ke Kr
 | [],i,n,hw,hi,h0,h3,h1,h2=>⟨1,by
  have hle:l.length<=i:=xn.1 hw;simp only [J5];exact ⟨λq=>by have:=Ha q;omega,λ_=>h1 rfl⟩⟩
 | t::w,i,n,hw,hi,h0,h3,h1,h2=>by
  obtain ⟨g1,g2⟩:=Zax hw;have e0:=gD hw;have hok:JhR t:=hl t (by have:=Rn (hw▸yc .. : t∈l.drop i);exact this)
  obtain ⟨k1,k2⟩:=hok;have n0:((i:Int)).toNat=i:=rfl;rw [Zd9] at h1 h2;by_cases q:1000<n+((t.text.length:Int)+(t.unit.length:Int))
  ·rw [ya q] at h2;refine ⟨1,?_⟩;simp only [J5,n0,e0];exact ⟨λ_=>⟨⟨by omega,by omega⟩,⟨by omega,by omega⟩,by unfold I64;omega,by unfold I64;omega,λ_=>h2 rfl,λz=>absurd q (gb z)⟩,λz=>by have:=gb z;omega⟩
  ·rw [ga q] at h1 h2;obtain ⟨m,hm⟩:=ZeW l hl hs Ke Kr w (i+1) _ g1 (by omega) (by omega) (by omega) h1 h2
   refine ⟨m+1,?_⟩;simp only [J5,n0,e0];exact ⟨λ_=>⟨⟨by omega,by omega⟩,⟨by omega,by omega⟩,by unfold I64;omega,by unfold I64;omega,λz=>absurd (Ha z) q,λ_=>⟨by unfold I64;omega,by rw [show (i:Int)+1=((i+1:Nat):Int) from by omega];exact hm⟩⟩,λz=>by have:=gb z;omega⟩
def JeW:JaI:=λl K=>(∀t∈l,JhR t)/\K (Zgi l)
theorem ZiC (l K) (h:JeW l K):Zdc l K:=by
 obtain ⟨hl,h⟩:=h;unfold Zgi at h;refine ⟨λq=>⟨λq2=>⟨λq3=>?_,λq3=>?_⟩,λq2=>?_⟩,λq=>⟨λq3=>?_,λq3=>?_⟩⟩
 ·have q:=Ha q;have q2:=gb q2;have q3:=Ha q3
  rwa [ga (by omega),ya (by omega)] at h
 ·have q:=Ha q;have q2:=gb q2;have q3:=gb q3;rw [ga (by omega),ga (by omega)] at h
  refine ZeW l hl (by omega) _ _ l 0 0 rfl (dg _) (by omega) (by omega) (λz=>?_) (λz=>?_) <;> rw [z] at h <;> exact h
 ·have q:=Ha q;have q2:=Ha q2
  rwa [ya (by omega)] at h
 ·have q:=gb q;have q3:=Ha q3;omega
 ·have q:=gb q;have q3:=gb q3;rw [ga (by omega),ga (by omega)] at h
  refine ZeW l hl (by omega) _ _ l 0 0 rfl (dg _) (by omega) (by omega) (λz=>?_) (λz=>?_) <;> rw [z] at h <;> exact h
theorem zhl (a b:List Tok) (ha:a.length<=10000) (hab:a.length=b.length) (Ke:Unit->Prop) (Kr:Bool->Prop):∀(x y:List Tok) (i:Nat),a.drop i=x->b.drop i=y->i<=a.length->(Zan x y=true->Ke ())->(Zan x y=false->Kr false)->∃m,Jat m a b (i:Int) Ke Kr
 | [],y,i,hx,hy,hi,h1,h2=>⟨1,by
  have hle:a.length<=i:=xn.1 hx;have:y=[]:=by rw [<-hy];exact List.drop_eq_nil_of_le (by omega)
  subst this;simp only [Jat];exact ⟨λq=>by have:=Ha q;omega,λ_=>h1 rfl⟩⟩
 | t::x,[],i,hx,hy,hi,h1,h2=>by
  have:=(Zax hx).2;have hle:b.length<=i:=xn.1 hy;omega
 | t::x,u::y,i,hx,hy,hi,h1,h2=>by
  obtain ⟨g1,g2⟩:=Zax hx;obtain ⟨g3,g4⟩:=Zax hy;have e0:=gD hx;have e1:=gD hy;have n0:((i:Int)).toNat=i:=rfl;have es:(decide (t.kind=u.kind)&&((t.text==u.text)&&(decide (t.num=u.num)&&((t.unit==u.unit)&&((t.flag==u.flag)&&true)))))=jaf t u:=by
   unfold jaf;rw [He];simp
  rw [Zan] at h1 h2;cases hc:jaf t u with
  | false=>
   rw [hc] at h2;refine ⟨1,?_⟩;simp only [Jat,n0,e0,e1,es,hc];exact ⟨λ_=>⟨⟨by omega,by omega⟩,⟨by omega,by omega⟩,λ_=>h2 rfl,λz=>by simp at z⟩,λz=>by have:=gb z;omega⟩
  | true=>
   rw [hc,Yg] at h1 h2;obtain ⟨m,hm⟩:=zhl a b ha hab Ke Kr x y (i+1) g1 g3 (by omega) h1 h2
   refine ⟨m+1,?_⟩;simp only [Jat,n0,e0,e1,es,hc];exact ⟨λ_=>⟨⟨by omega,by omega⟩,⟨by omega,by omega⟩,λz=>by simp at z,λ_=>⟨by unfold I64;omega,by rw [show (i:Int)+1=((i+1:Nat):Int) from by omega];exact hm⟩⟩,λz=>by have:=gb z;omega⟩
def zfY:Jbg:=λK=>K true
theorem zhS {s:List UInt8} {l:List Tok} (h:Jek s=some l) {K:List Tok->Int->Prop} (hK:K l 0):zbR s K:=by
 unfold Jek at h;by_cases q:4000<s.length
 ·rw [ya q] at h;cases h
 rw [ga q] at h;by_cases q2:1500<(Jd1 (Jt s)).length
 ·rw [ya q2] at h;cases h
 rw [ga q2] at h;have h:=Rd h;refine ⟨λz=>absurd z q,λ_ _=>?_,λ_ z=>absurd z q2⟩
 have e:(Jd1 (Jt s)).map JiZ=l:=h;rw [e];exact hK
theorem JiC {l:List Tok} (h:jeb l=0):(Jep l).2=0\/(Jep l).2=28:=by
 have:∀(f:Nat) (b:List UInt8) (sts:List (Nat×Nat)) (i:Nat),(wrM l f b sts i).2=0\/(wrM l f b sts i).2=28:=by
  intro f
  induction f with
  | zero=>intro b sts i;exact .inl rfl
  | succ f ih=>
   intro b sts i;rw [wrM];split
   ·exact .inl rfl
   ·dsimp only
    repeat' split
    all_goals first|exact .inr rfl|exact ih _ _ _
 unfold Jep;rw [ga (by rw [h];decide)]
 exact this _ _ _ _
theorem ziD {l:List Tok} {s:List UInt8} (hpos:∀w:List UInt8,w≠[]->1<=(zy w).2) (h:Jep l=(s,0)):s.length<=4000:=by
 have:=(jhk hpos h).1;unfold Jek at this;by_cases q:4000<s.length
 ·rw [ya q] at this;cases this
 ·omega
theorem zjE:∀w:List UInt8,w≠[]->1<=(zy w).2:=λw h=>by
 cases w with
 | nil=>exact absurd rfl h
 | cons c w=>exact (Zgc (by simp)).1
def zdB:za0:=λa b K=>a.length<=10000/\K (Zan a b)
theorem jhV (a b K) (h:zdB a b K):JdZ a b K:=by
 obtain ⟨ha,h⟩:=h;refine ⟨λq=>?_,λq=>zhl a b ha (by have:=gb q;omega) _ _ a b 0 rfl rfl (dg _) (λe=>by rw [e] at h;exact h) (λe=>by rw [e] at h;exact h)⟩
 have q:=Ha q;cases hs:Zan a b with
 | false=>rw [hs] at h;exact h
 | true=>rw [ja5 _ _ hs] at q;exact absurd rfl q
theorem jhp (l:List Tok) (n:Int) (K:Bool->Prop) (hl:∀t∈l,JhR t) (h:K true):jbS JeW jge zfY zjc zbR zdB l n K:=by
 refine ⟨hl,λq=>?_,λ_=>h⟩
 obtain ⟨g1,g2⟩:=JfX q;have ok:∀t∈l,Zf9 t:=λt ht=>⟨by have:=(g2 t ht).1;omega,by have:=(g2 t ht).2;omega⟩
 have ok2:∀t∈l,ok2 t:=λt ht=>⟨by have:=(g2 t ht).1;omega,by have:=(g2 t ht).2;omega⟩
 refine ⟨ok,λq2=>⟨λq3=>⟨λq4=>?_,λ_=>h⟩,λ_=>h⟩,λ_=>h⟩
 have q2:jeb l=0:=by simpa using q2
 have q3:=gb q3;have q4:=gb q4;obtain ⟨m,rfl⟩:∃m:Nat,n=(m:Int):=⟨n.toNat,by omega⟩
 have bd:0<=(m:Int)/\(m:Int)<=(l.length:Int):=by omega
 rw [xj];have hxy:l.take m++l.drop m=l:=Hp m l;refine ⟨bd,λt ht=>ok t (xp ht),λq5=>⟨bd,λt ht=>ok t (Rn ht),λ_=>h,λq6=>⟨ok2,?_⟩⟩,λ_=>h⟩
 have q5:jeb (l.take m)=0:=by simpa using q5
 rcases JiC q2 with q7|q7
 ·obtain ⟨a,hw⟩:∃a,Jep l=(a,0):=⟨(Jep l).1,by rw [<-q7]⟩
  have hw2:Jep (l.take m++l.drop m)=(a,0):=by rw [hxy];exact hw
  obtain ⟨b,hb,c,hc1,hc2,hc3⟩:=jf0 zjE hw2 q5;have hlen:a.length<=4000:=ziD zjE hw;subst hc1;rw [hxy] at hc3;rw [Rb] at hlen;rw [hw];have t1:(b++c).take ((b.length:Int)).toNat=b:=by rw [xj];exact List.take_left
  have t2:(b++c).drop ((b.length:Int)).toNat=c:=by rw [xj];exact ye
  have bd2:0<=(b.length:Int)/\(b.length:Int)<=((b++c).length:Int):=by rw [Rb];omega
  refine ⟨bd,λt ht=>ok2 t (xp ht),?_⟩
  rw [hb];dsimp only;rw [t1,t2];refine ⟨λ_=>⟨λz=>absurd z (by decide),λ_=>⟨λ_=>⟨bd2,λz=>?_,λ_=>⟨bd2,zhS hc2 ?_⟩⟩,λz=>?_⟩⟩,λz=>by simp at z⟩
  ·simp at z
  ·have hy:(l.drop m).length<=10000:=by rw [Hb];omega
   refine ⟨λ_=>⟨bd,hy,λz=>?_,λ_=>⟨λz4=>?_,λ_=>h⟩⟩,λz=>absurd z (by decide)⟩
   ·rw [zbE] at z;cases z
   ·have z4:=gb z4;have bd4:0<=(4:Int)/\(4:Int)<=(c.length:Int):=by omega
    refine ⟨bd4,λ_=>h,λz5=>⟨bd4,by rw [Hb];omega,?_⟩⟩
    have z5:c.take 4=[47,42,42,47]:=by simpa using z5
    have hne:=hc3 z5;refine ⟨λz=>⟨λz2=>absurd z2 (by decide),λ_=>h⟩,λz1 z2=>⟨λ_=>⟨by rw [Qm];omega,λ_=>h,λz3=>?_⟩,λz=>absurd z (by decide)⟩,λz1 z2=>⟨λz2=>absurd z2 (by decide),λ_=>h⟩⟩
    have z3:Zan ((Jd1 (Jt (b++c.drop 4))).map JiZ) l=true:=by simpa using z3
    exact absurd (ja5 _ _ z3) hne
  ·have:=Ha z;rw [Rb] at this;omega
 ·have e:(decide ((Jep l).2≠0))=true:=by rw [q7];decide
  refine ⟨bd,λt ht=>ok2 t (xp ht),λz=>?_,λ_=>⟨λ_=>h,λz=>?_⟩⟩
  ·rw [e] at z;cases z
  ·have:=gb z;exact absurd q7 this
variable {ro:Nat}
theorem Zjt (t K) (h:jh3 t K):Z9 JcE t K:=ZjI JcE (λa b K h=>h) t K h
theorem zjL:FO ro 89 (Jbz Zhb):=by
 intro o0 us k h st vs hn hg ho hr;unfold Jbz at h;split at h
 ·rename_i a0 a1;obtain ⟨hl,hk⟩:=h;obtain ⟨v0,r0,rfl,hv0,hr0⟩:=hr;obtain ⟨v1,r1,rfl,hv1,hr1⟩:=hr0;have hr1:r1=[]:=hr1;have hv0:v0=V.str a0:=hv0;have hv1:v1=V.str a1:=hv1;subst hr1 hv0 hv1;refine ⟨.i .i64 (Lib.index a0 a1),st,⟨1,λn hn=>?_⟩,.i .i64 (Lib.index a0 a1),rfl,⟨Ra _,λ_ _=>rfl,λ_ _ q=>q⟩,hk⟩
  cases n with
  | zero=>omega
  | succ n=>
   have e:ovD ro 89 [V.str a0,V.str a1] st=some (.i .i64 (Lib.index a0 a1),st):=by
    have hb:Nat.blt a0.length 4294967281=true:=by rw [ge];omega
    have h0:ovI 89 [V.str a0,V.str a1]=some (V.i .i64 (Lib.index a0 a1)):=by
     show cond (Nat.blt a0.length 4294967281) (some (V.i .i64 (Lib.index (Jf a0.length (jY a0)) (Jf a1.length (jY a1))))) none=_;rw [hb,zN,zN];rfl
    show JcW ovI 89 [V.str a0,V.str a1] st=_;unfold JcW;rw [h0]
   unfold evF ZS;rw [e]
 ·exact h.elim
theorem jjL:FP ro 74 (jaB Zjj):=by
 intro o0 us k h st vs hn hg ho hr;unfold jaB at h;split at h
 ·rename_i a0 a1;obtain ⟨⟨hl,hl2⟩,hk⟩:=h;obtain ⟨v0,r0,rfl,hv0,hr0⟩:=hr;obtain ⟨v1,r1,rfl,hv1,hr1⟩:=hr0;have hr1:r1=[]:=hr1;have hv0:v0=V.str a0:=hv0;have hv1:v1=.i .u8 a1:=hv1;subst hr1 hv0 hv1;obtain ⟨c,rfl⟩:∃c:Nat,a1=.ofNat c:=⟨a1.toNat,by show a1=(a1.toNat:Int);omega⟩
  have hc:c<256:=by have:((c:Nat):Int)<256:=hl2;omega
  refine ⟨.i .i64 (Lib.indexByte a0 (UInt8.ofNat c)),st,⟨1,λn hn=>?_⟩,.i .i64 (Lib.indexByte a0 (UInt8.ofNat c)),rfl,⟨Ra _,λ_ _=>rfl,λ_ _ q=>q⟩,hk⟩
  cases n with
  | zero=>omega
  | succ n=>
   have e:ovD ro 74 [V.str a0,.i .u8 (.ofNat c)] st=some (.i .i64 (Lib.indexByte a0 (UInt8.ofNat c)),st):=by
    have hb:Nat.blt c 256=true:=by rw [ge];exact hc
    have hx:ixN a0.length (jY a0) c 0=Lib.indexByte a0 (UInt8.ofNat c):=by
     have h2:=(Jf7 c hc a0.length (jY a0) 0).2;rw [zN] at h2;rw [h2];split
     ·rename_i z;exact z.symm
     ·show _+((0:Nat):Int)=_;omega
    have h0:ovI 74 [V.str a0,.i .u8 (.ofNat c)]=some (V.i .i64 (Lib.indexByte a0 (UInt8.ofNat c))):=by
     show cond (Nat.blt c 256) (some (V.i .i64 (ixN a0.length (jY a0) c 0))) none=_;rw [hb,hx];rfl
    show JcW ovI 74 [V.str a0,.i .u8 (.ofNat c)] st=_;unfold JcW;rw [h0]
   unfold evF ZS;rw [e]
 ·exact h.elim
theorem t_6:FP ro 6 (zcf zfY):=by
 intro o0 us k h st vs hn hg ho hr;unfold zcf at h;split at h
 ·have e:vs=[]:=hr;subst e;exact ⟨.b true,st,⟨1,λn hn=>by
   cases n with
   | zero=>omega
   | succ n=>rfl⟩,.b true,rfl,⟨Ra _,λ_ _=>rfl,λ_ _ q=>q⟩,h⟩
 ·exact h.elim
theorem ZjL:FnOK syc prog GT (ovD ro) ro 35 (Zad ZcS):=JdY ZfN JhM
theorem JjL:FP ro 22 (zaw Jgd):=FnOK.swap (Y:=syc) (Y':=syo) (λ_=>rfl) (λ_=>rfl) (zdZ (zfO ZcS ZjL) zi1)
theorem zjM:FP ro 21 (zT zbV):=by
 intro o0 us k h st vs hn hg ho hr;unfold zT at h;split at h
 ·rename_i a0;obtain ⟨⟨h0,h1⟩,hk⟩:=h;obtain ⟨v0,r0,rfl,hv0,hr0⟩:=hr;have hr0:r0=[]:=hr0;have hv0:v0=.i .u8 a0:=hv0;subst hr0 hv0;obtain ⟨c,rfl⟩:∃c:Nat,a0=.ofNat c:=⟨a0.toNat,by show a0=(a0.toNat:Int);omega⟩
  have hc:c<256:=by have:((c:Nat):Int)<=255:=h1;omega
  refine ⟨.b (ZgT c),st,⟨1,λn hn=>?_⟩,.b (ZgT c),rfl,⟨Ra _,λ_ _=>rfl,λ_ _ q=>q⟩,hk⟩
  cases n with
  | zero=>omega
  | succ n=>
   have e:ovD ro 21 [.i .u8 (.ofNat c)] st=some (.b (ZgT c),st):=by
    have hb:Nat.blt c 256=true:=by rw [ge];exact hc
    have h0:ovL 21 [.i .u8 (.ofNat c)]=some (V.b (ZgT c)):=by
     show cond (Nat.blt c 256) (some (V.b (ZgT c))) none=_;rw [hb];rfl
    show (match JcW ovL 21 [.i .u8 (.ofNat c)] st with|some r=>some r|none=>_)=_
    unfold JcW;rw [h0]
   unfold evF ZS;rw [e]
 ·exact h.elim
theorem t_4:FP ro 4 (jax JeW):=Zd1 (ZfR) ZiC
theorem jjM:FP ro 19 (Jaw Jax):=jd0 (ZfP) jhN
theorem ZjM:FP ro 33 (Zaw zge):=ZdZ (ZfO) ji1
theorem JjM:FP ro 20 (jaQ jaW):=Jej (Zgx zge ZjM) Jix
theorem zjN:FP ro 10 (zau Jah):=zek (Jgx Jax jaW zbV jjM JjM zjM) jiy
theorem jjN:FP ro 11 (Jad JX):=jdZ (jfO Jgd JjL) zhN
theorem t_5:FP ro 5 (zax jge):=jd1 (zfR Jah JX zjN jjN) Zi1
theorem ZjN:FP ro 36 (jag zeq):=zdr (jfh) jiT
theorem jjc:FP ro 37 (zj jcR):=JcB (ZdT Zjj jjL) Jjj
theorem JjN:FP ro 38 (jU zd2):=ZcO (zei) Zio
theorem jhr:FO ro 78 (Zf JaE):=Jdn (Je7) jji
theorem Jjt:FP ro 75 (zr zeS):=jcC (jdU JaE (gr jhr)) jjn
theorem zjO:FO ro 88 (Ja5 jhb):=zeI (zgZ) jjm
theorem zju:FO ro 49 (Z1 ZgE):=JeI (jgZ jhb zjO) ZjJ
theorem ZjE:FP ro 76 (Jm Zfp):=zbA (jcp ZgE zeS (gr zju) Jjt) Zjn
theorem jju:FP ro 39 (zo Zel):=Zcp (Jdr zeS Zfp Jjt ZjE) Jjn
theorem ziK:FO ro 51 (zi ZaJ):=jdp (Jfb) ZiT
theorem Zju:FO ro 53 (ZD jel):=Zdp (zfc) zjj
theorem ziH:FO ro 105 (Jy zel):=Zc2 (JeF) Zji
theorem Jju:FO ro 77 (Jq jaC):=zcz (zdN zel ziH) zhI
theorem jjO:FP ro 40 (ZN zgy):=ZcC (ZdU ZaJ jel jaC JaE jcR (gr ziK) (gr Zju) (gr Jju) (gr jhr) jjc) zjk
theorem JjE:FP ro 79 (ZA zfS):=JcC (JdU) jjh
theorem ZjO:FP ro 41 (zI Jdc):=Jcp (zdt zfS JjE) Jio
theorem JjO:FP ro 23 (jo jg7):=jbA (zcq zeq jcR zd2 Zel zgy Jdc ZjN jjc JjN jju jjO ZjO) jjk
theorem zjv:FP ro 25 (Jg Jg6):=ZbM (zcD) jjI
theorem zjP:FP ro 42 (JaM ZiJ):=jei (Jgw) JjI
theorem jjP:FO ro 80 (JH jg9):=jcM (Jef) Zjl
theorem zjF:FO ro 43 (Zaj JcE):=zeg (Zgv jg9 jjP) zir
theorem jjF:FP ro 26 (Zi jh3):=zbt (jb8 JcE (gr zjF)) Zjt
theorem ZjP:FP ro 24 (jk zg7):=Zbd (JbM Jg6 ZiJ jh3 zjv zjP jjF) Zjh
theorem JjP:FP ro 14 (zP Zg7):=Jc7 (JeM jg7 zg7 JjO ZjP) Jjh
theorem zjQ:FP ro 15 (jz Jg7):=Jcq (Zdt Jg6 jh3 zjv jjF) zji
theorem jjv:FO ro 92 (Jp Zdu):=Jc2 (jeG jaC JaE Jju jhr) Jji
theorem Zf0:ShOK syo prog GT (ovD ro) ro f107.ntmps (za f107) sl_gE_w jal (jaS zaW):=(Zim JaE zel (gr jhr) (gr ziH)).weak (λ_ _ h=>jit _ _ _ _ _ _ _ _ _ _ _ _ _ _ _ _ _ h)
theorem zhq:ShOK syo prog GT (ovD ro) ro f106.ntmps (za f106) sl_gB_w zbN (JcP Jdd):=(zin Zdu zaW (gr jjv) Zf0).weak (λ_ _ h=>Zit _ _ _ _ _ _ _ _ _ _ _ _ _ _ _ _ _ _ h)
theorem Zh9:ShOK syo prog GT (ovD ro) ro f81.ntmps (za f81) sl_gN_w jbN (zcQ zde):=(jin Zel Jdd jju zhq).weak (λ_ _ h=>Jit _ _ _ _ _ _ _ _ _ _ _ _ _ _ _ _ _ h)
theorem jiH:ShOK syo prog GT (ovD ro) ro f107.ntmps (za f107) sl_gE_h Jb8 (Jdi jde):=(Zin JaE zel (gr jhr) (gr ziH)).weak (λ_ _ h=>ziu _ _ _ _ _ _ _ _ _ _ _ _ _ _ _ _ _ _ _ _ _ _ h)
theorem jhq:ShOK syo prog GT (ovD ro) ro f106.ntmps (za f106) sl_gB_h ZbN (ZcQ Zde):=(zio Zdu jde (gr jjv) jiH).weak (λ_ _ h=>jiu _ _ _ _ _ _ _ _ _ _ _ _ _ _ _ _ _ _ _ _ _ _ _ h)
theorem zi8:ShOK syo prog GT (ovD ro) ro f81.ntmps (za f81) sl_gN_h Jc9 (jep ZeT):=(jio Zel Zde jju jhq).weak (λ_ _ h=>Ziu _ _ _ _ _ _ _ _ _ _ _ _ _ _ _ _ _ _ _ _ _ _ h)
theorem ji8:ShOK syo prog GT (ovD ro) ro f82.ntmps (za f82) sl_glue_appendHash_w ZJ (jM JeU):=(jcr Zde ZeT jhq zi8).weak (λ_ _ h=>ziw _ _ _ _ _ _ _ _ _ _ _ _ _ _ _ _ _ _ _ _ _ h)
theorem Zi8:ShOK syo prog GT (ovD ro) ro f83.ntmps (za f83) sl_glue_appendString_w ZC (JE JeT):=(JbW jcR zaW jjc Zf0).weak (λ_ _ h=>Jiu _ _ _ _ _ _ _ _ _ _ _ _ _ _ _ _ _ h)
theorem Ji8:ShOK syo prog GT (ovD ro) ro f84.ntmps (za f84) sl_glue_appendURL_w ZM (jR zeU):=(JcD jcR zaW jjc Zf0).weak (λ_ _ h=>ziv _ _ _ _ _ _ _ _ _ _ _ _ _ _ _ _ _ h)
theorem zi9:ShOK syo prog GT (ovD ro) ro f85.ntmps (za f85) sl_glue_appendNumber_w JC (zF jeU):=(jbX).weak (λ_ _ h=>Ziv _ _ _ _ _ _ _ _ _ _ _ _ _ _ _ _ _ _ h)
theorem Zjv:FP ro 109 (zm ZhM):=ja2 (Zbt zeS Zfp Jjt ZjE) zjo
theorem ji9:ShOK syo prog GT (ovD ro) ro f86.ntmps (za f86) sl_glue_appendUnit_w JJ (JM ZeU):=(zcs ZhM Jdd zde Zjv zhq Zh9).weak (λ_ _ h=>Jiv _ _ _ _ _ _ _ _ _ _ _ _ _ _ _ _ _ h)
theorem Zi9:ShOK syo prog GT (ovD ro) ro f44.ntmps (za f44) sl_glue_appendToken_w Zt (zw jd4):=(Jca zde JeU JeT zeU jeU zfS ZeU Zh9 ji8 Zi8 Ji8 zi9 JjE ji9).weak (λ_ _ h=>jiw _ _ _ _ _ _ _ _ _ _ _ _ _ _ _ _ h)
theorem Ji9:ShOK syo prog GT (ovD ro) ro f27.ntmps (za f27) sl_glue_appendPiece_w jq (Zs Ji0):=(jcb Jg6 jd4 zjv Zi9).weak (λ_ _ h=>zjK _ _ _ _ _ _ _ h)
theorem jjQ:FO ro 48 (jl JiJ):=Zbh (ZbV) JjJ
theorem ZjQ:FO ro 30 (jaj zd4):=jee (jgu JiJ jjQ) zit
theorem JjQ:FO ro 50 (jab Jhb):=jdS (zfJ Zhb zjL) Zjm
theorem zjR:FO ro 31 (jp zhc):=JbV (zcO ZgE Jhb zju JjQ) Jjm
theorem JgE:FO ro 90 (Zd zn):=ZdL (ZfB) ZhH
theorem Jjv:FO ro 52 (Zap jhI):=jfc (JhA zn ZaJ JgE ziK) jjJ
theorem ZiH:ShOK sy prog GT (ovD ro) ro f114.ntmps (za f114) sl_uA_q zb6 (Zdi jeR):=(jil).weak (λ_ _ h=>Ziq _ _ _ _ _ _ _ _ h)
theorem zja:FO ro 115 (Zv jfo):=Jc3 (ZeJ JaE jhr) Zjk
theorem Jh9:ShOK sy prog GT (ovD ro) ro f91.ntmps (za f91) sl_aE_q jaU (Zbz zcd):=(Jil jeR jfo zn ZaJ ZiH zja JgE ziK).weak (λ_ _ h=>Jiq _ _ _ _ _ _ _ _ _ h)
theorem jjR:FO ro 54 (JbK zhJ):=Jff (JhD zcd Jh9) Jjk
theorem Zjc:FO ro 93 (JY zcR):=jfb (zhA zn JgE) jjj
theorem ZjF:FO ro 55 (ZaL jcE):=Zfb (jhA zn Zdu zcR JgE jjv Zjc) Zip
theorem JjF:FO ro 56 (jA JaV):=jcz (jdN zn jaC zcR JgE Jju Zjc) jip
theorem JiH:ShOK sy prog GT (ovD ro) ro f114.ntmps (za f114) sl_uA_e jb5 (jdi zeR):=(Zik).weak (λ_ _ h=>Jip _ _ _ h)
theorem zia:ShOK sy prog GT (ovD ro) ro f91.ntmps (za f91) sl_aE_e zaU (Jby Zcc):=(zil zeR jfo zn ZaJ JiH zja JgE ziK).weak (λ_ _ h=>ziq _ _ _ _ h)
theorem zjw:FO ro 57 (zz jcu):=Zc4 (ZeK jcE Zcc ZjF zia) jiX
theorem jjw:FO ro 94 (zJ zaC):=JdL (JfB) JhH
theorem zjG:FO ro 95 (Ja1 jd2):=Ze8 (jhy zn JaE JgE jhr) JiT
theorem ZjR:FO ro 58 (JbG Jfn):=Je8 (Zhy zn zaC JaE jd2 JgE jjw jhr zjG) ziU
theorem Zjw:FO ro 118 (zx zdd):=zbH (jcy) zip
theorem Jjw:FO ro 119 (zH zfo):=jco (zdo zn zaC JaE JgE jjw jhr) jiU
theorem zjx:FO ro 120 (jbH jdd):=ze9 (zhz) Zir
theorem jjx:FO ro 135 (Za5 ZeR):=zeF (jgW) Jir
theorem Zjx:FO ro 133 (jH Jgb):=zcL (zed ZeR jjx) JiY
theorem Jjx:FO ro 121 (ZbI jha):=Ze9 (Zhz Jgb Zjx) Jjl
theorem JjR:FO ro 96 (JbI jhK):=zfb (Jhz jd2 zn zdd zfo jdd jha zaC JaE zjG JgE Zjw Jjw zjx Jjx jjw jhr) zjm
theorem zjS:FO ro 59 (jN jcd):=jcA (JdS jhK JaV jcu zn JjR JjF zjw JgE) jhc
theorem zjy:FO ro 122 (ZH zcm):=zcM (Zef) jhJ
theorem jjy:FO ro 123 (Jbb zg9):=Jfd (jhC zcR Zcc Zjc zia) zjl
theorem jjS:FO ro 97 (Zaf ZhJ):=Jdp (Zff jhI ZaJ zcR zcd zcm zg9 Jjv ziK Zjc Jh9 zjy jjy) jjl
theorem ZjS:FO ro 60 (zU JbQ):=ZcN (zeh jcu zn JcE jhI jel ZhJ zjw JgE zjF Jjv Zju jjS) jir
theorem JjS:FO ro 61 (zav ZcR):=ZdS (jfJ) jiZ
theorem zjT:FO ro 32 (JK Jd3):=jc6 (JeL ZaJ jhI jel zhJ jcE JaV jcu Jfn jcd ZgE JbQ ZcR ziK Jjv Zju jjR ZjF JjF zjw ZjR zjS zju ZjS JjS) Jis
theorem t_8:FO ro 8 (zak zbR):=Jeh (Zgw zd4 zhc Jd3 ZjQ zjR zjT) jhM
theorem jjT:FP ro 45 (JN Jjb):=jcD (ZdW) zjJ
theorem ZjT:FP ro 28 (ju Jeq):=zcr (jdu zbR Jjb (gr t_8) jjT) zi0
theorem t_7:FP ro 7 (Z5 zjc):=zda (jeN Zg7 Jg7 Ji0 Jeq JjP zjQ Ji9 ZjT) jjK
theorem t_9:FP ro 9 (zaQ zdB):=Zej (jgx) jhV
theorem Zjy:FP ro 3 (Zay (λl _ K=>(∀t∈l,JhR t)/\K true)):=
 JcU (zem JeW jge zfY zjc zbR zdB t_4 t_5 t_6 t_7 (gr t_8) t_9) (λl n K h=>jhp l n K h.1 h.2)
theorem JjT {W:World} (hG:GOn W gs1):GOK GT (GL+W.heap.size) (stW W):=by
 refine Zhp λg k l h=>?_
 match g,h with
 | 0,h=>
  obtain ⟨rfl,rfl⟩:IntKind.u8=k/\marksL=l:=by
   have h2:=Rd h;exact ⟨Ya Prod.fst h2,Ya Prod.snd h2⟩
  obtain ⟨h1,_,c,e,fz,h2,h3⟩:=hG (0,gv0) (gd _ (gd _ (gd _ (yc ..))));refine ⟨h1,c,e,fz,h2,λj hj=>?_⟩
  have e2:(gv0.map (V.real J0))=(marksL.map λz=>Value.int .u8 z):=by kernel_rfl
  rw [e2] at h3;rw [<-Array.getElem?_toList,h3,List.getElem?_map,List.getD_eq_getElem?_getD,List.getElem?_eq_getElem hj];rfl
 | _+1,h=>cases h
theorem jja {H:Type} {enc:TypeId×Value->H} {W:World} (fuel:Nat) (cs:List Value) (x:DataW H×List MemPlace) (h:DataW.trod enc prog W 0 (λ_=>true) true fuel 34 cs=some x) :
  ∃y:Tok,jeY syo W (syo.cells Cd.tok y) cs/\((∀n∈x.1.weights prog 34,n<=reachBytes)->JhR y):=by
 obtain ⟨k,tx,m,un,fl,rfl,hx,hw⟩:=ZhV Tryz.underlying34 (by kernel_rfl) rfl rfl rfl rfl rfl (by kernel_rfl) (by kernel_rfl) (by kernel_rfl) (by kernel_rfl) (by kernel_rfl) Tryz.underlying5 Tryz.underlying9 Tryz.underlying2 Tryz.underlying9 Tryz.underlying4 h
 refine ⟨⟨k,tx.data.toList,m,un.data.toList,fl⟩,⟨rfl,λj u v hu hv=>?_⟩,λhh=>?_⟩
 ·match j,hu,hv with
  | 0,hu,hv=>obtain rfl:=Rd hu;obtain rfl:=Rd hv;exact ⟨_,rfl,.i _ _⟩
  | 1,hu,hv=>obtain rfl:=Rd hu;obtain rfl:=Rd hv;exact ⟨_,rfl,.s _⟩
  | 2,hu,hv=>obtain rfl:=Rd hu;obtain rfl:=Rd hv;exact ⟨_,rfl,.i _ _⟩
  | 3,hu,hv=>obtain rfl:=Rd hu;obtain rfl:=Rd hv;exact ⟨_,rfl,.s _⟩
  | 4,hu,hv=>obtain rfl:=Rd hu;obtain rfl:=Rd hv;exact ⟨_,rfl,.b _⟩
  | j+5,hu,hv=>cases hu
 ·rw [hw] at hh;have hr:=reachBytes_lt;have w1:=hh tx.data.toList.length (by simp [DataW.weightsEach,DataW.weights])
  have w3:=hh un.data.toList.length (by simp [DataW.weightsEach,DataW.weights])
  exact ⟨by show tx.data.toList.length<=_;omega,by show un.data.toList.length<=_;omega⟩
theorem JhV {P:Program} {w:World} {r:Reach} {b0:Nat} {t e:TypeId} {v:Value} (ht:P.underlying t=some (.slice e)) (hval:Value.okWide P w r b0 t v):v.cells = #[v]:=by
 cases v with
 | agg cs=>simp [Value.okWide,ht,Cell.okWide,Cell.ok] at hval
 | _=>rfl
theorem Zhq (n:Int) (W:World) (hL:laidMetH prog Rows.gluePartsRow.laid W) (hB:W.ShapedOpen prog) (val:Value) (v:V) (xs:List Tok) (hv:toV W.heap.size val=some v) (hd:Dat syo (λ_=>False) (stW W) Cd.tok xs v) (hb:∀t∈xs,JhR t):Calls prog 3 #[val,.int .i64 n] W λe w'=>e=.returned (.bool true)/\Below W.heap.size W w':=by
 obtain ⟨q1,q2,q3⟩:=zf3 hv;refine zgo (ov:=ovA (GL+W.heap.size)) (ziT hB (gon hL)) mixed jfB (args:=[v,.i .i64 n]) ⟨q2,trivial,trivial⟩ ?_ _ (by simp only [V.reals,q1,V.real])
 obtain ⟨v',st',⟨M,h1⟩,u,h2,_,h3⟩:=Zjy (ro:=GL+W.heap.size) (λ_=>False) [.l Cd.tok xs,.i .i64 n] (λu=>u=.b true) ⟨hb,rfl⟩ (stW W) [v,.i .i64 n] (Ra _) (JjT (gon hL)) (λ_ q=>q.elim) ⟨_,_,rfl,hd,_,_,rfl,rfl,rfl⟩
 subst h3;have e:v'=.b true:=h2;subst e;exact ⟨M,st',h1 M (Ra _)⟩
