/- Lemmas. -/
import Derived.Test.YtplpmeednhcjkaaGreatDoorHa1
import Derived.Test.YtplpmeednhcjkaaGreatDoorTm
set_option linter.unusedVariables false
namespace Go.Proofs.YtplpmeednhcjkaaGreatDoor
open Go.Vm Go.Sx Go.RowKit
theorem jeS (u:Nat):(jcH u).length<=2:=by unfold jcH;split <;> simp
theorem jbR (c:UInt8):(jbh c).length<=4:=by
 unfold jbh;have:=jeS c.toNat;split <;> simp <;> omega
theorem JcR (e:Int):∀(w:List UInt8) (i:Int),(JaB e i w).length<=4*w.length
 | [],_=>by simp [JaB]
 | c::w,i=>by
  have h1:=JcR e w (i+1);have h2:=jbR c;simp only [JaB,Rb,da];split
  ·simp;omega
  ·omega
theorem ZeS:∀(w:List UInt8),(jaJ w).length<=4*w.length
 | []=>by simp [jaJ]
 | c::w=>by
  have h1:=ZeS w;have h2:=jbR c;simp only [jaJ,Rb,da];split
  ·omega
  ·simp;omega
theorem JeS:∀(w:List UInt8),(Zbi w).length<=4*w.length
 | []=>by simp [Zbi]
 | c::w=>by
  have h1:=JeS w;have h2:=jbR c;simp only [Zbi,Rb,da];split
  ·omega
  ·simp;omega
theorem jh4 {c:Int} (h:0<=c/\c<=255):Jec c 16=true:=by unfold Jec;simp;omega
theorem Zh4 (c:Int):zaX c 16=jcH c.toNat:=by unfold zaX;simp
theorem fr3_len:∀k r,(fr3 k r).length<=k
 | 0,_=>Ra _
 | k+1,r=>by
  simp only [fr3,da];split
  ·simp
  ·have:=fr3_len k (r*10%1000);omega
theorem zeT {a:Nat} (h:a<=1000000000):(Lib.decDigits a).length<=10:=by
 rw [Lib.decDigits_length];have h10:∀k u,u<10^(k+1)->Lib.nDigits u<=k+1:=by
  intro k
  induction k with
  | zero=>intro u hu;rw [Lib.nDigits_small (by simpa using hu)];omega
  | succ k ih=>
   intro u hu;by_cases q:u<10
   ·rw [Lib.nDigits_small q];omega
   ·rw [Lib.nDigits_big q];have:=ih (u / 10) (by rw [gl] at hu;omega)
    omega
 exact h10 9 a (by omega)
theorem zcS {n:Int} (h:-1000000000000<=n/\n<=1000000000000) (w:Bool):(jD n w).length<=15:=by
 have h1:=zeT (a:=n.natAbs / 1000) (by omega)
 have h2:=fr3_len 3 (n.natAbs%1000);unfold jD;rw [Rb,Rb];have h3:(if n<0 then [(45:UInt8)] else []).length<=1:=by split <;> simp
 have h4:(if w then ([]:List UInt8) else 46::fr3 3 (n.natAbs%1000)).length<=4:=by split <;> simp <;> omega
 omega
theorem td {x:Int} {y:Nat} (h:x=(y:Int)) (k:Nat):x.tdiv (k:Int)=((y / k:Nat):Int):=by
 subst h;rw [Int.tdiv_eq_ediv_of_nonneg (by omega)]
 omega
theorem tm {x:Int} {y:Nat} (h:x=(y:Int)) (k:Nat):x.tmod (k:Int)=((y%k:Nat):Int):=by
 subst h;rw [Int.tmod_eq_emod_of_nonneg (by omega)]
 omega
theorem ji0 {a:Nat} (h:a<=1000000000):Jec (a:Int) 10=true:=by unfold Jec;simp;omega
theorem Zi0 (a:Nat):zaX (a:Int) 10=Lib.decDigits a:=by unfold zaX;simp
def ZhM:Zo:=λu K=>u≠[]/\K (JeB u)
theorem zjo (u K) (h:ZhM u K):zac zeS Zfp u K:=by
 obtain ⟨h0,h⟩:=h;unfold JeB mE at h
 match u,h0,h with
 | c::w,_,h=>
  rw [jc] at h;have hl:(0:Int)<((c::w).length:Int):=by rw [da];omega
  have hl1:(1:Int)<=((c::w).length:Int):=by omega
  have tl:K (swD w||swM w)->(0<=(1:Int)/\(1:Int)<=((c::w).length:Int))/\zeS ((c::w).drop 1) (λy1=>(y1=false->(0<=(1:Int)/\(1:Int)<=((c::w).length:Int))/\Zfp ((c::w).drop 1) (λy2=>K y2))/\(y1=true->K true)):=by
   intro hk;refine ⟨⟨by omega,hl1⟩,λq=>⟨⟨by omega,hl1⟩,?_⟩,λq=>?_⟩
   ·have q:swD w=false:=q;rw [q,Yi] at hk;exact hk
   ·have q:swD w=true:=q;rw [q,Yh] at hk;exact hk
  refine ⟨⟨by omega,hl⟩,λq1=>⟨⟨by omega,hl⟩,λq2=>?_,λq2=>?_⟩,λq1=>?_⟩
  ·have q1:¬(c.toNat:Int)=101:=by simpa using q1
   have q2:¬(c.toNat:Int)=69:=by simpa using q2
   rw [Ye q1,Ye q2] at h;exact h
  ·have q2:(c.toNat:Int)=69:=by simpa using q2
   rw [q2] at h;exact tl h
  ·have q1:(c.toNat:Int)=101:=by simpa using q1
   rw [q1] at h;exact tl h
theorem Jfp {t:Tok} (h:zcu t=true):(1<=t.kind/\t.kind<=24)/\(t.kind≠6/\t.kind≠8)/\(t.kind=10\/t.kind=11\/t.kind=12->-1000000000000<=t.num/\t.num<=1000000000000)/\(t.kind=12->t.unit≠[]):=by
 unfold zcu at h;simp only [yb] at h;obtain ⟨-,-,-,h⟩:=h;by_cases k1:t.kind∈([1,2,3]:List Int)
 ·simp only [gc,Qe,or_false] at k1;refine ⟨by omega,by omega,λq=>by omega,λq=>by omega⟩
 rw [ga k1] at h;by_cases k4:t.kind=4
 ·refine ⟨by omega,by omega,λq=>by omega,λq=>by omega⟩
 rw [ga k4] at h;by_cases k9:t.kind=9
 ·refine ⟨by omega,by omega,λq=>by omega,λq=>by omega⟩
 rw [ga k9] at h;by_cases k10:t.kind=10\/t.kind=11
 ·rw [ya k10] at h;unfold ZbY at h;simp only [yb,xc] at h;exact ⟨by omega,by omega,λ_=>⟨h.1,h.2.1⟩,λq=>by omega⟩
 rw [ga k10] at h;by_cases k12:t.kind=12
 ·rw [ya k12] at h;unfold ZbY at h;simp only [yb,xc,bne_iff_ne] at h;exact ⟨by omega,by omega,λ_=>⟨h.1.1,h.1.2.1⟩,λ_=>h.2⟩
 rw [ga k12] at h;by_cases k6:t.kind=6\/t.kind=8
 ·rw [ya k6] at h;cases h
 rw [ga k6] at h;simp only [yb,xc] at h;exact ⟨h,by omega,λq=>by omega,λq=>by omega⟩
theorem jeT (s:List UInt8):(zX s).length<=4*s.length:=JcR _ _ _
theorem Zhc (s:List UInt8) (f:Bool):(jcc s f).length<=4*s.length+1:=by
 cases f with
 | false=>have:=JcR (-1) s 0;show (35::JaB (-1) 0 s).length<=_;rw [da];omega
 | true=>have:=jeT s;show (35::zX s).length<=_;rw [da];omega
theorem Jhc (s:List UInt8):(zQ s).length<=4*s.length:=by
 unfold zQ;cases JeB s with
 | false=>exact jeT s
 | true=>exact JcR _ _ _
theorem jgd {t:Tok} (hc:zcu t=true) (ht:t.text.length<=1000000) (hu:t.unit.length<=1000000):(tokT t).length<=4000020:=by
 obtain ⟨c1,c2,c3,c4⟩:=Jfp hc;have b1:=jeT t.text;have b2:=Jhc t.unit;have b3:=ZeS t.text;have b4:=JeS t.text;have b5:=Zhc t.text t.flag;unfold tokT;have key:∀(c:Prop) [Decidable c] (x y:List UInt8),(c->x.length<=4000020)->(¬c->y.length<=4000020)->(if c then x else y).length<=4000020:=by
  intro c _ x y h1 h2;by_cases q:c
  ·rw [ya q];exact h1 q
  ·rw [ga q];exact h2 q
 refine key _ _ _ (λq=>by simp) λ_=>key _ _ _ (λq=>by omega) λ_=>key _ _ _ (λq=>by simp only [Rb,da,Hd];omega) λ_=>key _ _ _ (λq=>by rw [da];omega) λ_=>key _ _ _ (λq=>by omega) λ_=>key _ _ _ (λq=>by simp only [Rb,da,Hd];omega) λ_=>key _ _ _ (λq=>by simp only [Rb,da,Hd];omega) λ_=>key _ _ _ (λq=>?_) λ_=>key _ _ _ (λq=>?_) λ_=>key _ _ _ (λq=>?_) λ_=>key _ _ _ (λq=>by omega) λ_=>key _ _ _ (λq=>by simp) λ_=>key _ _ _ (λq=>by simp) λ_=>by simp
 ·have:=zcS (c3 (by omega)) t.flag;omega
 ·have:=zcS (c3 (by omega)) (jau t.num);simp only [Rb,da,Hd];omega
 ·have:=zcS (c3 (by omega)) t.flag;rw [Rb];omega
def zaW:ZE:=λc uA b b2 uG uH uI uJ uK uL uM uN uO uP uQ uR K=>((0<=c/\c<=255)/\b.length<=50000000)/\K uA (b++jbh (UInt8.ofNat c.toNat)) b2 uG uH uI uJ uK uL uM uN uO uP uQ uR
theorem jit (c uA b b2 uG uH uI uJ uK uL uM uN uO uP uQ uR K) (h:zaW c uA b b2 uG uH uI uJ uK uL uM uN uO uP uQ uR K):zg3 JaE zel c uA b b2 uG uH uI uJ uK uL uM uN uO uP uQ uR K:=by
 obtain ⟨⟨hc,hb⟩,hk⟩:=h;have hl:=jeS c.toNat;have ec:(((UInt8.ofNat c.toNat).toNat:Nat):Int)=c:=by rw [Qo];omega
 have en:(UInt8.ofNat c.toNat).toNat=c.toNat:=by omega
 unfold jbh at hk;rw [ec,en] at hk;have fin:¬((33<=c/\c<=126)/\mD c=false/\mL c=false)->(I64 c/\(Jec c (16:Int)=true/\(((b++[UInt8.ofNat 92]).length+(zaX c (16:Int)).length)*1<=1099511627776/\((0<=(32:Int)/\(32:Int)<=255)/\((((b++[UInt8.ofNat 92])++(zaX c (16:Int))).length+[UInt8.ofNat 32].length)*1<=1099511627776/\K uA (((b++[UInt8.ofNat 92])++(zaX c (16:Int)))++[UInt8.ofNat 32]) b2 uG uH uI uJ uK uL uM uN uO uP uQ uR))))):=by
  intro q;rw [ga q] at hk;rw [Zh4];refine ⟨by unfold I64;omega,jh4 hc,by simp;omega,by omega,by simp;omega,?_⟩
  simpa using hk
 refine ⟨by omega,by simp;omega,λq1=>⟨λq2=>⟨λq3=>⟨λq4=>⟨hc,by simp;omega,?_⟩,λq4=>?_⟩,λq3=>?_⟩,λq2=>?_⟩,λq1=>?_⟩
 ·have q1:=Ha q1;have q2:=Ha q2;have q3:mD c=false:=by simpa using q3
  have q4:mL c=false:=by simpa using q4
  rw [ya ⟨⟨q1,q2⟩,q3,q4⟩] at hk;simpa using hk
 ·exact fin λz=>by rw [z.2.2] at q4;cases q4
 ·exact fin λz=>by rw [z.2.1] at q3;cases q3
 ·exact fin λz=>by have:=gb q2;omega
 ·exact fin λz=>by have:=gb q1;omega
abbrev jjo:=jaO Zdu zaW
theorem JfT (uA:List Tok) (b2:List (Int×Int)) (uG:Int) (uH:Int) (uI:Int) (uJ:List UInt8) (uK:Int) (uL:List UInt8) (uM:Bool) (uN:Int) (uO:List UInt8) (uP:Int) (uQ:List UInt8) (uR:Bool) (s:List UInt8) (hs:s.length<=1000000) (e:Int) (Ke:(List Tok->List UInt8->List (Int×Int)->Int->Int->Int->List UInt8->Int->List UInt8->Bool->Int->List UInt8->Int->List UInt8->Bool->Prop)):∀(w:List UInt8) (i:Int) (b:List UInt8),s.drop i.toNat=w->0<=i->i<=s.length->b.length+4*w.length<=48000000->
  Ke uA (b++JaB e i w) b2 uG uH uI uJ uK uL uM uN uO uP uQ uR->∃m,jjo m s e (s.length:Int) i uA b b2 uG uH uI uJ uK uL uM uN uO uP uQ uR Ke
 | [],i,b,hw,hi,hil,hb,h=>by
  have:=JR hw;refine ⟨1,?_⟩;simp only [jaO];refine ⟨λq=>?_,λ_=>?_⟩
  ·have:=Ha q;omega
  ·simpa [JaB] using h
 | c::w,i,b,hw,hi,hil,hb,h=>by
  obtain ⟨h1,h2,h3,_⟩:=jx hi hw;rw [da] at hb;have hin:=Zfn c;have hel:=jbR c;have hlt:¬decide (i<(s.length:Int))=false:=by simp;omega
  simp only [JaB] at h;by_cases q:i≠e/\mN (c.toNat:Int)=true
  ·rw [ya q] at h;obtain ⟨m,hm⟩:=JfT uA b2 uG uH uI uJ uK uL uM uN uO uP uQ uR s hs e Ke w (i+1) (b++[c]) h3 (by omega) (by omega) (by simp;omega) (by simpa using h)
   refine ⟨m+1,?_⟩;simp only [jaO];refine ⟨λ_=>⟨λ_=>⟨⟨hi,h1⟩,?_⟩,λz=>absurd (gb z) (by simpa using q.1)⟩,λz=>absurd z hlt⟩
   rw [h2,zgz];refine ⟨λ_=>⟨⟨hi,h1⟩,hin,by simp;omega,by unfold I64;omega,hm⟩,λz=>?_⟩
   rw [q.2] at z;cases z
  ·rw [ga q] at h;obtain ⟨m,hm⟩:=JfT uA b2 uG uH uI uJ uK uL uM uN uO uP uQ uR s hs e Ke w (i+1) (b++jbh c) h3 (by omega) (by omega) (by rw [Rb];omega) (by rw [Qb];exact h)
   refine ⟨m+1,?_⟩;simp only [jaO];have esc:∀k:(List Tok->List UInt8->List (Int×Int)->Int->Int->Int->List UInt8->Int->List UInt8->Bool->Int->List UInt8->Int->List UInt8->Bool->Prop),k uA (b++jbh c) b2 uG uH uI uJ uK uL uM uN uO uP uQ uR->zaW (c.toNat:Int) uA b b2 uG uH uI uJ uK uL uM uN uO uP uQ uR k:=by
    intro k hk;refine ⟨⟨hin,by omega⟩,?_⟩
    rw [zgz];exact hk
   refine ⟨λ_=>⟨λz=>⟨⟨hi,h1⟩,?_⟩,λz=>⟨⟨hi,h1⟩,?_⟩⟩,λz=>absurd z hlt⟩
   ·rw [h2];refine ⟨λz2=>absurd ⟨Ha z,z2⟩ q,λ_=>⟨⟨hi,h1⟩,esc _ ⟨by unfold I64;omega,hm⟩⟩⟩
   ·rw [h2];exact esc _ ⟨by unfold I64;omega,hm⟩
def Jdd:jbU:=λs e uA b b2 uG uH uI uJ uK uL uM uN uO uP uQ uR K=>(s.length<=1000000/\b.length<=40000000)/\K uA (b++JaB e 0 s) b2 uG uH uI uJ uK uL uM uN uO uP uQ uR
theorem Zit (s e uA b b2 uG uH uI uJ uK uL uM uN uO uP uQ uR K) (h:Jdd s e uA b b2 uG uH uI uJ uK uL uM uN uO uP uQ uR K):jg4 Zdu zaW s e uA b b2 uG uH uI uJ uK uL uM uN uO uP uQ uR K:=
 JfT uA b2 uG uH uI uJ uK uL uM uN uO uP uQ uR s h.1.1 e K s 0 b rfl (by omega) (by omega) (by have:=h.1;omega) h.2
def zde:ZbU:=λs uA b b2 uG uH uI uJ uK uL uM uN uO uP uQ uR K=>(s.length<=1000000/\b.length<=40000000)/\K uA (b++zX s) b2 uG uH uI uJ uK uL uM uN uO uP uQ uR
theorem Jit (s uA b b2 uG uH uI uJ uK uL uM uN uO uP uQ uR K) (h:zde s uA b b2 uG uH uI uJ uK uL uM uN uO uP uQ uR K):Zg4 Zel Jdd s uA b b2 uG uH uI uJ uK uL uM uN uO uP uQ uR K:=h
def jde:Jbe:=λc uA b b2 uG uH uI uJ uK uL uM uN uO uP uQ uR uS uT uU uV uW K=>((0<=c/\c<=255)/\b.length<=50000000)/\K uA (b++jbh (UInt8.ofNat c.toNat)) b2 uG uH uI uJ uK uL uM uN uO uP uQ uR uS uT uU uV uW
theorem ziu (c uA b b2 uG uH uI uJ uK uL uM uN uO uP uQ uR uS uT uU uV uW K) (h:jde c uA b b2 uG uH uI uJ uK uL uM uN uO uP uQ uR uS uT uU uV uW K):Jg4 JaE zel c uA b b2 uG uH uI uJ uK uL uM uN uO uP uQ uR uS uT uU uV uW K:=by
 obtain ⟨⟨hc,hb⟩,hk⟩:=h;have hl:=jeS c.toNat;have ec:(((UInt8.ofNat c.toNat).toNat:Nat):Int)=c:=by rw [Qo];omega
 have en:(UInt8.ofNat c.toNat).toNat=c.toNat:=by omega
 unfold jbh at hk;rw [ec,en] at hk;have fin:¬((33<=c/\c<=126)/\mD c=false/\mL c=false)->(I64 c/\(Jec c (16:Int)=true/\(((b++[UInt8.ofNat 92]).length+(zaX c (16:Int)).length)*1<=1099511627776/\((0<=(32:Int)/\(32:Int)<=255)/\((((b++[UInt8.ofNat 92])++(zaX c (16:Int))).length+[UInt8.ofNat 32].length)*1<=1099511627776/\K uA (((b++[UInt8.ofNat 92])++(zaX c (16:Int)))++[UInt8.ofNat 32]) b2 uG uH uI uJ uK uL uM uN uO uP uQ uR uS uT uU uV uW))))):=by
  intro q;rw [ga q] at hk;rw [Zh4];refine ⟨by unfold I64;omega,jh4 hc,by simp;omega,by omega,by simp;omega,?_⟩
  simpa using hk
 refine ⟨by omega,by simp;omega,λq1=>⟨λq2=>⟨λq3=>⟨λq4=>⟨hc,by simp;omega,?_⟩,λq4=>?_⟩,λq3=>?_⟩,λq2=>?_⟩,λq1=>?_⟩
 ·have q1:=Ha q1;have q2:=Ha q2;have q3:mD c=false:=by simpa using q3
  have q4:mL c=false:=by simpa using q4
  rw [ya ⟨⟨q1,q2⟩,q3,q4⟩] at hk;simpa using hk
 ·exact fin λz=>by rw [z.2.2] at q4;cases q4
 ·exact fin λz=>by rw [z.2.1] at q3;cases q3
 ·exact fin λz=>by have:=gb q2;omega
 ·exact fin λz=>by have:=gb q1;omega
abbrev Zjo:=ZaO Zdu jde
theorem zfU (uA:List Tok) (b2:List (Int×Int)) (uG:Int) (uH:Int) (uI:Int) (uJ:List UInt8) (uK:Int) (uL:List UInt8) (uM:Bool) (uN:Int) (uO:List UInt8) (uP:Int) (uQ:List UInt8) (uR:Bool) (uS:Int) (uT:List UInt8) (uU:Int) (uV:List UInt8) (uW:Bool) (s:List UInt8) (hs:s.length<=1000000) (e:Int) (Ke:(List Tok->List UInt8->List (Int×Int)->Int->Int->Int->List UInt8->Int->List UInt8->Bool->Int->List UInt8->Int->List UInt8->Bool->Int->List UInt8->Int->List UInt8->Bool->Prop)):∀(w:List UInt8) (i:Int) (b:List UInt8),s.drop i.toNat=w->0<=i->i<=s.length->b.length+4*w.length<=48000000->
  Ke uA (b++JaB e i w) b2 uG uH uI uJ uK uL uM uN uO uP uQ uR uS uT uU uV uW->∃m,Zjo m s e (s.length:Int) i uA b b2 uG uH uI uJ uK uL uM uN uO uP uQ uR uS uT uU uV uW Ke
 | [],i,b,hw,hi,hil,hb,h=>by
  have:=JR hw;refine ⟨1,?_⟩;simp only [ZaO];refine ⟨λq=>?_,λ_=>?_⟩
  ·have:=Ha q;omega
  ·simpa [JaB] using h
 | c::w,i,b,hw,hi,hil,hb,h=>by
  obtain ⟨h1,h2,h3,_⟩:=jx hi hw;rw [da] at hb;have hin:=Zfn c;have hel:=jbR c;have hlt:¬decide (i<(s.length:Int))=false:=by simp;omega
  simp only [JaB] at h;by_cases q:i≠e/\mN (c.toNat:Int)=true
  ·rw [ya q] at h;obtain ⟨m,hm⟩:=zfU uA b2 uG uH uI uJ uK uL uM uN uO uP uQ uR uS uT uU uV uW s hs e Ke w (i+1) (b++[c]) h3 (by omega) (by omega) (by simp;omega) (by simpa using h)
   refine ⟨m+1,?_⟩;simp only [ZaO];refine ⟨λ_=>⟨λ_=>⟨⟨hi,h1⟩,?_⟩,λz=>absurd (gb z) (by simpa using q.1)⟩,λz=>absurd z hlt⟩
   rw [h2,zgz];refine ⟨λ_=>⟨⟨hi,h1⟩,hin,by simp;omega,by unfold I64;omega,hm⟩,λz=>?_⟩
   rw [q.2] at z;cases z
  ·rw [ga q] at h;obtain ⟨m,hm⟩:=zfU uA b2 uG uH uI uJ uK uL uM uN uO uP uQ uR uS uT uU uV uW s hs e Ke w (i+1) (b++jbh c) h3 (by omega) (by omega) (by rw [Rb];omega) (by rw [Qb];exact h)
   refine ⟨m+1,?_⟩;simp only [ZaO];have esc:∀k:(List Tok->List UInt8->List (Int×Int)->Int->Int->Int->List UInt8->Int->List UInt8->Bool->Int->List UInt8->Int->List UInt8->Bool->Int->List UInt8->Int->List UInt8->Bool->Prop),k uA (b++jbh c) b2 uG uH uI uJ uK uL uM uN uO uP uQ uR uS uT uU uV uW->jde (c.toNat:Int) uA b b2 uG uH uI uJ uK uL uM uN uO uP uQ uR uS uT uU uV uW k:=by
    intro k hk;refine ⟨⟨hin,by omega⟩,?_⟩
    rw [zgz];exact hk
   refine ⟨λ_=>⟨λz=>⟨⟨hi,h1⟩,?_⟩,λz=>⟨⟨hi,h1⟩,?_⟩⟩,λz=>absurd z hlt⟩
   ·rw [h2];refine ⟨λz2=>absurd ⟨Ha z,z2⟩ q,λ_=>⟨⟨hi,h1⟩,esc _ ⟨by unfold I64;omega,hm⟩⟩⟩
   ·rw [h2];exact esc _ ⟨by unfold I64;omega,hm⟩
def Zde:JbU:=λs e uA b b2 uG uH uI uJ uK uL uM uN uO uP uQ uR uS uT uU uV uW K=>(s.length<=1000000/\b.length<=40000000)/\K uA (b++JaB e 0 s) b2 uG uH uI uJ uK uL uM uN uO uP uQ uR uS uT uU uV uW
theorem jiu (s e uA b b2 uG uH uI uJ uK uL uM uN uO uP uQ uR uS uT uU uV uW K) (h:Zde s e uA b b2 uG uH uI uJ uK uL uM uN uO uP uQ uR uS uT uU uV uW K):zg6 Zdu jde s e uA b b2 uG uH uI uJ uK uL uM uN uO uP uQ uR uS uT uU uV uW K:=
 zfU uA b2 uG uH uI uJ uK uL uM uN uO uP uQ uR uS uT uU uV uW s h.1.1 e K s 0 b rfl (by omega) (by omega) (by have:=h.1;omega) h.2
def ZeT:JdX:=λs uA b b2 uG uH uI uJ uK uL uM uN uO uP uQ uR uS uT uU uV uW K=>(s.length<=1000000/\b.length<=40000000)/\K uA (b++zX s) b2 uG uH uI uJ uK uL uM uN uO uP uQ uR uS uT uU uV uW
theorem Ziu (s uA b b2 uG uH uI uJ uK uL uM uN uO uP uQ uR uS uT uU uV uW K) (h:ZeT s uA b b2 uG uH uI uJ uK uL uM uN uO uP uQ uR uS uT uU uV uW K):jg6 Zel Zde s uA b b2 uG uH uI uJ uK uL uM uN uO uP uQ uR uS uT uU uV uW K:=h
abbrev Jjo:=Jo jcR zaW
theorem jfU (uA:List Tok) (b2:List (Int×Int)) (uG:Int) (uH:Int) (uI:Int) (uJ:List UInt8) (uK:Int) (uL:List UInt8) (uM:Bool) (uN:Int) (uO:List UInt8) (uP:Int) (uQ:List UInt8) (uR:Bool) (s:List UInt8) (hs:s.length<=1000000) (Ke:(List Tok->List UInt8->List (Int×Int)->Int->Int->Int->List UInt8->Int->List UInt8->Bool->Int->List UInt8->Int->List UInt8->Bool->Prop)):∀(w:List UInt8) (i:Int) (b:List UInt8),s.drop i.toNat=w->0<=i->i<=s.length->b.length+4*w.length<=48000000->
  Ke uA (b++jaJ w) b2 uG uH uI uJ uK uL uM uN uO uP uQ uR->∃m,Jjo m s (s.length:Int) i uA b b2 uG uH uI uJ uK uL uM uN uO uP uQ uR Ke
 | [],i,b,hw,hi,hil,hb,h=>by
  have:=JR hw;refine ⟨1,?_⟩;simp only [Jo];refine ⟨λq=>?_,λ_=>?_⟩
  ·have:=Ha q;omega
  ·simpa [jaJ] using h
 | c::w,i,b,hw,hi,hil,hb,h=>by
  obtain ⟨h1,h2,h3,_⟩:=jx hi hw;rw [da] at hb;have hin:=Zfn c;have hel:=jbR c;have hlt:¬decide (i<(s.length:Int))=false:=by simp;omega
  simp only [jaJ] at h;by_cases q:c∈([10,12,13,34,92]:List UInt8)
  ·rw [ya q] at h;obtain ⟨m,hm⟩:=jfU uA b2 uG uH uI uJ uK uL uM uN uO uP uQ uR s hs Ke w (i+1) (b++jbh c) h3 (by omega) (by omega) (by rw [Rb];omega) (by rw [Qb];exact h)
   refine ⟨m+1,?_⟩;simp only [Jo];rw [h2];refine ⟨λ_=>⟨⟨hi,h1⟩,⟨hin.1,by omega⟩,λ_=>⟨⟨hi,h1⟩,⟨hin,by omega⟩,?_⟩,λz=>?_⟩,λz=>absurd z hlt⟩
   ·rw [zgz];exact ⟨by unfold I64;omega,hm⟩
   ·rw [zgz,JeQ] at z;rw [Rp.2 q] at z;cases z
  ·rw [ga q] at h;obtain ⟨m,hm⟩:=jfU uA b2 uG uH uI uJ uK uL uM uN uO uP uQ uR s hs Ke w (i+1) (b++[c]) h3 (by omega) (by omega) (by simp;omega) (by simpa using h)
   refine ⟨m+1,?_⟩;simp only [Jo];rw [h2];refine ⟨λ_=>⟨⟨hi,h1⟩,⟨hin.1,by omega⟩,λz=>?_,λ_=>⟨⟨hi,h1⟩,hin,by simp;omega,by unfold I64;omega,?_⟩⟩,λz=>absurd z hlt⟩
   ·rw [zgz,JeQ] at z;exact absurd (Rp.1 z) q
   ·rw [zgz];exact hm
def JeT:Zz:=λs uA b b2 uG uH uI uJ uK uL uM uN uO uP uQ uR K=>(s.length<=1000000/\b.length<=40000000)/\K uA (b++34::(jaJ s++[34])) b2 uG uH uI uJ uK uL uM uN uO uP uQ uR
theorem Jiu (s uA b b2 uG uH uI uJ uK uL uM uN uO uP uQ uR K) (h:JeT s uA b b2 uG uH uI uJ uK uL uM uN uO uP uQ uR K):jar jcR zaW s uA b b2 uG uH uI uJ uK uL uM uN uO uP uQ uR K:=by
 obtain ⟨⟨h1,h2⟩,h⟩:=h;have hl:=ZeS s;refine ⟨by omega,by simp;omega,jfU uA b2 uG uH uI uJ uK uL uM uN uO uP uQ uR s h1 _ s 0 (b++[34]) rfl (by omega) (by omega) (by simp;omega) ⟨by omega,by simp;omega,?_⟩⟩
 rw [Qb,Qb];exact h
abbrev zjp:=zq jcR zaW
theorem ZfU (uA:List Tok) (b2:List (Int×Int)) (uG:Int) (uH:Int) (uI:Int) (uJ:List UInt8) (uK:Int) (uL:List UInt8) (uM:Bool) (uN:Int) (uO:List UInt8) (uP:Int) (uQ:List UInt8) (uR:Bool) (s:List UInt8) (hs:s.length<=1000000) (Ke:(List Tok->List UInt8->List (Int×Int)->Int->Int->Int->List UInt8->Int->List UInt8->Bool->Int->List UInt8->Int->List UInt8->Bool->Prop)):∀(w:List UInt8) (i:Int) (b:List UInt8),s.drop i.toNat=w->0<=i->i<=s.length->b.length+4*w.length<=48000000->
  Ke uA (b++Zbi w) b2 uG uH uI uJ uK uL uM uN uO uP uQ uR->∃m,zjp m s (s.length:Int) i uA b b2 uG uH uI uJ uK uL uM uN uO uP uQ uR Ke
 | [],i,b,hw,hi,hil,hb,h=>by
  have:=JR hw;refine ⟨1,?_⟩;simp only [zq];refine ⟨λq=>?_,λ_=>?_⟩
  ·have:=Ha q;omega
  ·simpa [Zbi] using h
 | c::w,i,b,hw,hi,hil,hb,h=>by
  obtain ⟨h1,h2,h3,_⟩:=jx hi hw;rw [da] at hb;have hin:=Zfn c;have hel:=jbR c;have hlt:¬decide (i<(s.length:Int))=false:=by simp;omega
  simp only [Zbi] at h;by_cases q:c.toNat<=32\/c∈([34,39,40,41,92,127]:List UInt8)
  ·rw [ya q] at h;obtain ⟨m,hm⟩:=ZfU uA b2 uG uH uI uJ uK uL uM uN uO uP uQ uR s hs Ke w (i+1) (b++jbh c) h3 (by omega) (by omega) (by rw [Rb];omega) (by rw [Qb];exact h)
   refine ⟨m+1,?_⟩;simp only [zq];rw [h2];have esc:∀k:(List Tok->List UInt8->List (Int×Int)->Int->Int->Int->List UInt8->Int->List UInt8->Bool->Int->List UInt8->Int->List UInt8->Bool->Prop),k uA (b++jbh c) b2 uG uH uI uJ uK uL uM uN uO uP uQ uR->zaW (c.toNat:Int) uA b b2 uG uH uI uJ uK uL uM uN uO uP uQ uR k:=by
    intro k hk;refine ⟨⟨hin,by omega⟩,?_⟩
    rw [zgz];exact hk
   refine ⟨λ_=>⟨⟨hi,h1⟩,λz1=>⟨⟨hi,h1⟩,⟨hin.1,by omega⟩,λ_=>⟨⟨hi,h1⟩,esc _ ⟨by unfold I64;omega,hm⟩⟩,λz=>?_⟩,λ_=>⟨⟨hi,h1⟩,esc _ ⟨by unfold I64;omega,hm⟩⟩⟩,λz=>absurd z hlt⟩
   rw [zgz,JeQ] at z;have z1:=gb z1;rw [Rp.2 (q.resolve_left (by omega))] at z
   cases z
  ·rw [ga q] at h;obtain ⟨m,hm⟩:=ZfU uA b2 uG uH uI uJ uK uL uM uN uO uP uQ uR s hs Ke w (i+1) (b++[c]) h3 (by omega) (by omega) (by simp;omega) (by simpa using h)
   refine ⟨m+1,?_⟩;simp only [zq];rw [h2];refine ⟨λ_=>⟨⟨hi,h1⟩,λz1=>⟨⟨hi,h1⟩,⟨hin.1,by omega⟩,λz=>?_,λ_=>⟨⟨hi,h1⟩,hin,by simp;omega,by unfold I64;omega,?_⟩⟩,λz1=>?_⟩,λz=>absurd z hlt⟩
   ·rw [zgz,JeQ] at z;exact absurd (Or.inr (Rp.1 z)) q
   ·rw [zgz];exact hm
   ·have:=Ha z1;exact absurd (Or.inl (by omega)) q
def zeU:jI:=λs uA b b2 uG uH uI uJ uK uL uM uN uO uP uQ uR K=>(s.length<=1000000/\b.length<=40000000)/\K uA (b++([117,114,108,40]++(Zbi s++[41]))) b2 uG uH uI uJ uK uL uM uN uO uP uQ uR
theorem ziv (s uA b b2 uG uH uI uJ uK uL uM uN uO uP uQ uR K) (h:zeU s uA b b2 uG uH uI uJ uK uL uM uN uO uP uQ uR K):jaP jcR zaW s uA b b2 uG uH uI uJ uK uL uM uN uO uP uQ uR K:=by
 obtain ⟨⟨h1,h2⟩,h⟩:=h;have hl:=JeS s;refine ⟨by simp;omega,ZfU uA b2 uG uH uI uJ uK uL uM uN uO uP uQ uR s h1 _ s 0 (b++[117,114,108,40]) rfl (by omega) (by omega) (by simp;omega) ⟨by omega,by simp;omega,?_⟩⟩
 rw [Qb,Qb];exact h
theorem jiv (uA:List Tok) (b2:List (Int×Int)) (uG:Int) (uH:Int) (uI:Int) (uJ:List UInt8) (uK:Int) (uL:List UInt8) (uM:Bool) (uN:Int) (uO:List UInt8) (uP:Int) (uQ:List UInt8) (uR:Bool) (Kr:(List Tok->List UInt8->List (Int×Int)->Int->Int->Int->List UInt8->Int->List UInt8->Bool->Int->List UInt8->Int->List UInt8->Bool->Prop)) :
  ∀(k r:Nat) (b:List UInt8),r<1000->r*10^(k+1)%1000=0->b.length+k<=48000000->Kr uA (b++fr3 (k+1) r) b2 uG uH uI uJ uK uL uM uN uO uP uQ uR->∃m,Jj m (r:Int) uA b b2 uG uH uI uJ uK uL uM uN uO uP uQ uR Kr:=by
 intro k
 induction k with
 | zero=>
  intro r b hr hz hb hk;have e1:=td (x:=(r:Int)*10) (y:=r*10) (by omega) 1000
  have e2:=tm (x:=(r:Int)*10) (y:=r*10) (by omega) 1000
  rw [dd,Nat.pow_one] at hz;refine ⟨1,?_⟩;simp only [Jj];rw [show ((1000:Nat):Int)=1000 from rfl] at e1 e2
  rw [e1,e2];have q1:IntKind.u8.wrap ((r*10 / 1000:Nat):Int)=((r*10 / 1000:Nat):Int):=w8' (by omega) (by omega)
  have q2:IntKind.u8.wrap ((48:Int)+((r*10 / 1000:Nat):Int))=((48+r*10 / 1000:Nat):Int):=by rw [w8' (by omega) (by omega)];omega
  rw [q1,q2];have q3:(((48+r*10 / 1000:Nat):Int)).toNat=48+r*10 / 1000:=by omega
  rw [q3];simp only [fr3,hz,if_true] at hk;refine ⟨by unfold I64;omega,by decide,by unfold I64;omega,by omega,by simp;omega,by decide,λ_=>hk,λq=>?_⟩
  exfalso;have:=gb q;omega
 | succ k ih=>
  intro r b hr hz hb hk;have e1:=td (x:=(r:Int)*10) (y:=r*10) (by omega) 1000
  have e2:=tm (x:=(r:Int)*10) (y:=r*10) (by omega) 1000
  rw [show ((1000:Nat):Int)=1000 from rfl] at e1 e2
  have q1:IntKind.u8.wrap ((r*10 / 1000:Nat):Int)=((r*10 / 1000:Nat):Int):=w8' (by omega) (by omega)
  have q2:IntKind.u8.wrap ((48:Int)+((r*10 / 1000:Nat):Int))=((48+r*10 / 1000:Nat):Int):=by rw [w8' (by omega) (by omega)];omega
  have q3:(((48+r*10 / 1000:Nat):Int)).toNat=48+r*10 / 1000:=by omega
  have fin:∀m,(r*10%1000≠0->Jj m ((r*10%1000:Nat):Int) uA (b++[UInt8.ofNat (48+r*10 / 1000)]) b2 uG uH uI uJ uK uL uM uN uO uP uQ uR Kr)->(r*10%1000=0->Kr uA (b++[UInt8.ofNat (48+r*10 / 1000)]) b2 uG uH uI uJ uK uL uM uN uO uP uQ uR)->Jj (m+1) (r:Int) uA b b2 uG uH uI uJ uK uL uM uN uO uP uQ uR Kr:=by
   intro m h1 h2;simp only [Jj];rw [e1,e2,q1,q2,q3];refine ⟨by unfold I64;omega,by decide,by unfold I64;omega,by omega,by simp;omega,by decide,λq=>h2 (by have:=Ha q;omega),λq=>h1 (by have:=gb q;omega)⟩
  simp only [fr3] at hk;by_cases q:r*10%1000=0
  ·rw [ya q] at hk;exact ⟨1,fin 0 (λz=>absurd q z) (λ_=>hk)⟩
  ·rw [ga q] at hk;have hz2:(r*10%1000)*10^(k+1)%1000=0:=by
    rw [Nat.mod_mul_mod];rw [gl] at hz;rw [show r*10*10^(k+1)=r*(10^(k+1)*10) from by rw [Nat.mul_assoc,yl 10]]
    exact hz
   obtain ⟨m,hm⟩:=ih (r*10%1000) (b++[UInt8.ofNat (48+r*10 / 1000)]) (gh _ (by decide)) hz2 (by simp;omega) (by rw [Qb];exact hk)
   exact ⟨m+1,fin m (λ_=>hm) (λz=>absurd z q)⟩
def jeU:Jz:=λx w uA b b2 uG uH uI uJ uK uL uM uN uO uP uQ uR K=>((-1000000000000<=x/\x<=1000000000000)/\b.length<=40000000)/\K uA (b++jD x w) b2 uG uH uI uJ uK uL uM uN uO uP uQ uR
theorem Ziv (x w uA b b2 uG uH uI uJ uK uL uM uN uO uP uQ uR K) (h:jeU x w uA b b2 uG uH uI uJ uK uL uM uN uO uP uQ uR K):jas x w uA b b2 uG uH uI uJ uK uL uM uN uO uP uQ uR K:=by
 obtain ⟨⟨hx,hb⟩,hk⟩:=h;have hl:=zeT (a:=x.natAbs / 1000) (by omega)
 have body:∀(bb:List UInt8) (y:Int),y=(x.natAbs:Int)->bb.length<=40000001->K uA (bb++(Lib.decDigits (x.natAbs / 1000)++(if w then [] else 46::fr3 3 (x.natAbs%1000)))) b2 uG uH uI uJ uK uL uM uN uO uP uQ uR->
   I64 (y.tdiv (1000:Int))/\Jec (y.tdiv (1000:Int)) (10:Int)=true/\(bb.length+(zaX (y.tdiv (1000:Int)) (10:Int)).length)*1<=1099511627776/\(w=true->K uA (bb++(zaX (y.tdiv (1000:Int)) (10:Int))) b2 uG uH uI uJ uK uL uM uN uO uP uQ uR)/\(w=false->(0<=(46:Int)/\(46:Int)<=255)/\((bb++(zaX (y.tdiv (1000:Int)) (10:Int))).length+[UInt8.ofNat 46].length)*1<=1099511627776/\(1000:Int)≠0/\∃m,Jj m (y.tmod (1000:Int)) uA ((bb++(zaX (y.tdiv (1000:Int)) (10:Int)))++[UInt8.ofNat 46]) b2 uG uH uI uJ uK uL uM uN uO uP uQ uR K):=by
  intro bb y hy hbb hk2;have e1:=td hy 1000;have e2:=tm hy 1000;rw [show ((1000:Nat):Int)=1000 from rfl] at e1 e2
  rw [e1,e2,Zi0];refine ⟨by unfold I64;omega,ji0 (by omega),by omega,λq=>?_,λq=>⟨by omega,by simp;omega,by decide,?_⟩⟩
  ·rw [q] at hk2;simpa using hk2
  ·rw [q] at hk2;refine jiv uA b2 uG uH uI uJ uK uL uM uN uO uP uQ uR K 2 (x.natAbs%1000) _ (gh _ (by decide)) (by omega) (by simp;omega) ?_
   simpa using hk2
 unfold jD at hk;refine ⟨λq=>?_,λq=>?_⟩
 ·have q:=Ha q;rw [ya q] at hk;exact ⟨by omega,by simp;omega,by unfold I64;omega,by decide,body (b++[UInt8.ofNat 45]) (0-x) (by omega) (by simp;omega) (by simpa using hk)⟩
 ·have q:=gb q;rw [ga q] at hk;exact ⟨by decide,body b x (by omega) (by omega) (by simpa using hk)⟩
def ZeU:zE:=λu uA b b2 uG uH uI uJ uK uL uM uN uO uP uQ uR K=>(u≠[]/\u.length<=1000000/\b.length<=40000000)/\K uA (b++zQ u) b2 uG uH uI uJ uK uL uM uN uO uP uQ uR
theorem Jiv (u uA b b2 uG uH uI uJ uK uL uM uN uO uP uQ uR K) (h:ZeU u uA b b2 uG uH uI uJ uK uL uM uN uO uP uQ uR K):ZaE ZhM Jdd zde u uA b b2 uG uH uI uJ uK uL uM uN uO uP uQ uR K:=by
 obtain ⟨⟨h1,h2,h3⟩,h⟩:=h;unfold zQ at h;refine ⟨h1,λq=>⟨⟨h2,h3⟩,?_⟩,λq=>⟨⟨h2,h3⟩,?_⟩⟩
 ·rw [ya q] at h;exact h
 ·rw [ga (by rw [q];decide)] at h;exact h
def JeU:JD:=λx0 x1 x2 x3 x4 uA b b2 uG uH uI uJ uK uL uM uN uO uP uQ uR K=>(x1.length<=1000000/\b.length<=30000000)/\K uA (b++jcc x1 x4) b2 uG uH uI uJ uK uL uM uN uO uP uQ uR x0 x1 x2 x3 x4
theorem ziw (x0 x1 x2 x3 x4 uA b b2 uG uH uI uJ uK uL uM uN uO uP uQ uR K) (h:JeU x0 x1 x2 x3 x4 uA b b2 uG uH uI uJ uK uL uM uN uO uP uQ uR K):JaD Zde ZeT x0 x1 x2 x3 x4 uA b b2 uG uH uI uJ uK uL uM uN uO uP uQ uR K:=by
 obtain ⟨⟨h1,h2⟩,h⟩:=h;unfold jcc at h;refine ⟨by omega,by simp;omega,λq=>⟨⟨h1,by simp;omega⟩,?_⟩,λq=>⟨⟨h1,by simp;omega⟩,?_⟩⟩
 ·have q:x4=false:=by simpa using q
  rw [q] at h |-;rw [Qb];exact h
 ·have q:x4=true:=by simpa using q
  rw [q] at h |-;rw [Qb];exact h
def jd4:jh:=λk tx n u f uA b b2 uG uH uI uJ uK uL uM K=>(zcu ⟨k,tx,n,u,f⟩=true/\(tx.length<=1000000/\u.length<=1000000)/\b.length<=30000000)/\K uA (b++tokT ⟨k,tx,n,u,f⟩) b2 uG uH uI uJ uK uL uM k tx n u f
theorem jiw (k tx n u f uA b b2 uG uH uI uJ uK uL uM K) (h:jd4 k tx n u f uA b b2 uG uH uI uJ uK uL uM K):J9 zde JeU JeT zeU jeU zfS ZeU k tx n u f uA b b2 uG uH uI uJ uK uL uM K:=by
 obtain ⟨⟨hc,⟨ht,hu⟩,hb⟩,h⟩:=h;obtain ⟨c1,c2,c3,c4⟩:=Jfp hc;unfold tokT at h;dsimp only at c1 c2 c3 c4 h;unfold J9;refine ⟨λq=>?_,λq=>?_⟩
 ·have q:=Ha q;rw [ya q] at h;exact ⟨by omega,by simp;omega,h⟩
 have q13:=gb q;rw [ga q13] at h;refine ⟨λq=>?_,λq=>?_⟩
 ·have q:=Ha q;rw [ya q] at h;exact ⟨⟨ht,by omega⟩,h⟩
 have q1:=gb q;rw [ga q1] at h;refine ⟨λq=>?_,λq=>?_⟩
 ·have q:=Ha q;rw [ya q] at h;refine ⟨⟨ht,by omega⟩,by omega,?_,?_⟩
  ·have:=JcR (zcW tx) tx 0;unfold zX;simp only [Rb,da,Hd];omega
  ·rw [Qb];exact h
 have q2:=gb q;rw [ga q2] at h;refine ⟨λq=>?_,λq=>?_⟩
 ·have q:=Ha q;rw [ya q] at h;refine ⟨by omega,by simp;omega,rfl,⟨ht,by simp;omega⟩,?_⟩
  rw [Qb];exact h
 have q3:=gb q;rw [ga q3] at h;refine ⟨λq=>?_,λq=>?_⟩
 ·have q:=Ha q;rw [ya q] at h;exact ⟨⟨ht,by omega⟩,h⟩
 have q4:=gb q;rw [ga q4] at h;refine ⟨λq=>?_,λq=>?_⟩
 ·have q:=Ha q;rw [ya q] at h;exact ⟨⟨ht,by omega⟩,h⟩
 have q5:=gb q;rw [ga q5] at h;refine ⟨λq=>?_,λq=>?_⟩
 ·have q:=Ha q;rw [ya q] at h;exact ⟨⟨ht,by omega⟩,h⟩
 have q7:=gb q;rw [ga q7] at h;refine ⟨λq=>?_,λq=>?_⟩
 ·have q:=Ha q;rw [ya q] at h;exact ⟨⟨c3 (by omega),by omega⟩,h⟩
 have q10:=gb q;rw [ga q10] at h;refine ⟨λq=>?_,λq=>?_⟩
 ·have q:=Ha q;rw [ya q] at h;refine ⟨⟨c3 (by omega),by omega⟩,by omega,?_,?_⟩
  ·have:=zcS (c3 (by omega)) (jau n)
   simp only [Rb,da,Hd];omega
  ·rw [Qb];exact h
 have q11:=gb q;rw [ga q11] at h;refine ⟨λq=>?_,λq=>?_⟩
 ·have q:=Ha q;rw [ya q] at h;have:=zcS (c3 (by omega)) f
  refine ⟨⟨c3 (by omega),by omega⟩,rfl,⟨c4 q,hu,?_⟩,?_⟩
  ·simp only [Rb];omega
  ·rw [Qb];exact h
 have q12:=gb q;rw [ga q12] at h;refine ⟨λq=>?_,λq=>?_⟩
 ·have q:=Ha q;rw [ya q] at h;exact ⟨by omega,h⟩
 have q9:=gb q;rw [ga q9] at h;refine ⟨λq=>?_,λq=>?_⟩
 ·have q:=Ha q;rw [ya q] at h;exact ⟨by simp;omega,h⟩
 have q14:=gb q;rw [ga q14] at h;refine ⟨λq=>?_,λq=>?_⟩
 ·have q:=Ha q;rw [ya q] at h;exact ⟨by simp;omega,h⟩
 have q15:=gb q;rw [ga q15] at h;have ew:IntKind.u8.wrap (k-16)=k-16:=w8' (by omega) (by omega)
 rw [ew];refine ⟨⟨by omega,by simp;omega⟩,⟨by omega,?_⟩,by simp;omega,?_⟩
 ·have:=Zfn (([58,59,44,91,93,40,41,123,125]:List UInt8).getD (k-16).toNat 0);exact this.2
 ·rw [zgz];exact h
def ok2 (t:Tok):Prop:=t.text.length<=1000000/\t.unit.length<=1000000
theorem Jh4 {t:Tok} (h:ok2 t):Zf9 t:=⟨by have:=h.1;omega,by have:=h.2;omega⟩
theorem zhd (c0:List Tok) (b2:List (Int×Int)) (c1 c2:Int) (l:List Tok) (hl:∀t∈l,zcu t=true/\ok2 t) (hs:l.length<=1500) (Ke:List Tok->List UInt8->List (Int×Int)->Int->Int->Prop) :
  ∀(n i:Nat) (b:List UInt8),i+n=l.length->b.length+4000020*n<=30000000->Ke c0 (b++(l.drop i).flatMap tokT) b2 c1 c2->JA Jg6 jd4 (n+1) l (l.length:Int) (i:Int) c0 b b2 c1 c2 Ke
 | 0,i,b,hi,hb,h=>by
  simp only [JA];rw [Hi (by omega),List.flatMap_nil,xf] at h
  exact ⟨λq=>absurd (Ha q) (by omega),λ_=>h⟩
 | n+1,i,b,hi,hb,h=>by
  have hlt:i<l.length:=by omega
  have hm:l.getD i (Ze Cd.tok)∈l:=by rw [jfS hlt];exact List.getElem_mem hlt
  obtain ⟨hc,ho⟩:=hl _ hm;rw [Ja0 hlt,yp,<-Qb] at h;have hlen:=jgd hc ho.1 ho.2;have ih:=zhd c0 b2 c1 c2 l hl hs Ke n (i+1) (b++tokT (l.getD i (Ze Cd.tok))) (by omega) (by rw [Rb];omega) h
  rw [JA];refine ⟨λ_=>⟨⟨by omega,by omega⟩,?_⟩,λq=>absurd (gb q) (by omega)⟩
  rw [xj];generalize l.getD i (Ze Cd.tok)=t at *;obtain ⟨k,tx,x,u,f⟩:=t;exact ⟨⟨hc,ho,by omega⟩,zhr (by omega),ih⟩
def Ji0:Zg:=λl c0 b b2 c1 c2 K=>((l≠[]/\l.length<=1500)/\(jbD (l.getD 0 (Ze Cd.tok))=false->∀t∈l,zcu t=true/\ok2 t)/\b.length+4000020*l.length<=30000000)/\K c0 (b++Zdk l) b2 c1 c2
theorem zjK (l c0 b b2 c1 c2 K) (h:Ji0 l c0 b b2 c1 c2 K):JaA Jg6 jd4 l c0 b b2 c1 c2 K:=by
 obtain ⟨⟨⟨h1,h1'⟩,h2,h3⟩,h⟩:=h;have hp:0<l.length:=by cases l with|nil=>exact absurd rfl h1|cons=>simp
 have e:Zdk l=if jbD (l.getD 0 (Ze Cd.tok)) then [92,10] else l.flatMap tokT:=by
  cases l with
  | nil=>exact absurd rfl h1
  | cons t w=>rfl
 rw [e] at h;refine ⟨⟨by omega,by omega⟩,λq=>⟨by omega,by omega,by simp;omega,?_⟩,λq=>⟨l.length+1,?_⟩⟩
 ·have q:jbD (l.getD 0 (Ze Cd.tok))=true:=q;rw [ya q] at h;exact h
 ·have q:jbD (l.getD 0 (Ze Cd.tok))=false:=q;rw [q] at h;exact zhd c0 b2 c1 c2 l (h2 q) h1' K l.length 0 b (by omega) h3 h
theorem zdy {t:Tok} {l:List Tok} (h:jbn (t::l)=true):zcu t=true/\Zep t l=true/\jbn l=true:=by
 rw [jbn,yb,yb] at h;exact h
theorem Zgd:∀(k:Nat) {l:List Tok},jbn l=true->jbn (l.drop k)=true
 | 0,l,h=>h
 | k+1,[],h=>h
 | k+1,t::l,h=>Zgd k (zdy h).2.2
theorem jhd:∀{l:List Tok},jbn l=true->∀t∈l,zcu t=true
 | [],_,_,m=>by cases m
 | a::l,h,t,m=>by
  rcases gc.1 m with rfl|m
  ·exact (zdy h).1
  ·exact jhd (zdy h).2.2 t m
theorem jdy {l:List Tok} {k:Int} (h:swK l k=true):∃t w,l=t::w/\t.kind=k:=by
 cases l with
 | nil=>cases h
 | cons t w=>exact ⟨t,w,rfl,Ha h⟩
theorem jgz {l:List Tok} (h:jbn l=true) (hn:l≠[]):1<=jcW l/\jcW l<=3/\jcW l<=l.length/\(zcE (l.getD 0 (Ze Cd.tok))=true->jbD (l.getD 0 (Ze Cd.tok))=false->(l.any λt=>decide (t.kind=5))=true):=by
 cases l with
 | nil=>exact absurd rfl hn
 | cons t l=>
  obtain ⟨-,hf,-⟩:=zdy h;unfold Zep at hf;show 1<=(if jbD t then 2 else if zcE t then 1+(l.takeWhile λt=>decide (t.kind≠5)).length+1 else 1)/\(if jbD t then 2 else if zcE t then 1+(l.takeWhile λt=>decide (t.kind≠5)).length+1 else 1)<=3/\(if jbD t then 2 else if zcE t then 1+(l.takeWhile λt=>decide (t.kind≠5)).length+1 else 1)<=(t::l).length/\(zcE t=true->jbD t=false->((t::l).any λt=>decide (t.kind=5))=true)
  by_cases q1:jbD t=true
  ·rw [ya q1] at hf;obtain ⟨a,w,rfl,-⟩:=jdy hf;rw [ya q1];exact ⟨by omega,by omega,by simp,λ_ q=>by rw [q1] at q;cases q⟩
  ·rw [ga q1] at hf |-;by_cases q2:zcE t=true
   ·rw [ya q2] at hf |-;by_cases q3:swK l 13=true
    ·rw [ya q3] at hf;obtain ⟨a,w,rfl,ha⟩:=jdy q3;obtain ⟨c,w,rfl,hc⟩:=jdy hf;have e:((a::c::w).takeWhile λt:Tok=>decide (t.kind≠5)).length=1:=by
      rw [gj,ya (by rw [ha];decide),gj,ga (by rw [hc];decide)]
      rfl
     rw [e];refine ⟨by omega,by omega,by simp,λ_ _=>?_⟩
     simp [hc]
    ·rw [ga q3] at hf;obtain ⟨c,w,rfl,hc⟩:=jdy hf;have e:((c::w).takeWhile λt:Tok=>decide (t.kind≠5)).length=0:=by
      rw [gj,ga (by rw [hc];decide)]
      rfl
     rw [e];refine ⟨by omega,by omega,by simp,λ_ _=>?_⟩
     simp [hc]
   ·rw [ga q2];exact ⟨by omega,by omega,by simp,λq=>absurd q q2⟩
theorem Ziw {t:Tok} (hc:zcu t=true):tokT t≠[]:=by
 have nam:∀s:List UInt8,s≠[]->zX s≠[]:=by
  intro s hs;cases s with
  | nil=>exact absurd rfl hs
  | cons c w=>
   unfold zX;generalize zcW (c::w)=e;simp only [JaB,jbh];split <;> simp
 have h:=hc;unfold zcu at h;simp only [yb] at h;obtain ⟨-,-,-,h⟩:=h;have num:∀n w,jD n w≠[]:=by
  intro n w hz;unfold jD at hz;have hz:=(dj.1 (dj.1 hz).2).1;have:=Ya List.length hz;rw [Lib.decDigits_length,Hd] at this;by_cases q:n.natAbs / 1000<10
  ·rw [Lib.nDigits_small q] at this;omega
  ·rw [Lib.nDigits_big q] at this;omega
 have key:∀(c:Prop) [Decidable c] (x y:List UInt8),(c->x≠[])->(¬c->y≠[])->(if c then x else y)≠[]:=by
  intro c _ x y h1 h2;by_cases q:c
  ·rw [ya q];exact h1 q
  ·rw [ga q];exact h2 q
 unfold tokT;have hn:t.kind=1->zX t.text≠[]:=by
  intro q;rw [ya (by rw [q];decide)] at h
  exact nam _ (by simpa using h)
 have hd:t.kind=9->t.text≠[]:=by
  intro q;rw [ga (by rw [q];decide),ga (by omega),ya q] at h
  intro z;rw [z] at h;cases h
 refine key _ _ _ (λ_=>by simp) λ_=>key _ _ _ (λq=>hn q) λ_=>key _ _ _ (λq=>by simp) λ_=>key _ _ _ (λq=>by simp) λ_=>key _ _ _ (λq=>by unfold jcc;simp) λ_=>key _ _ _ (λq=>by simp) λ_=>key _ _ _ (λq=>by simp) λ_=>key _ _ _ (λq=>num _ _) λ_=>key _ _ _ (λq=>by simp) λ_=>key _ _ _ (λq z=>num _ _ (dj.1 z).1) λ_=>key _ _ _ hd λ_=>key _ _ _ (λq=>by simp) λ_=>key _ _ _ (λq=>by simp) λ_=>by simp
theorem Jiw {l:List Tok} (hn:l≠[]) (hc:∀t∈l,zcu t=true):Zdk l≠[]:=by
 cases l with
 | nil=>exact absurd rfl hn
 | cons t w=>
  unfold Zdk;dsimp only;split
  ·simp
  ·rw [yp];intro z;exact Ziw (hc t yc) (dj.1 z).1
def stI (sts:List (Nat×Nat)):List (Int×Int):=(sts.map λs=>((s.2:Int),(s.1:Int))).reverse
theorem jcS (s:Nat×Nat) (sts:List (Nat×Nat)):stI (s::sts)=stI sts++[((s.2:Int),(s.1:Int))]:=by
 unfold stI;rw [Rl,Qn]
theorem zeV (sts:List (Nat×Nat)):(stI sts).length=sts.length:=by unfold stI;simp
abbrev ixI (n:Int):Int:=if (0:Int)<((n-(1:Int))-(3:Int)) then ((n-(1:Int))-(3:Int)) else (0:Int)
theorem zix (s:Nat×Nat) (sts:List (Nat×Nat)) (d:Int×Int):(stI (s::sts)).getD (ixI ((stI (s::sts)).length:Int)).toNat d=(((((s::sts).take 4).getLastD (0,0)).2:Int),((((s::sts).take 4).getLastD (0,0)).1:Int))/\((s::sts).take 4).getLastD (0,0)∈s::sts:=by
 match sts with
 | []=>exact ⟨rfl,by simp⟩
 | [a]=>exact ⟨rfl,by simp⟩
 | [a,b]=>exact ⟨rfl,by simp⟩
 | a::b::c::r=>
  refine ⟨?_,by simp⟩
  have e:(ixI ((stI (s::a::b::c::r)).length:Int)).toNat=(stI r).length:=by
   rw [zeV,zeV];unfold ixI;simp only [da];split <;> omega
  rw [e,jcS,jcS,jcS,jcS];rw [Qb,Qb,Qb,List.getD_eq_getElem?_getD,List.getElem?_append_right (Ra _),Nat.sub_self];rfl
def zjc:Jae:=λl K=>(∀t∈l,ok2 t)/\K (Jep l).1 (Jep l).2
theorem jix (l:List Tok) (hok:∀t∈l,ok2 t) (hs:l.length<=1500) (K:List UInt8->Int->Prop) :
  ∀(f i:Nat) (b:List UInt8) (sts:List (Nat×Nat)),l.length<=i+f->i<=l.length->jbn (l.drop i)=true->b.length<=4000->(∀s∈sts,s.1<=b.length/\s.2<=i)->sts.length<=i->
   K (wrM l (f+1) b sts i).1 (wrM l (f+1) b sts i).2->JP Zg7 Jg7 Ji0 Jeq (f+1) l (i:Int) l b (stI sts) (λ_ y _=>K y (0:Int)) (λy z=>K y z):=by
 intro f
 induction f with
 | zero=>
  intro i b sts hf hi hc hb hst hsl h;rw [wrM,ya (by omega)] at h
  rw [JP];exact ⟨λq=>absurd (Ha q) (by omega),λ_=>h⟩
 | succ f ih=>
  intro i b sts hf hi hc hb hst hsl h;by_cases hend:l.length<=i
  ·rw [wrM,ya hend] at h;rw [JP];exact ⟨λq=>absurd (Ha q) (by omega),λ_=>h⟩
  ·rw [wrM,ga hend] at h;have hlt:i<l.length:=by omega
   have hne:l.drop i≠[]:=by
    intro z;have:=Ya List.length z;rw [Hb,Hd] at this;omega
   obtain ⟨p1,p2,p3,p4⟩:=jgz hc hne;rw [Hb] at p3;have hd0:(l.drop i).getD 0 (Ze Cd.tok)=l.getD i (Ze Cd.tok):=by rw [Ja0 hlt];rfl
   rw [hd0] at p4;have hd:∀t∈l.drop i,zcu t=true/\ok2 t:=λt m=>⟨jhd hc t m,hok t (Rn m)⟩
   have htk:∀n,∀t∈(l.drop i).take n,zcu t=true/\ok2 t:=λn t m=>hd t (xp m)
   generalize hN:jcW (l.drop i)=N at *;dsimp only at h;have eN:i+N-i=N:=by omega
   rw [eN] at h;have hpl:((l.drop i).take N).length=N:=by rw [Qi,Hb];omega
   have hpn:(l.drop i).take N≠[]:=by
    intro z;rw [z] at hpl;simp at hpl;omega
   have hpt:=Jiw hpn λt m=>(htk N t m).1
   have hp0:((l.drop i).take N).getD 0 (Ze Cd.tok)=l.getD i (Ze Cd.tok):=by
    rw [Ja0 hlt];cases N with
    | zero=>omega
    | succ N=>rfl
   have hplen:(Zdk ((l.drop i).take N)).length<=12000060:=by
    unfold Zdk;split
    ·split
     ·simp
     ·rename_i t w ew _;have:∀(m:List Tok),(∀t∈m,zcu t=true/\ok2 t)->(m.flatMap tokT).length<=4000020*m.length:=by
       intro m
       induction m with
       | nil=>intro _;simp
       | cons a m im=>
        intro ha;have h1:=ha a yc;have h2:=jgd h1.1 h1.2.1 h1.2.2;have h3:=im λt mt=>ha t (gd _ mt)
        rw [yp,Rb,da];omega
      have:=this _ (htk N);rw [hpl] at this;omega
    ·simp
   generalize hP:Zdk ((l.drop i).take N)=P at *;have hPl:0<P.length:=by
    cases P with
    | nil=>exact absurd rfl hpt
    | cons=>simp
   obtain ⟨g1,g2⟩:=zix (b.length,i) sts (Ze Cd.span);generalize hfr:((((b.length,i)::sts).take 4).getLastD (0,0))=fr at *;have hfrb:fr.1<=b.length/\fr.2<=i:=by
    rcases gc.1 g2 with z|z
    ·rw [z];exact ⟨Ra _,Ra _⟩
    ·exact hst _ z
   have est:stI sts++[((i:Int),(b.length:Int))]=stI ((b.length,i)::sts):=(jcS (b.length,i) sts).symm;have hsl1:(stI ((b.length,i)::sts)).length=sts.length+1:=by rw [zeV,da]
   have hst1:∀b':List UInt8,b.length<=b'.length->∀s∈(b.length,i)::sts,s.1<=b'.length/\s.2<=i+N:=by
    intro b' hb' s m;rcases gc.1 m with z|z
    ·rw [z];exact ⟨hb',by show i<=i+N;omega⟩
    ·have:=hst _ z;omega
   have hcd:jbn (l.drop (i+N))=true:=by rw [<-xe];exact Zgd N hc
   rw [JP];refine ⟨λ_=>⟨⟨by omega,by omega,hs⟩,λt m=>Jh4 (hok t m),λq=>?_,?_⟩,λq=>absurd (gb q) (by omega)⟩
   ·rw [xj] at q |-;by_cases q0:jbD (l.getD i (Ze Cd.tok))=true
    ·exfalso;have a1:=zg8 q;unfold jbD at q0;rw [a1] at q0;simp at q0
    ·exact p4 q (by simpa using q0)
   ·rw [xj,hN];have ei:(i:Int)+(N:Int)=((i+N:Nat):Int):=by omega
    rw [ei];simp only [xj,eN];refine ⟨⟨by omega,by omega,by omega⟩,⟨⟨hpn,by omega⟩,λ_=>htk N,by rw [hpl];omega⟩,?_⟩
    dsimp only;rw [hP,est];refine ⟨by simp only [Rb,Yj,zeV];omega,by rw [hsl1];exact zhr (by omega),by rw [hsl1];exact zhr (by omega),?_⟩
    have eix:∀n:Int,(if (0:Int)<((n-(1:Int))-(3:Int)) then ((n-(1:Int))-(3:Int)) else (0:Int))=ixI n:=λn=>rfl
    simp only [eix];have hix:0<=ixI ((stI ((b.length,i)::sts)).length:Int)/\ixI ((stI ((b.length,i)::sts)).length:Int)<((stI ((b.length,i)::sts)).length:Int):=by
     rw [hsl1];unfold ixI;split <;> omega
    refine ⟨hix,by omega,?_⟩
    rw [g1];simp only [xj];refine ⟨⟨by omega,by rw [Rb];omega⟩,⟨by omega,by omega,by omega⟩,?_⟩
    refine ⟨λq=>?_,λq=>?_⟩
    ·rw [ya q] at h;refine ⟨λq2=>?_,λq2=>?_⟩
     ·rw [ya (by have:=Ha q2;omega)] at h
      exact h
     ·have q2:=gb q2;rw [ga (by omega)] at h
      exact ih (i+N) (b++P) ((b.length,i)::sts) (by omega) (by omega) hcd (by omega) (hst1 _ (by rw [Rb];omega)) (by rw [da];omega) h
    ·simp only [q,yd,if_false] at h;have et:(b++P).take b.length=b:=by rw [List.take_append_of_le_length (Ra _),List.take_length]
     have ed:(b++P).drop b.length=P:=by rw [List.drop_append_of_le_length (Ra _),List.drop_length,gf]
     simp only [et,ed];simp only [ed] at h;refine ⟨by omega,by omega,by omega,by omega,⟨by omega,by rw [Rb];omega,by simp,by simp;omega⟩,?_⟩
     refine ⟨λq2=>?_,λq2=>?_⟩
     ·have q2:=Ha q2;rw [ya (by show 4000<(b++([47,42,42,47]++P)).length;have:(b++([UInt8.ofNat 47,UInt8.ofNat 42,UInt8.ofNat 42,UInt8.ofNat 47]++P)).length=(b++([47,42,42,47]++P)).length:=rfl;omega)] at h
      exact h
     ·have q2:=gb q2;have e3:(b++([UInt8.ofNat 47,UInt8.ofNat 42,UInt8.ofNat 42,UInt8.ofNat 47]++P)).length=(b++([47,42,42,47]++P)).length:=rfl;rw [ga (by omega)] at h
      exact ih (i+N) (b++([47,42,42,47]++P)) ((b.length,i)::sts) (by omega) (by omega) hcd (by omega) (hst1 _ (by rw [Rb];omega)) (by rw [da];omega) h
theorem jjK (l K) (h:zjc l K):Zcb Zg7 Jg7 Ji0 Jeq l K:=by
 obtain ⟨hok,h⟩:=h;unfold Jep at h;refine ⟨λt m=>Jh4 (hok t m),λq=>?_,λq=>⟨l.length+1,?_⟩⟩
 ·have q:=Ha q;rw [ya q] at h;exact h
 ·have q:jeb l=0:=by simpa using q
  rw [ga (by simpa using q)] at h
  unfold jeb at q;split at q
  ·cases q
  rename_i hl;split at q
  ·rename_i hc;exact jix l hok (by omega) K l.length 0 [] [] (by omega) (by omega) hc (by simp) (λs m=>by cases m) (by simp) h
  ·cases q
set_option linter.unusedSimpArgs false
def ZcS:zK:=λc K=>(0<=c/\c<=255)/\K (low c)
theorem JhM (c K) (h:ZcS c K):jda c K:=by
 obtain ⟨⟨h0,h1⟩,h⟩:=h;unfold low at h;refine ⟨λq=>⟨λz=>?_,λz=>?_⟩,λq=>?_⟩
 ·have q:=Ha q;have z:=Ha z;rw [ya ⟨q,z⟩] at h;rw [IntKind.wrap_u8,IntKind.wrap_u8]
  rwa [show ((c-65)%256+97)%256=c+32 from by omega]
 ·have z:=gb z
  rwa [ga (by omega)] at h
 ·have q:=gb q
  rwa [ga (by omega)] at h
def Zgz (c:UInt8):UInt8:=UInt8.ofNat (low (c.toNat:Int)).toNat
theorem Zhd (c:UInt8):0<=low (c.toNat:Int)/\low (c.toNat:Int)<=255:=by
 have:=c.toNat_lt;unfold low;split <;> omega
theorem Jhd (Ke:List UInt8->Prop):∀(w d:List UInt8),d.length+w.length<=10000000->Ke (d++w.map Zgz)->∃m,jaw ZcS m (d.length:Int) (d++w) Ke
 | [],d,hl,h=>by
  refine ⟨1,?_⟩;simp only [jaw,xf];rw [List.map_nil,xf] at h;exact ⟨λq=>by have:=Ha q;omega,λ_=>h⟩
 | c::w,d,hl,h=>by
  rw [da] at hl;obtain ⟨m,hm⟩:=Jhd Ke w (d++[Zgz c]) (by rw [Rb,Yj];omega) (by rw [Qb];exact h)
  have hlow:=Zhd c;have e1:(d++c::w).getD (d.length:Int).toNat (Ze Cd.u8)=c:=by
   rw [xj];exact getD_at8 d c w _
  have e2:(d++c::w).set (d.length:Int).toNat (Zgz c)=d++[Zgz c]++w:=by
   rw [xj,List.set_append_right _ _ (Ra _),Nat.sub_self,Qb];rfl
  rw [Rb,Yj,<-e2,show ((d.length+1:Nat):Int)=(d.length:Int)+1 from by omega] at hm
  refine ⟨m+1,?_⟩;simp only [jaw];have hlen:(d++c::w).length=d.length+(w.length+1):=by rw [Rb,da]
  refine ⟨λ_=>⟨⟨by omega,by omega⟩,by omega,?_⟩,λq=>by have:=gb q;omega⟩
  rw [e1];exact ⟨⟨by omega,by have:=c.toNat_lt;omega⟩,⟨by omega,by omega⟩,by omega,⟨hlow.1,hlow.2⟩,by unfold I64;omega,hm⟩
where
 getD_at8 (d:List UInt8) (c:UInt8) (w:List UInt8) (x:UInt8):(d++c::w).getD d.length x=c:=by
  rw [List.getD_eq_getElem?_getD,List.getElem?_append_right (Ra _),Nat.sub_self];rfl
def Jgd:JaH:=λs K=>s.length<=10000000/\K (s.map Zgz)
theorem zi1 (s K) (h:Jgd s K):Jda ZcS s K:=⟨by have:=h.1;omega,Jhd _ s [] (by have:=h.1;simpa using this) h.2⟩
theorem Zix {a b:UInt8}:Zgz a=Zgz b↔low (a.toNat:Int)=low (b.toNat:Int):=by
 have ha:=Zhd a;have hb:=Zhd b;constructor
 ·intro h;have:=Ya UInt8.toNat h;unfold Zgz at this;rw [Qo,Qo,Hm (by omega),Hm (by omega)] at this
  omega
 ·intro h;unfold Zgz;rw [h]
theorem zfq:∀(a b:List UInt8),(a.map Zgz==b.map Zgz)=z6 a b
 | [],[]=>rfl
 | [],b::y=>rfl
 | a::x,[]=>rfl
 | a::x,b::y=>by
  have ih:=zfq x y;rw [z6,<-ih,Rl,Rl,He];simp only [beq_iff_eq,List.cons.injEq,yb,xc,Zix]
def JX:jK:=λa b K=>(a.length<=10000000/\b.length<=10000000)/\K (z6 a b)
theorem zhN (a b K) (h:JX a b K):zdb Jgd a b K:=by
 obtain ⟨⟨h1,h2⟩,h⟩:=h;refine ⟨h1,h2,?_⟩;show K (a.map Zgz==b.map Zgz);rw [zfq];exact h
def zge:zaI:=λc K=>K (mD c)
theorem ji1 (c K) (h:zge c K):Zdb c K:=by
 have h:K (mD c):=h;unfold mD at h;refine ⟨λq=>?_,λq=>?_⟩
 ·rwa [q,Yg] at h
 ·rwa [q,yj] at h
theorem Zax {α:Type} {l w:List α} {i:Nat} {x:α} (h:l.drop i=x::w):l.drop (i+1)=w/\i<l.length:=by
 constructor
 ·rw [<-xe,h];rfl
 ·rcases Hg i l.length with q|q
  ·exact q
  ·rw [List.drop_eq_nil_of_le q] at h;cases h
theorem Jgz {l w:List UInt8} {i:Nat} {x:UInt8} (h:l.drop i=x::w):l.getD i 0=x:=by
 have:=Ya (·[0]?) h;simp only [List.getElem?_drop,List.getElem?_cons_zero,Re] at this;rw [List.getD_eq_getElem?_getD,this];rfl
theorem jfq (s:List UInt8) (hs:s.length<=10000000) (Ke:Unit->Prop) (Kr:Bool->Prop):∀(w:List UInt8) (i:Nat),s.drop i=w->i<=s.length->(w.contains 0=false->Ke ())->(w.contains 0=true->Kr false)->∃m,Zah m s (i:Int) Ke Kr
 | [],i,hw,hi,h1,h2=>⟨1,by
  have hle:s.length<=i:=xn.1 hw;simp only [Zah];exact ⟨λq=>by have:=Ha q;omega,λ_=>h1 rfl⟩⟩
 | c::w,i,hw,hi,h1,h2=>by
  obtain ⟨g1,g2⟩:=Zax hw;have e:=Jgz hw;by_cases hc:(c.toNat:Int)=0
  ·have hc0:c=0:=UInt8.toNat_inj.mp (by show c.toNat=0;omega)
   refine ⟨1,?_⟩;simp only [Zah,xj,e];exact ⟨λ_=>⟨⟨by omega,by omega⟩,λ_=>h2 (by rw [hc0];simp),λq=>absurd hc (gb q)⟩,λq=>by have:=gb q;omega⟩
  ·have hcc:(c::w).contains 0=w.contains 0:=by
    have:¬(0:UInt8)=c:=λz=>hc (by rw [<-z];rfl)
    rw [List.contains_cons];have e2:((0:UInt8)==c)=false:=by simpa using this
    rw [e2,Yi]
   rw [hcc] at h1 h2;obtain ⟨m,hm⟩:=jfq s hs Ke Kr w (i+1) g1 (by omega) h1 h2
   refine ⟨m+1,?_⟩;simp only [Zah,xj,e];exact ⟨λ_=>⟨⟨by omega,by omega⟩,λq=>absurd (Ha q) hc,λ_=>⟨by unfold I64;omega,by rw [show (i:Int)+1=((i+1:Nat):Int) from by omega];exact hm⟩⟩,λq=>by have:=gb q;omega⟩
def Jax:jaI:=λs K=>s.length<=10000000/\K (!s.contains 0)
theorem jhN (s K) (h:Jax s K):zdc s K:=by
 obtain ⟨hl,h⟩:=h;refine jfq s hl _ _ s 0 rfl (dg _) (λq=>?_) (λq=>?_)
 ·rw [q] at h;exact h
 ·rw [q] at h;exact h
def jaW:ja0:=λs K=>s.length<=10000000/\K (decide (zcW s≠-1))
theorem Jix (s K) (h:jaW s K):Zd0 zge s K:=by
 obtain ⟨hl,h⟩:=h;unfold zcW swD swM at h
 match s with
 | []=>exact ⟨λ_=>h,λq=>(by cases q)⟩
 | [c]=>
  refine ⟨λq=>(by cases q),λ_=>⟨⟨by omega,by rw [da];omega⟩,?_⟩⟩
  show ((mD (c.toNat:Int)=false->_)/\_);rw [jc,Hc,zh3] at h;refine ⟨λq=>⟨λz=>?_,λz=>?_⟩,λq=>?_⟩
  ·have q:mD (c.toNat:Int)=false:=q;refine ⟨⟨by omega,by rw [da];omega⟩,λz2=>?_,λz2=>?_⟩
   ·have z2:=Ha z2;have:c=45:=UInt8.toNat_inj.mp (by show c.toNat=45;have:(c.toNat:Int)=45:=z2;omega)
    rw [this] at z;cases z
   ·have z2:=gb z2;have z2:¬(c.toNat:Int)=45:=z2;rw [q,ga (by rintro ⟨⟩;exact absurd rfl z2),ga (by decide),Ye z2,yj,ga (by decide)] at h
    exact h
  ·have z:[c]=[45]:=by simpa using z
   rw [ya z] at h;exact h
  ·have q:mD (c.toNat:Int)=true:=q;rw [q] at h;split at h
   ·exact h
   ·exact h
 | c::d::w=>
  refine ⟨λq=>(by cases q),λ_=>⟨⟨by omega,by rw [da];omega⟩,?_⟩⟩
  show ((mD (c.toNat:Int)=false->_)/\_);rw [jc,Hc,jc,ga (by simp)] at h
  refine ⟨λq=>⟨λz=>⟨⟨by omega,by rw [da];omega⟩,λz2=>⟨⟨by omega,by rw [da,da];omega⟩,?_⟩,λz2=>?_⟩,λz=>by simp at z⟩,λq=>?_⟩
  ·have z2:(c.toNat:Int)=45:=Ha z2;have q:mD (c.toNat:Int)=false:=q;rw [q,ga (by decide),Qg z2,Yg] at h
   show K (mD (d.toNat:Int));cases hd:mD (d.toNat:Int) with
   | true=>rw [hd] at h;exact h
   | false=>rw [hd] at h;exact h
  ·have z2:¬(c.toNat:Int)=45:=gb z2;have q:mD (c.toNat:Int)=false:=q;rw [q,ga (by decide),Ye z2,yj] at h
   exact h
  ·have q:mD (c.toNat:Int)=true:=q;rw [q,ya rfl] at h;exact h
theorem ziy:∀n:Nat,n<256->n≠0->ZgT n=Zg6 [UInt8.ofNat n]:=by decide +kernel
def zbV:ZB:=λc K=>(0<=c/\c<=255)/\K (ZgT c.toNat)
def Jah:jT:=λt K=>Zf9 t/\K (zcu t)
theorem jjp (k:Int) (tx:List UInt8) (n:Int) (u:List UInt8) (f:Bool):zcu ⟨k,tx,n,u,f⟩=(jaf ⟨k,tx,n,u,f⟩ (Zcs ⟨k,tx,n,u,f⟩)&&(!tx.contains 0&&(!u.contains 0&&
 (if k∈([1,2,3]:List Int) then tx != []
 else if k=4 then tx != []&&(f||decide (zcW tx≠-1))
 else if k=9 then Zg6 tx
 else if k=10\/k=11 then ZbY ⟨k,tx,n,u,f⟩
 else if k=12 then ZbY ⟨k,tx,n,u,f⟩&&u != []
 else if k=6\/k=8 then false
 else decide (1<=k)&&decide (k<=24))))):=rfl
theorem c0:([]:List UInt8).contains 0=false:=rfl
theorem ZhN (x:List UInt8):(x==[])=decide (x=[]):=by cases x <;> simp
theorem jiy (t K) (h:Jah t K):jak Jax jaW zbV t K:=by
 obtain ⟨⟨h1,h2⟩,h⟩:=h;obtain ⟨k,tx,n,u,f⟩:=t;dsimp only at h1 h2;rw [jjp] at h;by_cases k1:k=1\/k=2\/k=3
 ·have h':K (decide (0∉tx/\tx≠[]/\n=0/\u=[]/\f=false)):=by
   refine (Ya K (He.2 ?_)).mp h;rcases k1 with rfl|rfl|rfl <;> simp [jaf,Zcs,tk,ZbY,jau] <;> (constructor <;> (intro z;simp_all))
  rcases k1 with rfl|rfl|rfl <;> (
   simp only [jak,Jax,jaW,zbV,xc,Rh,Int.reduceEq,not_true_eq_false,not_false_eq_true,true_implies,false_implies,and_true,true_and,forall_const,ZhN,Ym,Hh,Rg,decide_true,xk,Yg,reduceCtorEq,ne_eq,Decidable.not_not,implies_true,and_self,decide_not,beq_self_eq_true,yd,gi,decide_false,Int.reduceLE]
   repeat' (first|apply And.intro|intro)
   all_goals first|omega|(refine (Ya K (He.2 ?_)).mp h';simp_all;done)|(refine (Ya K (He.2 ?_)).mp h';simp_all <;> (intros;omega)))
  done
 by_cases k4:k=4
 ·have h':K (decide (0∉tx/\tx≠[]/\n=0/\u=[]/\(f=true\/zcW tx≠-1))):=by
   refine (Ya K (He.2 ?_)).mp h;rcases k4 with rfl <;> simp [jaf,Zcs,tk,ZbY,jau] <;> (constructor <;> (intro z;simp_all))
  rcases k4 with rfl <;> (
   simp only [jak,Jax,jaW,zbV,xc,Rh,Int.reduceEq,not_true_eq_false,not_false_eq_true,true_implies,false_implies,and_true,true_and,forall_const,ZhN,Ym,Hh,Rg,decide_true,xk,Yg,reduceCtorEq,ne_eq,Decidable.not_not,implies_true,and_self,decide_not,beq_self_eq_true,yd,gi,decide_false,Int.reduceLE]
   repeat' (first|apply And.intro|intro)
   all_goals first|omega|(refine (Ya K (He.2 ?_)).mp h';simp_all;done)|(refine (Ya K (He.2 ?_)).mp h';simp_all <;> (intros;omega)))
  done
 by_cases k5:k=5\/k=7
 ·have h':K (decide (0∉tx/\n=0/\u=[]/\f=false)):=by
   refine (Ya K (He.2 ?_)).mp h;rcases k5 with rfl|rfl <;> simp [jaf,Zcs,tk,ZbY,jau] <;> (constructor <;> (intro z;simp_all))
  rcases k5 with rfl|rfl <;> (
   simp only [jak,Jax,jaW,zbV,xc,Rh,Int.reduceEq,not_true_eq_false,not_false_eq_true,true_implies,false_implies,and_true,true_and,forall_const,ZhN,Ym,Hh,Rg,decide_true,xk,Yg,reduceCtorEq,ne_eq,Decidable.not_not,implies_true,and_self,decide_not,beq_self_eq_true,yd,gi,decide_false,Int.reduceLE]
   repeat' (first|apply And.intro|intro)
   all_goals first|omega|(refine (Ya K (He.2 ?_)).mp h';simp_all;done)|(refine (Ya K (He.2 ?_)).mp h';simp_all <;> (intros;omega)))
  done
 by_cases k10:k=10
 ·have h':K (decide (tx=[]/\u=[]/\-1000000000000<=n/\n<=1000000000000/\(f=false\/n.tmod 1000=0))):=by
   refine (Ya K (He.2 ?_)).mp h;rcases k10 with rfl <;> simp [jaf,Zcs,tk,ZbY,jau] <;> (constructor <;> (intro z;simp_all))
  rcases k10 with rfl <;> (
   simp only [jak,Jax,jaW,zbV,xc,Rh,Int.reduceEq,not_true_eq_false,not_false_eq_true,true_implies,false_implies,and_true,true_and,forall_const,ZhN,Ym,Hh,Rg,decide_true,xk,Yg,reduceCtorEq,ne_eq,Decidable.not_not,implies_true,and_self,decide_not,beq_self_eq_true,yd,gi,decide_false,Int.reduceLE]
   repeat' (first|apply And.intro|intro)
   all_goals first|omega|(refine (Ya K (He.2 ?_)).mp h';simp_all;done)|(refine (Ya K (He.2 ?_)).mp h';simp_all <;> (intros;omega)))
  done
 by_cases k11:k=11
 ·have h':K (decide (tx=[]/\u=[]/\-1000000000000<=n/\n<=1000000000000/\f=false)):=by
   refine (Ya K (He.2 ?_)).mp h;rcases k11 with rfl <;> simp [jaf,Zcs,tk,ZbY,jau] <;> (constructor <;> (intro z;simp_all))
  rcases k11 with rfl <;> (
   simp only [jak,Jax,jaW,zbV,xc,Rh,Int.reduceEq,not_true_eq_false,not_false_eq_true,true_implies,false_implies,and_true,true_and,forall_const,ZhN,Ym,Hh,Rg,decide_true,xk,Yg,reduceCtorEq,ne_eq,Decidable.not_not,implies_true,and_self,decide_not,beq_self_eq_true,yd,gi,decide_false,Int.reduceLE]
   repeat' (first|apply And.intro|intro)
   all_goals first|omega|(refine (Ya K (He.2 ?_)).mp h';simp_all;done)|(refine (Ya K (He.2 ?_)).mp h';simp_all <;> (intros;omega)))
  done
 by_cases k12:k=12
 ·have h':K (decide (tx=[]/\u≠[]/\0∉u/\-1000000000000<=n/\n<=1000000000000/\(f=false\/n.tmod 1000=0))):=by
   refine (Ya K (He.2 ?_)).mp h;rcases k12 with rfl <;> simp [jaf,Zcs,tk,ZbY,jau] <;> (intro z;subst z;simp;constructor <;> (intro z;simp_all))
  rcases k12 with rfl <;> (
   simp only [jak,Jax,jaW,zbV,xc,Rh,Int.reduceEq,not_true_eq_false,not_false_eq_true,true_implies,false_implies,and_true,true_and,forall_const,ZhN,Ym,Hh,Rg,decide_true,xk,Yg,reduceCtorEq,ne_eq,Decidable.not_not,implies_true,and_self,decide_not,beq_self_eq_true,yd,gi,decide_false,Int.reduceLE]
   repeat' (first|apply And.intro|intro)
   all_goals first|omega|(refine (Ya K (He.2 ?_)).mp h';simp_all;done)|(refine (Ya K (He.2 ?_)).mp h';simp_all <;> (intros;omega)))
  done
 by_cases k6:k=6\/k=8
 ·have h':K (decide (False)):=by
   refine (Ya K (He.2 ?_)).mp h;rcases k6 with rfl|rfl <;> simp [jaf,Zcs,tk,ZbY,jau] <;> (constructor <;> (intro z;simp_all))
  rcases k6 with rfl|rfl <;> (
   simp only [jak,Jax,jaW,zbV,xc,Rh,Int.reduceEq,not_true_eq_false,not_false_eq_true,true_implies,false_implies,and_true,true_and,forall_const,ZhN,Ym,Hh,Rg,decide_true,xk,Yg,reduceCtorEq,ne_eq,Decidable.not_not,implies_true,and_self,decide_not,beq_self_eq_true,yd,gi,decide_false,Int.reduceLE]
   repeat' (first|apply And.intro|intro)
   all_goals first|omega|(refine (Ya K (He.2 ?_)).mp h';simp_all;done)|(refine (Ya K (He.2 ?_)).mp h';simp_all <;> (intros;omega)))
  done
 by_cases k9:k=9
 ·subst k9;have h':K (decide (0∉tx/\Zg6 tx=true/\n=0/\u=[]/\f=false)):=by
   refine (Ya K (He.2 ?_)).mp h;simp [jaf,Zcs,tk] <;> (constructor <;> (intro z;simp_all))
  simp only [jak,Jax,jaW,zbV,xc,Rh,Int.reduceEq,not_true_eq_false,not_false_eq_true,true_implies,false_implies,and_true,true_and,forall_const,ZhN,Ym,Hh,Rg,decide_true,xk,Yg,reduceCtorEq,ne_eq,Decidable.not_not,implies_true,and_self,decide_not,beq_self_eq_true,yd,gi,decide_false,Int.reduceLE]
  match tx,h' with
  | [],h'=>
   refine ⟨λq=>by simp at q,λ_=>?_⟩
   refine (Ya K (He.2 ?_)).mp h';simp [Zg6]
  | c::d::w,h'=>
   refine ⟨λq=>by simp at q;omega,λ_=>?_⟩
   refine (Ya K (He.2 ?_)).mp h';simp [Zg6]
  | [c],h'=>
   have hd:∀x:UInt8,[c].getD 0 x=c:=λ_=>rfl
   refine ⟨λ_=>⟨(by rw [Yj];omega),⟨⟨by omega,by rw [hd];have:=c.toNat_lt;omega⟩,?_⟩⟩,λq=>by simp at q⟩
   rw [hd,xj];by_cases hc:c=0
   ·subst hc;refine ⟨λq=>?_,λ_=>?_⟩
    ·exact absurd q (by decide)
    ·refine (Ya K (He.2 ?_)).mp h';simp
   ·have e:=ziy c.toNat c.toNat_lt (λz=>hc (UInt8.toNat_inj.mp (by show c.toNat=0;exact z)))
    rw [UInt8.ofNat_toNat] at e;rw [e];have hc2:¬(0:UInt8)=c:=λz=>hc z.symm
    refine ⟨λq=>?_,λq=>?_⟩ <;> (refine (Ya K (He.2 ?_)).mp h';simp [q,hc2])
 have n1:¬k=1:=by omega
 have n2:¬k=2:=by omega
 have n3:¬k=3:=by omega
 have n5:¬k=5:=by omega
 have n7:¬k=7:=by omega
 have n6:¬k=6:=by omega
 have n8:¬k=8:=by omega
 have h':K (decide (1<=k/\k<=24/\tx=[]/\n=0/\u=[]/\f=false)):=by
  refine (Ya K (He.2 ?_)).mp h;simp [jaf,Zcs,tk,n1,n2,n3,n5,n7,n6,n8,k4,k9,k10,k11,k12] <;> (constructor <;> (intro z;simp_all))
 simp only [jak,Jax,jaW,zbV,n1,n2,n3,n5,n7,n6,n8,k4,k9,k10,k11,k12,xc,Rh,Int.reduceEq,not_true_eq_false,not_false_eq_true,true_implies,false_implies,and_true,true_and,forall_const,ZhN,Ym,Hh,Rg,decide_true,xk,Yg,reduceCtorEq,ne_eq,Decidable.not_not,implies_true,and_self,decide_not,beq_self_eq_true,yd,gi,decide_false,Int.reduceLE]
 repeat' (first|apply And.intro|intro)
 all_goals (refine (Ya K (He.2 ?_)).mp h';simp_all <;> (intros;omega))
theorem gD {l w:List Tok} {i:Nat} {x:Tok} (h:l.drop i=x::w):l.getD i (Ze Cd.tok)=x:=by
 have:=Ya (·[0]?) h;simp only [List.getElem?_drop,List.getElem?_cons_zero,Re] at this;show l.getD i (⟨0,[],0,[],false⟩:Tok)=x;rw [List.getD_eq_getElem?_getD,this];rfl
theorem Zfq (l:List Tok) (hl:∀t∈l,Zf9 t) (hs:l.length<=10000) (Ke:Unit->Prop) (Kr:Int->Prop):∀(w:List Tok) (i:Nat),l.drop i=w->i<=l.length->(jbn w=true->Ke ())->(jbn w=false->Kr 8)->∃m,zf Jah JX m l (i:Int) Ke Kr
 | [],i,hw,hi,h1,h2=>⟨1,by
  have hle:l.length<=i:=xn.1 hw;simp only [zf];exact ⟨λq=>by have:=Ha q;omega,λ_=>h1 rfl⟩⟩
 | t::w,i,hw,hi,h1,h2=>by
  obtain ⟨g1,g2⟩:=Zax hw;have e0:=gD hw;have hok:Zf9 t:=hl t (by have:=Rn (hw▸yc .. : t∈l.drop i);exact this)
  have b0:decide ((i:Int)<(l.length:Int))=true:=Qg (by omega)
  have b1:(0<=(i:Int)/\(i:Int)<(l.length:Int))=True:=eq_true (by omega)
  have i1:I64 ((i:Int)+1)=True:=eq_true (by unfold I64;omega)
  have i2:I64 ((i:Int)+1+1)=True:=eq_true (by unfold I64;omega)
  have n0:((i:Int)).toNat=i:=rfl;have n1:((i:Int)+1).toNat=i+1:=by omega
  have n2:((i:Int)+1+1).toNat=i+2:=by omega
  have o1:(t.text.length<=10000000)=True:=eq_true hok.1;have o2:([117,114,108]:List UInt8).length<=10000000:=by decide
  have o2:(([117,114,108]:List UInt8).length<=10000000)=True:=eq_true o2;have ok1:Zf9 t=True:=eq_true hok;rw [jbn] at h1 h2;have step:zcu t=true->Zep t w=true->∃m,zf Jah JX m l ((i:Int)+1) Ke Kr:=by
   intro z1 z2;rw [z1,z2,Yg,Yg] at h1 h2;obtain ⟨m,hm⟩:=Zfq l hl hs Ke Kr w (i+1) g1 (by omega) h1 h2
   exact ⟨m,by rw [show (i:Int)+1=((i+1:Nat):Int) from by omega];exact hm⟩
  have stop:zcu t=false\/Zep t w=false->Kr 8:=by
   rintro (z|z)
   ·exact h2 (by rw [z];rfl)
   ·exact h2 (by rw [z,yj,yn])
  cases hc:zcu t with
  | false=>
   refine ⟨1,?_⟩;simp only [zf,Jah,n0,e0,b0,b1,ok1,hc,Rg,true_implies,true_and,gi,reduceCtorEq,false_implies,and_true];exact stop (.inl hc)
  | true=>
  have step:=step hc;by_cases k2:t.kind=2
  ·have k9:¬t.kind=9:=by omega
   have hcK:zcu ⟨2,t.text,t.num,t.unit,t.flag⟩=true:=by rw [<-k2];exact hc
   have okK:Zf9 ⟨2,t.text,t.num,t.unit,t.flag⟩=True:=eq_true hok;have hbs:jbD t=false:=by unfold jbD;rw [Ye k9];rfl
   cases ha:z6 t.text [117,114,108] with
   | false=>
    have hf:Zep t w=true:=by unfold Zep zcE;rw [hbs,ha,yn];rfl
    obtain ⟨m,hm⟩:=step hf;refine ⟨m+1,?_⟩;simp only [zf,Jah,JX,n0,n1,n2,e0,b0,b1,i1,i2,o1,o2,ok1,hc,hcK,okK,k2,ha,Int.reduceEq,decide_true,decide_false,Hh,Rg,true_implies,true_and,gi,yd,reduceCtorEq,false_implies,and_true,hm]
   | true=>
    have hf:Zep t w=swK (if swK w 13 then w.tail else w) 5:=by unfold Zep zcE;rw [hbs,ha,Qg k2];rfl
    match w,g1,hf with
    | [],g1,hf=>
     have hle:l.length<=i+1:=xn.1 g1;have d1:decide ((i:Int)+1<(l.length:Int))=false:=Ye (by omega)
     have d2:decide ((l.length:Int)<=(i:Int)+1)=true:=Qg (by omega)
     refine ⟨1,?_⟩;simp only [zf,Jah,JX,n0,n1,n2,e0,b0,b1,i1,i2,o1,o2,ok1,hc,hcK,okK,k2,ha,d1,d2,Int.reduceEq,decide_true,decide_false,Hh,Rg,true_implies,true_and,gi,yd,reduceCtorEq,false_implies,and_true];exact stop (.inr (by rw [hf];rfl))
    | a::w2,g1,hf=>
     obtain ⟨g3,g4⟩:=Zax g1;have e1:=gD g1;have d1:decide ((i:Int)+1<(l.length:Int))=true:=Qg (by omega)
     have d2:decide ((l.length:Int)<=(i:Int)+1)=false:=Ye (by omega)
     have c1:(0<=(i:Int)+1/\(i:Int)+1<(l.length:Int))=True:=eq_true (by omega)
     by_cases ka:a.kind=13
     ·have hs13:swK (a::w2) 13=true:=by unfold swK;exact Qg ka
      rw [hs13,ya rfl,Hc] at hf
      match w2,g3,hf with
      | [],g3,hf=>
       have hle:l.length<=i+2:=xn.1 g3;have d3:decide ((l.length:Int)<=(i:Int)+1+1)=true:=Qg (by omega)
       refine ⟨1,?_⟩;simp only [zf,Jah,JX,n0,n1,n2,e0,e1,b0,b1,c1,i1,i2,o1,o2,ok1,hc,hcK,okK,k2,ka,ha,d1,d2,d3,Int.reduceEq,decide_true,decide_false,Hh,Rg,true_implies,true_and,gi,yd,reduceCtorEq,false_implies,and_true];exact stop (.inr (by rw [hf];rfl))
      | b::w3,g3,hf=>
       obtain ⟨g5,g6⟩:=Zax g3;have e2:=gD g3;have d3:decide ((l.length:Int)<=(i:Int)+1+1)=false:=Ye (by omega)
       have c2:(0<=(i:Int)+1+1/\(i:Int)+1+1<(l.length:Int))=True:=eq_true (by omega)
       by_cases kb:b.kind=5
       ·obtain ⟨m,hm⟩:=step (by rw [hf];unfold swK;exact Qg kb)
        refine ⟨m+1,?_⟩;simp only [zf,Jah,JX,n0,n1,n2,e0,e1,e2,b0,b1,c1,c2,i1,i2,o1,o2,ok1,hc,hcK,okK,k2,ka,kb,ha,d1,d2,d3,Int.reduceEq,decide_true,decide_false,Hh,Rg,true_implies,true_and,gi,yd,reduceCtorEq,false_implies,and_true,ne_eq,not_true_eq_false,hm]
       ·refine ⟨1,?_⟩;simp only [zf,Jah,JX,n0,n1,n2,e0,e1,e2,b0,b1,c1,c2,i1,i2,o1,o2,ok1,hc,hcK,okK,k2,ka,kb,ha,d1,d2,d3,Int.reduceEq,decide_true,decide_false,Hh,Rg,true_implies,true_and,gi,yd,reduceCtorEq,false_implies,and_true,ne_eq,not_false_eq_true];exact stop (.inr (by rw [hf];unfold swK;exact Ye kb))
     ·have hs13:swK (a::w2) 13=false:=by unfold swK;exact Ye ka
      rw [hs13,ga (by decide)] at hf
      by_cases kb:a.kind=5
      ·obtain ⟨m,hm⟩:=step (by rw [hf];unfold swK;exact Qg kb)
       refine ⟨m+1,?_⟩;simp only [zf,Jah,JX,n0,n1,n2,e0,e1,b0,b1,c1,i1,i2,o1,o2,ok1,hc,hcK,okK,k2,kb,ha,d1,d2,Int.reduceEq,decide_true,decide_false,Hh,Rg,true_implies,true_and,gi,yd,reduceCtorEq,false_implies,and_true,ne_eq,not_true_eq_false,hm]
      ·refine ⟨1,?_⟩;simp only [zf,Jah,JX,n0,n1,n2,e0,e1,b0,b1,c1,i1,i2,o1,o2,ok1,hc,hcK,okK,k2,ka,kb,ha,d1,d2,Int.reduceEq,decide_true,decide_false,Hh,Rg,true_implies,true_and,gi,yd,reduceCtorEq,false_implies,and_true,ne_eq,not_false_eq_true];exact stop (.inr (by rw [hf];unfold swK;exact Ye kb))
  ·have huf:zcE t=false:=by unfold zcE;rw [Ye k2];rfl
   by_cases k9:t.kind=9
   ·have hcK:zcu ⟨9,t.text,t.num,t.unit,t.flag⟩=true:=by rw [<-k9];exact hc
    have okK:Zf9 ⟨9,t.text,t.num,t.unit,t.flag⟩=True:=eq_true hok;by_cases kt:t.text=[92]
    ·have hbs:jbD t=true:=by unfold jbD;rw [Qg k9,kt];rfl
     have hf:Zep t w=swK w 13:=by unfold Zep;rw [hbs,ya rfl]
     have kt':(t.text==[92])=true:=by rw [kt];rfl
     match w,g1,hf with
     | [],g1,hf=>
      have hle:l.length<=i+1:=xn.1 g1;have d1:decide ((i:Int)+1=(l.length:Int))=true:=Qg (by omega)
      refine ⟨1,?_⟩;simp only [zf,Jah,JX,n0,n1,n2,e0,b0,b1,i1,i2,o1,o2,ok1,hc,hcK,okK,k2,k9,kt',d1,Int.reduceEq,decide_true,decide_false,Hh,Rg,true_implies,true_and,gi,yd,reduceCtorEq,false_implies,and_true];exact stop (.inr (by rw [hf];rfl))
     | a::w2,g1,hf=>
      obtain ⟨g3,g4⟩:=Zax g1;have e1:=gD g1;have d1:decide ((i:Int)+1=(l.length:Int))=false:=Ye (by omega)
      have c1:(0<=(i:Int)+1/\(i:Int)+1<(l.length:Int))=True:=eq_true (by omega)
      by_cases ka:a.kind=13
      ·obtain ⟨m,hm⟩:=step (by rw [hf];unfold swK;exact Qg ka)
       refine ⟨m+1,?_⟩;simp only [zf,Jah,JX,n0,n1,n2,e0,e1,b0,b1,c1,i1,i2,o1,o2,ok1,hc,hcK,okK,k2,k9,ka,kt',d1,Int.reduceEq,decide_true,decide_false,Hh,Rg,true_implies,true_and,gi,yd,reduceCtorEq,false_implies,and_true,ne_eq,not_true_eq_false,hm]
      ·refine ⟨1,?_⟩;simp only [zf,Jah,JX,n0,n1,n2,e0,e1,b0,b1,c1,i1,i2,o1,o2,ok1,hc,hcK,okK,k2,k9,ka,kt',d1,Int.reduceEq,decide_true,decide_false,Hh,Rg,true_implies,true_and,gi,yd,reduceCtorEq,false_implies,and_true,ne_eq,not_false_eq_true];exact stop (.inr (by rw [hf];unfold swK;exact Ye ka))
    ·have kt':(t.text==[92])=false:=by simpa using kt
     have hbs:jbD t=false:=by unfold jbD;rw [kt',yn]
     obtain ⟨m,hm⟩:=step (by unfold Zep;rw [hbs,huf];rfl)
     refine ⟨m+1,?_⟩;simp only [zf,Jah,JX,n0,n1,n2,e0,b0,b1,i1,i2,o1,o2,ok1,hc,hcK,okK,k2,k9,kt',Int.reduceEq,decide_true,decide_false,Hh,Rg,true_implies,true_and,gi,yd,reduceCtorEq,false_implies,and_true,hm]
   ·have hbs:jbD t=false:=by unfold jbD;rw [Ye k9];rfl
    obtain ⟨m,hm⟩:=step (by unfold Zep;rw [hbs,huf];rfl)
    refine ⟨m+1,?_⟩;simp only [zf,Jah,JX,n0,n1,n2,e0,b0,b1,i1,i2,o1,o2,ok1,hc,k2,k9,Int.reduceEq,decide_true,decide_false,Hh,Rg,true_implies,true_and,gi,yd,reduceCtorEq,false_implies,and_true,hm]
def jge:ZaI:=λl K=>(∀t∈l,Zf9 t)/\K (jeb l)
theorem Zi1 (l K) (h:jge l K):jdc Jah JX l K:=by
 obtain ⟨hl,h⟩:=h;unfold jeb at h;refine ⟨λq=>?_,λq=>?_⟩
 ·have q:=Ha q
  rwa [ya (by omega)] at h
 ·have q:=gb q;rw [ga (by omega)] at h
  refine Zfq l hl (by omega) _ _ l 0 rfl (dg _) (λz=>?_) (λz=>?_) <;> rw [z] at h <;> exact h
