/-
 Great lists; the same tokens; the laws GlueTexts and GlueBack, of the model. Nothing is claimed here.
-/
import Derived.Test.YtmnegokadegioaaGreatDoorHh1
import Derived.Test.YtmnegokadegioaaGreatDoorIa3
import Derived.Test.YtmnegokadegioaaGreatDoorTn
import Derived.Test.YtmnegokadegioaaGreatDoorAt1
import Derived.Test.YtmnegokadegioaaGreatDoorVa4
set_option linter.unusedVariables false
set_option linter.unusedSimpArgs false
namespace Go.Proofs.YtmnegokadegioaaGreatDoor
open Go.Vm Go.Sx Go.RowKit
def JdV:Int→List Tok→Bool
 | _,[]=>false
 | n,t::w=>if 1000<n+((t.text.length:Int)+(t.unit.length:Int)) then true else JdV (n+((t.text.length:Int)+(t.unit.length:Int))) w
def zfX (l:List Tok):Bool:=if 100<l.length∧l.length≤1500 then true else if 1510<l.length then true else JdV 0 l
theorem Zdb:∀(w:List Tok) (n:Int),0≤n→JdV n w=false→∀t∈w,t.text.length≤1000∧t.unit.length≤1000
 | [],_,_,_,t,h=>by cases h
 | a::w,n,hn,h,t,ht=>by
  rw [JdV] at h;split at h
  ·cases h
  ·rename_i q;rcases List.mem_cons.1 ht with rfl|ht
   ·omega
   ·exact Zdb w _ (by omega) h t ht
theorem jfF {l:List Tok} (h:zfX l=false):l.length≤1510∧∀t∈l,t.text.length≤1000∧t.unit.length≤1000:=by
 unfold zfX at h;split at h
 ·cases h
 split at h
 ·cases h
 ·exact ⟨by omega,Zdb l 0 (by omega) h⟩
def zhs (t:Tok):Prop:=t.text.length≤1000000000000000∧t.unit.length≤1000000000000000
theorem JeF (l:List Tok) (hl:∀t∈l,zhs t) (hs:l.length≤1510) (Ke:Unit→Prop) (Kr:Bool→Prop):∀(w:List Tok) (i:Nat) (n:Int),l.drop i=w→i≤l.length→0≤n→n≤1000→(JdV n w=false→Ke ())→(JdV n w=true→Kr true)→∃m,JY m l n (i:Int) Ke Kr
 | [],i,n,hw,hi,h0,h3,h1,h2=>⟨1,by
  have hle:l.length≤i:=List.drop_eq_nil_iff.1 hw;simp only [JY];exact ⟨fun q=>by have:=of_decide_eq_true q;omega,fun _=>h1 rfl⟩⟩
 | t::w,i,n,hw,hi,h0,h3,h1,h2=>by
  obtain ⟨g1,g2⟩:=jau hw;have e0:=gD hw;have hok:zhs t:=hl t (by have:=List.mem_of_mem_drop (hw▸List.mem_cons_self .. : t∈l.drop i);exact this)
  obtain ⟨k1,k2⟩:=hok;have n0:((i:Int)).toNat=i:=rfl;rw [JdV] at h1 h2;by_cases q:1000<n+((t.text.length:Int)+(t.unit.length:Int))
  ·rw [if_pos q] at h2;refine ⟨1,?_⟩;simp only [JY,n0,e0];exact ⟨fun _=>⟨⟨by omega,by omega⟩,⟨by omega,by omega⟩,by unfold I64;omega,by unfold I64;omega,fun _=>h2 rfl,fun z=>absurd q (of_decide_eq_false z)⟩,fun z=>by have:=of_decide_eq_false z;omega⟩
  ·rw [if_neg q] at h1 h2;obtain ⟨m,hm⟩:=JeF l hl hs Ke Kr w (i+1) _ g1 (by omega) (by omega) (by omega) h1 h2
   refine ⟨m+1,?_⟩;simp only [JY,n0,e0];exact ⟨fun _=>⟨⟨by omega,by omega⟩,⟨by omega,by omega⟩,by unfold I64;omega,by unfold I64;omega,fun z=>absurd (of_decide_eq_true z) q,fun _=>⟨by unfold I64;omega,by rw [show (i:Int)+1=((i+1:Nat):Int) from by omega];exact hm⟩⟩,fun z=>by have:=of_decide_eq_false z;omega⟩
def zeG:zaF:=fun l K=>(∀t∈l,zhs t)∧K (zfX l)
theorem zh9 (l K) (h:zeG l K):Jc1 l K:=by
 obtain ⟨hl,h⟩:=h;unfold zfX at h;refine ⟨fun q=>⟨fun q2=>⟨fun q3=>?_,fun q3=>?_⟩,fun q2=>?_⟩,fun q=>⟨fun q3=>?_,fun q3=>?_⟩⟩
 ·have q:=of_decide_eq_true q;have q2:=of_decide_eq_false q2;have q3:=of_decide_eq_true q3
  rwa [if_neg (by omega),if_pos (by omega)] at h
 ·have q:=of_decide_eq_true q;have q2:=of_decide_eq_false q2;have q3:=of_decide_eq_false q3;rw [if_neg (by omega),if_neg (by omega)] at h
  refine JeF l hl (by omega) _ _ l 0 0 rfl (Nat.zero_le _) (by omega) (by omega) (fun z=>?_) (fun z=>?_) <;> rw [z] at h <;> exact h
 ·have q:=of_decide_eq_true q;have q2:=of_decide_eq_true q2
  rwa [if_pos (by omega)] at h
 ·have q:=of_decide_eq_false q;have q3:=of_decide_eq_true q3;omega
 ·have q:=of_decide_eq_false q;have q3:=of_decide_eq_false q3;rw [if_neg (by omega),if_neg (by omega)] at h
  refine JeF l hl (by omega) _ _ l 0 0 rfl (Nat.zero_le _) (by omega) (by omega) (fun z=>?_) (fun z=>?_) <;> rw [z] at h <;> exact h
theorem ZgW (a b:List Tok) (ha:a.length≤10000) (hab:a.length=b.length) (Ke:Unit→Prop) (Kr:Bool→Prop):∀(x y:List Tok) (i:Nat),a.drop i=x→b.drop i=y→i≤a.length→(Za4 x y=true→Ke ())→(Za4 x y=false→Kr false)→∃m,jaq m a b (i:Int) Ke Kr
 | [],y,i,hx,hy,hi,h1,h2=>⟨1,by
  have hle:a.length≤i:=List.drop_eq_nil_iff.1 hx;have:y=[]:=by rw [←hy];exact List.drop_eq_nil_of_le (by omega)
  subst this;simp only [jaq];exact ⟨fun q=>by have:=of_decide_eq_true q;omega,fun _=>h1 rfl⟩⟩
 | t::x,[],i,hx,hy,hi,h1,h2=>by
  have:=(jau hx).2;have hle:b.length≤i:=List.drop_eq_nil_iff.1 hy;omega
 | t::x,u::y,i,hx,hy,hi,h1,h2=>by
  obtain ⟨g1,g2⟩:=jau hx;obtain ⟨g3,g4⟩:=jau hy;have e0:=gD hx;have e1:=gD hy;have n0:((i:Int)).toNat=i:=rfl;have es:(decide (t.kind=u.kind)&&((t.text==u.text)&&(decide (t.num=u.num)&&((t.unit==u.unit)&&((t.flag==u.flag)&&true)))))=jab t u:=by
   unfold jab;rw [Bool.eq_iff_iff];simp
  rw [Za4] at h1 h2;cases hc:jab t u with
  | false=>
   rw [hc] at h2;refine ⟨1,?_⟩;simp only [jaq,n0,e0,e1,es,hc];exact ⟨fun _=>⟨⟨by omega,by omega⟩,⟨by omega,by omega⟩,fun _=>h2 rfl,fun z=>by simp at z⟩,fun z=>by have:=of_decide_eq_false z;omega⟩
  | true=>
   rw [hc,Bool.true_and] at h1 h2;obtain ⟨m,hm⟩:=ZgW a b ha hab Ke Kr x y (i+1) g1 g3 (by omega) h1 h2
   refine ⟨m+1,?_⟩;simp only [jaq,n0,e0,e1,es,hc];exact ⟨fun _=>⟨⟨by omega,by omega⟩,⟨by omega,by omega⟩,fun z=>by simp at z,fun _=>⟨by unfold I64;omega,by rw [show (i:Int)+1=((i+1:Nat):Int) from by omega];exact hm⟩⟩,fun z=>by have:=of_decide_eq_false z;omega⟩
def jeG:jaV:=fun a b K=>(a.length≤10000∧a=b)∧K true
theorem jh9 (a b K) (h:jeG a b K):JdN a b K:=by
 obtain ⟨⟨ha,rfl⟩,h⟩:=h;refine ⟨fun q=>absurd rfl (of_decide_eq_true q),fun _=>ZgW a a ha rfl _ _ a a 0 rfl rfl (Nat.zero_le _) (fun _=>h) (fun z=>?_)⟩
 rw [Jed] at z;cases z
def ZfF:jba:=fun K=>K true
theorem jhs {s:List UInt8} {l:List Tok} (h:Jey s=some l) {K:List Tok→Int→Prop} (hK:K l 0):jbI s K:=by
 unfold Jey at h;by_cases q:4000<s.length
 ·rw [if_pos q] at h;cases h
 rw [if_neg q] at h;by_cases q2:1500<(ZgY (JB s)).length
 ·rw [if_pos q2] at h;cases h
 rw [if_neg q2] at h;have h:=Option.some.inj h;refine ⟨fun z=>absurd z q,fun _ _=>?_,fun _ z=>absurd z q2⟩
 have e:(ZgY (JB s)).map jiC=l:=h;rw [e];exact hK
theorem Zh9 {l:List Tok} (h:Zf9 l=0):(ZfO l).2=0∨(ZfO l).2=28:=by
 have:∀(f:Nat) (b:List UInt8) (sts:List (Nat×Nat)) (i:Nat),(wrM l f b sts i).2=0∨(wrM l f b sts i).2=28:=by
  intro f
  induction f with
  | zero=>intro b sts i;exact .inl rfl
  | succ f ih=>
   intro b sts i;rw [wrM];split
   ·exact .inl rfl
   ·dsimp only
    repeat' split
    all_goals first|exact .inr rfl|exact ih _ _ _
 unfold ZfO;rw [if_neg (by rw [h];decide)]
 exact this _ _ _ _
theorem Jh9 {l:List Tok} {s:List UInt8} (hpos:∀w:List UInt8,w≠[]→1≤(jK w).2) (h:ZfO l=(s,0)):s.length≤4000:=by
 have:=(Zfb hpos h).1;unfold Jey at this;by_cases q:4000<s.length
 ·rw [if_pos q] at this;cases this
 ·omega
theorem Ji4:∀w:List UInt8,w≠[]→1≤(jK w).2:=fun w h=>by
 cases w with
 | nil=>exact absurd rfl h
 | cons c w=>exact (JfR (by simp)).1
theorem Zhs (l K) (hl:∀t∈l,zhs t) (h:K true):Jb4 zeG ZfT ZfF ZiC jbI jeG l K:=by
 refine ⟨hl,fun q=>?_,fun _=>h⟩
 obtain ⟨g1,g2⟩:=jfF q;have ok:∀t∈l,JfO t:=fun t ht=>⟨by have:=(g2 t ht).1;omega,by have:=(g2 t ht).2;omega⟩
 have ok2:∀t∈l,ok2 t:=fun t ht=>⟨by have:=(g2 t ht).1;omega,by have:=(g2 t ht).2;omega⟩
 refine ⟨ok,fun _=>h,fun q2=>⟨ok2,fun q3=>⟨fun _=>h,fun z=>?_⟩,fun q3=>?_⟩⟩
 ·have q2:Zf9 l=0:=by simpa using q2
  have q3:(ZfO l).2≠0:=by simpa using q3
  have z:¬(ZfO l).2=28:=by simpa using z
  rcases Zh9 q2 with e|e
  ·exact absurd e q3
  ·exact absurd e z
 ·have q3:(ZfO l).2=0:=by simpa using q3
  have hw:ZfO l=((ZfO l).1,0):=by rw [←q3]
  have hb:=(Zfb Ji4 hw).1;have hs:=Jh9 Ji4 hw;exact jhs hb ⟨fun _=>⟨⟨by omega,rfl⟩,fun _=>⟨fun _=>h,fun z=>by have:=of_decide_eq_false z;omega⟩,fun z=>by cases z⟩,fun z=>by have:=of_decide_eq_false z;exact absurd rfl this⟩
end Go.Proofs.YtmnegokadegioaaGreatDoor
set_option linter.unusedVariables false
namespace Go.Proofs.YtmnegokadegioaaGreatDoor
open Go.Vm Go.Sx Go.RowKit
variable {ro:Nat}
theorem ZiS (t K) (h:JhA t K):Z5 Jcu t K:=zi9 Jcu (fun a b K h=>h) t K h
theorem JiS:FO ro 119 (Zbr jgN):=by
 intro o0 us k h st vs hn hg ho hr;unfold Zbr at h;split at h
 ·rename_i a0 a1;obtain ⟨hl,hk⟩:=h;obtain ⟨v0,r0,rfl,hv0,hr0⟩:=hr;obtain ⟨v1,r1,rfl,hv1,hr1⟩:=hr0;have hr1:r1=[]:=hr1;have hv0:v0=V.str a0:=hv0;have hv1:v1=V.str a1:=hv1;subst hr1 hv0 hv1;refine ⟨.i .i64 (Lib.index a0 a1),st,⟨1,fun n hn=>?_⟩,.i .i64 (Lib.index a0 a1),rfl,⟨Nat.le_refl _,fun _ _=>rfl,fun _ _ q=>q⟩,hk⟩
  cases n with
  | zero=>omega
  | succ n=>
   have e:ovD ro 119 [V.str a0,V.str a1] st=some (.i .i64 (Lib.index a0 a1),st):=by
    have hb:Nat.blt a0.length 4294967281=true:=by rw [Nat.blt_eq];omega
    have h0:ovI 119 [V.str a0,V.str a1]=some (V.i .i64 (Lib.index a0 a1)):=by
     show cond (Nat.blt a0.length 4294967281) (some (V.i .i64 (Lib.index (Jf a0.length (zV a0)) (Jf a1.length (zV a1))))) none=_;rw [hb,JL,JL];rfl
    show zcM ovI 119 [V.str a0,V.str a1] st=_;unfold zcM;rw [h0]
   unfold evF JQ;rw [e]
 ·exact h.elim
theorem Zjb:FP ro 60 (zay JiJ):=by
 intro o0 us k h st vs hn hg ho hr;unfold zay at h;split at h
 ·rename_i a0 a1;obtain ⟨⟨hl,hl2⟩,hk⟩:=h;obtain ⟨v0,r0,rfl,hv0,hr0⟩:=hr;obtain ⟨v1,r1,rfl,hv1,hr1⟩:=hr0;have hr1:r1=[]:=hr1;have hv0:v0=V.str a0:=hv0;have hv1:v1=.i .u8 a1:=hv1;subst hr1 hv0 hv1;obtain ⟨c,rfl⟩:∃c:Nat,a1=.ofNat c:=⟨a1.toNat,by show a1=(a1.toNat:Int);omega⟩
  have hc:c<256:=by have:((c:Nat):Int)<256:=hl2;omega
  refine ⟨.i .i64 (Lib.indexByte a0 (UInt8.ofNat c)),st,⟨1,fun n hn=>?_⟩,.i .i64 (Lib.indexByte a0 (UInt8.ofNat c)),rfl,⟨Nat.le_refl _,fun _ _=>rfl,fun _ _ q=>q⟩,hk⟩
  cases n with
  | zero=>omega
  | succ n=>
   have e:ovD ro 60 [V.str a0,.i .u8 (.ofNat c)] st=some (.i .i64 (Lib.indexByte a0 (UInt8.ofNat c)),st):=by
    have hb:Nat.blt c 256=true:=by rw [Nat.blt_eq];exact hc
    have hx:ixN a0.length (zV a0) c 0=Lib.indexByte a0 (UInt8.ofNat c):=by
     have h2:=(JfM c hc a0.length (zV a0) 0).2;rw [JL] at h2;rw [h2];split
     ·rename_i z;exact z.symm
     ·show _+((0:Nat):Int)=_;omega
    have h0:ovI 60 [V.str a0,.i .u8 (.ofNat c)]=some (V.i .i64 (Lib.indexByte a0 (UInt8.ofNat c))):=by
     show cond (Nat.blt c 256) (some (V.i .i64 (ixN a0.length (zV a0) c 0))) none=_;rw [hb,hx];rfl
    show zcM ovI 60 [V.str a0,.i .u8 (.ofNat c)] st=_;unfold zcM;rw [h0]
   unfold evF JQ;rw [e]
 ·exact h.elim
theorem Jjb:FP ro 17 (Zb4 ZfF):=by
 intro o0 us k h st vs hn hg ho hr;unfold Zb4 at h;split at h
 ·have e:vs=[]:=hr;subst e;exact ⟨.b true,st,⟨1,fun n hn=>by
   cases n with
   | zero=>omega
   | succ n=>rfl⟩,.b true,rfl,⟨Nat.le_refl _,fun _ _=>rfl,fun _ _ q=>q⟩,h⟩
 ·exact h.elim
theorem zjc:FnOK syc Tryz.prog GT (ovD ro) ro 86 (J9 ZcI):=JdM Jfu Zhk
theorem jjc:FP ro 66 (Zas zfT):=FnOK.swap (Y:=syc) (Y':=syo) (fun _=>rfl) (fun _=>rfl) (zdN (jfv ZcI zjc) Jit)
theorem Zjc:FP ro 56 (jR JbL):=by
 intro o0 us k h st vs hn hg ho hr;unfold jR at h;split at h
 ·rename_i a0;obtain ⟨⟨h0,h1⟩,hk⟩:=h;obtain ⟨v0,r0,rfl,hv0,hr0⟩:=hr;have hr0:r0=[]:=hr0;have hv0:v0=.i .u8 a0:=hv0;subst hr0 hv0;obtain ⟨c,rfl⟩:∃c:Nat,a0=.ofNat c:=⟨a0.toNat,by show a0=(a0.toNat:Int);omega⟩
  have hc:c<256:=by have:((c:Nat):Int)≤255:=h1;omega
  refine ⟨.b (zgv c),st,⟨1,fun n hn=>?_⟩,.b (zgv c),rfl,⟨Nat.le_refl _,fun _ _=>rfl,fun _ _ q=>q⟩,hk⟩
  cases n with
  | zero=>omega
  | succ n=>
   have e:ovD ro 56 [.i .u8 (.ofNat c)] st=some (.b (zgv c),st):=by
    have hb:Nat.blt c 256=true:=by rw [Nat.blt_eq];exact hc
    have h0:ovL 56 [.i .u8 (.ofNat c)]=some (V.b (zgv c)):=by
     show cond (Nat.blt c 256) (some (V.b (zgv c))) none=_;rw [hb];rfl
    show (match zcM ovL 56 [.i .u8 (.ofNat c)] st with|some r=>some r|none=>_)=_
    unfold zcM;rw [h0]
   unfold evF JQ;rw [e]
 ·exact h.elim
theorem t_7:FP ro 7 (zau zeG):=ZdP (Jfy) zh9
theorem Jjc:FP ro 30 (jat Zau):=jdO (Jfw) zhl
theorem zjd:FP ro 63 (zat jfT):=ZdN (Jfv) ziu
theorem jjd:FP ro 55 (jaM jaS):=jd4 (Jf8 jfT zjd) Zh3
theorem Zjd:FP ro 25 (Zaq jae):=Zd4 (zf9 Zau jaS JbL Jjc jjd Zjc) zh4
theorem Jjd:FP ro 33 (zaa ZU):=jdN (Zfv zfT jjc) Jhk
theorem zje:FP ro 15 (Jat ZfT):=jdP (jfy jae ZU Zjd Jjd) jiu
theorem jje:FP ro 45 (Zac zea):=zdg (ze0) jim
theorem JiC:FP ro 28 (zj jcH):=Zcr (ZdH JiJ Zjb) ziK
theorem Zje:FP ro 27 (jS JdP):=zcE (Zd2) jhU
theorem zgZ:FO ro 81 (Zf jaB):=Jdc (ZeQ) ZiI
theorem ziT:FP ro 76 (Jq jeA):=zcs (jdI jaB (gr zgZ)) ZiN
theorem jiT:FO ro 118 (za0 zgN):=Jep (ZgA) ZiM
theorem ZiT:FO ro 92 (zX zgg):=Zeq (JgA zgN jiT) zja
theorem zi5:FP ro 77 (jm ze8):=Jbr (Zcf zgg jeA (gr ZiT) ziT) JiN
theorem JiT:FP ro 46 (Zn Zd5):=Jcf (Jdg jeA ze8 ziT zi5) ziO
theorem zid:FO ro 78 (zi ZaF):=jde (ZeU) Zim
theorem ziU:FO ro 79 (zC jd5):=Zde (JeU) jiJ
theorem zia:FO ro 116 (jx zd5):=JcR (Zen) JiI
theorem jiU:FO ro 80 (Zq Jay):=Jco (zdB zd5 zia) Jhf
theorem Jje:FP ro 47 (jM Jf9):=jcs (ZdI ZaF jd5 Jay jaB jcH (gr zid) (gr ziU) (gr jiU) (gr zgZ) JiC) jiK
theorem ji5:FP ro 53 (Jy jfz):=Zcs (JdI) ZiH
theorem zjf:FP ro 48 (JG zc2):=zcg (zdi jfz ji5) ZhU
theorem jjf:FP ro 23 (Jn zgJ):=zbs (jcg zea jcH JdP Zd5 Jf9 zc2 jje JiC Zje JiT Jje zjf) ZiK
theorem ZiU:FP ro 38 (Jg ZgI):=ZbD (Jcs) Ji8
theorem Zjf:FP ro 65 (JaI Zic):=Jd2 (zf8) ji9
theorem JiU:FO ro 103 (ZG zgL):=JcB (jd0) JiL
theorem Zi5:FO ro 70 (Zaf Jcu):=Zd0 (Jf6 zgL JiU) JhW
theorem Ji5:FP ro 39 (Zi JhA):=Jbk (JbY Jcu (gr Zi5)) ZiS
theorem Jjf:FP ro 32 (zk JgI):=Za7 (JbD ZgI Zic JhA ZiU Zjf Ji5) JiH
theorem zjg:FP ro 14 (ZN jgJ):=zcX (Zeu zgJ JgI jjf Jjf) ziI
theorem jjg:FP ro 20 (Jx ZgJ):=zch (Zdi ZgI JhA ZiU Ji5) jiI
theorem ziV:FO ro 89 (Zp Jdj):=zcS (zeo Jay jaB jiU zgZ) ziJ
theorem jgX:ShOK syo Tryz.prog GT (ovD ro) ro Tryz.f82.ntmps (za Tryz.f82) sl_gE_w Zah (zaO zaS):=(jhS jaB zd5 (gr zgZ) (gr zia)).weak (fun _ _ h=>zhZ _ _ _ _ _ _ _ _ _ _ _ _ _ _ _ _ _ h)
theorem jhF:ShOK syo Tryz.prog GT (ovD ro) ro Tryz.f61.ntmps (za Tryz.f61) sl_gB_w zbE (jcF zc3):=(JhS Jdj zaS (gr ziV) jgX).weak (fun _ _ h=>jhZ _ _ _ _ _ _ _ _ _ _ _ _ _ _ _ _ _ _ h)
theorem ZhF:ShOK syo Tryz.prog GT (ovD ro) ro Tryz.f29.ntmps (za Tryz.f29) sl_gN_w jbE (ZcF jc3):=(zhT Zd5 zc3 JiT jhF).weak (fun _ _ h=>ZhZ _ _ _ _ _ _ _ _ _ _ _ _ _ _ _ _ _ h)
theorem Jix:ShOK syo Tryz.prog GT (ovD ro) ro Tryz.f82.ntmps (za Tryz.f82) sl_gE_h jbZ (Jc8 Zc3):=(jhT jaB zd5 (gr zgZ) (gr zia)).weak (fun _ _ h=>JhZ _ _ _ _ _ _ _ _ _ _ _ _ _ _ _ _ _ _ _ _ _ _ h)
theorem JhF:ShOK syo Tryz.prog GT (ovD ro) ro Tryz.f61.ntmps (za Tryz.f61) sl_gB_h ZbE (zcG Jc3):=(JhT Jdj Zc3 (gr ziV) Jix).weak (fun _ _ h=>zh0 _ _ _ _ _ _ _ _ _ _ _ _ _ _ _ _ _ _ _ _ _ _ _ h)
theorem ziy:ShOK syo Tryz.prog GT (ovD ro) ro Tryz.f29.ntmps (za Tryz.f29) sl_gN_h zcZ (jd9 JeB):=(zhU Zd5 Jc3 JiT JhF).weak (fun _ _ h=>jh0 _ _ _ _ _ _ _ _ _ _ _ _ _ _ _ _ _ _ _ _ _ _ h)
theorem jiy:ShOK syo Tryz.prog GT (ovD ro) ro Tryz.f49.ntmps (za Tryz.f49) sl_glue_appendHash_w jI (zL zeD):=(Zch Jc3 JeB JhF ziy).weak (fun _ _ h=>Jh1 _ _ _ _ _ _ _ _ _ _ _ _ _ _ _ _ _ _ _ _ _ h)
theorem Ziy:ShOK syo Tryz.prog GT (ovD ro) ro Tryz.f50.ntmps (za Tryz.f50) sl_glue_appendString_w jB (jD zeC):=(ZbN jcH zaS JiC jgX).weak (fun _ _ h=>Zh0 _ _ _ _ _ _ _ _ _ _ _ _ _ _ _ _ _ h)
theorem Jiy:ShOK syo Tryz.prog GT (ovD ro) ro Tryz.f51.ntmps (za Tryz.f51) sl_glue_appendURL_w jL (ZP jeC):=(Zct jcH zaS JiC jgX).weak (fun _ _ h=>Jh0 _ _ _ _ _ _ _ _ _ _ _ _ _ _ _ _ _ h)
theorem ziz:ShOK syo Tryz.prog GT (ovD ro) ro Tryz.f52.ntmps (za Tryz.f52) sl_glue_appendNumber_w ZB (ZD ZeC):=(zbO).weak (fun _ _ h=>jh1 _ _ _ _ _ _ _ _ _ _ _ _ _ _ _ _ _ _ h)
theorem Zjg:FP ro 84 (Zl jhk):=zaX (jbl jeA ze8 ziT zi5) jiO
theorem jiz:ShOK syo Tryz.prog GT (ovD ro) ro Tryz.f54.ntmps (za Tryz.f54) sl_glue_appendUnit_w ZI (ZL JeC):=(jci jhk zc3 jc3 Zjg jhF ZhF).weak (fun _ _ h=>Zh1 _ _ _ _ _ _ _ _ _ _ _ _ _ _ _ _ _ h)
theorem Ziz:ShOK syo Tryz.prog GT (ovD ro) ro Tryz.f24.ntmps (za Tryz.f24) sl_glue_appendToken_w zt (jv zdS):=(jb1 jc3 zeD zeC jeC ZeC jfz JeC ZhF jiy Ziy Jiy ziz ji5 jiz).weak (fun _ _ h=>zh2 _ _ _ _ _ _ _ _ _ _ _ _ _ _ _ _ h)
theorem Jiz:ShOK syo Tryz.prog GT (ovD ro) ro Tryz.f40.ntmps (za Tryz.f40) sl_glue_appendPiece_w zq (js Zit):=(Jb1 ZgI zdS ZiU Ziz).weak (fun _ _ h=>Zja _ _ _ _ _ _ _ h)
theorem Jjg:FO ro 91 (Jk Jic):=Zba (jbM) jja
theorem zjh:FO ro 67 (jaf JdR):=JdY (Zf5 Jic Jjg) JhY
theorem jjh:FO ro 93 (j7 ZgN):=jdG (jfq jgN JiS) JiM
theorem Zjh:FO ro 68 (zp JgN):=ZbM (ZcD zgg ZgN ZiT jjh) ziN
theorem Zdk:FO ro 120 (jd Zm):=Zdz (Jfi) jhf
theorem jiV:FO ro 94 (jam zhg):=zeV (Zg8 Zm ZaF Zdk zid) Ji9
theorem jia:ShOK sy Tryz.prog GT (ovD ro) ro Tryz.f136.ntmps (za Tryz.f136) sl_uA_q ZbW (Zc8 Zez):=(zhR).weak (fun _ _ h=>jhW _ _ _ _ _ _ _ _ h)
theorem ziA:FO ro 137 (Ju Je6):=zcT (jer jaB zgZ) JiK
theorem ZgX:ShOK sy Tryz.prog GT (ovD ro) ro Tryz.f121.ntmps (za Tryz.f121) sl_aE_q zaQ (jbr jb3):=(ZhR Zez Je6 Zm ZaF jia ziA Zdk zid).weak (fun _ _ h=>ZhW _ _ _ _ _ _ _ _ _ h)
theorem Jjh:FO ro 95 (JbB Jhg):=ZeY (Zhb jb3 ZgX) ziL
theorem zht:FO ro 122 (ZV zcH):=zeU (Jg7 Zm Zdk) ZiJ
theorem zi6:FO ro 96 (ZaH jcu):=jeU (zg8 Zm Jdj zcH Zdk ziV zht) jhV
theorem ji6:FO ro 97 (Zy JaR):=zcp (jdB Zm Jay zcH Zdk jiU zht) zhV
theorem Zia:ShOK sy Tryz.prog GT (ovD ro) ro Tryz.f136.ntmps (za Tryz.f136) sl_uA_e JbV (jc8 jez):=(jhQ).weak (fun _ _ h=>ZhV _ _ _ h)
theorem JgX:ShOK sy Tryz.prog GT (ovD ro) ro Tryz.f121.ntmps (za Tryz.f121) sl_aE_e JaP (Zbq Jb2):=(JhQ jez Je6 Zm ZaF Zia ziA Zdk zid).weak (fun _ _ h=>JhV _ _ _ _ h)
theorem ZiV:FO ro 98 (Zx Zck):=JcT (jes jcu Jb2 zi6 JgX) jiq
theorem Jia:FO ro 123 (JH Zay):=Jdz (zfj) Zhf
theorem jiA:FO ro 124 (ZaW zdQ):=jeR (zg6 Zm jaB Zdk zgZ) Jim
theorem zji:FO ro 99 (Jbx je6):=ZeR (jg6 Zm Zay jaB zdQ Zdk Jia zgZ jiA) zin
theorem JiV:FO ro 140 (Jv jc2):=zby (zco) JhU
theorem ziW:FO ro 141 (JF Ze6):=Zce (zdd Zm Zay jaB Zdk Jia zgZ) jin
theorem jiW:FO ro 142 (jby Zc2):=JeR (Jg6) jhX
theorem ZiW:FO ro 164 (JaZ Jez):=Jem (Jgx) ZhX
theorem JiW:FO ro 158 (zG zfR):=ZcA (ZdX Jez ZiW) Jir
theorem ziX:FO ro 143 (Zbz zgM):=jeS (jg7 zfR JiW) ziM
theorem jiX:FO ro 125 (Jbz zhi):=JeT (Zg7 zdQ Zm jc2 Ze6 Zc2 zgM Zay jaB jiA Zdk JiV ziW jiW ziX Jia zgZ) jiM
theorem ZiX:FO ro 100 (zM Zb3):=zcq (JdG zhi JaR Zck Zm jiX ji6 ZiV Zdk) zgO
theorem JiX:FO ro 144 (jG Jcb):=ZcB (zd0) zhh
theorem ziY:FO ro 145 (Ja5 JgK):=ZeW (zha zcH Jb2 zht JgX) jiL
theorem jiY:FO ro 126 (Jab jhh):=Jde (jeY zhg ZaF zcH jb3 Jcb JgK jiV zid zht ZgX JiX ziY) ZiL
theorem ZiY:FO ro 101 (zS zbI):=zcD (Zd1 Zck Zm Jcu zhg jd5 jhh ZiV Zdk Zi5 jiV ziU jiY) zhX
theorem JiY:FO ro 102 (Zar ZcH):=ZdG (Zfq) jis
theorem jji:FO ro 69 (ZJ ZdR):=ZcV (Zet ZaF zhg jd5 Jhg jcu JaR Zck je6 Zb3 zgg zbI ZcH zid jiV ziU Jjh zi6 ji6 ZiV zji ZiX ZiT ZiY JiY) ZhY
theorem Zi6:FO ro 18 (zag jbI):=jd2 (Jf7 JdR JgN ZdR zjh Zjh jji) zhk
theorem Zji:FP ro 71 (ZM ziC):=zct (ZdK) Zi9
theorem Jji:FP ro 41 (Zt Jea):=jch (jdj jbI ziC (gr Zi6) Zji) Jis
theorem t_8:FP ro 8 (ZY ZiC):=jcZ (zev jgJ ZgJ Zit Jea zjg jjg Jiz Jji) Jja
theorem zjj:FP ro 16 (zaM jeG):=zd4 (Zf8) jh9
theorem ziZ:FP ro 4 (zaG (fun l K=>(∀t∈l,zhs t)∧K true)):=
 Zc4 (ZeF zeG ZfT ZfF ZiC jbI jeG t_7 zje Jjb t_8 (gr Zi6) zjj) (fun l K h=>Zhs l K h.1 h.2)
theorem jjj {W:World} (hG:GOn W gs1):GOK GT (GL+W.heap.size) (stW W):=by
 refine JgW fun g k l h=>?_
 match g,h with
 | 0,h=>
  obtain ⟨rfl,rfl⟩:IntKind.u8=k∧marksL=l:=by
   have h2:=Option.some.inj h;exact ⟨congrArg Prod.fst h2,congrArg Prod.snd h2⟩
  obtain ⟨h1,_,c,e,fz,h2,h3⟩:=hG (0,gv0) (List.mem_cons_of_mem _ (List.mem_cons_of_mem _ (List.mem_cons_of_mem _ (List.mem_cons_self ..))));refine ⟨h1,c,e,fz,h2,fun j hj=>?_⟩
  have e2:(gv0.map (V.real J0))=(marksL.map fun z=>Value.int .u8 z):=by kernel_rfl
  rw [e2] at h3;rw [←Array.getElem?_toList,h3,List.getElem?_map,List.getD_eq_getElem?_getD,List.getElem?_eq_getElem hj];rfl
 | _+1,h=>cases h
theorem ZiA {H:Type} {enc:TypeId×Value→H} {W:World} (fuel:Nat) (cs:List Value) (x:DataW H×List MemPlace) (h:DataW.trod enc Tryz.prog W 0 (fun _=>true) true fuel 24 cs=some x) :
  ∃y:Tok,ZeG syo W (syo.cells Cd.tok y) cs∧((∀n∈x.1.weights Tryz.prog 24,n≤reachBytes)→zhs y):=by
 obtain ⟨k,tx,m,un,fl,rfl,hx,hw⟩:=Jhs Tryz.underlying24 (by kernel_rfl) rfl rfl rfl rfl rfl (by kernel_rfl) (by kernel_rfl) (by kernel_rfl) (by kernel_rfl) (by kernel_rfl) Tryz.underlying5 Tryz.underlying9 Tryz.underlying2 Tryz.underlying9 Tryz.underlying4 h
 refine ⟨⟨k,tx.data.toList,m,un.data.toList,fl⟩,⟨rfl,fun j u v hu hv=>?_⟩,fun hh=>?_⟩
 ·match j,hu,hv with
  | 0,hu,hv=>obtain rfl:=Option.some.inj hu;obtain rfl:=Option.some.inj hv;exact ⟨_,rfl,.i _ _⟩
  | 1,hu,hv=>obtain rfl:=Option.some.inj hu;obtain rfl:=Option.some.inj hv;exact ⟨_,rfl,.s _⟩
  | 2,hu,hv=>obtain rfl:=Option.some.inj hu;obtain rfl:=Option.some.inj hv;exact ⟨_,rfl,.i _ _⟩
  | 3,hu,hv=>obtain rfl:=Option.some.inj hu;obtain rfl:=Option.some.inj hv;exact ⟨_,rfl,.s _⟩
  | 4,hu,hv=>obtain rfl:=Option.some.inj hu;obtain rfl:=Option.some.inj hv;exact ⟨_,rfl,.b _⟩
  | j+5,hu,hv=>cases hu
 ·rw [hw] at hh;have hr:=reachBytes_lt;have w1:=hh tx.data.toList.length (by simp [DataW.weightsEach,DataW.weights])
  have w3:=hh un.data.toList.length (by simp [DataW.weightsEach,DataW.weights])
  exact ⟨by show tx.data.toList.length≤_;omega,by show un.data.toList.length≤_;omega⟩
theorem jht {P:Program} {w:World} {r:Reach} {b0:Nat} {t e:TypeId} {v:Value} (ht:P.underlying t=some (.slice e)) (hval:Value.okWide P w r b0 t v):v.cells = #[v]:=by
 cases v with
 | agg cs=>simp [Value.okWide,ht,Cell.okWide,Cell.ok] at hval
 | _=>rfl
theorem zgY (W:World) (hL:laidMetH Tryz.prog Rows.glueBackRow.laid W) (hB:W.ShapedOpen Tryz.prog) (val:Value) (v:V) (xs:List Tok) (hv:toV W.heap.size val=some v) (hd:Dat syo (fun _=>False) (stW W) Cd.tok xs v) (hb:∀t∈xs,zhs t):Calls Tryz.prog 4 #[val] W fun e w'=>e=.returned (.bool true)∧Below W.heap.size W w':=by
 obtain ⟨q1,q2,q3⟩:=zfI hv;refine jfZ (ov:=ovA (GL+W.heap.size)) (zim hB (gon hL)) mixed Zfi (args:=[v]) ⟨q2,trivial⟩ ?_ _ (by simp only [V.reals,q1])
 obtain ⟨v',st',⟨M,h1⟩,u,h2,_,h3⟩:=ziZ (ro:=GL+W.heap.size) (fun _=>False) [.l Cd.tok xs] (fun u=>u=.b true) ⟨hb,rfl⟩ (stW W) [v] (Nat.le_refl _) (jjj (gon hL)) (fun _ q=>q.elim) ⟨_,_,rfl,hd,rfl⟩
 subst h3;have e:v'=.b true:=h2;subst e;exact ⟨M,st',h1 M (Nat.le_refl _)⟩
end Go.Proofs.YtmnegokadegioaaGreatDoor
