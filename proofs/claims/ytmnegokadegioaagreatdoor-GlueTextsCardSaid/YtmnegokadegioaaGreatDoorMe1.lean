/-
 Great lists; the same tokens; the laws GlueTexts and GlueBack, of the model. Nothing is claimed here.
-/
import Derived.Test.YtmnegokadegioaaGreatDoorHh1
import Derived.Test.YtmnegokadegioaaGreatDoorIa3
import Derived.Test.YtmnegokadegioaaGreatDoorTn
import Derived.Test.YtmnegokadegioaaGreatDoorVa4
set_option linter.unusedVariables false
set_option linter.unusedSimpArgs false
namespace Go.Proofs.YtmnegokadegioaaGreatDoor
open Go.Vm Go.Sx Go.RowKit
def Zfe:Int→List Tok→Bool
 | _,[]=>false
 | n,t::w=>if 1000<n+((t.text.length:Int)+(t.unit.length:Int)) then true else Zfe (n+((t.text.length:Int)+(t.unit.length:Int))) w
def ZhI (l:List Tok):Bool:=if 100<l.length∧l.length≤1500 then true else if 1510<l.length then true else Zfe 0 l
def ziH (t:Tok):Prop:=t.text.length≤1000000000000000∧t.unit.length≤1000000000000000
theorem jeJ (l:List Tok) (hl:∀t∈l,ziH t) (hs:l.length≤1510) (Ke:Unit→Prop) (Kr:Bool→Prop):∀(w:List Tok) (i:Nat) (n:Int),l.drop i=w→i≤l.length→0≤n→n≤1000→(Zfe n w=false→Ke ())→(Zfe n w=true→Kr true)→∃m,Z2 m l n (i:Int) Ke Kr
 | [],i,n,hw,hi,h0,h3,h1,h2=>⟨1,by
  have hle:l.length≤i:=List.drop_eq_nil_iff.1 hw;simp only [Z2];exact ⟨fun q=>by have:=of_decide_eq_true q;omega,fun _=>h1 rfl⟩⟩
 | t::w,i,n,hw,hi,h0,h3,h1,h2=>by
  obtain ⟨g1,g2⟩:=zaj hw;have e0:=gD hw;have hok:ziH t:=hl t (by have:=List.mem_of_mem_drop (hw▸List.mem_cons_self .. : t∈l.drop i);exact this)
  obtain ⟨k1,k2⟩:=hok;have n0:((i:Int)).toNat=i:=rfl;rw [Zfe] at h1 h2;by_cases q:1000<n+((t.text.length:Int)+(t.unit.length:Int))
  ·rw [if_pos q] at h2;refine ⟨1,?_⟩;simp only [Z2,n0,e0];exact ⟨fun _=>⟨⟨by omega,by omega⟩,⟨by omega,by omega⟩,by unfold I64;omega,by unfold I64;omega,fun _=>h2 rfl,fun z=>absurd q (of_decide_eq_false z)⟩,fun z=>by have:=of_decide_eq_false z;omega⟩
  ·rw [if_neg q] at h1 h2;obtain ⟨m,hm⟩:=jeJ l hl hs Ke Kr w (i+1) _ g1 (by omega) (by omega) (by omega) h1 h2
   refine ⟨m+1,?_⟩;simp only [Z2,n0,e0];exact ⟨fun _=>⟨⟨by omega,by omega⟩,⟨by omega,by omega⟩,by unfold I64;omega,by unfold I64;omega,fun z=>absurd (of_decide_eq_true z) q,fun _=>⟨by unfold I64;omega,by rw [show (i:Int)+1=((i+1:Nat):Int) from by omega];exact hm⟩⟩,fun z=>by have:=of_decide_eq_false z;omega⟩
def ZdY:zK:=fun l K=>(∀t∈l,ziH t)∧K (ZhI l)
theorem Jic (l K) (h:ZdY l K):Zc4 l K:=by
 obtain ⟨hl,h⟩:=h;unfold ZhI at h;refine ⟨fun q=>⟨fun q2=>⟨fun q3=>?_,fun q3=>?_⟩,fun q2=>?_⟩,fun q=>⟨fun q3=>?_,fun q3=>?_⟩⟩
 ·have q:=of_decide_eq_true q;have q2:=of_decide_eq_false q2;have q3:=of_decide_eq_true q3
  rwa [if_neg (by omega),if_pos (by omega)] at h
 ·have q:=of_decide_eq_true q;have q2:=of_decide_eq_false q2;have q3:=of_decide_eq_false q3;rw [if_neg (by omega),if_neg (by omega)] at h
  refine jeJ l hl (by omega) _ _ l 0 0 rfl (Nat.zero_le _) (by omega) (by omega) (fun z=>?_) (fun z=>?_) <;> rw [z] at h <;> exact h
 ·have q:=of_decide_eq_true q;have q2:=of_decide_eq_true q2
  rwa [if_pos (by omega)] at h
 ·have q:=of_decide_eq_false q;have q3:=of_decide_eq_true q3;omega
 ·have q:=of_decide_eq_false q;have q3:=of_decide_eq_false q3;rw [if_neg (by omega),if_neg (by omega)] at h
  refine jeJ l hl (by omega) _ _ l 0 0 rfl (Nat.zero_le _) (by omega) (by omega) (fun z=>?_) (fun z=>?_) <;> rw [z] at h <;> exact h
theorem Zg0 (a b:List Tok) (ha:a.length≤10000) (hab:a.length=b.length) (Ke:Unit→Prop) (Kr:Bool→Prop):∀(x y:List Tok) (i:Nat),a.drop i=x→b.drop i=y→i≤a.length→(Ja6 x y=true→Ke ())→(Ja6 x y=false→Kr false)→∃m,Zas m a b (i:Int) Ke Kr
 | [],y,i,hx,hy,hi,h1,h2=>⟨1,by
  have hle:a.length≤i:=List.drop_eq_nil_iff.1 hx;have:y=[]:=by rw [←hy];exact List.drop_eq_nil_of_le (by omega)
  subst this;simp only [Zas];exact ⟨fun q=>by have:=of_decide_eq_true q;omega,fun _=>h1 rfl⟩⟩
 | t::x,[],i,hx,hy,hi,h1,h2=>by
  have:=(zaj hx).2;have hle:b.length≤i:=List.drop_eq_nil_iff.1 hy;omega
 | t::x,u::y,i,hx,hy,hi,h1,h2=>by
  obtain ⟨g1,g2⟩:=zaj hx;obtain ⟨g3,g4⟩:=zaj hy;have e0:=gD hx;have e1:=gD hy;have n0:((i:Int)).toNat=i:=rfl;have es:(decide (t.kind=u.kind)&&((t.text==u.text)&&(decide (t.num=u.num)&&((t.unit==u.unit)&&((t.flag==u.flag)&&true)))))=jad t u:=by
   unfold jad;rw [Bool.eq_iff_iff];simp
  rw [Ja6] at h1 h2;cases hc:jad t u with
  | false=>
   rw [hc] at h2;refine ⟨1,?_⟩;simp only [Zas,n0,e0,e1,es,hc];exact ⟨fun _=>⟨⟨by omega,by omega⟩,⟨by omega,by omega⟩,fun _=>h2 rfl,fun z=>by simp at z⟩,fun z=>by have:=of_decide_eq_false z;omega⟩
  | true=>
   rw [hc,Bool.true_and] at h1 h2;obtain ⟨m,hm⟩:=Zg0 a b ha hab Ke Kr x y (i+1) g1 g3 (by omega) h1 h2
   refine ⟨m+1,?_⟩;simp only [Zas,n0,e0,e1,es,hc];exact ⟨fun _=>⟨⟨by omega,by omega⟩,⟨by omega,by omega⟩,fun z=>by simp at z,fun _=>⟨by unfold I64;omega,by rw [show (i:Int)+1=((i+1:Nat):Int) from by omega];exact hm⟩⟩,fun z=>by have:=of_decide_eq_false z;omega⟩
def JdY:jS:=fun a b K=>(a.length≤10000∧a=b)∧K true
theorem zid (a b K) (h:JdY a b K):zdQ a b K:=by
 obtain ⟨⟨ha,rfl⟩,h⟩:=h;refine ⟨fun q=>absurd rfl (of_decide_eq_true q),fun _=>Zg0 a a ha rfl _ _ a a 0 rfl rfl (Nat.zero_le _) (fun _=>h) (fun z=>?_)⟩
 rw [zeh] at z;cases z
def zdZ:JV:=fun K=>K true
def Jfe:z8:=fun l K=>(∀t∈l,Jff t)∧K (decide (Zff l≠0))
theorem jiC (l K) (h:Jfe l K):JeI jfW l K:=⟨h.1,h.2⟩
theorem jhw {s:List UInt8} {l:List Tok} (h:Ze7 s=some l) {K:List Tok→Int→Prop} (hK:K l 0):jbi s K:=by
 unfold Ze7 at h;by_cases q:4000<s.length
 ·rw [if_pos q] at h;cases h
 rw [if_neg q] at h;by_cases q2:1500<(Jgi (zA s)).length
 ·rw [if_pos q2] at h;cases h
 rw [if_neg q2] at h;have h:=Option.some.inj h;refine ⟨fun z=>absurd z q,fun _ _=>?_,fun _ z=>absurd z q2⟩
 have e:(Jgi (zA s)).map Zig=l:=h;rw [e];exact hK
theorem jid {l:List Tok} (h:Zff l=0):(Zgc l).2=0∨(Zgc l).2=28:=by
 have:∀(f:Nat) (b:List UInt8) (sts:List (Nat×Nat)) (i:Nat),(wrM l f b sts i).2=0∨(wrM l f b sts i).2=28:=by
  intro f
  induction f with
  | zero=>intro b sts i;exact .inl rfl
  | succ f ih=>
   intro b sts i;rw [wrM];split
   ·exact .inl rfl
   ·dsimp only
    repeat' split
    all_goals first|exact .inr rfl|exact ih _ _ _
 unfold Zgc;rw [if_neg (by rw [h];decide)]
 exact this _ _ _ _
theorem Jjf:∀w:List UInt8,w≠[]→1≤(JK w).2:=fun w h=>by
 cases w with
 | nil=>exact absurd rfl h
 | cons c w=>exact (ZfU (by simp)).1
theorem jeh (l:List Tok) (ok:∀t∈l,Jff t) (hs:l.length≤1500) (Ke:List Tok→Prop) (Kr:Bool→Prop) (hr:Kr true) (hK:Ke l):∀(w:List Tok) (i:Nat),l.drop i=w→i≤l.length→∃m,JX zdZ jbi JeB ZdY Jfe Jix JdY m l (i:Int) Ke Kr
 | [],i,hw,hi=>⟨1,by
  have hle:l.length≤i:=List.drop_eq_nil_iff.1 hw;simp only [JX];exact ⟨fun q=>by have:=of_decide_eq_true q;omega,fun _=>hK⟩⟩
 | t::w,i,hw,hi=>by
  obtain ⟨g1,g2⟩:=zaj hw;have e0:=gD hw;have n0:((i:Int)).toNat=i:=rfl;have hm:t∈l:=List.mem_of_mem_drop (hw▸List.mem_cons_self .. : t∈l.drop i);have bad:t.kind=6∨t.kind=8→Zff l=8:=by
   intro hk;have hc:zcm t=false:=by
    obtain ⟨k,tx,n,u,f⟩:=t;dsimp only at hk;rw [Ziy];rcases hk with rfl|rfl <;> simp
   have hL:∀l:List Tok,t∈l→Jcn l=false:=by
    intro l hm
    induction l with
    | nil=>cases hm
    | cons a x ih=>
     rw [Jcn];rcases List.mem_cons.1 hm with rfl|hm
     ·rw [hc];rfl
     ·rw [ih hm];simp
   unfold Zff;rw [if_neg (by omega),hL l hm,if_neg (by decide)]
  obtain ⟨m,hm⟩:=jeh l ok hs Ke Kr hr hK w (i+1) g1 (by omega)
  refine ⟨m+1,?_⟩;simp only [JX,n0,e0];have fin:(t.kind=6∨t.kind=8)→JeB l (fun y=>(decide (y=8)=true→zdZ fun y2=>Kr y2)∧(decide (y=8)=false→Kr false)):=fun hk=>⟨ok,fun _=>hr,fun z=>absurd (bad hk) (of_decide_eq_false z)⟩
  exact ⟨fun _=>⟨⟨by omega,by omega⟩,fun _=>⟨⟨by omega,by omega⟩,fun q=>fin (.inr (of_decide_eq_true q)),fun _=>⟨by unfold I64;omega,by rw [show (i:Int)+1=((i+1:Nat):Int) from by omega];exact hm⟩⟩,fun q=>fin (.inl (of_decide_eq_true q))⟩,fun z=>by have:=of_decide_eq_false z;omega⟩
theorem Jg0 (s K) (h:K true):ZbM zdZ jbi JeB ZdY Jfe Jix JdY s K:=by
 refine ⟨fun _=>h,fun q=>⟨fun z=>?_,fun z1 z2=>?_,fun z1 z2=>?_⟩⟩
 ·exact ⟨fun _=>h,fun z=>absurd z (by decide)⟩
 ·have q:=of_decide_eq_false q;refine ⟨fun z=>absurd z (by decide),fun _=>?_⟩
  generalize hl:(Jgi (zA s)).map Zig=l;have hlen:l.length≤1500:=by rw [←hl,List.length_map];exact z2
  have hc:=Jce s;have sh:∀t∈l,Jfb 100000 t:=fun t ht=>by
   have:=zgT (zA s) t (by rw [hl];exact ht)
   exact ⟨by have:=this.1;omega,by have:=this.2;omega⟩
  have ok:∀t∈l,Jff t:=fun t ht=>⟨by have:=(sh t ht).1;omega,by have:=(sh t ht).2;omega⟩
  have ok2:∀t∈l,ok2 t:=fun t ht=>⟨by have:=(sh t ht).1;omega,by have:=(sh t ht).2;omega⟩
  have big:∀t∈l,ziH t:=fun t ht=>⟨by have:=(sh t ht).1;omega,by have:=(sh t ht).2;omega⟩
  refine jeh l ok hlen _ _ h ?_ l 0 rfl (Nat.zero_le _);refine ⟨big,fun _=>⟨ok,fun _=>h,fun q2=>⟨ok2,fun q3=>⟨fun _=>h,fun z=>?_⟩,fun q3=>?_⟩⟩,fun _=>h⟩
  ·have q2:Zff l=0:=by simpa using q2
   have q3:(Zgc l).2≠0:=by simpa using q3
   have z:¬(Zgc l).2=28:=by simpa using z
   rcases jid q2 with e|e
   ·exact absurd e q3
   ·exact absurd e z
  ·have q3:(Zgc l).2=0:=by simpa using q3
   have hw:Zgc l=((Zgc l).1,0):=by rw [←q3]
   have hb:=(zg0 Jjf hw).1;refine jhw hb ⟨ok2,fun _=>⟨⟨by omega,rfl⟩,fun _=>⟨fun _=>⟨fun _=>h,fun z=>?_⟩,fun z=>?_⟩,fun z=>by cases z⟩,fun z=>by have:=of_decide_eq_false z;exact absurd rfl this⟩
   ·rw [beq_self_eq_true] at z;cases z
   ·exact absurd q3 (of_decide_eq_false z)
 ·exact ⟨fun _=>h,fun z=>absurd z (by decide)⟩
end Go.Proofs.YtmnegokadegioaaGreatDoor
set_option linter.unusedVariables false
namespace Go.Proofs.YtmnegokadegioaaGreatDoor
open Go.Vm Go.Sx Go.RowKit
variable {ro:Nat}
theorem JiW (t K) (h:zhE t K):Z7 Jcx t K:=jjd Jcx (fun a b K h=>h) t K h
theorem ziX:FO ro 119 (zbu jgQ):=by
 intro o0 us k h st vs hn hg ho hr;unfold zbu at h;split at h
 ·rename_i a0 a1;obtain ⟨hl,hk⟩:=h;obtain ⟨v0,r0,rfl,hv0,hr0⟩:=hr;obtain ⟨v1,r1,rfl,hv1,hr1⟩:=hr0;have hr1:r1=[]:=hr1;have hv0:v0=V.str a0:=hv0;have hv1:v1=V.str a1:=hv1;subst hr1 hv0 hv1;refine ⟨.i .i64 (Lib.index a0 a1),st,⟨1,fun n hn=>?_⟩,.i .i64 (Lib.index a0 a1),rfl,⟨Nat.le_refl _,fun _ _=>rfl,fun _ _ q=>q⟩,hk⟩
  cases n with
  | zero=>omega
  | succ n=>
   have e:ovD ro 119 [V.str a0,V.str a1] st=some (.i .i64 (Lib.index a0 a1),st):=by
    have hb:Nat.blt a0.length 4294967281=true:=by rw [Nat.blt_eq];omega
    have h0:ovI 119 [V.str a0,V.str a1]=some (V.i .i64 (Lib.index a0 a1)):=by
     show cond (Nat.blt a0.length 4294967281) (some (V.i .i64 (Lib.index (Jf a0.length (zX a0)) (Jf a1.length (zX a1))))) none=_;rw [hb,JM,JM];rfl
    show JcO ovI 119 [V.str a0,V.str a1] st=_;unfold JcO;rw [h0]
   unfold evF JR;rw [e]
 ·exact h.elim
theorem zjg:FP ro 60 (jaA jiO):=by
 intro o0 us k h st vs hn hg ho hr;unfold jaA at h;split at h
 ·rename_i a0 a1;obtain ⟨⟨hl,hl2⟩,hk⟩:=h;obtain ⟨v0,r0,rfl,hv0,hr0⟩:=hr;obtain ⟨v1,r1,rfl,hv1,hr1⟩:=hr0;have hr1:r1=[]:=hr1;have hv0:v0=V.str a0:=hv0;have hv1:v1=.i .u8 a1:=hv1;subst hr1 hv0 hv1;obtain ⟨c,rfl⟩:∃c:Nat,a1=.ofNat c:=⟨a1.toNat,by show a1=(a1.toNat:Int);omega⟩
  have hc:c<256:=by have:((c:Nat):Int)<256:=hl2;omega
  refine ⟨.i .i64 (Lib.indexByte a0 (UInt8.ofNat c)),st,⟨1,fun n hn=>?_⟩,.i .i64 (Lib.indexByte a0 (UInt8.ofNat c)),rfl,⟨Nat.le_refl _,fun _ _=>rfl,fun _ _ q=>q⟩,hk⟩
  cases n with
  | zero=>omega
  | succ n=>
   have e:ovD ro 60 [V.str a0,.i .u8 (.ofNat c)] st=some (.i .i64 (Lib.indexByte a0 (UInt8.ofNat c)),st):=by
    have hb:Nat.blt c 256=true:=by rw [Nat.blt_eq];exact hc
    have hx:ixN a0.length (zX a0) c 0=Lib.indexByte a0 (UInt8.ofNat c):=by
     have h2:=(zfQ c hc a0.length (zX a0) 0).2;rw [JM] at h2;rw [h2];split
     ·rename_i z;exact z.symm
     ·show _+((0:Nat):Int)=_;omega
    have h0:ovI 60 [V.str a0,.i .u8 (.ofNat c)]=some (V.i .i64 (Lib.indexByte a0 (UInt8.ofNat c))):=by
     show cond (Nat.blt c 256) (some (V.i .i64 (ixN a0.length (zX a0) c 0))) none=_;rw [hb,hx];rfl
    show JcO ovI 60 [V.str a0,.i .u8 (.ofNat c)] st=_;unfold JcO;rw [h0]
   unfold evF JR;rw [e]
 ·exact h.elim
theorem jjg:FP ro 17 (Zbc zdZ):=by
 intro o0 us k h st vs hn hg ho hr;unfold Zbc at h;split at h
 ·have e:vs=[]:=hr;subst e;exact ⟨.b true,st,⟨1,fun n hn=>by
   cases n with
   | zero=>omega
   | succ n=>rfl⟩,.b true,rfl,⟨Nat.le_refl _,fun _ _=>rfl,fun _ _ q=>q⟩,h⟩
 ·exact h.elim
theorem Zjg:FnOK syc Tryz.prog GT (ovD ro) ro 86 (Jab zcL):=zdP zfz jho
theorem Jjg:FP ro 66 (Zav JfV):=FnOK.swap (Y:=syc) (Y':=syo) (fun _=>rfl) (fun _=>rfl) (jdP (Zfz zcL Zjg) ziy)
theorem zjh:FP ro 56 (ZS ZbO):=by
 intro o0 us k h st vs hn hg ho hr;unfold ZS at h;split at h
 ·rename_i a0;obtain ⟨⟨h0,h1⟩,hk⟩:=h;obtain ⟨v0,r0,rfl,hv0,hr0⟩:=hr;have hr0:r0=[]:=hr0;have hv0:v0=.i .u8 a0:=hv0;subst hr0 hv0;obtain ⟨c,rfl⟩:∃c:Nat,a0=.ofNat c:=⟨a0.toNat,by show a0=(a0.toNat:Int);omega⟩
  have hc:c<256:=by have:((c:Nat):Int)≤255:=h1;omega
  refine ⟨.b (Jgy c),st,⟨1,fun n hn=>?_⟩,.b (Jgy c),rfl,⟨Nat.le_refl _,fun _ _=>rfl,fun _ _ q=>q⟩,hk⟩
  cases n with
  | zero=>omega
  | succ n=>
   have e:ovD ro 56 [.i .u8 (.ofNat c)] st=some (.b (Jgy c),st):=by
    have hb:Nat.blt c 256=true:=by rw [Nat.blt_eq];exact hc
    have h0:ovL 56 [.i .u8 (.ofNat c)]=some (V.b (Jgy c)):=by
     show cond (Nat.blt c 256) (some (V.b (Jgy c))) none=_;rw [hb];rfl
    show (match JcO ovL 56 [.i .u8 (.ofNat c)] st with|some r=>some r|none=>_)=_
    unfold JcO;rw [h0]
   unfold evF JR;rw [e]
 ·exact h.elim
theorem jjh:FO ro 91 (jl jig):=Jbc (zbP) Zje
theorem Zjh:FO ro 67 (jah zdU):=zd2 (zf8 jig jjh) jh2
theorem jiX:FO ro 118 (za2 zgQ):=Jes (jgE) ziR
theorem ZiX:FO ro 92 (JY zgj):=Zet (ZgE zgQ jiX) jje
theorem Jjh:FO ro 93 (J9 ZgQ):=ZdI (Zfu jgQ ziX) jiR
theorem zji:FO ro 68 (jp JgQ):=jbP (zcG zgj ZgQ ZiX Jjh) ZiR
theorem Jig:FO ro 78 (ji ZaH):=zdg (ZeW) Ziq
theorem zdn:FO ro 120 (Jd Jm):=JdB (zfn) zhj
theorem JiX:FO ro 94 (jao Jhj):=zeX (Zhc Jm ZaH zdn Jig) zje
theorem ziY:FO ro 79 (JD Zd8):=jdg (JeW) JiN
theorem Zid:ShOK sy Tryz.prog GT (ovD ro) ro Tryz.f136.ntmps (za Tryz.f136) sl_uA_q ZbZ (Jda ZeC):=(ZhU).weak (fun _ _ h=>JhZ _ _ _ _ _ _ _ _ h)
theorem jg2:FO ro 81 (Zf ZaD):=Zde (ZeS) ziN
theorem ZiC:FO ro 137 (zv ze9):=JcV (jeu ZaD jg2) jiP
theorem zg1:ShOK sy Tryz.prog GT (ovD ro) ro Tryz.f121.ntmps (za Tryz.f121) sl_aE_q zaS (Jbt jb6):=(zhV ZeC ze9 Jm ZaH Zid ZiC zdn Jig).weak (fun _ _ h=>zh0 _ _ _ _ _ _ _ _ _ h)
theorem jji:FO ro 95 (JbE Zhk):=Ze0 (Zhf jb6 zg1) ZiP
theorem Jid:FO ro 116 (Jx jd8):=ZcU (Zeq) jiN
theorem jiY:FO ro 80 (Jq zaB):=zcs (jdD jd8 Jid) Zhj
theorem ZiY:FO ro 89 (Jp Zdl):=JcU (zer zaB ZaD jiY jg2) ZiN
theorem Zhw:FO ro 122 (jX ZcJ):=zeW (Jhb Jm zdn) ziO
theorem zi9:FO ro 96 (jaJ jcx):=jeW (zhc Jm Zdl ZcJ zdn ZiY Zhw) JhY
theorem ji9:FO ro 97 (zz JaT):=jcs (ZdD Jm zaB ZcJ zdn jiY Zhw) ZhY
theorem zie:ShOK sy Tryz.prog GT (ovD ro) ro Tryz.f136.ntmps (za Tryz.f136) sl_uA_e JbY (Zda jeC):=(JhT).weak (fun _ _ h=>zhZ _ _ _ h)
theorem jg1:ShOK sy Tryz.prog GT (ovD ro) ro Tryz.f121.ntmps (za Tryz.f121) sl_aE_e JaR (zbt Jb5):=(jhU jeC ze9 Jm ZaH zie ZiC zdn Jig).weak (fun _ _ h=>jhZ _ _ _ _ h)
theorem JiY:FO ro 98 (zy zco):=ZcW (jev jcx Jb5 zi9 jg1) jiu
theorem jie:FO ro 123 (ZI JaA):=zdC (jfn) jhj
theorem JiC:FO ro 124 (jaY jdS):=jeT (zha Jm ZaD zdn jg2) Jiq
theorem Zji:FO ro 99 (JbA Ze8):=ZeT (jha Jm JaA ZaD jdS zdn jie jg2 JiC) zir
theorem ziZ:FO ro 140 (Zw zc5):=zbB (jcr) jhY
theorem jiZ:FO ro 141 (ZG Je8):=Zch (Jde Jm JaA ZaD zdn jie jg2) jir
theorem ZiZ:FO ro 142 (jbB jc5):=JeT (Jha) Jh0
theorem JiZ:FO ro 164 (Ja1 JeC):=Jep (ZgB) zh1
theorem zi0:FO ro 158 (JG JfT):=zcD (Jd0 JeC JiZ) Jiv
theorem ji0:FO ro 143 (ZbC zgP):=jeU (jhb JfT zi0) ZiQ
theorem Zi0:FO ro 125 (JbC Jhl):=JeV (Zhb jdS Jm zc5 Je8 jc5 zgP JaA ZaD JiC zdn ziZ jiZ ZiZ ji0 jie jg2) JiQ
theorem Ji0:FO ro 100 (jN Zb6):=jct (zdJ Jhl JaT zco Jm Zi0 ji9 JiY zdn) zgR
theorem zi1:FO ro 103 (jH jgO):=jcE (Zd3) jiQ
theorem Zi9:FO ro 70 (Zah Jcx):=Jd3 (jf9 jgO zi1) jh0
theorem ji1:FO ro 144 (zH Zce):=zcE (jd3) Jhk
theorem Zi1:FO ro 145 (za8 zgO):=ZeY (zhe ZcJ Jb5 Zhw jg1) JiP
theorem Ji1:FO ro 126 (Jad zhl):=Zdg (je0 Jhj ZaH ZcJ jb6 Zce zgO JiX Jig Zhw zg1 ji1 Zi1) ziQ
theorem zi2:FO ro 101 (jT zbL):=ZcF (Jd4 zco Jm Jcx Jhj Zd8 zhl JiY zdn Zi9 JiX ziY Ji1) Zh0
theorem ji2:FO ro 102 (Zau zcK):=JdI (Jfu) jiw
theorem Jji:FO ro 69 (ZK JdT):=jcY (Zew ZaH Jhj Zd8 Zhk jcx JaT zco Ze8 Zb6 zgj zbL zcK Jig JiX ziY jji zi9 ji9 JiY Zji Ji0 ZiX zi2 ji2) zh2
theorem Ji9:FO ro 18 (ZZ jbi):=Zd5 (jga zdU JgQ JdT Zjh zji Jji) Jhn
theorem zjj:FP ro 45 (Zae jed):=Jdh (ze2) jiq
theorem jiH:FP ro 28 (jj JcJ):=Jcu (JdJ jiO zjg) ZiO
theorem jjj:FP ro 27 (ZT zdS):=ZcG (Jd5) JhX
theorem Zi2:FP ro 76 (zr jeD):=jcv (ZdK ZaD (gr jg2)) ziS
theorem zja:FP ro 77 (Zm Zfa):=jbu (Zci zgj jeD (gr ZiX) Zi2) jiS
theorem Ji2:FP ro 46 (Jn Jd8):=Jci (Zdi jeD Zfa Zi2 zja) ZiS
theorem Zjj:FP ro 47 (ZN Jgc):=Zcv (JdK ZaH Zd8 zaB ZaD JcJ (gr Jig) (gr ziY) (gr jiY) (gr jg2) jiH) JiO
theorem jja:FP ro 53 (jz jfD):=Jcv (zdL) ziM
theorem Jjj:FP ro 48 (ZH Jc4):=zcj (Jdj jfD jja) zhY
theorem zjk:FP ro 23 (zo ZgM):=Zbu (jcj jed JcJ zdS Jd8 Jgc Jc4 zjj jiH jjj Ji2 Zjj Jjj) ziP
theorem zi3:FP ro 38 (Jg zgM):=ZbG (zcw) zjd
theorem jjk:FP ro 65 (ZaK zig):=zd6 (Zga) Zjd
theorem Zja:FP ro 39 (zj zhE):=jbn (Jb1 Jcx (gr Zi9)) JiW
theorem Zjk:FP ro 32 (jk jgM):=Ja9 (JbG zgM zig zhE zi3 jjk Zja) jiM
theorem Jja:FP ro 14 (jv JeB):=JcZ (Zex ZgM jgM zjk Zjk) ZiM
theorem t_7:FP ro 7 (jac ZdY):=JdR (zfD) Jic
theorem Jjk:FP ro 30 (jaw Jaw):=ZdQ (zfB) Jho
theorem zjl:FP ro 63 (zaw zfW):=JdP (zfA) jiy
theorem jjl:FP ro 55 (JaN jaU):=Zd7 (jgb zfW zjl) zh7
theorem Zjl:FP ro 25 (Jas jag):=Jd7 (Zgb Jaw jaU ZbO Jjk jjl zjh) Zh7
theorem Jjl:FP ro 33 (zac jW):=ZdP (Jfz JfV Jjg) Zho
theorem zjm:FP ro 15 (Zaw jfW):=ZdR (ZfC jag jW Zjl Jjl) Jiy
theorem jjm:FP ro 19 (ZaO Jfe):=ZeI (jg0 jfW zjm) jiC
theorem Zjm:FP ro 20 (jy JgM):=zck (jdk zgM zhE zi3 Zja) JiM
theorem Zg1:ShOK syo Tryz.prog GT (ovD ro) ro Tryz.f82.ntmps (za Tryz.f82) sl_gE_w Jaj (JaP zaU):=(JhV ZaD jd8 (gr jg2) (gr Jid)).weak (fun _ _ h=>Zh2 _ _ _ _ _ _ _ _ _ _ _ _ _ _ _ _ _ h)
theorem JhI:ShOK syo Tryz.prog GT (ovD ro) ro Tryz.f61.ntmps (za Tryz.f61) sl_gB_w zbH (JcH Zc5):=(jhW Zdl zaU (gr ZiY) Zg1).weak (fun _ _ h=>Jh2 _ _ _ _ _ _ _ _ _ _ _ _ _ _ _ _ _ _ h)
theorem zhJ:ShOK syo Tryz.prog GT (ovD ro) ro Tryz.f29.ntmps (za Tryz.f29) sl_gN_w jbH (zcI Jc5):=(ZhW Jd8 Zc5 Ji2 JhI).weak (fun _ _ h=>zh3 _ _ _ _ _ _ _ _ _ _ _ _ _ _ _ _ _ h)
theorem ziD:ShOK syo Tryz.prog GT (ovD ro) ro Tryz.f82.ntmps (za Tryz.f82) sl_gE_h jb2 (zdb zc6):=(JhW ZaD jd8 (gr jg2) (gr Jid)).weak (fun _ _ h=>jh3 _ _ _ _ _ _ _ _ _ _ _ _ _ _ _ _ _ _ _ _ _ _ h)
theorem jhJ:ShOK syo Tryz.prog GT (ovD ro) ro Tryz.f61.ntmps (za Tryz.f61) sl_gB_h ZbH (ZcI jc6):=(jhX Zdl zc6 (gr ZiY) ziD).weak (fun _ _ h=>Zh3 _ _ _ _ _ _ _ _ _ _ _ _ _ _ _ _ _ _ _ _ _ _ _ h)
theorem jiD:ShOK syo Tryz.prog GT (ovD ro) ro Tryz.f29.ntmps (za Tryz.f29) sl_gN_h Jc1 (Zec JeE):=(ZhX Jd8 jc6 Ji2 jhJ).weak (fun _ _ h=>Jh3 _ _ _ _ _ _ _ _ _ _ _ _ _ _ _ _ _ _ _ _ _ _ h)
theorem ZiD:ShOK syo Tryz.prog GT (ovD ro) ro Tryz.f49.ntmps (za Tryz.f49) sl_glue_appendHash_w zJ (zM zeG):=(Zck jc6 JeE jhJ jiD).weak (fun _ _ h=>jh5 _ _ _ _ _ _ _ _ _ _ _ _ _ _ _ _ _ _ _ _ _ h)
theorem JiD:ShOK syo Tryz.prog GT (ovD ro) ro Tryz.f50.ntmps (za Tryz.f50) sl_glue_appendString_w zC (zF zeF):=(jbQ JcJ zaU jiH Zg1).weak (fun _ _ h=>zh4 _ _ _ _ _ _ _ _ _ _ _ _ _ _ _ _ _ h)
theorem ziE:ShOK syo Tryz.prog GT (ovD ro) ro Tryz.f51.ntmps (za Tryz.f51) sl_glue_appendURL_w jM (ZQ jeF):=(Jcw JcJ zaU jiH Zg1).weak (fun _ _ h=>jh4 _ _ _ _ _ _ _ _ _ _ _ _ _ _ _ _ _ h)
theorem jiE:ShOK syo Tryz.prog GT (ovD ro) ro Tryz.f52.ntmps (za Tryz.f52) sl_glue_appendNumber_w jC (jF ZeF):=(JbQ).weak (fun _ _ h=>Jh4 _ _ _ _ _ _ _ _ _ _ _ _ _ _ _ _ _ _ h)
theorem Jjm:FP ro 84 (Jl zho):=JaY (Jbn jeD Zfa Zi2 zja) JiS
theorem ZiE:ShOK syo Tryz.prog GT (ovD ro) ro Tryz.f54.ntmps (za Tryz.f54) sl_glue_appendUnit_w jJ (ZM JeF):=(jcl zho Zc5 Jc5 Jjm JhI zhJ).weak (fun _ _ h=>zh5 _ _ _ _ _ _ _ _ _ _ _ _ _ _ _ _ _ h)
theorem JiE:ShOK syo Tryz.prog GT (ovD ro) ro Tryz.f24.ntmps (za Tryz.f24) sl_glue_appendToken_w jt (Zv jdU):=(jb4 Jc5 zeG zeF jeF ZeF jfD JeF zhJ ZiD JiD ziE jiE jja ZiE).weak (fun _ _ h=>Zh5 _ _ _ _ _ _ _ _ _ _ _ _ _ _ _ _ h)
theorem ziF:ShOK syo Tryz.prog GT (ovD ro) ro Tryz.f40.ntmps (za Tryz.f40) sl_glue_appendPiece_w jq (Js Zix):=(Jb4 zgM jdU zi3 JiE).weak (fun _ _ h=>Jje _ _ _ _ _ _ _ h)
theorem zjn:FP ro 71 (JN JiG):=jcw (JdM) Jjd
theorem jjn:FP ro 41 (Jt zee):=jck (zdl jbi JiG (gr Ji9) zjn) Jiw
theorem t_8:FP ro 8 (jP Jix):=zc2 (zey JeB JgM Zix zee Jja Zjm ziF jjn) zjf
theorem Zjn:FP ro 16 (jas JdY):=jd7 (zgb) zid
theorem ji3:FP ro 5 (zax (fun _ K=>K true)):=
 JcN (jd9 zdZ jbi JeB ZdY Jfe Jix JdY jjg (gr Ji9) Jja t_7 jjm t_8 Zjn) (fun s K h=>Jg0 s K h)
theorem Jjn:GOK GT GL (st0 gs1):=by
 intro g k l h
 match g,h with
 | 0,h=>
  obtain ⟨rfl,rfl⟩:IntKind.u8=k∧marksL=l:=by
   have h2:=Option.some.inj h;exact ⟨congrArg Prod.fst h2,congrArg Prod.snd h2⟩
  have e:((st0 gs1).hp.get 0).map (fun b=>(List.range 126).map fun j=>b.get j)=some ((List.range 126).map fun j=>some (V.i .u8 (marksL.getD j 0))):=by kernel_rfl
  cases hh:(st0 gs1).hp.get 0 with
  | none=>rw [hh] at e;cases e
  | some b=>
  rw [hh] at e;have h2:=Option.some.inj e;refine ⟨by decide,b,rfl,fun j hj=>?_⟩
  have hj2:j<126:=hj;have h3:=congrArg (fun x=>x[j]?) h2
  simpa [hj2] using h3
 | _+1,h=>cases h
theorem jiF (a:Bt):∃m st',evF Tryz.prog (ovA GL) GL m 5 [V.str a] (st0 gs1)=some (.b true,st'):=by
 obtain ⟨v,st',⟨M,h1⟩,u,h2,_,h3⟩:=ji3 (ro:=GL) (fun _=>False) [.s a] (fun u=>u=.b true) rfl (st0 gs1) [V.str a] (Nat.le_refl _) Jjn (fun _ q=>q.elim) ⟨_,_,rfl,rfl,rfl⟩
 subst h3;have e:v=.b true:=h2;subst e;exact ⟨M,st',h1 M (Nat.le_refl _)⟩
end Go.Proofs.YtmnegokadegioaaGreatDoor
