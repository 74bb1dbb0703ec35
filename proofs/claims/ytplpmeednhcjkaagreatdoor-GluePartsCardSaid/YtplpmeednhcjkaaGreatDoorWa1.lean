/- Lemmas. -/
import Derived.Test.YtplpmeednhcjkaaGreatDoorTh
import Derived.Lib.Index
namespace Go.Proofs.YtplpmeednhcjkaaGreatDoor
open Go.Vm Go.Sx Go.RowKit
def mD (c:Int):Bool:=decide (48<=c)&&decide (c<=57)
def mL (c:Int):Bool:=(decide (97<=c)&&decide (c<=122))||(decide (65<=c)&&decide (c<=90))
def mSp (c:Int):Bool:=decide (c=10)||(decide (c=9)||decide (c=32))
def mQ (c:Int):Bool:=decide (c=34)||decide (c=39)
def mN0 (c:Int):Bool:=mL c||(decide (c=95)||decide (128<=c))
def mN (c:Int):Bool:=mN0 c||(mD c||decide (c=45))
def mSg (c:Int):Bool:=decide (c=43)||decide (c=45)
def mE (c:Int):Bool:=decide (c=101)||decide (c=69)
def hb:List UInt8->Int
 | []=>0
 | c::_=>(c.toNat:Int)
@[simp] theorem zh3:hb []=0:=rfl
@[simp] theorem jc (c:UInt8) (w:List UInt8):hb (c::w)=(c.toNat:Int):=rfl
def Jbt (w:List UInt8):Bool:=decide (hb w=92)&&decide (hb w.tail≠10)
def Js (w:List UInt8):Bool:=if hb w≠45 then mN0 (hb w)||Jbt w else mN0 (hb w.tail)||(decide (hb w.tail=45)||Jbt w.tail)
def Jx (w:List UInt8):Bool:=mN (hb w)||Jbt w
def JQ (w:List UInt8):Bool:=decide (hb w=46)&&mD (hb w.tail)
def Za7 (w:List UInt8):Bool:=if mSg (hb w) then mD (hb w.tail)||JQ w.tail else mD (hb w)||JQ w
def zdk (w:List UInt8):Bool:=if mSg (hb w) then mD (hb w.tail) else mD (hb w)
def nSp:List UInt8->Nat
 | []=>0
 | c::w=>if mSp (c.toNat:Int) then nSp w+1 else 0
def jcs (c:Int):Int×Bool:=if mD c then (c-48,true) else if 97<=c/\c<=102 then (c-87,true) else if 65<=c/\c<=70 then (c-55,true) else (0,false)
def Zw:Nat->List UInt8->Int->Int×Nat
 | 0,_,a=>(a,0)
 | k+1,w,a=>if (jcs (hb w)).2 then ((Zw k w.tail (a*16+(jcs (hb w)).1)).1,(Zw k w.tail (a*16+(jcs (hb w)).1)).2+1) else (a,0)
abbrev b8 (n:Int):UInt8:=UInt8.ofNat n.toNat
def jek (c:Int):List UInt8:=
 if c<=127 then [b8 c]
 else if c<=2047 then [b8 (192+c / 64),b8 (128+c%64)]
 else if 55296<=c/\c<=57343\/1114111<c then [b8 239,b8 191,b8 189]
 else if c<=65535 then [b8 (224+c / 4096),b8 (128+c / 64%64),b8 (128+c%64)]
 else [b8 (240+c / 262144),b8 (128+c / 4096%64),b8 (128+c / 64%64),b8 (128+c%64)]
def jfm (c:UInt8) (w:List UInt8):List UInt8×Nat:=
 if (jcs (c.toNat:Int)).2 then
  (jek (if (Zw 6 (c::w) 0).1=0 then 65533 else (Zw 6 (c::w) 0).1),(Zw 6 (c::w) 0).2+(if mSp (hb ((c::w).drop (Zw 6 (c::w) 0).2)) then 1 else 0))
 else ([c],1)
def ZT:List UInt8->List UInt8×Nat
 | []=>(jek 65533,0)
 | c::w=>jfm c w
def jj:List UInt8->List UInt8×Nat
 | []=>([],0)
 | c::w=>
  if Jx (c::w) then
   if (c.toNat:Int)=92 then
    ((ZT w).1++(jj (w.drop (ZT w).2)).1,1+(ZT w).2+(jj (w.drop (ZT w).2)).2)
   else (c::(jj w).1,1+(jj w).2)
  else ([],0)
termination_by w=>w.length
decreasing_by all_goals (simp only [Hb,da];omega)
def strM (q:Int):List UInt8->Bool×List UInt8×Nat
 | []=>(true,[],0)
 | c::w=>
  if (c.toNat:Int)=q then (true,[],1)
  else if (c.toNat:Int)=10 then (false,[],0)
  else if (c.toNat:Int)≠92 then ((strM q w).1,c::(strM q w).2.1,1+(strM q w).2.2)
  else match w with
   | []=>(true,[],1)
   | d::v=>if (d.toNat:Int)=10 then ((strM q v).1,(strM q v).2.1,2+(strM q v).2.2)
    else ((strM q ((d::v).drop (ZT (d::v)).2)).1,(ZT (d::v)).1++(strM q ((d::v).drop (ZT (d::v)).2)).2.1,1+(ZT (d::v)).2+(strM q ((d::v).drop (ZT (d::v)).2)).2.2)
termination_by w=>w.length
decreasing_by all_goals (simp only [Hb,da];omega)
def Zfm:List UInt8->Nat
 | []=>0
 | c::w=>
  if (c.toNat:Int)=41 then 1
  else if Jbt (c::w) then 1+(ZT w).2+Zfm (w.drop (ZT w).2)
  else 1+Zfm w
termination_by w=>w.length
decreasing_by all_goals (simp only [Hb,da];omega)
def jdk (c:Int):Bool:=decide (c=34)||decide (c=39)||decide (c=40)||decide (c=92)||decide (c=11)||decide (c=127)||decide (c<=8)||(decide (14<=c)&&decide (c<=31))
def Za2:List UInt8->List UInt8×Nat
 | []=>([],0)
 | c::w=>
  if (c.toNat:Int)=41 then ([],0)
  else if mSp (c.toNat:Int) then ([],nSp (c::w))
  else if Jbt (c::w) then ((ZT w).1++(Za2 (w.drop (ZT w).2)).1,1+(ZT w).2+(Za2 (w.drop (ZT w).2)).2)
  else if jdk (c.toNat:Int) then ([],0)
  else (c::(Za2 w).1,1+(Za2 w).2)
termination_by w=>w.length
decreasing_by all_goals (simp only [Hb,da];omega)
def tk (k:Int) (t:List UInt8:=[]) (n:Int:=0) (u:List UInt8:=[]) (f:Bool:=false):Tok:=⟨k,t,n,u,f⟩
def JU (w:List UInt8):Tok×Nat:=
 let a:=nSp w
 let u:=Za2 (w.drop a)
 let v:=w.drop (a+u.2)
 if v=[] then (tk 7 u.1,a+u.2) else if hb v=41 then (tk 7 u.1,a+u.2+1) else (tk 8,a+u.2+Zfm v)
def low (c:Int):Int:=if 65<=c/\c<=90 then c+32 else c
def z6:List UInt8->List UInt8->Bool
 | [],[]=>true
 | a::x,b::y=>decide (low (a.toNat:Int)=low (b.toNat:Int))&&z6 x y
 | _,_=>false
def zaf (w:List UInt8):Tok×Nat:=
 let r:=jj w
 let v:=w.drop r.2
 if hb v≠40 then (tk 1 r.1,r.2)
 else if z6 r.1 [117,114,108]&&!mQ (hb (v.tail.drop (nSp v.tail))) then ((JU v.tail).1,r.2+1+(JU v.tail).2)
 else (tk 2 r.1,r.2+1)
def jE (w:List UInt8):List UInt8:=w.takeWhile λc=>mD (c.toNat:Int)
def Jct (a:Int) (c:UInt8):Int:=min (10*a+((c.toNat:Int)-48)) 8000
def zcc (w:List UInt8):Int:=w.foldl Jct 0
def ZI (w:List UInt8):List UInt8:=w.dropWhile λc=>c==48
def Jbf:Nat->List UInt8->Int->Int
 | 0,_,a=>a
 | k+1,[],a=>Jbf k [] (a*10)
 | k+1,c::w,a=>Jbf k w (a*10+((c.toNat:Int)-48))
def ZeQ (w:List UInt8) (p:Int):Int:=
 let v:=ZI w
 let q:=p-((w.length:Int)-(v.length:Int))
 if v=[]\/q<=0 then 0 else if 13<q then 1000000000000 else min (Jbf q.toNat v 0) 1000000000000
def Za0 (w:List UInt8):Int×Nat:=
 if mE (hb w)&&zdk w.tail then
  let v:=if mSg (hb w.tail) then w.tail.tail else w.tail
  (if hb w.tail=45 then 0-zcc (jE v) else zcc (jE v),(if mSg (hb w.tail) then 2 else 1)+(jE v).length)
 else (0,0)
def ZaQ (w:List UInt8):Nat:=if mSg (hb w) then 1 else 0
def zaJ (w:List UInt8):List UInt8:=jE (w.drop (ZaQ w))
def zA (w:List UInt8):Nat:=ZaQ w+(zaJ w).length
def zbD (w:List UInt8):List UInt8:=if JQ (w.drop (zA w)) then jE (w.drop (zA w)).tail else []
def Zl (w:List UInt8):Nat:=zA w+(if JQ (w.drop (zA w)) then 1+(zbD w).length else 0)
def zae (w:List UInt8):Nat:=Zl w+(Za0 (w.drop (Zl w))).2
def zbn (w:List UInt8):Int×Bool×Nat:=
 let n:=ZeQ (zaJ w++zbD w) ((zaJ w).length+(Za0 (w.drop (Zl w))).1+3)
 (if hb w=45 then 0-n else n,!(JQ (w.drop (zA w)))&&decide ((Za0 (w.drop (Zl w))).2=0),zae w)
def Zn (w:List UInt8):Tok×Nat:=
 let r:=zbn w
 let v:=w.drop r.2.2
 if Js v then (tk 12 [] r.1 (jj v).1 r.2.1,r.2.2+(jj v).2)
 else if hb v=37 then (tk 11 [] r.1,r.2.2+1)
 else (tk 10 [] r.1 [] r.2.1,r.2.2)
def marksA:List Int:=[0,0,0,0,0,0,0,0,0,0,0,0,0,0,0,0,0,0,0,0,0,0,0,0,0,0,0,0,0,0,0,0,0,0,0,0,0,0,0,0,21,22,0,0,18,0,0,0,0,0,0,0,0,0,0,0,0,0,16,17,0,0,0,0,0,0,0,0,0,0,0,0,0,0,0,0,0,0,0,0,0,0,0,0,0,0,0,0,0,0,0,19,0,20,0,0,0,0,0,0,0,0,0,0,0,0,0,0,0,0,0,0,0,0,0,0,0,0,0,0,0,0,0,23,0,24]
def zbu (c:Int):Int:=if c<126 then marksA.getD c.toNat 0 else 0
def Jfm (w:List UInt8):Tok×Nat:=
 if Js w then zaf w
 else if zbu (hb w)≠0 then (tk (zbu (hb w)),1)
 else (tk 9 (w.take 1),1)
def JfR (w:List UInt8):Tok×Nat:=
 if hb w=64/\Js w.tail=true then (tk 3 (jj w.tail).1,1+(jj w.tail).2) else Jfm w
def Zek (w:List UInt8):Tok×Nat:=
 if Za7 w then Zn w
 else if [45,45,62].isPrefixOf w then (tk 15,3)
 else if [60,33,45,45].isPrefixOf w then (tk 14,4)
 else JfR w
def zy (w:List UInt8):Tok×Nat:=
 if mSp (hb w) then (tk 13,nSp w)
 else if mQ (hb w) then (if (strM (hb w) w.tail).1 then tk 5 (strM (hb w) w.tail).2.1 else tk 6,1+(strM (hb w) w.tail).2.2)
 else if hb w=35/\Jx w.tail=true then (tk 4 (jj w.tail).1 0 [] (Js w.tail),1+(jj w.tail).2)
 else Zek w
def zW:List UInt8->Option Nat
 | []=>none
 | c::w=>if c=42/\hb w=47 then some 0 else (zW w).map (· + 1)
def comM (w:List UInt8):Nat:=
 if [47,42].isPrefixOf w then
  match zW (w.drop 2) with
  | none=>w.length
  | some k=>if w=[] then 0 else 2+(k+2)+comM (w.drop (2+(k+2)))
 else 0
termination_by w.length
decreasing_by
 cases w with
 | nil=>contradiction
 | cons c w=>simp only [Hb,da];omega
def Jt:List UInt8->List UInt8
 | []=>[]
 | c::w=>
  if (c.toNat:Int)=0 then [239,191,189]++Jt w
  else if (c.toNat:Int)=12 then 10::Jt w
  else if (c.toNat:Int)=13 then (if hb w=10 then Jt w else 10::Jt w)
  else c::Jt w
def zhH:Nat->List UInt8->Nat->List (Tok×Nat×Nat)
 | 0,_,_=>[]
 | _+1,[],_=>[]
 | f+1,c::w,p=>((zy (c::w)).1,p,p+(zy (c::w)).2)::zhH f ((c::w).drop ((zy (c::w)).2+comM ((c::w).drop (zy (c::w)).2))) (p+(zy (c::w)).2+comM ((c::w).drop (zy (c::w)).2))
def Jd1 (c:List UInt8):List (Tok×Nat×Nat):=zhH c.length (c.drop (comM c)) (comM c)
abbrev okP (s:List UInt8) (i:Int):Prop:=0<=i/\i<=2000000/\s.length<=1000000
theorem Zai {n:Int} (h:-100000000<=n/\n<=100000000):I64 n:=by unfold I64;omega
theorem jg8 (s:List UInt8) (n:Nat):hb (s.drop n)=((s.getD n 0).toNat:Int):=by
 rw [List.getD_eq_getElem?_getD];by_cases h:n<s.length
 ·rw [List.drop_eq_getElem_cons h,jc,List.getElem?_eq_getElem h,dm]
 ·rw [Hi (by omega),zh3,List.getElem?_eq_none (by omega)]
  rfl
theorem za1 {s:List UInt8} {i:Int} (h:0<=i):s.drop (i+1).toNat=(s.drop i.toNat).tail:=by
 have:(i+1).toNat=i.toNat+1:=by omega
 rw [this,List.tail_drop]
theorem JbY {s:List UInt8} {i:Int} (h:0<=i) (n:Nat):s.drop (i+(n:Int)).toNat=(s.drop i.toNat).drop n:=by
 have:(i+(n:Int)).toNat=i.toNat+n:=by omega
 rw [this,xe]
theorem jhH (w:List UInt8):0<=hb w/\hb w<=255:=by
 cases w with
 | nil=>decide
 | cons c w=>have:=c.toNat_lt;rw [jc];omega
theorem jx {s w:List UInt8} {c:UInt8} {i:Int} (h0:0<=i) (h:s.drop i.toNat=c::w):i<(s.length:Int)/\s.getD i.toNat 0=c/\s.drop (i+1).toNat=w/\(w.length:Int)=s.length-i-1:=by
 have hl:i.toNat<s.length:=by
  by_cases q:i.toNat<s.length
  ·exact q
  ·rw [Hi (by omega)] at h;cases h
 have e:=List.drop_eq_getElem_cons hl;rw [h] at e;obtain ⟨e1,e2⟩:=List.cons.inj e;have e3:=Ya List.length e2;rw [Hb] at e3;refine ⟨by omega,?_,?_,by omega⟩
 ·rw [List.getD_eq_getElem?_getD,List.getElem?_eq_getElem hl,dm,e1]
 ·rw [za1 h0,h];rfl
theorem JR {s:List UInt8} {i:Int} (h:s.drop i.toNat=[]):s.length<=i.toNat:=by
 have:=Ya List.length h;rw [Hb,Hd] at this;omega
theorem Zh3 (c:UInt8):UInt8.ofNat ((c.toNat:Int).toNat)=c:=by
 rw [xj];exact UInt8.ofNat_toNat
theorem Zfn (c:UInt8):0<=(c.toNat:Int)/\(c.toNat:Int)<=255:=by have:=c.toNat_lt;omega
def zn:Ja:=λs i K=>0<=i/\K (hb (s.drop i.toNat))
theorem ZhH (s i K) (h:zn s i K):jci s i K:=by
 obtain ⟨h0,h⟩:=h;unfold jci;refine ⟨λq=>⟨⟨h0,Ha q⟩,?_⟩,λq=>?_⟩
 ·rwa [jg8] at h
 ·have q:=gb q
  rwa [Hi (by omega)] at h
def JaE:zc:=λc K=>K (mD c)
theorem jji (c K) (h:JaE c K):ZbG c K:=by
 unfold ZbG;unfold JaE mD at h;refine ⟨λq=>?_,λq=>?_⟩ <;> rw [q] at h <;> exact h
def zaC:Zx:=λc K=>K (mSg c)
theorem JhH (c K) (h:zaC c K):Zci c K:=by
 unfold Zci;unfold zaC mSg at h;refine ⟨λq=>?_,λq=>?_⟩ <;> rw [q] at h <;> exact h
def zdd:JB:=λc K=>K (mE c)
theorem zip (c K) (h:zdd c K):Jam c K:=by
 unfold Jam;unfold zdd mE at h;refine ⟨λq=>?_,λq=>?_⟩ <;> rw [q] at h <;> exact h
def zel:jr:=λc K=>K (mL c)
theorem Zji (c K) (h:zel c K):zbk c K:=by
 unfold zbk;unfold zel mL at h;refine ⟨λq=>⟨λq2=>⟨λq3=>?_,λq3=>?_⟩,λq2=>?_⟩,λq=>⟨λq3=>?_,λq3=>?_⟩⟩ <;> simpa only [*,Yg,yj,Yh,Yi,xk,yn,Bool.or_false,Qk] using h
def jaC:jm:=λc K=>K (mN0 c)
theorem zhI (c K) (h:jaC c K):jaX zel c K:=by
 unfold jaX zel;unfold jaC mN0 at h;refine ⟨λq=>⟨λq2=>?_,λq2=>?_⟩,λq=>?_⟩ <;> simpa only [*,Yh,Yi] using h
def Zdu:zg:=λc K=>K (mN c)
theorem Jji (c K) (h:Zdu c K):jbk jaC JaE c K:=by
 unfold jbk jaC JaE;unfold Zdu mN at h;refine ⟨λq=>⟨λq2=>?_,λq2=>?_⟩,λq=>?_⟩ <;> simpa only [*,Yh,Yi] using h
def ZaJ:Zb:=λc K=>K (mSp c)
theorem ZiT (c K) (h:ZaJ c K):zbJ c K:=by
 unfold zbJ;unfold ZaJ mSp at h;refine ⟨λq=>⟨λq2=>?_,λq2=>?_⟩,λq=>?_⟩ <;> simpa only [*,Yh,Yi] using h
def jel:Jw:=λc K=>K (mQ c)
theorem zjj (c K) (h:jel c K):jbJ c K:=by
 unfold jbJ;unfold jel mQ at h;refine ⟨λq=>?_,λq=>?_⟩ <;> simpa only [*,Yh,Yi] using h
def jd2:JaT:=λs i K=>okP s i/\K (JQ (s.drop i.toNat))
theorem JiT (s i K) (h:jd2 s i K):jeE zn JaE s i K:=by
 obtain ⟨⟨h0,h1,h2⟩,h⟩:=h;unfold JQ at h;unfold jeE zn JaE;rw [za1 h0];refine ⟨h0,λq=>⟨Zai (by omega),by omega,?_⟩,λq=>?_⟩ <;> simpa only [q,Yg,yj] using h
def zcR:zu:=λs i K=>okP s i/\K (Jbt (s.drop i.toNat))
theorem jjj (s i K) (h:zcR s i K):zeG zn s i K:=by
 obtain ⟨⟨h0,h1,h2⟩,h⟩:=h;unfold Jbt at h;unfold zeG zn;rw [za1 h0];refine ⟨h0,λq=>⟨Zai (by omega),by omega,?_⟩,λq=>?_⟩ <;> simpa only [q,Yg,yj] using h
def Jfn:jb2:=λs i K=>(okP s i/\i<2000000)/\K (Za7 (s.drop i.toNat))
theorem ziU (s i K) (h:Jfn s i K):ZeE zn zaC JaE jd2 s i K:=by
 obtain ⟨⟨⟨h0,h1,h2⟩,h3⟩,h⟩:=h;unfold Za7 at h;unfold ZeE zn JaE zaC jd2;rw [za1 h0];refine ⟨h0,λq=>⟨Zai (by omega),by omega,?_⟩,λq=>⟨h0,?_⟩⟩
 ·simp only [q,if_true] at h;refine ⟨λq2=>⟨⟨by omega,by omega,h2⟩,?_⟩,λq2=>?_⟩ <;> simpa only [q2,Yh,Yi] using h
 ·simp only [q,yd,if_false] at h;refine ⟨λq2=>⟨⟨by omega,by omega,h2⟩,?_⟩,λq2=>?_⟩ <;> simpa only [q2,Yh,Yi] using h
def zfo:jO:=λs i K=>okP s i/\K (zdk (s.drop i.toNat))
theorem jiU (s i K) (h:zfo s i K):jaL zn zaC JaE s i K:=by
 obtain ⟨⟨h0,h1,h2⟩,h⟩:=h;unfold zdk at h;unfold jaL zn JaE zaC;rw [za1 h0];refine ⟨h0,λq=>⟨Zai (by omega),by omega,?_⟩,λq=>⟨h0,?_⟩⟩ <;> simpa [q] using h
def JaV:Zu:=λs i K=>(okP s i/\i<2000000)/\K (Js (s.drop i.toNat))
theorem jip (s i K) (h:JaV s i K):ZaX zn jaC zcR s i K:=by
 obtain ⟨⟨⟨h0,h1,h2⟩,h3⟩,h⟩:=h;unfold Js at h;unfold ZaX zn jaC zcR;rw [za1 h0];refine ⟨h0,λq=>⟨h0,λq2=>⟨⟨h0,h1,h2⟩,?_⟩,λq2=>?_⟩,λq=>⟨Zai (by omega),by omega,λq2=>⟨λq3=>⟨Zai (by omega),⟨by omega,by omega,h2⟩,?_⟩,λq3=>?_⟩,λq2=>?_⟩⟩
 ·rw [ya (Ha q),q2] at h;exact h
 ·rw [ya (Ha q),q2] at h;exact h
 ·rw [ga (gb q),q2,q3] at h;exact h
 ·rw [ga (gb q),q2,q3] at h;exact h
 ·rw [ga (gb q),q2] at h;exact h
def jcE:j7:=λs i K=>okP s i/\K (Jx (s.drop i.toNat))
theorem Zip (s i K) (h:jcE s i K):ZeG zn Zdu zcR s i K:=by
 obtain ⟨⟨h0,h1,h2⟩,h⟩:=h;unfold Jx at h;unfold ZeG zn Zdu zcR;refine ⟨h0,λq=>⟨⟨h0,h1,h2⟩,?_⟩,λq=>?_⟩ <;> simpa only [q,Yh,Yi] using h
theorem ZiU (s:List UInt8) (hs:s.length<=1000000) (Ke:Int->Prop):∀(w:List UInt8) (i:Int),s.drop i.toNat=w->okP s i->Ke (i+(nSp w:Int))->∃m,Jcj zn ZaJ m s i Ke
 | [],i,hd,hi,h=>by
  refine ⟨1,hi.1,λq=>?_,λ_=>?_⟩
  ·rw [hd] at q;exact absurd q (by decide)
  ·simpa [nSp] using h
 | c::w,i,hd,hi,h=>by
  obtain ⟨hl,hc,hn,_⟩:=jx hi.1 hd;cases q:mSp (c.toNat:Int) with
  | false=>
   unfold nSp at h;rw [q] at h;refine ⟨1,hi.1,λq2=>?_,λ_=>?_⟩
   ·rw [hd,jc,q] at q2;cases q2
   ·simpa using h
  | true=>
   unfold nSp at h;rw [q] at h;obtain ⟨m,hm⟩:=ZiU s hs Ke w (i+1) hn ⟨by omega,by omega,hs⟩ (by
    have:i+1+(nSp w:Int)=i+((nSp w+1:Nat):Int):=by omega
    rw [this];simpa using h)
   refine ⟨m+1,hi.1,λ_=>⟨Zai (by omega),hm⟩,λq2=>?_⟩
   rw [hd,jc,q] at q2;cases q2
def jhI:ZO:=λs i K=>okP s i/\K (i+(nSp (s.drop i.toNat):Int))
theorem jjJ (s i K) (h:jhI s i K):jfF zn ZaJ s i K:=ZiU s h.1.2.2 _ _ _ rfl h.1 h.2
theorem fd6 (x:Int):x.fdiv (2^(min 6 IntKind.i32.bits))=x / 64:=Int.fdiv_eq_ediv_of_nonneg _ (by decide)
theorem jjB (x:Int):x.fdiv (2^(min 12 IntKind.i32.bits))=x / 4096:=Int.fdiv_eq_ediv_of_nonneg _ (by decide)
theorem ZjB (x:Int):x.fdiv (2^(min 18 IntKind.i32.bits))=x / 262144:=Int.fdiv_eq_ediv_of_nonneg _ (by decide)
theorem ZiV:∀y:Fin 256,IntKind.u8.wrap ((BitVec.ofInt IntKind.u8.bits (128:Int) |||BitVec.ofInt IntKind.u8.bits (IntKind.u8.wrap ((BitVec.ofInt IntKind.u8.bits ((y.val:Nat):Int) &&&BitVec.ofInt IntKind.u8.bits (63:Int)).toNat:Int))).toNat:Int)=128+(((y.val:Nat):Int))%64:=by decide +kernel
theorem JiV (y:Int):IntKind.u8.wrap ((BitVec.ofInt IntKind.u8.bits (128:Int) |||BitVec.ofInt IntKind.u8.bits (IntKind.u8.wrap ((BitVec.ofInt IntKind.u8.bits (IntKind.u8.wrap y) &&&BitVec.ofInt IntKind.u8.bits (63:Int)).toNat:Int))).toNat:Int)=128+y%64:=by
 have h:=ZiV ⟨(y%256).toNat,by omega⟩
 have e:(((y%256).toNat:Nat):Int)=IntKind.u8.wrap y:=by rw [IntKind.wrap_u8];omega
 rw [e] at h;rw [h,IntKind.wrap_u8];omega
theorem ziW:∀y:Fin 32,IntKind.u8.wrap ((BitVec.ofInt IntKind.u8.bits (192:Int) |||BitVec.ofInt IntKind.u8.bits (IntKind.u8.wrap ((y.val:Nat):Int))).toNat:Int)=192+((y.val:Nat):Int):=by decide +kernel
theorem jiW:∀y:Fin 16,IntKind.u8.wrap ((BitVec.ofInt IntKind.u8.bits (224:Int) |||BitVec.ofInt IntKind.u8.bits (IntKind.u8.wrap ((y.val:Nat):Int))).toNat:Int)=224+((y.val:Nat):Int):=by decide +kernel
theorem ZiW:∀y:Fin 8,IntKind.u8.wrap ((BitVec.ofInt IntKind.u8.bits (240:Int) |||BitVec.ofInt IntKind.u8.bits (IntKind.u8.wrap ((y.val:Nat):Int))).toNat:Int)=240+((y.val:Nat):Int):=by decide +kernel
theorem JiW {y:Int} (h0:0<=y) (h1:y<32):IntKind.u8.wrap ((BitVec.ofInt IntKind.u8.bits (192:Int) |||BitVec.ofInt IntKind.u8.bits (IntKind.u8.wrap y)).toNat:Int)=192+y:=by
 have h:=ziW ⟨y.toNat,by omega⟩
 rwa [show ((y.toNat:Nat):Int)=y by omega] at h
theorem ZhI {y:Int} (h0:0<=y) (h1:y<16):IntKind.u8.wrap ((BitVec.ofInt IntKind.u8.bits (224:Int) |||BitVec.ofInt IntKind.u8.bits (IntKind.u8.wrap y)).toNat:Int)=224+y:=by
 have h:=jiW ⟨y.toNat,by omega⟩
 rwa [show ((y.toNat:Nat):Int)=y by omega] at h
theorem ziX {y:Int} (h0:0<=y) (h1:y<8):IntKind.u8.wrap ((BitVec.ofInt IntKind.u8.bits (240:Int) |||BitVec.ofInt IntKind.u8.bits (IntKind.u8.wrap y)).toNat:Int)=240+y:=by
 have h:=ZiW ⟨y.toNat,by omega⟩
 rwa [show ((y.toNat:Nat):Int)=y by omega] at h
theorem JjB {x:Int} (h0:0<=x) (h1:x<=16777215):IntKind.u32.wrap x=x:=by rw [IntKind.wrap_u32];omega
theorem u8w {n:Int} (h0:0<=n) (h1:n<=255):IntKind.u8.wrap n=n:=by rw [IntKind.wrap_u8];omega
theorem Zga (c:Int):(jek c).length<=4:=by
 unfold jek;split
 ·simp
 ·split
  ·simp
  ·split
   ·simp
   ·split <;> simp
theorem zjC {c:Int} (h:c<=127):jek c=[b8 c]:=by unfold jek;rw [ya h]
theorem jjC {c:Int} (h:¬c<=127) (h2:c<=2047):jek c=[b8 (192+c / 64),b8 (128+c%64)]:=by unfold jek;rw [ga h,ya h2]
theorem ZjC {c:Int} (h:¬c<=127) (h2:¬c<=2047) (h3:55296<=c/\c<=57343\/1114111<c):jek c=[b8 239,b8 191,b8 189]:=by unfold jek;rw [ga h,ga h2,ya h3]
theorem JjC {c:Int} (h:¬c<=127) (h2:¬c<=2047) (h3:¬(55296<=c/\c<=57343\/1114111<c)) (h4:c<=65535):jek c=[b8 (224+c / 4096),b8 (128+c / 64%64),b8 (128+c%64)]:=by unfold jek;rw [ga h,ga h2,ga h3,ya h4]
theorem zjD {c:Int} (h:¬c<=127) (h2:¬c<=2047) (h3:¬(55296<=c/\c<=57343\/1114111<c)) (h4:¬c<=65535):jek c=[b8 (240+c / 262144),b8 (128+c / 4096%64),b8 (128+c / 64%64),b8 (128+c%64)]:=by unfold jek;rw [ga h,ga h2,ga h3,ga h4]
def jfo:Zh:=λc K=>(0<=c/\c<=255)/\K (jcs c).1 (jcs c).2
theorem Zjk (c K) (h:jfo c K):zbl JaE c K:=by
 obtain ⟨⟨h0,h1⟩,h⟩:=h;unfold zbl JaE;unfold jcs at h;have i32:∀n:Int,0<=n/\n<=1000->I32 n:=λn h=>by unfold I32;omega
 refine ⟨λq=>?_,λq=>?_⟩
 ·rw [ya q] at h;unfold mD at q;simp only [yb,xc] at q;rw [u8w (by omega) (by omega)]
  exact ⟨i32 _ (by omega),h⟩
 ·rw [ga (by rw [q];decide)] at h
  simp only [xc,Rh];have e97:∀n:Int,n-97+10=n-87:=λn=>by omega
  have e65:∀n:Int,n-65+10=n-55:=λn=>by omega
  refine ⟨λq1=>⟨λq2=>?_,λq2=>⟨λq3=>⟨λq4=>?_,λq4=>?_⟩,λq3=>?_⟩⟩,λq1=>⟨λq3=>⟨λq4=>?_,λq4=>?_⟩,λq3=>?_⟩⟩
  ·rw [ya ⟨q1,q2⟩] at h;rw [u8w (by omega) (by omega),e97]
   exact ⟨i32 _ (by omega),i32 _ (by omega),h⟩
  ·exfalso;omega
  ·rw [ga (by omega),ga (by omega)] at h;exact h
  ·exfalso;omega
  ·rw [ga (by omega),ya ⟨q3,q4⟩] at h
   rw [u8w (by omega) (by omega),e65]
   exact ⟨i32 _ (by omega),i32 _ (by omega),h⟩
  ·rw [ga (by omega),ga (by omega)] at h;exact h
  ·rw [ga (by omega),ga (by omega)] at h;exact h
theorem ZfS {c:Int} (h:(jcs c).2=true):0<=(jcs c).1/\(jcs c).1<=15:=by
 unfold jcs mD at h |-;simp only [yb,xc] at h |-;split
 ·simp only;omega
 ·split
  ·simp only;omega
  ·split
   ·simp only;omega
   ·rename_i h1 h2 h3;rw [ga h1,ga h2,ga h3] at h;cases h
theorem jjD {a d:Int} (h0:0<=a) (h1:a<1048576) (h2:0<=d) (h3:d<=15):IntKind.i32.wrap ((BitVec.ofInt IntKind.i32.bits (IntKind.i32.wrap (a*2^(min 4 IntKind.i32.bits))) |||BitVec.ofInt IntKind.i32.bits d).toNat:Int)=a*16+d:=by
 obtain ⟨x,rfl⟩:=Int.eq_ofNat_of_zero_le h0;obtain ⟨y,rfl⟩:=Int.eq_ofNat_of_zero_le h2;have e1:((x:Int)*2^(min 4 IntKind.i32.bits))=((x*16:Nat):Int):=by
  show (x:Int)*(2^4)=_;omega
 have e2:IntKind.i32.wrap ((x*16:Nat):Int)=((x*16:Nat):Int):=by rw [IntKind.wrap_i32];omega
 rw [e1,e2,BitVec.ofInt_natCast,BitVec.ofInt_natCast,BitVec.toNat_or,BitVec.toNat_ofNat,BitVec.toNat_ofNat];have e3:(x*16)%2^IntKind.i32.bits=x*16:=Hm (by show _<4294967296;omega)
 have e4:y%2^IntKind.i32.bits=y:=Hm (by show _<4294967296;omega)
 rw [e3,e4];have e5:x*16 |||y=x*16+y:=by
  have:=Nat.two_pow_add_eq_or_of_lt (i:=4) (b:=y) (by omega) x
  rw [yl x 16];exact this.symm
 rw [e5,IntKind.wrap_i32];omega
theorem JhI {k n:Nat} (h:k<=n):(16:Int)^k<=16^n:=by
 have:=Nat.pow_le_pow_right (n:=16) (by decide) h
 exact_mod_cast this
theorem Jcl:∀(r:Nat) (w:List UInt8) (a:Int),(Zw r w a).2<=w.length
 | 0,w,a=>dg _
 | r+1,w,a=>by
  unfold Zw;split
  ·rename_i q;cases w with
   | nil=>exact absurd q (by decide)
   | cons c w=>have:=Jcl r w (a*16+(jcs (hb (c::w))).1);simp only [Hc,da];omega
  ·exact dg _
theorem Zd2:∀(r:Nat) (w:List UInt8) (a:Int) (k:Nat),r+k<=6->0<=a->a<16^k->0<=(Zw r w a).1/\(Zw r w a).1<=16777215
 | 0,w,a,k,hk,h0,h1=>by
  have:(16:Int)^k<=16^6:=JhI (by omega)
  exact ⟨h0,by show a<=_;have:(16:Int)^6=16777216:=(by decide);omega⟩
 | r+1,w,a,k,hk,h0,h1=>by
  unfold Zw;split
  ·rename_i q;have hd:=ZfS q;have e:(16:Int)^(k+1)=16^k*16:=Ro _ _;exact Zd2 r w.tail _ (k+1) (by omega) (by omega) (by rw [e];omega)
  ·have:(16:Int)^k<=16^6:=JhI (by omega)
   exact ⟨h0,by show a<=_;have:(16:Int)^6=16777216:=(by decide);omega⟩
theorem Ja7 (w:List UInt8):(ZT w).2<=w.length:=by
 cases w with
 | nil=>exact Ra _
 | cons c w=>
  rw [ZT,jfm];split
  ·have h:=Jcl 6 (c::w) 0;simp only;split
   ·rename_i q;cases hd:(c::w).drop (Zw 6 (c::w) 0).2 with
    | nil=>rw [hd] at q;exact absurd q (by decide)
    | cons d v=>
     have:=Ya List.length hd;simp only [Hb,da] at this;simp only [da] at h |-;omega
   ·omega
  ·simp
theorem jdx (w:List UInt8):(ZT w).1.length<=4:=by
 cases w with
 | nil=>show (jek 65533).length<=4;exact Zga _
 | cons c w=>
  rw [ZT,jfm];split
  ·exact Zga _
  ·simp
def zeR:ja3:=λx b K=>(0<=x/\x<=16777215)/\b.length<=10000000/\K (b++jek x)
set_option maxRecDepth 100000 in
theorem Jip (x b K) (h:zeR x b K):zf8 x b K:=by
 obtain ⟨⟨h0,h1⟩,hb,h⟩:=h;have k1:x<=127->K (b++[b8 x]):=λq=>zjC q▸h
 have k2:¬x<=127->x<=2047->K (b++[b8 (192+x / 64),b8 (128+x%64)]):=λq q2=>jjC q q2▸h
 have kX:¬x<=127->¬x<=2047->(55296<=x/\x<=57343\/1114111<x)->K (b++[b8 239,b8 191,b8 189]):=λq q2 q3=>ZjC q q2 q3▸h
 have k3:¬x<=127->¬x<=2047->¬(55296<=x/\x<=57343\/1114111<x)->x<=65535->K (b++[b8 (224+x / 4096),b8 (128+x / 64%64),b8 (128+x%64)]):=λq q2 q3 q4=>JjC q q2 q3 q4▸h
 have k4:¬x<=127->¬x<=2047->¬(55296<=x/\x<=57343\/1114111<x)->¬x<=65535->K (b++[b8 (240+x / 262144),b8 (128+x / 4096%64),b8 (128+x / 64%64),b8 (128+x%64)]):=λq q2 q3 q4=>zjD q q2 q3 q4▸h
 clear h;unfold zf8;simp only [JjB h0 h1,JiV,fd6,jjB,ZjB,xc,Rh,da,Hd];refine ⟨λq=>?_,λq=>⟨λq2=>?_,λq2=>⟨λq3=>?_,λq3=>⟨λq4=>⟨λq5=>?_,λq5=>⟨λq6=>⟨λq7=>?_,λq7=>?_⟩,λq6=>?_⟩⟩,λq4=>⟨λq6=>⟨λq7=>?_,λq7=>?_⟩,λq6=>?_⟩⟩⟩⟩⟩
 ·rw [u8w h0 (by omega)]
  exact ⟨by omega,by omega,k1 q⟩
 ·rw [JiW (by omega) (by omega)]
  exact ⟨by decide,by omega,by omega,by omega,k2 q q2⟩
 ·rw [ZhI (by omega) (by omega)]
  exact ⟨by decide,by decide,by omega,by omega,by omega,by omega,k3 q q2 (by omega) (by omega)⟩
 ·rw [ZhI (by omega) (by omega)]
  exact ⟨by decide,by decide,by omega,by omega,by omega,by omega,k3 q q2 (by omega) (by omega)⟩
 ·rw [ziX (by omega) (by omega)]
  exact ⟨by decide,by decide,by decide,by omega,by omega,by omega,by omega,by omega,k4 q q2 (by omega) (by omega)⟩
 ·exact ⟨by decide,by decide,by decide,by omega,kX q q2 (by omega)⟩
 ·exfalso;omega
 ·exfalso;omega
 ·exact ⟨by decide,by decide,by decide,by omega,kX q q2 (by omega)⟩
 ·exact ⟨by decide,by decide,by decide,by omega,kX q q2 (by omega)⟩
set_option maxRecDepth 100000 in
theorem Jga (s:List UInt8) (hs:s.length<=1000000) (b:List UInt8) (A:ja3) (Ke:List UInt8->Int->Int->List UInt8->Prop):∀(r:Nat) (w:List UInt8) (i a x:Int) (k:Nat),x=k->r+k=6->s.drop i.toNat=w->0<=i->i+(r:Int)<=1000020->0<=a->a<16^k->Ke s (i+((Zw r w a).2:Int)) (Zw r w a).1 b->∃m,ZcL A jfo zn ZaJ m s i a x b Ke
 | 0,w,i,a,x,k,hx,hk,hd,h0,hi,ha0,ha1,h=>by
  refine ⟨1,λq=>?_,λ_=>?_⟩
  ·exfalso;have:=Ha q;omega
  ·simpa [Zw] using h
 | r+1,w,i,a,x,k,hx,hk,hd,h0,hi,ha0,ha1,h=>by
  unfold Zw at h;cases q:(jcs (hb w)).2 with
  | false=>
   rw [q] at h;refine ⟨1,λ_=>⟨h0,jhH _,λq2=>?_,λq2=>?_⟩,λq2=>?_⟩
   ·simpa using h
   ·rw [hd,q] at q2;exact absurd q2 (by decide)
   ·exfalso;have:=gb q2;omega
  | true=>
   rw [q] at h;simp only [if_true] at h;have hdg:=ZfS q;have e:(16:Int)^(k+1)=16^k*16:=Ro _ _;have e5:(16:Int)^k<=16^5:=JhI (by omega)
   have e6:(16:Int)^5=1048576:=by decide
   obtain ⟨m,hm⟩:=Jga s hs b A Ke r w.tail (i+1) (a*16+(jcs (hb w)).1) (x+1) (k+1) (by omega) (by omega) (by rw [za1 h0,hd]) (by omega) (by omega) (by omega) (by rw [e];omega) (by
    have:i+1+((Zw r w.tail (a*16+(jcs (hb w)).1)).2:Int)=i+(((Zw r w.tail (a*16+(jcs (hb w)).1)).2+1:Nat):Int):=by omega
    rw [this];exact h)
   refine ⟨m+1,λ_=>⟨h0,jhH _,λq2=>?_,λ_=>⟨by decide,Zai (by omega),Zai (by omega),?_⟩⟩,λq2=>?_⟩
   ·rw [hd,q] at q2;exact absurd q2 (by decide)
   ·rw [hd,jjD ha0 (by omega) hdg.1 hdg.2]
    exact hm
   ·exfalso;have:=gb q2;omega
def Zcc:z8:=λs i b K=>(0<=i/\i<s.length/\s.length<=1000000)/\b.length<=5000000/\K (i+1+((ZT (s.drop (i+1).toNat)).2:Int)) (b++(ZT (s.drop (i+1).toNat)).1)
theorem ziq (s i b K) (h:Zcc s i b K):Zg0 zeR jfo zn ZaJ s i b K:=by
 obtain ⟨⟨h0,h1,h2⟩,hb,h⟩:=h;refine ⟨Zai (by omega),λq=>?_,λq=>?_⟩
 ·have q:=Ha q;rw [Hi (by omega)] at h
  unfold ZT at h;refine ⟨by omega,by omega,?_⟩
  simpa using h
 ·have q:=gb q;cases hd:s.drop (i+1).toNat with
  | nil=>exfalso;have:=JR hd;omega
  | cons c w=>
  obtain ⟨_,hc,_,_⟩:=jx (by omega) hd
  rw [hd,ZT,jfm] at h;rw [hc];refine ⟨by omega,Zfn c,λq2=>?_,λq2=>?_⟩
  ·have q3:(jcs (c.toNat:Int)).2=false:=by simpa using q2
   rw [q3] at h;rw [Zh3];refine ⟨by omega,Zfn c,by simp only [da,Hd];omega,Zai (by omega),?_⟩
   simpa using h
  ·have q3:(jcs (c.toNat:Int)).2=true:=by simpa using q2
   rw [q3] at h;simp only [if_true] at h;have hl:=Jcl 6 (c::w) 0;have hin:=Zd2 6 (c::w) 0 0 (by omega) (by omega) (by decide)
   have hlw:=Ya List.length hd;rw [Hb] at hlw;refine Jga s h2 b _ _ 6 (c::w) (i+1) 0 0 0 rfl rfl hd (by omega) (by omega) (by omega) (by decide) ?_
   have e:s.drop (i+1+((Zw 6 (c::w) 0).2:Int)).toNat=(c::w).drop (Zw 6 (c::w) 0).2:=by rw [JbY (by omega),hd]
   refine ⟨by omega,λq4=>⟨Zai (by omega),λq5=>?_,λq5=>?_⟩,λq4=>⟨λq5=>?_,λq5=>?_⟩⟩
   ·rw [e] at q4;rw [q4,ya (Ha q5),ya rfl] at h;refine ⟨by omega,by omega,?_⟩
    have e2:i+1+((Zw 6 (c::w) 0).2:Int)+1=i+1+(((Zw 6 (c::w) 0).2+1:Nat):Int):=by omega
    rw [e2];exact h
   ·rw [e] at q4;rw [q4,ga (gb q5),ya rfl] at h;refine ⟨hin,by omega,?_⟩
    have e2:i+1+((Zw 6 (c::w) 0).2:Int)+1=i+1+(((Zw 6 (c::w) 0).2+1:Nat):Int):=by omega
    rw [e2];exact h
   ·rw [e] at q4;rw [q4,ya (Ha q5)] at h;exact ⟨by omega,by omega,by simpa using h⟩
   ·rw [e] at q4;rw [q4,ga (gb q5)] at h;exact ⟨hin,by omega,by simpa using h⟩
theorem jiq (s:List UInt8) (hs:s.length<=1000000) (Ke:Int->List UInt8->Prop):∀(n:Nat) (w:List UInt8) (i:Int) (b:List UInt8),w.length<=n->s.drop i.toNat=w->okP s i->b.length+4*w.length<=4500000->Ke (i+((jj w).2:Int)) (b++(jj w).1)->∃m,jaq jcE Zcc m s i b Ke:=by
 intro n
 induction n with
 | zero=>
  intro w i b hn hd hi hb h;cases w with
  | cons c w=>simp at hn
  | nil=>
   refine ⟨1,hi,λq=>?_,λ_=>?_⟩
   ·rw [hd] at q;exact absurd q (by decide)
   ·rw [jj] at h;simpa using h
 | succ n ih=>
  intro w i b hn hd hi hb h;cases w with
  | nil=>
   refine ⟨1,hi,λq=>?_,λ_=>?_⟩
   ·rw [hd] at q;exact absurd q (by decide)
   ·rw [jj] at h;simpa using h
  | cons c w=>
  obtain ⟨hl,hc,hnx,hlen⟩:=jx hi.1 hd;rw [da] at hn hb;rw [jj] at h;cases q:Jx (c::w) with
  | false=>
   rw [q] at h;refine ⟨1,hi,λq2=>?_,λ_=>?_⟩
   ·rw [hd,q] at q2;cases q2
   ·simpa using h
  | true=>
   rw [q,ya rfl] at h;by_cases q3:(c.toNat:Int)=92
   ·rw [ya q3] at h;have he:=Ja7 w;have het:=jdx w;have hlw:(w.drop (ZT w).2).length<=n:=by rw [Hb];omega
    obtain ⟨m,hm⟩:=ih (w.drop (ZT w).2) (i+1+((ZT w).2:Int)) (b++(ZT w).1) hlw (by rw [JbY (by omega),hnx]) ⟨by omega,by omega,hs⟩ (by rw [Rb,Hb];omega) (by
     have e:i+1+((ZT w).2:Int)+((jj (w.drop (ZT w).2)).2:Int)=i+((1+(ZT w).2+(jj (w.drop (ZT w).2)).2:Nat):Int):=by omega
     rw [e,Qb];exact h)
    refine ⟨m+1,hi,λ_=>⟨⟨hi.1,hl⟩,λ_=>⟨⟨hi.1,hl,hs⟩,by omega,?_⟩,λq4=>?_⟩,λq2=>?_⟩
    ·rw [hnx];exact hm
    ·exact absurd (by rw [hc];exact q3) (gb q4)
    ·rw [hd,q] at q2;cases q2
   ·rw [ga q3] at h;obtain ⟨m,hm⟩:=ih w (i+1) (b++[c]) (by omega) hnx ⟨by omega,by omega,hs⟩ (by rw [Rb];simp only [Yj];omega) (by
     have e:i+1+((jj w).2:Int)=i+((1+(jj w).2:Nat):Int):=by omega
     rw [e,Qb];exact h)
    refine ⟨m+1,hi,λ_=>⟨⟨hi.1,hl⟩,λq4=>?_,λ_=>⟨⟨hi.1,hl⟩,?_⟩⟩,λq2=>?_⟩
    ·exact absurd (by rw [<-hc];exact Ha q4) q3
    ·rw [hc,Zh3];exact ⟨Zfn c,by simp only [Yj];omega,Zai (by omega),hm⟩
    ·rw [hd,q] at q2;cases q2
def jcu:Zr:=λs i K=>okP s i/\K (jj (s.drop i.toNat)).1 (i+((jj (s.drop i.toNat)).2:Int))
theorem jiX (s i K) (h:jcu s i K):Zb5 jcE Zcc s i K:=by
 obtain ⟨hi,h⟩:=h;refine jiq s hi.2.2 _ _ (s.drop i.toNat) i [] (Ra _) rfl hi (by rw [Hb];have:=hi.2.2;simp only [Hd];omega) ?_
 simpa using h
theorem Jcc (w:List UInt8):(jj w).2<=w.length:=by
 induction hn:w.length using Nat.strongRecOn generalizing w with
 | _ n ih=>
  cases w with
  | nil=>rw [jj];simp
  | cons c w=>
   rw [da] at hn;rw [jj];split
   ·split
    ·have he:=Ja7 w;have:=ih (w.drop (ZT w).2).length (by rw [Hb];omega) (w.drop (ZT w).2) rfl
     rw [Hb] at this;simp only;omega
    ·have:=ih w.length (by omega) w rfl
     simp only;omega
   ·simp
def jeR:Za3:=λx c0 c1 c2 c3 c4 b K=>(0<=x/\x<=16777215)/\b.length<=10000000/\K c0 c1 c2 c3 c4 (b++jek x)
set_option maxRecDepth 100000 in
theorem Ziq (x c0 c1 c2 c3 c4 b K) (h:jeR x c0 c1 c2 c3 c4 b K):Zf8 x c0 c1 c2 c3 c4 b K:=by
 obtain ⟨⟨h0,h1⟩,hb,h⟩:=h;have k1:x<=127->K c0 c1 c2 c3 c4 (b++[b8 x]):=λq=>zjC q▸h
 have k2:¬x<=127->x<=2047->K c0 c1 c2 c3 c4 (b++[b8 (192+x / 64),b8 (128+x%64)]):=λq q2=>jjC q q2▸h
 have kX:¬x<=127->¬x<=2047->(55296<=x/\x<=57343\/1114111<x)->K c0 c1 c2 c3 c4 (b++[b8 239,b8 191,b8 189]):=λq q2 q3=>ZjC q q2 q3▸h
 have k3:¬x<=127->¬x<=2047->¬(55296<=x/\x<=57343\/1114111<x)->x<=65535->K c0 c1 c2 c3 c4 (b++[b8 (224+x / 4096),b8 (128+x / 64%64),b8 (128+x%64)]):=λq q2 q3 q4=>JjC q q2 q3 q4▸h
 have k4:¬x<=127->¬x<=2047->¬(55296<=x/\x<=57343\/1114111<x)->¬x<=65535->K c0 c1 c2 c3 c4 (b++[b8 (240+x / 262144),b8 (128+x / 4096%64),b8 (128+x / 64%64),b8 (128+x%64)]):=λq q2 q3 q4=>zjD q q2 q3 q4▸h
 clear h;unfold Zf8;simp only [JjB h0 h1,JiV,fd6,jjB,ZjB,xc,Rh,da,Hd];refine ⟨λq=>?_,λq=>⟨λq2=>?_,λq2=>⟨λq3=>?_,λq3=>⟨λq4=>⟨λq5=>?_,λq5=>⟨λq6=>⟨λq7=>?_,λq7=>?_⟩,λq6=>?_⟩⟩,λq4=>⟨λq6=>⟨λq7=>?_,λq7=>?_⟩,λq6=>?_⟩⟩⟩⟩⟩
 ·rw [u8w h0 (by omega)]
  exact ⟨by omega,by omega,k1 q⟩
 ·rw [JiW (by omega) (by omega)]
  exact ⟨by decide,by omega,by omega,by omega,k2 q q2⟩
 ·rw [ZhI (by omega) (by omega)]
  exact ⟨by decide,by decide,by omega,by omega,by omega,by omega,k3 q q2 (by omega) (by omega)⟩
 ·rw [ZhI (by omega) (by omega)]
  exact ⟨by decide,by decide,by omega,by omega,by omega,by omega,k3 q q2 (by omega) (by omega)⟩
 ·rw [ziX (by omega) (by omega)]
  exact ⟨by decide,by decide,by decide,by omega,by omega,by omega,by omega,by omega,k4 q q2 (by omega) (by omega)⟩
 ·exact ⟨by decide,by decide,by decide,by omega,kX q q2 (by omega)⟩
 ·exfalso;omega
 ·exfalso;omega
 ·exact ⟨by decide,by decide,by decide,by omega,kX q q2 (by omega)⟩
 ·exact ⟨by decide,by decide,by decide,by omega,kX q q2 (by omega)⟩
set_option maxRecDepth 100000 in
theorem zgb (s:List UInt8) (hs:s.length<=1000000) (c0:Int) (c1:List UInt8) (c2:Int) (c3:List UInt8) (c4:Bool) (b:List UInt8) (A:Za3) (Ke:List UInt8->Int->Int->Int->List UInt8->Int->List UInt8->Bool->List UInt8->Prop):∀(r:Nat) (w:List UInt8) (i a x:Int) (k:Nat),x=k->r+k=6->s.drop i.toNat=w->0<=i->i+(r:Int)<=1000020->0<=a->a<16^k->Ke s (i+((Zw r w a).2:Int)) (Zw r w a).1 c0 c1 c2 c3 c4 b->∃m,JcM A jfo zn ZaJ m s i a x c0 c1 c2 c3 c4 b Ke
 | 0,w,i,a,x,k,hx,hk,hd,h0,hi,ha0,ha1,h=>by
  refine ⟨1,λq=>?_,λ_=>?_⟩
  ·exfalso;have:=Ha q;omega
  ·simpa [Zw] using h
 | r+1,w,i,a,x,k,hx,hk,hd,h0,hi,ha0,ha1,h=>by
  unfold Zw at h;cases q:(jcs (hb w)).2 with
  | false=>
   rw [q] at h;refine ⟨1,λ_=>⟨h0,jhH _,λq2=>?_,λq2=>?_⟩,λq2=>?_⟩
   ·simpa using h
   ·rw [hd,q] at q2;exact absurd q2 (by decide)
   ·exfalso;have:=gb q2;omega
  | true=>
   rw [q] at h;simp only [if_true] at h;have hdg:=ZfS q;have e:(16:Int)^(k+1)=16^k*16:=Ro _ _;have e5:(16:Int)^k<=16^5:=JhI (by omega)
   have e6:(16:Int)^5=1048576:=by decide
   obtain ⟨m,hm⟩:=zgb s hs c0 c1 c2 c3 c4 b A Ke r w.tail (i+1) (a*16+(jcs (hb w)).1) (x+1) (k+1) (by omega) (by omega) (by rw [za1 h0,hd]) (by omega) (by omega) (by omega) (by rw [e];omega) (by
    have:i+1+((Zw r w.tail (a*16+(jcs (hb w)).1)).2:Int)=i+(((Zw r w.tail (a*16+(jcs (hb w)).1)).2+1:Nat):Int):=by omega
    rw [this];exact h)
   refine ⟨m+1,λ_=>⟨h0,jhH _,λq2=>?_,λ_=>⟨by decide,Zai (by omega),Zai (by omega),?_⟩⟩,λq2=>?_⟩
   ·rw [hd,q] at q2;exact absurd q2 (by decide)
   ·rw [hd,jjD ha0 (by omega) hdg.1 hdg.2]
    exact hm
   ·exfalso;have:=gb q2;omega
def zcd:j8:=λs i c0 c1 c2 c3 c4 b K=>(0<=i/\i<s.length/\s.length<=1000000)/\b.length<=5000000/\K (i+1+((ZT (s.drop (i+1).toNat)).2:Int)) c0 c1 c2 c3 c4 (b++(ZT (s.drop (i+1).toNat)).1)
theorem Jiq (s i c0 c1 c2 c3 c4 b K) (h:zcd s i c0 c1 c2 c3 c4 b K):jg2 jeR jfo zn ZaJ s i c0 c1 c2 c3 c4 b K:=by
 obtain ⟨⟨h0,h1,h2⟩,hb,h⟩:=h;refine ⟨Zai (by omega),λq=>?_,λq=>?_⟩
 ·have q:=Ha q;rw [Hi (by omega)] at h
  unfold ZT at h;refine ⟨by omega,by omega,?_⟩
  simpa using h
 ·have q:=gb q;cases hd:s.drop (i+1).toNat with
  | nil=>exfalso;have:=JR hd;omega
  | cons c w=>
  obtain ⟨_,hc,_,_⟩:=jx (by omega) hd
  rw [hd,ZT,jfm] at h;rw [hc];refine ⟨by omega,Zfn c,λq2=>?_,λq2=>?_⟩
  ·have q3:(jcs (c.toNat:Int)).2=false:=by simpa using q2
   rw [q3] at h;rw [Zh3];refine ⟨by omega,Zfn c,by simp only [da,Hd];omega,Zai (by omega),?_⟩
   simpa using h
  ·have q3:(jcs (c.toNat:Int)).2=true:=by simpa using q2
   rw [q3] at h;simp only [if_true] at h;have hl:=Jcl 6 (c::w) 0;have hin:=Zd2 6 (c::w) 0 0 (by omega) (by omega) (by decide)
   have hlw:=Ya List.length hd;rw [Hb] at hlw;refine zgb s h2 c0 c1 c2 c3 c4 b _ _ 6 (c::w) (i+1) 0 0 0 rfl rfl hd (by omega) (by omega) (by omega) (by decide) ?_
   have e:s.drop (i+1+((Zw 6 (c::w) 0).2:Int)).toNat=(c::w).drop (Zw 6 (c::w) 0).2:=by rw [JbY (by omega),hd]
   refine ⟨by omega,λq4=>⟨Zai (by omega),λq5=>?_,λq5=>?_⟩,λq4=>⟨λq5=>?_,λq5=>?_⟩⟩
   ·rw [e] at q4;rw [q4,ya (Ha q5),ya rfl] at h;refine ⟨by omega,by omega,?_⟩
    have e2:i+1+((Zw 6 (c::w) 0).2:Int)+1=i+1+(((Zw 6 (c::w) 0).2+1:Nat):Int):=by omega
    rw [e2];exact h
   ·rw [e] at q4;rw [q4,ga (gb q5),ya rfl] at h;refine ⟨hin,by omega,?_⟩
    have e2:i+1+((Zw 6 (c::w) 0).2:Int)+1=i+1+(((Zw 6 (c::w) 0).2+1:Nat):Int):=by omega
    rw [e2];exact h
   ·rw [e] at q4;rw [q4,ya (Ha q5)] at h;exact ⟨by omega,by omega,by simpa using h⟩
   ·rw [e] at q4;rw [q4,ga (gb q5)] at h;exact ⟨hin,by omega,by simpa using h⟩
set_option maxRecDepth 100000 in
set_option maxRecDepth 100000 in
set_option maxRecDepth 100000 in
set_option maxRecDepth 100000 in
def Jg8 (K:Tok->Int->Prop) (b:List UInt8) (i:Int) (r:Bool×List UInt8×Nat):Prop:=K (if r.1 then tk 5 (b++r.2.1) else tk 6) (i+(r.2.2:Int))
theorem ZiX (s:List UInt8) (hs:s.length<=1000000) (q:Int) (K:Tok->Int->Prop):∀(n:Nat) (w:List UInt8) (i:Int) (b:List UInt8),w.length<=n->s.drop i.toNat=w->okP s i->b.length+4*w.length<=4500000->Jg8 K b i (strM q w)->∃m,JaU zcd m s i q 0 [] 0 [] false b (λy1 _ _ _ _ _ y7=>K (Tok.mk 5 y7 0 [] false) y1) (λy8 y9 y10 y11 y12 y13=>K (Tok.mk y9 y10 y11 y12 y13) y8):=by
 intro n
 induction n with
 | zero=>
  intro w i b hn hd hi hb h;cases w with
  | cons c w=>simp at hn
  | nil=>
   have hl:=JR hd;rw [strM] at h;refine ⟨1,λp=>(by exfalso;have:=Ha p;omega),λ_=>?_⟩
   simpa [Jg8,tk] using h
 | succ n ih=>
  intro w i b hn hd hi hb h;cases w with
  | nil=>
   have hl:=JR hd;rw [strM] at h;refine ⟨1,λp=>(by exfalso;have:=Ha p;omega),λ_=>?_⟩
   simpa [Jg8,tk] using h
  | cons c w=>
  obtain ⟨hl,hc,hnx,hlen⟩:=jx hi.1 hd;rw [da] at hn hb;by_cases c1:(c.toNat:Int)=q
  ·have e:strM q (c::w)=(true,[],1):=by rw [strM.eq_def];simp only;rw [ya c1]
   rw [e] at h;refine ⟨1,λ_=>⟨⟨hi.1,hl⟩,λ_=>⟨Zai (by omega),?_⟩,λp=>?_⟩,λp=>(by exfalso;have:=gb p;omega)⟩
   ·simpa [Jg8,tk] using h
   ·exact absurd (by rw [hc];exact c1) (gb p)
  ·by_cases c2:(c.toNat:Int)=10
   ·have e:strM q (c::w)=(false,[],0):=by rw [strM.eq_def];simp only;rw [ga c1,ya c2]
    rw [e] at h;refine ⟨1,λ_=>⟨⟨hi.1,hl⟩,λp=>?_,λ_=>⟨⟨hi.1,hl⟩,λ_=>?_,λp=>?_⟩⟩,λp=>(by exfalso;have:=gb p;omega)⟩
    ·exact absurd (by rw [<-hc];exact Ha p) c1
    ·simpa [Jg8,tk] using h
    ·exact absurd (by rw [hc];exact c2) (gb p)
   ·by_cases c3:(c.toNat:Int)=92
    ·cases w with
     | nil=>
      have e:strM q [c]=(true,[],1):=by rw [strM.eq_def];simp only;rw [ga c1,ga c2,ga (λx=>x c3)]
      rw [e] at h;have hl2:=JR hnx;refine ⟨2,λ_=>⟨⟨hi.1,hl⟩,λp=>?_,λ_=>⟨⟨hi.1,hl⟩,λp=>?_,λ_=>⟨⟨hi.1,hl⟩,λp=>?_,λ_=>⟨Zai (by omega),λ_=>⟨Zai (by omega),λp=>?_,λ_=>?_⟩,λp=>?_⟩⟩⟩⟩,λp=>(by exfalso;have:=gb p;omega)⟩
      ·exact absurd (by rw [<-hc];exact Ha p) c1
      ·exact absurd (by rw [<-hc];exact Ha p) c2
      ·exact absurd (by rw [hc];exact c3) (Ha p)
      ·exfalso;have:=Ha p;omega
      ·simpa [Jg8,tk] using h
      ·exfalso;have:=gb p;simp only [Hd] at hlen;omega
     | cons d v=>
      obtain ⟨hl2,hc2,hnx2,hlen2⟩:=jx (by omega) hnx
      have hnx3:s.drop (i+2).toNat=v:=by rw [show i+2=i+1+1 by omega];exact hnx2
      rw [da] at hn hb;by_cases c4:(d.toNat:Int)=10
      ·have e:strM q (c::d::v)=((strM q v).1,(strM q v).2.1,2+(strM q v).2.2):=by rw [strM.eq_def];simp only;rw [ga c1,ga c2,ga (λx=>x c3),ya c4]
       rw [e] at h;obtain ⟨m,hm⟩:=ih v (i+2) b (by omega) hnx3 ⟨by omega,by omega,hs⟩ (by omega) (by
        unfold Jg8 at h |-;have:i+2+((strM q v).2.2:Int)=i+((2+(strM q v).2.2:Nat):Int):=by omega
        rw [this];exact h)
       refine ⟨m+1,λ_=>⟨⟨hi.1,hl⟩,λp=>?_,λ_=>⟨⟨hi.1,hl⟩,λp=>?_,λ_=>⟨⟨hi.1,hl⟩,λp=>?_,λ_=>⟨Zai (by omega),λp=>?_,λ_=>⟨Zai (by omega),⟨by omega,hl2⟩,λ_=>⟨Zai (by omega),hm⟩,λp=>?_⟩⟩⟩⟩⟩,λp=>(by exfalso;have:=gb p;omega)⟩
       ·exact absurd (by rw [<-hc];exact Ha p) c1
       ·exact absurd (by rw [<-hc];exact Ha p) c2
       ·exact absurd (by rw [hc];exact c3) (Ha p)
       ·exfalso;have:=Ha p;omega
       ·exact absurd (by rw [hc2];exact c4) (gb p)
      ·have e:strM q (c::d::v)=((strM q ((d::v).drop (ZT (d::v)).2)).1,(ZT (d::v)).1++(strM q ((d::v).drop (ZT (d::v)).2)).2.1,1+(ZT (d::v)).2+(strM q ((d::v).drop (ZT (d::v)).2)).2.2):=by rw [strM.eq_def];simp only;rw [ga c1,ga c2,ga (λx=>x c3),ga c4]
       rw [e] at h;have he:=Ja7 (d::v);have het:=jdx (d::v);rw [da] at he;have hlw:((d::v).drop (ZT (d::v)).2).length<=n:=by rw [Hb,da];omega
       obtain ⟨m,hm⟩:=ih ((d::v).drop (ZT (d::v)).2) (i+1+((ZT (d::v)).2:Int)) (b++(ZT (d::v)).1) hlw (by rw [JbY (by omega),hnx]) ⟨by omega,by omega,hs⟩ (by rw [Rb,Hb,da];omega) (by
        unfold Jg8 at h |-;have:i+1+((ZT (d::v)).2:Int)+((strM q ((d::v).drop (ZT (d::v)).2)).2.2:Int)=i+((1+(ZT (d::v)).2+(strM q ((d::v).drop (ZT (d::v)).2)).2.2:Nat):Int):=by omega
        rw [this,Qb];exact h)
       refine ⟨m+1,λ_=>⟨⟨hi.1,hl⟩,λp=>?_,λ_=>⟨⟨hi.1,hl⟩,λp=>?_,λ_=>⟨⟨hi.1,hl⟩,λp=>?_,λ_=>⟨Zai (by omega),λp=>?_,λ_=>⟨Zai (by omega),⟨by omega,hl2⟩,λp=>?_,λ_=>⟨⟨hi.1,hl,hs⟩,by omega,?_⟩⟩⟩⟩⟩⟩,λp=>(by exfalso;have:=gb p;omega)⟩
       ·exact absurd (by rw [<-hc];exact Ha p) c1
       ·exact absurd (by rw [<-hc];exact Ha p) c2
       ·exact absurd (by rw [hc];exact c3) (Ha p)
       ·exfalso;have:=Ha p;omega
       ·exact absurd (by rw [<-hc2];exact Ha p) c4
       ·rw [hnx];exact hm
    ·have e:strM q (c::w)=((strM q w).1,c::(strM q w).2.1,1+(strM q w).2.2):=by rw [strM.eq_def];simp only;rw [ga c1,ga c2,ya c3]
     rw [e] at h;obtain ⟨m,hm⟩:=ih w (i+1) (b++[c]) (by omega) hnx ⟨by omega,by omega,hs⟩ (by rw [Rb];simp only [Yj];omega) (by
      unfold Jg8 at h |-;have:i+1+((strM q w).2.2:Int)=i+((1+(strM q w).2.2:Nat):Int):=by omega
      rw [this,Qb];exact h)
     refine ⟨m+1,λ_=>⟨⟨hi.1,hl⟩,λp=>?_,λ_=>⟨⟨hi.1,hl⟩,λp=>?_,λ_=>⟨⟨hi.1,hl⟩,λ_=>⟨⟨hi.1,hl⟩,?_⟩,λp=>?_⟩⟩⟩,λp=>(by exfalso;have:=gb p;omega)⟩
     ·exact absurd (by rw [<-hc];exact Ha p) c1
     ·exact absurd (by rw [<-hc];exact Ha p) c2
     ·rw [hc,Zh3];exact ⟨Zfn c,by simp only [Yj];omega,Zai (by omega),hm⟩
     ·exact absurd (by rw [hc];exact c3) (gb p)
def zhJ:jb6:=λs i K=>(0<=i/\i<s.length/\s.length<=1000000)/\Jg8 K [] (i+1) (strM (hb (s.drop i.toNat)) (s.drop (i+1).toNat))
theorem Jjk (s i K) (h:zhJ s i K):JfI zcd s i K:=by
 obtain ⟨⟨h0,h1,h2⟩,h⟩:=h;rw [jg8] at h;exact ⟨⟨h0,h1⟩,Zai (by omega),ZiX s h2 _ K _ _ _ [] (Ra _) rfl ⟨by omega,by omega,h2⟩ (by rw [Hb];simp only [Hd];omega) h⟩
theorem JiX (s:List UInt8) (hs:s.length<=1000000) (K:Int->Prop):∀(n:Nat) (w:List UInt8) (i:Int),w.length<=n->s.drop i.toNat=w->okP s i->K (i+(Zfm w:Int))->∃m,zbz zcR Zcc m s i (λy=>K y) (λy=>K y):=by
 intro n
 induction n with
 | zero=>
  intro w i hn hd hi h;cases w with
  | cons c w=>simp at hn
  | nil=>
   have hl:=JR hd;rw [Zfm] at h;exact ⟨1,λp=>(by exfalso;have:=Ha p;omega),λ_=>by simpa using h⟩
 | succ n ih=>
  intro w i hn hd hi h;cases w with
  | nil=>
   have hl:=JR hd;rw [Zfm] at h;exact ⟨1,λp=>(by exfalso;have:=Ha p;omega),λ_=>by simpa using h⟩
  | cons c w=>
  obtain ⟨hl,hc,hnx,hlen⟩:=jx hi.1 hd;rw [da] at hn;rw [Zfm] at h;by_cases c1:(c.toNat:Int)=41
  ·rw [ya c1] at h;refine ⟨1,λ_=>⟨⟨hi.1,hl⟩,λ_=>⟨Zai (by omega),by simpa using h⟩,λp=>?_⟩,λp=>(by exfalso;have:=gb p;omega)⟩
   exact absurd (by rw [hc];exact c1) (gb p)
  ·rw [ga c1] at h;cases q:Jbt (c::w) with
   | true=>
    rw [q,ya rfl] at h;have he:=Ja7 w;obtain ⟨m,hm⟩:=ih (w.drop (ZT w).2) (i+1+((ZT w).2:Int)) (by rw [Hb];omega) (by rw [JbY (by omega),hnx]) ⟨by omega,by omega,hs⟩ (by
     have:i+1+((ZT w).2:Int)+(Zfm (w.drop (ZT w).2):Int)=i+((1+(ZT w).2+Zfm (w.drop (ZT w).2):Nat):Int):=by omega
     rw [this];exact h)
    refine ⟨m+1,λ_=>⟨⟨hi.1,hl⟩,λp=>?_,λ_=>⟨hi,λ_=>⟨⟨hi.1,hl,hs⟩,by decide,?_⟩,λp=>?_⟩⟩,λp=>(by exfalso;have:=gb p;omega)⟩
    ·exact absurd (by rw [<-hc];exact Ha p) c1
    ·rw [hnx];exact hm
    ·rw [hd,q] at p;cases p
   | false=>
    rw [q] at h;obtain ⟨m,hm⟩:=ih w (i+1) (by omega) hnx ⟨by omega,by omega,hs⟩ (by
     have:i+1+(Zfm w:Int)=i+((1+Zfm w:Nat):Int):=by omega
     rw [this];simpa using h)
    refine ⟨m+1,λ_=>⟨⟨hi.1,hl⟩,λp=>?_,λ_=>⟨hi,λp=>?_,λ_=>⟨Zai (by omega),hm⟩⟩⟩,λp=>(by exfalso;have:=gb p;omega)⟩
    ·exact absurd (by rw [<-hc];exact Ha p) c1
    ·rw [hd,q] at p;cases p
def zg9:Jay:=λs i K=>okP s i/\K (i+(Zfm (s.drop i.toNat):Int))
theorem zjl (s i K) (h:zg9 s i K):zfH zcR Zcc s i K:=JiX s h.1.2.2 K _ _ _ (Ra _) rfl h.1 h.2
def zcm:zs:=λc K=>K (jdk c)
theorem jhJ (c K) (h:zcm c K):za6 c K:=by
 unfold zcm jdk at h;unfold za6;refine ⟨λq=>?_,λq=>⟨λq2=>?_,λq2=>⟨λq3=>?_,λq3=>⟨λq4=>?_,λq4=>⟨λq5=>?_,λq5=>⟨λq6=>?_,λq6=>⟨λq7=>⟨λq8=>?_,λq8=>?_⟩,λq7=>?_⟩⟩⟩⟩⟩⟩⟩ <;> simpa only [*,Yh,Yi,Qk,Bool.or_false,Yg,yj] using h
theorem ZcE:∀w:List UInt8,nSp w<=w.length
 | []=>Ra _
 | c::w=>by
  unfold nSp;have:=ZcE w;split <;> simp only [da] <;> omega
theorem ziY (s:List UInt8) (hs:s.length<=1000000) (Ke:List UInt8->Int->Int->List UInt8->Int->List UInt8->Bool->List UInt8->Prop):∀(n:Nat) (w:List UInt8) (i:Int) (b:List UInt8),w.length<=n->s.drop i.toNat=w->okP s i->b.length+4*w.length<=4500000->Ke s (i+((Za2 w).2:Int)) 0 [] 0 [] false (b++(Za2 w).1)->∃m,Z7 jhI ZaJ zcR zcd zcm zg9 m s i 0 [] 0 [] false b Ke:=by
 intro n
 induction n with
 | zero=>
  intro w i b hn hd hi hb h;cases w with
  | cons c w=>simp at hn
  | nil=>
   have hl:=JR hd;rw [Za2] at h;exact ⟨1,λp=>(by exfalso;have:=Ha p;omega),λ_=>by simpa using h⟩
 | succ n ih=>
  intro w i b hn hd hi hb h;cases w with
  | nil=>
   have hl:=JR hd;rw [Za2] at h;exact ⟨1,λp=>(by exfalso;have:=Ha p;omega),λ_=>by simpa using h⟩
  | cons c w=>
  obtain ⟨hl,hc,hnx,hlen⟩:=jx hi.1 hd;rw [da] at hn hb;rw [Za2] at h;by_cases c1:(c.toNat:Int)=41
  ·rw [ya c1] at h;refine ⟨1,λ_=>⟨⟨hi.1,hl⟩,λp=>?_,λ_=>by simpa using h⟩,λp=>(by exfalso;have:=gb p;omega)⟩
   exact absurd (by rw [hc];exact c1) (Ha p)
  ·rw [ga c1] at h;have nc1:¬decide (((s.getD i.toNat 0).toNat:Int)≠41)=false:=λp=>(gb p) (by rw [hc];exact c1)
   cases q:mSp (c.toNat:Int) with
   | true=>
    rw [q,ya rfl] at h;have h:Ke s (i+(nSp (c::w):Int)) 0 [] 0 [] false b:=by simpa using h
    have hk:=ZcE (c::w);rw [da] at hk;refine ⟨2,λ_=>⟨⟨hi.1,hl⟩,λ_=>⟨⟨hi.1,hl⟩,λ_=>⟨hi,?_⟩,λp=>?_⟩,λp=>absurd p nc1⟩,λp=>(by exfalso;have:=gb p;omega)⟩
    ·rw [hd];refine ⟨λp=>⟨⟨by omega,Ha p⟩,λ_=>h,λp2=>⟨λ_=>⟨⟨by omega,Ha p⟩,λp3=>?_,λ_=>h⟩,λp3=>?_⟩⟩,λp=>⟨λp2=>?_,λ_=>h⟩⟩
     ·rw [p2] at p3;cases p3
     ·rw [p] at p3;cases p3
     ·rw [p] at p2;cases p2
    ·rw [hc,q] at p;cases p
   | false=>
    rw [q] at h;simp only [yd,if_false] at h;cases q2:Jbt (c::w) with
    | true=>
     rw [q2,ya rfl] at h;have he:=Ja7 w;have het:=jdx w;obtain ⟨m,hm⟩:=ih (w.drop (ZT w).2) (i+1+((ZT w).2:Int)) (b++(ZT w).1) (by rw [Hb];omega) (by rw [JbY (by omega),hnx]) ⟨by omega,by omega,hs⟩ (by rw [Rb,Hb];omega) (by
      have:i+1+((ZT w).2:Int)+((Za2 (w.drop (ZT w).2)).2:Int)=i+((1+(ZT w).2+(Za2 (w.drop (ZT w).2)).2:Nat):Int):=by omega
      rw [this,Qb];exact h)
     refine ⟨m+1,λ_=>⟨⟨hi.1,hl⟩,λ_=>⟨⟨hi.1,hl⟩,λp=>?_,λ_=>⟨hi,λ_=>⟨⟨hi.1,hl,hs⟩,by omega,?_⟩,λp=>?_⟩⟩,λp=>absurd p nc1⟩,λp=>(by exfalso;have:=gb p;omega)⟩
     ·rw [hc,q] at p;cases p
     ·rw [hnx];exact hm
     ·rw [hd,q2] at p;cases p
    | false=>
     rw [q2] at h;simp only [yd,if_false] at h;cases q3:jdk (c.toNat:Int) with
     | true=>
      rw [q3,ya rfl] at h;refine ⟨1,λ_=>⟨⟨hi.1,hl⟩,λ_=>⟨⟨hi.1,hl⟩,λp=>?_,λ_=>⟨hi,λp=>?_,λ_=>⟨⟨hi.1,hl⟩,λ_=>by simpa using h,λp=>?_⟩⟩⟩,λp=>absurd p nc1⟩,λp=>(by exfalso;have:=gb p;omega)⟩
      ·rw [hc,q] at p;cases p
      ·rw [hd,q2] at p;cases p
      ·rw [hc,q3] at p;cases p
     | false=>
      rw [q3] at h;simp only [yd,if_false] at h;obtain ⟨m,hm⟩:=ih w (i+1) (b++[c]) (by omega) hnx ⟨by omega,by omega,hs⟩ (by rw [Rb];simp only [Yj];omega) (by
       have:i+1+((Za2 w).2:Int)=i+((1+(Za2 w).2:Nat):Int):=by omega
       rw [this,Qb];exact h)
      refine ⟨m+1,λ_=>⟨⟨hi.1,hl⟩,λ_=>⟨⟨hi.1,hl⟩,λp=>?_,λ_=>⟨hi,λp=>?_,λ_=>⟨⟨hi.1,hl⟩,λp=>?_,λ_=>⟨⟨hi.1,hl⟩,?_⟩⟩⟩⟩,λp=>absurd p nc1⟩,λp=>(by exfalso;have:=gb p;omega)⟩
      ·rw [hc,q] at p;cases p
      ·rw [hd,q2] at p;cases p
      ·rw [hc,q3] at p;cases p
      ·rw [hc,Zh3];exact ⟨Zfn c,by simp only [Yj];omega,Zai (by omega),hm⟩
theorem jgb (w:List UInt8):(Za2 w).2<=w.length:=by
 induction hn:w.length using Nat.strongRecOn generalizing w with
 | _ n ih=>
  cases w with
  | nil=>rw [Za2];simp
  | cons c w=>
   have hk:=ZcE (c::w);rw [da] at hn hk;rw [Za2];split
   ·simp
   ·split
    ·simp only;omega
    ·split
     ·have he:=Ja7 w;have:=ih (w.drop (ZT w).2).length (by rw [Hb];omega) (w.drop (ZT w).2) rfl
      rw [Hb] at this;simp only;omega
     ·split
      ·simp
      ·have:=ih w.length (by omega) w rfl
       simp only;omega
def ZhJ:Zaq:=λs i K=>okP s i/\i<=s.length/\K (JU (s.drop i.toNat)).1 (i+((JU (s.drop i.toNat)).2:Int))
theorem jjl (s i K) (h:ZhJ s i K):zcA jhI ZaJ zcR zcd zcm zg9 s i K:=by
 obtain ⟨hi,hl,h⟩:=h;have ha:=ZcE (s.drop i.toNat);have hu:=jgb ((s.drop i.toNat).drop (nSp (s.drop i.toNat)));rw [Hb] at ha;simp only [Hb] at hu;have hi0:=hi.1;have hs:=hi.2.2;have eA:s.drop (i+(nSp (s.drop i.toNat):Int)).toNat=(s.drop i.toNat).drop (nSp (s.drop i.toNat)):=JbY hi.1 _;refine ⟨hi,ziY s hs _ _ _ _ [] (Ra _) rfl ⟨by omega,by omega,hs⟩ (by rw [Hb];simp only [Hd];omega) ?_⟩
 rw [eA];unfold JU at h;simp only at h;have eV:s.drop (i+(nSp (s.drop i.toNat):Int)+((Za2 ((s.drop i.toNat).drop (nSp (s.drop i.toNat)))).2:Int)).toNat=(s.drop i.toNat).drop (nSp (s.drop i.toNat)+(Za2 ((s.drop i.toNat).drop (nSp (s.drop i.toNat)))).2):=by rw [JbY (by omega),eA,xe]
 generalize (s.drop i.toNat).drop (nSp (s.drop i.toNat)+(Za2 ((s.drop i.toNat).drop (nSp (s.drop i.toNat)))).2)=v at h eV;generalize eJ:i+(nSp (s.drop i.toNat):Int)+((Za2 ((s.drop i.toNat).drop (nSp (s.drop i.toNat)))).2:Int)=j at eV;have hj:0<=j/\j<=s.length:=by omega
 cases v with
 | nil=>
  have hlj:=JR eV;rw [ya rfl] at h;refine ⟨λ_=>?_,λp=>(by exfalso;have:=gb p;omega)⟩
  have e:i+((nSp (s.drop i.toNat)+(Za2 ((s.drop i.toNat).drop (nSp (s.drop i.toNat)))).2:Nat):Int)=j:=by omega
  rw [e] at h;exact h
 | cons c v=>
  obtain ⟨hl2,hc,hnx,_⟩:=jx hj.1 eV;rw [ga (by simp)] at h
  refine ⟨λp=>(by exfalso;have:=Ha p;omega),λ_=>⟨⟨hj.1,hl2⟩,λp=>⟨Zai (by omega),?_⟩,λp=>⟨⟨by omega,by omega,hs⟩,?_⟩⟩⟩
  ·have p:=Ha p;rw [hc] at p;rw [jc,ya p] at h;have e:i+((nSp (s.drop i.toNat)+(Za2 ((s.drop i.toNat).drop (nSp (s.drop i.toNat)))).2+1:Nat):Int)=j+1:=by omega
   rw [e] at h;exact h
  ·have p:=gb p;rw [hc] at p;rw [jc,ga p] at h;have e:i+((nSp (s.drop i.toNat)+(Za2 ((s.drop i.toNat).drop (nSp (s.drop i.toNat)))).2+Zfm (c::v):Nat):Int)=j+(Zfm (c::v):Int):=by omega
   rw [e] at h;rw [eV];exact h
def jg9:js:=λc K=>(0<=c/\c<=255)/\K (low c)
theorem Zjl (c K) (h:jg9 c K):ja6 c K:=by
 obtain ⟨⟨h0,h1⟩,h⟩:=h;unfold low at h;unfold ja6;simp only [xc,Rh];refine ⟨λq=>⟨λq2=>?_,λq2=>?_⟩,λq=>?_⟩
 ·rw [ya ⟨q,q2⟩] at h;rw [u8w (by omega) (by omega)]
  exact h
 ·rw [ga (by omega)] at h;exact h
 ·rw [ga (by omega)] at h;exact h
theorem Zgb (a b:List UInt8) (ha:a.length<=10000000) (hab:a.length=b.length) (Ke:Unit->Prop) (Kr:Bool->Prop):∀(u v:List UInt8) (j:Int),a.drop j.toNat=u->b.drop j.toNat=v->0<=j->j<=a.length->(z6 u v=true->Ke ())->(z6 u v=false->Kr false)->∃m,Zbl jg9 m a b (a.length:Int) j Ke Kr
 | [],v,j,hu,hv,h0,hj,k1,_=>by
  have hl:=JR hu;have:v=[]:=by rw [<-hv];exact Hi (by omega)
  subst this;exact ⟨1,λp=>(by exfalso;have:=Ha p;omega),λ_=>k1 rfl⟩
 | c::u,v,j,hu,hv,h0,hj,k1,k2=>by
  obtain ⟨hl,hc,hnx,_⟩:=jx h0 hu;cases v with
  | nil=>have:=JR hv;exfalso;omega
  | cons d v=>
  obtain ⟨hl2,hc2,hnx2,_⟩:=jx h0 hv;by_cases q:low (c.toNat:Int)=low (d.toNat:Int)
  ·have e:z6 (c::u) (d::v)=z6 u v:=by rw [z6,Qg q,Yg]
   rw [e] at k1 k2;obtain ⟨m,hm⟩:=Zgb a b ha hab Ke Kr u v (j+1) hnx hnx2 (by omega) (by omega) k1 k2
   refine ⟨m+1,λ_=>⟨⟨h0,hl⟩,hb_in' a j,⟨h0,hl2⟩,hb_in' b j,λp=>?_,λ_=>⟨Zai (by omega),hm⟩⟩,λp=>(by exfalso;have:=gb p;omega)⟩
   exact absurd (by rw [hc,hc2];exact q) (Ha p)
  ·have e:z6 (c::u) (d::v)=false:=by rw [z6,Ye q,yj]
   refine ⟨1,λ_=>⟨⟨h0,hl⟩,hb_in' a j,⟨h0,hl2⟩,hb_in' b j,λ_=>k2 e,λp=>?_⟩,λp=>(by exfalso;have:=gb p;omega)⟩
   exact absurd (gb p) (by rw [hc,hc2];exact λx=>x q)
where hb_in' (a:List UInt8) (j:Int):0<=((a.getD j.toNat 0).toNat:Int)/\((a.getD j.toNat 0).toNat:Int)<=255:=Zfn _
theorem jeq:∀(a b:List UInt8),z6 a b=true->a.length=b.length
 | [],[],_=>rfl
 | [],_::_,h=>by cases h
 | _::_,[],h=>by cases h
 | a::x,b::y,h=>by
  unfold z6 at h;rw [yb] at h;rw [da,da,jeq x y h.2]
def JcE:Z2:=λa b K=>a.length<=10000000/\K (z6 a b)
theorem zir (a b K) (h:JcE a b K):ZdQ jg9 a b K:=by
 obtain ⟨ha,h⟩:=h;refine ⟨λp=>?_,λp=>?_⟩
 ·have p:=Ha p;cases q:z6 a b with
  | false=>rw [q] at h;exact h
  | true=>exact absurd (Ya (Int.ofNat) (jeq a b q)) p
 ·have p:=gb p;have p:(a.length:Int)=b.length:=by simpa using p
  exact Zgb a b ha (by omega) _ _ a b 0 rfl rfl (by omega) (by omega) (λq=>by rw [q] at h;exact h) (λq=>by rw [q] at h;exact h)
theorem Zg9 (w:List UInt8):(jj w).1.length<=4*w.length:=by
 induction hn:w.length using Nat.strongRecOn generalizing w with
 | _ n ih=>
  cases w with
  | nil=>rw [jj];simp
  | cons c w=>
   rw [da] at hn;rw [jj];split
   ·split
    ·have he:=Ja7 w;have het:=jdx w;have:=ih (w.drop (ZT w).2).length (by rw [Hb];omega) (w.drop (ZT w).2) rfl
     rw [Hb] at this;simp only [Rb];omega
    ·have:=ih w.length (by omega) w rfl
     simp only [da];omega
   ·simp
def JbQ:Z3:=λs i K=>okP s i/\i<=s.length/\K (zaf (s.drop i.toNat)).1 (i+((zaf (s.drop i.toNat)).2:Int))
theorem jir (s i K) (h:JbQ s i K):zbL jcu zn JcE jhI jel ZhJ s i K:=by
 obtain ⟨hi,hl,h⟩:=h;have hi0:=hi.1;have hs:=hi.2.2;have hn:=Jcc (s.drop i.toNat);have ht:=Zg9 (s.drop i.toNat);rw [Hb] at hn ht;have eV:=JbY hi0 (s:=s) (jj (s.drop i.toNat)).2;unfold zaf at h;simp only at h;rw [<-eV] at h;generalize eJ:i+((jj (s.drop i.toNat)).2:Int)=j at eV h |-;have hj:0<=j/\j<=s.length:=by omega
 refine ⟨hi,?_⟩;rw [eJ];refine ⟨hj.1,λp=>?_,λp=>?_⟩
 ·rw [ya (Ha p)] at h;rw [eJ] at h;exact h
 ·have p:=gb p;rw [ga p] at h;have p2:hb (s.drop j.toNat)=40:=by simpa using p
  have hl2:j<s.length:=by
   by_cases q:j<s.length
   ·exact q
   ·rw [Hi (by omega)] at p2;exact absurd p2 (by decide)
  rw [<-za1 hj.1] at h;have eS:=JbY (i:=j+1) (by omega) (s:=s) (nSp (s.drop (j+1).toNat))
  rw [<-eS] at h;have hsp:=ZcE (s.drop (j+1).toNat);rw [Hb] at hsp;have fin:K (tk 2 (jj (s.drop i.toNat)).1) (i+(((jj (s.drop i.toNat)).2+1:Nat):Int))->K (Tok.mk 2 (jj (s.drop i.toNat)).1 0 [] false) (j+1):=λh=>by
   have e:i+(((jj (s.drop i.toNat)).2+1:Nat):Int)=j+1:=by omega
   rw [e] at h;exact h
  refine ⟨Zai (by omega),by omega,λq=>⟨⟨by omega,by omega,hs⟩,by omega,λq2=>⟨⟨by omega,by omega,hs⟩,by omega,?_⟩,λq2=>?_⟩,λq=>?_⟩
  ·rw [q,q2] at h;simp only [Bool.and_self,if_true] at h;have e:i+(((jj (s.drop i.toNat)).2+1+(JU (s.drop (j+1).toNat)).2:Nat):Int)=j+1+((JU (s.drop (j+1).toNat)).2:Int):=by omega
   rw [e] at h;exact h
  ·rw [q,q2] at h;simp only [yn,yd,if_false] at h;exact fin h
  ·rw [q] at h;simp only [yj,yd,if_false] at h;exact fin h
def AllDg (w:List UInt8):Prop:=∀b,b∈w->mD (b.toNat:Int)=true
theorem JaQ (w:List UInt8):AllDg (jE w):=λb hb=>by
 unfold jE at hb
 induction w with
 | nil=>cases hb
 | cons c w ih=>
  rw [gj] at hb;split at hb
  ·rcases gc.mp hb with rfl|hb
   ·assumption
   ·exact ih hb
  ·cases hb
theorem ZaY (w:List UInt8):(jE w).length<=w.length:=(List.takeWhile_sublist _).length_le
theorem JhJ:jE []=[]:=rfl
theorem digs_pos {c:UInt8} {w:List UInt8} (h:mD (c.toNat:Int)=true):jE (c::w)=c::jE w:=by unfold jE;rw [gj,ya h]
theorem digs_neg {c:UInt8} {w:List UInt8} (h:mD (c.toNat:Int)=false):jE (c::w)=[]:=by unfold jE;rw [gj,ga (by rw [h];decide)]
theorem Jg9 (w:List UInt8):w.take (jE w).length=jE w:=by
 unfold jE
 induction w with
 | nil=>rfl
 | cons c w ih=>
  rw [gj];split
  ·rw [da,Hn,ih]
  ·rfl
theorem Zbn {s:List UInt8} {i:Int} (h:0<=i):(s.drop i.toNat).take ((i+((jE (s.drop i.toNat)).length:Int)).toNat-i.toNat)=jE (s.drop i.toNat):=by
 have e:(i+((jE (s.drop i.toNat)).length:Int)).toNat-i.toNat=(jE (s.drop i.toNat)).length:=by omega
 rw [e,Jg9]
theorem JfS (s:List UInt8) (hs:s.length<=1000000) (x:Int) (Ke:Int->List UInt8->Int->Prop):∀(w:List UInt8) (i:Int),s.drop i.toNat=w->okP s i->Ke x s (i+((jE w).length:Int))->∃m,jv zn JaE m x s i Ke
 | [],i,hd,hi,h=>by
  refine ⟨1,hi.1,λq=>?_,λ_=>?_⟩
  ·rw [hd] at q;exact absurd q (by decide)
  ·simpa [JhJ] using h
 | c::w,i,hd,hi,h=>by
  obtain ⟨hl,hc,hn,_⟩:=jx hi.1 hd;cases q:mD (c.toNat:Int) with
  | false=>
   rw [digs_neg q] at h;refine ⟨1,hi.1,λq2=>?_,λ_=>?_⟩
   ·rw [hd,jc,q] at q2;cases q2
   ·simpa using h
  | true=>
   rw [digs_pos q] at h;obtain ⟨m,hm⟩:=JfS s hs x Ke w (i+1) hn ⟨by omega,by omega,hs⟩ (by
    have:i+1+((jE w).length:Int)=i+((c::jE w).length:Int):=by rw [da];omega
    rw [this];exact h)
   refine ⟨m+1,hi.1,λ_=>⟨Zai (by omega),hm⟩,λq2=>?_⟩
   rw [hd,jc,q] at q2;cases q2
theorem zhK {c:UInt8} (h:mD (c.toNat:Int)=true):48<=(c.toNat:Int)/\(c.toNat:Int)<=57:=by
 unfold mD at h;simp only [yb,xc] at h;exact h
theorem w8' {n:Int} (h0:0<=n) (h1:n<=255):IntKind.u8.wrap n=n:=by rw [IntKind.wrap_u8];omega
theorem Zfo {a:Int} {c:UInt8} (h0:0<=a) (h:mD (c.toNat:Int)=true):0<=Jct a c/\Jct a c<=8000:=by
 have:=zhK h;unfold Jct;omega
theorem jiY (s:List UInt8) (hs:s.length<=1000000) (ha:AllDg s) (Ke:Int->Prop):∀(w:List UInt8) (i a:Int),s.drop i.toNat=w->0<=i->i<=s.length->0<=a->a<=8000->Ke (w.foldl Jct a)->∃m,Jci m s a (s.length:Int) i Ke
 | [],i,a,hd,h0,hi,ha0,ha1,h=>by
  have:=JR hd;exact ⟨1,λq=>(by exfalso;have:=Ha q;omega),λ_=>h⟩
 | c::w,i,a,hd,h0,hi,ha0,ha1,h=>by
  obtain ⟨hl,hc,hn,_⟩:=jx h0 hd;have hm:c∈s:=Rn (by rw [hd];exact yc ..)
  have hb:=zhK (ha c hm);have hf:=Zfo ha0 (ha c hm);obtain ⟨m,hm⟩:=jiY s hs ha Ke w (i+1) (Jct a c) hn (by omega) (by omega) hf.1 hf.2 h
  refine ⟨m+1,λ_=>⟨Zai (by omega),⟨h0,hl⟩,?_⟩,λq=>(by exfalso;have:=gb q;omega)⟩
  rw [hc,w8' (by omega) (by omega)]
  refine ⟨Zai (by omega),Zai (by omega),Zai (by omega),?_⟩
  have e:(if (8000:Int)<10*a+((c.toNat:Int)-48) then (8000:Int) else 10*a+((c.toNat:Int)-48))=Jct a c:=by unfold Jct;split <;> omega
  rw [e];exact hm
def jdd:Zb2:=λw K=>(AllDg w/\w.length<=1000000)/\K (zcc w)
theorem Zir (w K) (h:jdd w K):ZfC w K:=jiY w h.1.2 h.1.1 K w 0 0 rfl (by omega) (by omega) (by omega) (by omega) h.2
theorem Zdx:∀(w:List UInt8) (a:Int),AllDg w->0<=a->a<=8000->0<=w.foldl Jct a/\w.foldl Jct a<=8000
 | [],a,_,h0,h1=>⟨h0,h1⟩
 | c::w,a,hw,h0,h1=>by
  have hf:=Zfo h0 (hw c (yc ..));exact Zdx w _ (λb hb=>hw b (gd _ hb)) hf.1 hf.2
theorem ZiY:∀(s:List UInt8) (Ke:List UInt8->Prop),Ke (ZI s)->∃m,ZbH m s 48 Ke
 | [],Ke,h=>⟨1,λq=>(by simp at q),λ_=>h⟩
 | b::s,Ke,h=>by
  cases q:b==48 with
  | false=>
   have:ZI (b::s)=b::s:=by unfold ZI;rw [dp,ga (by rw [q];decide)]
   rw [this] at h;refine ⟨1,λ_=>⟨⟨by omega,by simp⟩,λq2=>?_,λ_=>h⟩,λq2=>?_⟩
   ·exfalso;have q2:=Ha q2;have:b=48:=UInt8.toNat_inj.mp (by show b.toNat=48;have:(b.toNat:Int)=48:=q2;omega)
    rw [this] at q;exact absurd q (by decide)
   ·exfalso;have:=gb q2;simp at this
  | true=>
   have e:b=48:=eq_of_beq q;have:ZI (b::s)=ZI s:=by unfold ZI;rw [dp,ya q]
   rw [this] at h;obtain ⟨m,hm⟩:=ZiY s Ke h;subst e;exact ⟨m+1,λ_=>⟨⟨by omega,by simp⟩,λ_=>⟨⟨by omega,by rw [da];omega⟩,hm⟩,λq2=>(by cases (show true=false from q2))⟩,λq2=>(by exfalso;have:=gb q2;simp at this)⟩
def ZeR:Zbj:=λs c K=>c=48/\K (ZI s)
theorem Jir (s c K) (h:ZeR s c K):jeF s c K:=by
 obtain ⟨rfl,h⟩:=h;exact ZiY s _ h
def Jgb:Zp:=λs c K=>c=[48]/\K (ZI s)
theorem JiY (s c K) (h:Jgb s c K):zbI ZeR s c K:=by
 obtain ⟨rfl,h⟩:=h;refine ⟨λ_=>⟨λq=>(by exact absurd q (by decide)),λ_=>⟨λ_=>⟨⟨by omega,by decide⟩,λ_=>⟨⟨by omega,by decide⟩,rfl,h⟩,λq=>absurd q (by decide)⟩,λq=>absurd q (by decide)⟩⟩,λq=>?_⟩
 have:s=[]:=eq_of_beq q;subst this;exact h
theorem Zeq {w:List UInt8} (h:AllDg w):AllDg (ZI w):=λb hb=>h b ((List.dropWhile_sublist _).subset hb)
theorem zeros0_len (w:List UInt8):(ZI w).length<=w.length:=(List.dropWhile_sublist _).length_le
theorem zha (s:List UInt8) (hs:s.length<=1000000) (ha:AllDg s) (A:Zp) (p:Int) (Ke:Int->Prop):∀(k:Nat) (w:List UInt8) (i:Nat) (a:Int),s.drop i=w->(i:Int)+k=p->i+k<=13->0<=a->a<10^i->Ke (Jbf k w a)->∃m,jby A m s a p (i:Int) Ke
 | 0,w,i,a,hd,hp,h13,ha0,ha1,h=>⟨1,λq=>(by exfalso;have:=Ha q;omega),λ_=>(by cases w <;> exact h)⟩
 | k+1,w,i,a,hd,hp,h13,ha0,ha1,h=>by
  have e10:(10:Int)^i<=10^13:=by
   have:=Nat.pow_le_pow_right (n:=10) (by decide) (show i<=13 by omega)
   exact_mod_cast this
  have e13:(10:Int)^13=10000000000000:=by decide
  have es:(10:Int)^(i+1)=10^i*10:=Ro _ _;cases w with
  | nil=>
   have hl:s.length<=i:=by
    have:=Ya List.length hd;rw [Hb,Hd] at this;omega
   obtain ⟨m,hm⟩:=zha s hs ha A p Ke k [] (i+1) (a*10) (Hi (by omega)) (by omega) (by omega) (by omega) (by rw [es];omega) h
   refine ⟨m+1,λ_=>⟨by unfold I64;omega,λq=>(by exfalso;have:=Ha q;omega),λ_=>⟨Zai (by omega),?_⟩⟩,λq=>(by exfalso;have:=gb q;omega)⟩
   exact hm
  | cons c w=>
   have hd2:s.drop (i:Int).toNat=c::w:=hd;obtain ⟨hl,hc,hn,_⟩:=jx (by omega) hd2
   have hmem:c∈s:=Rn (by rw [hd];exact yc ..)
   have hb:=zhK (ha c hmem);obtain ⟨m,hm⟩:=zha s hs ha A p Ke k w (i+1) (a*10+((c.toNat:Int)-48)) hn (by omega) (by omega) (by omega) (by rw [es];omega) h
   refine ⟨m+1,λ_=>⟨by unfold I64;omega,λ_=>⟨⟨by omega,hl⟩,?_⟩,λq=>(by exfalso;have:=gb q;omega)⟩,λq=>(by exfalso;have:=gb q;omega)⟩
   rw [hc,w8' (by omega) (by omega)]
   exact ⟨Zai (by omega),by unfold I64;omega,Zai (by omega),hm⟩
def jha:Jb2:=λw p K=>(AllDg w/\w.length<=1000000/\-1000000<=p/\p<=2000000)/\K (ZeQ w p)
theorem Jjl (w p K) (h:jha w p K):ZfD Jgb w p K:=by
 obtain ⟨⟨ha,hl,h0,h1⟩,h⟩:=h;have hz:=zeros0_len w;unfold ZeQ at h;simp only at h;refine ⟨rfl,Zai (by omega),Zai (by omega),λq=>⟨λq2=>?_,λq2=>⟨λq3=>?_,λq3=>?_⟩⟩,λq=>?_⟩
 ·rw [ya (Or.inr (Ha q2))] at h;exact h
 ·have q2:=gb q2;have q:ZI w≠[]:=λe=>by rw [e] at q;cases q
  rw [ga (λx=>x.elim q q2),ya (Ha q3)] at h;exact h
 ·have q2:=gb q2;have q3:=gb q3;have q:ZI w≠[]:=λe=>by rw [e] at q;cases q
  rw [ga (λx=>x.elim q q2),ga q3] at h
  refine zha (ZI w) (by omega) (Zeq ha) _ _ _ (p-((w.length:Int)-((ZI w).length:Int))).toNat (ZI w) 0 0 rfl (by omega) (by omega) (by omega) (by decide) ?_
  have e:∀n:Int,(if (1000000000000:Int)<n then (1000000000000:Int) else n)=min n 1000000000000:=λn=>by split <;> omega
  rw [e];exact h
 ·rw [ya (Or.inl (eq_of_beq q))] at h;exact h
abbrev lpN:=jv zn JaE
theorem Jd2:∀(k:Nat) (w:List UInt8) (a:Int),AllDg w->0<=a->0<=Jbf k w a
 | 0,w,a,_,h=>by cases w <;> exact h
 | k+1,[],a,hw,h=>by rw [Jbf];exact Jd2 k [] _ hw (by omega)
 | k+1,c::w,a,hw,h=>by
  have:=zhK (hw c (yc ..));rw [Jbf];exact Jd2 k w _ (λb hb=>hw b (gd _ hb)) (by omega)
theorem zis {w:List UInt8} (h:AllDg w) (p:Int):0<=ZeQ w p/\ZeQ w p<=1000000000000:=by
 unfold ZeQ;simp only;split
 ·omega
 ·split
  ·omega
  ·have:=Jd2 (p-((w.length:Int)-((ZI w).length:Int))).toNat (ZI w) 0 (Zeq h) (by omega)
   omega
def Zha (W V:List UInt8) (c:Int) (K:Int->Bool->Int->Prop) (e:Int) (b:Bool) (j:Int):Prop:=
 W.length+V.length<=1099511627776/\(I64 ((W.length:Int)+e)/\(I64 (((W.length:Int)+e)+3)/\(jha (W++V) (((W.length:Int)+e)+3) (λy=>((decide (c=45))=true->(I64 (0-y)/\K (0-y) b j))/\((decide (c=45))=false->K y b j)))))
theorem Jdx {W V:List UInt8} {c:Int} {K:Int->Bool->Int->Prop} {e:Int} {b:Bool} {j:Int} (hW:AllDg W) (hV:AllDg V) (lW:W.length<=400000) (lV:V.length<=400000) (he:-10000<=e/\e<=10000)
  (h:K (if c=45 then 0-ZeQ (W++V) ((W.length:Int)+e+3) else ZeQ (W++V) ((W.length:Int)+e+3)) b j):Zha W V c K e b j:=by
 have hA:AllDg (W++V):=λx hx=>(Rf.mp hx).elim (hW x) (hV x)
 have hc:=zis hA ((W.length:Int)+e+3);refine ⟨by omega,Zai (by omega),Zai (by omega),⟨hA,by rw [Rb];omega,by omega,by omega⟩,λq=>⟨by unfold I64;omega,?_⟩,λq=>?_⟩
 ·rw [ya (Ha q)] at h;exact h
 ·rw [ga (gb q)] at h;exact h
theorem zgc {s:List UInt8} {j:Int} (hs:s.length<=400000) (h0:0<=j) (hj:j<=s.length) (R:Int->Bool->Int->Prop) (b:Bool) (h:R (Za0 (s.drop j.toNat)).1 (b&&decide ((Za0 (s.drop j.toNat)).2=0)) (j+((Za0 (s.drop j.toNat)).2:Int))) :
  (zn s j (λy11=>(zdd y11 (λy12=>((y12=true->(I64 (j+(1:Int))/\(zfo s (j+(1:Int)) (λy13=>((y13=true->(I64 (j+(1:Int))/\(zn s (j+(1:Int)) (λy14=>(zn s (j+(1:Int)) (λy15=>(zaC y15 (λy16=>((y16=true->(I64 ((j+(1:Int))+(1:Int))/\(∃m,lpN m ((j+(1:Int))+(1:Int)) s ((j+(1:Int))+(1:Int)) (λy17 y18 y19=>((0<=y17/\y17<=y19/\y19<=(y18.length:Int))/\(jdd ((y18.drop y17.toNat).take (y19.toNat-y17.toNat)) (λy20=>(((decide (y14=(45:Int)))=true->(I64 (0-y20)/\R (0-y20) false y19))/\((decide (y14=(45:Int)))=false->R y20 false y19)))))))))/\(y16=false->(∃m,lpN m (j+(1:Int)) s (j+(1:Int)) (λy23 y24 y25=>((0<=y23/\y23<=y25/\y25<=(y24.length:Int))/\(jdd ((y24.drop y23.toNat).take (y25.toNat-y23.toNat)) (λy26=>(((decide (y14=(45:Int)))=true->(I64 (0-y26)/\R (0-y26) false y25))/\((decide (y14=(45:Int)))=false->R y26 false y25)))))))))))))))))/\(y13=false->R 0 b j))))))/\(y12=false->R 0 b j)))))):=by
 have hok:∀x:Int,0<=x->x<=s.length+10->okP s x:=λx a b=>⟨a,by omega,by omega⟩
 have none:(Za0 (s.drop j.toNat))=(0,0)->R 0 b j:=λe=>by rw [e] at h;simpa using h
 refine ⟨h0,λq=>⟨Zai (by omega),hok _ (by omega) (by omega),λq2=>⟨Zai (by omega),by omega,by omega,λq3=>⟨Zai (by omega),?_⟩,λq3=>?_⟩,λq2=>none ?_⟩,λq=>none ?_⟩
 ·rw [za1 h0] at q2 q3;have hlen:j+1<s.length:=by
   by_cases q4:j+1<s.length
   ·exact q4
   ·exfalso;rw [<-za1 h0,Hi (by omega)] at q3
    exact absurd q3 (by decide)
  have hd:=ZaY (s.drop (j+1+1).toNat);rw [Hb] at hd;have e:Za0 (s.drop j.toNat)=(if hb (s.drop j.toNat).tail=45 then 0-zcc (jE (s.drop (j+1+1).toNat)) else zcc (jE (s.drop (j+1+1).toNat)),2+(jE (s.drop (j+1+1).toNat)).length):=by
   unfold Za0;rw [q,q2,Bool.and_self,ya rfl];simp only [q3,if_true];rw [za1 (by omega:0<=j+1),za1 h0]
  rw [e] at h;refine JfS s (by omega) _ _ _ _ rfl (hok _ (by omega) (by omega)) ⟨⟨by omega,by omega,by omega⟩,?_⟩
  rw [Zbn (by omega)]
  have hwh:=Zdx (jE (s.drop (j+1+1).toNat)) 0 (JaQ _) (by omega) (by omega)
  have e2:j+((2+(jE (s.drop (j+1+1).toNat)).length:Nat):Int)=j+1+1+((jE (s.drop (j+1+1).toNat)).length:Int):=by omega
  rw [e2] at h;refine ⟨⟨JaQ _,by omega⟩,λq4=>⟨Zai (by show _/\_;unfold zcc;omega),?_⟩,λq4=>?_⟩
  ·rw [za1 h0] at q4;rw [ya (Ha q4)] at h;simpa using h
  ·rw [za1 h0] at q4;rw [ga (gb q4)] at h;simpa using h
 ·rw [za1 h0] at q2 q3;have hlen:j+1<=s.length:=by
   by_cases q4:j+1<=s.length
   ·exact q4
   ·exfalso;unfold zdk at q2;rw [<-za1 h0,Hi (by omega)] at q2
    exact absurd q2 (by decide)
  have hd:=ZaY (s.drop (j+1).toNat);rw [Hb] at hd;have e:Za0 (s.drop j.toNat)=(if hb (s.drop j.toNat).tail=45 then 0-zcc (jE (s.drop (j+1).toNat)) else zcc (jE (s.drop (j+1).toNat)),1+(jE (s.drop (j+1).toNat)).length):=by
   unfold Za0;rw [q,q2,Bool.and_self,ya rfl];simp only [q3,yd,if_false];rw [za1 h0]
  rw [e] at h;refine JfS s (by omega) _ _ _ _ rfl (hok _ (by omega) (by omega)) ⟨⟨by omega,by omega,by omega⟩,?_⟩
  rw [Zbn (by omega)]
  have hwh:=Zdx (jE (s.drop (j+1).toNat)) 0 (JaQ _) (by omega) (by omega)
  have e2:j+((1+(jE (s.drop (j+1).toNat)).length:Nat):Int)=j+1+((jE (s.drop (j+1).toNat)).length:Int):=by omega
  rw [e2] at h;refine ⟨⟨JaQ _,by omega⟩,λq4=>⟨Zai (by show _/\_;unfold zcc;omega),?_⟩,λq4=>?_⟩
  ·rw [za1 h0] at q4;rw [ya (Ha q4)] at h;simpa using h
  ·rw [za1 h0] at q4;rw [ga (gb q4)] at h;simpa using h
 ·rw [za1 h0] at q2;unfold Za0;rw [q2,yn,ga (by decide)]
 ·unfold Za0;rw [q,yj,ga (by decide)]
theorem jgc (w:List UInt8):-10000<=(Za0 w).1/\(Za0 w).1<=10000:=by
 unfold Za0;split
 ·have h:=λv:List UInt8=>Zdx (jE v) 0 (JaQ _) (by omega) (by omega)
  simp only;split
  ·have:=h (if mSg (hb w.tail)=true then w.tail.tail else w.tail)
   unfold zcc;omega
  ·have:=h (if mSg (hb w.tail)=true then w.tail.tail else w.tail)
   unfold zcc;omega
 ·decide
def jhK:Jb3:=λs i K=>(0<=i/\i<=s.length/\s.length<=400000)/\K (zbn (s.drop i.toNat)).1 (zbn (s.drop i.toNat)).2.1 (i+((zbn (s.drop i.toNat)).2.2:Int))
theorem zjm (s i K) (h:jhK s i K):jfE jd2 zn zdd zfo jdd jha zaC JaE s i K:=by
 obtain ⟨⟨h0,hi,hs⟩,h⟩:=h;generalize hw:s.drop i.toNat=w at h;have hbw:hb (s.drop i.toNat)=hb w:=by rw [hw]
 refine ⟨h0,h0,λq=>⟨Zai (by omega),?_⟩,λq=>?_⟩
 ·rw [hw] at q;have hl:i<s.length:=by
   by_cases q2:i<s.length
   ·exact q2
   ·exfalso;rw [<-hw,Hi (by omega)] at q
    exact absurd q (by decide)
  have hsn:ZaQ w=1:=by unfold ZaQ;rw [ya q]
  have hd1:=ZaY (s.drop (i+1).toNat);rw [Hb] at hd1;have eS:w.drop (ZaQ w)=s.drop (i+1).toNat:=by rw [hsn,<-hw,Yk,za1 h0]
  have eW:zaJ w=jE (s.drop (i+1).toNat):=by unfold zaJ;rw [eS]
  have eB:s.drop (i+1+((jE (s.drop (i+1).toNat)).length:Int)).toNat=w.drop (zA w):=by
   unfold zA;rw [eW,<-xe,eS];exact JbY (by omega) _
  refine JfS s (by omega) _ _ _ _ rfl ⟨by omega,by omega,by omega⟩ ⟨⟨by omega,by omega,by omega⟩,⟨by omega,by omega,by omega⟩,λq7=>⟨Zai (by omega),?_⟩,λq7=>?_⟩
  ·rw [eB] at q7;have hl1:i+1+((jE (s.drop (i+1).toNat)).length:Int)<s.length:=by
    by_cases q8:i+1+((jE (s.drop (i+1).toNat)).length:Int)<s.length
    ·exact q8
    ·exfalso;rw [<-eB,Hi (by omega)] at q7
     exact absurd q7 (by decide)
   have hd2:=ZaY (s.drop (i+1+((jE (s.drop (i+1).toNat)).length:Int)+1).toNat);rw [Hb] at hd2;have eV:zbD w=jE (s.drop (i+1+((jE (s.drop (i+1).toNat)).length:Int)+1).toNat):=by
    unfold zbD;rw [ya q7,za1 (by omega),eB]
   have eF:s.drop (i+1+((jE (s.drop (i+1).toNat)).length:Int)+1+((jE (s.drop (i+1+((jE (s.drop (i+1).toNat)).length:Int)+1).toNat)).length:Int)).toNat=w.drop (Zl w):=by
    unfold Zl;rw [ya q7,eV,<-xe,<-eB,JbY (by omega),za1 (by omega),<-xe,Yk]
   refine JfS s (by omega) _ _ _ _ rfl ⟨by omega,by omega,by omega⟩ ⟨⟨by omega,by omega,by omega⟩,?_⟩
   rw [Zbn (by omega),Zbn (by omega)]
   have hx:=jgc (w.drop (Zl w));refine zgc hs (by omega) (by omega) (Zha (jE (s.drop (i+1).toNat)) (jE (s.drop (i+1+((jE (s.drop (i+1).toNat)).length:Int)+1).toNat)) (hb (s.drop i.toNat)) K) false ?_
   rw [eF];refine Jdx (JaQ _) (JaQ _) (by omega) (by omega) hx ?_
   unfold zbn zae at h;simp only [q7,Hh,yj] at h |-;rw [eW,eV] at h;rw [hbw];have ej:i+((Zl w+(Za0 (w.drop (Zl w))).2:Nat):Int)=i+1+((jE (s.drop (i+1).toNat)).length:Int)+1+((jE (s.drop (i+1+((jE (s.drop (i+1).toNat)).length:Int)+1).toNat)).length:Int)+((Za0 (w.drop (Zl w))).2:Int):=by
    have:Zl w=zA w+(1+(zbD w).length):=by unfold Zl;rw [ya q7]
    have h3:zA w=ZaQ w+(zaJ w).length:=rfl;rw [eV] at this;rw [eW,hsn] at h3;omega
   rw [<-ej];exact h
  ·rw [eB] at q7;have eF:s.drop (i+1+((jE (s.drop (i+1).toNat)).length:Int)).toNat=w.drop (Zl w):=by
    unfold Zl;rw [ga (by rw [q7];decide),Re,eB]
   have eV:zbD w=[]:=by
    unfold zbD;rw [ga (by rw [q7];decide)]
   rw [Zbn (by omega)]
   have hx:=jgc (w.drop (Zl w));refine zgc hs (by omega) (by omega) (Zha (jE (s.drop (i+1).toNat)) [] (hb (s.drop i.toNat)) K) true ?_
   rw [eF];refine Jdx (JaQ _) (λb hb=>by cases hb) (by omega) (dg _) hx ?_
   unfold zbn zae at h;simp only [q7,Rg,Yg] at h |-;rw [eW,eV] at h;rw [hbw];have ej:i+((Zl w+(Za0 (w.drop (Zl w))).2:Nat):Int)=i+1+((jE (s.drop (i+1).toNat)).length:Int)+((Za0 (w.drop (Zl w))).2:Int):=by
    have:Zl w=zA w:=by unfold Zl;rw [ga (by rw [q7];decide),Re]
    have h3:zA w=ZaQ w+(zaJ w).length:=rfl;rw [eW,hsn] at h3;omega
   rw [<-ej];exact h
 ·rw [hw] at q;have hsn:ZaQ w=0:=by unfold ZaQ;rw [ga (by rw [q];decide)]
  have hd1:=ZaY (s.drop i.toNat);rw [Hb] at hd1;have eS:w.drop (ZaQ w)=s.drop i.toNat:=by rw [hsn,<-hw,dh]
  have eW:zaJ w=jE (s.drop i.toNat):=by unfold zaJ;rw [eS]
  have eB:s.drop (i+((jE (s.drop i.toNat)).length:Int)).toNat=w.drop (zA w):=by
   unfold zA;rw [eW,<-xe,eS];exact JbY (by omega) _
  refine JfS s (by omega) _ _ _ _ rfl ⟨by omega,by omega,by omega⟩ ⟨⟨by omega,by omega,by omega⟩,⟨by omega,by omega,by omega⟩,λq7=>⟨Zai (by omega),?_⟩,λq7=>?_⟩
  ·rw [eB] at q7;have hl1:i+((jE (s.drop i.toNat)).length:Int)<s.length:=by
    by_cases q8:i+((jE (s.drop i.toNat)).length:Int)<s.length
    ·exact q8
    ·exfalso;rw [<-eB,Hi (by omega)] at q7
     exact absurd q7 (by decide)
   have hd2:=ZaY (s.drop (i+((jE (s.drop i.toNat)).length:Int)+1).toNat);rw [Hb] at hd2;have eV:zbD w=jE (s.drop (i+((jE (s.drop i.toNat)).length:Int)+1).toNat):=by
    unfold zbD;rw [ya q7,za1 (by omega),eB]
   have eF:s.drop (i+((jE (s.drop i.toNat)).length:Int)+1+((jE (s.drop (i+((jE (s.drop i.toNat)).length:Int)+1).toNat)).length:Int)).toNat=w.drop (Zl w):=by
    unfold Zl;rw [ya q7,eV,<-xe,<-eB,JbY (by omega),za1 (by omega),<-xe,Yk]
   refine JfS s (by omega) _ _ _ _ rfl ⟨by omega,by omega,by omega⟩ ⟨⟨by omega,by omega,by omega⟩,?_⟩
   rw [Zbn (by omega),Zbn (by omega)]
   have hx:=jgc (w.drop (Zl w));refine zgc hs (by omega) (by omega) (Zha (jE (s.drop i.toNat)) (jE (s.drop (i+((jE (s.drop i.toNat)).length:Int)+1).toNat)) (hb (s.drop i.toNat)) K) false ?_
   rw [eF];refine Jdx (JaQ _) (JaQ _) (by omega) (by omega) hx ?_
   unfold zbn zae at h;simp only [q7,Hh,yj] at h |-;rw [eW,eV] at h;rw [hbw];have ej:i+((Zl w+(Za0 (w.drop (Zl w))).2:Nat):Int)=i+((jE (s.drop i.toNat)).length:Int)+1+((jE (s.drop (i+((jE (s.drop i.toNat)).length:Int)+1).toNat)).length:Int)+((Za0 (w.drop (Zl w))).2:Int):=by
    have:Zl w=zA w+(1+(zbD w).length):=by unfold Zl;rw [ya q7]
    have h3:zA w=ZaQ w+(zaJ w).length:=rfl;rw [eV] at this;rw [eW,hsn] at h3;omega
   rw [<-ej];exact h
  ·rw [eB] at q7;have eF:s.drop (i+((jE (s.drop i.toNat)).length:Int)).toNat=w.drop (Zl w):=by
    unfold Zl;rw [ga (by rw [q7];decide),Re,eB]
   have eV:zbD w=[]:=by
    unfold zbD;rw [ga (by rw [q7];decide)]
   rw [Zbn (by omega)]
   have hx:=jgc (w.drop (Zl w));refine zgc hs (by omega) (by omega) (Zha (jE (s.drop i.toNat)) [] (hb (s.drop i.toNat)) K) true ?_
   rw [eF];refine Jdx (JaQ _) (λb hb=>by cases hb) (by omega) (dg _) hx ?_
   unfold zbn zae at h;simp only [q7,Rg,Yg] at h |-;rw [eW,eV] at h;rw [hbw];have ej:i+((Zl w+(Za0 (w.drop (Zl w))).2:Nat):Int)=i+((jE (s.drop i.toNat)).length:Int)+((Za0 (w.drop (Zl w))).2:Int):=by
    have:Zl w=zA w:=by unfold Zl;rw [ga (by rw [q7];decide),Re]
    have h3:zA w=ZaQ w+(zaJ w).length:=rfl;rw [eW,hsn] at h3;omega
   rw [<-ej];exact h
theorem Jha (w:List UInt8):ZaQ w<=w.length:=by
 unfold ZaQ;split
 ·rename_i q;cases w with
  | nil=>exact absurd q (by decide)
  | cons c w=>simp
 ·exact dg _
theorem JeR {w:List UInt8} {n:Nat} (h:hb (w.drop n)≠0):n<w.length:=by
 by_cases q:n<w.length
 ·exact q
 ·rw [Hi (by omega)] at h;exact absurd rfl h
theorem zfT (w:List UInt8):zA w<=w.length:=by
 have h:=ZaY (w.drop (ZaQ w));have h2:=Jha w;rw [Hb] at h;unfold zA zaJ;omega
theorem ZhK {w:List UInt8} (h:JQ w=true):hb w=46:=by
 unfold JQ at h;rw [yb] at h;exact Ha h.1
theorem jfT (w:List UInt8):Zl w<=w.length:=by
 have h:=zfT w;unfold Zl;split
 ·rename_i q;have hl:=JeR (w:=w) (n:=zA w) (by rw [ZhK q];decide)
  have h2:=ZaY (w.drop (zA w)).tail;unfold zbD;rw [ya q];rw [List.length_tail,Hb] at h2;omega
 ·omega
theorem JhK (w:List UInt8):(Za0 w).2<=w.length:=by
 unfold Za0;split
 ·rename_i q;rw [yb] at q;cases w with
  | nil=>exact absurd q.1 (by decide)
  | cons c w=>
   by_cases q2:mSg (hb (c::w).tail)=true
   ·rw [ya q2,ya q2];cases w with
    | nil=>exact absurd (show mSg (hb [])=true from q2) (by decide)
    | cons d w=>
     have:=ZaY w;show 2+(jE w).length<=w.length+1+1;omega
   ·rw [ga q2,ga q2];have:=ZaY w;show 1+(jE w).length<=w.length+1;omega
 ·simp
theorem zd3 (w:List UInt8):zae w<=w.length:=by
 have h:=JhK (w.drop (Zl w));have h2:=jfT w;rw [Hb] at h;unfold zae;omega
theorem ZfT {w:List UInt8} (h:Za7 w=true):1<=zae w:=by
 unfold zae
 suffices q:1<=Zl w by omega
 unfold Zl;cases q:mSg (hb w) with
 | true=>
  have:1<=zA w:=by unfold zA ZaQ;rw [ya q];omega
  omega
 | false=>
  have e:ZaQ w=0:=by unfold ZaQ;rw [ga (by rw [q];decide)]
  unfold Za7 at h;rw [ga (by rw [q];decide),xg] at h
  cases w with
  | nil=>rcases h with h|h <;> exact absurd h (by decide)
  | cons c w=>
  cases q2:mD (c.toNat:Int) with
  | true=>
   have:zA (c::w)=(jE (c::w)).length:=by unfold zA zaJ;rw [e,dd,dh]
   rw [digs_pos q2,da] at this;omega
  | false=>
   have:zA (c::w)=0:=by unfold zA zaJ;rw [e,dd,dh,digs_neg q2];rfl
   rw [this,dh];rcases h with h|h
   ·rw [jc,q2] at h;cases h
   ·rw [ya h];omega
theorem jis {w:List UInt8} (h:mSp (hb w)=true):1<=nSp w:=by
 cases w with
 | nil=>exact absurd h (by decide)
 | cons c w=>rw [jc] at h;unfold nSp;rw [ya h];omega
theorem zhb {w:List UInt8} (h:Jx w=true):1<=(jj w).2:=by
 cases w with
 | nil=>exact absurd h (by decide)
 | cons c w=>
  rw [jj,ya h];split <;> simp only <;> omega
theorem Zis {w:List UInt8} (h:Js w=true):Jx w=true:=by
 unfold Js at h;unfold Jx mN;split at h
 ·rw [xg] at h;rcases h with h|h <;> rw [h] <;> simp
 ·rename_i q;have q:hb w=45:=by simpa using q
  rw [q];have e:(mD 45||decide ((45:Int)=45))=true:=by decide
  rw [e,Qk,Yh]
theorem zhL (q:Int) (w:List UInt8):(strM q w).2.2<=w.length:=by
 induction hn:w.length using Nat.strongRecOn generalizing w with
 | _ n ih=>
  cases w with
  | nil=>rw [strM];simp
  | cons c w=>
   rw [da] at hn;rw [strM.eq_def];simp only;split
   ·simp only;omega
   ·split
    ·simp
    ·split
     ·have:=ih w.length (by omega) w rfl
      simp only;omega
     ·cases w with
      | nil=>simp only [Hd] at hn |-;omega
      | cons d v=>
       rw [da] at hn;simp only;split
       ·have:=ih v.length (by omega) v rfl
        simp only;omega
       ·have he:=Ja7 (d::v);rw [da] at he;have:=ih ((d::v).drop (ZT (d::v)).2).length (by rw [Hb,da];omega) _ rfl
        rw [Hb,da] at this;simp only;omega
theorem jhL (w:List UInt8):Zfm w<=w.length:=by
 induction hn:w.length using Nat.strongRecOn generalizing w with
 | _ n ih=>
  cases w with
  | nil=>rw [Zfm];simp
  | cons c w=>
   rw [da] at hn;rw [Zfm];split
   ·omega
   ·split
    ·have he:=Ja7 w;have:=ih (w.drop (ZT w).2).length (by rw [Hb];omega) (w.drop (ZT w).2) rfl
     rw [Hb] at this;omega
    ·have:=ih w.length (by omega) w rfl
     omega
theorem Jfo (w:List UInt8):(JU w).2<=w.length:=by
 have ha:=ZcE w;have hu:=jgb (w.drop (nSp w));have hb:=jhL (w.drop (nSp w+(Za2 (w.drop (nSp w))).2));rw [Hb] at hu hb;unfold JU;simp only;split
 ·simp only;omega
 ·split
  ·rename_i q;have:=JeR (w:=w) (n:=nSp w+(Za2 (w.drop (nSp w))).2) (by rw [q];decide)
   simp only;omega
  ·simp only;omega
theorem jgy {w:List UInt8}:(zaf w).2<=w.length:=by
 have hn:=Jcc w;unfold zaf;simp only;split
 ·simp only;omega
 ·rename_i q;have q:hb (w.drop (jj w).2)=40:=by simpa using q
  have hl:=JeR (w:=w) (n:=(jj w).2) (by rw [q];decide)
  have hu:=Jfo (w.drop (jj w).2).tail;rw [List.length_tail,Hb] at hu;split
  ·simp only;omega
  ·simp only;omega
theorem Zgy {w:List UInt8} (h:Js w=true):1<=(zaf w).2:=by
 have:=zhb (Zis h);unfold zaf;simp only;split
 ·simp only;omega
 ·split <;> simp only <;> omega
theorem zfp (w:List UInt8):(Zn w).2<=w.length:=by
 have h:=zd3 w;have e:(zbn w).2.2=zae w:=rfl;have hn:=Jcc (w.drop (zbn w).2.2);rw [Hb] at hn;unfold Zn;simp only;split
 ·simp only;omega
 ·split
  ·rename_i q;have:=JeR (w:=w) (n:=(zbn w).2.2) (by rw [q];decide)
   simp only;omega
  ·simp only;omega
theorem jfp {w:List UInt8} (h:Za7 w=true):1<=(Zn w).2:=by
 have h:=ZfT h;have e:(zbn w).2.2=zae w:=rfl;unfold Zn;simp only;split
 ·simp only;omega
 ·split <;> simp only <;> omega
theorem zcF {a w:List UInt8} (h:a.isPrefixOf w=true):a.length<=w.length:=(dn.mp h).length_le
theorem ZhL {w:List UInt8} (hw:w≠[]):1<=(Jfm w).2/\(Jfm w).2<=w.length:=by
 have hl:1<=w.length:=by cases w with|nil=>exact absurd rfl hw|cons c w=>simp
 unfold Jfm;split
 ·rename_i q;exact ⟨Zgy q,jgy⟩
 ·split <;> exact ⟨Ra _,hl⟩
theorem JhL {w:List UInt8} (hw:w≠[]):1<=(JfR w).2/\(JfR w).2<=w.length:=by
 unfold JfR;split
 ·have:=Jcc w.tail;cases w with
  | nil=>exact absurd rfl hw
  | cons c w=>simp only [Hc,da] at this |-;omega
 ·exact ZhL hw
theorem zhM {w:List UInt8} (hw:w≠[]):1<=(Zek w).2/\(Zek w).2<=w.length:=by
 unfold Zek;split
 ·rename_i q;exact ⟨jfp q,zfp w⟩
 ·split
  ·rename_i q;exact ⟨by decide,zcF q⟩
  ·split
   ·rename_i q;exact ⟨by decide,zcF q⟩
   ·exact JhL hw
theorem Zgc {w:List UInt8} (hw:w≠[]):1<=(zy w).2/\(zy w).2<=w.length:=by
 unfold zy;split
 ·rename_i q;exact ⟨jis q,ZcE w⟩
 ·split
  ·have:=zhL (hb w) w.tail;cases w with
   | nil=>exact absurd rfl hw
   | cons c w=>simp only [Hc,da] at this |-;omega
  ·split
   ·have:=Jcc w.tail;cases w with
    | nil=>exact absurd rfl hw
    | cons c w=>simp only [Hc,da] at this |-;omega
   ·exact zhM hw
theorem jd3:∀(w:List UInt8) (k:Nat),zW w=some k->k+2<=w.length
 | [],k,h=>by cases h
 | c::w,k,h=>by
  unfold zW at h;split at h
  ·rename_i q;obtain rfl:=Rd h;cases w with
   | nil=>exact absurd q.2 (by decide)
   | cons d w=>simp
  ·cases hc:zW w with
   | none=>rw [hc] at h;cases h
   | some m=>
    rw [hc] at h;have h:m+1=k:=Rd h;have:=jd3 w m hc;rw [da];omega
theorem Jgc (w:List UInt8):comM w<=w.length:=by
 induction hn:w.length using Nat.strongRecOn generalizing w with
 | _ n ih=>
  rw [comM];split
  ·rename_i q;have hp:=zcF q;simp only [da,Hd] at hp;split
   ·omega
   ·rename_i k hk;have:=jd3 _ _ hk;rw [Hb] at this;split
    ·exact dg _
    ·have h2:=ih (w.drop (2+(k+2))).length (by rw [Hb];omega) _ rfl
     rw [Hb] at h2;omega
  ·exact dg _
def jhb:Zbk:=λs c K=>K (c.isPrefixOf s)
theorem jjm (s c K) (h:jhb s c K):jeI s c K:=by
 unfold jhb at h;refine ⟨λq=>⟨⟨by omega,Ha q⟩,?_⟩,λq=>?_⟩
 ·have e:(s.take (c.length:Int).toNat==c)=c.isPrefixOf s:=by
   rw [xj];cases q:c.isPrefixOf s with
   | true=>
    have:=List.prefix_iff_eq_take.mp (dn.mp q);rw [<-this];exact beq_self_eq_true _
   | false=>
    cases q2:s.take c.length==c with
    | false=>rfl
    | true=>
     have:=dn.mpr (List.prefix_iff_eq_take.mpr (eq_of_beq q2).symm);rw [q] at this;cases this
  rw [e];exact h
 ·have q:=gb q;cases q2:c.isPrefixOf s with
  | false=>rw [q2] at h;exact h
  | true=>have:=zcF q2;exfalso;omega
def ZgE:zC:=λs c K=>K (c.isPrefixOf s)
theorem ZjJ (s c K) (h:ZgE s c K):zeJ jhb s c K:=h
def Zhb:zaV:=λs c K=>s.length<=1000000/\K (Lib.index s c)
def Jhb:jJ:=λs c K=>s.length<=1000000/\K (Lib.index s c)
theorem Zjm (s c K) (h:Jhb s c K):jc5 Zhb s c K:=h
theorem Zd3:∀w:List UInt8,Lib.index w [42,47]=match zW w with|none=>-1|some k=>(k:Int)
 | []=>rfl
 | c::w=>by
  have ih:=Zd3 w;have hp:([42,47]:List UInt8).isPrefixOf (c::w)=decide (c=42/\hb w=47):=by
   by_cases q:c=42
   ·cases w with
    | nil=>subst q;rfl
    | cons d w=>
     subst q;by_cases q2:(d.toNat:Int)=47
     ·have:d=47:=UInt8.toNat_inj.mp (by show d.toNat=47;omega)
      subst this;simp [List.isPrefixOf]
     ·have:(47:UInt8)≠d:=λe=>q2 (by rw [<-e];rfl)
      simp [List.isPrefixOf,q2,this]
   ·have:(42:UInt8)≠c:=λe=>q e.symm
    simp [List.isPrefixOf,q,this]
  unfold Lib.index zW;rw [hp];by_cases q:c=42/\hb w=47
  ·rw [ya (Qg q),ya q];rfl
  ·rw [ga (by rw [Ye q];decide),ga q,ih]
   cases zW w with
   | none=>rfl
   | some k=>
    simp only [yg];rw [ga (by simp only [beq_iff_eq];omega),Int.natCast_add]
    rfl
theorem ziZ (s:List UInt8) (hs:s.length<=1000000) (K:Int->Prop):∀(n:Nat) (w:List UInt8) (i:Int),w.length<=n->s.drop i.toNat=w->0<=i->i<=s.length->K (i+(comM w:Int))->∃m,J8 ZgE Jhb m s i (λy=>K y) (λy=>K y):=by
 intro n
 induction n with
 | zero=>
  intro w i hn hd h0 hi h;have:w=[]:=Rk.mp (by omega)
  subst this;rw [comM] at h;refine ⟨1,⟨h0,hi⟩,λq=>?_,λ_=>by simpa [List.isPrefixOf] using h⟩
  rw [hd] at q;exact absurd q (by decide)
 | succ n ih=>
  intro w i hn hd h0 hi h;have hlw:=Ya List.length hd;rw [Hb] at hlw;rw [comM] at h;cases q:([47,42]:List UInt8).isPrefixOf w with
  | false=>
   rw [q] at h;refine ⟨1,⟨h0,hi⟩,λq2=>?_,λ_=>by simpa using h⟩
   rw [hd,q] at q2;cases q2
  | true=>
   have hp:=zcF q;simp only [da,Hd] at hp;rw [q,ya rfl] at h;have e2:s.drop (i+2).toNat=w.drop 2:=by rw [<-hd];exact JbY h0 2
   have hidx:=Zd3 (w.drop 2);cases hc:zW (w.drop 2) with
   | none=>
    rw [hc] at h hidx;refine ⟨1,⟨h0,hi⟩,λ_=>⟨Zai (by omega),⟨by omega,by omega⟩,by rw [Hb];omega,?_⟩,λq2=>?_⟩
    ·rw [e2,hidx];refine ⟨λ_=>?_,λq2=>absurd q2 (by decide)⟩
     have e:i+(w.length:Int)=s.length:=by omega
     simp only at h;rw [e] at h;exact h
    ·rw [hd,q] at q2;cases q2
   | some k=>
    rw [hc] at h hidx;simp only at h hidx;have hk:=jd3 _ _ hc;rw [Hb] at hk;rw [ga (λe=>by rw [e] at hp;simp at hp)] at h
    obtain ⟨m,hm⟩:=ih (w.drop (2+(k+2))) (i+2+((k:Int)+2)) (by rw [Hb];omega) (by
     rw [<-hd,<-JbY h0];congr 2;omega) (by omega) (by omega) (by
     have e:i+2+((k:Int)+2)+(comM (w.drop (2+(k+2))):Int)=i+((2+(k+2)+comM (w.drop (2+(k+2))):Nat):Int):=by omega
     rw [e];exact h)
    refine ⟨m+1,⟨h0,hi⟩,λ_=>⟨Zai (by omega),⟨by omega,by omega⟩,by rw [Hb];omega,?_⟩,λq2=>?_⟩
    ·rw [e2,hidx];exact ⟨λq2=>(by exfalso;have:=Ha q2;omega),λ_=>⟨Zai (by omega),Zai (by omega),hm⟩⟩
    ·rw [hd,q] at q2;cases q2
def zhc:Jh:=λs i K=>(0<=i/\i<=s.length/\s.length<=1000000)/\K (i+(comM (s.drop i.toNat):Int))
theorem Jjm (s i K) (h:zhc s i K):jaV ZgE Jhb s i K:=ziZ s h.1.2.2 K _ _ _ (Ra _) rfl h.1.1 h.1.2.1 h.2
theorem zgd:marksL=marksA:=rfl
def ZcR:JaG:=λc K=>(0<=c/\c<=255)/\K (decide (zbu c≠0))
theorem jiZ (c K) (h:ZcR c K):Jc5 c K:=by
 obtain ⟨⟨h0,h1⟩,h⟩:=h;unfold zbu at h;refine ⟨Zai (by omega),λq=>⟨⟨h0,Ha q⟩,?_,?_⟩,λq=>?_⟩
 ·have:=Ha q;show 0+c.toNat*1<126;omega
 ·rw [ya (Ha q)] at h;rw [dd,Hj,zgd];exact h
 ·rw [ga (gb q)] at h;exact h
def jcd:zV:=λs i K=>(0<=i/\i<=s.length/\s.length<=400000)/\K (Zn (s.drop i.toNat)).1 (i+((Zn (s.drop i.toNat)).2:Int))
theorem jhc (s i K) (h:jcd s i K):Jbq jhK JaV jcu zn s i K:=by
 obtain ⟨⟨h0,hi,hs⟩,h⟩:=h;have hl:=zd3 (s.drop i.toNat);rw [Hb] at hl;have e:(zbn (s.drop i.toNat)).2.2=zae (s.drop i.toNat):=rfl;unfold Zn at h;simp only at h;rw [<-JbY h0] at h;rw [e] at h;refine ⟨⟨h0,hi,hs⟩,?_⟩;rw [e];refine ⟨⟨⟨by omega,by omega,by omega⟩,by omega⟩,λq=>⟨⟨by omega,by omega,by omega⟩,?_⟩,λq=>⟨by omega,λq2=>⟨Zai (by omega),?_⟩,λq2=>?_⟩⟩
 ·rw [ya q] at h;simp only [Int.natCast_add,<-Int.add_assoc] at h;exact h
 ·rw [ga (by rw [q];decide),ya (Ha q2)] at h
  simp only [Int.natCast_add,<-Int.add_assoc] at h;exact h
 ·rw [ga (by rw [q];decide),ga (gb q2)] at h
  exact h
theorem Jh3 {s:List UInt8} {i:Int} {c:UInt8} {v:List UInt8} {K:Tok->Int->Prop} (h0:0<=i) (hs:s.length<=400000) (hd:s.drop i.toNat=c::v) (h:K (Jfm (c::v)).1 (i+((Jfm (c::v)).2:Int))) :
  (JaV s i (λy18=>((y18=true->(JbQ s i (λy19 y20=>K (Tok.mk y19.kind y19.text y19.num y19.unit y19.flag) y20)))/\(y18=false->((0<=i/\i<(s.length:Int))/\(ZcR ((s.getD i.toNat 0).toNat:Int) (λy21=>((y21=true->((0<=i/\i<(s.length:Int))/\((0<=((s.getD i.toNat 0).toNat:Int)/\((s.getD i.toNat 0).toNat:Int)<(126:Int))/\(0+((s.getD i.toNat 0).toNat:Int).toNat*1<marksL.length/\(I64 (i+(1:Int))/\K (Tok.mk (marksL.getD (0+((s.getD i.toNat 0).toNat:Int).toNat*1) 0) ([]:List UInt8) (0:Int) ([]:List UInt8) false) (i+(1:Int)))))))/\(y21=false->(I64 (i+(1:Int))/\((0<=i/\i<=(i+(1:Int))/\(i+(1:Int))<=(s.length:Int))/\(I64 (i+(1:Int))/\K (Tok.mk (9:Int) ((s.drop i.toNat).take ((i+(1:Int)).toNat-i.toNat)) (0:Int) ([]:List UInt8) false) (i+(1:Int)))))))))))))):=by
 obtain ⟨hl,hc,hn,_⟩:=jx h0 hd;unfold Jfm at h;refine ⟨⟨⟨h0,by omega,by omega⟩,by omega⟩,?_⟩
 rw [hd,hc];refine ⟨λq=>⟨⟨h0,by omega,by omega⟩,by omega,?_⟩,λq=>⟨⟨h0,hl⟩,Zfn c,λq2=>?_,λq2=>?_⟩⟩
 ·rw [hd];rw [ya q] at h;generalize zaf (c::v)=r at h |-;exact h
 ·have q3:=Ha q2;rw [ga (by rw [q];decide),jc,ya q3] at h
  have hlt:(c.toNat:Int)<126:=by
   by_cases q4:(c.toNat:Int)<126
   ·exact q4
   ·unfold zbu at q3;rw [ga q4] at q3;exact absurd rfl q3
  refine ⟨⟨h0,hl⟩,⟨(Zfn c).1,hlt⟩,by show 0+(c.toNat:Int).toNat*1<126;omega,Zai (by omega),?_⟩
  rw [dd,Hj,zgd];unfold zbu at h;rw [ya hlt] at h;exact h
 ·have q3:=gb q2;rw [ga (by rw [q];decide),jc,ga q3] at h
  refine ⟨Zai (by omega),⟨h0,by omega,by omega⟩,Zai (by omega),?_⟩
  have e:(i+1).toNat-i.toNat=1:=by omega
  rw [e];exact h
theorem ZiZ {s:List UInt8} {i:Int} {c:UInt8} {v:List UInt8} {K:Tok->Int->Prop} (h0:0<=i) (hs:s.length<=400000) (hd:s.drop i.toNat=c::v) (h:K (JfR (c::v)).1 (i+((JfR (c::v)).2:Int))) :
  ((0<=i/\i<(s.length:Int))/\(((decide (((s.getD i.toNat 0).toNat:Int)=(64:Int)))=true->(I64 (i+(1:Int))/\(JaV s (i+(1:Int)) (λy15=>((y15=true->(I64 (i+(1:Int))/\(jcu s (i+(1:Int)) (λy16 y17=>K (Tok.mk (3:Int) y16 (0:Int) ([]:List UInt8) false) y17))))/\(y15=false->(JaV s i (λy18=>((y18=true->(JbQ s i (λy19 y20=>K (Tok.mk y19.kind y19.text y19.num y19.unit y19.flag) y20)))/\(y18=false->((0<=i/\i<(s.length:Int))/\(ZcR ((s.getD i.toNat 0).toNat:Int) (λy21=>((y21=true->((0<=i/\i<(s.length:Int))/\((0<=((s.getD i.toNat 0).toNat:Int)/\((s.getD i.toNat 0).toNat:Int)<(126:Int))/\(0+((s.getD i.toNat 0).toNat:Int).toNat*1<marksL.length/\(I64 (i+(1:Int))/\K (Tok.mk (marksL.getD (0+((s.getD i.toNat 0).toNat:Int).toNat*1) 0) ([]:List UInt8) (0:Int) ([]:List UInt8) false) (i+(1:Int)))))))/\(y21=false->(I64 (i+(1:Int))/\((0<=i/\i<=(i+(1:Int))/\(i+(1:Int))<=(s.length:Int))/\(I64 (i+(1:Int))/\K (Tok.mk (9:Int) ((s.drop i.toNat).take ((i+(1:Int)).toNat-i.toNat)) (0:Int) ([]:List UInt8) false) (i+(1:Int))))))))))))))))))))/\((decide (((s.getD i.toNat 0).toNat:Int)=(64:Int)))=false->(JaV s i (λy22=>((y22=true->(JbQ s i (λy23 y24=>K (Tok.mk y23.kind y23.text y23.num y23.unit y23.flag) y24)))/\(y22=false->((0<=i/\i<(s.length:Int))/\(ZcR ((s.getD i.toNat 0).toNat:Int) (λy25=>((y25=true->((0<=i/\i<(s.length:Int))/\((0<=((s.getD i.toNat 0).toNat:Int)/\((s.getD i.toNat 0).toNat:Int)<(126:Int))/\(0+((s.getD i.toNat 0).toNat:Int).toNat*1<marksL.length/\(I64 (i+(1:Int))/\K (Tok.mk (marksL.getD (0+((s.getD i.toNat 0).toNat:Int).toNat*1) 0) ([]:List UInt8) (0:Int) ([]:List UInt8) false) (i+(1:Int)))))))/\(y25=false->(I64 (i+(1:Int))/\((0<=i/\i<=(i+(1:Int))/\(i+(1:Int))<=(s.length:Int))/\(I64 (i+(1:Int))/\K (Tok.mk (9:Int) ((s.drop i.toNat).take ((i+(1:Int)).toNat-i.toNat)) (0:Int) ([]:List UInt8) false) (i+(1:Int))))))))))))))))):=by
 obtain ⟨hl,hc,hn,_⟩:=jx h0 hd;unfold JfR at h;refine ⟨⟨h0,hl⟩,λq=>?_,λq=>?_⟩
 ·have q:=Ha q;rw [hc] at q;refine ⟨Zai (by omega),⟨⟨⟨by omega,by omega,by omega⟩,by omega⟩,?_⟩⟩
  rw [hn];refine ⟨λq2=>⟨Zai (by omega),⟨by omega,by omega,by omega⟩,?_⟩,λq2=>?_⟩
  ·rw [jc,ya ⟨q,q2⟩] at h;rw [hn];have e:i+((1+(jj v).2:Nat):Int)=i+1+((jj v).2:Int):=by omega
   rw [Hc,e] at h;exact h
  ·rw [ga (λx=>by have:=x.2;rw [Hc,q2] at this;cases this)] at h
   exact Jh3 (K:=K) h0 hs hd h
 ·have q:=gb q;rw [hc] at q;rw [ga (λx=>q (by rw [jc] at x;exact x.1))] at h
  exact Jh3 (K:=K) h0 hs hd h
theorem zh4 {s:List UInt8} {i:Int} {c:UInt8} {v:List UInt8} {K:Tok->Int->Prop} (h0:0<=i) (hs:s.length<=400000) (hd:s.drop i.toNat=c::v) (h:K (Zek (c::v)).1 (i+((Zek (c::v)).2:Int))) :
  (Jfn s i (λy10=>((y10=true->(jcd s i (λy11 y12=>K (Tok.mk y11.kind y11.text y11.num y11.unit y11.flag) y12)))/\(y10=false->((0<=i/\i<=(s.length:Int))/\(ZgE (s.drop i.toNat) ([45,45,62]:List UInt8) (λy13=>((y13=true->(I64 (i+(3:Int))/\K (Tok.mk (15:Int) ([]:List UInt8) (0:Int) ([]:List UInt8) false) (i+(3:Int))))/\(y13=false->((0<=i/\i<=(s.length:Int))/\(ZgE (s.drop i.toNat) ([60,33,45,45]:List UInt8) (λy14=>((y14=true->(I64 (i+(4:Int))/\K (Tok.mk (14:Int) ([]:List UInt8) (0:Int) ([]:List UInt8) false) (i+(4:Int))))/\(y14=false->((0<=i/\i<(s.length:Int))/\(((decide (((s.getD i.toNat 0).toNat:Int)=(64:Int)))=true->(I64 (i+(1:Int))/\(JaV s (i+(1:Int)) (λy15=>((y15=true->(I64 (i+(1:Int))/\(jcu s (i+(1:Int)) (λy16 y17=>K (Tok.mk (3:Int) y16 (0:Int) ([]:List UInt8) false) y17))))/\(y15=false->(JaV s i (λy18=>((y18=true->(JbQ s i (λy19 y20=>K (Tok.mk y19.kind y19.text y19.num y19.unit y19.flag) y20)))/\(y18=false->((0<=i/\i<(s.length:Int))/\(ZcR ((s.getD i.toNat 0).toNat:Int) (λy21=>((y21=true->((0<=i/\i<(s.length:Int))/\((0<=((s.getD i.toNat 0).toNat:Int)/\((s.getD i.toNat 0).toNat:Int)<(126:Int))/\(0+((s.getD i.toNat 0).toNat:Int).toNat*1<marksL.length/\(I64 (i+(1:Int))/\K (Tok.mk (marksL.getD (0+((s.getD i.toNat 0).toNat:Int).toNat*1) 0) ([]:List UInt8) (0:Int) ([]:List UInt8) false) (i+(1:Int)))))))/\(y21=false->(I64 (i+(1:Int))/\((0<=i/\i<=(i+(1:Int))/\(i+(1:Int))<=(s.length:Int))/\(I64 (i+(1:Int))/\K (Tok.mk (9:Int) ((s.drop i.toNat).take ((i+(1:Int)).toNat-i.toNat)) (0:Int) ([]:List UInt8) false) (i+(1:Int))))))))))))))))))))/\((decide (((s.getD i.toNat 0).toNat:Int)=(64:Int)))=false->(JaV s i (λy22=>((y22=true->(JbQ s i (λy23 y24=>K (Tok.mk y23.kind y23.text y23.num y23.unit y23.flag) y24)))/\(y22=false->((0<=i/\i<(s.length:Int))/\(ZcR ((s.getD i.toNat 0).toNat:Int) (λy25=>((y25=true->((0<=i/\i<(s.length:Int))/\((0<=((s.getD i.toNat 0).toNat:Int)/\((s.getD i.toNat 0).toNat:Int)<(126:Int))/\(0+((s.getD i.toNat 0).toNat:Int).toNat*1<marksL.length/\(I64 (i+(1:Int))/\K (Tok.mk (marksL.getD (0+((s.getD i.toNat 0).toNat:Int).toNat*1) 0) ([]:List UInt8) (0:Int) ([]:List UInt8) false) (i+(1:Int)))))))/\(y25=false->(I64 (i+(1:Int))/\((0<=i/\i<=(i+(1:Int))/\(i+(1:Int))<=(s.length:Int))/\(I64 (i+(1:Int))/\K (Tok.mk (9:Int) ((s.drop i.toNat).take ((i+(1:Int)).toNat-i.toNat)) (0:Int) ([]:List UInt8) false) (i+(1:Int))))))))))))))))))))))))))))))):=by
 obtain ⟨hl,hc,hn,hv⟩:=jx h0 hd;unfold Zek at h;refine ⟨⟨⟨h0,by omega,by omega⟩,by omega⟩,?_⟩
 refine ⟨λq=>⟨⟨h0,by omega,hs⟩,?_⟩,λq=>⟨⟨h0,by omega⟩,λq2=>?_,λq2=>⟨⟨h0,by omega⟩,λq3=>?_,λq3=>?_⟩⟩⟩
 ·rw [hd] at q;rw [ya q] at h;rw [hd];generalize Zn (c::v)=r at h |-;exact h
 ·rw [hd] at q q2;rw [ga (by rw [q];decide),ya q2] at h
  have h3:=zcF q2;have h3:3<=v.length+1:=h3;have h4:-100000000<=i+3/\i+3<=100000000:=by omega
  exact ⟨Zai h4,h⟩
 ·rw [hd] at q q2 q3;rw [ga (by rw [q];decide),ga (by rw [q2];decide),ya q3] at h
  have h3:=zcF q3;have h3:4<=v.length+1:=h3;have h4:-100000000<=i+4/\i+4<=100000000:=by omega
  exact ⟨Zai h4,h⟩
 ·rw [hd] at q q2 q3;rw [ga (by rw [q];decide),ga (by rw [q2];decide),ga (by rw [q3];decide)] at h
  exact ZiZ (K:=K) h0 hs hd h
def Jd3:Jr:=λs i K=>(0<=i/\i<s.length/\s.length<=400000)/\K (zy (s.drop i.toNat)).1 (i+((zy (s.drop i.toNat)).2:Int))
theorem Jis (s i K) (h:Jd3 s i K):Zb6 ZaJ jhI jel zhJ jcE JaV jcu Jfn jcd ZgE JbQ ZcR s i K:=by
 obtain ⟨⟨h0,hl,hs⟩,h⟩:=h;cases hd:s.drop i.toNat with
 | nil=>have:=JR hd;exfalso;omega
 | cons c v=>
 obtain ⟨_,hc,hn,hv⟩:=jx h0 hd;rw [hd] at h;unfold zy at h;refine ⟨⟨h0,hl⟩,λq=>⟨⟨h0,by omega,by omega⟩,?_⟩,λq=>⟨⟨h0,hl⟩,λq2=>⟨⟨h0,hl,by omega⟩,?_⟩,λq2=>⟨⟨h0,hl⟩,λq3=>⟨Zai (by omega),⟨by omega,by omega,by omega⟩,λq4=>⟨Zai (by omega),⟨⟨by omega,by omega,by omega⟩,by omega⟩,Zai (by omega),⟨by omega,by omega,by omega⟩,?_⟩,λq4=>?_⟩,λq3=>?_⟩⟩⟩
 ·rw [hc] at q;rw [jc,ya q] at h;rw [hd];exact h
 ·rw [hc] at q q2;rw [jc,ga (by rw [q];decide),ya q2,Hc] at h
  rw [hd,hn,jc];unfold Jg8;have e:i+((1+(strM (c.toNat:Int) v).2.2:Nat):Int)=i+1+((strM (c.toNat:Int) v).2.2:Int):=by omega
  rw [e] at h;generalize strM (c.toNat:Int) v=r at h |-;exact h
 ·rw [hc] at q q2;have q3:=Ha q3;rw [hc] at q3;rw [hn] at q4 |-;rw [jc,ga (by rw [q];decide),ga (by rw [q2];decide),ya ⟨q3,q4⟩,Hc] at h
  have e:i+((1+(jj v).2:Nat):Int)=i+1+((jj v).2:Int):=by omega
  rw [e] at h;exact h
 ·rw [hc] at q q2;rw [hn] at q4;rw [jc,ga (by rw [q];decide),ga (by rw [q2];decide),ga (λx=>by have:=x.2;rw [Hc,q4] at this;cases this)] at h
  exact zh4 (K:=K) h0 hs hd h
 ·rw [hc] at q q2;have q3:=gb q3;rw [hc] at q3;rw [jc,ga (by rw [q];decide),ga (by rw [q2];decide),ga (λx=>q3 x.1)] at h
  exact zh4 (K:=K) h0 hs hd h
def JiJ:jg:=λs K=>K (decide (hb s=10))
theorem JjJ (s K) (h:JiJ s K):Jap s K:=by
 unfold JiJ at h;cases s with
 | nil=>exact ⟨λq=>absurd q (by decide),λ_=>h⟩
 | cons c w=>exact ⟨λ_=>⟨⟨by omega,by rw [da];omega⟩,h⟩,λq=>(by exfalso;have:=gb q;rw [da] at this;omega)⟩
theorem Jgy (s:List UInt8) (hs:s.length<=1000000) (Ke:List UInt8->Prop):∀(w:List UInt8) (i:Int) (b:List UInt8),s.drop i.toNat=w->0<=i->b.length+3*w.length<=10000000->Ke (b++Jt w)->∃m,Zae JiJ m s i b Ke
 | [],i,b,hd,h0,hbb,h=>by
  have:=JR hd;exact ⟨1,λq=>(by exfalso;have:=Ha q;omega),λ_=>by simpa [Jt] using h⟩
 | c::w,i,b,hd,h0,hbb,h=>by
  obtain ⟨hl,hc,hn,hv⟩:=jx h0 hd;rw [da] at hbb;have nofin:decide (i<(s.length:Int))=false->False:=λq=>by have:=gb q;omega
  by_cases c1:(c.toNat:Int)=0
  ·have e:Jt (c::w)=[239,191,189]++Jt w:=by rw [Jt,ya c1]
   rw [e,<-Qb] at h;obtain ⟨m,hm⟩:=Jgy s hs Ke w (i+1) _ hn (by omega) (by rw [Rb];simp only [da,Hd];omega) h
   refine ⟨m+1,λ_=>⟨⟨h0,hl⟩,λ_=>⟨by simp only [da,Hd];omega,Zai (by omega),hm⟩,λq=>?_⟩,λq=>(nofin q).elim⟩
   exact absurd (by rw [hc];exact c1) (gb q)
  ·have n1:¬decide (((s.getD i.toNat 0).toNat:Int)=0)=true:=λq=>c1 (by rw [<-hc];exact Ha q)
   by_cases c2:(c.toNat:Int)=12
   ·have e:Jt (c::w)=[10]++Jt w:=by rw [Jt,ga c1,ya c2];rfl
    rw [e,<-Qb] at h;obtain ⟨m,hm⟩:=Jgy s hs Ke w (i+1) _ hn (by omega) (by rw [Rb];simp only [da,Hd];omega) h
    refine ⟨m+1,λ_=>⟨⟨h0,hl⟩,λq=>absurd q n1,λ_=>⟨λ_=>⟨by decide,by simp only [da,Hd];omega,Zai (by omega),hm⟩,λq=>?_⟩⟩,λq=>(nofin q).elim⟩
    exact absurd (by rw [hc];exact c2) (gb q)
   ·have n2:¬decide (((s.getD i.toNat 0).toNat:Int)=12)=true:=λq=>c2 (by rw [<-hc];exact Ha q)
    by_cases c3:(c.toNat:Int)=13
    ·have n3:¬decide (((s.getD i.toNat 0).toNat:Int)=13)=false:=λq=>(gb q) (by rw [hc];exact c3)
     by_cases c4:hb w=10
     ·have e:Jt (c::w)=Jt w:=by rw [Jt,ga c1,ga c2,ya c3,ya c4]
      rw [e] at h;obtain ⟨m,hm⟩:=Jgy s hs Ke w (i+1) _ hn (by omega) (by omega) h
      refine ⟨m+1,λ_=>⟨⟨h0,hl⟩,λq=>absurd q n1,λ_=>⟨λq=>absurd q n2,λ_=>⟨λ_=>⟨Zai (by omega),⟨by omega,by omega⟩,λq=>?_,λ_=>⟨Zai (by omega),hm⟩⟩,λq=>absurd q n3⟩⟩⟩,λq=>(nofin q).elim⟩
      rw [hn,Qg c4] at q;exact absurd q (by decide)
     ·have e:Jt (c::w)=[10]++Jt w:=by rw [Jt,ga c1,ga c2,ya c3,ga c4];rfl
      rw [e,<-Qb] at h;obtain ⟨m,hm⟩:=Jgy s hs Ke w (i+1) _ hn (by omega) (by rw [Rb];simp only [da,Hd];omega) h
      refine ⟨m+1,λ_=>⟨⟨h0,hl⟩,λq=>absurd q n1,λ_=>⟨λq=>absurd q n2,λ_=>⟨λ_=>⟨Zai (by omega),⟨by omega,by omega⟩,λ_=>⟨by decide,by simp only [da,Hd];omega,Zai (by omega),hm⟩,λq=>?_⟩,λq=>absurd q n3⟩⟩⟩,λq=>(nofin q).elim⟩
      rw [hn,Ye c4] at q;exact absurd q (by decide)
    ·have n3:¬decide (((s.getD i.toNat 0).toNat:Int)=13)=true:=λq=>c3 (by rw [<-hc];exact Ha q)
     have e:Jt (c::w)=[c]++Jt w:=by rw [Jt,ga c1,ga c2,ga c3];rfl
     rw [e,<-Qb] at h;obtain ⟨m,hm⟩:=Jgy s hs Ke w (i+1) _ hn (by omega) (by rw [Rb];simp only [da,Hd];omega) h
     refine ⟨m+1,λ_=>⟨⟨h0,hl⟩,λq=>absurd q n1,λ_=>⟨λq=>absurd q n2,λ_=>⟨λq=>absurd q n3,λ_=>⟨⟨h0,hl⟩,?_⟩⟩⟩⟩,λq=>(nofin q).elim⟩
     rw [hc,Zh3];exact ⟨Zfn c,by simp only [da,Hd];omega,Zai (by omega),hm⟩
def zd4:jL:=λs K=>(4000<s.length->K [] 28)/\(s.length<=4000->K (Jt s) 0)
theorem zit (s K) (h:zd4 s K):ZdN JiJ s K:=by
 refine ⟨λq=>h.1 (by have:=Ha q;omega),λq=>?_⟩
 have q:=gb q;refine ⟨⟨by omega,by omega,by omega,by omega⟩,by decide,?_⟩
 exact Jgy s (by omega) _ s 0 [] rfl (by omega) (by simp only [Hd];omega) (h.2 (by omega))
theorem Zdd:∀s:List UInt8,(Jt s).length<=3*s.length
 | []=>Ra _
 | c::w=>by
  have:=Zdd w;rw [Jt,da];split
  ·rw [Rb];simp only [da,Hd];omega
  ·split
   ·rw [da];omega
   ·split
    ·split
     ·omega
     ·rw [da];omega
    ·rw [da];omega
def JiZ (t:Tok×Nat×Nat):Tok:=t.1
theorem zjn {s w:List UInt8} {p:Nat} (h:s.drop p=w) (n:Nat):s.drop (p+n)=w.drop n:=by rw [<-h,xe]
theorem ZjD (s:List UInt8) (hs:s.length<=100000) (Ke:List Tok->Prop) (Kr:Int->List Tok->Prop):∀(f:Nat) (w:List UInt8) (p:Nat) (x7:Int) (b:List Tok),w.length<=f->s.drop p=w->p<=s.length->x7=b.length->b.length<=1500->(b.length+(zhH f w p).length<=1500->Ke (b++(zhH f w p).map JiZ))->(1500<b.length+(zhH f w p).length->∀b',Kr 4 b')->∃m,Jaf zd4 zhc Jd3 m s x7 (p:Int) b Ke Kr
 | f,[],p,x7,b,hf,hd,hp,hx,hb,k1,k2=>by
  have hd':s.drop (p:Int).toNat=[]:=hd;have hl:=JR hd';have e:zhH f [] p=[]:=by cases f <;> rfl
  rw [e] at k1;exact ⟨1,λq=>(by exfalso;have:=Ha q;omega),λ_=>by simpa using k1 (by simpa using hb)⟩
 | 0,c::w,p,x7,b,hf,hd,hp,hx,hb,k1,k2=>by simp at hf
 | f+1,c::w,p,x7,b,hf,hd,hp,hx,hb,k1,k2=>by
  have hd':s.drop (p:Int).toNat=c::w:=hd;obtain ⟨hl,hc,hn,hv⟩:=jx (by omega) hd'
  have nofin:decide ((p:Int)<(s.length:Int))=false->False:=λq=>by have:=gb q;omega
  rw [zhH] at k1 k2;have ht:=Zgc (w:=c::w) (by simp)
  have hk:=Jgc ((c::w).drop (zy (c::w)).2);rw [Hb] at hk;rw [da] at ht hk hf;rw [da] at k1 k2;by_cases q:b.length=1500
  ·have kr:=k2 (by omega) b
   refine ⟨1,λ_=>⟨λ_=>kr,λp2=>(by exfalso;have:=gb p2;omega)⟩,λq=>(nofin q).elim⟩
  ·have e1:s.drop ((p:Int)+((zy (c::w)).2:Int)).toNat=(c::w).drop (zy (c::w)).2:=by rw [JbY (by omega),hd']
   obtain ⟨m,hm⟩:=ZjD s hs Ke Kr f ((c::w).drop ((zy (c::w)).2+comM ((c::w).drop (zy (c::w)).2))) (p+(zy (c::w)).2+comM ((c::w).drop (zy (c::w)).2)) (x7+1) (b++[JiZ ((zy (c::w)).1,p,p+(zy (c::w)).2)]) (by rw [Hb,da];omega) (by rw [Qf];exact zjn hd _) (by omega) (by rw [Rb,Yj];omega) (by rw [Rb,Yj];omega) (λh=>by
     rw [Qb];exact k1 (by rw [Rb,Yj] at h;omega)) (λh=>k2 (by rw [Rb,Yj] at h;omega))
   refine ⟨m+1,λ_=>⟨λp2=>(by exfalso;have:=Ha p2;omega),λ_=>⟨⟨by omega,hl,by omega⟩,?_⟩⟩,λq=>(nofin q).elim⟩
   rw [hd'];refine ⟨by simp only [Yj];omega,Zai (by omega),⟨by omega,by omega,by omega⟩,?_⟩
   rw [e1];have e2:(p:Int)+((zy (c::w)).2:Int)+(comM ((c::w).drop (zy (c::w)).2):Int)=((p+(zy (c::w)).2+comM ((c::w).drop (zy (c::w)).2):Nat):Int):=by omega
   rw [e2];exact hm
def zbR:Zab:=λs K=>(4000<s.length->K [] 28)/\(s.length<=4000->(Jd1 (Jt s)).length<=1500->K ((Jd1 (Jt s)).map JiZ) 0)/\(s.length<=4000->1500<(Jd1 (Jt s)).length->K [] 4)
theorem jhM (s K) (h:zbR s K):zdT zd4 zhc Jd3 s K:=by
 obtain ⟨h1,h2,h3⟩:=h;refine ⟨λq=>⟨λ_=>⟨λ_=>h1 q,λp=>absurd p (by decide)⟩,λp=>absurd p (by decide)⟩,λq=>⟨λp=>absurd p (by decide),λ_=>⟨⟨by omega,by omega,by have:=Zdd s;omega⟩,?_⟩⟩⟩
 have hc:=Zdd s;have hk:=Jgc (Jt s);have e0:(0:Int)+(comM ((Jt s).drop (0:Int).toNat):Int)=((comM (Jt s):Nat):Int):=by
  show (0:Int)+(comM ((Jt s).drop 0):Int)=_;rw [dh,Int.zero_add]
 rw [e0];refine ZjD (Jt s) (by omega) _ _ (Jt s).length ((Jt s).drop (comM (Jt s))) (comM (Jt s)) 0 [] (by rw [Hb];omega) rfl hk rfl (by simp) (λhL=>⟨λp=>absurd p (by decide),λ_=>?_⟩) (λhL b'=>⟨λ_=>h3 q ?_,λp=>absurd p (by decide)⟩)
 ·rw [Hd,dd] at hL;exact h2 q hL
 ·rw [Hd,dd] at hL;exact hL
