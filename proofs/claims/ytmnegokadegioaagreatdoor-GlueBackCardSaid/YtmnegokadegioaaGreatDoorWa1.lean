/-
 A model of the tokenizer: plain functions on the rest of a text. Nothing is claimed here.
-/
import Derived.Test.YtmnegokadegioaaGreatDoorTa
import Derived.Test.YtmnegokadegioaaGreatDoorTh
import Derived.Lib.Index
namespace Go.Proofs.YtmnegokadegioaaGreatDoor
open Go.Vm Go.Sx Go.RowKit
def mD (c:Int):Bool:=decide (48≤c)&&decide (c≤57)
def mL (c:Int):Bool:=(decide (97≤c)&&decide (c≤122))||(decide (65≤c)&&decide (c≤90))
def mSp (c:Int):Bool:=decide (c=10)||(decide (c=9)||decide (c=32))
def mQ (c:Int):Bool:=decide (c=34)||decide (c=39)
def mN0 (c:Int):Bool:=mL c||(decide (c=95)||decide (128≤c))
def mN (c:Int):Bool:=mN0 c||(mD c||decide (c=45))
def mSg (c:Int):Bool:=decide (c=43)||decide (c=45)
def mE (c:Int):Bool:=decide (c=101)||decide (c=69)
def hb:List UInt8→Int
 | []=>0
 | c::_=>(c.toNat:Int)
@[simp] theorem ZhA:hb []=0:=rfl
@[simp] theorem Jd (c:UInt8) (w:List UInt8):hb (c::w)=(c.toNat:Int):=rfl
def Jcj (w:List UInt8):Bool:=decide (hb w=92)&&decide (hb w.tail≠10)
def JC (w:List UInt8):Bool:=if hb w≠45 then mN0 (hb w)||Jcj w else mN0 (hb w.tail)||(decide (hb w.tail=45)||Jcj w.tail)
def jH (w:List UInt8):Bool:=mN (hb w)||Jcj w
def jaa (w:List UInt8):Bool:=decide (hb w=46)&&mD (hb w.tail)
def jbm (w:List UInt8):Bool:=if mSg (hb w) then mD (hb w.tail)||jaa w.tail else mD (hb w)||jaa w
def Zd9 (w:List UInt8):Bool:=if mSg (hb w) then mD (hb w.tail) else mD (hb w)
def nSp:List UInt8→Nat
 | []=>0
 | c::w=>if mSp (c.toNat:Int) then nSp w+1 else 0
def jcL (c:Int):Int×Bool:=if mD c then (c-48,true) else if 97≤c∧c≤102 then (c-87,true) else if 65≤c∧c≤70 then (c-55,true) else (0,false)
def JA:Nat→List UInt8→Int→Int×Nat
 | 0,_,a=>(a,0)
 | k+1,w,a=>if (jcL (hb w)).2 then ((JA k w.tail (a*16+(jcL (hb w)).1)).1,(JA k w.tail (a*16+(jcL (hb w)).1)).2+1) else (a,0)
abbrev b8 (n:Int):UInt8:=UInt8.ofNat n.toNat
def Jd4 (c:Int):List UInt8:=
 if c≤127 then [b8 c]
 else if c≤2047 then [b8 (192+c / 64),b8 (128+c%64)]
 else if 55296≤c∧c≤57343∨1114111<c then [b8 239,b8 191,b8 189]
 else if c≤65535 then [b8 (224+c / 4096),b8 (128+c / 64%64),b8 (128+c%64)]
 else [b8 (240+c / 262144),b8 (128+c / 4096%64),b8 (128+c / 64%64),b8 (128+c%64)]
def jf9 (c:UInt8) (w:List UInt8):List UInt8×Nat:=
 if (jcL (c.toNat:Int)).2 then
  (Jd4 (if (JA 6 (c::w) 0).1=0 then 65533 else (JA 6 (c::w) 0).1),(JA 6 (c::w) 0).2+(if mSp (hb ((c::w).drop (JA 6 (c::w) 0).2)) then 1 else 0))
 else ([c],1)
def jak:List UInt8→List UInt8×Nat
 | []=>(Jd4 65533,0)
 | c::w=>jf9 c w
def Zo:List UInt8→List UInt8×Nat
 | []=>([],0)
 | c::w=>
  if jH (c::w) then
   if (c.toNat:Int)=92 then
    ((jak w).1++(Zo (w.drop (jak w).2)).1,1+(jak w).2+(Zo (w.drop (jak w).2)).2)
   else (c::(Zo w).1,1+(Zo w).2)
  else ([],0)
termination_by w=>w.length
decreasing_by all_goals (simp only [List.length_drop,List.length_cons];omega)
def strM (q:Int):List UInt8→Bool×List UInt8×Nat
 | []=>(true,[],0)
 | c::w=>
  if (c.toNat:Int)=q then (true,[],1)
  else if (c.toNat:Int)=10 then (false,[],0)
  else if (c.toNat:Int)≠92 then ((strM q w).1,c::(strM q w).2.1,1+(strM q w).2.2)
  else match w with
   | []=>(true,[],1)
   | d::v=>if (d.toNat:Int)=10 then ((strM q v).1,(strM q v).2.1,2+(strM q v).2.2)
    else ((strM q ((d::v).drop (jak (d::v)).2)).1,(jak (d::v)).1++(strM q ((d::v).drop (jak (d::v)).2)).2.1,1+(jak (d::v)).2+(strM q ((d::v).drop (jak (d::v)).2)).2.2)
termination_by w=>w.length
decreasing_by all_goals (simp only [List.length_drop,List.length_cons];omega)
def ze5:List UInt8→Nat
 | []=>0
 | c::w=>
  if (c.toNat:Int)=41 then 1
  else if Jcj (c::w) then 1+(jak w).2+ze5 (w.drop (jak w).2)
  else 1+ze5 w
termination_by w=>w.length
decreasing_by all_goals (simp only [List.length_drop,List.length_cons];omega)
def Jd9 (c:Int):Bool:=decide (c=34)||decide (c=39)||decide (c=40)||decide (c=92)||decide (c=11)||decide (c=127)||decide (c≤8)||(decide (14≤c)&&decide (c≤31))
def Jct:List UInt8→List UInt8×Nat
 | []=>([],0)
 | c::w=>
  if (c.toNat:Int)=41 then ([],0)
  else if mSp (c.toNat:Int) then ([],nSp (c::w))
  else if Jcj (c::w) then ((jak w).1++(Jct (w.drop (jak w).2)).1,1+(jak w).2+(Jct (w.drop (jak w).2)).2)
  else if Jd9 (c.toNat:Int) then ([],0)
  else (c::(Jct w).1,1+(Jct w).2)
termination_by w=>w.length
decreasing_by all_goals (simp only [List.length_drop,List.length_cons];omega)
def tk (k:Int) (t:List UInt8:=[]) (n:Int:=0) (u:List UInt8:=[]) (f:Bool:=false):Tok:=⟨k,t,n,u,f⟩
def jU (w:List UInt8):Tok×Nat:=
 let a:=nSp w
 let u:=Jct (w.drop a)
 let v:=w.drop (a+u.2)
 if v=[] then (tk 7 u.1,a+u.2) else if hb v=41 then (tk 7 u.1,a+u.2+1) else (tk 8,a+u.2+ze5 v)
def low (c:Int):Int:=if 65≤c∧c≤90 then c+32 else c
def Z3:List UInt8→List UInt8→Bool
 | [],[]=>true
 | a::x,b::y=>decide (low (a.toNat:Int)=low (b.toNat:Int))&&Z3 x y
 | _,_=>false
def Jau (w:List UInt8):Tok×Nat:=
 let r:=Zo w
 let v:=w.drop r.2
 if hb v≠40 then (tk 1 r.1,r.2)
 else if Z3 r.1 [117,114,108]&&!mQ (hb (v.tail.drop (nSp v.tail))) then ((jU v.tail).1,r.2+1+(jU v.tail).2)
 else (tk 2 r.1,r.2+1)
def JE (w:List UInt8):List UInt8:=w.takeWhile fun c=>mD (c.toNat:Int)
def zck (a:Int) (c:UInt8):Int:=min (10*a+((c.toNat:Int)-48)) 8000
def Zb2 (w:List UInt8):Int:=w.foldl zck 0
def ZH (w:List UInt8):List UInt8:=w.dropWhile fun c=>c==48
def Ja9:Nat→List UInt8→Int→Int
 | 0,_,a=>a
 | k+1,[],a=>Ja9 k [] (a*10)
 | k+1,c::w,a=>Ja9 k w (a*10+((c.toNat:Int)-48))
def jey (w:List UInt8) (p:Int):Int:=
 let v:=ZH w
 let q:=p-((w.length:Int)-(v.length:Int))
 if v=[]∨q≤0 then 0 else if 13<q then 1000000000000 else min (Ja9 q.toNat v 0) 1000000000000
def Zbb (w:List UInt8):Int×Nat:=
 if mE (hb w)&&Zd9 w.tail then
  let v:=if mSg (hb w.tail) then w.tail.tail else w.tail
  (if hb w.tail=45 then 0-Zb2 (JE v) else Zb2 (JE v),(if mSg (hb w.tail) then 2 else 1)+(JE v).length)
 else (0,0)
def ZaR (w:List UInt8):Nat:=if mSg (hb w) then 1 else 0
def jaF (w:List UInt8):List UInt8:=JE (w.drop (ZaR w))
def jz (w:List UInt8):Nat:=ZaR w+(jaF w).length
def JbH (w:List UInt8):List UInt8:=if jaa (w.drop (jz w)) then JE (w.drop (jz w)).tail else []
def zn (w:List UInt8):Nat:=jz w+(if jaa (w.drop (jz w)) then 1+(JbH w).length else 0)
def jax (w:List UInt8):Nat:=zn w+(Zbb (w.drop (zn w))).2
def ZbL (w:List UInt8):Int×Bool×Nat:=
 let n:=jey (jaF w++JbH w) ((jaF w).length+(Zbb (w.drop (zn w))).1+3)
 (if hb w=45 then 0-n else n,!(jaa (w.drop (jz w)))&&decide ((Zbb (w.drop (zn w))).2=0),jax w)
def Zs (w:List UInt8):Tok×Nat:=
 let r:=ZbL w
 let v:=w.drop r.2.2
 if JC v then (tk 12 [] r.1 (Zo v).1 r.2.1,r.2.2+(Zo v).2)
 else if hb v=37 then (tk 11 [] r.1,r.2.2+1)
 else (tk 10 [] r.1 [] r.2.1,r.2.2)
def marksA:List Int:=[0,0,0,0,0,0,0,0,0,0,0,0,0,0,0,0,0,0,0,0,0,0,0,0,0,0,0,0,0,0,0,0,0,0,0,0,0,0,0,0,21,22,0,0,18,0,0,0,0,0,0,0,0,0,0,0,0,0,16,17,0,0,0,0,0,0,0,0,0,0,0,0,0,0,0,0,0,0,0,0,0,0,0,0,0,0,0,0,0,0,0,19,0,20,0,0,0,0,0,0,0,0,0,0,0,0,0,0,0,0,0,0,0,0,0,0,0,0,0,0,0,0,0,23,0,24]
def ZcG (c:Int):Int:=if c<126 then marksA.getD c.toNat 0 else 0
def zgI (w:List UInt8):Tok×Nat:=
 if JC w then Jau w
 else if ZcG (hb w)≠0 then (tk (ZcG (hb w)),1)
 else (tk 9 (w.take 1),1)
def Jgf (w:List UInt8):Tok×Nat:=
 if hb w=64∧JC w.tail=true then (tk 3 (Zo w.tail).1,1+(Zo w.tail).2) else zgI w
def zfz (w:List UInt8):Tok×Nat:=
 if jbm w then Zs w
 else if [45,45,62].isPrefixOf w then (tk 15,3)
 else if [60,33,45,45].isPrefixOf w then (tk 14,4)
 else Jgf w
def jK (w:List UInt8):Tok×Nat:=
 if mSp (hb w) then (tk 13,nSp w)
 else if mQ (hb w) then (if (strM (hb w) w.tail).1 then tk 5 (strM (hb w) w.tail).2.1 else tk 6,1+(strM (hb w) w.tail).2.2)
 else if hb w=35∧jH w.tail=true then (tk 4 (Zo w.tail).1 0 [] (JC w.tail),1+(Zo w.tail).2)
 else zfz w
def Zdj:List UInt8→Option Nat
 | []=>none
 | c::w=>if c=42∧hb w=47 then some 0 else (Zdj w).map (· + 1)
def Zax (w:List UInt8):Nat:=
 if [47,42].isPrefixOf w then
  match Zdj (w.drop 2) with
  | none=>w.length
  | some k=>if w=[] then 0 else 2+(k+2)+Zax (w.drop (2+(k+2)))
 else 0
termination_by w.length
decreasing_by
 cases w with
 | nil=>contradiction
 | cons c w=>simp only [List.length_drop,List.length_cons];omega
def JB:List UInt8→List UInt8
 | []=>[]
 | c::w=>
  if (c.toNat:Int)=0 then [239,191,189]++JB w
  else if (c.toNat:Int)=12 then 10::JB w
  else if (c.toNat:Int)=13 then (if hb w=10 then JB w else 10::JB w)
  else c::JB w
def Jhe:Nat→List UInt8→Nat→List (Tok×Nat×Nat)
 | 0,_,_=>[]
 | _+1,[],_=>[]
 | f+1,c::w,p=>((jK (c::w)).1,p,p+(jK (c::w)).2)::Jhe f ((c::w).drop ((jK (c::w)).2+Zax ((c::w).drop (jK (c::w)).2))) (p+(jK (c::w)).2+Zax ((c::w).drop (jK (c::w)).2))
def ZgY (c:List UInt8):List (Tok×Nat×Nat):=Jhe c.length (c.drop (Zax c)) (Zax c)
end Go.Proofs.YtmnegokadegioaaGreatDoor
namespace Go.Proofs.YtmnegokadegioaaGreatDoor
open Go.Vm Go.Sx Go.RowKit
abbrev okP (s:List UInt8) (i:Int):Prop:=0≤i∧i≤2000000∧s.length≤1000000
theorem Zae {n:Int} (h:-100000000≤n∧n≤100000000):I64 n:=by unfold I64;omega
theorem zgK (s:List UInt8) (n:Nat):hb (s.drop n)=((s.getD n 0).toNat:Int):=by
 rw [List.getD_eq_getElem?_getD];by_cases h:n<s.length
 ·rw [List.drop_eq_getElem_cons h,Jd,List.getElem?_eq_getElem h,Option.getD_some]
 ·rw [List.drop_of_length_le (by omega),ZhA,List.getElem?_eq_none (by omega)]
  rfl
theorem zaW {s:List UInt8} {i:Int} (h:0≤i):s.drop (i+1).toNat=(s.drop i.toNat).tail:=by
 have:(i+1).toNat=i.toNat+1:=by omega
 rw [this,List.tail_drop]
theorem ZbP {s:List UInt8} {i:Int} (h:0≤i) (n:Nat):s.drop (i+(n:Int)).toNat=(s.drop i.toNat).drop n:=by
 have:(i+(n:Int)).toNat=i.toNat+n:=by omega
 rw [this,List.drop_drop]
theorem zhf (w:List UInt8):0≤hb w∧hb w≤255:=by
 cases w with
 | nil=>decide
 | cons c w=>have:=c.toNat_lt;rw [Jd];omega
theorem zw {s w:List UInt8} {c:UInt8} {i:Int} (h0:0≤i) (h:s.drop i.toNat=c::w):i<(s.length:Int)∧s.getD i.toNat 0=c∧s.drop (i+1).toNat=w∧(w.length:Int)=s.length-i-1:=by
 have hl:i.toNat<s.length:=by
  by_cases q:i.toNat<s.length
  ·exact q
  ·rw [List.drop_of_length_le (by omega)] at h;cases h
 have e:=List.drop_eq_getElem_cons hl;rw [h] at e;obtain ⟨e1,e2⟩:=List.cons.inj e;have e3:=congrArg List.length e2;rw [List.length_drop] at e3;refine ⟨by omega,?_,?_,by omega⟩
 ·rw [List.getD_eq_getElem?_getD,List.getElem?_eq_getElem hl,Option.getD_some,e1]
 ·rw [zaW h0,h];rfl
theorem zQ {s:List UInt8} {i:Int} (h:s.drop i.toNat=[]):s.length≤i.toNat:=by
 have:=congrArg List.length h;rw [List.length_drop,List.length_nil] at this;omega
theorem zhB (c:UInt8):UInt8.ofNat ((c.toNat:Int).toNat)=c:=by
 rw [Int.toNat_natCast];exact UInt8.ofNat_toNat
theorem ze6 (c:UInt8):0≤(c.toNat:Int)∧(c.toNat:Int)≤255:=by have:=c.toNat_lt;omega
def Zm:Ja:=fun s i K=>0≤i∧K (hb (s.drop i.toNat))
theorem jhf (s i K) (h:Zm s i K):zb8 s i K:=by
 obtain ⟨h0,h⟩:=h;unfold zb8;refine ⟨fun q=>⟨⟨h0,of_decide_eq_true q⟩,?_⟩,fun q=>?_⟩
 ·rwa [zgK] at h
 ·have q:=of_decide_eq_false q
  rwa [List.drop_of_length_le (by omega)] at h
def jaB:zc:=fun c K=>K (mD c)
theorem ZiI (c K) (h:jaB c K):Zbx c K:=by
 unfold Zbx;unfold jaB mD at h;refine ⟨fun q=>?_,fun q=>?_⟩ <;> rw [q] at h <;> exact h
def Zay:Zw:=fun c K=>K (mSg c)
theorem Zhf (c K) (h:Zay c K):jb8 c K:=by
 unfold jb8;unfold Zay mSg at h;refine ⟨fun q=>?_,fun q=>?_⟩ <;> rw [q] at h <;> exact h
def jc2:jA:=fun c K=>K (mE c)
theorem JhU (c K) (h:jc2 c K):Zaj c K:=by
 unfold Zaj;unfold jc2 mE at h;refine ⟨fun q=>?_,fun q=>?_⟩ <;> rw [q] at h <;> exact h
def zd5:zr:=fun c K=>K (mL c)
theorem JiI (c K) (h:zd5 c K):Jbc c K:=by
 unfold Jbc;unfold zd5 mL at h;refine ⟨fun q=>⟨fun q2=>⟨fun q3=>?_,fun q3=>?_⟩,fun q2=>?_⟩,fun q=>⟨fun q3=>?_,fun q3=>?_⟩⟩ <;> simpa only [*,Bool.true_and,Bool.false_and,Bool.true_or,Bool.false_or,Bool.and_true,Bool.and_false,Bool.or_false,Bool.or_true] using h
def Jay:Jl:=fun c K=>K (mN0 c)
theorem Jhf (c K) (h:Jay c K):zaT zd5 c K:=by
 unfold zaT zd5;unfold Jay mN0 at h;refine ⟨fun q=>⟨fun q2=>?_,fun q2=>?_⟩,fun q=>?_⟩ <;> simpa only [*,Bool.true_or,Bool.false_or] using h
def Jdj:zg:=fun c K=>K (mN c)
theorem ziJ (c K) (h:Jdj c K):zbd Jay jaB c K:=by
 unfold zbd Jay jaB;unfold Jdj mN at h;refine ⟨fun q=>⟨fun q2=>?_,fun q2=>?_⟩,fun q=>?_⟩ <;> simpa only [*,Bool.true_or,Bool.false_or] using h
def ZaF:Zb:=fun c K=>K (mSp c)
theorem Zim (c K) (h:ZaF c K):zbA c K:=by
 unfold zbA;unfold ZaF mSp at h;refine ⟨fun q=>⟨fun q2=>?_,fun q2=>?_⟩,fun q=>?_⟩ <;> simpa only [*,Bool.true_or,Bool.false_or] using h
def jd5:Zv:=fun c K=>K (mQ c)
theorem jiJ (c K) (h:jd5 c K):jbA c K:=by
 unfold jbA;unfold jd5 mQ at h;refine ⟨fun q=>?_,fun q=>?_⟩ <;> simpa only [*,Bool.true_or,Bool.false_or] using h
def zdQ:ZaP:=fun s i K=>okP s i∧K (jaa (s.drop i.toNat))
theorem Jim (s i K) (h:zdQ s i K):zem Zm jaB s i K:=by
 obtain ⟨⟨h0,h1,h2⟩,h⟩:=h;unfold jaa at h;unfold zem Zm jaB;rw [zaW h0];refine ⟨h0,fun q=>⟨Zae (by omega),by omega,?_⟩,fun q=>?_⟩ <;> simpa only [q,Bool.true_and,Bool.false_and] using h
def zcH:jt:=fun s i K=>okP s i∧K (Jcj (s.drop i.toNat))
theorem ZiJ (s i K) (h:zcH s i K):Jen Zm s i K:=by
 obtain ⟨⟨h0,h1,h2⟩,h⟩:=h;unfold Jcj at h;unfold Jen Zm;rw [zaW h0];refine ⟨h0,fun q=>⟨Zae (by omega),by omega,?_⟩,fun q=>?_⟩ <;> simpa only [q,Bool.true_and,Bool.false_and] using h
def je6:JbS:=fun s i K=>(okP s i∧i<2000000)∧K (jbm (s.drop i.toNat))
theorem zin (s i K) (h:je6 s i K):jem Zm Zay jaB zdQ s i K:=by
 obtain ⟨⟨⟨h0,h1,h2⟩,h3⟩,h⟩:=h;unfold jbm at h;unfold jem Zm jaB Zay zdQ;rw [zaW h0];refine ⟨h0,fun q=>⟨Zae (by omega),by omega,?_⟩,fun q=>⟨h0,?_⟩⟩
 ·simp only [q,if_true] at h;refine ⟨fun q2=>⟨⟨by omega,by omega,h2⟩,?_⟩,fun q2=>?_⟩ <;> simpa only [q2,Bool.true_or,Bool.false_or] using h
 ·simp only [q,Bool.false_eq_true,if_false] at h;refine ⟨fun q2=>⟨⟨by omega,by omega,h2⟩,?_⟩,fun q2=>?_⟩ <;> simpa only [q2,Bool.true_or,Bool.false_or] using h
def Ze6:JM:=fun s i K=>okP s i∧K (Zd9 (s.drop i.toNat))
theorem jin (s i K) (h:Ze6 s i K):jaH Zm Zay jaB s i K:=by
 obtain ⟨⟨h0,h1,h2⟩,h⟩:=h;unfold Zd9 at h;unfold jaH Zm jaB Zay;rw [zaW h0];refine ⟨h0,fun q=>⟨Zae (by omega),by omega,?_⟩,fun q=>⟨h0,?_⟩⟩ <;> simpa [q] using h
def JaR:Jt:=fun s i K=>(okP s i∧i<2000000)∧K (JC (s.drop i.toNat))
theorem zhV (s i K) (h:JaR s i K):jaT Zm Jay zcH s i K:=by
 obtain ⟨⟨⟨h0,h1,h2⟩,h3⟩,h⟩:=h;unfold JC at h;unfold jaT Zm Jay zcH;rw [zaW h0];refine ⟨h0,fun q=>⟨h0,fun q2=>⟨⟨h0,h1,h2⟩,?_⟩,fun q2=>?_⟩,fun q=>⟨Zae (by omega),by omega,fun q2=>⟨fun q3=>⟨Zae (by omega),⟨by omega,by omega,h2⟩,?_⟩,fun q3=>?_⟩,fun q2=>?_⟩⟩
 ·rw [if_pos (of_decide_eq_true q),q2] at h;exact h
 ·rw [if_pos (of_decide_eq_true q),q2] at h;exact h
 ·rw [if_neg (of_decide_eq_false q),q2,q3] at h;exact h
 ·rw [if_neg (of_decide_eq_false q),q2,q3] at h;exact h
 ·rw [if_neg (of_decide_eq_false q),q2] at h;exact h
def jcu:ZZ:=fun s i K=>okP s i∧K (jH (s.drop i.toNat))
theorem jhV (s i K) (h:jcu s i K):jeo Zm Jdj zcH s i K:=by
 obtain ⟨⟨h0,h1,h2⟩,h⟩:=h;unfold jH at h;unfold jeo Zm Jdj zcH;refine ⟨h0,fun q=>⟨⟨h0,h1,h2⟩,?_⟩,fun q=>?_⟩ <;> simpa only [q,Bool.true_or,Bool.false_or] using h
theorem Zin (s:List UInt8) (hs:s.length≤1000000) (Ke:Int→Prop):∀(w:List UInt8) (i:Int),s.drop i.toNat=w→okP s i→Ke (i+(nSp w:Int))→∃m,Zb9 Zm ZaF m s i Ke
 | [],i,hd,hi,h=>by
  refine ⟨1,hi.1,fun q=>?_,fun _=>?_⟩
  ·rw [hd] at q;exact absurd q (by decide)
  ·simpa [nSp] using h
 | c::w,i,hd,hi,h=>by
  obtain ⟨hl,hc,hn,_⟩:=zw hi.1 hd;cases q:mSp (c.toNat:Int) with
  | false=>
   unfold nSp at h;rw [q] at h;refine ⟨1,hi.1,fun q2=>?_,fun _=>?_⟩
   ·rw [hd,Jd,q] at q2;cases q2
   ·simpa using h
  | true=>
   unfold nSp at h;rw [q] at h;obtain ⟨m,hm⟩:=Zin s hs Ke w (i+1) hn ⟨by omega,by omega,hs⟩ (by
    have:i+1+(nSp w:Int)=i+((nSp w+1:Nat):Int):=by omega
    rw [this];simpa using h)
   refine ⟨m+1,hi.1,fun _=>⟨Zae (by omega),hm⟩,fun q2=>?_⟩
   rw [hd,Jd,q] at q2;cases q2
def zhg:zN:=fun s i K=>okP s i∧K (i+(nSp (s.drop i.toNat):Int))
theorem Ji9 (s i K) (h:zhg s i K):Zfm Zm ZaF s i K:=Zin s h.1.2.2 _ _ _ rfl h.1 h.2
end Go.Proofs.YtmnegokadegioaaGreatDoor
namespace Go.Proofs.YtmnegokadegioaaGreatDoor
open Go.Vm Go.Sx Go.RowKit
theorem fd6 (x:Int):x.fdiv (2^(min 6 IntKind.i32.bits))=x / 64:=Int.fdiv_eq_ediv_of_nonneg _ (by decide)
theorem Ji1 (x:Int):x.fdiv (2^(min 12 IntKind.i32.bits))=x / 4096:=Int.fdiv_eq_ediv_of_nonneg _ (by decide)
theorem zi2 (x:Int):x.fdiv (2^(min 18 IntKind.i32.bits))=x / 262144:=Int.fdiv_eq_ediv_of_nonneg _ (by decide)
theorem Zio:∀y:Fin 256,IntKind.u8.wrap ((BitVec.ofInt IntKind.u8.bits (128:Int) |||BitVec.ofInt IntKind.u8.bits (IntKind.u8.wrap ((BitVec.ofInt IntKind.u8.bits ((y.val:Nat):Int) &&&BitVec.ofInt IntKind.u8.bits (63:Int)).toNat:Int))).toNat:Int)=128+(((y.val:Nat):Int))%64:=by decide +kernel
theorem Jio (y:Int):IntKind.u8.wrap ((BitVec.ofInt IntKind.u8.bits (128:Int) |||BitVec.ofInt IntKind.u8.bits (IntKind.u8.wrap ((BitVec.ofInt IntKind.u8.bits (IntKind.u8.wrap y) &&&BitVec.ofInt IntKind.u8.bits (63:Int)).toNat:Int))).toNat:Int)=128+y%64:=by
 have h:=Zio ⟨(y%256).toNat,by omega⟩
 have e:(((y%256).toNat:Nat):Int)=IntKind.u8.wrap y:=by rw [IntKind.wrap_u8];omega
 rw [e] at h;rw [h,IntKind.wrap_u8];omega
theorem zip:∀y:Fin 32,IntKind.u8.wrap ((BitVec.ofInt IntKind.u8.bits (192:Int) |||BitVec.ofInt IntKind.u8.bits (IntKind.u8.wrap ((y.val:Nat):Int))).toNat:Int)=192+((y.val:Nat):Int):=by decide +kernel
theorem jip:∀y:Fin 16,IntKind.u8.wrap ((BitVec.ofInt IntKind.u8.bits (224:Int) |||BitVec.ofInt IntKind.u8.bits (IntKind.u8.wrap ((y.val:Nat):Int))).toNat:Int)=224+((y.val:Nat):Int):=by decide +kernel
theorem Zip:∀y:Fin 8,IntKind.u8.wrap ((BitVec.ofInt IntKind.u8.bits (240:Int) |||BitVec.ofInt IntKind.u8.bits (IntKind.u8.wrap ((y.val:Nat):Int))).toNat:Int)=240+((y.val:Nat):Int):=by decide +kernel
theorem Jip {y:Int} (h0:0≤y) (h1:y<32):IntKind.u8.wrap ((BitVec.ofInt IntKind.u8.bits (192:Int) |||BitVec.ofInt IntKind.u8.bits (IntKind.u8.wrap y)).toNat:Int)=192+y:=by
 have h:=zip ⟨y.toNat,by omega⟩
 rwa [show ((y.toNat:Nat):Int)=y by omega] at h
theorem jhg {y:Int} (h0:0≤y) (h1:y<16):IntKind.u8.wrap ((BitVec.ofInt IntKind.u8.bits (224:Int) |||BitVec.ofInt IntKind.u8.bits (IntKind.u8.wrap y)).toNat:Int)=224+y:=by
 have h:=jip ⟨y.toNat,by omega⟩
 rwa [show ((y.toNat:Nat):Int)=y by omega] at h
theorem ziq {y:Int} (h0:0≤y) (h1:y<8):IntKind.u8.wrap ((BitVec.ofInt IntKind.u8.bits (240:Int) |||BitVec.ofInt IntKind.u8.bits (IntKind.u8.wrap y)).toNat:Int)=240+y:=by
 have h:=Zip ⟨y.toNat,by omega⟩
 rwa [show ((y.toNat:Nat):Int)=y by omega] at h
theorem ji2 {x:Int} (h0:0≤x) (h1:x≤16777215):IntKind.u32.wrap x=x:=by rw [IntKind.wrap_u32];omega
theorem u8w {n:Int} (h0:0≤n) (h1:n≤255):IntKind.u8.wrap n=n:=by rw [IntKind.wrap_u8];omega
theorem JfP (c:Int):(Jd4 c).length≤4:=by
 unfold Jd4;split
 ·simp
 ·split
  ·simp
  ·split
   ·simp
   ·split <;> simp
theorem Zi2 {c:Int} (h:c≤127):Jd4 c=[b8 c]:=by unfold Jd4;rw [if_pos h]
theorem Ji2 {c:Int} (h:¬c≤127) (h2:c≤2047):Jd4 c=[b8 (192+c / 64),b8 (128+c%64)]:=by unfold Jd4;rw [if_neg h,if_pos h2]
theorem zi3 {c:Int} (h:¬c≤127) (h2:¬c≤2047) (h3:55296≤c∧c≤57343∨1114111<c):Jd4 c=[b8 239,b8 191,b8 189]:=by unfold Jd4;rw [if_neg h,if_neg h2,if_pos h3]
theorem ji3 {c:Int} (h:¬c≤127) (h2:¬c≤2047) (h3:¬(55296≤c∧c≤57343∨1114111<c)) (h4:c≤65535):Jd4 c=[b8 (224+c / 4096),b8 (128+c / 64%64),b8 (128+c%64)]:=by unfold Jd4;rw [if_neg h,if_neg h2,if_neg h3,if_pos h4]
theorem Zi3 {c:Int} (h:¬c≤127) (h2:¬c≤2047) (h3:¬(55296≤c∧c≤57343∨1114111<c)) (h4:¬c≤65535):Jd4 c=[b8 (240+c / 262144),b8 (128+c / 4096%64),b8 (128+c / 64%64),b8 (128+c%64)]:=by unfold Jd4;rw [if_neg h,if_neg h2,if_neg h3,if_neg h4]
def Je6:Zh:=fun c K=>(0≤c∧c≤255)∧K (jcL c).1 (jcL c).2
theorem JiK (c K) (h:Je6 c K):Jbd jaB c K:=by
 obtain ⟨⟨h0,h1⟩,h⟩:=h;unfold Jbd jaB;unfold jcL at h;have i32:∀n:Int,0≤n∧n≤1000→I32 n:=fun n h=>by unfold I32;omega
 refine ⟨fun q=>?_,fun q=>?_⟩
 ·rw [if_pos q] at h;unfold mD at q;simp only [Bool.and_eq_true,decide_eq_true_eq] at q;rw [u8w (by omega) (by omega)]
  exact ⟨i32 _ (by omega),h⟩
 ·rw [if_neg (by rw [q];decide)] at h
  simp only [decide_eq_true_eq,decide_eq_false_iff_not];have e97:∀n:Int,n-97+10=n-87:=fun n=>by omega
  have e65:∀n:Int,n-65+10=n-55:=fun n=>by omega
  refine ⟨fun q1=>⟨fun q2=>?_,fun q2=>⟨fun q3=>⟨fun q4=>?_,fun q4=>?_⟩,fun q3=>?_⟩⟩,fun q1=>⟨fun q3=>⟨fun q4=>?_,fun q4=>?_⟩,fun q3=>?_⟩⟩
  ·rw [if_pos ⟨q1,q2⟩] at h;rw [u8w (by omega) (by omega),e97]
   exact ⟨i32 _ (by omega),i32 _ (by omega),h⟩
  ·exfalso;omega
  ·rw [if_neg (by omega),if_neg (by omega)] at h;exact h
  ·exfalso;omega
  ·rw [if_neg (by omega),if_pos ⟨q3,q4⟩] at h
   rw [u8w (by omega) (by omega),e65]
   exact ⟨i32 _ (by omega),i32 _ (by omega),h⟩
  ·rw [if_neg (by omega),if_neg (by omega)] at h;exact h
  ·rw [if_neg (by omega),if_neg (by omega)] at h;exact h
theorem Jfz {c:Int} (h:(jcL c).2=true):0≤(jcL c).1∧(jcL c).1≤15:=by
 unfold jcL mD at h ⊢;simp only [Bool.and_eq_true,decide_eq_true_eq] at h ⊢;split
 ·simp only;omega
 ·split
  ·simp only;omega
  ·split
   ·simp only;omega
   ·rename_i h1 h2 h3;rw [if_neg h1,if_neg h2,if_neg h3] at h;cases h
theorem Ji3 {a d:Int} (h0:0≤a) (h1:a<1048576) (h2:0≤d) (h3:d≤15):IntKind.i32.wrap ((BitVec.ofInt IntKind.i32.bits (IntKind.i32.wrap (a*2^(min 4 IntKind.i32.bits))) |||BitVec.ofInt IntKind.i32.bits d).toNat:Int)=a*16+d:=by
 obtain ⟨x,rfl⟩:=Int.eq_ofNat_of_zero_le h0;obtain ⟨y,rfl⟩:=Int.eq_ofNat_of_zero_le h2;have e1:((x:Int)*2^(min 4 IntKind.i32.bits))=((x*16:Nat):Int):=by
  show (x:Int)*(2^4)=_;omega
 have e2:IntKind.i32.wrap ((x*16:Nat):Int)=((x*16:Nat):Int):=by rw [IntKind.wrap_i32];omega
 rw [e1,e2,BitVec.ofInt_natCast,BitVec.ofInt_natCast,BitVec.toNat_or,BitVec.toNat_ofNat,BitVec.toNat_ofNat];have e3:(x*16)%2^IntKind.i32.bits=x*16:=Nat.mod_eq_of_lt (by show _<4294967296;omega)
 have e4:y%2^IntKind.i32.bits=y:=Nat.mod_eq_of_lt (by show _<4294967296;omega)
 rw [e3,e4];have e5:x*16 |||y=x*16+y:=by
  have:=Nat.two_pow_add_eq_or_of_lt (i:=4) (b:=y) (by omega) x
  rw [Nat.mul_comm x 16];exact this.symm
 rw [e5,IntKind.wrap_i32];omega
theorem Zhg {k n:Nat} (h:k≤n):(16:Int)^k≤16^n:=by
 have:=Nat.pow_le_pow_right (n:=16) (by decide) h
 exact_mod_cast this
theorem Zcb:∀(r:Nat) (w:List UInt8) (a:Int),(JA r w a).2≤w.length
 | 0,w,a=>Nat.zero_le _
 | r+1,w,a=>by
  unfold JA;split
  ·rename_i q;cases w with
   | nil=>exact absurd q (by decide)
   | cons c w=>have:=Zcb r w (a*16+(jcL (hb (c::w))).1);simp only [List.tail_cons,List.length_cons];omega
  ·exact Nat.zero_le _
theorem jdQ:∀(r:Nat) (w:List UInt8) (a:Int) (k:Nat),r+k≤6→0≤a→a<16^k→0≤(JA r w a).1∧(JA r w a).1≤16777215
 | 0,w,a,k,hk,h0,h1=>by
  have:(16:Int)^k≤16^6:=Zhg (by omega)
  exact ⟨h0,by show a≤_;have:(16:Int)^6=16777216:=(by decide);omega⟩
 | r+1,w,a,k,hk,h0,h1=>by
  unfold JA;split
  ·rename_i q;have hd:=Jfz q;have e:(16:Int)^(k+1)=16^k*16:=Int.pow_succ _ _;exact jdQ r w.tail _ (k+1) (by omega) (by omega) (by rw [e];omega)
  ·have:(16:Int)^k≤16^6:=Zhg (by omega)
   exact ⟨h0,by show a≤_;have:(16:Int)^6=16777216:=(by decide);omega⟩
theorem Ja1 (w:List UInt8):(jak w).2≤w.length:=by
 cases w with
 | nil=>exact Nat.le_refl _
 | cons c w=>
  rw [jak,jf9];split
  ·have h:=Zcb 6 (c::w) 0;simp only;split
   ·rename_i q;cases hd:(c::w).drop (JA 6 (c::w) 0).2 with
    | nil=>rw [hd] at q;exact absurd q (by decide)
    | cons d v=>
     have:=congrArg List.length hd;simp only [List.length_drop,List.length_cons] at this;simp only [List.length_cons] at h ⊢;omega
   ·omega
  ·simp
theorem jdn (w:List UInt8):(jak w).1.length≤4:=by
 cases w with
 | nil=>show (Jd4 65533).length≤4;exact JfP _
 | cons c w=>
  rw [jak,jf9];split
  ·exact JfP _
  ·simp
def jez:JaX:=fun x b K=>(0≤x∧x≤16777215)∧b.length≤10000000∧K (b++Jd4 x)
set_option maxRecDepth 100000 in
theorem ZhV (x b K) (h:jez x b K):zfN x b K:=by
 obtain ⟨⟨h0,h1⟩,hb,h⟩:=h;have k1:x≤127→K (b++[b8 x]):=fun q=>Zi2 q▸h
 have k2:¬x≤127→x≤2047→K (b++[b8 (192+x / 64),b8 (128+x%64)]):=fun q q2=>Ji2 q q2▸h
 have kX:¬x≤127→¬x≤2047→(55296≤x∧x≤57343∨1114111<x)→K (b++[b8 239,b8 191,b8 189]):=fun q q2 q3=>zi3 q q2 q3▸h
 have k3:¬x≤127→¬x≤2047→¬(55296≤x∧x≤57343∨1114111<x)→x≤65535→K (b++[b8 (224+x / 4096),b8 (128+x / 64%64),b8 (128+x%64)]):=fun q q2 q3 q4=>ji3 q q2 q3 q4▸h
 have k4:¬x≤127→¬x≤2047→¬(55296≤x∧x≤57343∨1114111<x)→¬x≤65535→K (b++[b8 (240+x / 262144),b8 (128+x / 4096%64),b8 (128+x / 64%64),b8 (128+x%64)]):=fun q q2 q3 q4=>Zi3 q q2 q3 q4▸h
 clear h;unfold zfN;simp only [ji2 h0 h1,Jio,fd6,Ji1,zi2,decide_eq_true_eq,decide_eq_false_iff_not,List.length_cons,List.length_nil];refine ⟨fun q=>?_,fun q=>⟨fun q2=>?_,fun q2=>⟨fun q3=>?_,fun q3=>⟨fun q4=>⟨fun q5=>?_,fun q5=>⟨fun q6=>⟨fun q7=>?_,fun q7=>?_⟩,fun q6=>?_⟩⟩,fun q4=>⟨fun q6=>⟨fun q7=>?_,fun q7=>?_⟩,fun q6=>?_⟩⟩⟩⟩⟩
 ·rw [u8w h0 (by omega)]
  exact ⟨by omega,by omega,k1 q⟩
 ·rw [Jip (by omega) (by omega)]
  exact ⟨by decide,by omega,by omega,by omega,k2 q q2⟩
 ·rw [jhg (by omega) (by omega)]
  exact ⟨by decide,by decide,by omega,by omega,by omega,by omega,k3 q q2 (by omega) (by omega)⟩
 ·rw [jhg (by omega) (by omega)]
  exact ⟨by decide,by decide,by omega,by omega,by omega,by omega,k3 q q2 (by omega) (by omega)⟩
 ·rw [ziq (by omega) (by omega)]
  exact ⟨by decide,by decide,by decide,by omega,by omega,by omega,by omega,by omega,k4 q q2 (by omega) (by omega)⟩
 ·exact ⟨by decide,by decide,by decide,by omega,kX q q2 (by omega)⟩
 ·exfalso;omega
 ·exfalso;omega
 ·exact ⟨by decide,by decide,by decide,by omega,kX q q2 (by omega)⟩
 ·exact ⟨by decide,by decide,by decide,by omega,kX q q2 (by omega)⟩
set_option maxRecDepth 100000 in
theorem zfQ (s:List UInt8) (hs:s.length≤1000000) (b:List UInt8) (A:JaX) (Ke:List UInt8→Int→Int→List UInt8→Prop):∀(r:Nat) (w:List UInt8) (i a x:Int) (k:Nat),x=k→r+k=6→s.drop i.toNat=w→0≤i→i+(r:Int)≤1000020→0≤a→a<16^k→Ke s (i+((JA r w a).2:Int)) (JA r w a).1 b→∃m,zcB A Je6 Zm ZaF m s i a x b Ke
 | 0,w,i,a,x,k,hx,hk,hd,h0,hi,ha0,ha1,h=>by
  refine ⟨1,fun q=>?_,fun _=>?_⟩
  ·exfalso;have:=of_decide_eq_true q;omega
  ·simpa [JA] using h
 | r+1,w,i,a,x,k,hx,hk,hd,h0,hi,ha0,ha1,h=>by
  unfold JA at h;cases q:(jcL (hb w)).2 with
  | false=>
   rw [q] at h;refine ⟨1,fun _=>⟨h0,zhf _,fun q2=>?_,fun q2=>?_⟩,fun q2=>?_⟩
   ·simpa using h
   ·rw [hd,q] at q2;exact absurd q2 (by decide)
   ·exfalso;have:=of_decide_eq_false q2;omega
  | true=>
   rw [q] at h;simp only [if_true] at h;have hdg:=Jfz q;have e:(16:Int)^(k+1)=16^k*16:=Int.pow_succ _ _;have e5:(16:Int)^k≤16^5:=Zhg (by omega)
   have e6:(16:Int)^5=1048576:=by decide
   obtain ⟨m,hm⟩:=zfQ s hs b A Ke r w.tail (i+1) (a*16+(jcL (hb w)).1) (x+1) (k+1) (by omega) (by omega) (by rw [zaW h0,hd]) (by omega) (by omega) (by omega) (by rw [e];omega) (by
    have:i+1+((JA r w.tail (a*16+(jcL (hb w)).1)).2:Int)=i+(((JA r w.tail (a*16+(jcL (hb w)).1)).2+1:Nat):Int):=by omega
    rw [this];exact h)
   refine ⟨m+1,fun _=>⟨h0,zhf _,fun q2=>?_,fun _=>⟨by decide,Zae (by omega),Zae (by omega),?_⟩⟩,fun q2=>?_⟩
   ·rw [hd,q] at q2;exact absurd q2 (by decide)
   ·rw [hd,Ji3 ha0 (by omega) hdg.1 hdg.2]
    exact hm
   ·exfalso;have:=of_decide_eq_false q2;omega
def Jb2:Z1:=fun s i b K=>(0≤i∧i<s.length∧s.length≤1000000)∧b.length≤5000000∧K (i+1+((jak (s.drop (i+1).toNat)).2:Int)) (b++(jak (s.drop (i+1).toNat)).1)
theorem JhV (s i b K) (h:Jb2 s i b K):zgC jez Je6 Zm ZaF s i b K:=by
 obtain ⟨⟨h0,h1,h2⟩,hb,h⟩:=h;refine ⟨Zae (by omega),fun q=>?_,fun q=>?_⟩
 ·have q:=of_decide_eq_true q;rw [List.drop_of_length_le (by omega)] at h
  unfold jak at h;refine ⟨by omega,by omega,?_⟩
  simpa using h
 ·have q:=of_decide_eq_false q;cases hd:s.drop (i+1).toNat with
  | nil=>exfalso;have:=zQ hd;omega
  | cons c w=>
  obtain ⟨_,hc,_,_⟩:=zw (by omega) hd
  rw [hd,jak,jf9] at h;rw [hc];refine ⟨by omega,ze6 c,fun q2=>?_,fun q2=>?_⟩
  ·have q3:(jcL (c.toNat:Int)).2=false:=by simpa using q2
   rw [q3] at h;rw [zhB];refine ⟨by omega,ze6 c,by simp only [List.length_cons,List.length_nil];omega,Zae (by omega),?_⟩
   simpa using h
  ·have q3:(jcL (c.toNat:Int)).2=true:=by simpa using q2
   rw [q3] at h;simp only [if_true] at h;have hl:=Zcb 6 (c::w) 0;have hin:=jdQ 6 (c::w) 0 0 (by omega) (by omega) (by decide)
   have hlw:=congrArg List.length hd;rw [List.length_drop] at hlw;refine zfQ s h2 b _ _ 6 (c::w) (i+1) 0 0 0 rfl rfl hd (by omega) (by omega) (by omega) (by decide) ?_
   have e:s.drop (i+1+((JA 6 (c::w) 0).2:Int)).toNat=(c::w).drop (JA 6 (c::w) 0).2:=by rw [ZbP (by omega),hd]
   refine ⟨by omega,fun q4=>⟨Zae (by omega),fun q5=>?_,fun q5=>?_⟩,fun q4=>⟨fun q5=>?_,fun q5=>?_⟩⟩
   ·rw [e] at q4;rw [q4,if_pos (of_decide_eq_true q5),if_pos rfl] at h;refine ⟨by omega,by omega,?_⟩
    have e2:i+1+((JA 6 (c::w) 0).2:Int)+1=i+1+(((JA 6 (c::w) 0).2+1:Nat):Int):=by omega
    rw [e2];exact h
   ·rw [e] at q4;rw [q4,if_neg (of_decide_eq_false q5),if_pos rfl] at h;refine ⟨hin,by omega,?_⟩
    have e2:i+1+((JA 6 (c::w) 0).2:Int)+1=i+1+(((JA 6 (c::w) 0).2+1:Nat):Int):=by omega
    rw [e2];exact h
   ·rw [e] at q4;rw [q4,if_pos (of_decide_eq_true q5)] at h;exact ⟨by omega,by omega,by simpa using h⟩
   ·rw [e] at q4;rw [q4,if_neg (of_decide_eq_false q5)] at h;exact ⟨hin,by omega,by simpa using h⟩
theorem zhW (s:List UInt8) (hs:s.length≤1000000) (Ke:Int→List UInt8→Prop):∀(n:Nat) (w:List UInt8) (i:Int) (b:List UInt8),w.length≤n→s.drop i.toNat=w→okP s i→b.length+4*w.length≤4500000→Ke (i+((Zo w).2:Int)) (b++(Zo w).1)→∃m,zan jcu Jb2 m s i b Ke:=by
 intro n
 induction n with
 | zero=>
  intro w i b hn hd hi hb h;cases w with
  | cons c w=>simp at hn
  | nil=>
   refine ⟨1,hi,fun q=>?_,fun _=>?_⟩
   ·rw [hd] at q;exact absurd q (by decide)
   ·rw [Zo] at h;simpa using h
 | succ n ih=>
  intro w i b hn hd hi hb h;cases w with
  | nil=>
   refine ⟨1,hi,fun q=>?_,fun _=>?_⟩
   ·rw [hd] at q;exact absurd q (by decide)
   ·rw [Zo] at h;simpa using h
  | cons c w=>
  obtain ⟨hl,hc,hnx,hlen⟩:=zw hi.1 hd;rw [List.length_cons] at hn hb;rw [Zo] at h;cases q:jH (c::w) with
  | false=>
   rw [q] at h;refine ⟨1,hi,fun q2=>?_,fun _=>?_⟩
   ·rw [hd,q] at q2;cases q2
   ·simpa using h
  | true=>
   rw [q,if_pos rfl] at h;by_cases q3:(c.toNat:Int)=92
   ·rw [if_pos q3] at h;have he:=Ja1 w;have het:=jdn w;have hlw:(w.drop (jak w).2).length≤n:=by rw [List.length_drop];omega
    obtain ⟨m,hm⟩:=ih (w.drop (jak w).2) (i+1+((jak w).2:Int)) (b++(jak w).1) hlw (by rw [ZbP (by omega),hnx]) ⟨by omega,by omega,hs⟩ (by rw [List.length_append,List.length_drop];omega) (by
     have e:i+1+((jak w).2:Int)+((Zo (w.drop (jak w).2)).2:Int)=i+((1+(jak w).2+(Zo (w.drop (jak w).2)).2:Nat):Int):=by omega
     rw [e,List.append_assoc];exact h)
    refine ⟨m+1,hi,fun _=>⟨⟨hi.1,hl⟩,fun _=>⟨⟨hi.1,hl,hs⟩,by omega,?_⟩,fun q4=>?_⟩,fun q2=>?_⟩
    ·rw [hnx];exact hm
    ·exact absurd (by rw [hc];exact q3) (of_decide_eq_false q4)
    ·rw [hd,q] at q2;cases q2
   ·rw [if_neg q3] at h;obtain ⟨m,hm⟩:=ih w (i+1) (b++[c]) (by omega) hnx ⟨by omega,by omega,hs⟩ (by rw [List.length_append];simp only [List.length_singleton];omega) (by
     have e:i+1+((Zo w).2:Int)=i+((1+(Zo w).2:Nat):Int):=by omega
     rw [e,List.append_assoc];exact h)
    refine ⟨m+1,hi,fun _=>⟨⟨hi.1,hl⟩,fun q4=>?_,fun _=>⟨⟨hi.1,hl⟩,?_⟩⟩,fun q2=>?_⟩
    ·exact absurd (by rw [←hc];exact of_decide_eq_true q4) q3
    ·rw [hc,zhB];exact ⟨ze6 c,by simp only [List.length_singleton];omega,Zae (by omega),hm⟩
    ·rw [hd,q] at q2;cases q2
def Zck:jr:=fun s i K=>okP s i∧K (Zo (s.drop i.toNat)).1 (i+((Zo (s.drop i.toNat)).2:Int))
theorem jiq (s i K) (h:Zck s i K):zbW jcu Jb2 s i K:=by
 obtain ⟨hi,h⟩:=h;refine zhW s hi.2.2 _ _ (s.drop i.toNat) i [] (Nat.le_refl _) rfl hi (by rw [List.length_drop];have:=hi.2.2;simp only [List.length_nil];omega) ?_
 simpa using h
theorem zb3 (w:List UInt8):(Zo w).2≤w.length:=by
 induction hn:w.length using Nat.strongRecOn generalizing w with
 | _ n ih=>
  cases w with
  | nil=>rw [Zo];simp
  | cons c w=>
   rw [List.length_cons] at hn;rw [Zo];split
   ·split
    ·have he:=Ja1 w;have:=ih (w.drop (jak w).2).length (by rw [List.length_drop];omega) (w.drop (jak w).2) rfl
     rw [List.length_drop] at this;simp only;omega
    ·have:=ih w.length (by omega) w rfl
     simp only;omega
   ·simp
end Go.Proofs.YtmnegokadegioaaGreatDoor
namespace Go.Proofs.YtmnegokadegioaaGreatDoor
open Go.Vm Go.Sx Go.RowKit
def Zez:zaY:=fun x c0 c1 c2 c3 c4 b K=>(0≤x∧x≤16777215)∧b.length≤10000000∧K c0 c1 c2 c3 c4 (b++Jd4 x)
set_option maxRecDepth 100000 in
theorem jhW (x c0 c1 c2 c3 c4 b K) (h:Zez x c0 c1 c2 c3 c4 b K):ZfN x c0 c1 c2 c3 c4 b K:=by
 obtain ⟨⟨h0,h1⟩,hb,h⟩:=h;have k1:x≤127→K c0 c1 c2 c3 c4 (b++[b8 x]):=fun q=>Zi2 q▸h
 have k2:¬x≤127→x≤2047→K c0 c1 c2 c3 c4 (b++[b8 (192+x / 64),b8 (128+x%64)]):=fun q q2=>Ji2 q q2▸h
 have kX:¬x≤127→¬x≤2047→(55296≤x∧x≤57343∨1114111<x)→K c0 c1 c2 c3 c4 (b++[b8 239,b8 191,b8 189]):=fun q q2 q3=>zi3 q q2 q3▸h
 have k3:¬x≤127→¬x≤2047→¬(55296≤x∧x≤57343∨1114111<x)→x≤65535→K c0 c1 c2 c3 c4 (b++[b8 (224+x / 4096),b8 (128+x / 64%64),b8 (128+x%64)]):=fun q q2 q3 q4=>ji3 q q2 q3 q4▸h
 have k4:¬x≤127→¬x≤2047→¬(55296≤x∧x≤57343∨1114111<x)→¬x≤65535→K c0 c1 c2 c3 c4 (b++[b8 (240+x / 262144),b8 (128+x / 4096%64),b8 (128+x / 64%64),b8 (128+x%64)]):=fun q q2 q3 q4=>Zi3 q q2 q3 q4▸h
 clear h;unfold ZfN;simp only [ji2 h0 h1,Jio,fd6,Ji1,zi2,decide_eq_true_eq,decide_eq_false_iff_not,List.length_cons,List.length_nil];refine ⟨fun q=>?_,fun q=>⟨fun q2=>?_,fun q2=>⟨fun q3=>?_,fun q3=>⟨fun q4=>⟨fun q5=>?_,fun q5=>⟨fun q6=>⟨fun q7=>?_,fun q7=>?_⟩,fun q6=>?_⟩⟩,fun q4=>⟨fun q6=>⟨fun q7=>?_,fun q7=>?_⟩,fun q6=>?_⟩⟩⟩⟩⟩
 ·rw [u8w h0 (by omega)]
  exact ⟨by omega,by omega,k1 q⟩
 ·rw [Jip (by omega) (by omega)]
  exact ⟨by decide,by omega,by omega,by omega,k2 q q2⟩
 ·rw [jhg (by omega) (by omega)]
  exact ⟨by decide,by decide,by omega,by omega,by omega,by omega,k3 q q2 (by omega) (by omega)⟩
 ·rw [jhg (by omega) (by omega)]
  exact ⟨by decide,by decide,by omega,by omega,by omega,by omega,k3 q q2 (by omega) (by omega)⟩
 ·rw [ziq (by omega) (by omega)]
  exact ⟨by decide,by decide,by decide,by omega,by omega,by omega,by omega,by omega,k4 q q2 (by omega) (by omega)⟩
 ·exact ⟨by decide,by decide,by decide,by omega,kX q q2 (by omega)⟩
 ·exfalso;omega
 ·exfalso;omega
 ·exact ⟨by decide,by decide,by decide,by omega,kX q q2 (by omega)⟩
 ·exact ⟨by decide,by decide,by decide,by omega,kX q q2 (by omega)⟩
set_option maxRecDepth 100000 in
theorem jfQ (s:List UInt8) (hs:s.length≤1000000) (c0:Int) (c1:List UInt8) (c2:Int) (c3:List UInt8) (c4:Bool) (b:List UInt8) (A:zaY) (Ke:List UInt8→Int→Int→Int→List UInt8→Int→List UInt8→Bool→List UInt8→Prop):∀(r:Nat) (w:List UInt8) (i a x:Int) (k:Nat),x=k→r+k=6→s.drop i.toNat=w→0≤i→i+(r:Int)≤1000020→0≤a→a<16^k→Ke s (i+((JA r w a).2:Int)) (JA r w a).1 c0 c1 c2 c3 c4 b→∃m,jcC A Je6 Zm ZaF m s i a x c0 c1 c2 c3 c4 b Ke
 | 0,w,i,a,x,k,hx,hk,hd,h0,hi,ha0,ha1,h=>by
  refine ⟨1,fun q=>?_,fun _=>?_⟩
  ·exfalso;have:=of_decide_eq_true q;omega
  ·simpa [JA] using h
 | r+1,w,i,a,x,k,hx,hk,hd,h0,hi,ha0,ha1,h=>by
  unfold JA at h;cases q:(jcL (hb w)).2 with
  | false=>
   rw [q] at h;refine ⟨1,fun _=>⟨h0,zhf _,fun q2=>?_,fun q2=>?_⟩,fun q2=>?_⟩
   ·simpa using h
   ·rw [hd,q] at q2;exact absurd q2 (by decide)
   ·exfalso;have:=of_decide_eq_false q2;omega
  | true=>
   rw [q] at h;simp only [if_true] at h;have hdg:=Jfz q;have e:(16:Int)^(k+1)=16^k*16:=Int.pow_succ _ _;have e5:(16:Int)^k≤16^5:=Zhg (by omega)
   have e6:(16:Int)^5=1048576:=by decide
   obtain ⟨m,hm⟩:=jfQ s hs c0 c1 c2 c3 c4 b A Ke r w.tail (i+1) (a*16+(jcL (hb w)).1) (x+1) (k+1) (by omega) (by omega) (by rw [zaW h0,hd]) (by omega) (by omega) (by omega) (by rw [e];omega) (by
    have:i+1+((JA r w.tail (a*16+(jcL (hb w)).1)).2:Int)=i+(((JA r w.tail (a*16+(jcL (hb w)).1)).2+1:Nat):Int):=by omega
    rw [this];exact h)
   refine ⟨m+1,fun _=>⟨h0,zhf _,fun q2=>?_,fun _=>⟨by decide,Zae (by omega),Zae (by omega),?_⟩⟩,fun q2=>?_⟩
   ·rw [hd,q] at q2;exact absurd q2 (by decide)
   ·rw [hd,Ji3 ha0 (by omega) hdg.1 hdg.2]
    exact hm
   ·exfalso;have:=of_decide_eq_false q2;omega
def jb3:Z2:=fun s i c0 c1 c2 c3 c4 b K=>(0≤i∧i<s.length∧s.length≤1000000)∧b.length≤5000000∧K (i+1+((jak (s.drop (i+1).toNat)).2:Int)) c0 c1 c2 c3 c4 (b++(jak (s.drop (i+1).toNat)).1)
theorem ZhW (s i c0 c1 c2 c3 c4 b K) (h:jb3 s i c0 c1 c2 c3 c4 b K):JgD Zez Je6 Zm ZaF s i c0 c1 c2 c3 c4 b K:=by
 obtain ⟨⟨h0,h1,h2⟩,hb,h⟩:=h;refine ⟨Zae (by omega),fun q=>?_,fun q=>?_⟩
 ·have q:=of_decide_eq_true q;rw [List.drop_of_length_le (by omega)] at h
  unfold jak at h;refine ⟨by omega,by omega,?_⟩
  simpa using h
 ·have q:=of_decide_eq_false q;cases hd:s.drop (i+1).toNat with
  | nil=>exfalso;have:=zQ hd;omega
  | cons c w=>
  obtain ⟨_,hc,_,_⟩:=zw (by omega) hd
  rw [hd,jak,jf9] at h;rw [hc];refine ⟨by omega,ze6 c,fun q2=>?_,fun q2=>?_⟩
  ·have q3:(jcL (c.toNat:Int)).2=false:=by simpa using q2
   rw [q3] at h;rw [zhB];refine ⟨by omega,ze6 c,by simp only [List.length_cons,List.length_nil];omega,Zae (by omega),?_⟩
   simpa using h
  ·have q3:(jcL (c.toNat:Int)).2=true:=by simpa using q2
   rw [q3] at h;simp only [if_true] at h;have hl:=Zcb 6 (c::w) 0;have hin:=jdQ 6 (c::w) 0 0 (by omega) (by omega) (by decide)
   have hlw:=congrArg List.length hd;rw [List.length_drop] at hlw;refine jfQ s h2 c0 c1 c2 c3 c4 b _ _ 6 (c::w) (i+1) 0 0 0 rfl rfl hd (by omega) (by omega) (by omega) (by decide) ?_
   have e:s.drop (i+1+((JA 6 (c::w) 0).2:Int)).toNat=(c::w).drop (JA 6 (c::w) 0).2:=by rw [ZbP (by omega),hd]
   refine ⟨by omega,fun q4=>⟨Zae (by omega),fun q5=>?_,fun q5=>?_⟩,fun q4=>⟨fun q5=>?_,fun q5=>?_⟩⟩
   ·rw [e] at q4;rw [q4,if_pos (of_decide_eq_true q5),if_pos rfl] at h;refine ⟨by omega,by omega,?_⟩
    have e2:i+1+((JA 6 (c::w) 0).2:Int)+1=i+1+(((JA 6 (c::w) 0).2+1:Nat):Int):=by omega
    rw [e2];exact h
   ·rw [e] at q4;rw [q4,if_neg (of_decide_eq_false q5),if_pos rfl] at h;refine ⟨hin,by omega,?_⟩
    have e2:i+1+((JA 6 (c::w) 0).2:Int)+1=i+1+(((JA 6 (c::w) 0).2+1:Nat):Int):=by omega
    rw [e2];exact h
   ·rw [e] at q4;rw [q4,if_pos (of_decide_eq_true q5)] at h;exact ⟨by omega,by omega,by simpa using h⟩
   ·rw [e] at q4;rw [q4,if_neg (of_decide_eq_false q5)] at h;exact ⟨hin,by omega,by simpa using h⟩
set_option maxRecDepth 100000 in
set_option maxRecDepth 100000 in
set_option maxRecDepth 100000 in
set_option maxRecDepth 100000 in
def ZgK (K:Tok→Int→Prop) (b:List UInt8) (i:Int) (r:Bool×List UInt8×Nat):Prop:=K (if r.1 then tk 5 (b++r.2.1) else tk 6) (i+(r.2.2:Int))
theorem Ziq (s:List UInt8) (hs:s.length≤1000000) (q:Int) (K:Tok→Int→Prop):∀(n:Nat) (w:List UInt8) (i:Int) (b:List UInt8),w.length≤n→s.drop i.toNat=w→okP s i→b.length+4*w.length≤4500000→ZgK K b i (strM q w)→∃m,ZaQ jb3 m s i q 0 [] 0 [] false b (fun y1 _ _ _ _ _ y7=>K (Tok.mk 5 y7 0 [] false) y1) (fun y8 y9 y10 y11 y12 y13=>K (Tok.mk y9 y10 y11 y12 y13) y8):=by
 intro n
 induction n with
 | zero=>
  intro w i b hn hd hi hb h;cases w with
  | cons c w=>simp at hn
  | nil=>
   have hl:=zQ hd;rw [strM] at h;refine ⟨1,fun p=>(by exfalso;have:=of_decide_eq_true p;omega),fun _=>?_⟩
   simpa [ZgK,tk] using h
 | succ n ih=>
  intro w i b hn hd hi hb h;cases w with
  | nil=>
   have hl:=zQ hd;rw [strM] at h;refine ⟨1,fun p=>(by exfalso;have:=of_decide_eq_true p;omega),fun _=>?_⟩
   simpa [ZgK,tk] using h
  | cons c w=>
  obtain ⟨hl,hc,hnx,hlen⟩:=zw hi.1 hd;rw [List.length_cons] at hn hb;by_cases c1:(c.toNat:Int)=q
  ·have e:strM q (c::w)=(true,[],1):=by rw [strM.eq_def];simp only;rw [if_pos c1]
   rw [e] at h;refine ⟨1,fun _=>⟨⟨hi.1,hl⟩,fun _=>⟨Zae (by omega),?_⟩,fun p=>?_⟩,fun p=>(by exfalso;have:=of_decide_eq_false p;omega)⟩
   ·simpa [ZgK,tk] using h
   ·exact absurd (by rw [hc];exact c1) (of_decide_eq_false p)
  ·by_cases c2:(c.toNat:Int)=10
   ·have e:strM q (c::w)=(false,[],0):=by rw [strM.eq_def];simp only;rw [if_neg c1,if_pos c2]
    rw [e] at h;refine ⟨1,fun _=>⟨⟨hi.1,hl⟩,fun p=>?_,fun _=>⟨⟨hi.1,hl⟩,fun _=>?_,fun p=>?_⟩⟩,fun p=>(by exfalso;have:=of_decide_eq_false p;omega)⟩
    ·exact absurd (by rw [←hc];exact of_decide_eq_true p) c1
    ·simpa [ZgK,tk] using h
    ·exact absurd (by rw [hc];exact c2) (of_decide_eq_false p)
   ·by_cases c3:(c.toNat:Int)=92
    ·cases w with
     | nil=>
      have e:strM q [c]=(true,[],1):=by rw [strM.eq_def];simp only;rw [if_neg c1,if_neg c2,if_neg (fun x=>x c3)]
      rw [e] at h;have hl2:=zQ hnx;refine ⟨2,fun _=>⟨⟨hi.1,hl⟩,fun p=>?_,fun _=>⟨⟨hi.1,hl⟩,fun p=>?_,fun _=>⟨⟨hi.1,hl⟩,fun p=>?_,fun _=>⟨Zae (by omega),fun _=>⟨Zae (by omega),fun p=>?_,fun _=>?_⟩,fun p=>?_⟩⟩⟩⟩,fun p=>(by exfalso;have:=of_decide_eq_false p;omega)⟩
      ·exact absurd (by rw [←hc];exact of_decide_eq_true p) c1
      ·exact absurd (by rw [←hc];exact of_decide_eq_true p) c2
      ·exact absurd (by rw [hc];exact c3) (of_decide_eq_true p)
      ·exfalso;have:=of_decide_eq_true p;omega
      ·simpa [ZgK,tk] using h
      ·exfalso;have:=of_decide_eq_false p;simp only [List.length_nil] at hlen;omega
     | cons d v=>
      obtain ⟨hl2,hc2,hnx2,hlen2⟩:=zw (by omega) hnx
      have hnx3:s.drop (i+2).toNat=v:=by rw [show i+2=i+1+1 by omega];exact hnx2
      rw [List.length_cons] at hn hb;by_cases c4:(d.toNat:Int)=10
      ·have e:strM q (c::d::v)=((strM q v).1,(strM q v).2.1,2+(strM q v).2.2):=by rw [strM.eq_def];simp only;rw [if_neg c1,if_neg c2,if_neg (fun x=>x c3),if_pos c4]
       rw [e] at h;obtain ⟨m,hm⟩:=ih v (i+2) b (by omega) hnx3 ⟨by omega,by omega,hs⟩ (by omega) (by
        unfold ZgK at h ⊢;have:i+2+((strM q v).2.2:Int)=i+((2+(strM q v).2.2:Nat):Int):=by omega
        rw [this];exact h)
       refine ⟨m+1,fun _=>⟨⟨hi.1,hl⟩,fun p=>?_,fun _=>⟨⟨hi.1,hl⟩,fun p=>?_,fun _=>⟨⟨hi.1,hl⟩,fun p=>?_,fun _=>⟨Zae (by omega),fun p=>?_,fun _=>⟨Zae (by omega),⟨by omega,hl2⟩,fun _=>⟨Zae (by omega),hm⟩,fun p=>?_⟩⟩⟩⟩⟩,fun p=>(by exfalso;have:=of_decide_eq_false p;omega)⟩
       ·exact absurd (by rw [←hc];exact of_decide_eq_true p) c1
       ·exact absurd (by rw [←hc];exact of_decide_eq_true p) c2
       ·exact absurd (by rw [hc];exact c3) (of_decide_eq_true p)
       ·exfalso;have:=of_decide_eq_true p;omega
       ·exact absurd (by rw [hc2];exact c4) (of_decide_eq_false p)
      ·have e:strM q (c::d::v)=((strM q ((d::v).drop (jak (d::v)).2)).1,(jak (d::v)).1++(strM q ((d::v).drop (jak (d::v)).2)).2.1,1+(jak (d::v)).2+(strM q ((d::v).drop (jak (d::v)).2)).2.2):=by rw [strM.eq_def];simp only;rw [if_neg c1,if_neg c2,if_neg (fun x=>x c3),if_neg c4]
       rw [e] at h;have he:=Ja1 (d::v);have het:=jdn (d::v);rw [List.length_cons] at he;have hlw:((d::v).drop (jak (d::v)).2).length≤n:=by rw [List.length_drop,List.length_cons];omega
       obtain ⟨m,hm⟩:=ih ((d::v).drop (jak (d::v)).2) (i+1+((jak (d::v)).2:Int)) (b++(jak (d::v)).1) hlw (by rw [ZbP (by omega),hnx]) ⟨by omega,by omega,hs⟩ (by rw [List.length_append,List.length_drop,List.length_cons];omega) (by
        unfold ZgK at h ⊢;have:i+1+((jak (d::v)).2:Int)+((strM q ((d::v).drop (jak (d::v)).2)).2.2:Int)=i+((1+(jak (d::v)).2+(strM q ((d::v).drop (jak (d::v)).2)).2.2:Nat):Int):=by omega
        rw [this,List.append_assoc];exact h)
       refine ⟨m+1,fun _=>⟨⟨hi.1,hl⟩,fun p=>?_,fun _=>⟨⟨hi.1,hl⟩,fun p=>?_,fun _=>⟨⟨hi.1,hl⟩,fun p=>?_,fun _=>⟨Zae (by omega),fun p=>?_,fun _=>⟨Zae (by omega),⟨by omega,hl2⟩,fun p=>?_,fun _=>⟨⟨hi.1,hl,hs⟩,by omega,?_⟩⟩⟩⟩⟩⟩,fun p=>(by exfalso;have:=of_decide_eq_false p;omega)⟩
       ·exact absurd (by rw [←hc];exact of_decide_eq_true p) c1
       ·exact absurd (by rw [←hc];exact of_decide_eq_true p) c2
       ·exact absurd (by rw [hc];exact c3) (of_decide_eq_true p)
       ·exfalso;have:=of_decide_eq_true p;omega
       ·exact absurd (by rw [←hc2];exact of_decide_eq_true p) c4
       ·rw [hnx];exact hm
    ·have e:strM q (c::w)=((strM q w).1,c::(strM q w).2.1,1+(strM q w).2.2):=by rw [strM.eq_def];simp only;rw [if_neg c1,if_neg c2,if_pos c3]
     rw [e] at h;obtain ⟨m,hm⟩:=ih w (i+1) (b++[c]) (by omega) hnx ⟨by omega,by omega,hs⟩ (by rw [List.length_append];simp only [List.length_singleton];omega) (by
      unfold ZgK at h ⊢;have:i+1+((strM q w).2.2:Int)=i+((1+(strM q w).2.2:Nat):Int):=by omega
      rw [this,List.append_assoc];exact h)
     refine ⟨m+1,fun _=>⟨⟨hi.1,hl⟩,fun p=>?_,fun _=>⟨⟨hi.1,hl⟩,fun p=>?_,fun _=>⟨⟨hi.1,hl⟩,fun _=>⟨⟨hi.1,hl⟩,?_⟩,fun p=>?_⟩⟩⟩,fun p=>(by exfalso;have:=of_decide_eq_false p;omega)⟩
     ·exact absurd (by rw [←hc];exact of_decide_eq_true p) c1
     ·exact absurd (by rw [←hc];exact of_decide_eq_true p) c2
     ·rw [hc,zhB];exact ⟨ze6 c,by simp only [List.length_singleton];omega,Zae (by omega),hm⟩
     ·exact absurd (by rw [hc];exact c3) (of_decide_eq_false p)
def Jhg:JbW:=fun s i K=>(0≤i∧i<s.length∧s.length≤1000000)∧ZgK K [] (i+1) (strM (hb (s.drop i.toNat)) (s.drop (i+1).toNat))
theorem ziL (s i K) (h:Jhg s i K):zfq jb3 s i K:=by
 obtain ⟨⟨h0,h1,h2⟩,h⟩:=h;rw [zgK] at h;exact ⟨⟨h0,h1⟩,Zae (by omega),Ziq s h2 _ K _ _ _ [] (Nat.le_refl _) rfl ⟨by omega,by omega,h2⟩ (by rw [List.length_drop];simp only [List.length_nil];omega) h⟩
theorem Jiq (s:List UInt8) (hs:s.length≤1000000) (K:Int→Prop):∀(n:Nat) (w:List UInt8) (i:Int),w.length≤n→s.drop i.toNat=w→okP s i→K (i+(ze5 w:Int))→∃m,Jbq zcH Jb2 m s i (fun y=>K y) (fun y=>K y):=by
 intro n
 induction n with
 | zero=>
  intro w i hn hd hi h;cases w with
  | cons c w=>simp at hn
  | nil=>
   have hl:=zQ hd;rw [ze5] at h;exact ⟨1,fun p=>(by exfalso;have:=of_decide_eq_true p;omega),fun _=>by simpa using h⟩
 | succ n ih=>
  intro w i hn hd hi h;cases w with
  | nil=>
   have hl:=zQ hd;rw [ze5] at h;exact ⟨1,fun p=>(by exfalso;have:=of_decide_eq_true p;omega),fun _=>by simpa using h⟩
  | cons c w=>
  obtain ⟨hl,hc,hnx,hlen⟩:=zw hi.1 hd;rw [List.length_cons] at hn;rw [ze5] at h;by_cases c1:(c.toNat:Int)=41
  ·rw [if_pos c1] at h;refine ⟨1,fun _=>⟨⟨hi.1,hl⟩,fun _=>⟨Zae (by omega),by simpa using h⟩,fun p=>?_⟩,fun p=>(by exfalso;have:=of_decide_eq_false p;omega)⟩
   exact absurd (by rw [hc];exact c1) (of_decide_eq_false p)
  ·rw [if_neg c1] at h;cases q:Jcj (c::w) with
   | true=>
    rw [q,if_pos rfl] at h;have he:=Ja1 w;obtain ⟨m,hm⟩:=ih (w.drop (jak w).2) (i+1+((jak w).2:Int)) (by rw [List.length_drop];omega) (by rw [ZbP (by omega),hnx]) ⟨by omega,by omega,hs⟩ (by
     have:i+1+((jak w).2:Int)+(ze5 (w.drop (jak w).2):Int)=i+((1+(jak w).2+ze5 (w.drop (jak w).2):Nat):Int):=by omega
     rw [this];exact h)
    refine ⟨m+1,fun _=>⟨⟨hi.1,hl⟩,fun p=>?_,fun _=>⟨hi,fun _=>⟨⟨hi.1,hl,hs⟩,by decide,?_⟩,fun p=>?_⟩⟩,fun p=>(by exfalso;have:=of_decide_eq_false p;omega)⟩
    ·exact absurd (by rw [←hc];exact of_decide_eq_true p) c1
    ·rw [hnx];exact hm
    ·rw [hd,q] at p;cases p
   | false=>
    rw [q] at h;obtain ⟨m,hm⟩:=ih w (i+1) (by omega) hnx ⟨by omega,by omega,hs⟩ (by
     have:i+1+(ze5 w:Int)=i+((1+ze5 w:Nat):Int):=by omega
     rw [this];simpa using h)
    refine ⟨m+1,fun _=>⟨⟨hi.1,hl⟩,fun p=>?_,fun _=>⟨hi,fun p=>?_,fun _=>⟨Zae (by omega),hm⟩⟩⟩,fun p=>(by exfalso;have:=of_decide_eq_false p;omega)⟩
    ·exact absurd (by rw [←hc];exact of_decide_eq_true p) c1
    ·rw [hd,q] at p;cases p
def JgK:zav:=fun s i K=>okP s i∧K (i+(ze5 (s.drop i.toNat):Int))
theorem jiL (s i K) (h:JgK s i K):jfo zcH Jb2 s i K:=Jiq s h.1.2.2 K _ _ _ (Nat.le_refl _) rfl h.1 h.2
def Jcb:Jr:=fun c K=>K (Jd9 c)
theorem zhh (c K) (h:Jcb c K):ja0 c K:=by
 unfold Jcb Jd9 at h;unfold ja0;refine ⟨fun q=>?_,fun q=>⟨fun q2=>?_,fun q2=>⟨fun q3=>?_,fun q3=>⟨fun q4=>?_,fun q4=>⟨fun q5=>?_,fun q5=>⟨fun q6=>?_,fun q6=>⟨fun q7=>⟨fun q8=>?_,fun q8=>?_⟩,fun q7=>?_⟩⟩⟩⟩⟩⟩⟩ <;> simpa only [*,Bool.true_or,Bool.false_or,Bool.or_true,Bool.or_false,Bool.true_and,Bool.false_and] using h
theorem Zcu:∀w:List UInt8,nSp w≤w.length
 | []=>Nat.le_refl _
 | c::w=>by
  unfold nSp;have:=Zcu w;split <;> simp only [List.length_cons] <;> omega
theorem zir (s:List UInt8) (hs:s.length≤1000000) (Ke:List UInt8→Int→Int→List UInt8→Int→List UInt8→Bool→List UInt8→Prop):∀(n:Nat) (w:List UInt8) (i:Int) (b:List UInt8),w.length≤n→s.drop i.toNat=w→okP s i→b.length+4*w.length≤4500000→Ke s (i+((Jct w).2:Int)) 0 [] 0 [] false (b++(Jct w).1)→∃m,JZ zhg ZaF zcH jb3 Jcb JgK m s i 0 [] 0 [] false b Ke:=by
 intro n
 induction n with
 | zero=>
  intro w i b hn hd hi hb h;cases w with
  | cons c w=>simp at hn
  | nil=>
   have hl:=zQ hd;rw [Jct] at h;exact ⟨1,fun p=>(by exfalso;have:=of_decide_eq_true p;omega),fun _=>by simpa using h⟩
 | succ n ih=>
  intro w i b hn hd hi hb h;cases w with
  | nil=>
   have hl:=zQ hd;rw [Jct] at h;exact ⟨1,fun p=>(by exfalso;have:=of_decide_eq_true p;omega),fun _=>by simpa using h⟩
  | cons c w=>
  obtain ⟨hl,hc,hnx,hlen⟩:=zw hi.1 hd;rw [List.length_cons] at hn hb;rw [Jct] at h;by_cases c1:(c.toNat:Int)=41
  ·rw [if_pos c1] at h;refine ⟨1,fun _=>⟨⟨hi.1,hl⟩,fun p=>?_,fun _=>by simpa using h⟩,fun p=>(by exfalso;have:=of_decide_eq_false p;omega)⟩
   exact absurd (by rw [hc];exact c1) (of_decide_eq_true p)
  ·rw [if_neg c1] at h;have nc1:¬decide (((s.getD i.toNat 0).toNat:Int)≠41)=false:=fun p=>(of_decide_eq_false p) (by rw [hc];exact c1)
   cases q:mSp (c.toNat:Int) with
   | true=>
    rw [q,if_pos rfl] at h;have h:Ke s (i+(nSp (c::w):Int)) 0 [] 0 [] false b:=by simpa using h
    have hk:=Zcu (c::w);rw [List.length_cons] at hk;refine ⟨2,fun _=>⟨⟨hi.1,hl⟩,fun _=>⟨⟨hi.1,hl⟩,fun _=>⟨hi,?_⟩,fun p=>?_⟩,fun p=>absurd p nc1⟩,fun p=>(by exfalso;have:=of_decide_eq_false p;omega)⟩
    ·rw [hd];refine ⟨fun p=>⟨⟨by omega,of_decide_eq_true p⟩,fun _=>h,fun p2=>⟨fun _=>⟨⟨by omega,of_decide_eq_true p⟩,fun p3=>?_,fun _=>h⟩,fun p3=>?_⟩⟩,fun p=>⟨fun p2=>?_,fun _=>h⟩⟩
     ·rw [p2] at p3;cases p3
     ·rw [p] at p3;cases p3
     ·rw [p] at p2;cases p2
    ·rw [hc,q] at p;cases p
   | false=>
    rw [q] at h;simp only [Bool.false_eq_true,if_false] at h;cases q2:Jcj (c::w) with
    | true=>
     rw [q2,if_pos rfl] at h;have he:=Ja1 w;have het:=jdn w;obtain ⟨m,hm⟩:=ih (w.drop (jak w).2) (i+1+((jak w).2:Int)) (b++(jak w).1) (by rw [List.length_drop];omega) (by rw [ZbP (by omega),hnx]) ⟨by omega,by omega,hs⟩ (by rw [List.length_append,List.length_drop];omega) (by
      have:i+1+((jak w).2:Int)+((Jct (w.drop (jak w).2)).2:Int)=i+((1+(jak w).2+(Jct (w.drop (jak w).2)).2:Nat):Int):=by omega
      rw [this,List.append_assoc];exact h)
     refine ⟨m+1,fun _=>⟨⟨hi.1,hl⟩,fun _=>⟨⟨hi.1,hl⟩,fun p=>?_,fun _=>⟨hi,fun _=>⟨⟨hi.1,hl,hs⟩,by omega,?_⟩,fun p=>?_⟩⟩,fun p=>absurd p nc1⟩,fun p=>(by exfalso;have:=of_decide_eq_false p;omega)⟩
     ·rw [hc,q] at p;cases p
     ·rw [hnx];exact hm
     ·rw [hd,q2] at p;cases p
    | false=>
     rw [q2] at h;simp only [Bool.false_eq_true,if_false] at h;cases q3:Jd9 (c.toNat:Int) with
     | true=>
      rw [q3,if_pos rfl] at h;refine ⟨1,fun _=>⟨⟨hi.1,hl⟩,fun _=>⟨⟨hi.1,hl⟩,fun p=>?_,fun _=>⟨hi,fun p=>?_,fun _=>⟨⟨hi.1,hl⟩,fun _=>by simpa using h,fun p=>?_⟩⟩⟩,fun p=>absurd p nc1⟩,fun p=>(by exfalso;have:=of_decide_eq_false p;omega)⟩
      ·rw [hc,q] at p;cases p
      ·rw [hd,q2] at p;cases p
      ·rw [hc,q3] at p;cases p
     | false=>
      rw [q3] at h;simp only [Bool.false_eq_true,if_false] at h;obtain ⟨m,hm⟩:=ih w (i+1) (b++[c]) (by omega) hnx ⟨by omega,by omega,hs⟩ (by rw [List.length_append];simp only [List.length_singleton];omega) (by
       have:i+1+((Jct w).2:Int)=i+((1+(Jct w).2:Nat):Int):=by omega
       rw [this,List.append_assoc];exact h)
      refine ⟨m+1,fun _=>⟨⟨hi.1,hl⟩,fun _=>⟨⟨hi.1,hl⟩,fun p=>?_,fun _=>⟨hi,fun p=>?_,fun _=>⟨⟨hi.1,hl⟩,fun p=>?_,fun _=>⟨⟨hi.1,hl⟩,?_⟩⟩⟩⟩,fun p=>absurd p nc1⟩,fun p=>(by exfalso;have:=of_decide_eq_false p;omega)⟩
      ·rw [hc,q] at p;cases p
      ·rw [hd,q2] at p;cases p
      ·rw [hc,q3] at p;cases p
      ·rw [hc,zhB];exact ⟨ze6 c,by simp only [List.length_singleton];omega,Zae (by omega),hm⟩
theorem ZfQ (w:List UInt8):(Jct w).2≤w.length:=by
 induction hn:w.length using Nat.strongRecOn generalizing w with
 | _ n ih=>
  cases w with
  | nil=>rw [Jct];simp
  | cons c w=>
   have hk:=Zcu (c::w);rw [List.length_cons] at hn hk;rw [Jct];split
   ·simp
   ·split
    ·simp only;omega
    ·split
     ·have he:=Ja1 w;have:=ih (w.drop (jak w).2).length (by rw [List.length_drop];omega) (w.drop (jak w).2) rfl
      rw [List.length_drop] at this;simp only;omega
     ·split
      ·simp
      ·have:=ih w.length (by omega) w rfl
       simp only;omega
def jhh:jan:=fun s i K=>okP s i∧i≤s.length∧K (jU (s.drop i.toNat)).1 (i+((jU (s.drop i.toNat)).2:Int))
theorem ZiL (s i K) (h:jhh s i K):Jcp zhg ZaF zcH jb3 Jcb JgK s i K:=by
 obtain ⟨hi,hl,h⟩:=h;have ha:=Zcu (s.drop i.toNat);have hu:=ZfQ ((s.drop i.toNat).drop (nSp (s.drop i.toNat)));rw [List.length_drop] at ha;simp only [List.length_drop] at hu;have hi0:=hi.1;have hs:=hi.2.2;have eA:s.drop (i+(nSp (s.drop i.toNat):Int)).toNat=(s.drop i.toNat).drop (nSp (s.drop i.toNat)):=ZbP hi.1 _;refine ⟨hi,zir s hs _ _ _ _ [] (Nat.le_refl _) rfl ⟨by omega,by omega,hs⟩ (by rw [List.length_drop];simp only [List.length_nil];omega) ?_⟩
 rw [eA];unfold jU at h;simp only at h;have eV:s.drop (i+(nSp (s.drop i.toNat):Int)+((Jct ((s.drop i.toNat).drop (nSp (s.drop i.toNat)))).2:Int)).toNat=(s.drop i.toNat).drop (nSp (s.drop i.toNat)+(Jct ((s.drop i.toNat).drop (nSp (s.drop i.toNat)))).2):=by rw [ZbP (by omega),eA,List.drop_drop]
 generalize (s.drop i.toNat).drop (nSp (s.drop i.toNat)+(Jct ((s.drop i.toNat).drop (nSp (s.drop i.toNat)))).2)=v at h eV;generalize eJ:i+(nSp (s.drop i.toNat):Int)+((Jct ((s.drop i.toNat).drop (nSp (s.drop i.toNat)))).2:Int)=j at eV;have hj:0≤j∧j≤s.length:=by omega
 cases v with
 | nil=>
  have hlj:=zQ eV;rw [if_pos rfl] at h;refine ⟨fun _=>?_,fun p=>(by exfalso;have:=of_decide_eq_false p;omega)⟩
  have e:i+((nSp (s.drop i.toNat)+(Jct ((s.drop i.toNat).drop (nSp (s.drop i.toNat)))).2:Nat):Int)=j:=by omega
  rw [e] at h;exact h
 | cons c v=>
  obtain ⟨hl2,hc,hnx,_⟩:=zw hj.1 eV;rw [if_neg (by simp)] at h
  refine ⟨fun p=>(by exfalso;have:=of_decide_eq_true p;omega),fun _=>⟨⟨hj.1,hl2⟩,fun p=>⟨Zae (by omega),?_⟩,fun p=>⟨⟨by omega,by omega,hs⟩,?_⟩⟩⟩
  ·have p:=of_decide_eq_true p;rw [hc] at p;rw [Jd,if_pos p] at h;have e:i+((nSp (s.drop i.toNat)+(Jct ((s.drop i.toNat).drop (nSp (s.drop i.toNat)))).2+1:Nat):Int)=j+1:=by omega
   rw [e] at h;exact h
  ·have p:=of_decide_eq_false p;rw [hc] at p;rw [Jd,if_neg p] at h;have e:i+((nSp (s.drop i.toNat)+(Jct ((s.drop i.toNat).drop (nSp (s.drop i.toNat)))).2+ze5 (c::v):Nat):Int)=j+(ze5 (c::v):Int):=by omega
   rw [e] at h;rw [eV];exact h
def zgL:zs:=fun c K=>(0≤c∧c≤255)∧K (low c)
theorem JiL (c K) (h:zgL c K):Za0 c K:=by
 obtain ⟨⟨h0,h1⟩,h⟩:=h;unfold low at h;unfold Za0;simp only [decide_eq_true_eq,decide_eq_false_iff_not];refine ⟨fun q=>⟨fun q2=>?_,fun q2=>?_⟩,fun q=>?_⟩
 ·rw [if_pos ⟨q,q2⟩] at h;rw [u8w (by omega) (by omega)]
  exact h
 ·rw [if_neg (by omega)] at h;exact h
 ·rw [if_neg (by omega)] at h;exact h
theorem JfQ (a b:List UInt8) (ha:a.length≤10000000) (hab:a.length=b.length) (Ke:Unit→Prop) (Kr:Bool→Prop):∀(u v:List UInt8) (j:Int),a.drop j.toNat=u→b.drop j.toNat=v→0≤j→j≤a.length→(Z3 u v=true→Ke ())→(Z3 u v=false→Kr false)→∃m,jbe zgL m a b (a.length:Int) j Ke Kr
 | [],v,j,hu,hv,h0,hj,k1,_=>by
  have hl:=zQ hu;have:v=[]:=by rw [←hv];exact List.drop_of_length_le (by omega)
  subst this;exact ⟨1,fun p=>(by exfalso;have:=of_decide_eq_true p;omega),fun _=>k1 rfl⟩
 | c::u,v,j,hu,hv,h0,hj,k1,k2=>by
  obtain ⟨hl,hc,hnx,_⟩:=zw h0 hu;cases v with
  | nil=>have:=zQ hv;exfalso;omega
  | cons d v=>
  obtain ⟨hl2,hc2,hnx2,_⟩:=zw h0 hv;by_cases q:low (c.toNat:Int)=low (d.toNat:Int)
  ·have e:Z3 (c::u) (d::v)=Z3 u v:=by rw [Z3,decide_eq_true q,Bool.true_and]
   rw [e] at k1 k2;obtain ⟨m,hm⟩:=JfQ a b ha hab Ke Kr u v (j+1) hnx hnx2 (by omega) (by omega) k1 k2
   refine ⟨m+1,fun _=>⟨⟨h0,hl⟩,hb_in' a j,⟨h0,hl2⟩,hb_in' b j,fun p=>?_,fun _=>⟨Zae (by omega),hm⟩⟩,fun p=>(by exfalso;have:=of_decide_eq_false p;omega)⟩
   exact absurd (by rw [hc,hc2];exact q) (of_decide_eq_true p)
  ·have e:Z3 (c::u) (d::v)=false:=by rw [Z3,decide_eq_false q,Bool.false_and]
   refine ⟨1,fun _=>⟨⟨h0,hl⟩,hb_in' a j,⟨h0,hl2⟩,hb_in' b j,fun _=>k2 e,fun p=>?_⟩,fun p=>(by exfalso;have:=of_decide_eq_false p;omega)⟩
   exact absurd (of_decide_eq_false p) (by rw [hc,hc2];exact fun x=>x q)
where hb_in' (a:List UInt8) (j:Int):0≤((a.getD j.toNat 0).toNat:Int)∧((a.getD j.toNat 0).toNat:Int)≤255:=ze6 _
theorem jea:∀(a b:List UInt8),Z3 a b=true→a.length=b.length
 | [],[],_=>rfl
 | [],_::_,h=>by cases h
 | _::_,[],h=>by cases h
 | a::x,b::y,h=>by
  unfold Z3 at h;rw [Bool.and_eq_true] at h;rw [List.length_cons,List.length_cons,jea x y h.2]
def Jcu:jX:=fun a b K=>a.length≤10000000∧K (Z3 a b)
theorem JhW (a b K) (h:Jcu a b K):ZdE zgL a b K:=by
 obtain ⟨ha,h⟩:=h;refine ⟨fun p=>?_,fun p=>?_⟩
 ·have p:=of_decide_eq_true p;cases q:Z3 a b with
  | false=>rw [q] at h;exact h
  | true=>exact absurd (congrArg (Int.ofNat) (jea a b q)) p
 ·have p:=of_decide_eq_false p;have p:(a.length:Int)=b.length:=by simpa using p
  exact JfQ a b ha (by omega) _ _ a b 0 rfl rfl (by omega) (by omega) (fun q=>by rw [q] at h;exact h) (fun q=>by rw [q] at h;exact h)
theorem jgL (w:List UInt8):(Zo w).1.length≤4*w.length:=by
 induction hn:w.length using Nat.strongRecOn generalizing w with
 | _ n ih=>
  cases w with
  | nil=>rw [Zo];simp
  | cons c w=>
   rw [List.length_cons] at hn;rw [Zo];split
   ·split
    ·have he:=Ja1 w;have het:=jdn w;have:=ih (w.drop (jak w).2).length (by rw [List.length_drop];omega) (w.drop (jak w).2) rfl
     rw [List.length_drop] at this;simp only [List.length_append];omega
    ·have:=ih w.length (by omega) w rfl
     simp only [List.length_cons];omega
   ·simp
def zbI:ZX:=fun s i K=>okP s i∧i≤s.length∧K (Jau (s.drop i.toNat)).1 (i+((Jau (s.drop i.toNat)).2:Int))
theorem zhX (s i K) (h:zbI s i K):zbC Zck Zm Jcu zhg jd5 jhh s i K:=by
 obtain ⟨hi,hl,h⟩:=h;have hi0:=hi.1;have hs:=hi.2.2;have hn:=zb3 (s.drop i.toNat);have ht:=jgL (s.drop i.toNat);rw [List.length_drop] at hn ht;have eV:=ZbP hi0 (s:=s) (Zo (s.drop i.toNat)).2;unfold Jau at h;simp only at h;rw [←eV] at h;generalize eJ:i+((Zo (s.drop i.toNat)).2:Int)=j at eV h ⊢;have hj:0≤j∧j≤s.length:=by omega
 refine ⟨hi,?_⟩;rw [eJ];refine ⟨hj.1,fun p=>?_,fun p=>?_⟩
 ·rw [if_pos (of_decide_eq_true p)] at h;rw [eJ] at h;exact h
 ·have p:=of_decide_eq_false p;rw [if_neg p] at h;have p2:hb (s.drop j.toNat)=40:=by simpa using p
  have hl2:j<s.length:=by
   by_cases q:j<s.length
   ·exact q
   ·rw [List.drop_of_length_le (by omega)] at p2;exact absurd p2 (by decide)
  rw [←zaW hj.1] at h;have eS:=ZbP (i:=j+1) (by omega) (s:=s) (nSp (s.drop (j+1).toNat))
  rw [←eS] at h;have hsp:=Zcu (s.drop (j+1).toNat);rw [List.length_drop] at hsp;have fin:K (tk 2 (Zo (s.drop i.toNat)).1) (i+(((Zo (s.drop i.toNat)).2+1:Nat):Int))→K (Tok.mk 2 (Zo (s.drop i.toNat)).1 0 [] false) (j+1):=fun h=>by
   have e:i+(((Zo (s.drop i.toNat)).2+1:Nat):Int)=j+1:=by omega
   rw [e] at h;exact h
  refine ⟨Zae (by omega),by omega,fun q=>⟨⟨by omega,by omega,hs⟩,by omega,fun q2=>⟨⟨by omega,by omega,hs⟩,by omega,?_⟩,fun q2=>?_⟩,fun q=>?_⟩
  ·rw [q,q2] at h;simp only [Bool.and_self,if_true] at h;have e:i+(((Zo (s.drop i.toNat)).2+1+(jU (s.drop (j+1).toNat)).2:Nat):Int)=j+1+((jU (s.drop (j+1).toNat)).2:Int):=by omega
   rw [e] at h;exact h
  ·rw [q,q2] at h;simp only [Bool.and_false,Bool.false_eq_true,if_false] at h;exact fin h
  ·rw [q] at h;simp only [Bool.false_and,Bool.false_eq_true,if_false] at h;exact fin h
end Go.Proofs.YtmnegokadegioaaGreatDoor
namespace Go.Proofs.YtmnegokadegioaaGreatDoor
open Go.Vm Go.Sx Go.RowKit
def AllDg (w:List UInt8):Prop:=∀b,b∈w→mD (b.toNat:Int)=true
theorem ZaM (w:List UInt8):AllDg (JE w):=fun b hb=>by
 unfold JE at hb
 induction w with
 | nil=>cases hb
 | cons c w ih=>
  rw [List.takeWhile_cons] at hb;split at hb
  ·rcases List.mem_cons.mp hb with rfl|hb
   ·assumption
   ·exact ih hb
  ·cases hb
theorem jaU (w:List UInt8):(JE w).length≤w.length:=(List.takeWhile_sublist _).length_le
theorem Zhh:JE []=[]:=rfl
theorem digs_pos {c:UInt8} {w:List UInt8} (h:mD (c.toNat:Int)=true):JE (c::w)=c::JE w:=by unfold JE;rw [List.takeWhile_cons,if_pos h]
theorem digs_neg {c:UInt8} {w:List UInt8} (h:mD (c.toNat:Int)=false):JE (c::w)=[]:=by unfold JE;rw [List.takeWhile_cons,if_neg (by rw [h];decide)]
theorem ZgL (w:List UInt8):w.take (JE w).length=JE w:=by
 unfold JE
 induction w with
 | nil=>rfl
 | cons c w ih=>
  rw [List.takeWhile_cons];split
  ·rw [List.length_cons,List.take_succ_cons,ih]
  ·rfl
theorem Jbf {s:List UInt8} {i:Int} (h:0≤i):(s.drop i.toNat).take ((i+((JE (s.drop i.toNat)).length:Int)).toNat-i.toNat)=JE (s.drop i.toNat):=by
 have e:(i+((JE (s.drop i.toNat)).length:Int)).toNat-i.toNat=(JE (s.drop i.toNat)).length:=by omega
 rw [e,ZgL]
theorem zfA (s:List UInt8) (hs:s.length≤1000000) (x:Int) (Ke:Int→List UInt8→Int→Prop):∀(w:List UInt8) (i:Int),s.drop i.toNat=w→okP s i→Ke x s (i+((JE w).length:Int))→∃m,Zu Zm jaB m x s i Ke
 | [],i,hd,hi,h=>by
  refine ⟨1,hi.1,fun q=>?_,fun _=>?_⟩
  ·rw [hd] at q;exact absurd q (by decide)
  ·simpa [Zhh] using h
 | c::w,i,hd,hi,h=>by
  obtain ⟨hl,hc,hn,_⟩:=zw hi.1 hd;cases q:mD (c.toNat:Int) with
  | false=>
   rw [digs_neg q] at h;refine ⟨1,hi.1,fun q2=>?_,fun _=>?_⟩
   ·rw [hd,Jd,q] at q2;cases q2
   ·simpa using h
  | true=>
   rw [digs_pos q] at h;obtain ⟨m,hm⟩:=zfA s hs x Ke w (i+1) hn ⟨by omega,by omega,hs⟩ (by
    have:i+1+((JE w).length:Int)=i+((c::JE w).length:Int):=by rw [List.length_cons];omega
    rw [this];exact h)
   refine ⟨m+1,hi.1,fun _=>⟨Zae (by omega),hm⟩,fun q2=>?_⟩
   rw [hd,Jd,q] at q2;cases q2
theorem Jhh {c:UInt8} (h:mD (c.toNat:Int)=true):48≤(c.toNat:Int)∧(c.toNat:Int)≤57:=by
 unfold mD at h;simp only [Bool.and_eq_true,decide_eq_true_eq] at h;exact h
theorem w8' {n:Int} (h0:0≤n) (h1:n≤255):IntKind.u8.wrap n=n:=by rw [IntKind.wrap_u8];omega
theorem ze7 {a:Int} {c:UInt8} (h0:0≤a) (h:mD (c.toNat:Int)=true):0≤zck a c∧zck a c≤8000:=by
 have:=Jhh h;unfold zck;omega
theorem jir (s:List UInt8) (hs:s.length≤1000000) (ha:AllDg s) (Ke:Int→Prop):∀(w:List UInt8) (i a:Int),s.drop i.toNat=w→0≤i→i≤s.length→0≤a→a≤8000→Ke (w.foldl zck a)→∃m,Zb8 m s a (s.length:Int) i Ke
 | [],i,a,hd,h0,hi,ha0,ha1,h=>by
  have:=zQ hd;exact ⟨1,fun q=>(by exfalso;have:=of_decide_eq_true q;omega),fun _=>h⟩
 | c::w,i,a,hd,h0,hi,ha0,ha1,h=>by
  obtain ⟨hl,hc,hn,_⟩:=zw h0 hd;have hm:c∈s:=List.mem_of_mem_drop (by rw [hd];exact List.mem_cons_self ..)
  have hb:=Jhh (ha c hm);have hf:=ze7 ha0 (ha c hm);obtain ⟨m,hm⟩:=jir s hs ha Ke w (i+1) (zck a c) hn (by omega) (by omega) hf.1 hf.2 h
  refine ⟨m+1,fun _=>⟨Zae (by omega),⟨h0,hl⟩,?_⟩,fun q=>(by exfalso;have:=of_decide_eq_false q;omega)⟩
  rw [hc,w8' (by omega) (by omega)]
  refine ⟨Zae (by omega),Zae (by omega),Zae (by omega),?_⟩
  have e:(if (8000:Int)<10*a+((c.toNat:Int)-48) then (8000:Int) else 10*a+((c.toNat:Int)-48))=zck a c:=by unfold zck;split <;> omega
  rw [e];exact hm
def Zc2:zbT:=fun w K=>(AllDg w∧w.length≤1000000)∧K (Zb2 w)
theorem jhX (w K) (h:Zc2 w K):Jfj w K:=jir w h.1.2 h.1.1 K w 0 0 rfl (by omega) (by omega) (by omega) (by omega) h.2
theorem Zdn:∀(w:List UInt8) (a:Int),AllDg w→0≤a→a≤8000→0≤w.foldl zck a∧w.foldl zck a≤8000
 | [],a,_,h0,h1=>⟨h0,h1⟩
 | c::w,a,hw,h0,h1=>by
  have hf:=ze7 h0 (hw c (List.mem_cons_self ..));exact Zdn w _ (fun b hb=>hw b (List.mem_cons_of_mem _ hb)) hf.1 hf.2
theorem Zir:∀(s:List UInt8) (Ke:List UInt8→Prop),Ke (ZH s)→∃m,Zby m s 48 Ke
 | [],Ke,h=>⟨1,fun q=>(by simp at q),fun _=>h⟩
 | b::s,Ke,h=>by
  cases q:b==48 with
  | false=>
   have:ZH (b::s)=b::s:=by unfold ZH;rw [List.dropWhile_cons,if_neg (by rw [q];decide)]
   rw [this] at h;refine ⟨1,fun _=>⟨⟨by omega,by simp⟩,fun q2=>?_,fun _=>h⟩,fun q2=>?_⟩
   ·exfalso;have q2:=of_decide_eq_true q2;have:b=48:=UInt8.toNat_inj.mp (by show b.toNat=48;have:(b.toNat:Int)=48:=q2;omega)
    rw [this] at q;exact absurd q (by decide)
   ·exfalso;have:=of_decide_eq_false q2;simp at this
  | true=>
   have e:b=48:=eq_of_beq q;have:ZH (b::s)=ZH s:=by unfold ZH;rw [List.dropWhile_cons,if_pos q]
   rw [this] at h;obtain ⟨m,hm⟩:=Zir s Ke h;subst e;exact ⟨m+1,fun _=>⟨⟨by omega,by simp⟩,fun _=>⟨⟨by omega,by rw [List.length_cons];omega⟩,hm⟩,fun q2=>(by cases (show true=false from q2))⟩,fun q2=>(by exfalso;have:=of_decide_eq_false q2;simp at this)⟩
def Jez:jbc:=fun s c K=>c=48∧K (ZH s)
theorem ZhX (s c K) (h:Jez s c K):zen s c K:=by
 obtain ⟨rfl,h⟩:=h;exact Zir s _ h
def zfR:jp:=fun s c K=>c=[48]∧K (ZH s)
theorem Jir (s c K) (h:zfR s c K):zbz Jez s c K:=by
 obtain ⟨rfl,h⟩:=h;refine ⟨fun _=>⟨fun q=>(by exact absurd q (by decide)),fun _=>⟨fun _=>⟨⟨by omega,by decide⟩,fun _=>⟨⟨by omega,by decide⟩,rfl,h⟩,fun q=>absurd q (by decide)⟩,fun q=>absurd q (by decide)⟩⟩,fun q=>?_⟩
 have:s=[]:=eq_of_beq q;subst this;exact h
theorem Zea {w:List UInt8} (h:AllDg w):AllDg (ZH w):=fun b hb=>h b ((List.dropWhile_sublist _).subset hb)
theorem zeros0_len (w:List UInt8):(ZH w).length≤w.length:=(List.dropWhile_sublist _).length_le
theorem JgL (s:List UInt8) (hs:s.length≤1000000) (ha:AllDg s) (A:jp) (p:Int) (Ke:Int→Prop):∀(k:Nat) (w:List UInt8) (i:Nat) (a:Int),s.drop i=w→(i:Int)+k=p→i+k≤13→0≤a→a<10^i→Ke (Ja9 k w a)→∃m,zbq A m s a p (i:Int) Ke
 | 0,w,i,a,hd,hp,h13,ha0,ha1,h=>⟨1,fun q=>(by exfalso;have:=of_decide_eq_true q;omega),fun _=>(by cases w <;> exact h)⟩
 | k+1,w,i,a,hd,hp,h13,ha0,ha1,h=>by
  have e10:(10:Int)^i≤10^13:=by
   have:=Nat.pow_le_pow_right (n:=10) (by decide) (show i≤13 by omega)
   exact_mod_cast this
  have e13:(10:Int)^13=10000000000000:=by decide
  have es:(10:Int)^(i+1)=10^i*10:=Int.pow_succ _ _;cases w with
  | nil=>
   have hl:s.length≤i:=by
    have:=congrArg List.length hd;rw [List.length_drop,List.length_nil] at this;omega
   obtain ⟨m,hm⟩:=JgL s hs ha A p Ke k [] (i+1) (a*10) (List.drop_of_length_le (by omega)) (by omega) (by omega) (by omega) (by rw [es];omega) h
   refine ⟨m+1,fun _=>⟨by unfold I64;omega,fun q=>(by exfalso;have:=of_decide_eq_true q;omega),fun _=>⟨Zae (by omega),?_⟩⟩,fun q=>(by exfalso;have:=of_decide_eq_false q;omega)⟩
   exact hm
  | cons c w=>
   have hd2:s.drop (i:Int).toNat=c::w:=hd;obtain ⟨hl,hc,hn,_⟩:=zw (by omega) hd2
   have hmem:c∈s:=List.mem_of_mem_drop (by rw [hd];exact List.mem_cons_self ..)
   have hb:=Jhh (ha c hmem);obtain ⟨m,hm⟩:=JgL s hs ha A p Ke k w (i+1) (a*10+((c.toNat:Int)-48)) hn (by omega) (by omega) (by omega) (by rw [es];omega) h
   refine ⟨m+1,fun _=>⟨by unfold I64;omega,fun _=>⟨⟨by omega,hl⟩,?_⟩,fun q=>(by exfalso;have:=of_decide_eq_false q;omega)⟩,fun q=>(by exfalso;have:=of_decide_eq_false q;omega)⟩
   rw [hc,w8' (by omega) (by omega)]
   exact ⟨Zae (by omega),by unfold I64;omega,Zae (by omega),hm⟩
def zgM:jbT:=fun w p K=>(AllDg w∧w.length≤1000000∧-1000000≤p∧p≤2000000)∧K (jey w p)
theorem ziM (w p K) (h:zgM w p K):Jfk zfR w p K:=by
 obtain ⟨⟨ha,hl,h0,h1⟩,h⟩:=h;have hz:=zeros0_len w;unfold jey at h;simp only at h;refine ⟨rfl,Zae (by omega),Zae (by omega),fun q=>⟨fun q2=>?_,fun q2=>⟨fun q3=>?_,fun q3=>?_⟩⟩,fun q=>?_⟩
 ·rw [if_pos (Or.inr (of_decide_eq_true q2))] at h;exact h
 ·have q2:=of_decide_eq_false q2;have q:ZH w≠[]:=fun e=>by rw [e] at q;cases q
  rw [if_neg (fun x=>x.elim q q2),if_pos (of_decide_eq_true q3)] at h;exact h
 ·have q2:=of_decide_eq_false q2;have q3:=of_decide_eq_false q3;have q:ZH w≠[]:=fun e=>by rw [e] at q;cases q
  rw [if_neg (fun x=>x.elim q q2),if_neg q3] at h
  refine JgL (ZH w) (by omega) (Zea ha) _ _ _ (p-((w.length:Int)-((ZH w).length:Int))).toNat (ZH w) 0 0 rfl (by omega) (by omega) (by omega) (by decide) ?_
  have e:∀n:Int,(if (1000000000000:Int)<n then (1000000000000:Int) else n)=min n 1000000000000:=fun n=>by split <;> omega
  rw [e];exact h
 ·rw [if_pos (Or.inl (eq_of_beq q))] at h;exact h
abbrev lpN:=Zu Zm jaB
theorem ZdQ:∀(k:Nat) (w:List UInt8) (a:Int),AllDg w→0≤a→0≤Ja9 k w a
 | 0,w,a,_,h=>by cases w <;> exact h
 | k+1,[],a,hw,h=>by rw [Ja9];exact ZdQ k [] _ hw (by omega)
 | k+1,c::w,a,hw,h=>by
  have:=Jhh (hw c (List.mem_cons_self ..));rw [Ja9];exact ZdQ k w _ (fun b hb=>hw b (List.mem_cons_of_mem _ hb)) (by omega)
theorem JhX {w:List UInt8} (h:AllDg w) (p:Int):0≤jey w p∧jey w p≤1000000000000:=by
 unfold jey;simp only;split
 ·omega
 ·split
  ·omega
  ·have:=ZdQ (p-((w.length:Int)-((ZH w).length:Int))).toNat (ZH w) 0 (Zea h) (by omega)
   omega
def jgM (W V:List UInt8) (c:Int) (K:Int→Bool→Int→Prop) (e:Int) (b:Bool) (j:Int):Prop:=
 W.length+V.length≤1099511627776∧(I64 ((W.length:Int)+e)∧(I64 (((W.length:Int)+e)+3)∧(zgM (W++V) (((W.length:Int)+e)+3) (fun y=>((decide (c=45))=true→(I64 (0-y)∧K (0-y) b j))∧((decide (c=45))=false→K y b j)))))
theorem Jdn {W V:List UInt8} {c:Int} {K:Int→Bool→Int→Prop} {e:Int} {b:Bool} {j:Int} (hW:AllDg W) (hV:AllDg V) (lW:W.length≤400000) (lV:V.length≤400000) (he:-10000≤e∧e≤10000)
  (h:K (if c=45 then 0-jey (W++V) ((W.length:Int)+e+3) else jey (W++V) ((W.length:Int)+e+3)) b j):jgM W V c K e b j:=by
 have hA:AllDg (W++V):=fun x hx=>(List.mem_append.mp hx).elim (hW x) (hV x)
 have hc:=JhX hA ((W.length:Int)+e+3);refine ⟨by omega,Zae (by omega),Zae (by omega),⟨hA,by rw [List.length_append];omega,by omega,by omega⟩,fun q=>⟨by unfold I64;omega,?_⟩,fun q=>?_⟩
 ·rw [if_pos (of_decide_eq_true q)] at h;exact h
 ·rw [if_neg (of_decide_eq_false q)] at h;exact h
theorem jfR {s:List UInt8} {j:Int} (hs:s.length≤400000) (h0:0≤j) (hj:j≤s.length) (R:Int→Bool→Int→Prop) (b:Bool) (h:R (Zbb (s.drop j.toNat)).1 (b&&decide ((Zbb (s.drop j.toNat)).2=0)) (j+((Zbb (s.drop j.toNat)).2:Int))) :
  (Zm s j (fun y11=>(jc2 y11 (fun y12=>((y12=true→(I64 (j+(1:Int))∧(Ze6 s (j+(1:Int)) (fun y13=>((y13=true→(I64 (j+(1:Int))∧(Zm s (j+(1:Int)) (fun y14=>(Zm s (j+(1:Int)) (fun y15=>(Zay y15 (fun y16=>((y16=true→(I64 ((j+(1:Int))+(1:Int))∧(∃m,lpN m ((j+(1:Int))+(1:Int)) s ((j+(1:Int))+(1:Int)) (fun y17 y18 y19=>((0≤y17∧y17≤y19∧y19≤(y18.length:Int))∧(Zc2 ((y18.drop y17.toNat).take (y19.toNat-y17.toNat)) (fun y20=>(((decide (y14=(45:Int)))=true→(I64 (0-y20)∧R (0-y20) false y19))∧((decide (y14=(45:Int)))=false→R y20 false y19)))))))))∧(y16=false→(∃m,lpN m (j+(1:Int)) s (j+(1:Int)) (fun y23 y24 y25=>((0≤y23∧y23≤y25∧y25≤(y24.length:Int))∧(Zc2 ((y24.drop y23.toNat).take (y25.toNat-y23.toNat)) (fun y26=>(((decide (y14=(45:Int)))=true→(I64 (0-y26)∧R (0-y26) false y25))∧((decide (y14=(45:Int)))=false→R y26 false y25)))))))))))))))))∧(y13=false→R 0 b j))))))∧(y12=false→R 0 b j)))))):=by
 have hok:∀x:Int,0≤x→x≤s.length+10→okP s x:=fun x a b=>⟨a,by omega,by omega⟩
 have none:(Zbb (s.drop j.toNat))=(0,0)→R 0 b j:=fun e=>by rw [e] at h;simpa using h
 refine ⟨h0,fun q=>⟨Zae (by omega),hok _ (by omega) (by omega),fun q2=>⟨Zae (by omega),by omega,by omega,fun q3=>⟨Zae (by omega),?_⟩,fun q3=>?_⟩,fun q2=>none ?_⟩,fun q=>none ?_⟩
 ·rw [zaW h0] at q2 q3;have hlen:j+1<s.length:=by
   by_cases q4:j+1<s.length
   ·exact q4
   ·exfalso;rw [←zaW h0,List.drop_of_length_le (by omega)] at q3
    exact absurd q3 (by decide)
  have hd:=jaU (s.drop (j+1+1).toNat);rw [List.length_drop] at hd;have e:Zbb (s.drop j.toNat)=(if hb (s.drop j.toNat).tail=45 then 0-Zb2 (JE (s.drop (j+1+1).toNat)) else Zb2 (JE (s.drop (j+1+1).toNat)),2+(JE (s.drop (j+1+1).toNat)).length):=by
   unfold Zbb;rw [q,q2,Bool.and_self,if_pos rfl];simp only [q3,if_true];rw [zaW (by omega:0≤j+1),zaW h0]
  rw [e] at h;refine zfA s (by omega) _ _ _ _ rfl (hok _ (by omega) (by omega)) ⟨⟨by omega,by omega,by omega⟩,?_⟩
  rw [Jbf (by omega)]
  have hwh:=Zdn (JE (s.drop (j+1+1).toNat)) 0 (ZaM _) (by omega) (by omega)
  have e2:j+((2+(JE (s.drop (j+1+1).toNat)).length:Nat):Int)=j+1+1+((JE (s.drop (j+1+1).toNat)).length:Int):=by omega
  rw [e2] at h;refine ⟨⟨ZaM _,by omega⟩,fun q4=>⟨Zae (by show _∧_;unfold Zb2;omega),?_⟩,fun q4=>?_⟩
  ·rw [zaW h0] at q4;rw [if_pos (of_decide_eq_true q4)] at h;simpa using h
  ·rw [zaW h0] at q4;rw [if_neg (of_decide_eq_false q4)] at h;simpa using h
 ·rw [zaW h0] at q2 q3;have hlen:j+1≤s.length:=by
   by_cases q4:j+1≤s.length
   ·exact q4
   ·exfalso;unfold Zd9 at q2;rw [←zaW h0,List.drop_of_length_le (by omega)] at q2
    exact absurd q2 (by decide)
  have hd:=jaU (s.drop (j+1).toNat);rw [List.length_drop] at hd;have e:Zbb (s.drop j.toNat)=(if hb (s.drop j.toNat).tail=45 then 0-Zb2 (JE (s.drop (j+1).toNat)) else Zb2 (JE (s.drop (j+1).toNat)),1+(JE (s.drop (j+1).toNat)).length):=by
   unfold Zbb;rw [q,q2,Bool.and_self,if_pos rfl];simp only [q3,Bool.false_eq_true,if_false];rw [zaW h0]
  rw [e] at h;refine zfA s (by omega) _ _ _ _ rfl (hok _ (by omega) (by omega)) ⟨⟨by omega,by omega,by omega⟩,?_⟩
  rw [Jbf (by omega)]
  have hwh:=Zdn (JE (s.drop (j+1).toNat)) 0 (ZaM _) (by omega) (by omega)
  have e2:j+((1+(JE (s.drop (j+1).toNat)).length:Nat):Int)=j+1+((JE (s.drop (j+1).toNat)).length:Int):=by omega
  rw [e2] at h;refine ⟨⟨ZaM _,by omega⟩,fun q4=>⟨Zae (by show _∧_;unfold Zb2;omega),?_⟩,fun q4=>?_⟩
  ·rw [zaW h0] at q4;rw [if_pos (of_decide_eq_true q4)] at h;simpa using h
  ·rw [zaW h0] at q4;rw [if_neg (of_decide_eq_false q4)] at h;simpa using h
 ·rw [zaW h0] at q2;unfold Zbb;rw [q2,Bool.and_false,if_neg (by decide)]
 ·unfold Zbb;rw [q,Bool.false_and,if_neg (by decide)]
theorem ZfR (w:List UInt8):-10000≤(Zbb w).1∧(Zbb w).1≤10000:=by
 unfold Zbb;split
 ·have h:=fun v:List UInt8=>Zdn (JE v) 0 (ZaM _) (by omega) (by omega)
  simp only;split
  ·have:=h (if mSg (hb w.tail)=true then w.tail.tail else w.tail)
   unfold Zb2;omega
  ·have:=h (if mSg (hb w.tail)=true then w.tail.tail else w.tail)
   unfold Zb2;omega
 ·decide
def zhi:jbU:=fun s i K=>(0≤i∧i≤s.length∧s.length≤400000)∧K (ZbL (s.drop i.toNat)).1 (ZbL (s.drop i.toNat)).2.1 (i+((ZbL (s.drop i.toNat)).2.2:Int))
theorem jiM (s i K) (h:zhi s i K):Zfl zdQ Zm jc2 Ze6 Zc2 zgM Zay jaB s i K:=by
 obtain ⟨⟨h0,hi,hs⟩,h⟩:=h;generalize hw:s.drop i.toNat=w at h;have hbw:hb (s.drop i.toNat)=hb w:=by rw [hw]
 refine ⟨h0,h0,fun q=>⟨Zae (by omega),?_⟩,fun q=>?_⟩
 ·rw [hw] at q;have hl:i<s.length:=by
   by_cases q2:i<s.length
   ·exact q2
   ·exfalso;rw [←hw,List.drop_of_length_le (by omega)] at q
    exact absurd q (by decide)
  have hsn:ZaR w=1:=by unfold ZaR;rw [if_pos q]
  have hd1:=jaU (s.drop (i+1).toNat);rw [List.length_drop] at hd1;have eS:w.drop (ZaR w)=s.drop (i+1).toNat:=by rw [hsn,←hw,List.drop_one,zaW h0]
  have eW:jaF w=JE (s.drop (i+1).toNat):=by unfold jaF;rw [eS]
  have eB:s.drop (i+1+((JE (s.drop (i+1).toNat)).length:Int)).toNat=w.drop (jz w):=by
   unfold jz;rw [eW,←List.drop_drop,eS];exact ZbP (by omega) _
  refine zfA s (by omega) _ _ _ _ rfl ⟨by omega,by omega,by omega⟩ ⟨⟨by omega,by omega,by omega⟩,⟨by omega,by omega,by omega⟩,fun q7=>⟨Zae (by omega),?_⟩,fun q7=>?_⟩
  ·rw [eB] at q7;have hl1:i+1+((JE (s.drop (i+1).toNat)).length:Int)<s.length:=by
    by_cases q8:i+1+((JE (s.drop (i+1).toNat)).length:Int)<s.length
    ·exact q8
    ·exfalso;rw [←eB,List.drop_of_length_le (by omega)] at q7
     exact absurd q7 (by decide)
   have hd2:=jaU (s.drop (i+1+((JE (s.drop (i+1).toNat)).length:Int)+1).toNat);rw [List.length_drop] at hd2;have eV:JbH w=JE (s.drop (i+1+((JE (s.drop (i+1).toNat)).length:Int)+1).toNat):=by
    unfold JbH;rw [if_pos q7,zaW (by omega),eB]
   have eF:s.drop (i+1+((JE (s.drop (i+1).toNat)).length:Int)+1+((JE (s.drop (i+1+((JE (s.drop (i+1).toNat)).length:Int)+1).toNat)).length:Int)).toNat=w.drop (zn w):=by
    unfold zn;rw [if_pos q7,eV,←List.drop_drop,←eB,ZbP (by omega),zaW (by omega),←List.drop_drop,List.drop_one]
   refine zfA s (by omega) _ _ _ _ rfl ⟨by omega,by omega,by omega⟩ ⟨⟨by omega,by omega,by omega⟩,?_⟩
   rw [Jbf (by omega),Jbf (by omega)]
   have hx:=ZfR (w.drop (zn w));refine jfR hs (by omega) (by omega) (jgM (JE (s.drop (i+1).toNat)) (JE (s.drop (i+1+((JE (s.drop (i+1).toNat)).length:Int)+1).toNat)) (hb (s.drop i.toNat)) K) false ?_
   rw [eF];refine Jdn (ZaM _) (ZaM _) (by omega) (by omega) hx ?_
   unfold ZbL jax at h;simp only [q7,Bool.not_true,Bool.false_and] at h ⊢;rw [eW,eV] at h;rw [hbw];have ej:i+((zn w+(Zbb (w.drop (zn w))).2:Nat):Int)=i+1+((JE (s.drop (i+1).toNat)).length:Int)+1+((JE (s.drop (i+1+((JE (s.drop (i+1).toNat)).length:Int)+1).toNat)).length:Int)+((Zbb (w.drop (zn w))).2:Int):=by
    have:zn w=jz w+(1+(JbH w).length):=by unfold zn;rw [if_pos q7]
    have h3:jz w=ZaR w+(jaF w).length:=rfl;rw [eV] at this;rw [eW,hsn] at h3;omega
   rw [←ej];exact h
  ·rw [eB] at q7;have eF:s.drop (i+1+((JE (s.drop (i+1).toNat)).length:Int)).toNat=w.drop (zn w):=by
    unfold zn;rw [if_neg (by rw [q7];decide),Nat.add_zero,eB]
   have eV:JbH w=[]:=by
    unfold JbH;rw [if_neg (by rw [q7];decide)]
   rw [Jbf (by omega)]
   have hx:=ZfR (w.drop (zn w));refine jfR hs (by omega) (by omega) (jgM (JE (s.drop (i+1).toNat)) [] (hb (s.drop i.toNat)) K) true ?_
   rw [eF];refine Jdn (ZaM _) (fun b hb=>by cases hb) (by omega) (Nat.zero_le _) hx ?_
   unfold ZbL jax at h;simp only [q7,Bool.not_false,Bool.true_and] at h ⊢;rw [eW,eV] at h;rw [hbw];have ej:i+((zn w+(Zbb (w.drop (zn w))).2:Nat):Int)=i+1+((JE (s.drop (i+1).toNat)).length:Int)+((Zbb (w.drop (zn w))).2:Int):=by
    have:zn w=jz w:=by unfold zn;rw [if_neg (by rw [q7];decide),Nat.add_zero]
    have h3:jz w=ZaR w+(jaF w).length:=rfl;rw [eW,hsn] at h3;omega
   rw [←ej];exact h
 ·rw [hw] at q;have hsn:ZaR w=0:=by unfold ZaR;rw [if_neg (by rw [q];decide)]
  have hd1:=jaU (s.drop i.toNat);rw [List.length_drop] at hd1;have eS:w.drop (ZaR w)=s.drop i.toNat:=by rw [hsn,←hw,List.drop_zero]
  have eW:jaF w=JE (s.drop i.toNat):=by unfold jaF;rw [eS]
  have eB:s.drop (i+((JE (s.drop i.toNat)).length:Int)).toNat=w.drop (jz w):=by
   unfold jz;rw [eW,←List.drop_drop,eS];exact ZbP (by omega) _
  refine zfA s (by omega) _ _ _ _ rfl ⟨by omega,by omega,by omega⟩ ⟨⟨by omega,by omega,by omega⟩,⟨by omega,by omega,by omega⟩,fun q7=>⟨Zae (by omega),?_⟩,fun q7=>?_⟩
  ·rw [eB] at q7;have hl1:i+((JE (s.drop i.toNat)).length:Int)<s.length:=by
    by_cases q8:i+((JE (s.drop i.toNat)).length:Int)<s.length
    ·exact q8
    ·exfalso;rw [←eB,List.drop_of_length_le (by omega)] at q7
     exact absurd q7 (by decide)
   have hd2:=jaU (s.drop (i+((JE (s.drop i.toNat)).length:Int)+1).toNat);rw [List.length_drop] at hd2;have eV:JbH w=JE (s.drop (i+((JE (s.drop i.toNat)).length:Int)+1).toNat):=by
    unfold JbH;rw [if_pos q7,zaW (by omega),eB]
   have eF:s.drop (i+((JE (s.drop i.toNat)).length:Int)+1+((JE (s.drop (i+((JE (s.drop i.toNat)).length:Int)+1).toNat)).length:Int)).toNat=w.drop (zn w):=by
    unfold zn;rw [if_pos q7,eV,←List.drop_drop,←eB,ZbP (by omega),zaW (by omega),←List.drop_drop,List.drop_one]
   refine zfA s (by omega) _ _ _ _ rfl ⟨by omega,by omega,by omega⟩ ⟨⟨by omega,by omega,by omega⟩,?_⟩
   rw [Jbf (by omega),Jbf (by omega)]
   have hx:=ZfR (w.drop (zn w));refine jfR hs (by omega) (by omega) (jgM (JE (s.drop i.toNat)) (JE (s.drop (i+((JE (s.drop i.toNat)).length:Int)+1).toNat)) (hb (s.drop i.toNat)) K) false ?_
   rw [eF];refine Jdn (ZaM _) (ZaM _) (by omega) (by omega) hx ?_
   unfold ZbL jax at h;simp only [q7,Bool.not_true,Bool.false_and] at h ⊢;rw [eW,eV] at h;rw [hbw];have ej:i+((zn w+(Zbb (w.drop (zn w))).2:Nat):Int)=i+((JE (s.drop i.toNat)).length:Int)+1+((JE (s.drop (i+((JE (s.drop i.toNat)).length:Int)+1).toNat)).length:Int)+((Zbb (w.drop (zn w))).2:Int):=by
    have:zn w=jz w+(1+(JbH w).length):=by unfold zn;rw [if_pos q7]
    have h3:jz w=ZaR w+(jaF w).length:=rfl;rw [eV] at this;rw [eW,hsn] at h3;omega
   rw [←ej];exact h
  ·rw [eB] at q7;have eF:s.drop (i+((JE (s.drop i.toNat)).length:Int)).toNat=w.drop (zn w):=by
    unfold zn;rw [if_neg (by rw [q7];decide),Nat.add_zero,eB]
   have eV:JbH w=[]:=by
    unfold JbH;rw [if_neg (by rw [q7];decide)]
   rw [Jbf (by omega)]
   have hx:=ZfR (w.drop (zn w));refine jfR hs (by omega) (by omega) (jgM (JE (s.drop i.toNat)) [] (hb (s.drop i.toNat)) K) true ?_
   rw [eF];refine Jdn (ZaM _) (fun b hb=>by cases hb) (by omega) (Nat.zero_le _) hx ?_
   unfold ZbL jax at h;simp only [q7,Bool.not_false,Bool.true_and] at h ⊢;rw [eW,eV] at h;rw [hbw];have ej:i+((zn w+(Zbb (w.drop (zn w))).2:Nat):Int)=i+((JE (s.drop i.toNat)).length:Int)+((Zbb (w.drop (zn w))).2:Int):=by
    have:zn w=jz w:=by unfold zn;rw [if_neg (by rw [q7];decide),Nat.add_zero]
    have h3:jz w=ZaR w+(jaF w).length:=rfl;rw [eW,hsn] at h3;omega
   rw [←ej];exact h
end Go.Proofs.YtmnegokadegioaaGreatDoor
namespace Go.Proofs.YtmnegokadegioaaGreatDoor
open Go.Vm Go.Sx Go.RowKit
theorem ZgM (w:List UInt8):ZaR w≤w.length:=by
 unfold ZaR;split
 ·rename_i q;cases w with
  | nil=>exact absurd q (by decide)
  | cons c w=>simp
 ·exact Nat.zero_le _
theorem zeA {w:List UInt8} {n:Nat} (h:hb (w.drop n)≠0):n<w.length:=by
 by_cases q:n<w.length
 ·exact q
 ·rw [List.drop_of_length_le (by omega)] at h;exact absurd rfl h
theorem jfA (w:List UInt8):jz w≤w.length:=by
 have h:=jaU (w.drop (ZaR w));have h2:=ZgM w;rw [List.length_drop] at h;unfold jz jaF;omega
theorem jhi {w:List UInt8} (h:jaa w=true):hb w=46:=by
 unfold jaa at h;rw [Bool.and_eq_true] at h;exact of_decide_eq_true h.1
theorem ZfA (w:List UInt8):zn w≤w.length:=by
 have h:=jfA w;unfold zn;split
 ·rename_i q;have hl:=zeA (w:=w) (n:=jz w) (by rw [jhi q];decide)
  have h2:=jaU (w.drop (jz w)).tail;unfold JbH;rw [if_pos q];rw [List.length_tail,List.length_drop] at h2;omega
 ·omega
theorem Zhi (w:List UInt8):(Zbb w).2≤w.length:=by
 unfold Zbb;split
 ·rename_i q;rw [Bool.and_eq_true] at q;cases w with
  | nil=>exact absurd q.1 (by decide)
  | cons c w=>
   by_cases q2:mSg (hb (c::w).tail)=true
   ·rw [if_pos q2,if_pos q2];cases w with
    | nil=>exact absurd (show mSg (hb [])=true from q2) (by decide)
    | cons d w=>
     have:=jaU w;show 2+(JE w).length≤w.length+1+1;omega
   ·rw [if_neg q2,if_neg q2];have:=jaU w;show 1+(JE w).length≤w.length+1;omega
 ·simp
theorem JdQ (w:List UInt8):jax w≤w.length:=by
 have h:=Zhi (w.drop (zn w));have h2:=ZfA w;rw [List.length_drop] at h;unfold jax;omega
theorem JfA {w:List UInt8} (h:jbm w=true):1≤jax w:=by
 unfold jax
 suffices q:1≤zn w by omega
 unfold zn;cases q:mSg (hb w) with
 | true=>
  have:1≤jz w:=by unfold jz ZaR;rw [if_pos q];omega
  omega
 | false=>
  have e:ZaR w=0:=by unfold ZaR;rw [if_neg (by rw [q];decide)]
  unfold jbm at h;rw [if_neg (by rw [q];decide),Bool.or_eq_true] at h
  cases w with
  | nil=>rcases h with h|h <;> exact absurd h (by decide)
  | cons c w=>
  cases q2:mD (c.toNat:Int) with
  | true=>
   have:jz (c::w)=(JE (c::w)).length:=by unfold jz jaF;rw [e,Nat.zero_add,List.drop_zero]
   rw [digs_pos q2,List.length_cons] at this;omega
  | false=>
   have:jz (c::w)=0:=by unfold jz jaF;rw [e,Nat.zero_add,List.drop_zero,digs_neg q2];rfl
   rw [this,List.drop_zero];rcases h with h|h
   ·rw [Jd,q2] at h;cases h
   ·rw [if_pos h];omega
theorem zhY {w:List UInt8} (h:mSp (hb w)=true):1≤nSp w:=by
 cases w with
 | nil=>exact absurd h (by decide)
 | cons c w=>rw [Jd] at h;unfold nSp;rw [if_pos h];omega
theorem JgM {w:List UInt8} (h:jH w=true):1≤(Zo w).2:=by
 cases w with
 | nil=>exact absurd h (by decide)
 | cons c w=>
  rw [Zo,if_pos h];split <;> simp only <;> omega
theorem jhY {w:List UInt8} (h:JC w=true):jH w=true:=by
 unfold JC at h;unfold jH mN;split at h
 ·rw [Bool.or_eq_true] at h;rcases h with h|h <;> rw [h] <;> simp
 ·rename_i q;have q:hb w=45:=by simpa using q
  rw [q];have e:(mD 45||decide ((45:Int)=45))=true:=by decide
  rw [e,Bool.or_true,Bool.true_or]
theorem Jhi (q:Int) (w:List UInt8):(strM q w).2.2≤w.length:=by
 induction hn:w.length using Nat.strongRecOn generalizing w with
 | _ n ih=>
  cases w with
  | nil=>rw [strM];simp
  | cons c w=>
   rw [List.length_cons] at hn;rw [strM.eq_def];simp only;split
   ·simp only;omega
   ·split
    ·simp
    ·split
     ·have:=ih w.length (by omega) w rfl
      simp only;omega
     ·cases w with
      | nil=>simp only [List.length_nil] at hn ⊢;omega
      | cons d v=>
       rw [List.length_cons] at hn;simp only;split
       ·have:=ih v.length (by omega) v rfl
        simp only;omega
       ·have he:=Ja1 (d::v);rw [List.length_cons] at he;have:=ih ((d::v).drop (jak (d::v)).2).length (by rw [List.length_drop,List.length_cons];omega) _ rfl
        rw [List.length_drop,List.length_cons] at this;simp only;omega
theorem zhj (w:List UInt8):ze5 w≤w.length:=by
 induction hn:w.length using Nat.strongRecOn generalizing w with
 | _ n ih=>
  cases w with
  | nil=>rw [ze5];simp
  | cons c w=>
   rw [List.length_cons] at hn;rw [ze5];split
   ·omega
   ·split
    ·have he:=Ja1 w;have:=ih (w.drop (jak w).2).length (by rw [List.length_drop];omega) (w.drop (jak w).2) rfl
     rw [List.length_drop] at this;omega
    ·have:=ih w.length (by omega) w rfl
     omega
theorem je7 (w:List UInt8):(jU w).2≤w.length:=by
 have ha:=Zcu w;have hu:=ZfQ (w.drop (nSp w));have hb:=zhj (w.drop (nSp w+(Jct (w.drop (nSp w))).2));rw [List.length_drop] at hu hb;unfold jU;simp only;split
 ·simp only;omega
 ·split
  ·rename_i q;have:=zeA (w:=w) (n:=nSp w+(Jct (w.drop (nSp w))).2) (by rw [q];decide)
   simp only;omega
  ·simp only;omega
theorem zga {w:List UInt8}:(Jau w).2≤w.length:=by
 have hn:=zb3 w;unfold Jau;simp only;split
 ·simp only;omega
 ·rename_i q;have q:hb (w.drop (Zo w).2)=40:=by simpa using q
  have hl:=zeA (w:=w) (n:=(Zo w).2) (by rw [q];decide)
  have hu:=je7 (w.drop (Zo w).2).tail;rw [List.length_tail,List.length_drop] at hu;split
  ·simp only;omega
  ·simp only;omega
theorem jga {w:List UInt8} (h:JC w=true):1≤(Jau w).2:=by
 have:=JgM (jhY h);unfold Jau;simp only;split
 ·simp only;omega
 ·split <;> simp only <;> omega
theorem Ze7 (w:List UInt8):(Zs w).2≤w.length:=by
 have h:=JdQ w;have e:(ZbL w).2.2=jax w:=rfl;have hn:=zb3 (w.drop (ZbL w).2.2);rw [List.length_drop] at hn;unfold Zs;simp only;split
 ·simp only;omega
 ·split
  ·rename_i q;have:=zeA (w:=w) (n:=(ZbL w).2.2) (by rw [q];decide)
   simp only;omega
  ·simp only;omega
theorem Je7 {w:List UInt8} (h:jbm w=true):1≤(Zs w).2:=by
 have h:=JfA h;have e:(ZbL w).2.2=jax w:=rfl;unfold Zs;simp only;split
 ·simp only;omega
 ·split <;> simp only <;> omega
theorem zcv {a w:List UInt8} (h:a.isPrefixOf w=true):a.length≤w.length:=(List.isPrefixOf_iff_prefix.mp h).length_le
theorem jhj {w:List UInt8} (hw:w≠[]):1≤(zgI w).2∧(zgI w).2≤w.length:=by
 have hl:1≤w.length:=by cases w with|nil=>exact absurd rfl hw|cons c w=>simp
 unfold zgI;split
 ·rename_i q;exact ⟨jga q,zga⟩
 ·split <;> exact ⟨Nat.le_refl _,hl⟩
theorem Zhj {w:List UInt8} (hw:w≠[]):1≤(Jgf w).2∧(Jgf w).2≤w.length:=by
 unfold Jgf;split
 ·have:=zb3 w.tail;cases w with
  | nil=>exact absurd rfl hw
  | cons c w=>simp only [List.tail_cons,List.length_cons] at this ⊢;omega
 ·exact jhj hw
theorem Jhj {w:List UInt8} (hw:w≠[]):1≤(zfz w).2∧(zfz w).2≤w.length:=by
 unfold zfz;split
 ·rename_i q;exact ⟨Je7 q,Ze7 w⟩
 ·split
  ·rename_i q;exact ⟨by decide,zcv q⟩
  ·split
   ·rename_i q;exact ⟨by decide,zcv q⟩
   ·exact Zhj hw
theorem JfR {w:List UInt8} (hw:w≠[]):1≤(jK w).2∧(jK w).2≤w.length:=by
 unfold jK;split
 ·rename_i q;exact ⟨zhY q,Zcu w⟩
 ·split
  ·have:=Jhi (hb w) w.tail;cases w with
   | nil=>exact absurd rfl hw
   | cons c w=>simp only [List.tail_cons,List.length_cons] at this ⊢;omega
  ·split
   ·have:=zb3 w.tail;cases w with
    | nil=>exact absurd rfl hw
    | cons c w=>simp only [List.tail_cons,List.length_cons] at this ⊢;omega
   ·exact Jhj hw
theorem zdR:∀(w:List UInt8) (k:Nat),Zdj w=some k→k+2≤w.length
 | [],k,h=>by cases h
 | c::w,k,h=>by
  unfold Zdj at h;split at h
  ·rename_i q;obtain rfl:=Option.some.inj h;cases w with
   | nil=>exact absurd q.2 (by decide)
   | cons d w=>simp
  ·cases hc:Zdj w with
   | none=>rw [hc] at h;cases h
   | some m=>
    rw [hc] at h;have h:m+1=k:=Option.some.inj h;have:=zdR w m hc;rw [List.length_cons];omega
theorem zfS (w:List UInt8):Zax w≤w.length:=by
 induction hn:w.length using Nat.strongRecOn generalizing w with
 | _ n ih=>
  rw [Zax];split
  ·rename_i q;have hp:=zcv q;simp only [List.length_cons,List.length_nil] at hp;split
   ·omega
   ·rename_i k hk;have:=zdR _ _ hk;rw [List.length_drop] at this;split
    ·exact Nat.zero_le _
    ·have h2:=ih (w.drop (2+(k+2))).length (by rw [List.length_drop];omega) _ rfl
     rw [List.length_drop] at h2;omega
  ·exact Nat.zero_le _
def zgN:jbd:=fun s c K=>K (c.isPrefixOf s)
theorem ZiM (s c K) (h:zgN s c K):zeq s c K:=by
 unfold zgN at h;refine ⟨fun q=>⟨⟨by omega,of_decide_eq_true q⟩,?_⟩,fun q=>?_⟩
 ·have e:(s.take (c.length:Int).toNat==c)=c.isPrefixOf s:=by
   rw [Int.toNat_natCast];cases q:c.isPrefixOf s with
   | true=>
    have:=List.prefix_iff_eq_take.mp (List.isPrefixOf_iff_prefix.mp q);rw [←this];exact beq_self_eq_true _
   | false=>
    cases q2:s.take c.length==c with
    | false=>rfl
    | true=>
     have:=List.isPrefixOf_iff_prefix.mpr (List.prefix_iff_eq_take.mpr (eq_of_beq q2).symm);rw [q] at this;cases this
  rw [e];exact h
 ·have q:=of_decide_eq_false q;cases q2:c.isPrefixOf s with
  | false=>rw [q2] at h;exact h
  | true=>have:=zcv q2;exfalso;omega
def zgg:ZA:=fun s c K=>K (c.isPrefixOf s)
theorem zja (s c K) (h:zgg s c K):Jeq zgN s c K:=h
def jgN:JaQ:=fun s c K=>s.length≤1000000∧K (Lib.index s c)
def ZgN:zI:=fun s c K=>s.length≤1000000∧K (Lib.index s c)
theorem JiM (s c K) (h:ZgN s c K):ZcU jgN s c K:=h
theorem jdR:∀w:List UInt8,Lib.index w [42,47]=match Zdj w with|none=>-1|some k=>(k:Int)
 | []=>rfl
 | c::w=>by
  have ih:=jdR w;have hp:([42,47]:List UInt8).isPrefixOf (c::w)=decide (c=42∧hb w=47):=by
   by_cases q:c=42
   ·cases w with
    | nil=>subst q;rfl
    | cons d w=>
     subst q;by_cases q2:(d.toNat:Int)=47
     ·have:d=47:=UInt8.toNat_inj.mp (by show d.toNat=47;omega)
      subst this;simp [List.isPrefixOf]
     ·have:(47:UInt8)≠d:=fun e=>q2 (by rw [←e];rfl)
      simp [List.isPrefixOf,q2,this]
   ·have:(42:UInt8)≠c:=fun e=>q e.symm
    simp [List.isPrefixOf,q,this]
  unfold Lib.index Zdj;rw [hp];by_cases q:c=42∧hb w=47
  ·rw [if_pos (decide_eq_true q),if_pos q];rfl
  ·rw [if_neg (by rw [decide_eq_false q];decide),if_neg q,ih]
   cases Zdj w with
   | none=>rfl
   | some k=>
    simp only [Option.map_some];rw [if_neg (by simp only [beq_iff_eq];omega),Int.natCast_add]
    rfl
theorem zis (s:List UInt8) (hs:s.length≤1000000) (K:Int→Prop):∀(n:Nat) (w:List UInt8) (i:Int),w.length≤n→s.drop i.toNat=w→0≤i→i≤s.length→K (i+(Zax w:Int))→∃m,Z4 zgg ZgN m s i (fun y=>K y) (fun y=>K y):=by
 intro n
 induction n with
 | zero=>
  intro w i hn hd h0 hi h;have:w=[]:=List.length_eq_zero_iff.mp (by omega)
  subst this;rw [Zax] at h;refine ⟨1,⟨h0,hi⟩,fun q=>?_,fun _=>by simpa [List.isPrefixOf] using h⟩
  rw [hd] at q;exact absurd q (by decide)
 | succ n ih=>
  intro w i hn hd h0 hi h;have hlw:=congrArg List.length hd;rw [List.length_drop] at hlw;rw [Zax] at h;cases q:([47,42]:List UInt8).isPrefixOf w with
  | false=>
   rw [q] at h;refine ⟨1,⟨h0,hi⟩,fun q2=>?_,fun _=>by simpa using h⟩
   rw [hd,q] at q2;cases q2
  | true=>
   have hp:=zcv q;simp only [List.length_cons,List.length_nil] at hp;rw [q,if_pos rfl] at h;have e2:s.drop (i+2).toNat=w.drop 2:=by rw [←hd];exact ZbP h0 2
   have hidx:=jdR (w.drop 2);cases hc:Zdj (w.drop 2) with
   | none=>
    rw [hc] at h hidx;refine ⟨1,⟨h0,hi⟩,fun _=>⟨Zae (by omega),⟨by omega,by omega⟩,by rw [List.length_drop];omega,?_⟩,fun q2=>?_⟩
    ·rw [e2,hidx];refine ⟨fun _=>?_,fun q2=>absurd q2 (by decide)⟩
     have e:i+(w.length:Int)=s.length:=by omega
     simp only at h;rw [e] at h;exact h
    ·rw [hd,q] at q2;cases q2
   | some k=>
    rw [hc] at h hidx;simp only at h hidx;have hk:=zdR _ _ hc;rw [List.length_drop] at hk;rw [if_neg (fun e=>by rw [e] at hp;simp at hp)] at h
    obtain ⟨m,hm⟩:=ih (w.drop (2+(k+2))) (i+2+((k:Int)+2)) (by rw [List.length_drop];omega) (by
     rw [←hd,←ZbP h0];congr 2;omega) (by omega) (by omega) (by
     have e:i+2+((k:Int)+2)+(Zax (w.drop (2+(k+2))):Int)=i+((2+(k+2)+Zax (w.drop (2+(k+2))):Nat):Int):=by omega
     rw [e];exact h)
    refine ⟨m+1,⟨h0,hi⟩,fun _=>⟨Zae (by omega),⟨by omega,by omega⟩,by rw [List.length_drop];omega,?_⟩,fun q2=>?_⟩
    ·rw [e2,hidx];exact ⟨fun q2=>(by exfalso;have:=of_decide_eq_true q2;omega),fun _=>⟨Zae (by omega),Zae (by omega),hm⟩⟩
    ·rw [hd,q] at q2;cases q2
def JgN:Jh:=fun s i K=>(0≤i∧i≤s.length∧s.length≤1000000)∧K (i+(Zax (s.drop i.toNat):Int))
theorem ziN (s i K) (h:JgN s i K):zaR zgg ZgN s i K:=zis s h.1.2.2 K _ _ _ (Nat.le_refl _) rfl h.1.1 h.1.2.1 h.2
theorem jfS:marksL=marksA:=rfl
def ZcH:zaD:=fun c K=>(0≤c∧c≤255)∧K (decide (ZcG c≠0))
theorem jis (c K) (h:ZcH c K):zcV c K:=by
 obtain ⟨⟨h0,h1⟩,h⟩:=h;unfold ZcG at h;refine ⟨Zae (by omega),fun q=>⟨⟨h0,of_decide_eq_true q⟩,?_,?_⟩,fun q=>?_⟩
 ·have:=of_decide_eq_true q;show 0+c.toNat*1<126;omega
 ·rw [if_pos (of_decide_eq_true q)] at h;rw [Nat.zero_add,Nat.mul_one,jfS];exact h
 ·rw [if_neg (of_decide_eq_false q)] at h;exact h
def Zb3:JS:=fun s i K=>(0≤i∧i≤s.length∧s.length≤400000)∧K (Zs (s.drop i.toNat)).1 (i+((Zs (s.drop i.toNat)).2:Int))
theorem zgO (s i K) (h:Zb3 s i K):Zbi zhi JaR Zck Zm s i K:=by
 obtain ⟨⟨h0,hi,hs⟩,h⟩:=h;have hl:=JdQ (s.drop i.toNat);rw [List.length_drop] at hl;have e:(ZbL (s.drop i.toNat)).2.2=jax (s.drop i.toNat):=rfl;unfold Zs at h;simp only at h;rw [←ZbP h0] at h;rw [e] at h;refine ⟨⟨h0,hi,hs⟩,?_⟩;rw [e];refine ⟨⟨⟨by omega,by omega,by omega⟩,by omega⟩,fun q=>⟨⟨by omega,by omega,by omega⟩,?_⟩,fun q=>⟨by omega,fun q2=>⟨Zae (by omega),?_⟩,fun q2=>?_⟩⟩
 ·rw [if_pos q] at h;simp only [Int.natCast_add,←Int.add_assoc] at h;exact h
 ·rw [if_neg (by rw [q];decide),if_pos (of_decide_eq_true q2)] at h
  simp only [Int.natCast_add,←Int.add_assoc] at h;exact h
 ·rw [if_neg (by rw [q];decide),if_neg (of_decide_eq_false q2)] at h
  exact h
theorem jhB {s:List UInt8} {i:Int} {c:UInt8} {v:List UInt8} {K:Tok→Int→Prop} (h0:0≤i) (hs:s.length≤400000) (hd:s.drop i.toNat=c::v) (h:K (zgI (c::v)).1 (i+((zgI (c::v)).2:Int))) :
  (JaR s i (fun y18=>((y18=true→(zbI s i (fun y19 y20=>K (Tok.mk y19.kind y19.text y19.num y19.unit y19.flag) y20)))∧(y18=false→((0≤i∧i<(s.length:Int))∧(ZcH ((s.getD i.toNat 0).toNat:Int) (fun y21=>((y21=true→((0≤i∧i<(s.length:Int))∧((0≤((s.getD i.toNat 0).toNat:Int)∧((s.getD i.toNat 0).toNat:Int)<(126:Int))∧(0+((s.getD i.toNat 0).toNat:Int).toNat*1<marksL.length∧(I64 (i+(1:Int))∧K (Tok.mk (marksL.getD (0+((s.getD i.toNat 0).toNat:Int).toNat*1) 0) ([]:List UInt8) (0:Int) ([]:List UInt8) false) (i+(1:Int)))))))∧(y21=false→(I64 (i+(1:Int))∧((0≤i∧i≤(i+(1:Int))∧(i+(1:Int))≤(s.length:Int))∧(I64 (i+(1:Int))∧K (Tok.mk (9:Int) ((s.drop i.toNat).take ((i+(1:Int)).toNat-i.toNat)) (0:Int) ([]:List UInt8) false) (i+(1:Int)))))))))))))):=by
 obtain ⟨hl,hc,hn,_⟩:=zw h0 hd;unfold zgI at h;refine ⟨⟨⟨h0,by omega,by omega⟩,by omega⟩,?_⟩
 rw [hd,hc];refine ⟨fun q=>⟨⟨h0,by omega,by omega⟩,by omega,?_⟩,fun q=>⟨⟨h0,hl⟩,ze6 c,fun q2=>?_,fun q2=>?_⟩⟩
 ·rw [hd];rw [if_pos q] at h;generalize Jau (c::v)=r at h ⊢;exact h
 ·have q3:=of_decide_eq_true q2;rw [if_neg (by rw [q];decide),Jd,if_pos q3] at h
  have hlt:(c.toNat:Int)<126:=by
   by_cases q4:(c.toNat:Int)<126
   ·exact q4
   ·unfold ZcG at q3;rw [if_neg q4] at q3;exact absurd rfl q3
  refine ⟨⟨h0,hl⟩,⟨(ze6 c).1,hlt⟩,by show 0+(c.toNat:Int).toNat*1<126;omega,Zae (by omega),?_⟩
  rw [Nat.zero_add,Nat.mul_one,jfS];unfold ZcG at h;rw [if_pos hlt] at h;exact h
 ·have q3:=of_decide_eq_false q2;rw [if_neg (by rw [q];decide),Jd,if_neg q3] at h
  refine ⟨Zae (by omega),⟨h0,by omega,by omega⟩,Zae (by omega),?_⟩
  have e:(i+1).toNat-i.toNat=1:=by omega
  rw [e];exact h
theorem Zis {s:List UInt8} {i:Int} {c:UInt8} {v:List UInt8} {K:Tok→Int→Prop} (h0:0≤i) (hs:s.length≤400000) (hd:s.drop i.toNat=c::v) (h:K (Jgf (c::v)).1 (i+((Jgf (c::v)).2:Int))) :
  ((0≤i∧i<(s.length:Int))∧(((decide (((s.getD i.toNat 0).toNat:Int)=(64:Int)))=true→(I64 (i+(1:Int))∧(JaR s (i+(1:Int)) (fun y15=>((y15=true→(I64 (i+(1:Int))∧(Zck s (i+(1:Int)) (fun y16 y17=>K (Tok.mk (3:Int) y16 (0:Int) ([]:List UInt8) false) y17))))∧(y15=false→(JaR s i (fun y18=>((y18=true→(zbI s i (fun y19 y20=>K (Tok.mk y19.kind y19.text y19.num y19.unit y19.flag) y20)))∧(y18=false→((0≤i∧i<(s.length:Int))∧(ZcH ((s.getD i.toNat 0).toNat:Int) (fun y21=>((y21=true→((0≤i∧i<(s.length:Int))∧((0≤((s.getD i.toNat 0).toNat:Int)∧((s.getD i.toNat 0).toNat:Int)<(126:Int))∧(0+((s.getD i.toNat 0).toNat:Int).toNat*1<marksL.length∧(I64 (i+(1:Int))∧K (Tok.mk (marksL.getD (0+((s.getD i.toNat 0).toNat:Int).toNat*1) 0) ([]:List UInt8) (0:Int) ([]:List UInt8) false) (i+(1:Int)))))))∧(y21=false→(I64 (i+(1:Int))∧((0≤i∧i≤(i+(1:Int))∧(i+(1:Int))≤(s.length:Int))∧(I64 (i+(1:Int))∧K (Tok.mk (9:Int) ((s.drop i.toNat).take ((i+(1:Int)).toNat-i.toNat)) (0:Int) ([]:List UInt8) false) (i+(1:Int))))))))))))))))))))∧((decide (((s.getD i.toNat 0).toNat:Int)=(64:Int)))=false→(JaR s i (fun y22=>((y22=true→(zbI s i (fun y23 y24=>K (Tok.mk y23.kind y23.text y23.num y23.unit y23.flag) y24)))∧(y22=false→((0≤i∧i<(s.length:Int))∧(ZcH ((s.getD i.toNat 0).toNat:Int) (fun y25=>((y25=true→((0≤i∧i<(s.length:Int))∧((0≤((s.getD i.toNat 0).toNat:Int)∧((s.getD i.toNat 0).toNat:Int)<(126:Int))∧(0+((s.getD i.toNat 0).toNat:Int).toNat*1<marksL.length∧(I64 (i+(1:Int))∧K (Tok.mk (marksL.getD (0+((s.getD i.toNat 0).toNat:Int).toNat*1) 0) ([]:List UInt8) (0:Int) ([]:List UInt8) false) (i+(1:Int)))))))∧(y25=false→(I64 (i+(1:Int))∧((0≤i∧i≤(i+(1:Int))∧(i+(1:Int))≤(s.length:Int))∧(I64 (i+(1:Int))∧K (Tok.mk (9:Int) ((s.drop i.toNat).take ((i+(1:Int)).toNat-i.toNat)) (0:Int) ([]:List UInt8) false) (i+(1:Int))))))))))))))))):=by
 obtain ⟨hl,hc,hn,_⟩:=zw h0 hd;unfold Jgf at h;refine ⟨⟨h0,hl⟩,fun q=>?_,fun q=>?_⟩
 ·have q:=of_decide_eq_true q;rw [hc] at q;refine ⟨Zae (by omega),⟨⟨⟨by omega,by omega,by omega⟩,by omega⟩,?_⟩⟩
  rw [hn];refine ⟨fun q2=>⟨Zae (by omega),⟨by omega,by omega,by omega⟩,?_⟩,fun q2=>?_⟩
  ·rw [Jd,if_pos ⟨q,q2⟩] at h;rw [hn];have e:i+((1+(Zo v).2:Nat):Int)=i+1+((Zo v).2:Int):=by omega
   rw [List.tail_cons,e] at h;exact h
  ·rw [if_neg (fun x=>by have:=x.2;rw [List.tail_cons,q2] at this;cases this)] at h
   exact jhB (K:=K) h0 hs hd h
 ·have q:=of_decide_eq_false q;rw [hc] at q;rw [if_neg (fun x=>q (by rw [Jd] at x;exact x.1))] at h
  exact jhB (K:=K) h0 hs hd h
theorem ZhB {s:List UInt8} {i:Int} {c:UInt8} {v:List UInt8} {K:Tok→Int→Prop} (h0:0≤i) (hs:s.length≤400000) (hd:s.drop i.toNat=c::v) (h:K (zfz (c::v)).1 (i+((zfz (c::v)).2:Int))) :
  (je6 s i (fun y10=>((y10=true→(Zb3 s i (fun y11 y12=>K (Tok.mk y11.kind y11.text y11.num y11.unit y11.flag) y12)))∧(y10=false→((0≤i∧i≤(s.length:Int))∧(zgg (s.drop i.toNat) ([45,45,62]:List UInt8) (fun y13=>((y13=true→(I64 (i+(3:Int))∧K (Tok.mk (15:Int) ([]:List UInt8) (0:Int) ([]:List UInt8) false) (i+(3:Int))))∧(y13=false→((0≤i∧i≤(s.length:Int))∧(zgg (s.drop i.toNat) ([60,33,45,45]:List UInt8) (fun y14=>((y14=true→(I64 (i+(4:Int))∧K (Tok.mk (14:Int) ([]:List UInt8) (0:Int) ([]:List UInt8) false) (i+(4:Int))))∧(y14=false→((0≤i∧i<(s.length:Int))∧(((decide (((s.getD i.toNat 0).toNat:Int)=(64:Int)))=true→(I64 (i+(1:Int))∧(JaR s (i+(1:Int)) (fun y15=>((y15=true→(I64 (i+(1:Int))∧(Zck s (i+(1:Int)) (fun y16 y17=>K (Tok.mk (3:Int) y16 (0:Int) ([]:List UInt8) false) y17))))∧(y15=false→(JaR s i (fun y18=>((y18=true→(zbI s i (fun y19 y20=>K (Tok.mk y19.kind y19.text y19.num y19.unit y19.flag) y20)))∧(y18=false→((0≤i∧i<(s.length:Int))∧(ZcH ((s.getD i.toNat 0).toNat:Int) (fun y21=>((y21=true→((0≤i∧i<(s.length:Int))∧((0≤((s.getD i.toNat 0).toNat:Int)∧((s.getD i.toNat 0).toNat:Int)<(126:Int))∧(0+((s.getD i.toNat 0).toNat:Int).toNat*1<marksL.length∧(I64 (i+(1:Int))∧K (Tok.mk (marksL.getD (0+((s.getD i.toNat 0).toNat:Int).toNat*1) 0) ([]:List UInt8) (0:Int) ([]:List UInt8) false) (i+(1:Int)))))))∧(y21=false→(I64 (i+(1:Int))∧((0≤i∧i≤(i+(1:Int))∧(i+(1:Int))≤(s.length:Int))∧(I64 (i+(1:Int))∧K (Tok.mk (9:Int) ((s.drop i.toNat).take ((i+(1:Int)).toNat-i.toNat)) (0:Int) ([]:List UInt8) false) (i+(1:Int))))))))))))))))))))∧((decide (((s.getD i.toNat 0).toNat:Int)=(64:Int)))=false→(JaR s i (fun y22=>((y22=true→(zbI s i (fun y23 y24=>K (Tok.mk y23.kind y23.text y23.num y23.unit y23.flag) y24)))∧(y22=false→((0≤i∧i<(s.length:Int))∧(ZcH ((s.getD i.toNat 0).toNat:Int) (fun y25=>((y25=true→((0≤i∧i<(s.length:Int))∧((0≤((s.getD i.toNat 0).toNat:Int)∧((s.getD i.toNat 0).toNat:Int)<(126:Int))∧(0+((s.getD i.toNat 0).toNat:Int).toNat*1<marksL.length∧(I64 (i+(1:Int))∧K (Tok.mk (marksL.getD (0+((s.getD i.toNat 0).toNat:Int).toNat*1) 0) ([]:List UInt8) (0:Int) ([]:List UInt8) false) (i+(1:Int)))))))∧(y25=false→(I64 (i+(1:Int))∧((0≤i∧i≤(i+(1:Int))∧(i+(1:Int))≤(s.length:Int))∧(I64 (i+(1:Int))∧K (Tok.mk (9:Int) ((s.drop i.toNat).take ((i+(1:Int)).toNat-i.toNat)) (0:Int) ([]:List UInt8) false) (i+(1:Int))))))))))))))))))))))))))))))):=by
 obtain ⟨hl,hc,hn,hv⟩:=zw h0 hd;unfold zfz at h;refine ⟨⟨⟨h0,by omega,by omega⟩,by omega⟩,?_⟩
 refine ⟨fun q=>⟨⟨h0,by omega,hs⟩,?_⟩,fun q=>⟨⟨h0,by omega⟩,fun q2=>?_,fun q2=>⟨⟨h0,by omega⟩,fun q3=>?_,fun q3=>?_⟩⟩⟩
 ·rw [hd] at q;rw [if_pos q] at h;rw [hd];generalize Zs (c::v)=r at h ⊢;exact h
 ·rw [hd] at q q2;rw [if_neg (by rw [q];decide),if_pos q2] at h
  have h3:=zcv q2;have h3:3≤v.length+1:=h3;have h4:-100000000≤i+3∧i+3≤100000000:=by omega
  exact ⟨Zae h4,h⟩
 ·rw [hd] at q q2 q3;rw [if_neg (by rw [q];decide),if_neg (by rw [q2];decide),if_pos q3] at h
  have h3:=zcv q3;have h3:4≤v.length+1:=h3;have h4:-100000000≤i+4∧i+4≤100000000:=by omega
  exact ⟨Zae h4,h⟩
 ·rw [hd] at q q2 q3;rw [if_neg (by rw [q];decide),if_neg (by rw [q2];decide),if_neg (by rw [q3];decide)] at h
  exact Zis (K:=K) h0 hs hd h
def ZdR:Zr:=fun s i K=>(0≤i∧i<s.length∧s.length≤400000)∧K (jK (s.drop i.toNat)).1 (i+((jK (s.drop i.toNat)).2:Int))
theorem ZhY (s i K) (h:ZdR s i K):zbX ZaF zhg jd5 Jhg jcu JaR Zck je6 Zb3 zgg zbI ZcH s i K:=by
 obtain ⟨⟨h0,hl,hs⟩,h⟩:=h;cases hd:s.drop i.toNat with
 | nil=>have:=zQ hd;exfalso;omega
 | cons c v=>
 obtain ⟨_,hc,hn,hv⟩:=zw h0 hd;rw [hd] at h;unfold jK at h;refine ⟨⟨h0,hl⟩,fun q=>⟨⟨h0,by omega,by omega⟩,?_⟩,fun q=>⟨⟨h0,hl⟩,fun q2=>⟨⟨h0,hl,by omega⟩,?_⟩,fun q2=>⟨⟨h0,hl⟩,fun q3=>⟨Zae (by omega),⟨by omega,by omega,by omega⟩,fun q4=>⟨Zae (by omega),⟨⟨by omega,by omega,by omega⟩,by omega⟩,Zae (by omega),⟨by omega,by omega,by omega⟩,?_⟩,fun q4=>?_⟩,fun q3=>?_⟩⟩⟩
 ·rw [hc] at q;rw [Jd,if_pos q] at h;rw [hd];exact h
 ·rw [hc] at q q2;rw [Jd,if_neg (by rw [q];decide),if_pos q2,List.tail_cons] at h
  rw [hd,hn,Jd];unfold ZgK;have e:i+((1+(strM (c.toNat:Int) v).2.2:Nat):Int)=i+1+((strM (c.toNat:Int) v).2.2:Int):=by omega
  rw [e] at h;generalize strM (c.toNat:Int) v=r at h ⊢;exact h
 ·rw [hc] at q q2;have q3:=of_decide_eq_true q3;rw [hc] at q3;rw [hn] at q4 ⊢;rw [Jd,if_neg (by rw [q];decide),if_neg (by rw [q2];decide),if_pos ⟨q3,q4⟩,List.tail_cons] at h
  have e:i+((1+(Zo v).2:Nat):Int)=i+1+((Zo v).2:Int):=by omega
  rw [e] at h;exact h
 ·rw [hc] at q q2;rw [hn] at q4;rw [Jd,if_neg (by rw [q];decide),if_neg (by rw [q2];decide),if_neg (fun x=>by have:=x.2;rw [List.tail_cons,q4] at this;cases this)] at h
  exact ZhB (K:=K) h0 hs hd h
 ·rw [hc] at q q2;have q3:=of_decide_eq_false q3;rw [hc] at q3;rw [Jd,if_neg (by rw [q];decide),if_neg (by rw [q2];decide),if_neg (fun x=>q3 x.1)] at h
  exact ZhB (K:=K) h0 hs hd h
end Go.Proofs.YtmnegokadegioaaGreatDoor
namespace Go.Proofs.YtmnegokadegioaaGreatDoor
open Go.Vm Go.Sx Go.RowKit
def Jic:jg:=fun s K=>K (decide (hb s=10))
theorem jja (s K) (h:Jic s K):Zam s K:=by
 unfold Jic at h;cases s with
 | nil=>exact ⟨fun q=>absurd q (by decide),fun _=>h⟩
 | cons c w=>exact ⟨fun _=>⟨⟨by omega,by rw [List.length_cons];omega⟩,h⟩,fun q=>(by exfalso;have:=of_decide_eq_false q;rw [List.length_cons] at this;omega)⟩
theorem Zga (s:List UInt8) (hs:s.length≤1000000) (Ke:List UInt8→Prop):∀(w:List UInt8) (i:Int) (b:List UInt8),s.drop i.toNat=w→0≤i→b.length+3*w.length≤10000000→Ke (b++JB w)→∃m,Jaa Jic m s i b Ke
 | [],i,b,hd,h0,hbb,h=>by
  have:=zQ hd;exact ⟨1,fun q=>(by exfalso;have:=of_decide_eq_true q;omega),fun _=>by simpa [JB] using h⟩
 | c::w,i,b,hd,h0,hbb,h=>by
  obtain ⟨hl,hc,hn,hv⟩:=zw h0 hd;rw [List.length_cons] at hbb;have nofin:decide (i<(s.length:Int))=false→False:=fun q=>by have:=of_decide_eq_false q;omega
  by_cases c1:(c.toNat:Int)=0
  ·have e:JB (c::w)=[239,191,189]++JB w:=by rw [JB,if_pos c1]
   rw [e,←List.append_assoc] at h;obtain ⟨m,hm⟩:=Zga s hs Ke w (i+1) _ hn (by omega) (by rw [List.length_append];simp only [List.length_cons,List.length_nil];omega) h
   refine ⟨m+1,fun _=>⟨⟨h0,hl⟩,fun _=>⟨by simp only [List.length_cons,List.length_nil];omega,Zae (by omega),hm⟩,fun q=>?_⟩,fun q=>(nofin q).elim⟩
   exact absurd (by rw [hc];exact c1) (of_decide_eq_false q)
  ·have n1:¬decide (((s.getD i.toNat 0).toNat:Int)=0)=true:=fun q=>c1 (by rw [←hc];exact of_decide_eq_true q)
   by_cases c2:(c.toNat:Int)=12
   ·have e:JB (c::w)=[10]++JB w:=by rw [JB,if_neg c1,if_pos c2];rfl
    rw [e,←List.append_assoc] at h;obtain ⟨m,hm⟩:=Zga s hs Ke w (i+1) _ hn (by omega) (by rw [List.length_append];simp only [List.length_cons,List.length_nil];omega) h
    refine ⟨m+1,fun _=>⟨⟨h0,hl⟩,fun q=>absurd q n1,fun _=>⟨fun _=>⟨by decide,by simp only [List.length_cons,List.length_nil];omega,Zae (by omega),hm⟩,fun q=>?_⟩⟩,fun q=>(nofin q).elim⟩
    exact absurd (by rw [hc];exact c2) (of_decide_eq_false q)
   ·have n2:¬decide (((s.getD i.toNat 0).toNat:Int)=12)=true:=fun q=>c2 (by rw [←hc];exact of_decide_eq_true q)
    by_cases c3:(c.toNat:Int)=13
    ·have n3:¬decide (((s.getD i.toNat 0).toNat:Int)=13)=false:=fun q=>(of_decide_eq_false q) (by rw [hc];exact c3)
     by_cases c4:hb w=10
     ·have e:JB (c::w)=JB w:=by rw [JB,if_neg c1,if_neg c2,if_pos c3,if_pos c4]
      rw [e] at h;obtain ⟨m,hm⟩:=Zga s hs Ke w (i+1) _ hn (by omega) (by omega) h
      refine ⟨m+1,fun _=>⟨⟨h0,hl⟩,fun q=>absurd q n1,fun _=>⟨fun q=>absurd q n2,fun _=>⟨fun _=>⟨Zae (by omega),⟨by omega,by omega⟩,fun q=>?_,fun _=>⟨Zae (by omega),hm⟩⟩,fun q=>absurd q n3⟩⟩⟩,fun q=>(nofin q).elim⟩
      rw [hn,decide_eq_true c4] at q;exact absurd q (by decide)
     ·have e:JB (c::w)=[10]++JB w:=by rw [JB,if_neg c1,if_neg c2,if_pos c3,if_neg c4];rfl
      rw [e,←List.append_assoc] at h;obtain ⟨m,hm⟩:=Zga s hs Ke w (i+1) _ hn (by omega) (by rw [List.length_append];simp only [List.length_cons,List.length_nil];omega) h
      refine ⟨m+1,fun _=>⟨⟨h0,hl⟩,fun q=>absurd q n1,fun _=>⟨fun q=>absurd q n2,fun _=>⟨fun _=>⟨Zae (by omega),⟨by omega,by omega⟩,fun _=>⟨by decide,by simp only [List.length_cons,List.length_nil];omega,Zae (by omega),hm⟩,fun q=>?_⟩,fun q=>absurd q n3⟩⟩⟩,fun q=>(nofin q).elim⟩
      rw [hn,decide_eq_false c4] at q;exact absurd q (by decide)
    ·have n3:¬decide (((s.getD i.toNat 0).toNat:Int)=13)=true:=fun q=>c3 (by rw [←hc];exact of_decide_eq_true q)
     have e:JB (c::w)=[c]++JB w:=by rw [JB,if_neg c1,if_neg c2,if_neg c3];rfl
     rw [e,←List.append_assoc] at h;obtain ⟨m,hm⟩:=Zga s hs Ke w (i+1) _ hn (by omega) (by rw [List.length_append];simp only [List.length_cons,List.length_nil];omega) h
     refine ⟨m+1,fun _=>⟨⟨h0,hl⟩,fun q=>absurd q n1,fun _=>⟨fun q=>absurd q n2,fun _=>⟨fun q=>absurd q n3,fun _=>⟨⟨h0,hl⟩,?_⟩⟩⟩⟩,fun q=>(nofin q).elim⟩
     rw [hc,zhB];exact ⟨ze6 c,by simp only [List.length_cons,List.length_nil];omega,Zae (by omega),hm⟩
def JdR:zK:=fun s K=>(4000<s.length→K [] 28)∧(s.length≤4000→K (JB s) 0)
theorem JhY (s K) (h:JdR s K):ZdB Jic s K:=by
 refine ⟨fun q=>h.1 (by have:=of_decide_eq_true q;omega),fun q=>?_⟩
 have q:=of_decide_eq_false q;refine ⟨⟨by omega,by omega,by omega,by omega⟩,by decide,?_⟩
 exact Zga s (by omega) _ s 0 [] rfl (by omega) (by simp only [List.length_nil];omega) (h.2 (by omega))
theorem Jc2:∀s:List UInt8,(JB s).length≤3*s.length
 | []=>Nat.le_refl _
 | c::w=>by
  have:=Jc2 w;rw [JB,List.length_cons];split
  ·rw [List.length_append];simp only [List.length_cons,List.length_nil];omega
  ·split
   ·rw [List.length_cons];omega
   ·split
    ·split
     ·omega
     ·rw [List.length_cons];omega
    ·rw [List.length_cons];omega
def jiC (t:Tok×Nat×Nat):Tok:=t.1
theorem jiN {s w:List UInt8} {p:Nat} (h:s.drop p=w) (n:Nat):s.drop (p+n)=w.drop n:=by rw [←h,List.drop_drop]
theorem zi4 (s:List UInt8) (hs:s.length≤100000) (Ke:List Tok→Prop) (Kr:Int→List Tok→Prop):∀(f:Nat) (w:List UInt8) (p:Nat) (x7:Int) (b:List Tok),w.length≤f→s.drop p=w→p≤s.length→x7=b.length→b.length≤1500→(b.length+(Jhe f w p).length≤1500→Ke (b++(Jhe f w p).map jiC))→(1500<b.length+(Jhe f w p).length→∀b',Kr 4 b')→∃m,zac JdR JgN ZdR m s x7 (p:Int) b Ke Kr
 | f,[],p,x7,b,hf,hd,hp,hx,hb,k1,k2=>by
  have hd':s.drop (p:Int).toNat=[]:=hd;have hl:=zQ hd';have e:Jhe f [] p=[]:=by cases f <;> rfl
  rw [e] at k1;exact ⟨1,fun q=>(by exfalso;have:=of_decide_eq_true q;omega),fun _=>by simpa using k1 (by simpa using hb)⟩
 | 0,c::w,p,x7,b,hf,hd,hp,hx,hb,k1,k2=>by simp at hf
 | f+1,c::w,p,x7,b,hf,hd,hp,hx,hb,k1,k2=>by
  have hd':s.drop (p:Int).toNat=c::w:=hd;obtain ⟨hl,hc,hn,hv⟩:=zw (by omega) hd'
  have nofin:decide ((p:Int)<(s.length:Int))=false→False:=fun q=>by have:=of_decide_eq_false q;omega
  rw [Jhe] at k1 k2;have ht:=JfR (w:=c::w) (by simp)
  have hk:=zfS ((c::w).drop (jK (c::w)).2);rw [List.length_drop] at hk;rw [List.length_cons] at ht hk hf;rw [List.length_cons] at k1 k2;by_cases q:b.length=1500
  ·have kr:=k2 (by omega) b
   refine ⟨1,fun _=>⟨fun _=>kr,fun p2=>(by exfalso;have:=of_decide_eq_false p2;omega)⟩,fun q=>(nofin q).elim⟩
  ·have e1:s.drop ((p:Int)+((jK (c::w)).2:Int)).toNat=(c::w).drop (jK (c::w)).2:=by rw [ZbP (by omega),hd']
   obtain ⟨m,hm⟩:=zi4 s hs Ke Kr f ((c::w).drop ((jK (c::w)).2+Zax ((c::w).drop (jK (c::w)).2))) (p+(jK (c::w)).2+Zax ((c::w).drop (jK (c::w)).2)) (x7+1) (b++[jiC ((jK (c::w)).1,p,p+(jK (c::w)).2)]) (by rw [List.length_drop,List.length_cons];omega) (by rw [Nat.add_assoc];exact jiN hd _) (by omega) (by rw [List.length_append,List.length_singleton];omega) (by rw [List.length_append,List.length_singleton];omega) (fun h=>by
     rw [List.append_assoc];exact k1 (by rw [List.length_append,List.length_singleton] at h;omega)) (fun h=>k2 (by rw [List.length_append,List.length_singleton] at h;omega))
   refine ⟨m+1,fun _=>⟨fun p2=>(by exfalso;have:=of_decide_eq_true p2;omega),fun _=>⟨⟨by omega,hl,by omega⟩,?_⟩⟩,fun q=>(nofin q).elim⟩
   rw [hd'];refine ⟨by simp only [List.length_singleton];omega,Zae (by omega),⟨by omega,by omega,by omega⟩,?_⟩
   rw [e1];have e2:(p:Int)+((jK (c::w)).2:Int)+(Zax ((c::w).drop (jK (c::w)).2):Int)=((p+(jK (c::w)).2+Zax ((c::w).drop (jK (c::w)).2):Nat):Int):=by omega
   rw [e2];exact hm
def jbI:Z7:=fun s K=>(4000<s.length→K [] 28)∧(s.length≤4000→(ZgY (JB s)).length≤1500→K ((ZgY (JB s)).map jiC) 0)∧(s.length≤4000→1500<(ZgY (JB s)).length→K [] 4)
theorem zhk (s K) (h:jbI s K):zdH JdR JgN ZdR s K:=by
 obtain ⟨h1,h2,h3⟩:=h;refine ⟨fun q=>⟨fun _=>⟨fun _=>h1 q,fun p=>absurd p (by decide)⟩,fun p=>absurd p (by decide)⟩,fun q=>⟨fun p=>absurd p (by decide),fun _=>⟨⟨by omega,by omega,by have:=Jc2 s;omega⟩,?_⟩⟩⟩
 have hc:=Jc2 s;have hk:=zfS (JB s);have e0:(0:Int)+(Zax ((JB s).drop (0:Int).toNat):Int)=((Zax (JB s):Nat):Int):=by
  show (0:Int)+(Zax ((JB s).drop 0):Int)=_;rw [List.drop_zero,Int.zero_add]
 rw [e0];refine zi4 (JB s) (by omega) _ _ (JB s).length ((JB s).drop (Zax (JB s))) (Zax (JB s)) 0 [] (by rw [List.length_drop];omega) rfl hk rfl (by simp) (fun hL=>⟨fun p=>absurd p (by decide),fun _=>?_⟩) (fun hL b'=>⟨fun _=>h3 q ?_,fun p=>absurd p (by decide)⟩)
 ·rw [List.length_nil,Nat.zero_add] at hL;exact h2 q hL
 ·rw [List.length_nil,Nat.zero_add] at hL;exact hL
end Go.Proofs.YtmnegokadegioaaGreatDoor
