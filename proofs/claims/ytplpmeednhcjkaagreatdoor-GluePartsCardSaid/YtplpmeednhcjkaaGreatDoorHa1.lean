/- Lemmas. -/
import Derived.Test.YtplpmeednhcjkaaGreatDoorWa1
import Derived.Test.YtplpmeednhcjkaaGreatDoorTi
namespace Go.Proofs.YtplpmeednhcjkaaGreatDoor
open Go.Vm Go.Sx Go.RowKit
def jbh (c:UInt8):List UInt8:=92::(if (33<=(c.toNat:Int)/\(c.toNat:Int)<=126)/\mD (c.toNat:Int)=false/\mL (c.toNat:Int)=false then [c] else jcH c.toNat++[32])
def JaB (e:Int):Int->List UInt8->List UInt8
 | _,[]=>[]
 | i,c::w=>(if i≠e/\mN (c.toNat:Int)=true then [c] else jbh c)++JaB e (i+1) w
def swD (s:List UInt8):Bool:=mD (hb s)
def swM (s:List UInt8):Bool:=decide (hb s=45)&&mD (hb s.tail)
def zcW (s:List UInt8):Int:=if s=[45] then 0 else if swD s then 0 else if swM s then 1 else -1
def zX (s:List UInt8):List UInt8:=JaB (zcW s) 0 s
def fr3:Nat->Nat->List UInt8
 | 0,_=>[]
 | k+1,r=>UInt8.ofNat (48+r*10 / 1000)::if r*10%1000=0 then [] else fr3 k (r*10%1000)
def jD (n:Int) (whole:Bool):List UInt8:=(if n<0 then [45] else [])++(Lib.decDigits (n.natAbs / 1000)++(if whole then [] else 46::fr3 3 (n.natAbs%1000)))
def jau (n:Int):Bool:=decide (n.tmod 1000=0)
def jaJ:List UInt8->List UInt8
 | []=>[]
 | c::w=>(if c∈[10,12,13,34,92] then jbh c else [c])++jaJ w
def Zbi:List UInt8->List UInt8
 | []=>[]
 | c::w=>(if c.toNat<=32\/c∈[34,39,40,41,92,127] then jbh c else [c])++Zbi w
def JeB (u:List UInt8):Bool:=mE (hb u)&&(swD u.tail||swM u.tail)
def zQ (u:List UInt8):List UInt8:=if JeB u then JaB 0 0 u else zX u
def jcc (t:List UInt8) (f:Bool):List UInt8:=35::if f then zX t else JaB (-1) 0 t
def marksT:List UInt8:=[58,59,44,91,93,40,41,123,125]
def tokT (t:Tok):List UInt8:=
 if t.kind=13 then [32]
 else if t.kind=1 then zX t.text
 else if t.kind=2 then zX t.text++[40]
 else if t.kind=3 then 64::zX t.text
 else if t.kind=4 then jcc t.text t.flag
 else if t.kind=5 then 34::(jaJ t.text++[34])
 else if t.kind=7 then [117,114,108,40]++(Zbi t.text++[41])
 else if t.kind=10 then jD t.num t.flag
 else if t.kind=11 then jD t.num (jau t.num)++[37]
 else if t.kind=12 then jD t.num t.flag++zQ t.unit
 else if t.kind=9 then t.text
 else if t.kind=14 then [60,33,45,45]
 else if t.kind=15 then [45,45,62]
 else [marksT.getD (t.kind-16).toNat 0]
def Zcs (t:Tok):Tok:=
 if t.kind∈[1,2,3,5,7,9] then tk t.kind t.text
 else if t.kind=4 then tk t.kind t.text 0 [] t.flag
 else if t.kind=10 then tk t.kind [] t.num [] t.flag
 else if t.kind=11 then tk t.kind [] t.num
 else if t.kind=12 then tk t.kind [] t.num t.unit t.flag
 else tk t.kind
def jaf (a b:Tok):Bool:=decide (a.kind=b.kind)&&(decide (a.text=b.text)&&(decide (a.num=b.num)&&(decide (a.unit=b.unit)&&decide (a.flag=b.flag))))
def Zg6 (s:List UInt8):Bool:=match s with
 | [b]=>!mSp b.toNat&&(!mQ b.toNat&&(!mN0 b.toNat&&(!mD b.toNat&&!(([12,13]++marksT).contains b))))
 | _=>false
def ZbY (t:Tok):Bool:=decide (-1000000000000<=t.num)&&(decide (t.num<=1000000000000)&&(!t.flag||jau t.num))
def zcu (t:Tok):Bool:=jaf t (Zcs t)&&(!t.text.contains 0&&(!t.unit.contains 0&&
 (if t.kind∈[1,2,3] then t.text != []
 else if t.kind=4 then t.text != []&&(t.flag||decide (zcW t.text≠-1))
 else if t.kind=9 then Zg6 t.text
 else if t.kind=10\/t.kind=11 then ZbY t
 else if t.kind=12 then ZbY t&&t.unit != []
 else if t.kind=6\/t.kind=8 then false
 else decide (1<=t.kind)&&decide (t.kind<=24))))
def jbD (t:Tok):Bool:=decide (t.kind=9)&&t.text==[92]
def zcE (t:Tok):Bool:=decide (t.kind=2)&&z6 t.text [117,114,108]
def swK (l:List Tok) (k:Int):Bool:=match l with
 | []=>false
 | t::_=>decide (t.kind=k)
def Zep (t:Tok) (l:List Tok):Bool:=if jbD t then swK l 13 else if zcE t then swK (if swK l 13 then l.tail else l) 5 else true
def jbn:List Tok->Bool
 | []=>true
 | t::l=>zcu t&&(Zep t l&&jbn l)
def jeb (l:List Tok):Int:=if 1500<l.length then 4 else if jbn l then 0 else 8
def jcW:List Tok->Nat
 | []=>1
 | t::l=>if jbD t then 2 else if zcE t then 1+(l.takeWhile λt=>decide (t.kind≠5)).length+1 else 1
def Zdk (l:List Tok):List UInt8:=match l with
 | t::_=>if jbD t then [92,10] else l.flatMap tokT
 | []=>[]
def Zan:List Tok->List Tok->Bool
 | [],[]=>true
 | a::x,b::y=>jaf a b&&Zan x y
 | _,_=>false
def Jek (s:List UInt8):Option (List Tok):=if 4000<s.length then none else
 if 1500<(Jd1 (Jt s)).length then none else some ((Jd1 (Jt s)).map (·.1))
def asM (s:List UInt8) (l:List Tok):Bool:=match Jek s with
 | some m=>Zan m l
 | none=>false
def wrM (l:List Tok):Nat->List UInt8->List (Nat×Nat)->Nat->List UInt8×Int
 | 0,b,_,_=>(b,0)
 | f+1,b,sts,i=>
  if l.length<=i then (b,0) else
   let e:=i+jcW (l.drop i)
   let b1:=b++Zdk ((l.drop i).take (e-i))
   let st1:=(b.length,i)::sts
   let fr:=(st1.take 4).getLastD (0,0)
   let b2:=if asM (b1.drop fr.1) ((l.drop fr.2).take (e-fr.2)) then b1 else b++([47,42,42,47]++b1.drop b.length)
   if 4000<b2.length then ([],28) else wrM l f b2 st1 e
def Jep (l:List Tok):List UInt8×Int:=if jeb l≠0 then ([],jeb l) else wrM l (l.length+1) [] [] 0
set_option linter.unusedVariables false
def zd2:J3:=λs K=>K (!(s==[]))
theorem Zio (s K) (h:zd2 s K):zbM s K:=h
def zfS:Ju:=λn K=>K (jau n)
theorem jjh (n K) (h:zfS n K):Zbs n K:=⟨by decide,h⟩
def zeq:Jaq:=λt K=>K (Zcs t)
theorem jiT (t K) (h:zeq t K):JbL t K:=by
 unfold zeq Zcs tk at h;unfold JbL;simp only [xc,Rh];simp only [gc,Qe,or_false] at h;obtain ⟨k,tx,n,u,f⟩:=t;dsimp only at h |-
 repeat' (first|apply And.intro|intro _)
 all_goals first|(subst k;exact h)|(rw [ga (by omega),ga (by omega),ga (by omega),ga (by omega),ga (by omega)] at h;exact h)
def Jdc:JO:=λt K=>K (ZbY t)
theorem Jio (t K) (h:Jdc t K):zaM zfS t K:=by
 unfold Jdc ZbY at h;unfold zaM zfS;simp only [xc,Rh];refine ⟨λq=>⟨λq2=>?_,λq2=>⟨λq3=>?_,λq3=>?_⟩⟩,λq=>?_⟩
 ·rw [Qg (by omega),Ye (by omega)] at h;exact h
 ·rw [Qg (by omega),Qg (by omega),q3] at h;exact h
 ·rw [Qg (by omega),Qg (by omega),q3] at h;exact h
 ·rw [Ye (by omega)] at h;exact h
def Jg6:jb:=λt K=>K (jbD t)
theorem jjI (t K) (h:Jg6 t K):jaM t K:=by
 unfold Jg6 jbD at h;refine ⟨λq=>?_,λq=>?_⟩ <;> rw [q] at h <;> exact h
def jh3:jd:=λt K=>t.text.length<=10000000/\K (zcE t)
theorem ZjI (A:Z2) (hA:∀a b K,a.length<=10000000/\K (z6 a b)->A a b K) (t K) (h:jh3 t K):Z9 A t K:=by
 obtain ⟨h0,h⟩:=h;unfold zcE at h;refine ⟨λq=>hA _ _ _ ⟨h0,?_⟩,λq=>?_⟩ <;> rw [q] at h <;> exact h
def ZiJ:JaZ:=λl k K=>K (swK l k)
theorem JjI (l k K) (h:ZiJ l k K):zdV l k K:=by
 unfold ZiJ swK at h;cases l with
 | nil=>exact ⟨λq=>by exact absurd q (by decide),λ_=>h⟩
 | cons t l=>exact ⟨λ_=>⟨⟨by omega,by rw [da];omega⟩,h⟩,λq=>by simp at q⟩
def zg7:jf:=λt l K=>t.text.length<=10000000/\K (Zep t l)
theorem Zjh (t l K) (h:zg7 t l K):ZX Jg6 ZiJ jh3 t l K:=by
 obtain ⟨h0,h⟩:=h;unfold Zep at h;unfold ZX Jg6 ZiJ jh3;refine ⟨λq=>?_,λq=>⟨h0,λq2=>⟨λq3=>?_,λq3=>?_⟩,λq2=>?_⟩⟩
 ·have q:jbD t=true:=q;rw [q] at h;exact h
 ·have q:jbD t=false:=q;have q2:zcE t=true:=q2;rw [q,q2,q3] at h;refine ⟨⟨by omega,?_⟩,?_⟩
  ·cases l with
   | nil=>simp [swK] at q3
   | cons a l=>rw [da];omega
  ·rw [Yk];exact h
 ·have q:jbD t=false:=q;have q2:zcE t=true:=q2;rw [q,q2,q3] at h;exact h
 ·have q:jbD t=false:=q;have q2:zcE t=false:=q2;rw [q,q2] at h;exact h
theorem zhr {n:Int} (h:-9223372036854775808<=n/\n<9223372036854775808):I64 n:=by unfold I64;omega
def jg7:zh:=λt K=>(t.text.length<=10000000/\t.unit.length<=10000000)/\K (zcu t)
def Zf9 (t:Tok):Prop:=t.text.length<=10000000/\t.unit.length<=10000000
theorem jfS {l:List Tok} {i:Nat} (h:i<l.length):l.getD i (Ze Cd.tok)=l[i]:=by
 show l.getD i (⟨0,[],0,[],false⟩:Tok)=l[i];rw [List.getD_eq_getElem?_getD,List.getElem?_eq_getElem h,dm]
theorem Ja0 {l:List Tok} {i:Nat} (h:i<l.length):l.drop i=l.getD i (Ze Cd.tok)::l.drop (i+1):=by
 have e:=jfS h;exact (List.drop_eq_getElem_cons h).trans (Ya (·::l.drop (i+1)) e.symm)
theorem Jf9 {l:List Tok} (h:∀t∈l,Zf9 t) {i:Nat} (hi:i<l.length):Zf9 (l.getD i (Ze Cd.tok)):=by
 have e:=jfS hi;exact e▸h _ (List.getElem_mem hi)
theorem zga (l:List Tok) (hl:∀t∈l,Zf9 t) (hs:l.length<=1500) (Ke:Unit->Prop) (Kr:Int->Prop):∀(n i:Nat),i+n=l.length->(jbn (l.drop i)=true->Ke ())->(jbn (l.drop i)=false->Kr 8)->
  zaN jg7 zg7 (n+1) l l (l.length:Int) (i:Int) Ke Kr
 | 0,i,hi,h1,h2=>by
  refine ⟨λq=>absurd (Ha q) (by omega),λ_=>h1 ?_⟩
  rw [Hi (by omega)]
  rfl
 | n+1,i,hi,h1,h2=>by
  have hlt:i<l.length:=by omega
  have ht:((i:Int)).toNat=i:=rfl;have ht1:((i:Int)+1).toNat=i+1:=by omega
  have hd:=Ja0 hlt;have hok:=Jf9 hl hlt;refine ⟨λ_=>⟨⟨by omega,by omega⟩,⟨hok.1,hok.2⟩,λq=>⟨zhr (by omega),⟨by omega,by omega⟩,hok.1,λq2=>?_,λq2=>⟨zhr (by omega),?_⟩⟩,λq=>?_⟩,λq=>absurd (gb q) (by omega)⟩
  ·rw [ht,ht1] at q2;refine h2 ?_;rw [hd,jbn];have q2:Zep (l.getD i (Ze Cd.tok)) (l.drop (i+1))=false:=by simpa using q2
   rw [q2];simp
  ·rw [ht,ht1] at q2;rw [ht] at q;have q2:Zep (l.getD i (Ze Cd.tok)) (l.drop (i+1))=true:=by simpa using q2
   have q:zcu (l.getD i (Ze Cd.tok))=true:=by simpa using q
   rw [hd,jbn,q,q2] at h1 h2;exact zga l hl hs Ke Kr n (i+1) (by omega) (by simpa using h1) (by simpa using h2)
  ·rw [ht] at q;refine h2 ?_;have q:zcu (l.getD i (Ze Cd.tok))=false:=by simpa using q
   rw [hd,jbn,q];rfl
def Zg7:Jv:=λl K=>(∀t∈l,Zf9 t)/\K (jeb l)
theorem Jjh (l K) (h:Zg7 l K):Zb8 jg7 zg7 l K:=by
 obtain ⟨hl,h⟩:=h;unfold jeb at h;refine ⟨λq=>?_,λq=>⟨l.length+1,?_⟩⟩
 ·have q:=Ha q;rw [ya (by omega)] at h
  exact h
 ·have q:=gb q;rw [ga (by omega)] at h
  refine zga l hl (by omega) _ _ l.length 0 (by omega) (λz=>?_) (λz=>?_) <;> rw [dh] at z <;> rw [z] at h <;> exact h
theorem jga (A:jb) (B:jd) (l:List Tok) (hs:l.length<=1500) (Ke:Int->Prop):∀(n i:Nat),i+n=l.length->((l.drop i).any λt=>decide (t.kind=5))=true->
  Ke ((i:Int)+(((l.drop i).takeWhile λt=>decide (t.kind≠5)).length:Int))->zan A B (n+1) l (i:Int) Ke
 | 0,i,hi,h1,h2=>by rw [Hi (by omega)] at h1;cases h1
 | n+1,i,hi,h1,h2=>by
  have hlt:i<l.length:=by omega
  have ht:((i:Int)).toNat=i:=rfl;have hd:=Ja0 hlt;rw [hd] at h1 h2;refine ⟨⟨by omega,by omega⟩,λq=>⟨zhr (by omega),?_⟩,λq=>?_⟩
  ·rw [ht] at q;have q':decide ((l.getD i (Ze Cd.tok)).kind=5)=false:=by simpa using q
   rw [List.any_cons,q',Yi] at h1;rw [gj,ya q,da] at h2;refine jga A B l hs Ke n (i+1) (by omega) h1 ?_
   rw [show ((i+1:Nat):Int)+(((l.drop (i+1)).takeWhile λt=>decide (t.kind≠5)).length:Int)=(i:Int)+((((l.drop (i+1)).takeWhile λt=>decide (t.kind≠5)).length+1:Nat):Int) from by omega]
   exact h2
  ·rw [ht] at q;rw [gj,q] at h2;simpa using h2
def Jg7:jn:=λl i K=>(0<=i/\i<(l.length:Int)/\l.length<=1500)/\(∀t∈l,Zf9 t)/\(zcE (l.getD i.toNat (Ze Cd.tok))=true->((l.drop i.toNat).any λt=>decide (t.kind=5))=true)/\K (i+(jcW (l.drop i.toNat):Int))
theorem zg8 {t:Tok} (h:zcE t=true):t.kind=2:=by
 unfold zcE at h;rw [yb] at h;exact Ha h.1
theorem zji (l i K) (h:Jg7 l i K):zbe Jg6 jh3 l i K:=by
 obtain ⟨⟨h1,h2,h3⟩,hl,ha,hk⟩:=h;obtain ⟨n,rfl⟩:∃n:Nat,i=n:=⟨i.toNat,by omega⟩
 have ht:((n:Int)).toNat=n:=rfl;have hlt:n<l.length:=by omega
 have hd:=Ja0 hlt;have hok:=Jf9 hl hlt;rw [ht] at ha hk;have e:(jcW (l.drop n))=if jbD (l.getD n (Ze Cd.tok)) then 2 else if zcE (l.getD n (Ze Cd.tok)) then 1+((l.drop (n+1)).takeWhile λt=>decide (t.kind≠5)).length+1 else 1:=by rw [hd];rfl
 rw [e] at hk;refine ⟨⟨h1,h2⟩,λq=>⟨zhr (by omega),?_⟩,λq=>⟨⟨h1,h2⟩,hok.1,λq2=>⟨l.length-n+1,?_⟩,λq2=>⟨zhr (by omega),?_⟩⟩⟩
 ·have q:jbD (l.getD n (Ze Cd.tok))=true:=q;rw [q] at hk;exact hk
 ·have q:jbD (l.getD n (Ze Cd.tok))=false:=q;have q2:zcE (l.getD n (Ze Cd.tok))=true:=q2;rw [q,q2] at hk;refine jga _ _ l h3 _ (l.length-n) n (by omega) (ha q2) ?_
  have hk2:=zg8 q2;have e2:((l.drop n).takeWhile λt=>decide (t.kind≠5)).length=((l.drop (n+1)).takeWhile λt=>decide (t.kind≠5)).length+1:=by
   rw [hd,gj,ya (by rw [hk2];decide),da]
  have e3:((l.drop (n+1)).takeWhile λt=>decide (t.kind≠5)).length<=l.length:=by
   have z:=List.Sublist.length_le (List.takeWhile_sublist (λt:Tok=>decide (t.kind≠5)) (l:=l.drop (n+1)))
   rw [Hb] at z;omega
  refine ⟨zhr (by omega),?_⟩
  rw [e2];have e4:(n:Int)+((((l.drop (n+1)).takeWhile λt=>decide (t.kind≠5)).length+1:Nat):Int)+1=(n:Int)+((1+((l.drop (n+1)).takeWhile λt=>decide (t.kind≠5)).length+1:Nat):Int):=by omega
  rw [e4];exact hk
 ·have q:jbD (l.getD n (Ze Cd.tok))=false:=q;have q2:zcE (l.getD n (Ze Cd.tok))=false:=q2;rw [q,q2] at hk;exact hk
theorem zfn (a b:List Tok) (hs:a.length=b.length) (hm:a.length<=1000000) (Ke:Unit->Prop) (Kr:Bool->Prop):∀(n i:Nat),i+n=a.length->(Zan (a.drop i) (b.drop i)=true->Ke ())->(Zan (a.drop i) (b.drop i)=false->Kr false)->
  Zav (n+1) a b (a.length:Int) (i:Int) Ke Kr
 | 0,i,hi,h1,h2=>by
  refine ⟨λq=>absurd (Ha q) (by omega),λ_=>h1 ?_⟩
  rw [Hi (by omega),Hi (by omega)]
  rfl
 | n+1,i,hi,h1,h2=>by
  have hlt:i<a.length:=by omega
  have hlt2:i<b.length:=by omega
  have ht:((i:Int)).toNat=i:=rfl;rw [Ja0 hlt,Ja0 hlt2,Zan] at h1 h2;have key:∀x y:Tok,(decide (x.kind=y.kind)&&((x.text==y.text)&&(decide (x.num=y.num)&&((x.unit==y.unit)&&((x.flag==y.flag)&&true)))))=jaf x y:=λx y=>by
   unfold jaf;have e:∀u v:List UInt8,(u==v)=decide (u=v):=λu v=>by by_cases z:u=v <;> simp [z]
   have e2:∀u v:Bool,(u==v)=decide (u=v):=λu v=>by by_cases z:u=v <;> simp [z]
   rw [e,e,e2,xk]
  refine ⟨λ_=>⟨⟨by omega,by omega⟩,⟨by omega,by omega⟩,λq=>?_,λq=>⟨zhr (by omega),?_⟩⟩,λq=>absurd (gb q) (by omega)⟩
  ·rw [ht,key] at q;have q:jaf (a.getD i (Ze Cd.tok)) (b.getD i (Ze Cd.tok))=false:=by simpa using q
   refine h2 ?_;rw [q];rfl
  ·rw [ht,key] at q;have q:jaf (a.getD i (Ze Cd.tok)) (b.getD i (Ze Cd.tok))=true:=by simpa using q
   rw [q,Yg] at h1 h2;exact zfn a b hs hm Ke Kr n (i+1) (by omega) h1 h2
theorem jfn:∀{a b:List Tok},Zan a b=true->a.length=b.length
 | [],[],_=>rfl
 | x::a,y::b,h=>by
  rw [Zan,yb] at h;rw [da,da,jfn h.2]
 | [],_::_,h=>by cases h
 | _::_,[],h=>by cases h
def Jjb:ZV:=λa b K=>a.length<=1000000/\K (Zan a b)
theorem zjJ (a b K) (h:Jjb a b K):jbt a b K:=by
 obtain ⟨hm,h⟩:=h;refine ⟨λq=>?_,λq=>⟨a.length+1,?_⟩⟩
 ·have q:=Ha q;cases hs:Zan a b with
  | true=>exact absurd (jfn hs) (by omega)
  | false=>rw [hs] at h;exact h
 ·have q:=gb q;refine zfn a b (by omega) hm _ _ a.length 0 (by omega) (λz=>?_) (λz=>?_) <;> rw [dh,dh] at z <;> rw [z] at h <;> exact h
def Zjj:J7:=λs c K=>(0<=c/\c<256)/\K (Lib.indexByte s (UInt8.ofNat c.toNat))
def jcR:Zc:=λs c K=>(0<=c/\c<256)/\K (Lib.indexByte s (UInt8.ofNat c.toNat))
theorem Jjj (s c K) (h:jcR s c K):jbr Zjj s c K:=h
theorem JiU:∀(s:List UInt8) (c:UInt8),-1<=Lib.indexByte s c
 | [],_=>by simp [Lib.indexByte]
 | d::w,c=>by
  have:=JiU w c;unfold Lib.indexByte;split
  ·omega
  ·split
   ·omega
   ·omega
theorem ziV (s:List UInt8) (c:UInt8):0<=Lib.indexByte s c↔c∈s:=by
 induction s with
 | nil=>simp [Lib.indexByte]
 | cons d w ih=>
  have hg:=JiU w c;unfold Lib.indexByte;by_cases q:d=c
  ·subst q;simp
  ·have q1:(d==c)=false:=by simpa using q
   have q2:¬c=d:=λz=>q z.symm
   simp only [q1,yd,if_false,gc,q2,false_or];rw [<-ih];by_cases z:Lib.indexByte w c = -1
   ·simp [z]
   ·simp only [beq_iff_eq,z,if_false];omega
theorem jiV (s:List UInt8) (c:UInt8):decide (Lib.indexByte s c<0) = !s.contains c:=by
 have:=ziV s c;by_cases q:c∈s
 ·have z:=this.2 q;rw [Ye (by omega)]
  simp [q]
 ·have z:¬0<=Lib.indexByte s c:=λz=>q (this.1 z)
  rw [Qg (by omega)]
  simp [q]
theorem JeQ (s:List UInt8) (c:UInt8):decide (0<=Lib.indexByte s c)=s.contains c:=by
 have:=jiV s c;by_cases q:0<=Lib.indexByte s c
 ·rw [Ye (by omega)] at this
  rw [Qg q];cases h:s.contains c
  ·rw [h] at this;cases this
  ·rfl
 ·rw [Qg (by omega)] at this
  rw [Ye q];cases h:s.contains c
  ·rfl
  ·rw [h] at this;cases this
def zgy:jV:=λs K=>K (Zg6 s)
theorem zjk (s K) (h:zgy s K):zaY ZaJ jel jaC JaE jcR s K:=by
 unfold zgy at h;unfold zaY ZaJ jel jaC JaE jcR
 match s,h with
 | [],h=>exact ⟨λ_=>h,λq=>absurd (gb q) (by decide)⟩
 | a::b::w,h=>exact ⟨λ_=>h,λq=>absurd (gb q) (by simp only [da];omega)⟩
 | [b],h=>
  simp only [Zg6] at h;have hb:=Zfn b;refine ⟨λq=>absurd (Ha q) (by simp),λ_=>⟨⟨by omega,by simp⟩,λq1=>⟨λq2=>⟨λq3=>⟨λq4=>⟨⟨hb.1,by show (b.toNat:Int)<256;omega⟩,?_⟩,λq4=>?_⟩,λq3=>?_⟩,λq2=>?_⟩,λq1=>?_⟩⟩
  ·dsimp only;rw [jiV];rw [show (!mSp (b.toNat:Int))=true from q1,show (!mQ (b.toNat:Int))=true from q2,show (!mN0 (b.toNat:Int))=true from q3,show (!mD (b.toNat:Int))=true from q4] at h
   have e:UInt8.ofNat ((([b]:List UInt8).getD 0 0).toNat:Int).toNat=b:=Zh3 b;rw [e];exact h
  ·rw [show (!mD (b.toNat:Int))=false from q4] at h
   simpa using h
  ·rw [show (!mN0 (b.toNat:Int))=false from q3] at h
   simpa using h
  ·rw [show (!mQ (b.toNat:Int))=false from q2] at h
   simpa using h
  ·rw [show (!mSp (b.toNat:Int))=false from q1] at h
   simpa using h
def Zel:zk:=λs K=>K (zcW s)
theorem Zg8 (x y:Tok):(decide (x.kind=y.kind)&&((x.text==y.text)&&(decide (x.num=y.num)&&((x.unit==y.unit)&&((x.flag==y.flag)&&true)))))=jaf x y:=by
 unfold jaf;have e:∀u v:List UInt8,(u==v)=decide (u=v):=λu v=>by by_cases z:u=v <;> simp [z]
 have e2:∀u v:Bool,(u==v)=decide (u=v):=λu v=>by by_cases z:u=v <;> simp [z]
 rw [e,e,e2,xk]
theorem jjk (t K) (h:jg7 t K):Jag zeq jcR zd2 Zel zgy Jdc t K:=by
 obtain ⟨_,h⟩:=h;unfold zcu at h;unfold Jag zeq jcR zd2 Zel zgy Jdc;rw [show Tok.mk t.kind t.text t.num t.unit t.flag=t from rfl]
 dsimp only;rw [Zg8];refine ⟨λq=>⟨⟨by omega,by omega⟩,λq2=>⟨⟨by omega,by omega⟩,λq3=>?_,λq3=>?_⟩,λq2=>?_⟩,λq=>?_⟩
 ·have q3:t.unit.contains 0=true:=by rw [<-JeQ];exact q3
  have q2:t.text.contains 0=false:=by rw [<-JeQ];exact q2
  rw [q3,q2] at h;simpa using h
 ·have q3:t.unit.contains 0=false:=by rw [<-JeQ];exact q3
  have q2:t.text.contains 0=false:=by rw [<-JeQ];exact q2
  have q:jaf t (Zcs t)=true:=by simpa using q
  rw [q3,q2,q] at h;simp only [Rg,Yg,gc,Qe,or_false] at h;simp only [xc,Rh];generalize ZbY t=a at h |-;generalize Zg6 t.text=b at h |-;generalize zcW t.text=o at h |-;have e:∀u:List UInt8,(!(u==[]))=(u != []):=λu=>rfl
  rw [e,e];generalize (t.text != [])=x at h |-;generalize (t.unit != [])=y at h |-;generalize t.flag=f at h |-;generalize t.kind=k at h |-;clear q q2 q3
  repeat' (first|apply And.intro|intro _)
  all_goals first|(subst k;simp_all;done)|(simp_all;done)|skip
 ·have q2:t.text.contains 0=true:=by rw [<-JeQ];exact q2
  rw [q2] at h;simpa using h
 ·have q:jaf t (Zcs t)=false:=by simpa using q
  rw [q] at h;exact h
theorem zgz (c:UInt8):UInt8.ofNat (c.toNat:Int).toNat=c:=Zh3 c
def zeS:Zm:=λs K=>K (swD s)
theorem jjn (s K) (h:zeS s K):Jbr JaE s K:=by
 cases s with
 | nil=>exact ⟨λq=>by exact absurd q (by decide),λ_=>h⟩
 | cons c w=>exact ⟨λ_=>⟨⟨by omega,by rw [da];omega⟩,h⟩,λq=>by simp at q⟩
def Zfp:Jk:=λs K=>K (swM s)
theorem Zjn (s K) (h:Zfp s K):Zag ZgE zeS s K:=by
 unfold Zfp swM at h;unfold Zag ZgE;cases s with
 | nil=>exact ⟨λq=>by exact absurd q (by decide),λ_=>h⟩
 | cons c w=>
  refine ⟨λq=>⟨⟨by omega,by rw [da];omega⟩,?_⟩,λq=>?_⟩
  ·have e:c=45:=(show (45:UInt8)=c by simpa [List.isPrefixOf] using q).symm
   subst e;exact h
  ·have e:¬(c.toNat:Int)=45:=by
    intro z;have:c=45:=UInt8.toNat_inj.mp (by show c.toNat=45;omega)
    subst this;simp [List.isPrefixOf] at q
   rw [jc,Ye e,yj] at h;exact h
theorem Jjn (s K) (h:Zel s K):Jbc zeS Zfp s K:=by
 unfold Zel zcW at h;refine ⟨λq=>?_,λq=>?_⟩
 ·have q:¬s=[45]:=by simpa using q
  rw [ga q] at h;refine ⟨λq2=>?_,λq2=>⟨λq3=>?_,λq3=>?_⟩⟩
  ·rw [ya q2] at h;exact h
  ·rw [ga (by rw [q2];decide)] at h
   rw [ya (by simpa using q3)] at h
   exact h
  ·rw [ga (by rw [q2];decide)] at h
   rw [ga (by simpa using q3)] at h
   exact h
 ·have q:s=[45]:=by simpa using q
  rw [ya q] at h;exact h
def Jeq:Zk:=λs l K=>K (asM s l)
theorem zi0 (s l K) (h:Jeq s l K):jbe zbR Jjb s l K:=by
 unfold Jeq asM Jek at h;refine ⟨λq=>?_,λq1 q2=>?_,λq1 q2=>?_⟩
 ·rw [ya q] at h;exact ⟨λz=>by simp at z,λ_=>h⟩
 ·rw [ga (by omega),ga (by omega)] at h
  exact ⟨λ_=>⟨by rw [Qm];omega,h⟩,λz=>by simp at z⟩
 ·rw [ga (by omega),ya q2] at h
  exact ⟨λz=>by simp at z,λ_=>h⟩
