/-
 A model of glue: the text of tokens, as plain functions. Nothing is claimed here.
-/
import Derived.Test.YtmnegokadegioaaGreatDoorWa1
import Derived.Test.YtmnegokadegioaaGreatDoorAw1
import Derived.Test.YtmnegokadegioaaGreatDoorTi
namespace Go.Proofs.YtmnegokadegioaaGreatDoor
open Go.Vm Go.Sx Go.RowKit
def zbp (c:UInt8):List UInt8:=92::(if (33≤(c.toNat:Int)∧(c.toNat:Int)≤126)∧mD (c.toNat:Int)=false∧mL (c.toNat:Int)=false then [c] else jda c.toNat++[32])
def JaO (e:Int):Int→List UInt8→List UInt8
 | _,[]=>[]
 | i,c::w=>(if i≠e∧mN (c.toNat:Int)=true then [c] else zbp c)++JaO e (i+1) w
def swD (s:List UInt8):Bool:=mD (hb s)
def swM (s:List UInt8):Bool:=decide (hb s=45)&&mD (hb s.tail)
def jcO (s:List UInt8):Int:=if s=[45] then 0 else if swD s then 0 else if swM s then 1 else -1
def Jac (s:List UInt8):List UInt8:=JaO (jcO s) 0 s
def fr3:Nat→Nat→List UInt8
 | 0,_=>[]
 | k+1,r=>UInt8.ofNat (48+r*10 / 1000)::if r*10%1000=0 then [] else fr3 k (r*10%1000)
def J6 (n:Int) (whole:Bool):List UInt8:=(if n<0 then [45] else [])++(Lib.decDigits (n.natAbs / 1000)++(if whole then [] else 46::fr3 3 (n.natAbs%1000)))
def jat (n:Int):Bool:=decide (n.tmod 1000=0)
def Zcl:List UInt8→List UInt8
 | []=>[]
 | c::w=>(if c∈[10,12,13,34,92] then zbp c else [c])++Zcl w
def zcx:List UInt8→List UInt8
 | []=>[]
 | c::w=>(if c.toNat≤32∨c∈[34,39,40,41,92,127] then zbp c else [c])++zcx w
def ZeJ (u:List UInt8):Bool:=mE (hb u)&&(swD u.tail||swM u.tail)
def zag (u:List UInt8):List UInt8:=if ZeJ u then JaO 0 0 u else Jac u
def jcJ (t:List UInt8) (f:Bool):List UInt8:=35::if f then Jac t else JaO (-1) 0 t
def marksT:List UInt8:=[58,59,44,91,93,40,41,123,125]
def tokT (t:Tok):List UInt8:=
 if t.kind=13 then [32]
 else if t.kind=1 then Jac t.text
 else if t.kind=2 then Jac t.text++[40]
 else if t.kind=3 then 64::Jac t.text
 else if t.kind=4 then jcJ t.text t.flag
 else if t.kind=5 then 34::(Zcl t.text++[34])
 else if t.kind=7 then [117,114,108,40]++(zcx t.text++[41])
 else if t.kind=10 then J6 t.num t.flag
 else if t.kind=11 then J6 t.num (jat t.num)++[37]
 else if t.kind=12 then J6 t.num t.flag++zag t.unit
 else if t.kind=9 then t.text
 else if t.kind=14 then [60,33,45,45]
 else if t.kind=15 then [45,45,62]
 else [marksT.getD (t.kind-16).toNat 0]
def Jcl (t:Tok):Tok:=
 if t.kind∈[1,2,3,5,7,9] then tk t.kind t.text
 else if t.kind=4 then tk t.kind t.text 0 [] t.flag
 else if t.kind=10 then tk t.kind [] t.num [] t.flag
 else if t.kind=11 then tk t.kind [] t.num
 else if t.kind=12 then tk t.kind [] t.num t.unit t.flag
 else tk t.kind
def jad (a b:Tok):Bool:=decide (a.kind=b.kind)&&(decide (a.text=b.text)&&(decide (a.num=b.num)&&(decide (a.unit=b.unit)&&decide (a.flag=b.flag))))
def JgL (s:List UInt8):Bool:=match s with
 | [b]=>!mSp b.toNat&&(!mQ b.toNat&&(!mN0 b.toNat&&(!mD b.toNat&&!(([12,13]++marksT).contains b))))
 | _=>false
def zbS (t:Tok):Bool:=decide (-1000000000000≤t.num)&&(decide (t.num≤1000000000000)&&(!t.flag||jat t.num))
def zcm (t:Tok):Bool:=jad t (Jcl t)&&(!t.text.contains 0&&(!t.unit.contains 0&&
 (if t.kind∈[1,2,3] then t.text != []
 else if t.kind=4 then t.text != []&&(t.flag||decide (jcO t.text≠-1))
 else if t.kind=9 then JgL t.text
 else if t.kind=10∨t.kind=11 then zbS t
 else if t.kind=12 then zbS t&&t.unit != []
 else if t.kind=6∨t.kind=8 then false
 else decide (1≤t.kind)&&decide (t.kind≤24))))
def Jbx (t:Tok):Bool:=decide (t.kind=9)&&t.text==[92]
def jcz (t:Tok):Bool:=decide (t.kind=2)&&Z6 t.text [117,114,108]
def swK (l:List Tok) (k:Int):Bool:=match l with
 | []=>false
 | t::_=>decide (t.kind=k)
def ZeB (t:Tok) (l:List Tok):Bool:=if Jbx t then swK l 13 else if jcz t then swK (if swK l 13 then l.tail else l) 5 else true
def Jcn:List Tok→Bool
 | []=>true
 | t::l=>zcm t&&(ZeB t l&&Jcn l)
def Zff (l:List Tok):Int:=if 1500<l.length then 4 else if Jcn l then 0 else 8
def JeJ:List Tok→Nat
 | []=>1
 | t::l=>if Jbx t then 2 else if jcz t then 1+(l.takeWhile fun t=>decide (t.kind≠5)).length+1 else 1
def je7 (l:List Tok):List UInt8:=match l with
 | t::_=>if Jbx t then [92,10] else l.flatMap tokT
 | []=>[]
def Ja6:List Tok→List Tok→Bool
 | [],[]=>true
 | a::x,b::y=>jad a b&&Ja6 x y
 | _,_=>false
def Ze7 (s:List UInt8):Option (List Tok):=if 4000<s.length then none else
 if 1500<(Jgi (zA s)).length then none else some ((Jgi (zA s)).map (·.1))
def asM (s:List UInt8) (l:List Tok):Bool:=match Ze7 s with
 | some m=>Ja6 m l
 | none=>false
def wrM (l:List Tok):Nat→List UInt8→List (Nat×Nat)→Nat→List UInt8×Int
 | 0,b,_,_=>(b,0)
 | f+1,b,sts,i=>
  if l.length≤i then (b,0) else
   let e:=i+JeJ (l.drop i)
   let b1:=b++je7 ((l.drop i).take (e-i))
   let st1:=(b.length,i)::sts
   let fr:=(st1.take 4).getLastD (0,0)
   let b2:=if asM (b1.drop fr.1) ((l.drop fr.2).take (e-fr.2)) then b1 else b++([47,42,42,47]++b1.drop b.length)
   if 4000<b2.length then ([],28) else wrM l f b2 st1 e
def Zgc (l:List Tok):List UInt8×Int:=if Zff l≠0 then ([],Zff l) else wrM l (l.length+1) [] [] 0
end Go.Proofs.YtmnegokadegioaaGreatDoor
set_option linter.unusedVariables false
namespace Go.Proofs.YtmnegokadegioaaGreatDoor
open Go.Vm Go.Sx Go.RowKit
def zdS:JZ:=fun s K=>K (!(s==[]))
theorem JhX (s K) (h:zdS s K):zbG s K:=h
def jfD:ju:=fun n K=>K (jat n)
theorem ziM (n K) (h:jfD n K):Jbm n K:=⟨by decide,h⟩
def jed:Zap:=fun t K=>K (Jcl t)
theorem jiq (t K) (h:jed t K):JbF t K:=by
 unfold jed Jcl tk at h;unfold JbF;simp only [decide_eq_true_eq,decide_eq_false_iff_not];simp only [List.mem_cons,List.not_mem_nil,or_false] at h;obtain ⟨k,tx,n,u,f⟩:=t;dsimp only at h ⊢
 repeat' (first|apply And.intro|intro _)
 all_goals first|(subst k;exact h)|(rw [if_neg (by omega),if_neg (by omega),if_neg (by omega),if_neg (by omega),if_neg (by omega)] at h;exact h)
def Jc4:ZO:=fun t K=>K (zbS t)
theorem zhY (t K) (h:Jc4 t K):JaJ jfD t K:=by
 unfold Jc4 zbS at h;unfold JaJ jfD;simp only [decide_eq_true_eq,decide_eq_false_iff_not];refine ⟨fun q=>⟨fun q2=>?_,fun q2=>⟨fun q3=>?_,fun q3=>?_⟩⟩,fun q=>?_⟩
 ·rw [decide_eq_true (by omega),decide_eq_false (by omega)] at h;exact h
 ·rw [decide_eq_true (by omega),decide_eq_true (by omega),q3] at h;exact h
 ·rw [decide_eq_true (by omega),decide_eq_true (by omega),q3] at h;exact h
 ·rw [decide_eq_false (by omega)] at h;exact h
def zgM:jb:=fun t K=>K (Jbx t)
theorem zjd (t K) (h:zgM t K):zaK t K:=by
 unfold zgM Jbx at h;refine ⟨fun q=>?_,fun q=>?_⟩ <;> rw [q] at h <;> exact h
def zhE:zd:=fun t K=>t.text.length≤10000000∧K (jcz t)
theorem jjd (A:zZ) (hA:∀a b K,a.length≤10000000∧K (Z6 a b)→A a b K) (t K) (h:zhE t K):Z7 A t K:=by
 obtain ⟨h0,h⟩:=h;unfold jcz at h;refine ⟨fun q=>hA _ _ _ ⟨h0,?_⟩,fun q=>?_⟩ <;> rw [q] at h <;> exact h
def zig:zaX:=fun l k K=>K (swK l k)
theorem Zjd (l k K) (h:zig l k K):jdL l k K:=by
 unfold zig swK at h;cases l with
 | nil=>exact ⟨fun q=>by exact absurd q (by decide),fun _=>h⟩
 | cons t l=>exact ⟨fun _=>⟨⟨by omega,by rw [List.length_cons];omega⟩,h⟩,fun q=>by simp at q⟩
def jgM:jf:=fun t l K=>t.text.length≤10000000∧K (ZeB t l)
theorem jiM (t l K) (h:jgM t l K):zW zgM zig zhE t l K:=by
 obtain ⟨h0,h⟩:=h;unfold ZeB at h;unfold zW zgM zig zhE;refine ⟨fun q=>?_,fun q=>⟨h0,fun q2=>⟨fun q3=>?_,fun q3=>?_⟩,fun q2=>?_⟩⟩
 ·have q:Jbx t=true:=q;rw [q] at h;exact h
 ·have q:Jbx t=false:=q;have q2:jcz t=true:=q2;rw [q,q2,q3] at h;refine ⟨⟨by omega,?_⟩,?_⟩
  ·cases l with
   | nil=>simp [swK] at q3
   | cons a l=>rw [List.length_cons];omega
  ·rw [List.drop_one];exact h
 ·have q:Jbx t=false:=q;have q2:jcz t=true:=q2;rw [q,q2,q3] at h;exact h
 ·have q:Jbx t=false:=q;have q2:jcz t=false:=q2;rw [q,q2] at h;exact h
end Go.Proofs.YtmnegokadegioaaGreatDoor
set_option linter.unusedVariables false
namespace Go.Proofs.YtmnegokadegioaaGreatDoor
open Go.Vm Go.Sx Go.RowKit
theorem zg2 {n:Int} (h:-9223372036854775808≤n∧n<9223372036854775808):I64 n:=by unfold I64;omega
def ZgM:zh:=fun t K=>(t.text.length≤10000000∧t.unit.length≤10000000)∧K (zcm t)
def Jff (t:Tok):Prop:=t.text.length≤10000000∧t.unit.length≤10000000
theorem ZfD {l:List Tok} {i:Nat} (h:i<l.length):l.getD i (Ze Cd.tok)=l[i]:=by
 show l.getD i (⟨0,[],0,[],false⟩:Tok)=l[i];rw [List.getD_eq_getElem?_getD,List.getElem?_eq_getElem h,Option.getD_some]
theorem ZaX {l:List Tok} {i:Nat} (h:i<l.length):l.drop i=l.getD i (Ze Cd.tok)::l.drop (i+1):=by
 have e:=ZfD h;exact (List.drop_eq_getElem_cons h).trans (congrArg (·::l.drop (i+1)) e.symm)
theorem JfR {l:List Tok} (h:∀t∈l,Jff t) {i:Nat} (hi:i<l.length):Jff (l.getD i (Ze Cd.tok)):=by
 have e:=ZfD hi;exact e▸h _ (List.getElem_mem hi)
theorem zfS (l:List Tok) (hl:∀t∈l,Jff t) (hs:l.length≤1500) (Ke:Unit→Prop) (Kr:Int→Prop):∀(n i:Nat),i+n=l.length→(Jcn (l.drop i)=true→Ke ())→(Jcn (l.drop i)=false→Kr 8)→
  JaK ZgM jgM (n+1) l l (l.length:Int) (i:Int) Ke Kr
 | 0,i,hi,h1,h2=>by
  refine ⟨fun q=>absurd (of_decide_eq_true q) (by omega),fun _=>h1 ?_⟩
  rw [List.drop_of_length_le (by omega)]
  rfl
 | n+1,i,hi,h1,h2=>by
  have hlt:i<l.length:=by omega
  have ht:((i:Int)).toNat=i:=rfl;have ht1:((i:Int)+1).toNat=i+1:=by omega
  have hd:=ZaX hlt;have hok:=JfR hl hlt;refine ⟨fun _=>⟨⟨by omega,by omega⟩,⟨hok.1,hok.2⟩,fun q=>⟨zg2 (by omega),⟨by omega,by omega⟩,hok.1,fun q2=>?_,fun q2=>⟨zg2 (by omega),?_⟩⟩,fun q=>?_⟩,fun q=>absurd (of_decide_eq_false q) (by omega)⟩
  ·rw [ht,ht1] at q2;refine h2 ?_;rw [hd,Jcn];have q2:ZeB (l.getD i (Ze Cd.tok)) (l.drop (i+1))=false:=by simpa using q2
   rw [q2];simp
  ·rw [ht,ht1] at q2;rw [ht] at q;have q2:ZeB (l.getD i (Ze Cd.tok)) (l.drop (i+1))=true:=by simpa using q2
   have q:zcm (l.getD i (Ze Cd.tok))=true:=by simpa using q
   rw [hd,Jcn,q,q2] at h1 h2;exact zfS l hl hs Ke Kr n (i+1) (by omega) (by simpa using h1) (by simpa using h2)
  ·rw [ht] at q;refine h2 ?_;have q:zcm (l.getD i (Ze Cd.tok))=false:=by simpa using q
   rw [hd,Jcn,q];rfl
def JeB:Jh:=fun l K=>(∀t∈l,Jff t)∧K (Zff l)
theorem ZiM (l K) (h:JeB l K):zb2 ZgM jgM l K:=by
 obtain ⟨hl,h⟩:=h;unfold Zff at h;refine ⟨fun q=>?_,fun q=>⟨l.length+1,?_⟩⟩
 ·have q:=of_decide_eq_true q;rw [if_pos (by omega)] at h
  exact h
 ·have q:=of_decide_eq_false q;rw [if_neg (by omega)] at h
  refine zfS l hl (by omega) _ _ l.length 0 (by omega) (fun z=>?_) (fun z=>?_) <;> rw [List.drop_zero] at z <;> rw [z] at h <;> exact h
theorem jfS (A:jb) (B:zd) (l:List Tok) (hs:l.length≤1500) (Ke:Int→Prop):∀(n i:Nat),i+n=l.length→((l.drop i).any fun t=>decide (t.kind=5))=true→
  Ke ((i:Int)+(((l.drop i).takeWhile fun t=>decide (t.kind≠5)).length:Int))→zam A B (n+1) l (i:Int) Ke
 | 0,i,hi,h1,h2=>by rw [List.drop_of_length_le (by omega)] at h1;cases h1
 | n+1,i,hi,h1,h2=>by
  have hlt:i<l.length:=by omega
  have ht:((i:Int)).toNat=i:=rfl;have hd:=ZaX hlt;rw [hd] at h1 h2;refine ⟨⟨by omega,by omega⟩,fun q=>⟨zg2 (by omega),?_⟩,fun q=>?_⟩
  ·rw [ht] at q;have q':decide ((l.getD i (Ze Cd.tok)).kind=5)=false:=by simpa using q
   rw [List.any_cons,q',Bool.false_or] at h1;rw [List.takeWhile_cons,if_pos q,List.length_cons] at h2;refine jfS A B l hs Ke n (i+1) (by omega) h1 ?_
   rw [show ((i+1:Nat):Int)+(((l.drop (i+1)).takeWhile fun t=>decide (t.kind≠5)).length:Int)=(i:Int)+((((l.drop (i+1)).takeWhile fun t=>decide (t.kind≠5)).length+1:Nat):Int) from by omega]
   exact h2
  ·rw [ht] at q;rw [List.takeWhile_cons,q] at h2;simpa using h2
end Go.Proofs.YtmnegokadegioaaGreatDoor
set_option linter.unusedVariables false
namespace Go.Proofs.YtmnegokadegioaaGreatDoor
open Go.Vm Go.Sx Go.RowKit
def JgM:zn:=fun l i K=>(0≤i∧i<(l.length:Int)∧l.length≤1500)∧(∀t∈l,Jff t)∧(jcz (l.getD i.toNat (Ze Cd.tok))=true→((l.drop i.toNat).any fun t=>decide (t.kind=5))=true)∧K (i+(JeJ (l.drop i.toNat):Int))
theorem zgN {t:Tok} (h:jcz t=true):t.kind=2:=by
 unfold jcz at h;rw [Bool.and_eq_true] at h;exact of_decide_eq_true h.1
theorem JiM (l i K) (h:JgM l i K):jba zgM zhE l i K:=by
 obtain ⟨⟨h1,h2,h3⟩,hl,ha,hk⟩:=h;obtain ⟨n,rfl⟩:∃n:Nat,i=n:=⟨i.toNat,by omega⟩
 have ht:((n:Int)).toNat=n:=rfl;have hlt:n<l.length:=by omega
 have hd:=ZaX hlt;have hok:=JfR hl hlt;rw [ht] at ha hk;have e:(JeJ (l.drop n))=if Jbx (l.getD n (Ze Cd.tok)) then 2 else if jcz (l.getD n (Ze Cd.tok)) then 1+((l.drop (n+1)).takeWhile fun t=>decide (t.kind≠5)).length+1 else 1:=by rw [hd];rfl
 rw [e] at hk;refine ⟨⟨h1,h2⟩,fun q=>⟨zg2 (by omega),?_⟩,fun q=>⟨⟨h1,h2⟩,hok.1,fun q2=>⟨l.length-n+1,?_⟩,fun q2=>⟨zg2 (by omega),?_⟩⟩⟩
 ·have q:Jbx (l.getD n (Ze Cd.tok))=true:=q;rw [q] at hk;exact hk
 ·have q:Jbx (l.getD n (Ze Cd.tok))=false:=q;have q2:jcz (l.getD n (Ze Cd.tok))=true:=q2;rw [q,q2] at hk;refine jfS _ _ l h3 _ (l.length-n) n (by omega) (ha q2) ?_
  have hk2:=zgN q2;have e2:((l.drop n).takeWhile fun t=>decide (t.kind≠5)).length=((l.drop (n+1)).takeWhile fun t=>decide (t.kind≠5)).length+1:=by
   rw [hd,List.takeWhile_cons,if_pos (by rw [hk2];decide),List.length_cons]
  have e3:((l.drop (n+1)).takeWhile fun t=>decide (t.kind≠5)).length≤l.length:=by
   have z:=List.Sublist.length_le (List.takeWhile_sublist (fun t:Tok=>decide (t.kind≠5)) (l:=l.drop (n+1)))
   rw [List.length_drop] at z;omega
  refine ⟨zg2 (by omega),?_⟩
  rw [e2];have e4:(n:Int)+((((l.drop (n+1)).takeWhile fun t=>decide (t.kind≠5)).length+1:Nat):Int)+1=(n:Int)+((1+((l.drop (n+1)).takeWhile fun t=>decide (t.kind≠5)).length+1:Nat):Int):=by omega
  rw [e4];exact hk
 ·have q:Jbx (l.getD n (Ze Cd.tok))=false:=q;have q2:jcz (l.getD n (Ze Cd.tok))=false:=q2;rw [q,q2] at hk;exact hk
theorem Je7 (a b:List Tok) (hs:a.length=b.length) (hm:a.length≤1000000) (Ke:Unit→Prop) (Kr:Bool→Prop):∀(n i:Nat),i+n=a.length→(Ja6 (a.drop i) (b.drop i)=true→Ke ())→(Ja6 (a.drop i) (b.drop i)=false→Kr false)→
  zav (n+1) a b (a.length:Int) (i:Int) Ke Kr
 | 0,i,hi,h1,h2=>by
  refine ⟨fun q=>absurd (of_decide_eq_true q) (by omega),fun _=>h1 ?_⟩
  rw [List.drop_of_length_le (by omega),List.drop_of_length_le (by omega)]
  rfl
 | n+1,i,hi,h1,h2=>by
  have hlt:i<a.length:=by omega
  have hlt2:i<b.length:=by omega
  have ht:((i:Int)).toNat=i:=rfl;rw [ZaX hlt,ZaX hlt2,Ja6] at h1 h2;have key:∀x y:Tok,(decide (x.kind=y.kind)&&((x.text==y.text)&&(decide (x.num=y.num)&&((x.unit==y.unit)&&((x.flag==y.flag)&&true)))))=jad x y:=fun x y=>by
   unfold jad;have e:∀u v:List UInt8,(u==v)=decide (u=v):=fun u v=>by by_cases z:u=v <;> simp [z]
   have e2:∀u v:Bool,(u==v)=decide (u=v):=fun u v=>by by_cases z:u=v <;> simp [z]
   rw [e,e,e2,Bool.and_true]
  refine ⟨fun _=>⟨⟨by omega,by omega⟩,⟨by omega,by omega⟩,fun q=>?_,fun q=>⟨zg2 (by omega),?_⟩⟩,fun q=>absurd (of_decide_eq_false q) (by omega)⟩
  ·rw [ht,key] at q;have q:jad (a.getD i (Ze Cd.tok)) (b.getD i (Ze Cd.tok))=false:=by simpa using q
   refine h2 ?_;rw [q];rfl
  ·rw [ht,key] at q;have q:jad (a.getD i (Ze Cd.tok)) (b.getD i (Ze Cd.tok))=true:=by simpa using q
   rw [q,Bool.true_and] at h1 h2;exact Je7 a b hs hm Ke Kr n (i+1) (by omega) h1 h2
theorem ze8:∀{a b:List Tok},Ja6 a b=true→a.length=b.length
 | [],[],_=>rfl
 | x::a,y::b,h=>by
  rw [Ja6,Bool.and_eq_true] at h;rw [List.length_cons,List.length_cons,ze8 h.2]
 | [],_::_,h=>by cases h
 | _::_,[],h=>by cases h
def JiG:JU:=fun a b K=>a.length≤1000000∧K (Ja6 a b)
theorem Jjd (a b K) (h:JiG a b K):Zbn a b K:=by
 obtain ⟨hm,h⟩:=h;refine ⟨fun q=>?_,fun q=>⟨a.length+1,?_⟩⟩
 ·have q:=of_decide_eq_true q;cases hs:Ja6 a b with
  | true=>exact absurd (ze8 hs) (by omega)
  | false=>rw [hs] at h;exact h
 ·have q:=of_decide_eq_false q;refine Je7 a b (by omega) hm _ _ a.length 0 (by omega) (fun z=>?_) (fun z=>?_) <;> rw [List.drop_zero,List.drop_zero] at z <;> rw [z] at h <;> exact h
end Go.Proofs.YtmnegokadegioaaGreatDoor
set_option linter.unusedVariables false
namespace Go.Proofs.YtmnegokadegioaaGreatDoor
open Go.Vm Go.Sx Go.RowKit
def jiO:J5:=fun s c K=>(0≤c∧c<256)∧K (Lib.indexByte s (UInt8.ofNat c.toNat))
def JcJ:jc:=fun s c K=>(0≤c∧c<256)∧K (Lib.indexByte s (UInt8.ofNat c.toNat))
theorem ZiO (s c K) (h:JcJ s c K):Zbl jiO s c K:=h
theorem Jir:∀(s:List UInt8) (c:UInt8),-1≤Lib.indexByte s c
 | [],_=>by simp [Lib.indexByte]
 | d::w,c=>by
  have:=Jir w c;unfold Lib.indexByte;split
  ·omega
  ·split
   ·omega
   ·omega
theorem zis (s:List UInt8) (c:UInt8):0≤Lib.indexByte s c↔c∈s:=by
 induction s with
 | nil=>simp [Lib.indexByte]
 | cons d w ih=>
  have hg:=Jir w c;unfold Lib.indexByte;by_cases q:d=c
  ·subst q;simp
  ·have q1:(d==c)=false:=by simpa using q
   have q2:¬c=d:=fun z=>q z.symm
   simp only [q1,Bool.false_eq_true,if_false,List.mem_cons,q2,false_or];rw [←ih];by_cases z:Lib.indexByte w c = -1
   ·simp [z]
   ·simp only [beq_iff_eq,z,if_false];omega
theorem jis (s:List UInt8) (c:UInt8):decide (Lib.indexByte s c<0) = !s.contains c:=by
 have:=zis s c;by_cases q:c∈s
 ·have z:=this.2 q;rw [decide_eq_false (by omega)]
  simp [q]
 ·have z:¬0≤Lib.indexByte s c:=fun z=>q (this.1 z)
  rw [decide_eq_true (by omega)]
  simp [q]
theorem zeC (s:List UInt8) (c:UInt8):decide (0≤Lib.indexByte s c)=s.contains c:=by
 have:=jis s c;by_cases q:0≤Lib.indexByte s c
 ·rw [decide_eq_false (by omega)] at this
  rw [decide_eq_true q];cases h:s.contains c
  ·rw [h] at this;cases this
  ·rfl
 ·rw [decide_eq_true (by omega)] at this
  rw [decide_eq_false q];cases h:s.contains c
  ·rfl
  ·rw [h] at this;cases this
def Jgc:ZU:=fun s K=>K (JgL s)
theorem JiO (s K) (h:Jgc s K):JaV ZaH Zd8 zaB ZaD JcJ s K:=by
 unfold Jgc at h;unfold JaV ZaH Zd8 zaB ZaD JcJ
 match s,h with
 | [],h=>exact ⟨fun _=>h,fun q=>absurd (of_decide_eq_false q) (by decide)⟩
 | a::b::w,h=>exact ⟨fun _=>h,fun q=>absurd (of_decide_eq_false q) (by simp only [List.length_cons];omega)⟩
 | [b],h=>
  simp only [JgL] at h;have hb:=je8 b;refine ⟨fun q=>absurd (of_decide_eq_true q) (by simp),fun _=>⟨⟨by omega,by simp⟩,fun q1=>⟨fun q2=>⟨fun q3=>⟨fun q4=>⟨⟨hb.1,by show (b.toNat:Int)<256;omega⟩,?_⟩,fun q4=>?_⟩,fun q3=>?_⟩,fun q2=>?_⟩,fun q1=>?_⟩⟩
  ·dsimp only;rw [jis];rw [show (!mSp (b.toNat:Int))=true from q1,show (!mQ (b.toNat:Int))=true from q2,show (!mN0 (b.toNat:Int))=true from q3,show (!mD (b.toNat:Int))=true from q4] at h
   have e:UInt8.ofNat ((([b]:List UInt8).getD 0 0).toNat:Int).toNat=b:=jhE b;rw [e];exact h
  ·rw [show (!mD (b.toNat:Int))=false from q4] at h
   simpa using h
  ·rw [show (!mN0 (b.toNat:Int))=false from q3] at h
   simpa using h
  ·rw [show (!mQ (b.toNat:Int))=false from q2] at h
   simpa using h
  ·rw [show (!mSp (b.toNat:Int))=false from q1] at h
   simpa using h
end Go.Proofs.YtmnegokadegioaaGreatDoor
set_option linter.unusedVariables false
namespace Go.Proofs.YtmnegokadegioaaGreatDoor
open Go.Vm Go.Sx Go.RowKit
def Jd8:zk:=fun s K=>K (jcO s)
theorem ZgN (x y:Tok):(decide (x.kind=y.kind)&&((x.text==y.text)&&(decide (x.num=y.num)&&((x.unit==y.unit)&&((x.flag==y.flag)&&true)))))=jad x y:=by
 unfold jad;have e:∀u v:List UInt8,(u==v)=decide (u=v):=fun u v=>by by_cases z:u=v <;> simp [z]
 have e2:∀u v:Bool,(u==v)=decide (u=v):=fun u v=>by by_cases z:u=v <;> simp [z]
 rw [e,e,e2,Bool.and_true]
theorem ziP (t K) (h:ZgM t K):zaf jed JcJ zdS Jd8 Jgc Jc4 t K:=by
 obtain ⟨_,h⟩:=h;unfold zcm at h;unfold zaf jed JcJ zdS Jd8 Jgc Jc4;rw [show Tok.mk t.kind t.text t.num t.unit t.flag=t from rfl]
 dsimp only;rw [ZgN];refine ⟨fun q=>⟨⟨by omega,by omega⟩,fun q2=>⟨⟨by omega,by omega⟩,fun q3=>?_,fun q3=>?_⟩,fun q2=>?_⟩,fun q=>?_⟩
 ·have q3:t.unit.contains 0=true:=by rw [←zeC];exact q3
  have q2:t.text.contains 0=false:=by rw [←zeC];exact q2
  rw [q3,q2] at h;simpa using h
 ·have q3:t.unit.contains 0=false:=by rw [←zeC];exact q3
  have q2:t.text.contains 0=false:=by rw [←zeC];exact q2
  have q:jad t (Jcl t)=true:=by simpa using q
  rw [q3,q2,q] at h;simp only [Bool.not_false,Bool.true_and,List.mem_cons,List.not_mem_nil,or_false] at h;simp only [decide_eq_true_eq,decide_eq_false_iff_not];generalize zbS t=a at h ⊢;generalize JgL t.text=b at h ⊢;generalize jcO t.text=o at h ⊢;have e:∀u:List UInt8,(!(u==[]))=(u != []):=fun u=>rfl
  rw [e,e];generalize (t.text != [])=x at h ⊢;generalize (t.unit != [])=y at h ⊢;generalize t.flag=f at h ⊢;generalize t.kind=k at h ⊢;clear q q2 q3
  repeat' (first|apply And.intro|intro _)
  all_goals first|(subst k;simp_all;done)|(simp_all;done)|skip
 ·have q2:t.text.contains 0=true:=by rw [←zeC];exact q2
  rw [q2] at h;simpa using h
 ·have q:jad t (Jcl t)=false:=by simpa using q
  rw [q] at h;exact h
end Go.Proofs.YtmnegokadegioaaGreatDoor
set_option linter.unusedVariables false
namespace Go.Proofs.YtmnegokadegioaaGreatDoor
open Go.Vm Go.Sx Go.RowKit
theorem Jgd (c:UInt8):UInt8.ofNat (c.toNat:Int).toNat=c:=jhE c
def jeD:jm:=fun s K=>K (swD s)
theorem ziS (s K) (h:jeD s K):zbm ZaD s K:=by
 cases s with
 | nil=>exact ⟨fun q=>by exact absurd q (by decide),fun _=>h⟩
 | cons c w=>exact ⟨fun _=>⟨⟨by omega,by rw [List.length_cons];omega⟩,h⟩,fun q=>by simp at q⟩
def Zfa:Jk:=fun s K=>K (swM s)
theorem jiS (s K) (h:Zfa s K):Jae zgj jeD s K:=by
 unfold Zfa swM at h;unfold Jae zgj;cases s with
 | nil=>exact ⟨fun q=>by exact absurd q (by decide),fun _=>h⟩
 | cons c w=>
  refine ⟨fun q=>⟨⟨by omega,by rw [List.length_cons];omega⟩,?_⟩,fun q=>?_⟩
  ·have e:c=45:=(show (45:UInt8)=c by simpa [List.isPrefixOf] using q).symm
   subst e;exact h
  ·have e:¬(c.toNat:Int)=45:=by
    intro z;have:c=45:=UInt8.toNat_inj.mp (by show c.toNat=45;omega)
    subst this;simp [List.isPrefixOf] at q
   rw [je,decide_eq_false e,Bool.false_and] at h;exact h
theorem ZiS (s K) (h:Jd8 s K):za9 jeD Zfa s K:=by
 unfold Jd8 jcO at h;refine ⟨fun q=>?_,fun q=>?_⟩
 ·have q:¬s=[45]:=by simpa using q
  rw [if_neg q] at h;refine ⟨fun q2=>?_,fun q2=>⟨fun q3=>?_,fun q3=>?_⟩⟩
  ·rw [if_pos q2] at h;exact h
  ·rw [if_neg (by rw [q2];decide)] at h
   rw [if_pos (by simpa using q3)] at h
   exact h
  ·rw [if_neg (by rw [q2];decide)] at h
   rw [if_neg (by simpa using q3)] at h
   exact h
 ·have q:s=[45]:=by simpa using q
  rw [if_pos q] at h;exact h
def zee:Zk:=fun s l K=>K (asM s l)
theorem Jiw (s l K) (h:zee s l K):Zba jbi JiG s l K:=by
 unfold zee asM Ze7 at h;refine ⟨fun q=>?_,fun q1 q2=>?_,fun q1 q2=>?_⟩
 ·rw [if_pos q] at h;exact ⟨fun z=>by simp at z,fun _=>h⟩
 ·rw [if_neg (by omega),if_neg (by omega)] at h
  exact ⟨fun _=>⟨by rw [List.length_map];omega,h⟩,fun z=>by simp at z⟩
 ·rw [if_neg (by omega),if_pos q2] at h
  exact ⟨fun z=>by simp at z,fun _=>h⟩
end Go.Proofs.YtmnegokadegioaaGreatDoor
