/-
 A model of glue: the text of tokens, as plain functions. Nothing is claimed here.
-/
import Derived.Test.YtmnegokadegioaaGreatDoorWa1
import Derived.Test.YtmnegokadegioaaGreatDoorAw1
import Derived.Test.YtmnegokadegioaaGreatDoorTi
namespace Go.Proofs.YtmnegokadegioaaGreatDoor
open Go.Vm Go.Sx Go.RowKit
def Zbm (c:UInt8):List UInt8:=92::(if (33≤(c.toNat:Int)∧(c.toNat:Int)≤126)∧mD (c.toNat:Int)=false∧mL (c.toNat:Int)=false then [c] else zc8 c.toNat++[32])
def zaN (e:Int):Int→List UInt8→List UInt8
 | _,[]=>[]
 | i,c::w=>(if i≠e∧mN (c.toNat:Int)=true then [c] else Zbm c)++zaN e (i+1) w
def swD (s:List UInt8):Bool:=mD (hb s)
def swM (s:List UInt8):Bool:=decide (hb s=45)&&mD (hb s.tail)
def ZcL (s:List UInt8):Int:=if s=[45] then 0 else if swD s then 0 else if swM s then 1 else -1
def Zaa (s:List UInt8):List UInt8:=zaN (ZcL s) 0 s
def fr3:Nat→Nat→List UInt8
 | 0,_=>[]
 | k+1,r=>UInt8.ofNat (48+r*10 / 1000)::if r*10%1000=0 then [] else fr3 k (r*10%1000)
def J3 (n:Int) (whole:Bool):List UInt8:=(if n<0 then [45] else [])++(Lib.decDigits (n.natAbs / 1000)++(if whole then [] else 46::fr3 3 (n.natAbs%1000)))
def Jaq (n:Int):Bool:=decide (n.tmod 1000=0)
def Zci:List UInt8→List UInt8
 | []=>[]
 | c::w=>(if c∈[10,12,13,34,92] then Zbm c else [c])++Zci w
def zcu:List UInt8→List UInt8
 | []=>[]
 | c::w=>(if c.toNat≤32∨c∈[34,39,40,41,92,127] then Zbm c else [c])++zcu w
def JeG (u:List UInt8):Bool:=mE (hb u)&&(swD u.tail||swM u.tail)
def zae (u:List UInt8):List UInt8:=if JeG u then zaN 0 0 u else Zaa u
def JcG (t:List UInt8) (f:Bool):List UInt8:=35::if f then Zaa t else zaN (-1) 0 t
def marksT:List UInt8:=[58,59,44,91,93,40,41,123,125]
def tokT (t:Tok):List UInt8:=
 if t.kind=13 then [32]
 else if t.kind=1 then Zaa t.text
 else if t.kind=2 then Zaa t.text++[40]
 else if t.kind=3 then 64::Zaa t.text
 else if t.kind=4 then JcG t.text t.flag
 else if t.kind=5 then 34::(Zci t.text++[34])
 else if t.kind=7 then [117,114,108,40]++(zcu t.text++[41])
 else if t.kind=10 then J3 t.num t.flag
 else if t.kind=11 then J3 t.num (Jaq t.num)++[37]
 else if t.kind=12 then J3 t.num t.flag++zae t.unit
 else if t.kind=9 then t.text
 else if t.kind=14 then [60,33,45,45]
 else if t.kind=15 then [45,45,62]
 else [marksT.getD (t.kind-16).toNat 0]
def Jci (t:Tok):Tok:=
 if t.kind∈[1,2,3,5,7,9] then tk t.kind t.text
 else if t.kind=4 then tk t.kind t.text 0 [] t.flag
 else if t.kind=10 then tk t.kind [] t.num [] t.flag
 else if t.kind=11 then tk t.kind [] t.num
 else if t.kind=12 then tk t.kind [] t.num t.unit t.flag
 else tk t.kind
def jab (a b:Tok):Bool:=decide (a.kind=b.kind)&&(decide (a.text=b.text)&&(decide (a.num=b.num)&&(decide (a.unit=b.unit)&&decide (a.flag=b.flag))))
def jgI (s:List UInt8):Bool:=match s with
 | [b]=>!mSp b.toNat&&(!mQ b.toNat&&(!mN0 b.toNat&&(!mD b.toNat&&!(([12,13]++marksT).contains b))))
 | _=>false
def jbP (t:Tok):Bool:=decide (-1000000000000≤t.num)&&(decide (t.num≤1000000000000)&&(!t.flag||Jaq t.num))
def jck (t:Tok):Bool:=jab t (Jci t)&&(!t.text.contains 0&&(!t.unit.contains 0&&
 (if t.kind∈[1,2,3] then t.text != []
 else if t.kind=4 then t.text != []&&(t.flag||decide (ZcL t.text≠-1))
 else if t.kind=9 then jgI t.text
 else if t.kind=10∨t.kind=11 then jbP t
 else if t.kind=12 then jbP t&&t.unit != []
 else if t.kind=6∨t.kind=8 then false
 else decide (1≤t.kind)&&decide (t.kind≤24))))
def zbv (t:Tok):Bool:=decide (t.kind=9)&&t.text==[92]
def jcw (t:Tok):Bool:=decide (t.kind=2)&&Z3 t.text [117,114,108]
def swK (l:List Tok) (k:Int):Bool:=match l with
 | []=>false
 | t::_=>decide (t.kind=k)
def Zey (t:Tok) (l:List Tok):Bool:=if zbv t then swK l 13 else if jcw t then swK (if swK l 13 then l.tail else l) 5 else true
def Zcw:List Tok→Bool
 | []=>true
 | t::l=>jck t&&(Zey t l&&Zcw l)
def Zf9 (l:List Tok):Int:=if 1500<l.length then 4 else if Zcw l then 0 else 8
def zeH:List Tok→Nat
 | []=>1
 | t::l=>if zbv t then 2 else if jcw t then 1+(l.takeWhile fun t=>decide (t.kind≠5)).length+1 else 1
def je5 (l:List Tok):List UInt8:=match l with
 | t::_=>if zbv t then [92,10] else l.flatMap tokT
 | []=>[]
def Za4:List Tok→List Tok→Bool
 | [],[]=>true
 | a::x,b::y=>jab a b&&Za4 x y
 | _,_=>false
def Jey (s:List UInt8):Option (List Tok):=if 4000<s.length then none else
 if 1500<(ZgY (JB s)).length then none else some ((ZgY (JB s)).map (·.1))
def asM (s:List UInt8) (l:List Tok):Bool:=match Jey s with
 | some m=>Za4 m l
 | none=>false
def wrM (l:List Tok):Nat→List UInt8→List (Nat×Nat)→Nat→List UInt8×Int
 | 0,b,_,_=>(b,0)
 | f+1,b,sts,i=>
  if l.length≤i then (b,0) else
   let e:=i+zeH (l.drop i)
   let b1:=b++je5 ((l.drop i).take (e-i))
   let st1:=(b.length,i)::sts
   let fr:=(st1.take 4).getLastD (0,0)
   let b2:=if asM (b1.drop fr.1) ((l.drop fr.2).take (e-fr.2)) then b1 else b++([47,42,42,47]++b1.drop b.length)
   if 4000<b2.length then ([],28) else wrM l f b2 st1 e
def ZfO (l:List Tok):List UInt8×Int:=if Zf9 l≠0 then ([],Zf9 l) else wrM l (l.length+1) [] [] 0
end Go.Proofs.YtmnegokadegioaaGreatDoor
set_option linter.unusedVariables false
namespace Go.Proofs.YtmnegokadegioaaGreatDoor
open Go.Vm Go.Sx Go.RowKit
def JdP:JX:=fun s K=>K (!(s==[]))
theorem jhU (s K) (h:JdP s K):zbD s K:=h
def jfz:zu:=fun n K=>K (Jaq n)
theorem ZiH (n K) (h:jfz n K):jbk n K:=⟨by decide,h⟩
def zea:Zan:=fun t K=>K (Jci t)
theorem jim (t K) (h:zea t K):JbC t K:=by
 unfold zea Jci tk at h;unfold JbC;simp only [decide_eq_true_eq,decide_eq_false_iff_not];simp only [List.mem_cons,List.not_mem_nil,or_false] at h;obtain ⟨k,tx,n,u,f⟩:=t;dsimp only at h ⊢
 repeat' (first|apply And.intro|intro _)
 all_goals first|(subst k;exact h)|(rw [if_neg (by omega),if_neg (by omega),if_neg (by omega),if_neg (by omega),if_neg (by omega)] at h;exact h)
def zc2:jN:=fun t K=>K (jbP t)
theorem ZhU (t K) (h:zc2 t K):zaI jfz t K:=by
 unfold zc2 jbP at h;unfold zaI jfz;simp only [decide_eq_true_eq,decide_eq_false_iff_not];refine ⟨fun q=>⟨fun q2=>?_,fun q2=>⟨fun q3=>?_,fun q3=>?_⟩⟩,fun q=>?_⟩
 ·rw [decide_eq_true (by omega),decide_eq_false (by omega)] at h;exact h
 ·rw [decide_eq_true (by omega),decide_eq_true (by omega),q3] at h;exact h
 ·rw [decide_eq_true (by omega),decide_eq_true (by omega),q3] at h;exact h
 ·rw [decide_eq_false (by omega)] at h;exact h
def ZgI:jb:=fun t K=>K (zbv t)
theorem Ji8 (t K) (h:ZgI t K):jaI t K:=by
 unfold ZgI zbv at h;refine ⟨fun q=>?_,fun q=>?_⟩ <;> rw [q] at h <;> exact h
def JhA:zd:=fun t K=>t.text.length≤10000000∧K (jcw t)
theorem zi9 (A:jX) (hA:∀a b K,a.length≤10000000∧K (Z3 a b)→A a b K) (t K) (h:JhA t K):Z5 A t K:=by
 obtain ⟨h0,h⟩:=h;unfold jcw at h;refine ⟨fun q=>hA _ _ _ ⟨h0,?_⟩,fun q=>?_⟩ <;> rw [q] at h <;> exact h
def Zic:zaV:=fun l k K=>K (swK l k)
theorem ji9 (l k K) (h:Zic l k K):zdJ l k K:=by
 unfold Zic swK at h;cases l with
 | nil=>exact ⟨fun q=>by exact absurd q (by decide),fun _=>h⟩
 | cons t l=>exact ⟨fun _=>⟨⟨by omega,by rw [List.length_cons];omega⟩,h⟩,fun q=>by simp at q⟩
def JgI:jf:=fun t l K=>t.text.length≤10000000∧K (Zey t l)
theorem JiH (t l K) (h:JgI t l K):zU ZgI Zic JhA t l K:=by
 obtain ⟨h0,h⟩:=h;unfold Zey at h;unfold zU ZgI Zic JhA;refine ⟨fun q=>?_,fun q=>⟨h0,fun q2=>⟨fun q3=>?_,fun q3=>?_⟩,fun q2=>?_⟩⟩
 ·have q:zbv t=true:=q;rw [q] at h;exact h
 ·have q:zbv t=false:=q;have q2:jcw t=true:=q2;rw [q,q2,q3] at h;refine ⟨⟨by omega,?_⟩,?_⟩
  ·cases l with
   | nil=>simp [swK] at q3
   | cons a l=>rw [List.length_cons];omega
  ·rw [List.drop_one];exact h
 ·have q:zbv t=false:=q;have q2:jcw t=true:=q2;rw [q,q2,q3] at h;exact h
 ·have q:zbv t=false:=q;have q2:jcw t=false:=q2;rw [q,q2] at h;exact h
end Go.Proofs.YtmnegokadegioaaGreatDoor
set_option linter.unusedVariables false
namespace Go.Proofs.YtmnegokadegioaaGreatDoor
open Go.Vm Go.Sx Go.RowKit
theorem JgY {n:Int} (h:-9223372036854775808≤n∧n<9223372036854775808):I64 n:=by unfold I64;omega
def zgJ:zh:=fun t K=>(t.text.length≤10000000∧t.unit.length≤10000000)∧K (jck t)
def JfO (t:Tok):Prop:=t.text.length≤10000000∧t.unit.length≤10000000
theorem Zfz {l:List Tok} {i:Nat} (h:i<l.length):l.getD i (Ze Cd.tok)=l[i]:=by
 show l.getD i (⟨0,[],0,[],false⟩:Tok)=l[i];rw [List.getD_eq_getElem?_getD,List.getElem?_eq_getElem h,Option.getD_some]
theorem JaV {l:List Tok} {i:Nat} (h:i<l.length):l.drop i=l.getD i (Ze Cd.tok)::l.drop (i+1):=by
 have e:=Zfz h;exact (List.drop_eq_getElem_cons h).trans (congrArg (·::l.drop (i+1)) e.symm)
theorem zfP {l:List Tok} (h:∀t∈l,JfO t) {i:Nat} (hi:i<l.length):JfO (l.getD i (Ze Cd.tok)):=by
 have e:=Zfz hi;exact e▸h _ (List.getElem_mem hi)
theorem jfP (l:List Tok) (hl:∀t∈l,JfO t) (hs:l.length≤1500) (Ke:Unit→Prop) (Kr:Int→Prop):∀(n i:Nat),i+n=l.length→(Zcw (l.drop i)=true→Ke ())→(Zcw (l.drop i)=false→Kr 8)→
  zaJ zgJ JgI (n+1) l l (l.length:Int) (i:Int) Ke Kr
 | 0,i,hi,h1,h2=>by
  refine ⟨fun q=>absurd (of_decide_eq_true q) (by omega),fun _=>h1 ?_⟩
  rw [List.drop_of_length_le (by omega)]
  rfl
 | n+1,i,hi,h1,h2=>by
  have hlt:i<l.length:=by omega
  have ht:((i:Int)).toNat=i:=rfl;have ht1:((i:Int)+1).toNat=i+1:=by omega
  have hd:=JaV hlt;have hok:=zfP hl hlt;refine ⟨fun _=>⟨⟨by omega,by omega⟩,⟨hok.1,hok.2⟩,fun q=>⟨JgY (by omega),⟨by omega,by omega⟩,hok.1,fun q2=>?_,fun q2=>⟨JgY (by omega),?_⟩⟩,fun q=>?_⟩,fun q=>absurd (of_decide_eq_false q) (by omega)⟩
  ·rw [ht,ht1] at q2;refine h2 ?_;rw [hd,Zcw];have q2:Zey (l.getD i (Ze Cd.tok)) (l.drop (i+1))=false:=by simpa using q2
   rw [q2];simp
  ·rw [ht,ht1] at q2;rw [ht] at q;have q2:Zey (l.getD i (Ze Cd.tok)) (l.drop (i+1))=true:=by simpa using q2
   have q:jck (l.getD i (Ze Cd.tok))=true:=by simpa using q
   rw [hd,Zcw,q,q2] at h1 h2;exact jfP l hl hs Ke Kr n (i+1) (by omega) (by simpa using h1) (by simpa using h2)
  ·rw [ht] at q;refine h2 ?_;have q:jck (l.getD i (Ze Cd.tok))=false:=by simpa using q
   rw [hd,Zcw,q];rfl
def jgJ:zv:=fun l K=>(∀t∈l,JfO t)∧K (Zf9 l)
theorem ziI (l K) (h:jgJ l K):zbZ zgJ JgI l K:=by
 obtain ⟨hl,h⟩:=h;unfold Zf9 at h;refine ⟨fun q=>?_,fun q=>⟨l.length+1,?_⟩⟩
 ·have q:=of_decide_eq_true q;rw [if_pos (by omega)] at h
  exact h
 ·have q:=of_decide_eq_false q;rw [if_neg (by omega)] at h
  refine jfP l hl (by omega) _ _ l.length 0 (by omega) (fun z=>?_) (fun z=>?_) <;> rw [List.drop_zero] at z <;> rw [z] at h <;> exact h
theorem ZfP (A:jb) (B:zd) (l:List Tok) (hs:l.length≤1500) (Ke:Int→Prop):∀(n i:Nat),i+n=l.length→((l.drop i).any fun t=>decide (t.kind=5))=true→
  Ke ((i:Int)+(((l.drop i).takeWhile fun t=>decide (t.kind≠5)).length:Int))→Jaj A B (n+1) l (i:Int) Ke
 | 0,i,hi,h1,h2=>by rw [List.drop_of_length_le (by omega)] at h1;cases h1
 | n+1,i,hi,h1,h2=>by
  have hlt:i<l.length:=by omega
  have ht:((i:Int)).toNat=i:=rfl;have hd:=JaV hlt;rw [hd] at h1 h2;refine ⟨⟨by omega,by omega⟩,fun q=>⟨JgY (by omega),?_⟩,fun q=>?_⟩
  ·rw [ht] at q;have q':decide ((l.getD i (Ze Cd.tok)).kind=5)=false:=by simpa using q
   rw [List.any_cons,q',Bool.false_or] at h1;rw [List.takeWhile_cons,if_pos q,List.length_cons] at h2;refine ZfP A B l hs Ke n (i+1) (by omega) h1 ?_
   rw [show ((i+1:Nat):Int)+(((l.drop (i+1)).takeWhile fun t=>decide (t.kind≠5)).length:Int)=(i:Int)+((((l.drop (i+1)).takeWhile fun t=>decide (t.kind≠5)).length+1:Nat):Int) from by omega]
   exact h2
  ·rw [ht] at q;rw [List.takeWhile_cons,q] at h2;simpa using h2
end Go.Proofs.YtmnegokadegioaaGreatDoor
set_option linter.unusedVariables false
namespace Go.Proofs.YtmnegokadegioaaGreatDoor
open Go.Vm Go.Sx Go.RowKit
def ZgJ:Jm:=fun l i K=>(0≤i∧i<(l.length:Int)∧l.length≤1500)∧(∀t∈l,JfO t)∧(jcw (l.getD i.toNat (Ze Cd.tok))=true→((l.drop i.toNat).any fun t=>decide (t.kind=5))=true)∧K (i+(zeH (l.drop i.toNat):Int))
theorem JgJ {t:Tok} (h:jcw t=true):t.kind=2:=by
 unfold jcw at h;rw [Bool.and_eq_true] at h;exact of_decide_eq_true h.1
theorem jiI (l i K) (h:ZgJ l i K):za8 ZgI JhA l i K:=by
 obtain ⟨⟨h1,h2,h3⟩,hl,ha,hk⟩:=h;obtain ⟨n,rfl⟩:∃n:Nat,i=n:=⟨i.toNat,by omega⟩
 have ht:((n:Int)).toNat=n:=rfl;have hlt:n<l.length:=by omega
 have hd:=JaV hlt;have hok:=zfP hl hlt;rw [ht] at ha hk;have e:(zeH (l.drop n))=if zbv (l.getD n (Ze Cd.tok)) then 2 else if jcw (l.getD n (Ze Cd.tok)) then 1+((l.drop (n+1)).takeWhile fun t=>decide (t.kind≠5)).length+1 else 1:=by rw [hd];rfl
 rw [e] at hk;refine ⟨⟨h1,h2⟩,fun q=>⟨JgY (by omega),?_⟩,fun q=>⟨⟨h1,h2⟩,hok.1,fun q2=>⟨l.length-n+1,?_⟩,fun q2=>⟨JgY (by omega),?_⟩⟩⟩
 ·have q:zbv (l.getD n (Ze Cd.tok))=true:=q;rw [q] at hk;exact hk
 ·have q:zbv (l.getD n (Ze Cd.tok))=false:=q;have q2:jcw (l.getD n (Ze Cd.tok))=true:=q2;rw [q,q2] at hk;refine ZfP _ _ l h3 _ (l.length-n) n (by omega) (ha q2) ?_
  have hk2:=JgJ q2;have e2:((l.drop n).takeWhile fun t=>decide (t.kind≠5)).length=((l.drop (n+1)).takeWhile fun t=>decide (t.kind≠5)).length+1:=by
   rw [hd,List.takeWhile_cons,if_pos (by rw [hk2];decide),List.length_cons]
  have e3:((l.drop (n+1)).takeWhile fun t=>decide (t.kind≠5)).length≤l.length:=by
   have z:=List.Sublist.length_le (List.takeWhile_sublist (fun t:Tok=>decide (t.kind≠5)) (l:=l.drop (n+1)))
   rw [List.length_drop] at z;omega
  refine ⟨JgY (by omega),?_⟩
  rw [e2];have e4:(n:Int)+((((l.drop (n+1)).takeWhile fun t=>decide (t.kind≠5)).length+1:Nat):Int)+1=(n:Int)+((1+((l.drop (n+1)).takeWhile fun t=>decide (t.kind≠5)).length+1:Nat):Int):=by omega
  rw [e4];exact hk
 ·have q:zbv (l.getD n (Ze Cd.tok))=false:=q;have q2:jcw (l.getD n (Ze Cd.tok))=false:=q2;rw [q,q2] at hk;exact hk
theorem Ze5 (a b:List Tok) (hs:a.length=b.length) (hm:a.length≤1000000) (Ke:Unit→Prop) (Kr:Bool→Prop):∀(n i:Nat),i+n=a.length→(Za4 (a.drop i) (b.drop i)=true→Ke ())→(Za4 (a.drop i) (b.drop i)=false→Kr false)→
  zas (n+1) a b (a.length:Int) (i:Int) Ke Kr
 | 0,i,hi,h1,h2=>by
  refine ⟨fun q=>absurd (of_decide_eq_true q) (by omega),fun _=>h1 ?_⟩
  rw [List.drop_of_length_le (by omega),List.drop_of_length_le (by omega)]
  rfl
 | n+1,i,hi,h1,h2=>by
  have hlt:i<a.length:=by omega
  have hlt2:i<b.length:=by omega
  have ht:((i:Int)).toNat=i:=rfl;rw [JaV hlt,JaV hlt2,Za4] at h1 h2;have key:∀x y:Tok,(decide (x.kind=y.kind)&&((x.text==y.text)&&(decide (x.num=y.num)&&((x.unit==y.unit)&&((x.flag==y.flag)&&true)))))=jab x y:=fun x y=>by
   unfold jab;have e:∀u v:List UInt8,(u==v)=decide (u=v):=fun u v=>by by_cases z:u=v <;> simp [z]
   have e2:∀u v:Bool,(u==v)=decide (u=v):=fun u v=>by by_cases z:u=v <;> simp [z]
   rw [e,e,e2,Bool.and_true]
  refine ⟨fun _=>⟨⟨by omega,by omega⟩,⟨by omega,by omega⟩,fun q=>?_,fun q=>⟨JgY (by omega),?_⟩⟩,fun q=>absurd (of_decide_eq_false q) (by omega)⟩
  ·rw [ht,key] at q;have q:jab (a.getD i (Ze Cd.tok)) (b.getD i (Ze Cd.tok))=false:=by simpa using q
   refine h2 ?_;rw [q];rfl
  ·rw [ht,key] at q;have q:jab (a.getD i (Ze Cd.tok)) (b.getD i (Ze Cd.tok))=true:=by simpa using q
   rw [q,Bool.true_and] at h1 h2;exact Ze5 a b hs hm Ke Kr n (i+1) (by omega) h1 h2
theorem Je5:∀{a b:List Tok},Za4 a b=true→a.length=b.length
 | [],[],_=>rfl
 | x::a,y::b,h=>by
  rw [Za4,Bool.and_eq_true] at h;rw [List.length_cons,List.length_cons,Je5 h.2]
 | [],_::_,h=>by cases h
 | _::_,[],h=>by cases h
def ziC:jT:=fun a b K=>a.length≤1000000∧K (Za4 a b)
theorem Zi9 (a b K) (h:ziC a b K):zbl a b K:=by
 obtain ⟨hm,h⟩:=h;refine ⟨fun q=>?_,fun q=>⟨a.length+1,?_⟩⟩
 ·have q:=of_decide_eq_true q;cases hs:Za4 a b with
  | true=>exact absurd (Je5 hs) (by omega)
  | false=>rw [hs] at h;exact h
 ·have q:=of_decide_eq_false q;refine Ze5 a b (by omega) hm _ _ a.length 0 (by omega) (fun z=>?_) (fun z=>?_) <;> rw [List.drop_zero,List.drop_zero] at z <;> rw [z] at h <;> exact h
end Go.Proofs.YtmnegokadegioaaGreatDoor
set_option linter.unusedVariables false
namespace Go.Proofs.YtmnegokadegioaaGreatDoor
open Go.Vm Go.Sx Go.RowKit
def JiJ:Z0:=fun s c K=>(0≤c∧c<256)∧K (Lib.indexByte s (UInt8.ofNat c.toNat))
def jcH:jc:=fun s c K=>(0≤c∧c<256)∧K (Lib.indexByte s (UInt8.ofNat c.toNat))
theorem ziK (s c K) (h:jcH s c K):zbj JiJ s c K:=h
theorem Jin:∀(s:List UInt8) (c:UInt8),-1≤Lib.indexByte s c
 | [],_=>by simp [Lib.indexByte]
 | d::w,c=>by
  have:=Jin w c;unfold Lib.indexByte;split
  ·omega
  ·split
   ·omega
   ·omega
theorem zio (s:List UInt8) (c:UInt8):0≤Lib.indexByte s c↔c∈s:=by
 induction s with
 | nil=>simp [Lib.indexByte]
 | cons d w ih=>
  have hg:=Jin w c;unfold Lib.indexByte;by_cases q:d=c
  ·subst q;simp
  ·have q1:(d==c)=false:=by simpa using q
   have q2:¬c=d:=fun z=>q z.symm
   simp only [q1,Bool.false_eq_true,if_false,List.mem_cons,q2,false_or];rw [←ih];by_cases z:Lib.indexByte w c = -1
   ·simp [z]
   ·simp only [beq_iff_eq,z,if_false];omega
theorem jio (s:List UInt8) (c:UInt8):decide (Lib.indexByte s c<0) = !s.contains c:=by
 have:=zio s c;by_cases q:c∈s
 ·have z:=this.2 q;rw [decide_eq_false (by omega)]
  simp [q]
 ·have z:¬0≤Lib.indexByte s c:=fun z=>q (this.1 z)
  rw [decide_eq_true (by omega)]
  simp [q]
theorem zez (s:List UInt8) (c:UInt8):decide (0≤Lib.indexByte s c)=s.contains c:=by
 have:=jio s c;by_cases q:0≤Lib.indexByte s c
 ·rw [decide_eq_false (by omega)] at this
  rw [decide_eq_true q];cases h:s.contains c
  ·rw [h] at this;cases this
  ·rfl
 ·rw [decide_eq_true (by omega)] at this
  rw [decide_eq_false q];cases h:s.contains c
  ·rfl
  ·rw [h] at this;cases this
def Jf9:zT:=fun s K=>K (jgI s)
theorem jiK (s K) (h:Jf9 s K):JaT ZaF jd5 Jay jaB jcH s K:=by
 unfold Jf9 at h;unfold JaT ZaF jd5 Jay jaB jcH
 match s,h with
 | [],h=>exact ⟨fun _=>h,fun q=>absurd (of_decide_eq_false q) (by decide)⟩
 | a::b::w,h=>exact ⟨fun _=>h,fun q=>absurd (of_decide_eq_false q) (by simp only [List.length_cons];omega)⟩
 | [b],h=>
  simp only [jgI] at h;have hb:=ze6 b;refine ⟨fun q=>absurd (of_decide_eq_true q) (by simp),fun _=>⟨⟨by omega,by simp⟩,fun q1=>⟨fun q2=>⟨fun q3=>⟨fun q4=>⟨⟨hb.1,by show (b.toNat:Int)<256;omega⟩,?_⟩,fun q4=>?_⟩,fun q3=>?_⟩,fun q2=>?_⟩,fun q1=>?_⟩⟩
  ·dsimp only;rw [jio];rw [show (!mSp (b.toNat:Int))=true from q1,show (!mQ (b.toNat:Int))=true from q2,show (!mN0 (b.toNat:Int))=true from q3,show (!mD (b.toNat:Int))=true from q4] at h
   have e:UInt8.ofNat ((([b]:List UInt8).getD 0 0).toNat:Int).toNat=b:=zhB b;rw [e];exact h
  ·rw [show (!mD (b.toNat:Int))=false from q4] at h
   simpa using h
  ·rw [show (!mN0 (b.toNat:Int))=false from q3] at h
   simpa using h
  ·rw [show (!mQ (b.toNat:Int))=false from q2] at h
   simpa using h
  ·rw [show (!mSp (b.toNat:Int))=false from q1] at h
   simpa using h
end Go.Proofs.YtmnegokadegioaaGreatDoor
set_option linter.unusedVariables false
namespace Go.Proofs.YtmnegokadegioaaGreatDoor
open Go.Vm Go.Sx Go.RowKit
def Zd5:Jj:=fun s K=>K (ZcL s)
theorem jgK (x y:Tok):(decide (x.kind=y.kind)&&((x.text==y.text)&&(decide (x.num=y.num)&&((x.unit==y.unit)&&((x.flag==y.flag)&&true)))))=jab x y:=by
 unfold jab;have e:∀u v:List UInt8,(u==v)=decide (u=v):=fun u v=>by by_cases z:u=v <;> simp [z]
 have e2:∀u v:Bool,(u==v)=decide (u=v):=fun u v=>by by_cases z:u=v <;> simp [z]
 rw [e,e,e2,Bool.and_true]
theorem ZiK (t K) (h:zgJ t K):zad zea jcH JdP Zd5 Jf9 zc2 t K:=by
 obtain ⟨_,h⟩:=h;unfold jck at h;unfold zad zea jcH JdP Zd5 Jf9 zc2;rw [show Tok.mk t.kind t.text t.num t.unit t.flag=t from rfl]
 dsimp only;rw [jgK];refine ⟨fun q=>⟨⟨by omega,by omega⟩,fun q2=>⟨⟨by omega,by omega⟩,fun q3=>?_,fun q3=>?_⟩,fun q2=>?_⟩,fun q=>?_⟩
 ·have q3:t.unit.contains 0=true:=by rw [←zez];exact q3
  have q2:t.text.contains 0=false:=by rw [←zez];exact q2
  rw [q3,q2] at h;simpa using h
 ·have q3:t.unit.contains 0=false:=by rw [←zez];exact q3
  have q2:t.text.contains 0=false:=by rw [←zez];exact q2
  have q:jab t (Jci t)=true:=by simpa using q
  rw [q3,q2,q] at h;simp only [Bool.not_false,Bool.true_and,List.mem_cons,List.not_mem_nil,or_false] at h;simp only [decide_eq_true_eq,decide_eq_false_iff_not];generalize jbP t=a at h ⊢;generalize jgI t.text=b at h ⊢;generalize ZcL t.text=o at h ⊢;have e:∀u:List UInt8,(!(u==[]))=(u != []):=fun u=>rfl
  rw [e,e];generalize (t.text != [])=x at h ⊢;generalize (t.unit != [])=y at h ⊢;generalize t.flag=f at h ⊢;generalize t.kind=k at h ⊢;clear q q2 q3
  repeat' (first|apply And.intro|intro _)
  all_goals first|(subst k;simp_all;done)|(simp_all;done)|skip
 ·have q2:t.text.contains 0=true:=by rw [←zez];exact q2
  rw [q2] at h;simpa using h
 ·have q:jab t (Jci t)=false:=by simpa using q
  rw [q] at h;exact h
end Go.Proofs.YtmnegokadegioaaGreatDoor
set_option linter.unusedVariables false
namespace Go.Proofs.YtmnegokadegioaaGreatDoor
open Go.Vm Go.Sx Go.RowKit
theorem Jga (c:UInt8):UInt8.ofNat (c.toNat:Int).toNat=c:=zhB c
def jeA:zm:=fun s K=>K (swD s)
theorem ZiN (s K) (h:jeA s K):Zbj jaB s K:=by
 cases s with
 | nil=>exact ⟨fun q=>by exact absurd q (by decide),fun _=>h⟩
 | cons c w=>exact ⟨fun _=>⟨⟨by omega,by rw [List.length_cons];omega⟩,h⟩,fun q=>by simp at q⟩
def ze8:Zk:=fun s K=>K (swM s)
theorem JiN (s K) (h:ze8 s K):Jac zgg jeA s K:=by
 unfold ze8 swM at h;unfold Jac zgg;cases s with
 | nil=>exact ⟨fun q=>by exact absurd q (by decide),fun _=>h⟩
 | cons c w=>
  refine ⟨fun q=>⟨⟨by omega,by rw [List.length_cons];omega⟩,?_⟩,fun q=>?_⟩
  ·have e:c=45:=(show (45:UInt8)=c by simpa [List.isPrefixOf] using q).symm
   subst e;exact h
  ·have e:¬(c.toNat:Int)=45:=by
    intro z;have:c=45:=UInt8.toNat_inj.mp (by show c.toNat=45;omega)
    subst this;simp [List.isPrefixOf] at q
   rw [Jd,decide_eq_false e,Bool.false_and] at h;exact h
theorem ziO (s K) (h:Zd5 s K):Ja6 jeA ze8 s K:=by
 unfold Zd5 ZcL at h;refine ⟨fun q=>?_,fun q=>?_⟩
 ·have q:¬s=[45]:=by simpa using q
  rw [if_neg q] at h;refine ⟨fun q2=>?_,fun q2=>⟨fun q3=>?_,fun q3=>?_⟩⟩
  ·rw [if_pos q2] at h;exact h
  ·rw [if_neg (by rw [q2];decide)] at h
   rw [if_pos (by simpa using q3)] at h
   exact h
  ·rw [if_neg (by rw [q2];decide)] at h
   rw [if_neg (by simpa using q3)] at h
   exact h
 ·have q:s=[45]:=by simpa using q
  rw [if_pos q] at h;exact h
def Jea:jk:=fun s l K=>K (asM s l)
theorem Jis (s l K) (h:Jea s l K):ja8 jbI ziC s l K:=by
 unfold Jea asM Jey at h;refine ⟨fun q=>?_,fun q1 q2=>?_,fun q1 q2=>?_⟩
 ·rw [if_pos q] at h;exact ⟨fun z=>by simp at z,fun _=>h⟩
 ·rw [if_neg (by omega),if_neg (by omega)] at h
  exact ⟨fun _=>⟨by rw [List.length_map];omega,h⟩,fun z=>by simp at z⟩
 ·rw [if_neg (by omega),if_pos q2] at h
  exact ⟨fun z=>by simp at z,fun _=>h⟩
end Go.Proofs.YtmnegokadegioaaGreatDoor
