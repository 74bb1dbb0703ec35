/-
 What the texts of tokens stand on, in no shape. Nothing is claimed here.
-/
import Derived.Test.YtmnegokadegioaaGreatDoorHa1
import Derived.Test.YtmnegokadegioaaGreatDoorTj
import Derived.Test.YtmnegokadegioaaGreatDoorTm
set_option linter.unusedVariables false
namespace Go.Proofs.YtmnegokadegioaaGreatDoor
open Go.Vm Go.Sx Go.RowKit
theorem ZeA (u:Nat):(zc8 u).length≤2:=by unfold zc8;split <;> simp
theorem ZbI (c:UInt8):(Zbm c).length≤4:=by
 unfold Zbm;have:=ZeA c.toNat;split <;> simp <;> omega
theorem JcH (e:Int):∀(w:List UInt8) (i:Int),(zaN e i w).length≤4*w.length
 | [],_=>by simp [zaN]
 | c::w,i=>by
  have h1:=JcH e w (i+1);have h2:=ZbI c;simp only [zaN,List.length_append,List.length_cons];split
  ·simp;omega
  ·omega
theorem JeA:∀(w:List UInt8),(Zci w).length≤4*w.length
 | []=>by simp [Zci]
 | c::w=>by
  have h1:=JeA w;have h2:=ZbI c;simp only [Zci,List.length_append,List.length_cons];split
  ·omega
  ·simp;omega
theorem zeB:∀(w:List UInt8),(zcu w).length≤4*w.length
 | []=>by simp [zcu]
 | c::w=>by
  have h1:=zeB w;have h2:=ZbI c;simp only [zcu,List.length_append,List.length_cons];split
  ·omega
  ·simp;omega
theorem JhB {c:Int} (h:0≤c∧c≤255):jdX c 16=true:=by unfold jdX;simp;omega
theorem zhC (c:Int):JaS c 16=zc8 c.toNat:=by unfold JaS;simp
theorem fr3_len:∀k r,(fr3 k r).length≤k
 | 0,_=>Nat.le_refl _
 | k+1,r=>by
  simp only [fr3,List.length_cons];split
  ·simp
  ·have:=fr3_len k (r*10%1000);omega
theorem jeB {a:Nat} (h:a≤1000000000):(Lib.decDigits a).length≤10:=by
 rw [Lib.decDigits_length];have h10:∀k u,u<10^(k+1)→Lib.nDigits u≤k+1:=by
  intro k
  induction k with
  | zero=>intro u hu;rw [Lib.nDigits_small (by simpa using hu)];omega
  | succ k ih=>
   intro u hu;by_cases q:u<10
   ·rw [Lib.nDigits_small q];omega
   ·rw [Lib.nDigits_big q];have:=ih (u / 10) (by rw [Nat.pow_succ] at hu;omega)
    omega
 exact h10 9 a (by omega)
theorem zcI {n:Int} (h:-1000000000000≤n∧n≤1000000000000) (w:Bool):(J3 n w).length≤15:=by
 have h1:=jeB (a:=n.natAbs / 1000) (by omega)
 have h2:=fr3_len 3 (n.natAbs%1000);unfold J3;rw [List.length_append,List.length_append];have h3:(if n<0 then [(45:UInt8)] else []).length≤1:=by split <;> simp
 have h4:(if w then ([]:List UInt8) else 46::fr3 3 (n.natAbs%1000)).length≤4:=by split <;> simp <;> omega
 omega
theorem td {x:Int} {y:Nat} (h:x=(y:Int)) (k:Nat):x.tdiv (k:Int)=((y / k:Nat):Int):=by
 subst h;rw [Int.tdiv_eq_ediv_of_nonneg (by omega)]
 omega
theorem tm {x:Int} {y:Nat} (h:x=(y:Int)) (k:Nat):x.tmod (k:Int)=((y%k:Nat):Int):=by
 subst h;rw [Int.tmod_eq_emod_of_nonneg (by omega)]
 omega
theorem zit {a:Nat} (h:a≤1000000000):jdX (a:Int) 10=true:=by unfold jdX;simp;omega
theorem jit (a:Nat):JaS (a:Int) 10=Lib.decDigits a:=by unfold JaS;simp
def jhk:zo:=fun u K=>u≠[]∧K (JeG u)
theorem jiO (u K) (h:jhk u K):z8 jeA ze8 u K:=by
 obtain ⟨h0,h⟩:=h;unfold JeG mE at h
 match u,h0,h with
 | c::w,_,h=>
  rw [Jd] at h;have hl:(0:Int)<((c::w).length:Int):=by rw [List.length_cons];omega
  have hl1:(1:Int)≤((c::w).length:Int):=by omega
  have tl:K (swD w||swM w)→(0≤(1:Int)∧(1:Int)≤((c::w).length:Int))∧jeA ((c::w).drop 1) (fun y1=>(y1=false→(0≤(1:Int)∧(1:Int)≤((c::w).length:Int))∧ze8 ((c::w).drop 1) (fun y2=>K y2))∧(y1=true→K true)):=by
   intro hk;refine ⟨⟨by omega,hl1⟩,fun q=>⟨⟨by omega,hl1⟩,?_⟩,fun q=>?_⟩
   ·have q:swD w=false:=q;rw [q,Bool.false_or] at hk;exact hk
   ·have q:swD w=true:=q;rw [q,Bool.true_or] at hk;exact hk
  refine ⟨⟨by omega,hl⟩,fun q1=>⟨⟨by omega,hl⟩,fun q2=>?_,fun q2=>?_⟩,fun q1=>?_⟩
  ·have q1:¬(c.toNat:Int)=101:=by simpa using q1
   have q2:¬(c.toNat:Int)=69:=by simpa using q2
   rw [decide_eq_false q1,decide_eq_false q2] at h;exact h
  ·have q2:(c.toNat:Int)=69:=by simpa using q2
   rw [q2] at h;exact tl h
  ·have q1:(c.toNat:Int)=101:=by simpa using q1
   rw [q1] at h;exact tl h
theorem je8 {t:Tok} (h:jck t=true):(1≤t.kind∧t.kind≤24)∧(t.kind≠6∧t.kind≠8)∧(t.kind=10∨t.kind=11∨t.kind=12→-1000000000000≤t.num∧t.num≤1000000000000)∧(t.kind=12→t.unit≠[]):=by
 unfold jck at h;simp only [Bool.and_eq_true] at h;obtain ⟨-,-,-,h⟩:=h;by_cases k1:t.kind∈([1,2,3]:List Int)
 ·simp only [List.mem_cons,List.not_mem_nil,or_false] at k1;refine ⟨by omega,by omega,fun q=>by omega,fun q=>by omega⟩
 rw [if_neg k1] at h;by_cases k4:t.kind=4
 ·refine ⟨by omega,by omega,fun q=>by omega,fun q=>by omega⟩
 rw [if_neg k4] at h;by_cases k9:t.kind=9
 ·refine ⟨by omega,by omega,fun q=>by omega,fun q=>by omega⟩
 rw [if_neg k9] at h;by_cases k10:t.kind=10∨t.kind=11
 ·rw [if_pos k10] at h;unfold jbP at h;simp only [Bool.and_eq_true,decide_eq_true_eq] at h;exact ⟨by omega,by omega,fun _=>⟨h.1,h.2.1⟩,fun q=>by omega⟩
 rw [if_neg k10] at h;by_cases k12:t.kind=12
 ·rw [if_pos k12] at h;unfold jbP at h;simp only [Bool.and_eq_true,decide_eq_true_eq,bne_iff_ne] at h;exact ⟨by omega,by omega,fun _=>⟨h.1.1,h.1.2.1⟩,fun _=>h.2⟩
 rw [if_neg k12] at h;by_cases k6:t.kind=6∨t.kind=8
 ·rw [if_pos k6] at h;cases h
 rw [if_neg k6] at h;simp only [Bool.and_eq_true,decide_eq_true_eq] at h;exact ⟨h,by omega,fun q=>by omega,fun q=>by omega⟩
theorem ZeB (s:List UInt8):(Zaa s).length≤4*s.length:=JcH _ _ _
theorem jgO (s:List UInt8) (f:Bool):(JcG s f).length≤4*s.length+1:=by
 cases f with
 | false=>have:=JcH (-1) s 0;show (35::zaN (-1) 0 s).length≤_;rw [List.length_cons];omega
 | true=>have:=ZeB s;show (35::Zaa s).length≤_;rw [List.length_cons];omega
theorem ZgO (s:List UInt8):(zae s).length≤4*s.length:=by
 unfold zae;cases JeG s with
 | false=>exact ZeB s
 | true=>exact JcH _ _ _
theorem ZfS {t:Tok} (hc:jck t=true) (ht:t.text.length≤1000000) (hu:t.unit.length≤1000000):(tokT t).length≤4000020:=by
 obtain ⟨c1,c2,c3,c4⟩:=je8 hc;have b1:=ZeB t.text;have b2:=ZgO t.unit;have b3:=JeA t.text;have b4:=zeB t.text;have b5:=jgO t.text t.flag;unfold tokT;have key:∀(c:Prop) [Decidable c] (x y:List UInt8),(c→x.length≤4000020)→(¬c→y.length≤4000020)→(if c then x else y).length≤4000020:=by
  intro c _ x y h1 h2;by_cases q:c
  ·rw [if_pos q];exact h1 q
  ·rw [if_neg q];exact h2 q
 refine key _ _ _ (fun q=>by simp) fun _=>key _ _ _ (fun q=>by omega) fun _=>key _ _ _ (fun q=>by simp only [List.length_append,List.length_cons,List.length_nil];omega) fun _=>key _ _ _ (fun q=>by rw [List.length_cons];omega) fun _=>key _ _ _ (fun q=>by omega) fun _=>key _ _ _ (fun q=>by simp only [List.length_append,List.length_cons,List.length_nil];omega) fun _=>key _ _ _ (fun q=>by simp only [List.length_append,List.length_cons,List.length_nil];omega) fun _=>key _ _ _ (fun q=>?_) fun _=>key _ _ _ (fun q=>?_) fun _=>key _ _ _ (fun q=>?_) fun _=>key _ _ _ (fun q=>by omega) fun _=>key _ _ _ (fun q=>by simp) fun _=>key _ _ _ (fun q=>by simp) fun _=>by simp
 ·have:=zcI (c3 (by omega)) t.flag;omega
 ·have:=zcI (c3 (by omega)) (Jaq t.num);simp only [List.length_append,List.length_cons,List.length_nil];omega
 ·have:=zcI (c3 (by omega)) t.flag;rw [List.length_append];omega
end Go.Proofs.YtmnegokadegioaaGreatDoor
set_option linter.unusedVariables false
namespace Go.Proofs.YtmnegokadegioaaGreatDoor
open Go.Vm Go.Sx Go.RowKit
def zaS:zD:=fun c c0_0 b b2 c3_0 c3_1 c4_0 c4_1 c4_2 c4_3 c4_4 c5_0 c5_1 c5_2 c5_3 c5_4 K=>((0≤c∧c≤255)∧b.length≤50000000)∧K c0_0 (b++Zbm (UInt8.ofNat c.toNat)) b2 c3_0 c3_1 c4_0 c4_1 c4_2 c4_3 c4_4 c5_0 c5_1 c5_2 c5_3 c5_4
theorem zhZ (c c0_0 b b2 c3_0 c3_1 c4_0 c4_1 c4_2 c4_3 c4_4 c5_0 c5_1 c5_2 c5_3 c5_4 K) (h:zaS c c0_0 b b2 c3_0 c3_1 c4_0 c4_1 c4_2 c4_3 c4_4 c5_0 c5_1 c5_2 c5_3 c5_4 K):ZgE jaB zd5 c c0_0 b b2 c3_0 c3_1 c4_0 c4_1 c4_2 c4_3 c4_4 c5_0 c5_1 c5_2 c5_3 c5_4 K:=by
 obtain ⟨⟨hc,hb⟩,hk⟩:=h;have hl:=ZeA c.toNat;have ec:(((UInt8.ofNat c.toNat).toNat:Nat):Int)=c:=by rw [UInt8.toNat_ofNat'];omega
 have en:(UInt8.ofNat c.toNat).toNat=c.toNat:=by omega
 unfold Zbm at hk;rw [ec,en] at hk;have fin:¬((33≤c∧c≤126)∧mD c=false∧mL c=false)→(I64 c∧(jdX c (16:Int)=true∧(((b++[UInt8.ofNat 92]).length+(JaS c (16:Int)).length)*1≤1099511627776∧((0≤(32:Int)∧(32:Int)≤255)∧((((b++[UInt8.ofNat 92])++(JaS c (16:Int))).length+[UInt8.ofNat 32].length)*1≤1099511627776∧K c0_0 (((b++[UInt8.ofNat 92])++(JaS c (16:Int)))++[UInt8.ofNat 32]) b2 c3_0 c3_1 c4_0 c4_1 c4_2 c4_3 c4_4 c5_0 c5_1 c5_2 c5_3 c5_4))))):=by
  intro q;rw [if_neg q] at hk;rw [zhC];refine ⟨by unfold I64;omega,JhB hc,by simp;omega,by omega,by simp;omega,?_⟩
  simpa using hk
 refine ⟨by omega,by simp;omega,fun q1=>⟨fun q2=>⟨fun q3=>⟨fun q4=>⟨hc,by simp;omega,?_⟩,fun q4=>?_⟩,fun q3=>?_⟩,fun q2=>?_⟩,fun q1=>?_⟩
 ·have q1:=of_decide_eq_true q1;have q2:=of_decide_eq_true q2;have q3:mD c=false:=by simpa using q3
  have q4:mL c=false:=by simpa using q4
  rw [if_pos ⟨⟨q1,q2⟩,q3,q4⟩] at hk;simpa using hk
 ·exact fin fun z=>by rw [z.2.2] at q4;cases q4
 ·exact fin fun z=>by rw [z.2.1] at q3;cases q3
 ·exact fin fun z=>by have:=of_decide_eq_false q2;omega
 ·exact fin fun z=>by have:=of_decide_eq_false q1;omega
abbrev ZiO:=jaK Jdj zaS
theorem zfB (c0_0:List Tok) (b2:List (Int×Int)) (c3_0:Int) (c3_1:Int) (c4_0:Int) (c4_1:List UInt8) (c4_2:Int) (c4_3:List UInt8) (c4_4:Bool) (c5_0:Int) (c5_1:List UInt8) (c5_2:Int) (c5_3:List UInt8) (c5_4:Bool) (s:List UInt8) (hs:s.length≤1000000) (e:Int) (Ke:(List Tok→List UInt8→List (Int×Int)→Int→Int→Int→List UInt8→Int→List UInt8→Bool→Int→List UInt8→Int→List UInt8→Bool→Prop)):∀(w:List UInt8) (i:Int) (b:List UInt8),s.drop i.toNat=w→0≤i→i≤s.length→b.length+4*w.length≤48000000→
  Ke c0_0 (b++zaN e i w) b2 c3_0 c3_1 c4_0 c4_1 c4_2 c4_3 c4_4 c5_0 c5_1 c5_2 c5_3 c5_4→∃m,ZiO m s e (s.length:Int) i c0_0 b b2 c3_0 c3_1 c4_0 c4_1 c4_2 c4_3 c4_4 c5_0 c5_1 c5_2 c5_3 c5_4 Ke
 | [],i,b,hw,hi,hil,hb,h=>by
  have:=zQ hw;refine ⟨1,?_⟩;simp only [jaK];refine ⟨fun q=>?_,fun _=>?_⟩
  ·have:=of_decide_eq_true q;omega
  ·simpa [zaN] using h
 | c::w,i,b,hw,hi,hil,hb,h=>by
  obtain ⟨h1,h2,h3,_⟩:=zw hi hw;rw [List.length_cons] at hb;have hin:=ze6 c;have hel:=ZbI c;have hlt:¬decide (i<(s.length:Int))=false:=by simp;omega
  simp only [zaN] at h;by_cases q:i≠e∧mN (c.toNat:Int)=true
  ·rw [if_pos q] at h;obtain ⟨m,hm⟩:=zfB c0_0 b2 c3_0 c3_1 c4_0 c4_1 c4_2 c4_3 c4_4 c5_0 c5_1 c5_2 c5_3 c5_4 s hs e Ke w (i+1) (b++[c]) h3 (by omega) (by omega) (by simp;omega) (by simpa using h)
   refine ⟨m+1,?_⟩;simp only [jaK];refine ⟨fun _=>⟨fun _=>⟨⟨hi,h1⟩,?_⟩,fun z=>absurd (of_decide_eq_false z) (by simpa using q.1)⟩,fun z=>absurd z hlt⟩
   rw [h2,Jga];refine ⟨fun _=>⟨⟨hi,h1⟩,hin,by simp;omega,by unfold I64;omega,hm⟩,fun z=>?_⟩
   rw [q.2] at z;cases z
  ·rw [if_neg q] at h;obtain ⟨m,hm⟩:=zfB c0_0 b2 c3_0 c3_1 c4_0 c4_1 c4_2 c4_3 c4_4 c5_0 c5_1 c5_2 c5_3 c5_4 s hs e Ke w (i+1) (b++Zbm c) h3 (by omega) (by omega) (by rw [List.length_append];omega) (by rw [List.append_assoc];exact h)
   refine ⟨m+1,?_⟩;simp only [jaK];have esc:∀k:(List Tok→List UInt8→List (Int×Int)→Int→Int→Int→List UInt8→Int→List UInt8→Bool→Int→List UInt8→Int→List UInt8→Bool→Prop),k c0_0 (b++Zbm c) b2 c3_0 c3_1 c4_0 c4_1 c4_2 c4_3 c4_4 c5_0 c5_1 c5_2 c5_3 c5_4→zaS (c.toNat:Int) c0_0 b b2 c3_0 c3_1 c4_0 c4_1 c4_2 c4_3 c4_4 c5_0 c5_1 c5_2 c5_3 c5_4 k:=by
    intro k hk;refine ⟨⟨hin,by omega⟩,?_⟩
    rw [Jga];exact hk
   refine ⟨fun _=>⟨fun z=>⟨⟨hi,h1⟩,?_⟩,fun z=>⟨⟨hi,h1⟩,?_⟩⟩,fun z=>absurd z hlt⟩
   ·rw [h2];refine ⟨fun z2=>absurd ⟨of_decide_eq_true z,z2⟩ q,fun _=>⟨⟨hi,h1⟩,esc _ ⟨by unfold I64;omega,hm⟩⟩⟩
   ·rw [h2];exact esc _ ⟨by unfold I64;omega,hm⟩
def zc3:JbK:=fun s e c0_0 b b2 c3_0 c3_1 c4_0 c4_1 c4_2 c4_3 c4_4 c5_0 c5_1 c5_2 c5_3 c5_4 K=>(s.length≤1000000∧b.length≤40000000)∧K c0_0 (b++zaN e 0 s) b2 c3_0 c3_1 c4_0 c4_1 c4_2 c4_3 c4_4 c5_0 c5_1 c5_2 c5_3 c5_4
theorem jhZ (s e c0_0 b b2 c3_0 c3_1 c4_0 c4_1 c4_2 c4_3 c4_4 c5_0 c5_1 c5_2 c5_3 c5_4 K) (h:zc3 s e c0_0 b b2 c3_0 c3_1 c4_0 c4_1 c4_2 c4_3 c4_4 c5_0 c5_1 c5_2 c5_3 c5_4 K):JgF Jdj zaS s e c0_0 b b2 c3_0 c3_1 c4_0 c4_1 c4_2 c4_3 c4_4 c5_0 c5_1 c5_2 c5_3 c5_4 K:=
 zfB c0_0 b2 c3_0 c3_1 c4_0 c4_1 c4_2 c4_3 c4_4 c5_0 c5_1 c5_2 c5_3 c5_4 s h.1.1 e K s 0 b rfl (by omega) (by omega) (by have:=h.1;omega) h.2
def jc3:zbL:=fun s c0_0 b b2 c3_0 c3_1 c4_0 c4_1 c4_2 c4_3 c4_4 c5_0 c5_1 c5_2 c5_3 c5_4 K=>(s.length≤1000000∧b.length≤40000000)∧K c0_0 (b++Zaa s) b2 c3_0 c3_1 c4_0 c4_1 c4_2 c4_3 c4_4 c5_0 c5_1 c5_2 c5_3 c5_4
theorem ZhZ (s c0_0 b b2 c3_0 c3_1 c4_0 c4_1 c4_2 c4_3 c4_4 c5_0 c5_1 c5_2 c5_3 c5_4 K) (h:jc3 s c0_0 b b2 c3_0 c3_1 c4_0 c4_1 c4_2 c4_3 c4_4 c5_0 c5_1 c5_2 c5_3 c5_4 K):zgG Zd5 zc3 s c0_0 b b2 c3_0 c3_1 c4_0 c4_1 c4_2 c4_3 c4_4 c5_0 c5_1 c5_2 c5_3 c5_4 K:=h
def Zc3:Ja8:=fun c c0_0 b b2 c3_0 c3_1 c4_0 c4_1 c4_2 c4_3 c4_4 c5_0 c5_1 c5_2 c5_3 c5_4 c6_0 c6_1 c6_2 c6_3 c6_4 K=>((0≤c∧c≤255)∧b.length≤50000000)∧K c0_0 (b++Zbm (UInt8.ofNat c.toNat)) b2 c3_0 c3_1 c4_0 c4_1 c4_2 c4_3 c4_4 c5_0 c5_1 c5_2 c5_3 c5_4 c6_0 c6_1 c6_2 c6_3 c6_4
theorem JhZ (c c0_0 b b2 c3_0 c3_1 c4_0 c4_1 c4_2 c4_3 c4_4 c5_0 c5_1 c5_2 c5_3 c5_4 c6_0 c6_1 c6_2 c6_3 c6_4 K) (h:Zc3 c c0_0 b b2 c3_0 c3_1 c4_0 c4_1 c4_2 c4_3 c4_4 c5_0 c5_1 c5_2 c5_3 c5_4 c6_0 c6_1 c6_2 c6_3 c6_4 K):jgG jaB zd5 c c0_0 b b2 c3_0 c3_1 c4_0 c4_1 c4_2 c4_3 c4_4 c5_0 c5_1 c5_2 c5_3 c5_4 c6_0 c6_1 c6_2 c6_3 c6_4 K:=by
 obtain ⟨⟨hc,hb⟩,hk⟩:=h;have hl:=ZeA c.toNat;have ec:(((UInt8.ofNat c.toNat).toNat:Nat):Int)=c:=by rw [UInt8.toNat_ofNat'];omega
 have en:(UInt8.ofNat c.toNat).toNat=c.toNat:=by omega
 unfold Zbm at hk;rw [ec,en] at hk;have fin:¬((33≤c∧c≤126)∧mD c=false∧mL c=false)→(I64 c∧(jdX c (16:Int)=true∧(((b++[UInt8.ofNat 92]).length+(JaS c (16:Int)).length)*1≤1099511627776∧((0≤(32:Int)∧(32:Int)≤255)∧((((b++[UInt8.ofNat 92])++(JaS c (16:Int))).length+[UInt8.ofNat 32].length)*1≤1099511627776∧K c0_0 (((b++[UInt8.ofNat 92])++(JaS c (16:Int)))++[UInt8.ofNat 32]) b2 c3_0 c3_1 c4_0 c4_1 c4_2 c4_3 c4_4 c5_0 c5_1 c5_2 c5_3 c5_4 c6_0 c6_1 c6_2 c6_3 c6_4))))):=by
  intro q;rw [if_neg q] at hk;rw [zhC];refine ⟨by unfold I64;omega,JhB hc,by simp;omega,by omega,by simp;omega,?_⟩
  simpa using hk
 refine ⟨by omega,by simp;omega,fun q1=>⟨fun q2=>⟨fun q3=>⟨fun q4=>⟨hc,by simp;omega,?_⟩,fun q4=>?_⟩,fun q3=>?_⟩,fun q2=>?_⟩,fun q1=>?_⟩
 ·have q1:=of_decide_eq_true q1;have q2:=of_decide_eq_true q2;have q3:mD c=false:=by simpa using q3
  have q4:mL c=false:=by simpa using q4
  rw [if_pos ⟨⟨q1,q2⟩,q3,q4⟩] at hk;simpa using hk
 ·exact fin fun z=>by rw [z.2.2] at q4;cases q4
 ·exact fin fun z=>by rw [z.2.1] at q3;cases q3
 ·exact fin fun z=>by have:=of_decide_eq_false q2;omega
 ·exact fin fun z=>by have:=of_decide_eq_false q1;omega
abbrev JiO:=ZaK Jdj Zc3
theorem jfB (c0_0:List Tok) (b2:List (Int×Int)) (c3_0:Int) (c3_1:Int) (c4_0:Int) (c4_1:List UInt8) (c4_2:Int) (c4_3:List UInt8) (c4_4:Bool) (c5_0:Int) (c5_1:List UInt8) (c5_2:Int) (c5_3:List UInt8) (c5_4:Bool) (c6_0:Int) (c6_1:List UInt8) (c6_2:Int) (c6_3:List UInt8) (c6_4:Bool) (s:List UInt8) (hs:s.length≤1000000) (e:Int) (Ke:(List Tok→List UInt8→List (Int×Int)→Int→Int→Int→List UInt8→Int→List UInt8→Bool→Int→List UInt8→Int→List UInt8→Bool→Int→List UInt8→Int→List UInt8→Bool→Prop)):∀(w:List UInt8) (i:Int) (b:List UInt8),s.drop i.toNat=w→0≤i→i≤s.length→b.length+4*w.length≤48000000→
  Ke c0_0 (b++zaN e i w) b2 c3_0 c3_1 c4_0 c4_1 c4_2 c4_3 c4_4 c5_0 c5_1 c5_2 c5_3 c5_4 c6_0 c6_1 c6_2 c6_3 c6_4→∃m,JiO m s e (s.length:Int) i c0_0 b b2 c3_0 c3_1 c4_0 c4_1 c4_2 c4_3 c4_4 c5_0 c5_1 c5_2 c5_3 c5_4 c6_0 c6_1 c6_2 c6_3 c6_4 Ke
 | [],i,b,hw,hi,hil,hb,h=>by
  have:=zQ hw;refine ⟨1,?_⟩;simp only [ZaK];refine ⟨fun q=>?_,fun _=>?_⟩
  ·have:=of_decide_eq_true q;omega
  ·simpa [zaN] using h
 | c::w,i,b,hw,hi,hil,hb,h=>by
  obtain ⟨h1,h2,h3,_⟩:=zw hi hw;rw [List.length_cons] at hb;have hin:=ze6 c;have hel:=ZbI c;have hlt:¬decide (i<(s.length:Int))=false:=by simp;omega
  simp only [zaN] at h;by_cases q:i≠e∧mN (c.toNat:Int)=true
  ·rw [if_pos q] at h;obtain ⟨m,hm⟩:=jfB c0_0 b2 c3_0 c3_1 c4_0 c4_1 c4_2 c4_3 c4_4 c5_0 c5_1 c5_2 c5_3 c5_4 c6_0 c6_1 c6_2 c6_3 c6_4 s hs e Ke w (i+1) (b++[c]) h3 (by omega) (by omega) (by simp;omega) (by simpa using h)
   refine ⟨m+1,?_⟩;simp only [ZaK];refine ⟨fun _=>⟨fun _=>⟨⟨hi,h1⟩,?_⟩,fun z=>absurd (of_decide_eq_false z) (by simpa using q.1)⟩,fun z=>absurd z hlt⟩
   rw [h2,Jga];refine ⟨fun _=>⟨⟨hi,h1⟩,hin,by simp;omega,by unfold I64;omega,hm⟩,fun z=>?_⟩
   rw [q.2] at z;cases z
  ·rw [if_neg q] at h;obtain ⟨m,hm⟩:=jfB c0_0 b2 c3_0 c3_1 c4_0 c4_1 c4_2 c4_3 c4_4 c5_0 c5_1 c5_2 c5_3 c5_4 c6_0 c6_1 c6_2 c6_3 c6_4 s hs e Ke w (i+1) (b++Zbm c) h3 (by omega) (by omega) (by rw [List.length_append];omega) (by rw [List.append_assoc];exact h)
   refine ⟨m+1,?_⟩;simp only [ZaK];have esc:∀k:(List Tok→List UInt8→List (Int×Int)→Int→Int→Int→List UInt8→Int→List UInt8→Bool→Int→List UInt8→Int→List UInt8→Bool→Int→List UInt8→Int→List UInt8→Bool→Prop),k c0_0 (b++Zbm c) b2 c3_0 c3_1 c4_0 c4_1 c4_2 c4_3 c4_4 c5_0 c5_1 c5_2 c5_3 c5_4 c6_0 c6_1 c6_2 c6_3 c6_4→Zc3 (c.toNat:Int) c0_0 b b2 c3_0 c3_1 c4_0 c4_1 c4_2 c4_3 c4_4 c5_0 c5_1 c5_2 c5_3 c5_4 c6_0 c6_1 c6_2 c6_3 c6_4 k:=by
    intro k hk;refine ⟨⟨hin,by omega⟩,?_⟩
    rw [Jga];exact hk
   refine ⟨fun _=>⟨fun z=>⟨⟨hi,h1⟩,?_⟩,fun z=>⟨⟨hi,h1⟩,?_⟩⟩,fun z=>absurd z hlt⟩
   ·rw [h2];refine ⟨fun z2=>absurd ⟨of_decide_eq_true z,z2⟩ q,fun _=>⟨⟨hi,h1⟩,esc _ ⟨by unfold I64;omega,hm⟩⟩⟩
   ·rw [h2];exact esc _ ⟨by unfold I64;omega,hm⟩
def Jc3:jbL:=fun s e c0_0 b b2 c3_0 c3_1 c4_0 c4_1 c4_2 c4_3 c4_4 c5_0 c5_1 c5_2 c5_3 c5_4 c6_0 c6_1 c6_2 c6_3 c6_4 K=>(s.length≤1000000∧b.length≤40000000)∧K c0_0 (b++zaN e 0 s) b2 c3_0 c3_1 c4_0 c4_1 c4_2 c4_3 c4_4 c5_0 c5_1 c5_2 c5_3 c5_4 c6_0 c6_1 c6_2 c6_3 c6_4
theorem zh0 (s e c0_0 b b2 c3_0 c3_1 c4_0 c4_1 c4_2 c4_3 c4_4 c5_0 c5_1 c5_2 c5_3 c5_4 c6_0 c6_1 c6_2 c6_3 c6_4 K) (h:Jc3 s e c0_0 b b2 c3_0 c3_1 c4_0 c4_1 c4_2 c4_3 c4_4 c5_0 c5_1 c5_2 c5_3 c5_4 c6_0 c6_1 c6_2 c6_3 c6_4 K):ZgH Jdj Zc3 s e c0_0 b b2 c3_0 c3_1 c4_0 c4_1 c4_2 c4_3 c4_4 c5_0 c5_1 c5_2 c5_3 c5_4 c6_0 c6_1 c6_2 c6_3 c6_4 K:=
 jfB c0_0 b2 c3_0 c3_1 c4_0 c4_1 c4_2 c4_3 c4_4 c5_0 c5_1 c5_2 c5_3 c5_4 c6_0 c6_1 c6_2 c6_3 c6_4 s h.1.1 e K s 0 b rfl (by omega) (by omega) (by have:=h.1;omega) h.2
def JeB:JdL:=fun s c0_0 b b2 c3_0 c3_1 c4_0 c4_1 c4_2 c4_3 c4_4 c5_0 c5_1 c5_2 c5_3 c5_4 c6_0 c6_1 c6_2 c6_3 c6_4 K=>(s.length≤1000000∧b.length≤40000000)∧K c0_0 (b++Zaa s) b2 c3_0 c3_1 c4_0 c4_1 c4_2 c4_3 c4_4 c5_0 c5_1 c5_2 c5_3 c5_4 c6_0 c6_1 c6_2 c6_3 c6_4
theorem jh0 (s c0_0 b b2 c3_0 c3_1 c4_0 c4_1 c4_2 c4_3 c4_4 c5_0 c5_1 c5_2 c5_3 c5_4 c6_0 c6_1 c6_2 c6_3 c6_4 K) (h:JeB s c0_0 b b2 c3_0 c3_1 c4_0 c4_1 c4_2 c4_3 c4_4 c5_0 c5_1 c5_2 c5_3 c5_4 c6_0 c6_1 c6_2 c6_3 c6_4 K):JgH Zd5 Jc3 s c0_0 b b2 c3_0 c3_1 c4_0 c4_1 c4_2 c4_3 c4_4 c5_0 c5_1 c5_2 c5_3 c5_4 c6_0 c6_1 c6_2 c6_3 c6_4 K:=h
abbrev ziP:=jo jcH zaS
theorem ZfB (c0_0:List Tok) (b2:List (Int×Int)) (c3_0:Int) (c3_1:Int) (c4_0:Int) (c4_1:List UInt8) (c4_2:Int) (c4_3:List UInt8) (c4_4:Bool) (c5_0:Int) (c5_1:List UInt8) (c5_2:Int) (c5_3:List UInt8) (c5_4:Bool) (s:List UInt8) (hs:s.length≤1000000) (Ke:(List Tok→List UInt8→List (Int×Int)→Int→Int→Int→List UInt8→Int→List UInt8→Bool→Int→List UInt8→Int→List UInt8→Bool→Prop)):∀(w:List UInt8) (i:Int) (b:List UInt8),s.drop i.toNat=w→0≤i→i≤s.length→b.length+4*w.length≤48000000→
  Ke c0_0 (b++Zci w) b2 c3_0 c3_1 c4_0 c4_1 c4_2 c4_3 c4_4 c5_0 c5_1 c5_2 c5_3 c5_4→∃m,ziP m s (s.length:Int) i c0_0 b b2 c3_0 c3_1 c4_0 c4_1 c4_2 c4_3 c4_4 c5_0 c5_1 c5_2 c5_3 c5_4 Ke
 | [],i,b,hw,hi,hil,hb,h=>by
  have:=zQ hw;refine ⟨1,?_⟩;simp only [jo];refine ⟨fun q=>?_,fun _=>?_⟩
  ·have:=of_decide_eq_true q;omega
  ·simpa [Zci] using h
 | c::w,i,b,hw,hi,hil,hb,h=>by
  obtain ⟨h1,h2,h3,_⟩:=zw hi hw;rw [List.length_cons] at hb;have hin:=ze6 c;have hel:=ZbI c;have hlt:¬decide (i<(s.length:Int))=false:=by simp;omega
  simp only [Zci] at h;by_cases q:c∈([10,12,13,34,92]:List UInt8)
  ·rw [if_pos q] at h;obtain ⟨m,hm⟩:=ZfB c0_0 b2 c3_0 c3_1 c4_0 c4_1 c4_2 c4_3 c4_4 c5_0 c5_1 c5_2 c5_3 c5_4 s hs Ke w (i+1) (b++Zbm c) h3 (by omega) (by omega) (by rw [List.length_append];omega) (by rw [List.append_assoc];exact h)
   refine ⟨m+1,?_⟩;simp only [jo];rw [h2];refine ⟨fun _=>⟨⟨hi,h1⟩,⟨hin.1,by omega⟩,fun _=>⟨⟨hi,h1⟩,⟨hin,by omega⟩,?_⟩,fun z=>?_⟩,fun z=>absurd z hlt⟩
   ·rw [Jga];exact ⟨by unfold I64;omega,hm⟩
   ·rw [Jga,zez] at z;rw [List.contains_iff_mem.2 q] at z;cases z
  ·rw [if_neg q] at h;obtain ⟨m,hm⟩:=ZfB c0_0 b2 c3_0 c3_1 c4_0 c4_1 c4_2 c4_3 c4_4 c5_0 c5_1 c5_2 c5_3 c5_4 s hs Ke w (i+1) (b++[c]) h3 (by omega) (by omega) (by simp;omega) (by simpa using h)
   refine ⟨m+1,?_⟩;simp only [jo];rw [h2];refine ⟨fun _=>⟨⟨hi,h1⟩,⟨hin.1,by omega⟩,fun z=>?_,fun _=>⟨⟨hi,h1⟩,hin,by simp;omega,by unfold I64;omega,?_⟩⟩,fun z=>absurd z hlt⟩
   ·rw [Jga,zez] at z;exact absurd (List.contains_iff_mem.1 z) q
   ·rw [Jga];exact hm
def zeC:zy:=fun s c0_0 b b2 c3_0 c3_1 c4_0 c4_1 c4_2 c4_3 c4_4 c5_0 c5_1 c5_2 c5_3 c5_4 K=>(s.length≤1000000∧b.length≤40000000)∧K c0_0 (b++34::(Zci s++[34])) b2 c3_0 c3_1 c4_0 c4_1 c4_2 c4_3 c4_4 c5_0 c5_1 c5_2 c5_3 c5_4
theorem Zh0 (s c0_0 b b2 c3_0 c3_1 c4_0 c4_1 c4_2 c4_3 c4_4 c5_0 c5_1 c5_2 c5_3 c5_4 K) (h:zeC s c0_0 b b2 c3_0 c3_1 c4_0 c4_1 c4_2 c4_3 c4_4 c5_0 c5_1 c5_2 c5_3 c5_4 K):zao jcH zaS s c0_0 b b2 c3_0 c3_1 c4_0 c4_1 c4_2 c4_3 c4_4 c5_0 c5_1 c5_2 c5_3 c5_4 K:=by
 obtain ⟨⟨h1,h2⟩,h⟩:=h;have hl:=JeA s;refine ⟨by omega,by simp;omega,ZfB c0_0 b2 c3_0 c3_1 c4_0 c4_1 c4_2 c4_3 c4_4 c5_0 c5_1 c5_2 c5_3 c5_4 s h1 _ s 0 (b++[34]) rfl (by omega) (by omega) (by simp;omega) ⟨by omega,by simp;omega,?_⟩⟩
 rw [List.append_assoc,List.append_assoc];exact h
abbrev jiP:=Jp jcH zaS
theorem JfB (c0_0:List Tok) (b2:List (Int×Int)) (c3_0:Int) (c3_1:Int) (c4_0:Int) (c4_1:List UInt8) (c4_2:Int) (c4_3:List UInt8) (c4_4:Bool) (c5_0:Int) (c5_1:List UInt8) (c5_2:Int) (c5_3:List UInt8) (c5_4:Bool) (s:List UInt8) (hs:s.length≤1000000) (Ke:(List Tok→List UInt8→List (Int×Int)→Int→Int→Int→List UInt8→Int→List UInt8→Bool→Int→List UInt8→Int→List UInt8→Bool→Prop)):∀(w:List UInt8) (i:Int) (b:List UInt8),s.drop i.toNat=w→0≤i→i≤s.length→b.length+4*w.length≤48000000→
  Ke c0_0 (b++zcu w) b2 c3_0 c3_1 c4_0 c4_1 c4_2 c4_3 c4_4 c5_0 c5_1 c5_2 c5_3 c5_4→∃m,jiP m s (s.length:Int) i c0_0 b b2 c3_0 c3_1 c4_0 c4_1 c4_2 c4_3 c4_4 c5_0 c5_1 c5_2 c5_3 c5_4 Ke
 | [],i,b,hw,hi,hil,hb,h=>by
  have:=zQ hw;refine ⟨1,?_⟩;simp only [Jp];refine ⟨fun q=>?_,fun _=>?_⟩
  ·have:=of_decide_eq_true q;omega
  ·simpa [zcu] using h
 | c::w,i,b,hw,hi,hil,hb,h=>by
  obtain ⟨h1,h2,h3,_⟩:=zw hi hw;rw [List.length_cons] at hb;have hin:=ze6 c;have hel:=ZbI c;have hlt:¬decide (i<(s.length:Int))=false:=by simp;omega
  simp only [zcu] at h;by_cases q:c.toNat≤32∨c∈([34,39,40,41,92,127]:List UInt8)
  ·rw [if_pos q] at h;obtain ⟨m,hm⟩:=JfB c0_0 b2 c3_0 c3_1 c4_0 c4_1 c4_2 c4_3 c4_4 c5_0 c5_1 c5_2 c5_3 c5_4 s hs Ke w (i+1) (b++Zbm c) h3 (by omega) (by omega) (by rw [List.length_append];omega) (by rw [List.append_assoc];exact h)
   refine ⟨m+1,?_⟩;simp only [Jp];rw [h2];have esc:∀k:(List Tok→List UInt8→List (Int×Int)→Int→Int→Int→List UInt8→Int→List UInt8→Bool→Int→List UInt8→Int→List UInt8→Bool→Prop),k c0_0 (b++Zbm c) b2 c3_0 c3_1 c4_0 c4_1 c4_2 c4_3 c4_4 c5_0 c5_1 c5_2 c5_3 c5_4→zaS (c.toNat:Int) c0_0 b b2 c3_0 c3_1 c4_0 c4_1 c4_2 c4_3 c4_4 c5_0 c5_1 c5_2 c5_3 c5_4 k:=by
    intro k hk;refine ⟨⟨hin,by omega⟩,?_⟩
    rw [Jga];exact hk
   refine ⟨fun _=>⟨⟨hi,h1⟩,fun z1=>⟨⟨hi,h1⟩,⟨hin.1,by omega⟩,fun _=>⟨⟨hi,h1⟩,esc _ ⟨by unfold I64;omega,hm⟩⟩,fun z=>?_⟩,fun _=>⟨⟨hi,h1⟩,esc _ ⟨by unfold I64;omega,hm⟩⟩⟩,fun z=>absurd z hlt⟩
   rw [Jga,zez] at z;have z1:=of_decide_eq_false z1;rw [List.contains_iff_mem.2 (q.resolve_left (by omega))] at z
   cases z
  ·rw [if_neg q] at h;obtain ⟨m,hm⟩:=JfB c0_0 b2 c3_0 c3_1 c4_0 c4_1 c4_2 c4_3 c4_4 c5_0 c5_1 c5_2 c5_3 c5_4 s hs Ke w (i+1) (b++[c]) h3 (by omega) (by omega) (by simp;omega) (by simpa using h)
   refine ⟨m+1,?_⟩;simp only [Jp];rw [h2];refine ⟨fun _=>⟨⟨hi,h1⟩,fun z1=>⟨⟨hi,h1⟩,⟨hin.1,by omega⟩,fun z=>?_,fun _=>⟨⟨hi,h1⟩,hin,by simp;omega,by unfold I64;omega,?_⟩⟩,fun z1=>?_⟩,fun z=>absurd z hlt⟩
   ·rw [Jga,zez] at z;exact absurd (Or.inr (List.contains_iff_mem.1 z)) q
   ·rw [Jga];exact hm
   ·have:=of_decide_eq_true z1;exact absurd (Or.inl (by omega)) q
def jeC:zH:=fun s c0_0 b b2 c3_0 c3_1 c4_0 c4_1 c4_2 c4_3 c4_4 c5_0 c5_1 c5_2 c5_3 c5_4 K=>(s.length≤1000000∧b.length≤40000000)∧K c0_0 (b++([117,114,108,40]++(zcu s++[41]))) b2 c3_0 c3_1 c4_0 c4_1 c4_2 c4_3 c4_4 c5_0 c5_1 c5_2 c5_3 c5_4
theorem Jh0 (s c0_0 b b2 c3_0 c3_1 c4_0 c4_1 c4_2 c4_3 c4_4 c5_0 c5_1 c5_2 c5_3 c5_4 K) (h:jeC s c0_0 b b2 c3_0 c3_1 c4_0 c4_1 c4_2 c4_3 c4_4 c5_0 c5_1 c5_2 c5_3 c5_4 K):jaL jcH zaS s c0_0 b b2 c3_0 c3_1 c4_0 c4_1 c4_2 c4_3 c4_4 c5_0 c5_1 c5_2 c5_3 c5_4 K:=by
 obtain ⟨⟨h1,h2⟩,h⟩:=h;have hl:=zeB s;refine ⟨by simp;omega,JfB c0_0 b2 c3_0 c3_1 c4_0 c4_1 c4_2 c4_3 c4_4 c5_0 c5_1 c5_2 c5_3 c5_4 s h1 _ s 0 (b++[117,114,108,40]) rfl (by omega) (by omega) (by simp;omega) ⟨by omega,by simp;omega,?_⟩⟩
 rw [List.append_assoc,List.append_assoc];exact h
theorem zh1 (c0_0:List Tok) (b2:List (Int×Int)) (c3_0:Int) (c3_1:Int) (c4_0:Int) (c4_1:List UInt8) (c4_2:Int) (c4_3:List UInt8) (c4_4:Bool) (c5_0:Int) (c5_1:List UInt8) (c5_2:Int) (c5_3:List UInt8) (c5_4:Bool) (Kr:(List Tok→List UInt8→List (Int×Int)→Int→Int→Int→List UInt8→Int→List UInt8→Bool→Int→List UInt8→Int→List UInt8→Bool→Prop)) :
  ∀(k r:Nat) (b:List UInt8),r<1000→r*10^(k+1)%1000=0→b.length+k≤48000000→Kr c0_0 (b++fr3 (k+1) r) b2 c3_0 c3_1 c4_0 c4_1 c4_2 c4_3 c4_4 c5_0 c5_1 c5_2 c5_3 c5_4→∃m,Zj m (r:Int) c0_0 b b2 c3_0 c3_1 c4_0 c4_1 c4_2 c4_3 c4_4 c5_0 c5_1 c5_2 c5_3 c5_4 Kr:=by
 intro k
 induction k with
 | zero=>
  intro r b hr hz hb hk;have e1:=td (x:=(r:Int)*10) (y:=r*10) (by omega) 1000
  have e2:=tm (x:=(r:Int)*10) (y:=r*10) (by omega) 1000
  rw [Nat.zero_add,Nat.pow_one] at hz;refine ⟨1,?_⟩;simp only [Zj];rw [show ((1000:Nat):Int)=1000 from rfl] at e1 e2
  rw [e1,e2];have q1:IntKind.u8.wrap ((r*10 / 1000:Nat):Int)=((r*10 / 1000:Nat):Int):=w8' (by omega) (by omega)
  have q2:IntKind.u8.wrap ((48:Int)+((r*10 / 1000:Nat):Int))=((48+r*10 / 1000:Nat):Int):=by rw [w8' (by omega) (by omega)];omega
  rw [q1,q2];have q3:(((48+r*10 / 1000:Nat):Int)).toNat=48+r*10 / 1000:=by omega
  rw [q3];simp only [fr3,hz,if_true] at hk;refine ⟨by unfold I64;omega,by decide,by unfold I64;omega,by omega,by simp;omega,by decide,fun _=>hk,fun q=>?_⟩
  exfalso;have:=of_decide_eq_false q;omega
 | succ k ih=>
  intro r b hr hz hb hk;have e1:=td (x:=(r:Int)*10) (y:=r*10) (by omega) 1000
  have e2:=tm (x:=(r:Int)*10) (y:=r*10) (by omega) 1000
  rw [show ((1000:Nat):Int)=1000 from rfl] at e1 e2
  have q1:IntKind.u8.wrap ((r*10 / 1000:Nat):Int)=((r*10 / 1000:Nat):Int):=w8' (by omega) (by omega)
  have q2:IntKind.u8.wrap ((48:Int)+((r*10 / 1000:Nat):Int))=((48+r*10 / 1000:Nat):Int):=by rw [w8' (by omega) (by omega)];omega
  have q3:(((48+r*10 / 1000:Nat):Int)).toNat=48+r*10 / 1000:=by omega
  have fin:∀m,(r*10%1000≠0→Zj m ((r*10%1000:Nat):Int) c0_0 (b++[UInt8.ofNat (48+r*10 / 1000)]) b2 c3_0 c3_1 c4_0 c4_1 c4_2 c4_3 c4_4 c5_0 c5_1 c5_2 c5_3 c5_4 Kr)→(r*10%1000=0→Kr c0_0 (b++[UInt8.ofNat (48+r*10 / 1000)]) b2 c3_0 c3_1 c4_0 c4_1 c4_2 c4_3 c4_4 c5_0 c5_1 c5_2 c5_3 c5_4)→Zj (m+1) (r:Int) c0_0 b b2 c3_0 c3_1 c4_0 c4_1 c4_2 c4_3 c4_4 c5_0 c5_1 c5_2 c5_3 c5_4 Kr:=by
   intro m h1 h2;simp only [Zj];rw [e1,e2,q1,q2,q3];refine ⟨by unfold I64;omega,by decide,by unfold I64;omega,by omega,by simp;omega,by decide,fun q=>h2 (by have:=of_decide_eq_true q;omega),fun q=>h1 (by have:=of_decide_eq_false q;omega)⟩
  simp only [fr3] at hk;by_cases q:r*10%1000=0
  ·rw [if_pos q] at hk;exact ⟨1,fin 0 (fun z=>absurd q z) (fun _=>hk)⟩
  ·rw [if_neg q] at hk;have hz2:(r*10%1000)*10^(k+1)%1000=0:=by
    rw [Nat.mod_mul_mod];rw [Nat.pow_succ] at hz;rw [show r*10*10^(k+1)=r*(10^(k+1)*10) from by rw [Nat.mul_assoc,Nat.mul_comm 10]]
    exact hz
   obtain ⟨m,hm⟩:=ih (r*10%1000) (b++[UInt8.ofNat (48+r*10 / 1000)]) (Nat.mod_lt _ (by decide)) hz2 (by simp;omega) (by rw [List.append_assoc];exact hk)
   exact ⟨m+1,fin m (fun _=>hm) (fun z=>absurd z q)⟩
def ZeC:jy:=fun x w c0_0 b b2 c3_0 c3_1 c4_0 c4_1 c4_2 c4_3 c4_4 c5_0 c5_1 c5_2 c5_3 c5_4 K=>((-1000000000000≤x∧x≤1000000000000)∧b.length≤40000000)∧K c0_0 (b++J3 x w) b2 c3_0 c3_1 c4_0 c4_1 c4_2 c4_3 c4_4 c5_0 c5_1 c5_2 c5_3 c5_4
theorem jh1 (x w c0_0 b b2 c3_0 c3_1 c4_0 c4_1 c4_2 c4_3 c4_4 c5_0 c5_1 c5_2 c5_3 c5_4 K) (h:ZeC x w c0_0 b b2 c3_0 c3_1 c4_0 c4_1 c4_2 c4_3 c4_4 c5_0 c5_1 c5_2 c5_3 c5_4 K):zap x w c0_0 b b2 c3_0 c3_1 c4_0 c4_1 c4_2 c4_3 c4_4 c5_0 c5_1 c5_2 c5_3 c5_4 K:=by
 obtain ⟨⟨hx,hb⟩,hk⟩:=h;have hl:=jeB (a:=x.natAbs / 1000) (by omega)
 have body:∀(bb:List UInt8) (y:Int),y=(x.natAbs:Int)→bb.length≤40000001→K c0_0 (bb++(Lib.decDigits (x.natAbs / 1000)++(if w then [] else 46::fr3 3 (x.natAbs%1000)))) b2 c3_0 c3_1 c4_0 c4_1 c4_2 c4_3 c4_4 c5_0 c5_1 c5_2 c5_3 c5_4→
   I64 (y.tdiv (1000:Int))∧jdX (y.tdiv (1000:Int)) (10:Int)=true∧(bb.length+(JaS (y.tdiv (1000:Int)) (10:Int)).length)*1≤1099511627776∧(w=true→K c0_0 (bb++(JaS (y.tdiv (1000:Int)) (10:Int))) b2 c3_0 c3_1 c4_0 c4_1 c4_2 c4_3 c4_4 c5_0 c5_1 c5_2 c5_3 c5_4)∧(w=false→(0≤(46:Int)∧(46:Int)≤255)∧((bb++(JaS (y.tdiv (1000:Int)) (10:Int))).length+[UInt8.ofNat 46].length)*1≤1099511627776∧(1000:Int)≠0∧∃m,Zj m (y.tmod (1000:Int)) c0_0 ((bb++(JaS (y.tdiv (1000:Int)) (10:Int)))++[UInt8.ofNat 46]) b2 c3_0 c3_1 c4_0 c4_1 c4_2 c4_3 c4_4 c5_0 c5_1 c5_2 c5_3 c5_4 K):=by
  intro bb y hy hbb hk2;have e1:=td hy 1000;have e2:=tm hy 1000;rw [show ((1000:Nat):Int)=1000 from rfl] at e1 e2
  rw [e1,e2,jit];refine ⟨by unfold I64;omega,zit (by omega),by omega,fun q=>?_,fun q=>⟨by omega,by simp;omega,by decide,?_⟩⟩
  ·rw [q] at hk2;simpa using hk2
  ·rw [q] at hk2;refine zh1 c0_0 b2 c3_0 c3_1 c4_0 c4_1 c4_2 c4_3 c4_4 c5_0 c5_1 c5_2 c5_3 c5_4 K 2 (x.natAbs%1000) _ (Nat.mod_lt _ (by decide)) (by omega) (by simp;omega) ?_
   simpa using hk2
 unfold J3 at hk;refine ⟨fun q=>?_,fun q=>?_⟩
 ·have q:=of_decide_eq_true q;rw [if_pos q] at hk;exact ⟨by omega,by simp;omega,by unfold I64;omega,by decide,body (b++[UInt8.ofNat 45]) (0-x) (by omega) (by simp;omega) (by simpa using hk)⟩
 ·have q:=of_decide_eq_false q;rw [if_neg q] at hk;exact ⟨by decide,body b x (by omega) (by omega) (by simpa using hk)⟩
def JeC:ZC:=fun u c0_0 b b2 c3_0 c3_1 c4_0 c4_1 c4_2 c4_3 c4_4 c5_0 c5_1 c5_2 c5_3 c5_4 K=>(u≠[]∧u.length≤1000000∧b.length≤40000000)∧K c0_0 (b++zae u) b2 c3_0 c3_1 c4_0 c4_1 c4_2 c4_3 c4_4 c5_0 c5_1 c5_2 c5_3 c5_4
theorem Zh1 (u c0_0 b b2 c3_0 c3_1 c4_0 c4_1 c4_2 c4_3 c4_4 c5_0 c5_1 c5_2 c5_3 c5_4 K) (h:JeC u c0_0 b b2 c3_0 c3_1 c4_0 c4_1 c4_2 c4_3 c4_4 c5_0 c5_1 c5_2 c5_3 c5_4 K):zaB jhk zc3 jc3 u c0_0 b b2 c3_0 c3_1 c4_0 c4_1 c4_2 c4_3 c4_4 c5_0 c5_1 c5_2 c5_3 c5_4 K:=by
 obtain ⟨⟨h1,h2,h3⟩,h⟩:=h;unfold zae at h;refine ⟨h1,fun q=>⟨⟨h2,h3⟩,?_⟩,fun q=>⟨⟨h2,h3⟩,?_⟩⟩
 ·rw [if_pos q] at h;exact h
 ·rw [if_neg (by rw [q];decide)] at h;exact h
def zeD:jC:=fun x0 x1 x2 x3 x4 c0_0 b b2 c3_0 c3_1 c4_0 c4_1 c4_2 c4_3 c4_4 c5_0 c5_1 c5_2 c5_3 c5_4 K=>(x1.length≤1000000∧b.length≤30000000)∧K c0_0 (b++JcG x1 x4) b2 c3_0 c3_1 c4_0 c4_1 c4_2 c4_3 c4_4 c5_0 c5_1 c5_2 c5_3 c5_4 x0 x1 x2 x3 x4
theorem Jh1 (x0 x1 x2 x3 x4 c0_0 b b2 c3_0 c3_1 c4_0 c4_1 c4_2 c4_3 c4_4 c5_0 c5_1 c5_2 c5_3 c5_4 K) (h:zeD x0 x1 x2 x3 x4 c0_0 b b2 c3_0 c3_1 c4_0 c4_1 c4_2 c4_3 c4_4 c5_0 c5_1 c5_2 c5_3 c5_4 K):jaA Jc3 JeB x0 x1 x2 x3 x4 c0_0 b b2 c3_0 c3_1 c4_0 c4_1 c4_2 c4_3 c4_4 c5_0 c5_1 c5_2 c5_3 c5_4 K:=by
 obtain ⟨⟨h1,h2⟩,h⟩:=h;unfold JcG at h;refine ⟨by omega,by simp;omega,fun q=>⟨⟨h1,by simp;omega⟩,?_⟩,fun q=>⟨⟨h1,by simp;omega⟩,?_⟩⟩
 ·have q:x4=false:=by simpa using q
  rw [q] at h ⊢;rw [List.append_assoc];exact h
 ·have q:x4=true:=by simpa using q
  rw [q] at h ⊢;rw [List.append_assoc];exact h
def zdS:jh:=fun k tx n u f c0_0 b b2 c3_0 c3_1 c4_0 c4_1 c4_2 c4_3 c4_4 K=>(jck ⟨k,tx,n,u,f⟩=true∧(tx.length≤1000000∧u.length≤1000000)∧b.length≤30000000)∧K c0_0 (b++tokT ⟨k,tx,n,u,f⟩) b2 c3_0 c3_1 c4_0 c4_1 c4_2 c4_3 c4_4 k tx n u f
theorem zh2 (k tx n u f c0_0 b b2 c3_0 c3_1 c4_0 c4_1 c4_2 c4_3 c4_4 K) (h:zdS k tx n u f c0_0 b b2 c3_0 c3_1 c4_0 c4_1 c4_2 c4_3 c4_4 K):J5 jc3 zeD zeC jeC ZeC jfz JeC k tx n u f c0_0 b b2 c3_0 c3_1 c4_0 c4_1 c4_2 c4_3 c4_4 K:=by
 obtain ⟨⟨hc,⟨ht,hu⟩,hb⟩,h⟩:=h;obtain ⟨c1,c2,c3,c4⟩:=je8 hc;unfold tokT at h;dsimp only at c1 c2 c3 c4 h;unfold J5;refine ⟨fun q=>?_,fun q=>?_⟩
 ·have q:=of_decide_eq_true q;rw [if_pos q] at h;exact ⟨by omega,by simp;omega,h⟩
 have q13:=of_decide_eq_false q;rw [if_neg q13] at h;refine ⟨fun q=>?_,fun q=>?_⟩
 ·have q:=of_decide_eq_true q;rw [if_pos q] at h;exact ⟨⟨ht,by omega⟩,h⟩
 have q1:=of_decide_eq_false q;rw [if_neg q1] at h;refine ⟨fun q=>?_,fun q=>?_⟩
 ·have q:=of_decide_eq_true q;rw [if_pos q] at h;refine ⟨⟨ht,by omega⟩,by omega,?_,?_⟩
  ·have:=JcH (ZcL tx) tx 0;unfold Zaa;simp only [List.length_append,List.length_cons,List.length_nil];omega
  ·rw [List.append_assoc];exact h
 have q2:=of_decide_eq_false q;rw [if_neg q2] at h;refine ⟨fun q=>?_,fun q=>?_⟩
 ·have q:=of_decide_eq_true q;rw [if_pos q] at h;refine ⟨by omega,by simp;omega,rfl,⟨ht,by simp;omega⟩,?_⟩
  rw [List.append_assoc];exact h
 have q3:=of_decide_eq_false q;rw [if_neg q3] at h;refine ⟨fun q=>?_,fun q=>?_⟩
 ·have q:=of_decide_eq_true q;rw [if_pos q] at h;exact ⟨⟨ht,by omega⟩,h⟩
 have q4:=of_decide_eq_false q;rw [if_neg q4] at h;refine ⟨fun q=>?_,fun q=>?_⟩
 ·have q:=of_decide_eq_true q;rw [if_pos q] at h;exact ⟨⟨ht,by omega⟩,h⟩
 have q5:=of_decide_eq_false q;rw [if_neg q5] at h;refine ⟨fun q=>?_,fun q=>?_⟩
 ·have q:=of_decide_eq_true q;rw [if_pos q] at h;exact ⟨⟨ht,by omega⟩,h⟩
 have q7:=of_decide_eq_false q;rw [if_neg q7] at h;refine ⟨fun q=>?_,fun q=>?_⟩
 ·have q:=of_decide_eq_true q;rw [if_pos q] at h;exact ⟨⟨c3 (by omega),by omega⟩,h⟩
 have q10:=of_decide_eq_false q;rw [if_neg q10] at h;refine ⟨fun q=>?_,fun q=>?_⟩
 ·have q:=of_decide_eq_true q;rw [if_pos q] at h;refine ⟨⟨c3 (by omega),by omega⟩,by omega,?_,?_⟩
  ·have:=zcI (c3 (by omega)) (Jaq n)
   simp only [List.length_append,List.length_cons,List.length_nil];omega
  ·rw [List.append_assoc];exact h
 have q11:=of_decide_eq_false q;rw [if_neg q11] at h;refine ⟨fun q=>?_,fun q=>?_⟩
 ·have q:=of_decide_eq_true q;rw [if_pos q] at h;have:=zcI (c3 (by omega)) f
  refine ⟨⟨c3 (by omega),by omega⟩,rfl,⟨c4 q,hu,?_⟩,?_⟩
  ·simp only [List.length_append];omega
  ·rw [List.append_assoc];exact h
 have q12:=of_decide_eq_false q;rw [if_neg q12] at h;refine ⟨fun q=>?_,fun q=>?_⟩
 ·have q:=of_decide_eq_true q;rw [if_pos q] at h;exact ⟨by omega,h⟩
 have q9:=of_decide_eq_false q;rw [if_neg q9] at h;refine ⟨fun q=>?_,fun q=>?_⟩
 ·have q:=of_decide_eq_true q;rw [if_pos q] at h;exact ⟨by simp;omega,h⟩
 have q14:=of_decide_eq_false q;rw [if_neg q14] at h;refine ⟨fun q=>?_,fun q=>?_⟩
 ·have q:=of_decide_eq_true q;rw [if_pos q] at h;exact ⟨by simp;omega,h⟩
 have q15:=of_decide_eq_false q;rw [if_neg q15] at h;have ew:IntKind.u8.wrap (k-16)=k-16:=w8' (by omega) (by omega)
 rw [ew];refine ⟨⟨by omega,by simp;omega⟩,⟨by omega,?_⟩,by simp;omega,?_⟩
 ·have:=ze6 (([58,59,44,91,93,40,41,123,125]:List UInt8).getD (k-16).toNat 0);exact this.2
 ·rw [Jga];exact h
end Go.Proofs.YtmnegokadegioaaGreatDoor
set_option linter.unusedVariables false
namespace Go.Proofs.YtmnegokadegioaaGreatDoor
open Go.Vm Go.Sx Go.RowKit
def ok2 (t:Tok):Prop:=t.text.length≤1000000∧t.unit.length≤1000000
theorem jhC {t:Tok} (h:ok2 t):JfO t:=⟨by have:=h.1;omega,by have:=h.2;omega⟩
theorem JgO (c0:List Tok) (b2:List (Int×Int)) (c1 c2:Int) (l:List Tok) (hl:∀t∈l,jck t=true∧ok2 t) (hs:l.length≤1500) (Ke:List Tok→List UInt8→List (Int×Int)→Int→Int→Prop) :
  ∀(n i:Nat) (b:List UInt8),i+n=l.length→b.length+4000020*n≤30000000→Ke c0 (b++(l.drop i).flatMap tokT) b2 c1 c2→zz ZgI zdS (n+1) l (l.length:Int) (i:Int) c0 b b2 c1 c2 Ke
 | 0,i,b,hi,hb,h=>by
  simp only [zz];rw [List.drop_of_length_le (by omega),List.flatMap_nil,List.append_nil] at h
  exact ⟨fun q=>absurd (of_decide_eq_true q) (by omega),fun _=>h⟩
 | n+1,i,b,hi,hb,h=>by
  have hlt:i<l.length:=by omega
  have hm:l.getD i (Ze Cd.tok)∈l:=by rw [Zfz hlt];exact List.getElem_mem hlt
  obtain ⟨hc,ho⟩:=hl _ hm;rw [JaV hlt,List.flatMap_cons,←List.append_assoc] at h;have hlen:=ZfS hc ho.1 ho.2;have ih:=JgO c0 b2 c1 c2 l hl hs Ke n (i+1) (b++tokT (l.getD i (Ze Cd.tok))) (by omega) (by rw [List.length_append];omega) h
  rw [zz];refine ⟨fun _=>⟨⟨by omega,by omega⟩,?_⟩,fun q=>absurd (of_decide_eq_false q) (by omega)⟩
  rw [Int.toNat_natCast];generalize l.getD i (Ze Cd.tok)=t at *;obtain ⟨k,tx,x,u,f⟩:=t;exact ⟨⟨hc,ho,by omega⟩,JgY (by omega),ih⟩
def Zit:Zg:=fun l c0 b b2 c1 c2 K=>((l≠[]∧l.length≤1500)∧(zbv (l.getD 0 (Ze Cd.tok))=false→∀t∈l,jck t=true∧ok2 t)∧b.length+4000020*l.length≤30000000)∧K c0 (b++je5 l) b2 c1 c2
theorem Zja (l c0 b b2 c1 c2 K) (h:Zit l c0 b b2 c1 c2 K):zax ZgI zdS l c0 b b2 c1 c2 K:=by
 obtain ⟨⟨⟨h1,h1'⟩,h2,h3⟩,h⟩:=h;have hp:0<l.length:=by cases l with|nil=>exact absurd rfl h1|cons=>simp
 have e:je5 l=if zbv (l.getD 0 (Ze Cd.tok)) then [92,10] else l.flatMap tokT:=by
  cases l with
  | nil=>exact absurd rfl h1
  | cons t w=>rfl
 rw [e] at h;refine ⟨⟨by omega,by omega⟩,fun q=>⟨by omega,by omega,by simp;omega,?_⟩,fun q=>⟨l.length+1,?_⟩⟩
 ·have q:zbv (l.getD 0 (Ze Cd.tok))=true:=q;rw [if_pos q] at h;exact h
 ·have q:zbv (l.getD 0 (Ze Cd.tok))=false:=q;rw [q] at h;exact JgO c0 b2 c1 c2 l (h2 q) h1' K l.length 0 b (by omega) h3 h
theorem zdo {t:Tok} {l:List Tok} (h:Zcw (t::l)=true):jck t=true∧Zey t l=true∧Zcw l=true:=by
 rw [Zcw,Bool.and_eq_true,Bool.and_eq_true] at h;exact h
theorem JfS:∀(k:Nat) {l:List Tok},Zcw l=true→Zcw (l.drop k)=true
 | 0,l,h=>h
 | k+1,[],h=>h
 | k+1,t::l,h=>JfS k (zdo h).2.2
theorem zgP:∀{l:List Tok},Zcw l=true→∀t∈l,jck t=true
 | [],_,_,m=>by cases m
 | a::l,h,t,m=>by
  rcases List.mem_cons.1 m with rfl|m
  ·exact (zdo h).1
  ·exact zgP (zdo h).2.2 t m
theorem jdo {l:List Tok} {k:Int} (h:swK l k=true):∃t w,l=t::w∧t.kind=k:=by
 cases l with
 | nil=>cases h
 | cons t w=>exact ⟨t,w,rfl,of_decide_eq_true h⟩
theorem zgb {l:List Tok} (h:Zcw l=true) (hn:l≠[]):1≤zeH l∧zeH l≤3∧zeH l≤l.length∧(jcw (l.getD 0 (Ze Cd.tok))=true→zbv (l.getD 0 (Ze Cd.tok))=false→(l.any fun t=>decide (t.kind=5))=true):=by
 cases l with
 | nil=>exact absurd rfl hn
 | cons t l=>
  obtain ⟨-,hf,-⟩:=zdo h;unfold Zey at hf;show 1≤(if zbv t then 2 else if jcw t then 1+(l.takeWhile fun t=>decide (t.kind≠5)).length+1 else 1)∧(if zbv t then 2 else if jcw t then 1+(l.takeWhile fun t=>decide (t.kind≠5)).length+1 else 1)≤3∧(if zbv t then 2 else if jcw t then 1+(l.takeWhile fun t=>decide (t.kind≠5)).length+1 else 1)≤(t::l).length∧(jcw t=true→zbv t=false→((t::l).any fun t=>decide (t.kind=5))=true)
  by_cases q1:zbv t=true
  ·rw [if_pos q1] at hf;obtain ⟨a,w,rfl,-⟩:=jdo hf;rw [if_pos q1];exact ⟨by omega,by omega,by simp,fun _ q=>by rw [q1] at q;cases q⟩
  ·rw [if_neg q1] at hf ⊢;by_cases q2:jcw t=true
   ·rw [if_pos q2] at hf ⊢;by_cases q3:swK l 13=true
    ·rw [if_pos q3] at hf;obtain ⟨a,w,rfl,ha⟩:=jdo q3;obtain ⟨c,w,rfl,hc⟩:=jdo hf;have e:((a::c::w).takeWhile fun t:Tok=>decide (t.kind≠5)).length=1:=by
      rw [List.takeWhile_cons,if_pos (by rw [ha];decide),List.takeWhile_cons,if_neg (by rw [hc];decide)]
      rfl
     rw [e];refine ⟨by omega,by omega,by simp,fun _ _=>?_⟩
     simp [hc]
    ·rw [if_neg q3] at hf;obtain ⟨c,w,rfl,hc⟩:=jdo hf;have e:((c::w).takeWhile fun t:Tok=>decide (t.kind≠5)).length=0:=by
      rw [List.takeWhile_cons,if_neg (by rw [hc];decide)]
      rfl
     rw [e];refine ⟨by omega,by omega,by simp,fun _ _=>?_⟩
     simp [hc]
   ·rw [if_neg q2];exact ⟨by omega,by omega,by simp,fun q=>absurd q q2⟩
theorem jh2 {t:Tok} (hc:jck t=true):tokT t≠[]:=by
 have nam:∀s:List UInt8,s≠[]→Zaa s≠[]:=by
  intro s hs;cases s with
  | nil=>exact absurd rfl hs
  | cons c w=>
   unfold Zaa;generalize ZcL (c::w)=e;simp only [zaN,Zbm];split <;> simp
 have h:=hc;unfold jck at h;simp only [Bool.and_eq_true] at h;obtain ⟨-,-,-,h⟩:=h;have num:∀n w,J3 n w≠[]:=by
  intro n w hz;unfold J3 at hz;have hz:=(List.append_eq_nil_iff.1 (List.append_eq_nil_iff.1 hz).2).1;have:=congrArg List.length hz;rw [Lib.decDigits_length,List.length_nil] at this;by_cases q:n.natAbs / 1000<10
  ·rw [Lib.nDigits_small q] at this;omega
  ·rw [Lib.nDigits_big q] at this;omega
 have key:∀(c:Prop) [Decidable c] (x y:List UInt8),(c→x≠[])→(¬c→y≠[])→(if c then x else y)≠[]:=by
  intro c _ x y h1 h2;by_cases q:c
  ·rw [if_pos q];exact h1 q
  ·rw [if_neg q];exact h2 q
 unfold tokT;have hn:t.kind=1→Zaa t.text≠[]:=by
  intro q;rw [if_pos (by rw [q];decide)] at h
  exact nam _ (by simpa using h)
 have hd:t.kind=9→t.text≠[]:=by
  intro q;rw [if_neg (by rw [q];decide),if_neg (by omega),if_pos q] at h
  intro z;rw [z] at h;cases h
 refine key _ _ _ (fun _=>by simp) fun _=>key _ _ _ (fun q=>hn q) fun _=>key _ _ _ (fun q=>by simp) fun _=>key _ _ _ (fun q=>by simp) fun _=>key _ _ _ (fun q=>by unfold JcG;simp) fun _=>key _ _ _ (fun q=>by simp) fun _=>key _ _ _ (fun q=>by simp) fun _=>key _ _ _ (fun q=>num _ _) fun _=>key _ _ _ (fun q=>by simp) fun _=>key _ _ _ (fun q z=>num _ _ (List.append_eq_nil_iff.1 z).1) fun _=>key _ _ _ hd fun _=>key _ _ _ (fun q=>by simp) fun _=>key _ _ _ (fun q=>by simp) fun _=>by simp
theorem Zh2 {l:List Tok} (hn:l≠[]) (hc:∀t∈l,jck t=true):je5 l≠[]:=by
 cases l with
 | nil=>exact absurd rfl hn
 | cons t w=>
  unfold je5;dsimp only;split
  ·simp
  ·rw [List.flatMap_cons];intro z;exact jh2 (hc t List.mem_cons_self) (List.append_eq_nil_iff.1 z).1
def stI (sts:List (Nat×Nat)):List (Int×Int):=(sts.map fun s=>((s.2:Int),(s.1:Int))).reverse
theorem jcI (s:Nat×Nat) (sts:List (Nat×Nat)):stI (s::sts)=stI sts++[((s.2:Int),(s.1:Int))]:=by
 unfold stI;rw [List.map_cons,List.reverse_cons]
theorem jeD (sts:List (Nat×Nat)):(stI sts).length=sts.length:=by unfold stI;simp
abbrev ixI (n:Int):Int:=if (0:Int)<((n-(1:Int))-(3:Int)) then ((n-(1:Int))-(3:Int)) else (0:Int)
theorem Jh2 (s:Nat×Nat) (sts:List (Nat×Nat)) (d:Int×Int):(stI (s::sts)).getD (ixI ((stI (s::sts)).length:Int)).toNat d=(((((s::sts).take 4).getLastD (0,0)).2:Int),((((s::sts).take 4).getLastD (0,0)).1:Int))∧((s::sts).take 4).getLastD (0,0)∈s::sts:=by
 match sts with
 | []=>exact ⟨rfl,by simp⟩
 | [a]=>exact ⟨rfl,by simp⟩
 | [a,b]=>exact ⟨rfl,by simp⟩
 | a::b::c::r=>
  refine ⟨?_,by simp⟩
  have e:(ixI ((stI (s::a::b::c::r)).length:Int)).toNat=(stI r).length:=by
   rw [jeD,jeD];unfold ixI;simp only [List.length_cons];split <;> omega
  rw [e,jcI,jcI,jcI,jcI];rw [List.append_assoc,List.append_assoc,List.append_assoc,List.getD_eq_getElem?_getD,List.getElem?_append_right (Nat.le_refl _),Nat.sub_self];rfl
def ZiC:zab:=fun l K=>(∀t∈l,ok2 t)∧K (ZfO l).1 (ZfO l).2
theorem zh3 (l:List Tok) (hok:∀t∈l,ok2 t) (hs:l.length≤1500) (K:List UInt8→Int→Prop) :
  ∀(f i:Nat) (b:List UInt8) (sts:List (Nat×Nat)),l.length≤i+f→i≤l.length→Zcw (l.drop i)=true→b.length≤4000→(∀s∈sts,s.1≤b.length∧s.2≤i)→sts.length≤i→
   K (wrM l (f+1) b sts i).1 (wrM l (f+1) b sts i).2→jO jgJ ZgJ Zit Jea (f+1) l (i:Int) l b (stI sts) (fun _ y _=>K y (0:Int)) (fun y z=>K y z):=by
 intro f
 induction f with
 | zero=>
  intro i b sts hf hi hc hb hst hsl h;rw [wrM,if_pos (by omega)] at h
  rw [jO];exact ⟨fun q=>absurd (of_decide_eq_true q) (by omega),fun _=>h⟩
 | succ f ih=>
  intro i b sts hf hi hc hb hst hsl h;by_cases hend:l.length≤i
  ·rw [wrM,if_pos hend] at h;rw [jO];exact ⟨fun q=>absurd (of_decide_eq_true q) (by omega),fun _=>h⟩
  ·rw [wrM,if_neg hend] at h;have hlt:i<l.length:=by omega
   have hne:l.drop i≠[]:=by
    intro z;have:=congrArg List.length z;rw [List.length_drop,List.length_nil] at this;omega
   obtain ⟨p1,p2,p3,p4⟩:=zgb hc hne;rw [List.length_drop] at p3;have hd0:(l.drop i).getD 0 (Ze Cd.tok)=l.getD i (Ze Cd.tok):=by rw [JaV hlt];rfl
   rw [hd0] at p4;have hd:∀t∈l.drop i,jck t=true∧ok2 t:=fun t m=>⟨zgP hc t m,hok t (List.mem_of_mem_drop m)⟩
   have htk:∀n,∀t∈(l.drop i).take n,jck t=true∧ok2 t:=fun n t m=>hd t (List.mem_of_mem_take m)
   generalize hN:zeH (l.drop i)=N at *;dsimp only at h;have eN:i+N-i=N:=by omega
   rw [eN] at h;have hpl:((l.drop i).take N).length=N:=by rw [List.length_take,List.length_drop];omega
   have hpn:(l.drop i).take N≠[]:=by
    intro z;rw [z] at hpl;simp at hpl;omega
   have hpt:=Zh2 hpn fun t m=>(htk N t m).1
   have hp0:((l.drop i).take N).getD 0 (Ze Cd.tok)=l.getD i (Ze Cd.tok):=by
    rw [JaV hlt];cases N with
    | zero=>omega
    | succ N=>rfl
   have hplen:(je5 ((l.drop i).take N)).length≤12000060:=by
    unfold je5;split
    ·split
     ·simp
     ·rename_i t w ew _;have:∀(m:List Tok),(∀t∈m,jck t=true∧ok2 t)→(m.flatMap tokT).length≤4000020*m.length:=by
       intro m
       induction m with
       | nil=>intro _;simp
       | cons a m im=>
        intro ha;have h1:=ha a List.mem_cons_self;have h2:=ZfS h1.1 h1.2.1 h1.2.2;have h3:=im fun t mt=>ha t (List.mem_cons_of_mem _ mt)
        rw [List.flatMap_cons,List.length_append,List.length_cons];omega
      have:=this _ (htk N);rw [hpl] at this;omega
    ·simp
   generalize hP:je5 ((l.drop i).take N)=P at *;have hPl:0<P.length:=by
    cases P with
    | nil=>exact absurd rfl hpt
    | cons=>simp
   obtain ⟨g1,g2⟩:=Jh2 (b.length,i) sts (Ze Cd.span);generalize hfr:((((b.length,i)::sts).take 4).getLastD (0,0))=fr at *;have hfrb:fr.1≤b.length∧fr.2≤i:=by
    rcases List.mem_cons.1 g2 with z|z
    ·rw [z];exact ⟨Nat.le_refl _,Nat.le_refl _⟩
    ·exact hst _ z
   have est:stI sts++[((i:Int),(b.length:Int))]=stI ((b.length,i)::sts):=(jcI (b.length,i) sts).symm;have hsl1:(stI ((b.length,i)::sts)).length=sts.length+1:=by rw [jeD,List.length_cons]
   have hst1:∀b':List UInt8,b.length≤b'.length→∀s∈(b.length,i)::sts,s.1≤b'.length∧s.2≤i+N:=by
    intro b' hb' s m;rcases List.mem_cons.1 m with z|z
    ·rw [z];exact ⟨hb',by show i≤i+N;omega⟩
    ·have:=hst _ z;omega
   have hcd:Zcw (l.drop (i+N))=true:=by rw [←List.drop_drop];exact JfS N hc
   rw [jO];refine ⟨fun _=>⟨⟨by omega,by omega,hs⟩,fun t m=>jhC (hok t m),fun q=>?_,?_⟩,fun q=>absurd (of_decide_eq_false q) (by omega)⟩
   ·rw [Int.toNat_natCast] at q ⊢;by_cases q0:zbv (l.getD i (Ze Cd.tok))=true
    ·exfalso;have a1:=JgJ q;unfold zbv at q0;rw [a1] at q0;simp at q0
    ·exact p4 q (by simpa using q0)
   ·rw [Int.toNat_natCast,hN];have ei:(i:Int)+(N:Int)=((i+N:Nat):Int):=by omega
    rw [ei];simp only [Int.toNat_natCast,eN];refine ⟨⟨by omega,by omega,by omega⟩,⟨⟨hpn,by omega⟩,fun _=>htk N,by rw [hpl];omega⟩,?_⟩
    dsimp only;rw [hP,est];refine ⟨by simp only [List.length_append,List.length_singleton,jeD];omega,by rw [hsl1];exact JgY (by omega),by rw [hsl1];exact JgY (by omega),?_⟩
    have eix:∀n:Int,(if (0:Int)<((n-(1:Int))-(3:Int)) then ((n-(1:Int))-(3:Int)) else (0:Int))=ixI n:=fun n=>rfl
    simp only [eix];have hix:0≤ixI ((stI ((b.length,i)::sts)).length:Int)∧ixI ((stI ((b.length,i)::sts)).length:Int)<((stI ((b.length,i)::sts)).length:Int):=by
     rw [hsl1];unfold ixI;split <;> omega
    refine ⟨hix,by omega,?_⟩
    rw [g1];simp only [Int.toNat_natCast];refine ⟨⟨by omega,by rw [List.length_append];omega⟩,⟨by omega,by omega,by omega⟩,?_⟩
    refine ⟨fun q=>?_,fun q=>?_⟩
    ·rw [if_pos q] at h;refine ⟨fun q2=>?_,fun q2=>?_⟩
     ·rw [if_pos (by have:=of_decide_eq_true q2;omega)] at h
      exact h
     ·have q2:=of_decide_eq_false q2;rw [if_neg (by omega)] at h
      exact ih (i+N) (b++P) ((b.length,i)::sts) (by omega) (by omega) hcd (by omega) (hst1 _ (by rw [List.length_append];omega)) (by rw [List.length_cons];omega) h
    ·simp only [q,Bool.false_eq_true,if_false] at h;have et:(b++P).take b.length=b:=by rw [List.take_append_of_le_length (Nat.le_refl _),List.take_length]
     have ed:(b++P).drop b.length=P:=by rw [List.drop_append_of_le_length (Nat.le_refl _),List.drop_length,List.nil_append]
     simp only [et,ed];simp only [ed] at h;refine ⟨by omega,by omega,by omega,by omega,⟨by omega,by rw [List.length_append];omega,by simp,by simp;omega⟩,?_⟩
     refine ⟨fun q2=>?_,fun q2=>?_⟩
     ·have q2:=of_decide_eq_true q2;rw [if_pos (by show 4000<(b++([47,42,42,47]++P)).length;have:(b++([UInt8.ofNat 47,UInt8.ofNat 42,UInt8.ofNat 42,UInt8.ofNat 47]++P)).length=(b++([47,42,42,47]++P)).length:=rfl;omega)] at h
      exact h
     ·have q2:=of_decide_eq_false q2;have e3:(b++([UInt8.ofNat 47,UInt8.ofNat 42,UInt8.ofNat 42,UInt8.ofNat 47]++P)).length=(b++([47,42,42,47]++P)).length:=rfl;rw [if_neg (by omega)] at h
      exact ih (i+N) (b++([47,42,42,47]++P)) ((b.length,i)::sts) (by omega) (by omega) hcd (by omega) (hst1 _ (by rw [List.length_append];omega)) (by rw [List.length_cons];omega) h
theorem Jja (l K) (h:ZiC l K):zb2 jgJ ZgJ Zit Jea l K:=by
 obtain ⟨hok,h⟩:=h;unfold ZfO at h;refine ⟨fun t m=>jhC (hok t m),fun q=>?_,fun q=>⟨l.length+1,?_⟩⟩
 ·have q:=of_decide_eq_true q;rw [if_pos q] at h;exact h
 ·have q:Zf9 l=0:=by simpa using q
  rw [if_neg (by simpa using q)] at h
  unfold Zf9 at q;split at q
  ·cases q
  rename_i hl;split at q
  ·rename_i hc;exact zh3 l hok (by omega) K l.length 0 [] [] (by omega) (by omega) hc (by simp) (fun s m=>by cases m) (by simp) h
  ·cases q
end Go.Proofs.YtmnegokadegioaaGreatDoor
set_option linter.unusedVariables false
set_option linter.unusedSimpArgs false
namespace Go.Proofs.YtmnegokadegioaaGreatDoor
open Go.Vm Go.Sx Go.RowKit
def ZcI:JI:=fun c K=>(0≤c∧c≤255)∧K (low c)
theorem Zhk (c K) (h:ZcI c K):ZcZ c K:=by
 obtain ⟨⟨h0,h1⟩,h⟩:=h;unfold low at h;refine ⟨fun q=>⟨fun z=>?_,fun z=>?_⟩,fun q=>?_⟩
 ·have q:=of_decide_eq_true q;have z:=of_decide_eq_true z;rw [if_pos ⟨q,z⟩] at h;rw [IntKind.wrap_u8,IntKind.wrap_u8]
  rwa [show ((c-65)%256+97)%256=c+32 from by omega]
 ·have z:=of_decide_eq_false z
  rwa [if_neg (by omega)] at h
 ·have q:=of_decide_eq_false q
  rwa [if_neg (by omega)] at h
def jgb (c:UInt8):UInt8:=UInt8.ofNat (low (c.toNat:Int)).toNat
theorem jgP (c:UInt8):0≤low (c.toNat:Int)∧low (c.toNat:Int)≤255:=by
 have:=c.toNat_lt;unfold low;split <;> omega
theorem ZgP (Ke:List UInt8→Prop):∀(w d:List UInt8),d.length+w.length≤10000000→Ke (d++w.map jgb)→∃m,Jas ZcI m (d.length:Int) (d++w) Ke
 | [],d,hl,h=>by
  refine ⟨1,?_⟩;simp only [Jas,List.append_nil];rw [List.map_nil,List.append_nil] at h;exact ⟨fun q=>by have:=of_decide_eq_true q;omega,fun _=>h⟩
 | c::w,d,hl,h=>by
  rw [List.length_cons] at hl;obtain ⟨m,hm⟩:=ZgP Ke w (d++[jgb c]) (by rw [List.length_append,List.length_singleton];omega) (by rw [List.append_assoc];exact h)
  have hlow:=jgP c;have e1:(d++c::w).getD (d.length:Int).toNat (Ze Cd.u8)=c:=by
   rw [Int.toNat_natCast];exact getD_at8 d c w _
  have e2:(d++c::w).set (d.length:Int).toNat (jgb c)=d++[jgb c]++w:=by
   rw [Int.toNat_natCast,List.set_append_right _ _ (Nat.le_refl _),Nat.sub_self,List.append_assoc];rfl
  rw [List.length_append,List.length_singleton,←e2,show ((d.length+1:Nat):Int)=(d.length:Int)+1 from by omega] at hm
  refine ⟨m+1,?_⟩;simp only [Jas];have hlen:(d++c::w).length=d.length+(w.length+1):=by rw [List.length_append,List.length_cons]
  refine ⟨fun _=>⟨⟨by omega,by omega⟩,by omega,?_⟩,fun q=>by have:=of_decide_eq_false q;omega⟩
  rw [e1];exact ⟨⟨by omega,by have:=c.toNat_lt;omega⟩,⟨by omega,by omega⟩,by omega,⟨hlow.1,hlow.2⟩,by unfold I64;omega,hm⟩
where
 getD_at8 (d:List UInt8) (c:UInt8) (w:List UInt8) (x:UInt8):(d++c::w).getD d.length x=c:=by
  rw [List.getD_eq_getElem?_getD,List.getElem?_append_right (Nat.le_refl _),Nat.sub_self];rfl
def zfT:zaE:=fun s K=>s.length≤10000000∧K (s.map jgb)
theorem Jit (s K) (h:zfT s K):zc0 ZcI s K:=⟨by have:=h.1;omega,ZgP _ s [] (by have:=h.1;simpa using this) h.2⟩
theorem jh3 {a b:UInt8}:jgb a=jgb b↔low (a.toNat:Int)=low (b.toNat:Int):=by
 have ha:=jgP a;have hb:=jgP b;constructor
 ·intro h;have:=congrArg UInt8.toNat h;unfold jgb at this;rw [UInt8.toNat_ofNat',UInt8.toNat_ofNat',Nat.mod_eq_of_lt (by omega),Nat.mod_eq_of_lt (by omega)] at this
  omega
 ·intro h;unfold jgb;rw [h]
theorem Ze8:∀(a b:List UInt8),(a.map jgb==b.map jgb)=Z3 a b
 | [],[]=>rfl
 | [],b::y=>rfl
 | a::x,[]=>rfl
 | a::x,b::y=>by
  have ih:=Ze8 x y;rw [Z3,←ih,List.map_cons,List.map_cons,Bool.eq_iff_iff];simp only [beq_iff_eq,List.cons.injEq,Bool.and_eq_true,decide_eq_true_eq,jh3]
def ZU:zJ:=fun a b K=>(a.length≤10000000∧b.length≤10000000)∧K (Z3 a b)
theorem Jhk (a b K) (h:ZU a b K):jc0 zfT a b K:=by
 obtain ⟨⟨h1,h2⟩,h⟩:=h;refine ⟨h1,h2,?_⟩;show K (a.map jgb==b.map jgb);rw [Ze8];exact h
def jfT:jaE:=fun c K=>K (mD c)
theorem ziu (c K) (h:jfT c K):Jc0 c K:=by
 have h:K (mD c):=h;unfold mD at h;refine ⟨fun q=>?_,fun q=>?_⟩
 ·rwa [q,Bool.true_and] at h
 ·rwa [q,Bool.false_and] at h
theorem jau {α:Type} {l w:List α} {i:Nat} {x:α} (h:l.drop i=x::w):l.drop (i+1)=w∧i<l.length:=by
 constructor
 ·rw [←List.drop_drop,h];rfl
 ·rcases Nat.lt_or_ge i l.length with q|q
  ·exact q
  ·rw [List.drop_eq_nil_of_le q] at h;cases h
theorem Zgb {l w:List UInt8} {i:Nat} {x:UInt8} (h:l.drop i=x::w):l.getD i 0=x:=by
 have:=congrArg (·[0]?) h;simp only [List.getElem?_drop,List.getElem?_cons_zero,Nat.add_zero] at this;rw [List.getD_eq_getElem?_getD,this];rfl
theorem Je8 (s:List UInt8) (hs:s.length≤10000000) (Ke:Unit→Prop) (Kr:Bool→Prop):∀(w:List UInt8) (i:Nat),s.drop i=w→i≤s.length→(w.contains 0=false→Ke ())→(w.contains 0=true→Kr false)→∃m,Jad m s (i:Int) Ke Kr
 | [],i,hw,hi,h1,h2=>⟨1,by
  have hle:s.length≤i:=List.drop_eq_nil_iff.1 hw;simp only [Jad];exact ⟨fun q=>by have:=of_decide_eq_true q;omega,fun _=>h1 rfl⟩⟩
 | c::w,i,hw,hi,h1,h2=>by
  obtain ⟨g1,g2⟩:=jau hw;have e:=Zgb hw;by_cases hc:(c.toNat:Int)=0
  ·have hc0:c=0:=UInt8.toNat_inj.mp (by show c.toNat=0;omega)
   refine ⟨1,?_⟩;simp only [Jad,Int.toNat_natCast,e];exact ⟨fun _=>⟨⟨by omega,by omega⟩,fun _=>h2 (by rw [hc0];simp),fun q=>absurd hc (of_decide_eq_false q)⟩,fun q=>by have:=of_decide_eq_false q;omega⟩
  ·have hcc:(c::w).contains 0=w.contains 0:=by
    have:¬(0:UInt8)=c:=fun z=>hc (by rw [←z];rfl)
    rw [List.contains_cons];have e2:((0:UInt8)==c)=false:=by simpa using this
    rw [e2,Bool.false_or]
   rw [hcc] at h1 h2;obtain ⟨m,hm⟩:=Je8 s hs Ke Kr w (i+1) g1 (by omega) h1 h2
   refine ⟨m+1,?_⟩;simp only [Jad,Int.toNat_natCast,e];exact ⟨fun _=>⟨⟨by omega,by omega⟩,fun q=>absurd (of_decide_eq_true q) hc,fun _=>⟨by unfold I64;omega,by rw [show (i:Int)+1=((i+1:Nat):Int) from by omega];exact hm⟩⟩,fun q=>by have:=of_decide_eq_false q;omega⟩
def Zau:ZaE:=fun s K=>s.length≤10000000∧K (!s.contains 0)
theorem zhl (s K) (h:Zau s K):jc1 s K:=by
 obtain ⟨hl,h⟩:=h;refine Je8 s hl _ _ s 0 rfl (Nat.zero_le _) (fun q=>?_) (fun q=>?_)
 ·rw [q] at h;exact h
 ·rw [q] at h;exact h
def jaS:ZaV:=fun s K=>s.length≤10000000∧K (decide (ZcL s≠-1))
theorem Zh3 (s K) (h:jaS s K):ZdO jfT s K:=by
 obtain ⟨hl,h⟩:=h;unfold ZcL swD swM at h
 match s with
 | []=>exact ⟨fun _=>h,fun q=>(by cases q)⟩
 | [c]=>
  refine ⟨fun q=>(by cases q),fun _=>⟨⟨by omega,by rw [List.length_cons];omega⟩,?_⟩⟩
  show ((mD (c.toNat:Int)=false→_)∧_);rw [Jd,List.tail_cons,ZhA] at h;refine ⟨fun q=>⟨fun z=>?_,fun z=>?_⟩,fun q=>?_⟩
  ·have q:mD (c.toNat:Int)=false:=q;refine ⟨⟨by omega,by rw [List.length_cons];omega⟩,fun z2=>?_,fun z2=>?_⟩
   ·have z2:=of_decide_eq_true z2;have:c=45:=UInt8.toNat_inj.mp (by show c.toNat=45;have:(c.toNat:Int)=45:=z2;omega)
    rw [this] at z;cases z
   ·have z2:=of_decide_eq_false z2;have z2:¬(c.toNat:Int)=45:=z2;rw [q,if_neg (by rintro ⟨⟩;exact absurd rfl z2),if_neg (by decide),decide_eq_false z2,Bool.false_and,if_neg (by decide)] at h
    exact h
  ·have z:[c]=[45]:=by simpa using z
   rw [if_pos z] at h;exact h
  ·have q:mD (c.toNat:Int)=true:=q;rw [q] at h;split at h
   ·exact h
   ·exact h
 | c::d::w=>
  refine ⟨fun q=>(by cases q),fun _=>⟨⟨by omega,by rw [List.length_cons];omega⟩,?_⟩⟩
  show ((mD (c.toNat:Int)=false→_)∧_);rw [Jd,List.tail_cons,Jd,if_neg (by simp)] at h
  refine ⟨fun q=>⟨fun z=>⟨⟨by omega,by rw [List.length_cons];omega⟩,fun z2=>⟨⟨by omega,by rw [List.length_cons,List.length_cons];omega⟩,?_⟩,fun z2=>?_⟩,fun z=>by simp at z⟩,fun q=>?_⟩
  ·have z2:(c.toNat:Int)=45:=of_decide_eq_true z2;have q:mD (c.toNat:Int)=false:=q;rw [q,if_neg (by decide),decide_eq_true z2,Bool.true_and] at h
   show K (mD (d.toNat:Int));cases hd:mD (d.toNat:Int) with
   | true=>rw [hd] at h;exact h
   | false=>rw [hd] at h;exact h
  ·have z2:¬(c.toNat:Int)=45:=of_decide_eq_false z2;have q:mD (c.toNat:Int)=false:=q;rw [q,if_neg (by decide),decide_eq_false z2,Bool.false_and] at h
   exact h
  ·have q:mD (c.toNat:Int)=true:=q;rw [q,if_pos rfl] at h;exact h
theorem Jh3:∀n:Nat,n<256→n≠0→zgv n=jgI [UInt8.ofNat n]:=by decide +kernel
def JbL:zA:=fun c K=>(0≤c∧c≤255)∧K (zgv c.toNat)
end Go.Proofs.YtmnegokadegioaaGreatDoor
set_option linter.unusedVariables false
set_option linter.unusedSimpArgs false
namespace Go.Proofs.YtmnegokadegioaaGreatDoor
open Go.Vm Go.Sx Go.RowKit
def jae:ZR:=fun t K=>JfO t∧K (jck t)
theorem ZiP (k:Int) (tx:List UInt8) (n:Int) (u:List UInt8) (f:Bool):jck ⟨k,tx,n,u,f⟩=(jab ⟨k,tx,n,u,f⟩ (Jci ⟨k,tx,n,u,f⟩)&&(!tx.contains 0&&(!u.contains 0&&
 (if k∈([1,2,3]:List Int) then tx != []
 else if k=4 then tx != []&&(f||decide (ZcL tx≠-1))
 else if k=9 then jgI tx
 else if k=10∨k=11 then jbP ⟨k,tx,n,u,f⟩
 else if k=12 then jbP ⟨k,tx,n,u,f⟩&&u != []
 else if k=6∨k=8 then false
 else decide (1≤k)&&decide (k≤24))))):=rfl
theorem c0:([]:List UInt8).contains 0=false:=rfl
theorem jhl (x:List UInt8):(x==[])=decide (x=[]):=by cases x <;> simp
theorem zh4 (t K) (h:jae t K):jag Zau jaS JbL t K:=by
 obtain ⟨⟨h1,h2⟩,h⟩:=h;obtain ⟨k,tx,n,u,f⟩:=t;dsimp only at h1 h2;rw [ZiP] at h;by_cases k1:k=1∨k=2∨k=3
 ·have h':K (decide (0∉tx∧tx≠[]∧n=0∧u=[]∧f=false)):=by
   refine (congrArg K (Bool.eq_iff_iff.2 ?_)).mp h;rcases k1 with rfl|rfl|rfl <;> simp [jab,Jci,tk,jbP,Jaq] <;> (constructor <;> (intro z;simp_all))
  rcases k1 with rfl|rfl|rfl <;> (
   simp only [jag,Zau,jaS,JbL,decide_eq_true_eq,decide_eq_false_iff_not,Int.reduceEq,not_true_eq_false,not_false_eq_true,true_implies,false_implies,and_true,true_and,forall_const,jhl,Bool.not_eq_eq_eq_not,Bool.not_true,Bool.not_false,decide_true,Bool.and_true,Bool.true_and,reduceCtorEq,ne_eq,Decidable.not_not,implies_true,and_self,decide_not,beq_self_eq_true,Bool.false_eq_true,Bool.true_eq_false,decide_false,Int.reduceLE]
   repeat' (first|apply And.intro|intro)
   all_goals first|omega|(refine (congrArg K (Bool.eq_iff_iff.2 ?_)).mp h';simp_all;done)|(refine (congrArg K (Bool.eq_iff_iff.2 ?_)).mp h';simp_all <;> (intros;omega)))
  done
 by_cases k4:k=4
 ·have h':K (decide (0∉tx∧tx≠[]∧n=0∧u=[]∧(f=true∨ZcL tx≠-1))):=by
   refine (congrArg K (Bool.eq_iff_iff.2 ?_)).mp h;rcases k4 with rfl <;> simp [jab,Jci,tk,jbP,Jaq] <;> (constructor <;> (intro z;simp_all))
  rcases k4 with rfl <;> (
   simp only [jag,Zau,jaS,JbL,decide_eq_true_eq,decide_eq_false_iff_not,Int.reduceEq,not_true_eq_false,not_false_eq_true,true_implies,false_implies,and_true,true_and,forall_const,jhl,Bool.not_eq_eq_eq_not,Bool.not_true,Bool.not_false,decide_true,Bool.and_true,Bool.true_and,reduceCtorEq,ne_eq,Decidable.not_not,implies_true,and_self,decide_not,beq_self_eq_true,Bool.false_eq_true,Bool.true_eq_false,decide_false,Int.reduceLE]
   repeat' (first|apply And.intro|intro)
   all_goals first|omega|(refine (congrArg K (Bool.eq_iff_iff.2 ?_)).mp h';simp_all;done)|(refine (congrArg K (Bool.eq_iff_iff.2 ?_)).mp h';simp_all <;> (intros;omega)))
  done
 by_cases k5:k=5∨k=7
 ·have h':K (decide (0∉tx∧n=0∧u=[]∧f=false)):=by
   refine (congrArg K (Bool.eq_iff_iff.2 ?_)).mp h;rcases k5 with rfl|rfl <;> simp [jab,Jci,tk,jbP,Jaq] <;> (constructor <;> (intro z;simp_all))
  rcases k5 with rfl|rfl <;> (
   simp only [jag,Zau,jaS,JbL,decide_eq_true_eq,decide_eq_false_iff_not,Int.reduceEq,not_true_eq_false,not_false_eq_true,true_implies,false_implies,and_true,true_and,forall_const,jhl,Bool.not_eq_eq_eq_not,Bool.not_true,Bool.not_false,decide_true,Bool.and_true,Bool.true_and,reduceCtorEq,ne_eq,Decidable.not_not,implies_true,and_self,decide_not,beq_self_eq_true,Bool.false_eq_true,Bool.true_eq_false,decide_false,Int.reduceLE]
   repeat' (first|apply And.intro|intro)
   all_goals first|omega|(refine (congrArg K (Bool.eq_iff_iff.2 ?_)).mp h';simp_all;done)|(refine (congrArg K (Bool.eq_iff_iff.2 ?_)).mp h';simp_all <;> (intros;omega)))
  done
 by_cases k10:k=10
 ·have h':K (decide (tx=[]∧u=[]∧-1000000000000≤n∧n≤1000000000000∧(f=false∨n.tmod 1000=0))):=by
   refine (congrArg K (Bool.eq_iff_iff.2 ?_)).mp h;rcases k10 with rfl <;> simp [jab,Jci,tk,jbP,Jaq] <;> (constructor <;> (intro z;simp_all))
  rcases k10 with rfl <;> (
   simp only [jag,Zau,jaS,JbL,decide_eq_true_eq,decide_eq_false_iff_not,Int.reduceEq,not_true_eq_false,not_false_eq_true,true_implies,false_implies,and_true,true_and,forall_const,jhl,Bool.not_eq_eq_eq_not,Bool.not_true,Bool.not_false,decide_true,Bool.and_true,Bool.true_and,reduceCtorEq,ne_eq,Decidable.not_not,implies_true,and_self,decide_not,beq_self_eq_true,Bool.false_eq_true,Bool.true_eq_false,decide_false,Int.reduceLE]
   repeat' (first|apply And.intro|intro)
   all_goals first|omega|(refine (congrArg K (Bool.eq_iff_iff.2 ?_)).mp h';simp_all;done)|(refine (congrArg K (Bool.eq_iff_iff.2 ?_)).mp h';simp_all <;> (intros;omega)))
  done
 by_cases k11:k=11
 ·have h':K (decide (tx=[]∧u=[]∧-1000000000000≤n∧n≤1000000000000∧f=false)):=by
   refine (congrArg K (Bool.eq_iff_iff.2 ?_)).mp h;rcases k11 with rfl <;> simp [jab,Jci,tk,jbP,Jaq] <;> (constructor <;> (intro z;simp_all))
  rcases k11 with rfl <;> (
   simp only [jag,Zau,jaS,JbL,decide_eq_true_eq,decide_eq_false_iff_not,Int.reduceEq,not_true_eq_false,not_false_eq_true,true_implies,false_implies,and_true,true_and,forall_const,jhl,Bool.not_eq_eq_eq_not,Bool.not_true,Bool.not_false,decide_true,Bool.and_true,Bool.true_and,reduceCtorEq,ne_eq,Decidable.not_not,implies_true,and_self,decide_not,beq_self_eq_true,Bool.false_eq_true,Bool.true_eq_false,decide_false,Int.reduceLE]
   repeat' (first|apply And.intro|intro)
   all_goals first|omega|(refine (congrArg K (Bool.eq_iff_iff.2 ?_)).mp h';simp_all;done)|(refine (congrArg K (Bool.eq_iff_iff.2 ?_)).mp h';simp_all <;> (intros;omega)))
  done
 by_cases k12:k=12
 ·have h':K (decide (tx=[]∧u≠[]∧0∉u∧-1000000000000≤n∧n≤1000000000000∧(f=false∨n.tmod 1000=0))):=by
   refine (congrArg K (Bool.eq_iff_iff.2 ?_)).mp h;rcases k12 with rfl <;> simp [jab,Jci,tk,jbP,Jaq] <;> (intro z;subst z;simp;constructor <;> (intro z;simp_all))
  rcases k12 with rfl <;> (
   simp only [jag,Zau,jaS,JbL,decide_eq_true_eq,decide_eq_false_iff_not,Int.reduceEq,not_true_eq_false,not_false_eq_true,true_implies,false_implies,and_true,true_and,forall_const,jhl,Bool.not_eq_eq_eq_not,Bool.not_true,Bool.not_false,decide_true,Bool.and_true,Bool.true_and,reduceCtorEq,ne_eq,Decidable.not_not,implies_true,and_self,decide_not,beq_self_eq_true,Bool.false_eq_true,Bool.true_eq_false,decide_false,Int.reduceLE]
   repeat' (first|apply And.intro|intro)
   all_goals first|omega|(refine (congrArg K (Bool.eq_iff_iff.2 ?_)).mp h';simp_all;done)|(refine (congrArg K (Bool.eq_iff_iff.2 ?_)).mp h';simp_all <;> (intros;omega)))
  done
 by_cases k6:k=6∨k=8
 ·have h':K (decide (False)):=by
   refine (congrArg K (Bool.eq_iff_iff.2 ?_)).mp h;rcases k6 with rfl|rfl <;> simp [jab,Jci,tk,jbP,Jaq] <;> (constructor <;> (intro z;simp_all))
  rcases k6 with rfl|rfl <;> (
   simp only [jag,Zau,jaS,JbL,decide_eq_true_eq,decide_eq_false_iff_not,Int.reduceEq,not_true_eq_false,not_false_eq_true,true_implies,false_implies,and_true,true_and,forall_const,jhl,Bool.not_eq_eq_eq_not,Bool.not_true,Bool.not_false,decide_true,Bool.and_true,Bool.true_and,reduceCtorEq,ne_eq,Decidable.not_not,implies_true,and_self,decide_not,beq_self_eq_true,Bool.false_eq_true,Bool.true_eq_false,decide_false,Int.reduceLE]
   repeat' (first|apply And.intro|intro)
   all_goals first|omega|(refine (congrArg K (Bool.eq_iff_iff.2 ?_)).mp h';simp_all;done)|(refine (congrArg K (Bool.eq_iff_iff.2 ?_)).mp h';simp_all <;> (intros;omega)))
  done
 by_cases k9:k=9
 ·subst k9;have h':K (decide (0∉tx∧jgI tx=true∧n=0∧u=[]∧f=false)):=by
   refine (congrArg K (Bool.eq_iff_iff.2 ?_)).mp h;simp [jab,Jci,tk] <;> (constructor <;> (intro z;simp_all))
  simp only [jag,Zau,jaS,JbL,decide_eq_true_eq,decide_eq_false_iff_not,Int.reduceEq,not_true_eq_false,not_false_eq_true,true_implies,false_implies,and_true,true_and,forall_const,jhl,Bool.not_eq_eq_eq_not,Bool.not_true,Bool.not_false,decide_true,Bool.and_true,Bool.true_and,reduceCtorEq,ne_eq,Decidable.not_not,implies_true,and_self,decide_not,beq_self_eq_true,Bool.false_eq_true,Bool.true_eq_false,decide_false,Int.reduceLE]
  match tx,h' with
  | [],h'=>
   refine ⟨fun q=>by simp at q,fun _=>?_⟩
   refine (congrArg K (Bool.eq_iff_iff.2 ?_)).mp h';simp [jgI]
  | c::d::w,h'=>
   refine ⟨fun q=>by simp at q;omega,fun _=>?_⟩
   refine (congrArg K (Bool.eq_iff_iff.2 ?_)).mp h';simp [jgI]
  | [c],h'=>
   have hd:∀x:UInt8,[c].getD 0 x=c:=fun _=>rfl
   refine ⟨fun _=>⟨(by rw [List.length_singleton];omega),⟨⟨by omega,by rw [hd];have:=c.toNat_lt;omega⟩,?_⟩⟩,fun q=>by simp at q⟩
   rw [hd,Int.toNat_natCast];by_cases hc:c=0
   ·subst hc;refine ⟨fun q=>?_,fun _=>?_⟩
    ·exact absurd q (by decide)
    ·refine (congrArg K (Bool.eq_iff_iff.2 ?_)).mp h';simp
   ·have e:=Jh3 c.toNat c.toNat_lt (fun z=>hc (UInt8.toNat_inj.mp (by show c.toNat=0;exact z)))
    rw [UInt8.ofNat_toNat] at e;rw [e];have hc2:¬(0:UInt8)=c:=fun z=>hc z.symm
    refine ⟨fun q=>?_,fun q=>?_⟩ <;> (refine (congrArg K (Bool.eq_iff_iff.2 ?_)).mp h';simp [q,hc2])
 have n1:¬k=1:=by omega
 have n2:¬k=2:=by omega
 have n3:¬k=3:=by omega
 have n5:¬k=5:=by omega
 have n7:¬k=7:=by omega
 have n6:¬k=6:=by omega
 have n8:¬k=8:=by omega
 have h':K (decide (1≤k∧k≤24∧tx=[]∧n=0∧u=[]∧f=false)):=by
  refine (congrArg K (Bool.eq_iff_iff.2 ?_)).mp h;simp [jab,Jci,tk,n1,n2,n3,n5,n7,n6,n8,k4,k9,k10,k11,k12] <;> (constructor <;> (intro z;simp_all))
 simp only [jag,Zau,jaS,JbL,n1,n2,n3,n5,n7,n6,n8,k4,k9,k10,k11,k12,decide_eq_true_eq,decide_eq_false_iff_not,Int.reduceEq,not_true_eq_false,not_false_eq_true,true_implies,false_implies,and_true,true_and,forall_const,jhl,Bool.not_eq_eq_eq_not,Bool.not_true,Bool.not_false,decide_true,Bool.and_true,Bool.true_and,reduceCtorEq,ne_eq,Decidable.not_not,implies_true,and_self,decide_not,beq_self_eq_true,Bool.false_eq_true,Bool.true_eq_false,decide_false,Int.reduceLE]
 repeat' (first|apply And.intro|intro)
 all_goals (refine (congrArg K (Bool.eq_iff_iff.2 ?_)).mp h';simp_all <;> (intros;omega))
end Go.Proofs.YtmnegokadegioaaGreatDoor
set_option linter.unusedVariables false
set_option linter.unusedSimpArgs false
namespace Go.Proofs.YtmnegokadegioaaGreatDoor
open Go.Vm Go.Sx Go.RowKit
theorem gD {l w:List Tok} {i:Nat} {x:Tok} (h:l.drop i=x::w):l.getD i (Ze Cd.tok)=x:=by
 have:=congrArg (·[0]?) h;simp only [List.getElem?_drop,List.getElem?_cons_zero,Nat.add_zero] at this;show l.getD i (⟨0,[],0,[],false⟩:Tok)=x;rw [List.getD_eq_getElem?_getD,this];rfl
theorem ze9 (l:List Tok) (hl:∀t∈l,JfO t) (hs:l.length≤10000) (Ke:Unit→Prop) (Kr:Int→Prop):∀(w:List Tok) (i:Nat),l.drop i=w→i≤l.length→(Zcw w=true→Ke ())→(Zcw w=false→Kr 8)→∃m,zf jae ZU m l (i:Int) Ke Kr
 | [],i,hw,hi,h1,h2=>⟨1,by
  have hle:l.length≤i:=List.drop_eq_nil_iff.1 hw;simp only [zf];exact ⟨fun q=>by have:=of_decide_eq_true q;omega,fun _=>h1 rfl⟩⟩
 | t::w,i,hw,hi,h1,h2=>by
  obtain ⟨g1,g2⟩:=jau hw;have e0:=gD hw;have hok:JfO t:=hl t (by have:=List.mem_of_mem_drop (hw▸List.mem_cons_self .. : t∈l.drop i);exact this)
  have b0:decide ((i:Int)<(l.length:Int))=true:=decide_eq_true (by omega)
  have b1:(0≤(i:Int)∧(i:Int)<(l.length:Int))=True:=eq_true (by omega)
  have i1:I64 ((i:Int)+1)=True:=eq_true (by unfold I64;omega)
  have i2:I64 ((i:Int)+1+1)=True:=eq_true (by unfold I64;omega)
  have n0:((i:Int)).toNat=i:=rfl;have n1:((i:Int)+1).toNat=i+1:=by omega
  have n2:((i:Int)+1+1).toNat=i+2:=by omega
  have o1:(t.text.length≤10000000)=True:=eq_true hok.1;have o2:([117,114,108]:List UInt8).length≤10000000:=by decide
  have o2:(([117,114,108]:List UInt8).length≤10000000)=True:=eq_true o2;have ok1:JfO t=True:=eq_true hok;rw [Zcw] at h1 h2;have step:jck t=true→Zey t w=true→∃m,zf jae ZU m l ((i:Int)+1) Ke Kr:=by
   intro z1 z2;rw [z1,z2,Bool.true_and,Bool.true_and] at h1 h2;obtain ⟨m,hm⟩:=ze9 l hl hs Ke Kr w (i+1) g1 (by omega) h1 h2
   exact ⟨m,by rw [show (i:Int)+1=((i+1:Nat):Int) from by omega];exact hm⟩
  have stop:jck t=false∨Zey t w=false→Kr 8:=by
   rintro (z|z)
   ·exact h2 (by rw [z];rfl)
   ·exact h2 (by rw [z,Bool.false_and,Bool.and_false])
  cases hc:jck t with
  | false=>
   refine ⟨1,?_⟩;simp only [zf,jae,n0,e0,b0,b1,ok1,hc,Bool.not_false,true_implies,true_and,Bool.true_eq_false,reduceCtorEq,false_implies,and_true];exact stop (.inl hc)
  | true=>
  have step:=step hc;by_cases k2:t.kind=2
  ·have k9:¬t.kind=9:=by omega
   have hcK:jck ⟨2,t.text,t.num,t.unit,t.flag⟩=true:=by rw [←k2];exact hc
   have okK:JfO ⟨2,t.text,t.num,t.unit,t.flag⟩=True:=eq_true hok;have hbs:zbv t=false:=by unfold zbv;rw [decide_eq_false k9];rfl
   cases ha:Z3 t.text [117,114,108] with
   | false=>
    have hf:Zey t w=true:=by unfold Zey jcw;rw [hbs,ha,Bool.and_false];rfl
    obtain ⟨m,hm⟩:=step hf;refine ⟨m+1,?_⟩;simp only [zf,jae,ZU,n0,n1,n2,e0,b0,b1,i1,i2,o1,o2,ok1,hc,hcK,okK,k2,ha,Int.reduceEq,decide_true,decide_false,Bool.not_true,Bool.not_false,true_implies,true_and,Bool.true_eq_false,Bool.false_eq_true,reduceCtorEq,false_implies,and_true,hm]
   | true=>
    have hf:Zey t w=swK (if swK w 13 then w.tail else w) 5:=by unfold Zey jcw;rw [hbs,ha,decide_eq_true k2];rfl
    match w,g1,hf with
    | [],g1,hf=>
     have hle:l.length≤i+1:=List.drop_eq_nil_iff.1 g1;have d1:decide ((i:Int)+1<(l.length:Int))=false:=decide_eq_false (by omega)
     have d2:decide ((l.length:Int)≤(i:Int)+1)=true:=decide_eq_true (by omega)
     refine ⟨1,?_⟩;simp only [zf,jae,ZU,n0,n1,n2,e0,b0,b1,i1,i2,o1,o2,ok1,hc,hcK,okK,k2,ha,d1,d2,Int.reduceEq,decide_true,decide_false,Bool.not_true,Bool.not_false,true_implies,true_and,Bool.true_eq_false,Bool.false_eq_true,reduceCtorEq,false_implies,and_true];exact stop (.inr (by rw [hf];rfl))
    | a::w2,g1,hf=>
     obtain ⟨g3,g4⟩:=jau g1;have e1:=gD g1;have d1:decide ((i:Int)+1<(l.length:Int))=true:=decide_eq_true (by omega)
     have d2:decide ((l.length:Int)≤(i:Int)+1)=false:=decide_eq_false (by omega)
     have c1:(0≤(i:Int)+1∧(i:Int)+1<(l.length:Int))=True:=eq_true (by omega)
     by_cases ka:a.kind=13
     ·have hs13:swK (a::w2) 13=true:=by unfold swK;exact decide_eq_true ka
      rw [hs13,if_pos rfl,List.tail_cons] at hf
      match w2,g3,hf with
      | [],g3,hf=>
       have hle:l.length≤i+2:=List.drop_eq_nil_iff.1 g3;have d3:decide ((l.length:Int)≤(i:Int)+1+1)=true:=decide_eq_true (by omega)
       refine ⟨1,?_⟩;simp only [zf,jae,ZU,n0,n1,n2,e0,e1,b0,b1,c1,i1,i2,o1,o2,ok1,hc,hcK,okK,k2,ka,ha,d1,d2,d3,Int.reduceEq,decide_true,decide_false,Bool.not_true,Bool.not_false,true_implies,true_and,Bool.true_eq_false,Bool.false_eq_true,reduceCtorEq,false_implies,and_true];exact stop (.inr (by rw [hf];rfl))
      | b::w3,g3,hf=>
       obtain ⟨g5,g6⟩:=jau g3;have e2:=gD g3;have d3:decide ((l.length:Int)≤(i:Int)+1+1)=false:=decide_eq_false (by omega)
       have c2:(0≤(i:Int)+1+1∧(i:Int)+1+1<(l.length:Int))=True:=eq_true (by omega)
       by_cases kb:b.kind=5
       ·obtain ⟨m,hm⟩:=step (by rw [hf];unfold swK;exact decide_eq_true kb)
        refine ⟨m+1,?_⟩;simp only [zf,jae,ZU,n0,n1,n2,e0,e1,e2,b0,b1,c1,c2,i1,i2,o1,o2,ok1,hc,hcK,okK,k2,ka,kb,ha,d1,d2,d3,Int.reduceEq,decide_true,decide_false,Bool.not_true,Bool.not_false,true_implies,true_and,Bool.true_eq_false,Bool.false_eq_true,reduceCtorEq,false_implies,and_true,ne_eq,not_true_eq_false,hm]
       ·refine ⟨1,?_⟩;simp only [zf,jae,ZU,n0,n1,n2,e0,e1,e2,b0,b1,c1,c2,i1,i2,o1,o2,ok1,hc,hcK,okK,k2,ka,kb,ha,d1,d2,d3,Int.reduceEq,decide_true,decide_false,Bool.not_true,Bool.not_false,true_implies,true_and,Bool.true_eq_false,Bool.false_eq_true,reduceCtorEq,false_implies,and_true,ne_eq,not_false_eq_true];exact stop (.inr (by rw [hf];unfold swK;exact decide_eq_false kb))
     ·have hs13:swK (a::w2) 13=false:=by unfold swK;exact decide_eq_false ka
      rw [hs13,if_neg (by decide)] at hf
      by_cases kb:a.kind=5
      ·obtain ⟨m,hm⟩:=step (by rw [hf];unfold swK;exact decide_eq_true kb)
       refine ⟨m+1,?_⟩;simp only [zf,jae,ZU,n0,n1,n2,e0,e1,b0,b1,c1,i1,i2,o1,o2,ok1,hc,hcK,okK,k2,kb,ha,d1,d2,Int.reduceEq,decide_true,decide_false,Bool.not_true,Bool.not_false,true_implies,true_and,Bool.true_eq_false,Bool.false_eq_true,reduceCtorEq,false_implies,and_true,ne_eq,not_true_eq_false,hm]
      ·refine ⟨1,?_⟩;simp only [zf,jae,ZU,n0,n1,n2,e0,e1,b0,b1,c1,i1,i2,o1,o2,ok1,hc,hcK,okK,k2,ka,kb,ha,d1,d2,Int.reduceEq,decide_true,decide_false,Bool.not_true,Bool.not_false,true_implies,true_and,Bool.true_eq_false,Bool.false_eq_true,reduceCtorEq,false_implies,and_true,ne_eq,not_false_eq_true];exact stop (.inr (by rw [hf];unfold swK;exact decide_eq_false kb))
  ·have huf:jcw t=false:=by unfold jcw;rw [decide_eq_false k2];rfl
   by_cases k9:t.kind=9
   ·have hcK:jck ⟨9,t.text,t.num,t.unit,t.flag⟩=true:=by rw [←k9];exact hc
    have okK:JfO ⟨9,t.text,t.num,t.unit,t.flag⟩=True:=eq_true hok;by_cases kt:t.text=[92]
    ·have hbs:zbv t=true:=by unfold zbv;rw [decide_eq_true k9,kt];rfl
     have hf:Zey t w=swK w 13:=by unfold Zey;rw [hbs,if_pos rfl]
     have kt':(t.text==[92])=true:=by rw [kt];rfl
     match w,g1,hf with
     | [],g1,hf=>
      have hle:l.length≤i+1:=List.drop_eq_nil_iff.1 g1;have d1:decide ((i:Int)+1=(l.length:Int))=true:=decide_eq_true (by omega)
      refine ⟨1,?_⟩;simp only [zf,jae,ZU,n0,n1,n2,e0,b0,b1,i1,i2,o1,o2,ok1,hc,hcK,okK,k2,k9,kt',d1,Int.reduceEq,decide_true,decide_false,Bool.not_true,Bool.not_false,true_implies,true_and,Bool.true_eq_false,Bool.false_eq_true,reduceCtorEq,false_implies,and_true];exact stop (.inr (by rw [hf];rfl))
     | a::w2,g1,hf=>
      obtain ⟨g3,g4⟩:=jau g1;have e1:=gD g1;have d1:decide ((i:Int)+1=(l.length:Int))=false:=decide_eq_false (by omega)
      have c1:(0≤(i:Int)+1∧(i:Int)+1<(l.length:Int))=True:=eq_true (by omega)
      by_cases ka:a.kind=13
      ·obtain ⟨m,hm⟩:=step (by rw [hf];unfold swK;exact decide_eq_true ka)
       refine ⟨m+1,?_⟩;simp only [zf,jae,ZU,n0,n1,n2,e0,e1,b0,b1,c1,i1,i2,o1,o2,ok1,hc,hcK,okK,k2,k9,ka,kt',d1,Int.reduceEq,decide_true,decide_false,Bool.not_true,Bool.not_false,true_implies,true_and,Bool.true_eq_false,Bool.false_eq_true,reduceCtorEq,false_implies,and_true,ne_eq,not_true_eq_false,hm]
      ·refine ⟨1,?_⟩;simp only [zf,jae,ZU,n0,n1,n2,e0,e1,b0,b1,c1,i1,i2,o1,o2,ok1,hc,hcK,okK,k2,k9,ka,kt',d1,Int.reduceEq,decide_true,decide_false,Bool.not_true,Bool.not_false,true_implies,true_and,Bool.true_eq_false,Bool.false_eq_true,reduceCtorEq,false_implies,and_true,ne_eq,not_false_eq_true];exact stop (.inr (by rw [hf];unfold swK;exact decide_eq_false ka))
    ·have kt':(t.text==[92])=false:=by simpa using kt
     have hbs:zbv t=false:=by unfold zbv;rw [kt',Bool.and_false]
     obtain ⟨m,hm⟩:=step (by unfold Zey;rw [hbs,huf];rfl)
     refine ⟨m+1,?_⟩;simp only [zf,jae,ZU,n0,n1,n2,e0,b0,b1,i1,i2,o1,o2,ok1,hc,hcK,okK,k2,k9,kt',Int.reduceEq,decide_true,decide_false,Bool.not_true,Bool.not_false,true_implies,true_and,Bool.true_eq_false,Bool.false_eq_true,reduceCtorEq,false_implies,and_true,hm]
   ·have hbs:zbv t=false:=by unfold zbv;rw [decide_eq_false k9];rfl
    obtain ⟨m,hm⟩:=step (by unfold Zey;rw [hbs,huf];rfl)
    refine ⟨m+1,?_⟩;simp only [zf,jae,ZU,n0,n1,n2,e0,b0,b1,i1,i2,o1,o2,ok1,hc,k2,k9,Int.reduceEq,decide_true,decide_false,Bool.not_true,Bool.not_false,true_implies,true_and,Bool.true_eq_false,Bool.false_eq_true,reduceCtorEq,false_implies,and_true,hm]
def ZfT:JaE:=fun l K=>(∀t∈l,JfO t)∧K (Zf9 l)
theorem jiu (l K) (h:ZfT l K):Zc1 jae ZU l K:=by
 obtain ⟨hl,h⟩:=h;unfold Zf9 at h;refine ⟨fun q=>?_,fun q=>?_⟩
 ·have q:=of_decide_eq_true q
  rwa [if_pos (by omega)] at h
 ·have q:=of_decide_eq_false q;rw [if_neg (by omega)] at h
  refine ze9 l hl (by omega) _ _ l 0 rfl (Nat.zero_le _) (fun z=>?_) (fun z=>?_) <;> rw [z] at h <;> exact h
end Go.Proofs.YtmnegokadegioaaGreatDoor
set_option linter.unusedVariables false
set_option linter.unusedSimpArgs false
namespace Go.Proofs.YtmnegokadegioaaGreatDoor
open Go.Vm Go.Sx Go.RowKit
end Go.Proofs.YtmnegokadegioaaGreatDoor
