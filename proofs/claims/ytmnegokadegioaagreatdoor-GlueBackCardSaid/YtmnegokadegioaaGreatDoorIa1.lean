/-
 Tokens look at most three bytes behind what they take: the model. Nothing is claimed here.
-/
import Derived.Test.YtmnegokadegioaaGreatDoorWa1
import Derived.Test.YtmnegokadegioaaGreatDoorHa1
set_option linter.unusedVariables false
set_option linter.unusedSimpArgs false
namespace Go.Proofs.YtmnegokadegioaaGreatDoor
open Go.Vm Go.Sx Go.RowKit
theorem Zab {u v:List UInt8} (h:1≤u.length):hb (u++v)=hb u:=by
 cases u with
 | nil=>simp at h
 | cons c w=>rfl
theorem zeb {u v:List UInt8} (h:1≤u.length):(u++v).tail=u.tail++v:=by
 cases u with
 | nil=>simp at h
 | cons c w=>rfl
theorem zda (u:List UInt8):u.tail.length=u.length-1:=List.length_tail
theorem ZeD {u v:List UInt8} (h:2≤u.length):Jcj (u++v)=Jcj u:=by
 unfold Jcj;rw [Zab (by omega),zeb (by omega),Zab (by rw [zda];omega)]
theorem Jb3 {u v:List UInt8} (h:2≤u.length):jH (u++v)=jH u:=by
 unfold jH;rw [Zab (by omega),ZeD h]
theorem jdS {u v:List UInt8} (h:3≤u.length):JC (u++v)=JC u:=by
 unfold JC;rw [Zab (by omega),ZeD (by omega),zeb (by omega),Zab (by rw [zda];omega),ZeD (by rw [zda];omega)]
theorem ZdS {u v:List UInt8} (h:2≤u.length):jaa (u++v)=jaa u:=by
 unfold jaa;rw [Zab (by omega),zeb (by omega),Zab (by rw [zda];omega)]
theorem Zhl {u v:List UInt8} (h:3≤u.length):jbm (u++v)=jbm u:=by
 unfold jbm;rw [Zab (by omega),ZdS (by omega),zeb (by omega),Zab (by rw [zda];omega),ZdS (by rw [zda];omega)]
theorem Jhl {u v:List UInt8} (h:2≤u.length):Zd9 (u++v)=Zd9 u:=by
 unfold Zd9;rw [Zab (by omega),zeb (by omega),Zab (by rw [zda];omega)]
theorem digs_app:∀{u v:List UInt8},(JE u).length<u.length→JE (u++v)=JE u
 | [],v,h=>by simp at h
 | c::w,v,h=>by
  unfold JE at h ⊢;rw [List.cons_append,List.takeWhile_cons,List.takeWhile_cons];rw [List.takeWhile_cons] at h;by_cases q:mD (c.toNat:Int)=true
  ·simp only [if_pos q] at h ⊢;rw [List.length_cons,List.length_cons] at h;have:=digs_app (u:=w) (v:=v) (by unfold JE;omega)
   unfold JE at this;rw [this]
  ·simp only [if_neg q]
end Go.Proofs.YtmnegokadegioaaGreatDoor
set_option linter.unusedVariables false
set_option linter.unusedSimpArgs false
namespace Go.Proofs.YtmnegokadegioaaGreatDoor
open Go.Vm Go.Sx Go.RowKit
theorem zhm {a b c:UInt8} {u v:List UInt8} (h:3≤u.length):[a,b,c].isPrefixOf (u++v)=[a,b,c].isPrefixOf u:=by
 match u,h with
 | x::y::z::w,_=>simp [List.isPrefixOf]
theorem jhm {a b c d:UInt8} {u v:List UInt8} (h:4≤u.length):[a,b,c,d].isPrefixOf (u++v)=[a,b,c,d].isPrefixOf u:=by
 match u,h with
 | x::y::z::t::w,_=>simp [List.isPrefixOf]
end Go.Proofs.YtmnegokadegioaaGreatDoor
set_option linter.unusedVariables false
set_option linter.unusedSimpArgs false
namespace Go.Proofs.YtmnegokadegioaaGreatDoor
open Go.Vm Go.Sx Go.RowKit
def JiP (u:List UInt8):Option (Tok×List UInt8):=match u.drop (Zax u) with
 | []=>none
 | c::w=>some ((jK (c::w)).1,(c::w).drop (jK (c::w)).2)
inductive Reads:List UInt8→List Tok→List UInt8→Prop where
 | nil (u:List UInt8):Reads u [] u
 | cons {u r s:List UInt8} {t:Tok} {L:List Tok}:JiP u=some (t,r)→Reads r L s→Reads u (t::L) s
theorem Reads.trans {u r s:List UInt8} {L M:List Tok} (h:Reads u L r) (k:Reads r M s):Reads u (L++M) s:=by
 induction h with
 | nil u=>exact k
 | cons h1 _ ih=>exact .cons h1 (ih k)
end Go.Proofs.YtmnegokadegioaaGreatDoor
set_option linter.unusedVariables false
namespace Go.Proofs.YtmnegokadegioaaGreatDoor
open Go.Vm Go.Sx Go.RowKit
theorem ziQ (c:UInt8):UInt8.ofNat (c.toNat:Int).toNat=c:=by simp
theorem jaW:∀d,d<16→jcL ((Jc7 d).toNat:Int)=((d:Int),true)∧((Jc7 d).toNat:Int)≠10∧((Jc7 d).toNat:Int)≠0∧((Jc7 d).toNat:Int)≠12∧((Jc7 d).toNat:Int)≠13:=by decide
theorem zfC (k:Nat) (d:Nat) (hd:d<16) (w:List UInt8) (a:Int):JA (k+1) (Jc7 d::w) a=((JA k w (a*16+d)).1,(JA k w (a*16+d)).2+1):=by
 simp only [JA,Jd,(jaW d hd).1,if_true,List.tail_cons]
theorem JgP (k:Nat) (r:List UInt8) (a:Int):JA (k+1) (32::r) a=(a,0):=by
 have h:(jcL (hb (32::r))).2=false:=rfl;unfold JA;rw [if_neg (by rw [h];decide)]
theorem jh4:∀c:UInt8,(33≤(c.toNat:Int)∧(c.toNat:Int)≤126)∧mD (c.toNat:Int)=false∧mL (c.toNat:Int)=false→(jcL (c.toNat:Int)).2=false:=by
 intro c h;obtain ⟨h1,h2,h3⟩:=h;unfold jcL;rw [if_neg (by rw [h2];decide)]
 unfold mL at h3;simp only [Bool.or_eq_false_iff,Bool.and_eq_false_iff,decide_eq_false_iff_not] at h3;rw [if_neg (by omega),if_neg (by omega)]
theorem JeD (c:UInt8) (h0:c≠0) (h1:(c.toNat:Int)<128) (r:List UInt8):jak ((Zbm c).tail++r)=([c],(Zbm c).length-1):=by
 have hc0:¬(c.toNat:Int)=0:=fun z=>h0 (UInt8.toNat_inj.mp (by show c.toNat=0;omega))
 unfold Zbm;simp only [List.tail_cons,List.length_cons];by_cases q:(33≤(c.toNat:Int)∧(c.toNat:Int)≤126)∧mD (c.toNat:Int)=false∧mL (c.toNat:Int)=false
 ·rw [if_pos q];show jf9 c r=_;unfold jf9;rw [if_neg (by rw [jh4 c q];decide)]
  rfl
 ·rw [if_neg q];have e8:Jd4 (c.toNat:Int)=[c]:=by
   unfold Jd4;rw [if_pos (by omega)]
   show [UInt8.ofNat (c.toNat:Int).toNat]=_;rw [ziQ]
  by_cases hu:c.toNat<16
  ·have hl:zc8 c.toNat=[Jc7 c.toNat]:=by unfold zc8;rw [if_pos hu]
   rw [hl];show jf9 (Jc7 c.toNat) (32::r)=_;have hr:JA 6 (Jc7 c.toNat::32::r) 0=((c.toNat:Int),1):=by rw [zfC _ _ hu,JgP];simp
   unfold jf9;rw [(jaW _ hu).1,if_pos rfl,hr,if_neg hc0,e8];rfl
  ·have hl:zc8 c.toNat=[Jc7 (c.toNat / 16),Jc7 (c.toNat%16)]:=by unfold zc8;rw [if_neg hu]
   have hd1:c.toNat / 16<16:=by omega
   have hd2:c.toNat%16<16:=by omega
   rw [hl];show jf9 (Jc7 (c.toNat / 16)) (Jc7 (c.toNat%16)::32::r)=_;have hr:JA 6 (Jc7 (c.toNat / 16)::Jc7 (c.toNat%16)::32::r) 0=((c.toNat:Int),2):=by
    rw [zfC _ _ hd1,zfC _ _ hd2,JgP];refine Prod.ext ?_ rfl;show (0*16+((c.toNat / 16:Nat):Int))*16+((c.toNat%16:Nat):Int)=_;omega
   unfold jf9;rw [(jaW _ hd1).1,if_pos rfl,hr,if_neg hc0,e8];rfl
theorem za2 (c:UInt8):∃d v,Zbm c=92::d::v∧(d.toNat:Int)≠10:=by
 unfold Zbm;by_cases q:(33≤(c.toNat:Int)∧(c.toNat:Int)≤126)∧mD (c.toNat:Int)=false∧mL (c.toNat:Int)=false
 ·rw [if_pos q];exact ⟨c,[],rfl,by omega⟩
 ·rw [if_neg q];have hlt:=c.toNat_lt;unfold zc8;by_cases hu:c.toNat<16
  ·rw [if_pos hu];exact ⟨_,_,rfl,(jaW _ hu).2.1⟩
  ·rw [if_neg hu];exact ⟨_,_,rfl,(jaW _ (by omega)).2.1⟩
theorem JbI (c:UInt8) (r:List UInt8):Jcj (Zbm c++r)=true:=by
 obtain ⟨d,v,h,hd⟩:=za2 c;rw [h];unfold Jcj;simp only [List.cons_append,Jd,List.tail_cons];rw [Bool.and_eq_true];exact ⟨rfl,decide_eq_true hd⟩
theorem jiQ:mN 92=false:=by decide
theorem JfT {c:UInt8} (h:mN (c.toNat:Int)=true) (r:List UInt8):Zo (c::r)=(c::(Zo r).1,1+(Zo r).2):=by
 rw [Zo];rw [if_pos (by unfold jH;rw [Jd,h];rfl)]
 rw [if_neg (fun z=>by rw [z,jiQ] at h;cases h)]
theorem Zhm (c:UInt8) (h0:c≠0) (h1:(c.toNat:Int)<128) (r:List UInt8):Zo (Zbm c++r)=(c::(Zo r).1,(Zbm c).length+(Zo r).2):=by
 have hs:=JbI c r;have he:=JeD c h0 h1 r;have hl:Zbm c=92::(Zbm c).tail:=rfl;rw [hl,List.cons_append] at hs ⊢;rw [Zo];rw [if_pos (by unfold jH;rw [hs,Bool.or_true]),if_pos (show ((92:UInt8).toNat:Int)=92 from rfl),he]
 have hd:((Zbm c).tail++r).drop ((Zbm c).length-1)=r:=by
  rw [show (Zbm c).length-1=(Zbm c).tail.length from by rw [List.length_tail],List.drop_left]
 rw [hd];refine Prod.ext rfl ?_;show 1+((Zbm c).length-1)+(Zo r).2=(92::(Zbm c).tail).length+(Zo r).2;rw [←hl];have:1≤(Zbm c).length:=by rw [hl];simp
 omega
def okE (e:Int):Int→List UInt8→Prop
 | _,[]=>True
 | i,c::w=>(i=e→(c.toNat:Int)<128)∧okE e (i+1) w
theorem zbg (e:Int):∀(w:List UInt8) (i:Int),e<i→okE e i w
 | [],_,_=>trivial
 | c::w,i,h=>⟨fun z=>by omega,zbg e w (i+1) (by omega)⟩
theorem Jhm {c:UInt8} (h:mN (c.toNat:Int)=false):(c.toNat:Int)<128:=by
 unfold mN mN0 at h;simp only [Bool.or_eq_false_iff,decide_eq_false_iff_not] at h;omega
theorem ZhC {c:Int} (h:mD c=true):c<128:=by
 unfold mD at h;simp only [Bool.and_eq_true,decide_eq_true_eq] at h;omega
theorem zb4 (s:List UInt8):ZcL s=if s=[45] then 0 else if mD (hb s)=true then 0 else if hb s=45∧mD (hb s.tail)=true then 1 else -1:=by
 unfold ZcL swD swM;simp only [Bool.and_eq_true,decide_eq_true_eq]
theorem Ziu (s:List UInt8):okE (ZcL s) 0 s:=by
 rw [zb4];split
 ·rename_i h;subst h;exact ⟨fun _=>by decide,trivial⟩
 ·split
  ·rename_i h;cases s with
   | nil=>trivial
   | cons c w=>exact ⟨fun _=>ZhC h,zbg 0 w _ (by omega)⟩
  ·split
   ·rename_i h;cases s with
    | nil=>trivial
    | cons c w=>
     refine ⟨fun z=>by omega,?_⟩
     cases w with
     | nil=>trivial
     | cons d v=>exact ⟨fun _=>ZhC h.2,zbg 1 v _ (by omega)⟩
   ·exact zbg _ _ _ (by omega)
theorem Zag (e i:Int) (c:UInt8) (w:List UInt8):(i≠e∧mN (c.toNat:Int)=true∧zaN e i (c::w)=c::zaN e (i+1) w)∨(¬(i≠e∧mN (c.toNat:Int)=true)∧zaN e i (c::w)=Zbm c++zaN e (i+1) w):=by
 simp only [zaN];by_cases q:i≠e∧mN (c.toNat:Int)=true
 ·left;rw [if_pos q];exact ⟨q.1,q.2,rfl⟩
 ·right;rw [if_neg q];exact ⟨q,rfl⟩
theorem JcI {c:Int} (h:mN c=true):mN0 c=true∨mD c=true∨c=45:=by
 unfold mN at h;simpa only [Bool.or_eq_true,decide_eq_true_eq] using h
theorem jeb {w:List UInt8} (h:Jcj w=true):JC w=true:=by
 have h1:hb w=92:=by
  unfold Jcj at h;simp only [Bool.and_eq_true,decide_eq_true_eq] at h;exact h.1
 unfold JC;rw [if_pos (by omega),h,Bool.or_true]
theorem Jgb {a:List UInt8} (ha:a≠[]):JC (Zaa a)=true:=by
 obtain ⟨c,w,rfl⟩:=List.exists_cons_of_ne_nil ha;unfold Zaa;rcases Zag (ZcL (c::w)) 0 c w with ⟨q1,q2,q3⟩|⟨_,q3⟩
 ·rw [q3];have hD:mD (c.toNat:Int)=false:=by
   cases z:mD (c.toNat:Int) with
   | false=>rfl
   | true=>
    exfalso;apply q1;rw [zb4];split
    ·rfl
    ·rw [Jd,z,if_pos rfl]
  rcases JcI q2 with z|z|z
  ·unfold JC;rw [Jd,if_pos (fun y=>by rw [y] at z;exact absurd z (by decide)),z,Bool.true_or]
  ·rw [z] at hD;cases hD
  ·have hne:w≠[]:=by
    intro y;subst y;apply q1;rw [zb4];have:c=45:=UInt8.toNat_inj.mp (by show c.toNat=45;omega)
    rw [this,if_pos rfl]
   obtain ⟨d,v,rfl⟩:=List.exists_cons_of_ne_nil hne;have key:∀r:List UInt8,mN0 (hb r)=true∨hb r=45∨Jcj r=true→JC (c::r)=true:=by
    intro r hr;unfold JC;rw [Jd,if_neg (by omega),List.tail_cons]
    rcases hr with x|x|x
    ·rw [x,Bool.true_or]
    ·rw [decide_eq_true x,Bool.true_or,Bool.or_true]
    ·rw [x,Bool.or_true,Bool.or_true]
   apply key;rcases Zag (ZcL (c::d::v)) (0+1) d v with ⟨p1,p2,p3⟩|⟨_,p3⟩
   ·rw [p3,Jd];rcases JcI p2 with y|y|y
    ·exact .inl y
    ·exfalso;apply p1;rw [zb4];rw [if_neg (by simp),Jd,if_neg (by rw [hD];decide),List.tail_cons,Jd,if_pos ⟨z,y⟩]
     rfl
    ·exact .inr (.inl y)
   ·rw [p3];exact .inr (.inr (JbI d _))
 ·rw [q3];exact jeb (JbI c _)
theorem zcc {x:List UInt8} (h:JC x=true):mN0 (hb x)=true∨hb x=92∨(hb x=45∧(mN0 (hb x.tail)=true∨hb x.tail=45∨hb x.tail=92)):=by
 unfold JC at h;have e92:∀w:List UInt8,Jcj w=true→hb w=92:=fun w hw=>by
  unfold Jcj at hw;simp only [Bool.and_eq_true,decide_eq_true_eq] at hw;exact hw.1
 split at h
 ·simp only [Bool.or_eq_true] at h;exact h.imp id fun z=>.inl (e92 _ z)
 ·rename_i q;have q:hb x=45:=by omega
  simp only [Bool.or_eq_true,decide_eq_true_eq] at h;exact .inr (.inr ⟨q,h.imp id fun z=>z.imp id (e92 _)⟩)
theorem zcJ {c:Int} (h:mN0 c=true):(97≤c∧c≤122)∨(65≤c∧c≤90)∨c=95∨128≤c:=by
 unfold mN0 mL at h;simp only [Bool.or_eq_true,Bool.and_eq_true,decide_eq_true_eq] at h;omega
theorem je9 {x:List UInt8} (h:JC x=true):jbm x=false:=by
 unfold jbm jaa mSg mD;rcases zcc h with q|q|⟨q,q2⟩
 ·have:=zcJ q;rw [if_neg (by simp;omega)]
  simp;omega
 ·rw [q,if_neg (by decide)];rfl
 ·rw [q];have:¬hb x.tail=46∧¬(48≤hb x.tail∧hb x.tail≤57):=by
   rcases q2 with z|z|z
   ·have:=zcJ z;omega
   ·omega
   ·omega
  simp;omega
def okB (c:UInt8):Prop:=¬(c.toNat:Int)=0∧¬(c.toNat:Int)=12∧¬(c.toNat:Int)=13
theorem JdS:∀w:List UInt8,(∀c∈w,okB c)→JB w=w
 | [],_=>rfl
 | c::w,h=>by
  obtain ⟨h1,h2,h3⟩:=h c (List.mem_cons_self ..);simp only [JB,if_neg h1,if_neg h2,if_neg h3];rw [JdS w fun d hd=>h d (List.mem_cons_of_mem _ hd)]
theorem zhn {c:UInt8} (h:mN (c.toNat:Int)=true):okB c:=by
 unfold okB;rcases JcI h with q|q|q
 ·have:=zcJ q;omega
 ·unfold mD at q;simp only [Bool.and_eq_true,decide_eq_true_eq] at q;omega
 ·omega
theorem jfC (c:UInt8):∀d∈Zbm c,okB d:=by
 intro d hd;unfold Zbm at hd;have h92:okB 92:=by unfold okB;decide
 have h32:okB 32:=by unfold okB;decide
 have hH:∀n,n<16→okB (Jc7 n):=fun n hn=>⟨(jaW n hn).2.2.1,(jaW n hn).2.2.2.1,(jaW n hn).2.2.2.2⟩
 have hlt:=c.toNat_lt;rcases List.mem_cons.1 hd with rfl|hd
 ·exact h92
 ·split at hd
  ·rename_i q;rw [List.mem_singleton] at hd;subst hd;unfold okB;omega
  ·rcases List.mem_append.1 hd with hd|hd
   ·unfold zc8 at hd;split at hd
    ·rename_i hu;rw [List.mem_singleton] at hd;subst hd;exact hH _ hu
    ·simp only [List.mem_cons,List.not_mem_nil,or_false] at hd;rcases hd with rfl|rfl
     ·exact hH _ (by omega)
     ·exact hH _ (by omega)
   ·rw [List.mem_singleton] at hd;subst hd;exact h32
theorem zdT (e:Int):∀(w:List UInt8) (i:Int),∀d∈zaN e i w,okB d
 | [],_,d,hd=>by simp [zaN] at hd
 | c::w,i,d,hd=>by
  rcases Zag e i c w with ⟨_,q2,q3⟩|⟨_,q3⟩
  ·rw [q3] at hd;rcases List.mem_cons.1 hd with rfl|hd
   ·exact zhn q2
   ·exact zdT e w _ d hd
  ·rw [q3] at hd;rcases List.mem_append.1 hd with hd|hd
   ·exact jfC c d hd
   ·exact zdT e w _ d hd
theorem Jiu (e i:Int) (w:List UInt8):hb (zaN e i w)≠62:=by
 cases w with
 | nil=>
  show (0:Int)≠62;decide
 | cons c w=>
  rcases Zag e i c w with ⟨_,q2,q3⟩|⟨_,q3⟩
  ·rw [q3,Jd];intro z;rw [z] at q2;exact absurd q2 (by decide)
  ·rw [q3];show (92:Int)≠62;decide
theorem jdT {p x:List UInt8} {c:UInt8} (h:(c::p).isPrefixOf x=true):hb x=(c.toNat:Int):=by
 obtain ⟨t,ht⟩:=List.isPrefixOf_iff_prefix.1 h;rw [←ht];rfl
end Go.Proofs.YtmnegokadegioaaGreatDoor
set_option linter.unusedVariables false
set_option linter.unusedSimpArgs false
namespace Go.Proofs.YtmnegokadegioaaGreatDoor
open Go.Vm Go.Sx Go.RowKit
theorem ZdT (e:Int):∀(w:List UInt8) (i:Int) (v:List UInt8),(0:UInt8)∉w→okE e i w→Zo (zaN e i w++v)=(w++(Zo v).1,(zaN e i w).length+(Zo v).2)
 | [],_,v,_,_=>by simp [zaN]
 | c::w,i,v,h0,hk=>by
  obtain ⟨k1,k2⟩:=hk;have h0':(0:UInt8)∉w:=fun z=>h0 (List.mem_cons_of_mem _ z)
  have hc:c≠0:=fun z=>h0 (by rw [z];exact List.mem_cons_self ..)
  have ih:=ZdT e w (i+1) v h0' k2;simp only [zaN];by_cases q:i≠e∧mN (c.toNat:Int)=true
  ·rw [if_pos q,List.singleton_append,List.cons_append,JfT q.2,ih,List.length_cons];refine Prod.ext ?_ ?_
   ·simp
   ·simp only;omega
  ·rw [if_neg q];have h128:(c.toNat:Int)<128:=by
    by_cases z:i=e
    ·exact k1 z
    ·cases hm:mN (c.toNat:Int) with
     | false=>exact Jhm hm
     | true=>exact absurd ⟨z,hm⟩ q
   rw [List.append_assoc,Zhm c hc h128,ih,List.length_append];refine Prod.ext ?_ ?_
   ·simp
   ·simp only;omega
theorem jcv {a:List UInt8} (h0:(0:UInt8)∉a) (v:List UInt8):Zo (Zaa a++v)=(a++(Zo v).1,(Zaa a).length+(Zo v).2):=ZdT _ a 0 v h0 (Ziu a)
theorem JaF {v:List UInt8} (h:jH v=false):Zo v=([],0):=by
 cases v with
 | nil=>simp [Zo]
 | cons c w=>rw [Zo,h];simp
theorem jhn (w:List UInt8):(jak w).1≠[]:=by
 have hu:∀c,Jd4 c≠[]:=fun c=>by unfold Jd4;split <;> (try split) <;> (try split) <;> (try split) <;> simp
 cases w with
 | nil=>exact hu 65533
 | cons c w=>
  show (jf9 c w).1≠[];unfold jf9;split
  ·exact hu _
  ·simp
theorem Zdo {v:List UInt8} (h:jH v=true):(Zo v).1≠[]:=by
 cases v with
 | nil=>exact absurd h (by decide)
 | cons c w=>
  rw [Zo,h,if_pos rfl];split
  ·intro q;exact jhn w (List.append_eq_nil_iff.1 q).1
  ·simp
theorem Jdo {a b:List UInt8} (h:a++b=a):b=[]:=List.append_right_eq_self.1 h
theorem jda (c:UInt8) (r:List UInt8):JC (Zbm c++r)=true:=jeb (JbI c r)
theorem zF {a:List UInt8} (ha:a≠[]) (v:List UInt8):JC (Zaa a++v)=true:=by
 obtain ⟨c,w,rfl⟩:=List.exists_cons_of_ne_nil ha;unfold Zaa;rcases Zag (ZcL (c::w)) 0 c w with ⟨q1,q2,q3⟩|⟨_,q3⟩
 ·rw [q3,List.cons_append];have hD:mD (c.toNat:Int)=false:=by
   cases z:mD (c.toNat:Int) with
   | false=>rfl
   | true=>
    exfalso;apply q1;rw [zb4];split
    ·rfl
    ·rw [Jd,z,if_pos rfl]
  rcases JcI q2 with z|z|z
  ·unfold JC;rw [Jd,if_pos (fun y=>by rw [y] at z;exact absurd z (by decide)),z,Bool.true_or]
  ·rw [z] at hD;cases hD
  ·have hne:w≠[]:=by
    intro y;subst y;apply q1;rw [zb4];have:c=45:=UInt8.toNat_inj.mp (by show c.toNat=45;omega)
    rw [this,if_pos rfl]
   obtain ⟨d,w,rfl⟩:=List.exists_cons_of_ne_nil hne;have key:∀r:List UInt8,mN0 (hb r)=true∨hb r=45∨Jcj r=true→JC (c::r)=true:=by
    intro r hr;unfold JC;rw [Jd,if_neg (by omega),List.tail_cons]
    rcases hr with x|x|x
    ·rw [x,Bool.true_or]
    ·rw [decide_eq_true x,Bool.true_or,Bool.or_true]
    ·rw [x,Bool.or_true,Bool.or_true]
   apply key;rcases Zag (ZcL (c::d::w)) (0+1) d w with ⟨p1,p2,p3⟩|⟨_,p3⟩
   ·rw [p3,List.cons_append,Jd];rcases JcI p2 with y|y|y
    ·exact .inl y
    ·exfalso;apply p1;rw [zb4];rw [if_neg (by simp),Jd,if_neg (by rw [hD];decide),List.tail_cons,Jd,if_pos ⟨z,y⟩]
     rfl
    ·exact .inr (.inl y)
   ·rw [p3,List.append_assoc];exact .inr (.inr (JbI d _))
 ·rw [q3,List.append_assoc];exact jda c _
theorem JdT {a:List UInt8} (ha:a≠[]):Zaa a≠[]:=by
 intro z;have:=zF ha [];rw [z] at this;exact absurd this (by decide)
theorem zgQ (e i:Int) (w v:List UInt8) (hw:w≠[]):hb (zaN e i w++v)≠62:=by
 have:=Jiu e i w;obtain ⟨c,w,rfl⟩:=List.exists_cons_of_ne_nil hw;have hne:zaN e i (c::w)≠[]:=by
  simp only [zaN];split
  ·simp
  ·intro z;have:=(List.append_eq_nil_iff.1 z).1;unfold Zbm at this;cases this
 rw [Zab (by have:=List.length_pos_iff.2 hne;omega)]
 exact this
theorem Zh4 {a:List UInt8} (h:[45,45].isPrefixOf (Zaa a)=true):∃r,a=45::45::r∧Zaa a=45::45::zaN (ZcL a) (0+1+1) r:=by
 obtain ⟨t,ht⟩:=List.isPrefixOf_iff_prefix.1 h;cases a with
 | nil=>cases ht
 | cons c w=>
  unfold Zaa at ht ⊢;have e92:∀(d:UInt8) (r s:List UInt8),Zbm d++r=45::s→False:=fun d r s q=>by
   obtain ⟨x,y,hx,_⟩:=za2 d;rw [hx] at q;injection q with q1 q2
   exact absurd q1 (by decide)
  rcases Zag (ZcL (c::w)) 0 c w with ⟨q1,q2,q3⟩|⟨_,q3⟩
  ·rw [q3] at ht ⊢;simp only [List.cons_append,List.nil_append,List.cons.injEq] at ht;obtain ⟨rfl,ht⟩:=ht;cases w with
   | nil=>cases ht
   | cons d w=>
    rcases Zag (ZcL (45::d::w)) (0+1) d w with ⟨p1,p2,p3⟩|⟨_,p3⟩
    ·rw [p3] at ht ⊢;simp only [List.cons.injEq] at ht;obtain ⟨rfl,ht⟩:=ht;exact ⟨w,rfl,rfl⟩
    ·rw [p3] at ht;exact (e92 _ _ _ ht.symm).elim
  ·rw [q3] at ht;exact (e92 _ _ _ ht.symm).elim
theorem zdU {a:List UInt8} (ha:a≠[]) (v:List UInt8):[45,45,62].isPrefixOf (Zaa a++v)=(decide (a=[45,45])&&decide (hb v=62)):=by
 have hbp:∀x:List UInt8,[45,45,62].isPrefixOf x=true↔∃t,x=45::45::62::t:=fun x=>by
  rw [List.isPrefixOf_iff_prefix];exact ⟨fun ⟨t,q⟩=>⟨t,q.symm⟩,fun ⟨t,q⟩=>⟨t,q.symm⟩⟩
 have hz:∀x:List UInt8,hb x=62↔∃t,x=62::t:=fun x=>by
  cases x with
  | nil=>simp
  | cons c r=>
   constructor
   ·intro q;have:c=62:=UInt8.toNat_inj.mp (by have:(c.toNat:Int)=62:=q;show c.toNat=62;omega)
    exact ⟨r,by rw [this]⟩
   ·rintro ⟨t,q⟩;injection q with q1 q2
    subst q1;rfl
 rw [Bool.eq_iff_iff,Bool.and_eq_true,decide_eq_true_eq,decide_eq_true_eq,hbp];constructor
 ·rintro ⟨t,ht⟩;have hne:=JdT ha;have h2:[45,45].isPrefixOf (Zaa a)=true∨Zaa a=[45]:=by
   match hn:Zaa a with
   | []=>exact absurd hn hne
   | [x]=>right;rw [hn] at ht;injection ht with q1 q2;rw [q1]
   | x::y::r=>
    left;rw [hn] at ht;injection ht with q1 q2
    injection q2 with q2 q3
    rw [q1,q2];rfl
  rcases h2 with h2|h2
  ·obtain ⟨r,rfl,hn⟩:=Zh4 h2;rw [hn] at ht;simp only [List.cons_append,List.cons.injEq,true_and] at ht;cases r with
   | nil=>exact ⟨rfl,(hz v).2 ⟨t,by simpa [zaN] using ht⟩⟩
   | cons c r=>
    exfalso;have:=zgQ (ZcL (45::45::c::r)) (0+1+1) (c::r) v (by simp)
    rw [ht] at this;exact this rfl
  ·exfalso;have:=zF ha [];rw [h2] at this;exact absurd this (by decide)
 ·rintro ⟨rfl,h⟩;obtain ⟨t,rfl⟩:=(hz v).1 h;exact ⟨t,by rfl⟩
theorem Ze9 {x:List UInt8} (h:JC x=true):hb x≠47∧hb x≠60∧hb x≠35∧hb x≠64∧hb x≠34∧hb x≠39∧hb x≠10∧hb x≠9∧hb x≠32:=by
 rcases zcc h with q|q|⟨q,_⟩
 ·have:=zcJ q;omega
 ·omega
 ·omega
theorem jgQ {x:List UInt8} (h:JC x=true) (hc:[45,45,62].isPrefixOf x=false):jK x=Jau x:=by
 have hf:=Ze9 h;unfold jK;rw [if_neg (by unfold mSp;simp;omega),if_neg (by unfold mQ;simp;omega),if_neg (fun z=>hf.2.2.1 z.1)]
 unfold zfz;rw [je9 h,if_neg (by decide),hc,if_neg (by decide),if_neg (fun z=>hf.2.1 (jdT z))]
 unfold Jgf;rw [if_neg (fun z=>hf.2.2.2.1 z.1)]
 unfold zgI;rw [h,if_pos rfl]
theorem ZgQ {x:List UInt8} (h:[45,45,62].isPrefixOf x=true):jK x=(tk 15,3):=by
 obtain ⟨t,rfl⟩:=List.isPrefixOf_iff_prefix.1 h;have hn:jbm ([45,45,62]++t)=false:=rfl;unfold jK;rw [if_neg (by show ¬mSp 45=true;decide),if_neg (by show ¬mQ 45=true;decide),if_neg (by show ¬((45:Int)=35∧_);exact fun z=>absurd z.1 (by decide))]
 unfold zfz;rw [hn,if_neg (by decide),h,if_pos rfl]
theorem ZfC {a:List UInt8} (ha:a≠[]) (h0:(0:UInt8)∉a) {v:List UInt8} (hc:¬(a=[45,45]∧hb v=62)):jK (Zaa a++v)=Jau (Zaa a++v):=by
 refine jgQ (zF ha v) ?_;rw [zdU ha];by_cases q:a=[45,45]
 ·rw [decide_eq_false (fun z=>hc ⟨q,z⟩),Bool.and_false]
 ·rw [decide_eq_false q,Bool.false_and]
theorem jdU {a:List UInt8} (h0:(0:UInt8)∉a) (v:List UInt8) (hg:jH v=false):Jau (Zaa a++v)=if hb v≠40 then (tk 1 a,(Zaa a).length) else if Z3 a [117,114,108]&&!mQ (hb (v.tail.drop (nSp v.tail))) then ((jU v.tail).1,(Zaa a).length+1+(jU v.tail).2) else (tk 2 a,(Zaa a).length+1):=by
 unfold Jau;simp only [jcv h0,JaF hg,List.append_nil,Nat.add_zero,List.drop_left]
def zeE (a v:List UInt8):Prop:=jH v=false∧hb v≠40∧¬(a=[45,45]∧hb v=62)
theorem JgQ {a v:List UInt8} (ha:a≠[]) (h0:(0:UInt8)∉a) (h:zeE a v):jK (Zaa a++v)=(tk 1 a,(Zaa a).length):=by
 rw [ZfC ha h0 h.2.2,jdU h0 v h.1,if_pos h.2.1]
theorem Zda (w:List UInt8):(jU w).1.kind=7∨(jU w).1.kind=8:=by
 unfold jU;dsimp only;split
 ·exact .inl rfl
 ·split
  ·exact .inl rfl
  ·exact .inr rfl
theorem jb4 (x:List UInt8):(∃n,Jau x=(tk 1 (Zo x).1,n)∧n=(Zo x).2)∨(Jau x=(tk 2 (Zo x).1,(Zo x).2+1))∨(Jau x).1.kind=7∨(Jau x).1.kind=8:=by
 unfold Jau;dsimp only;split
 ·exact .inl ⟨_,rfl,rfl⟩
 ·split
  ·right;right;exact Zda _
  ·exact .inr (.inl rfl)
theorem Zhn {a v:List UInt8} (ha:a≠[]) (h0:(0:UInt8)∉a) (h:(jK (Zaa a++v)).1=tk 1 a):zeE a v:=by
 by_cases hc:a=[45,45]∧hb v=62
 ·exfalso;have:[45,45,62].isPrefixOf (Zaa a++v)=true:=by rw [zdU ha,decide_eq_true hc.1,decide_eq_true hc.2];rfl
  rw [ZgQ this] at h;exact absurd (congrArg Tok.kind h) (by simp [tk])
 ·rw [ZfC ha h0 hc] at h;have hr:=jcv h0 v;have hg:jH v=false:=by
   cases q:jH v with
   | false=>rfl
   | true=>
    exfalso;rcases jb4 (Zaa a++v) with ⟨n,e,_⟩|e|e|e
    ·rw [e,hr] at h;exact Zdo q (Jdo (congrArg Tok.text h))
    ·rw [e] at h;exact absurd (congrArg Tok.kind h) (by simp [tk])
    ·rw [h] at e;exact absurd e (by simp [tk])
    ·rw [h] at e;exact absurd e (by simp [tk])
  refine ⟨hg,?_,hc⟩;intro q;rw [jdU h0 v hg,if_neg (fun z=>z q)] at h
  split at h
  ·have:=Zda v.tail;rw [h] at this;exact absurd this (by simp [tk])
  ·exact absurd (congrArg Tok.kind h) (by simp [tk])
def ZiQ (a v:List UInt8):Prop:=Z3 a [117,114,108]=true→mQ (hb (v.drop (nSp v)))=true
theorem zgR {a:List UInt8} (ha:a≠[]) (h0:(0:UInt8)∉a) (v:List UInt8):jK (Zaa a++40::v)=if Z3 a [117,114,108]&&!mQ (hb (v.drop (nSp v))) then ((jU v).1,(Zaa a).length+1+(jU v).2) else (tk 2 a,(Zaa a).length+1):=by
 have hg:jH (40::v)=false:=by unfold jH Jcj;rfl
 rw [ZfC ha h0 (fun z=>absurd z.2 (by show ¬((40:Int)=62);decide)),jdU h0 _ hg,if_neg (fun z=>z rfl),List.tail_cons]
theorem JfC {a v:List UInt8} (ha:a≠[]) (h0:(0:UInt8)∉a) (h:ZiQ a v):jK (Zaa a++40::v)=(tk 2 a,(Zaa a).length+1):=by
 rw [zgR ha h0,if_neg];intro q;rw [Bool.and_eq_true,Bool.not_eq_true'] at q;rw [h q.1] at q;cases q.2
theorem JhC {a:List UInt8} (ha:a≠[]) (h0:(0:UInt8)∉a) (v:List UInt8):jK (64::(Zaa a++v))=(tk 3 (a++(Zo v).1),1+((Zaa a).length+(Zo v).2)):=by
 have hs:=zF ha v;unfold jK;rw [if_neg (by show ¬mSp 64=true;decide),if_neg (by show ¬mQ 64=true;decide),if_neg (fun z=>absurd z.1 (by show ¬((64:Int)=35);decide))]
 unfold zfz;have hn:jbm (64::(Zaa a++v))=false:=by
  unfold jbm jaa;simp only [Jd,List.tail_cons];rfl
 rw [hn,if_neg (by decide),if_neg (fun z=>absurd (jdT z) (by show ¬((64:Int)=45);decide)),if_neg (fun z=>absurd (jdT z) (by show ¬((64:Int)=60);decide))]
 unfold Jgf;rw [if_pos ⟨rfl,by rw [List.tail_cons];exact hs⟩,List.tail_cons,jcv h0]
theorem ziv {a v:List UInt8} (ha:a≠[]) (h0:(0:UInt8)∉a) (h:jH v=false):jK (64::(Zaa a++v))=(tk 3 a,(64::Zaa a).length):=by
 rw [JhC ha h0,JaF h,List.append_nil,List.length_cons,Nat.add_zero,Nat.add_comm]
theorem JiQ {a v:List UInt8} (ha:a≠[]) (h0:(0:UInt8)∉a) (h:(jK (64::(Zaa a++v))).1=tk 3 a):jH v=false:=by
 rw [JhC ha h0] at h;cases q:jH v with
 | false=>rfl
 | true=>exact absurd (Jdo (congrArg Tok.text h)) (Zdo q)
end Go.Proofs.YtmnegokadegioaaGreatDoor
set_option linter.unusedVariables false
set_option linter.unusedSimpArgs false
namespace Go.Proofs.YtmnegokadegioaaGreatDoor
open Go.Vm Go.Sx Go.RowKit
theorem zhD {w:List UInt8} (h:JC w=true):jH w=true:=by
 unfold jH;rcases zcc h with q|q|⟨q,_⟩
 ·unfold mN;rw [q];rfl
 ·unfold JC at h;rw [if_pos (by omega)] at h
  unfold mN;rcases Bool.or_eq_true _ _ |>.mp h with z|z
  ·rw [z];rfl
  ·rw [z,Bool.or_true]
 ·unfold mN;rw [q];simp
theorem Jbu (c:UInt8) (w:List UInt8):JC (c::w)=if (c.toNat:Int)≠45 then mN0 (c.toNat:Int)||Jcj (c::w) else mN0 (hb w)||(decide (hb w=45)||Jcj w):=rfl
theorem zc4 (c:UInt8) (w:List UInt8):jH (c::w)=(mN (c.toNat:Int)||Jcj (c::w)):=rfl
theorem jcJ (c:UInt8) (w:List UInt8):Jcj (c::w)=(decide ((c.toNat:Int)=92)&&decide (hb w≠10)):=rfl
theorem Jhn {v:List UInt8} (h:jH v=false):mN (hb v)=false∧Jcj v=false:=by unfold jH at h;simpa using h
theorem zho {c:Int} (h:mN c=false):mN0 c=false∧mD c=false∧c≠45:=by unfold mN at h;simpa using h
theorem zgc {t v:List UInt8} (ho:ZcL t≠-1) (hg:jH v=false):JC (zaN (-1) 0 t++v)=false∧jH (zaN (-1) 0 t++v)=true:=by
 obtain ⟨s1,s2⟩:=Jhn hg;obtain ⟨s3,s4,s5⟩:=zho s1;have raw:∀(c:UInt8) (w:List UInt8) (i:Int),0≤i→mN (c.toNat:Int)=true→zaN (-1) i (c::w)=c::zaN (-1) (i+1) w:=fun c w i hi hc=>by
  simp only [zaN];rw [if_pos ⟨by omega,hc⟩]
  rfl
 rw [zb4] at ho;split at ho
 ·rename_i h;subst h;rw [raw 45 [] 0 (by decide) (by decide)]
  simp only [zaN,List.singleton_append];rw [Jbu,zc4,if_neg (by decide),s3,decide_eq_false s5,s2]
  exact ⟨rfl,by rw [show mN ((45:UInt8).toNat:Int)=true from by decide];rfl⟩
 ·split at ho
  ·rename_i h;cases t with
   | nil=>exact absurd h (by decide)
   | cons c w=>
    have hc:mD (c.toNat:Int)=true:=h;have hm:mN (c.toNat:Int)=true:=by unfold mN;rw [hc];simp
    rw [raw c w 0 (by decide) hm,List.cons_append]
    unfold mD at hc;simp only [Bool.and_eq_true,decide_eq_true_eq] at hc;have:mN0 (c.toNat:Int)=false:=by unfold mN0 mL;simp;omega
    rw [Jbu,zc4,jcJ,if_pos (by omega),hm,this,decide_eq_false (by omega:¬(c.toNat:Int)=92)]
    exact ⟨rfl,rfl⟩
  ·split at ho
   ·rename_i h
    match t,h with
    | [],h=>exact absurd h.1 (by decide)
    | [c],h=>exact absurd h.2 (by show ¬mD 0=true;decide)
    | c::d::w,h=>
     have hc:(c.toNat:Int)=45:=h.1;have hd:mD (d.toNat:Int)=true:=h.2;have hmc:mN (c.toNat:Int)=true:=by rw [hc];decide
     have hmd:mN (d.toNat:Int)=true:=by unfold mN;rw [hd];simp
     rw [raw c _ 0 (by decide) hmc,raw d w (0+1) (by decide) hmd]
     unfold mD at hd;simp only [Bool.and_eq_true,decide_eq_true_eq] at hd;have h0:mN0 (d.toNat:Int)=false:=by unfold mN0 mL;simp;omega
     rw [List.cons_append,List.cons_append,Jbu,zc4,hmc,if_neg (by omega),jcJ d,Jd,h0,decide_eq_false (by omega:¬(d.toNat:Int)=45),decide_eq_false (by omega:¬(d.toNat:Int)=92)]
     exact ⟨rfl,rfl⟩
   ·exact absurd rfl ho
theorem jho {t v:List UInt8} {f:Bool} (ht:t≠[]) (h0:(0:UInt8)∉t) (hf:f=true∨ZcL t≠-1) (hg2:f=false→jH v=false) :
  ∃b,jK (JcG t f++v)=(tk 4 (t++(Zo v).1) 0 [] b,(JcG t f).length+(Zo v).2)∧(jH v=false∨f=true→b=f):=by
 cases f with
 | true=>
  have hs:=zF ht v;refine ⟨true,?_,fun _=>rfl⟩
  show jK (35::(Zaa t++v))=_;unfold jK;rw [if_neg (by show ¬mSp 35=true;decide),if_neg (by show ¬mQ 35=true;decide),if_pos ⟨rfl,by rw [List.tail_cons];exact zhD hs⟩,List.tail_cons,jcv h0,hs]
  refine Prod.ext rfl ?_;show 1+((Zaa t).length+(Zo v).2)=(35::Zaa t).length+(Zo v).2;rw [List.length_cons];omega
 | false=>
  have hg:=hg2 rfl;obtain ⟨q1,q2⟩:=zgc (hf.resolve_left (by decide)) hg
  refine ⟨false,?_,fun _=>rfl⟩
  show jK (35::(zaN (-1) 0 t++v))=_;unfold jK;rw [if_neg (by show ¬mSp 35=true;decide),if_neg (by show ¬mQ 35=true;decide),if_pos ⟨rfl,by rw [List.tail_cons];exact q2⟩,List.tail_cons,ZdT (-1) t 0 v h0 (zbg _ _ _ (by decide)),q1]
  refine Prod.ext rfl ?_;show 1+((zaN (-1) 0 t).length+(Zo v).2)=(35::zaN (-1) 0 t).length+(Zo v).2;rw [List.length_cons];omega
theorem Zho {t v:List UInt8} {f:Bool} (ht:t≠[]) (h0:(0:UInt8)∉t) (hf:f=true∨ZcL t≠-1) (hg:jH v=false):jK (JcG t f++v)=(tk 4 t 0 [] f,(JcG t f).length):=by
 obtain ⟨b,h1,h2⟩:=jho ht h0 hf (fun _=>hg)
 rw [h1,h2 (.inl hg),JaF hg,List.append_nil,Nat.add_zero]
theorem jgR (t v:List UInt8) (h0:(0:UInt8)∉t):Zo (zaN (-1) 0 t++v)=(t++(Zo v).1,(zaN (-1) 0 t).length+(Zo v).2):=ZdT (-1) t 0 v h0 (zbg _ _ _ (by decide))
theorem ziR (t v:List UInt8) (ht:t≠[]):jH (zaN (-1) 0 t++v)=true:=by
 obtain ⟨c,w,rfl⟩:=List.exists_cons_of_ne_nil ht;rcases Zag (-1) 0 c w with ⟨_,q2,q3⟩|⟨_,q3⟩
 ·rw [q3,List.cons_append];unfold jH;rw [Jd,q2,Bool.true_or]
 ·rw [q3,List.append_assoc];unfold jH;rw [JbI,Bool.or_true]
theorem Jh4 {t v:List UInt8} {f:Bool} (ht:t≠[]) (h0:(0:UInt8)∉t) (h:(jK (JcG t f++v)).1=tk 4 t 0 [] f):jH v=false:=by
 have key:∀x:List UInt8,jH x=true→(Zo x).1=t++(Zo v).1→(jK (35::x)).1=tk 4 t 0 [] f→jH v=false:=fun x hx hn hh=>by
  unfold jK at hh;rw [if_neg (by show ¬mSp 35=true;decide),if_neg (by show ¬mQ 35=true;decide),if_pos ⟨rfl,by rw [List.tail_cons];exact hx⟩,List.tail_cons,hn] at hh
  cases q:jH v with
  | false=>rfl
  | true=>exact absurd (Jdo (congrArg Tok.text hh)) (Zdo q)
 cases f with
 | true=>exact key (Zaa t++v) (zhD (zF ht v)) (by rw [jcv h0]) h
 | false=>exact key (zaN (-1) 0 t++v) (ziR t v ht) (by rw [jgR t v h0]) h
theorem jeg:∀(t v:List UInt8),(0:UInt8)∉t→strM 34 (Zci t++34::v)=(true,t,(Zci t).length+1)
 | [],v,_=>by
  show strM 34 (34::v)=_;rw [strM.eq_def 34 (34::v)];dsimp only;rw [if_pos (by decide)]
  rfl
 | c::t,v,h0=>by
  have h0':(0:UInt8)∉t:=fun z=>h0 (List.mem_cons_of_mem _ z)
  have hc:c≠0:=fun z=>h0 (by rw [z];exact List.mem_cons_self ..)
  have ih:=jeg t v h0';simp only [Zci];by_cases q:c∈[10,12,13,34,92]
  ·rw [if_pos q];have h128:(c.toNat:Int)<128:=by
    simp only [List.mem_cons,List.not_mem_nil,or_false] at q;rcases q with rfl|rfl|rfl|rfl|rfl <;> decide
   obtain ⟨d,r,he,hd⟩:=za2 c;have hr:=JeD c hc h128 (Zci t++34::v);rw [he] at hr ⊢;simp only [List.tail_cons,List.cons_append,List.append_assoc] at hr ⊢;rw [strM.eq_def 34 (92::d::(r++(Zci t++34::v)))];dsimp only;rw [if_neg (by decide),if_neg (by decide),if_neg (by simp),if_neg hd,hr]
   have hdrop:(d::(r++(Zci t++34::v))).drop ((92::d::r).length-1)=Zci t++34::v:=by
    have:(92::d::r).length-1=(d::r).length:=by simp
    rw [this,←List.cons_append,List.drop_left]
   rw [hdrop,ih];refine Prod.ext rfl (Prod.ext rfl ?_);simp only [List.length_cons,List.length_append];omega
  ·rw [if_neg q];simp only [List.mem_cons,List.not_mem_nil,or_false,not_or] at q;have hne:∀k:UInt8,c≠k→¬(c.toNat:Int)=(k.toNat:Int):=fun k h z=>h (UInt8.toNat_inj.mp (by omega))
   rw [List.singleton_append,List.cons_append,strM.eq_def 34 (c::(Zci t++34::v))];dsimp only;have g1:¬(c.toNat:Int)=34:=hne 34 q.2.2.2.1;have g2:¬(c.toNat:Int)=10:=hne 10 q.1;have g3:¬(c.toNat:Int)=92:=hne 92 q.2.2.2.2;rw [if_neg g1,if_neg g2,if_pos g3,ih];refine Prod.ext rfl (Prod.ext rfl ?_);simp only [List.length_cons];omega
theorem zfD {t v:List UInt8} (h0:(0:UInt8)∉t):jK (34::(Zci t++[34])++v)=(tk 5 t,(34::(Zci t++[34])).length):=by
 have e:34::(Zci t++[34])++v=34::(Zci t++34::v):=by simp
 rw [e];unfold jK;rw [if_neg (by show ¬mSp 34=true;decide),if_pos (by show mQ 34=true;decide)]
 show ((if (strM 34 (Zci t++34::v)).1=true then tk 5 (strM 34 (Zci t++34::v)).2.1 else tk 6),1+(strM 34 (Zci t++34::v)).2.2)=_
 rw [jeg t v h0,if_pos rfl];refine Prod.ext rfl ?_;simp only [List.length_cons,List.length_append,List.length_nil];omega
theorem ZgR:∀(t v:List UInt8),(0:UInt8)∉t→Jct (zcu t++41::v)=(t,(zcu t).length)
 | [],v,_=>by
  show Jct (41::v)=_;rw [Jct];rw [if_pos (by decide)]
  rfl
 | c::t,v,h0=>by
  have h0':(0:UInt8)∉t:=fun z=>h0 (List.mem_cons_of_mem _ z)
  have hc:c≠0:=fun z=>h0 (by rw [z];exact List.mem_cons_self ..)
  have ih:=ZgR t v h0';simp only [zcu];by_cases q:c.toNat≤32∨c∈[34,39,40,41,92,127]
  ·rw [if_pos q];have h128:(c.toNat:Int)<128:=by
    rcases q with q|q
    ·omega
    ·simp only [List.mem_cons,List.not_mem_nil,or_false] at q;rcases q with rfl|rfl|rfl|rfl|rfl|rfl <;> decide
   obtain ⟨d,r,he,hd⟩:=za2 c;have hr:=JeD c hc h128 (zcu t++41::v);have hs:=JbI c (zcu t++41::v);rw [he] at hr hs ⊢;simp only [List.tail_cons,List.cons_append,List.append_assoc] at hr hs ⊢;rw [Jct];rw [if_neg (by decide),if_neg (by decide),if_pos hs,hr]
   have hdrop:(d::(r++(zcu t++41::v))).drop ((92::d::r).length-1)=zcu t++41::v:=by
    have:(92::d::r).length-1=(d::r).length:=by simp
    rw [this,←List.cons_append,List.drop_left]
   simp only;rw [hdrop,ih];refine Prod.ext rfl ?_;simp only [List.length_cons,List.length_append];omega
  ·rw [if_neg q];simp only [List.mem_cons,List.not_mem_nil,or_false,not_or] at q;have hne:∀k:UInt8,c≠k→¬(c.toNat:Int)=(k.toNat:Int):=fun k h z=>h (UInt8.toNat_inj.mp (by omega))
   have h1:=hne 34 q.2.1;have h2:=hne 39 q.2.2.1;have h3:=hne 40 q.2.2.2.1;have h4:=hne 41 q.2.2.2.2.1;have h5:=hne 92 q.2.2.2.2.2.1;have h6:=hne 127 q.2.2.2.2.2.2;have h7:=q.1;have e34:((34:UInt8).toNat:Int)=34:=rfl;have e39:((39:UInt8).toNat:Int)=39:=rfl;have e40:((40:UInt8).toNat:Int)=40:=rfl;have e41:((41:UInt8).toNat:Int)=41:=rfl;have e92:((92:UInt8).toNat:Int)=92:=rfl;have e127:((127:UInt8).toNat:Int)=127:=rfl;have hsp:mSp (c.toNat:Int)=false:=by unfold mSp;simp;omega
   have hes:Jcj (c::(zcu t++41::v))=false:=by unfold Jcj;rw [Jd,decide_eq_false (by omega)];rfl
   have hspo:Jd9 (c.toNat:Int)=false:=by unfold Jd9;simp;omega
   rw [List.singleton_append,List.cons_append,Jct];rw [if_neg (by omega),hsp,if_neg (by decide),hes,if_neg (by decide),hspo,if_neg (by decide),ih]
   refine Prod.ext rfl ?_;simp only [List.length_cons];omega
theorem JgR (t v:List UInt8):mSp (hb (zcu t++41::v))=false∧mQ (hb (zcu t++41::v))=false:=by
 cases t with
 | nil=>exact ⟨by show mSp 41=false;decide,by show mQ 41=false;decide⟩
 | cons c t=>
  simp only [zcu];by_cases q:c.toNat≤32∨c∈[34,39,40,41,92,127]
  ·rw [if_pos q];obtain ⟨d,r,he,hd⟩:=za2 c;rw [he];exact ⟨by show mSp 92=false;decide,by show mQ 92=false;decide⟩
  ·rw [if_neg q];simp only [List.mem_cons,List.not_mem_nil,or_false,not_or] at q;have hne:∀k:UInt8,c≠k→¬(c.toNat:Int)=(k.toNat:Int):=fun k h z=>h (UInt8.toNat_inj.mp (by omega))
   have h1:¬(c.toNat:Int)=34:=hne 34 q.2.1;have h2:¬(c.toNat:Int)=39:=hne 39 q.2.2.1;have h7:=q.1;rw [List.singleton_append,List.cons_append,Jd];exact ⟨by unfold mSp;simp;omega,by unfold mQ;simp;omega⟩
theorem zh5 {t v:List UInt8} (h0:(0:UInt8)∉t):jK ([117,114,108,40]++(zcu t++[41])++v)=(tk 7 t,([117,114,108,40]++(zcu t++[41])).length):=by
 have e:[117,114,108,40]++(zcu t++[41])++v=Zaa [117,114,108]++40::(zcu t++41::v):=by
  have:Zaa [117,114,108]=[117,114,108]:=by decide
  rw [this];simp
 obtain ⟨f1,f2⟩:=JgR t v;have hn:nSp (zcu t++41::v)=0:=by
  cases hx:zcu t++41::v with
  | nil=>rfl
  | cons c w=>rw [hx,Jd] at f1;simp only [nSp];rw [f1];rfl
 rw [e,zgR (by simp) (by decide),hn,List.drop_zero,f2,if_pos (by decide)]
 have hr:jU (zcu t++41::v)=(tk 7 t,(zcu t).length+1):=by
  unfold jU;simp only [hn,List.drop_zero,ZgR t v h0,Nat.zero_add,List.drop_left];rw [if_neg (by simp),if_pos (by rfl)]
 rw [hr];refine Prod.ext rfl ?_;have:(Zaa [117,114,108]).length=3:=by decide
 simp only [this,List.length_cons,List.length_append,List.length_nil]
theorem zfU (c:UInt8) (hc:c=32∨c=10) (v:List UInt8):jK (c::v)=(tk 13,1+nSp v):=by
 unfold jK;rcases hc with rfl|rfl
 ·rw [if_pos (by show mSp 32=true;decide)]
  simp only [nSp];rw [if_pos (by decide),Nat.add_comm]
 ·rw [if_pos (by show mSp 10=true;decide)]
  simp only [nSp];rw [if_pos (by decide),Nat.add_comm]
theorem jh5 (v:List UInt8):jK ([60,33,45,45]++v)=(tk 14,4):=by
 have hn:jbm ([60,33,45,45]++v)=false:=rfl;unfold jK;rw [if_neg (by show ¬mSp 60=true;decide),if_neg (by show ¬mQ 60=true;decide),if_neg (fun z=>absurd z.1 (by show ¬((60:Int)=35);decide))]
 unfold zfz;rw [hn,if_neg (by decide),if_neg (by show ¬([45,45,62].isPrefixOf (60::_)=true);simp [List.isPrefixOf]),if_pos (by simp [List.isPrefixOf])]
theorem jfD {c:UInt8} {v:List UInt8} (h1:mSp (c.toNat:Int)=false) (h2:mQ (c.toNat:Int)=false) (h3:¬((c.toNat:Int)=35∧jH v=true)) (h4:jbm (c::v)=false) (h5:[45,45,62].isPrefixOf (c::v)=false) (h6:[60,33,45,45].isPrefixOf (c::v)=false) (h7:¬((c.toNat:Int)=64∧JC v=true)) (h8:JC (c::v)=false) :
  jK (c::v)=if ZcG (c.toNat:Int)≠0 then (tk (ZcG (c.toNat:Int)),1) else (tk 9 [c],1):=by
 unfold jK;rw [Jd,h1,if_neg (by decide),h2,if_neg (by decide),List.tail_cons,if_neg h3]
 unfold zfz;rw [h4,if_neg (by decide),h5,if_neg (by decide),h6,if_neg (by decide)]
 unfold Jgf;rw [Jd,List.tail_cons,if_neg h7];unfold zgI;rw [h8,if_neg (by decide)]
 rfl
end Go.Proofs.YtmnegokadegioaaGreatDoor
set_option linter.unusedVariables false
set_option linter.unusedSimpArgs false
namespace Go.Proofs.YtmnegokadegioaaGreatDoor
open Go.Vm Go.Sx Go.RowKit
def Zcv (v:List UInt8):Bool:=mE (hb v)&&Zd9 v.tail
theorem zba (V W:List UInt8):jH (V++47::W)=jH V:=by
 rcases V with _|⟨a,_|⟨b,r⟩⟩ <;> simp [jH,Jcj,mN,mN0,mL,mD] <;> rfl
theorem Jcv (V W:List UInt8):JC (V++47::W)=JC V:=by
 rcases V with _|⟨a,_|⟨b,_|⟨c,r⟩⟩⟩ <;> simp [JC,Jcj,mN0,mL,mD] <;> rfl
theorem ZfD (V W:List UInt8):jaa (V++47::W)=jaa V:=by
 rcases V with _|⟨a,_|⟨b,r⟩⟩ <;> simp [jaa,mD] <;> rfl
theorem jgc (V W:List UInt8):jbm (V++47::W)=jbm V:=by
 rcases V with _|⟨a,_|⟨b,_|⟨c,r⟩⟩⟩ <;> simp [jbm,jaa,mD,mSg] <;> rfl
theorem Zgc (V W:List UInt8):Zd9 (V++47::W)=Zd9 V:=by
 rcases V with _|⟨a,_|⟨b,r⟩⟩ <;> simp [Zd9,mD,mSg] <;> rfl
theorem Jgc (V W:List UInt8):Zcv (V++47::W)=Zcv V:=by
 rcases V with _|⟨a,r⟩
 ·simp [Zcv,mE]
 ·simp only [Zcv,List.cons_append,Jd,List.tail_cons,Zgc]
theorem zbJ {V:List UInt8} (W:List UInt8) (P:Int→Prop) (h0:¬P 47) (h:¬P (hb V)):¬P (hb (V++47::W)):=by
 cases V with
 | nil=>exact h0
 | cons a r=>exact h
theorem zgS (V W:List UInt8):[45,45,62].isPrefixOf (V++47::W)=[45,45,62].isPrefixOf V:=by
 rcases V with _|⟨a,_|⟨b,_|⟨c,r⟩⟩⟩ <;> simp [List.isPrefixOf] <;> rfl
theorem jgS (V W:List UInt8):[60,33,45,45].isPrefixOf (V++47::W)=[60,33,45,45].isPrefixOf V:=by
 rcases V with _|⟨a,_|⟨b,_|⟨c,_|⟨d,r⟩⟩⟩⟩ <;> simp [List.isPrefixOf] <;> rfl
theorem jfU {u v:List UInt8} (h:3≤u.length):Zcv (u++v)=Zcv u:=by
 unfold Zcv;rw [Zab (by omega),zeb (by omega),Jhl (by rw [zda];omega)]
theorem ZcJ {v:List UInt8} (h:Zcv v=false):Zbb v=(0,0):=by
 unfold Zcv at h;unfold Zbb;rw [if_neg (by rw [h];decide)]
def zdk (c:UInt8) (v:List UInt8):Prop:=
 ¬((c.toNat:Int)=35∧jH v=true)∧jbm (c::v)=false∧[45,45,62].isPrefixOf (c::v)=false∧[60,33,45,45].isPrefixOf (c::v)=false∧
 ¬((c.toNat:Int)=64∧JC v=true)∧JC (c::v)=false∧¬((c.toNat:Int)=47∧hb v=42)
theorem JfD {c:UInt8} {v:List UInt8} (W:List UInt8) (h:zdk c v):zdk c (v++47::W):=by
 obtain ⟨h1,h2,h3,h4,h5,h6,h7⟩:=h;unfold zdk;rw [zba,←List.cons_append,jgc,zgS,jgS,Jcv,Jcv];refine ⟨h1,h2,h3,h4,h5,h6,fun z=>?_⟩
 exact zbJ W (fun x=>x=42) (by decide) (fun q=>h7 ⟨z.1,q⟩) z.2
theorem ZgS {c:UInt8} {v:List UInt8} (W:List UInt8) (hl:3≤v.length):zdk c (v++W)↔zdk c v:=by
 unfold zdk;rw [Jb3 (by omega),←List.cons_append,Zhl (by rw [List.length_cons];omega),zhm (by rw [List.length_cons];omega),jhm (by rw [List.length_cons];omega),jdS (by omega),jdS (by rw [List.length_cons];omega),Zab (by omega)]
theorem Zh5 (c:UInt8) (h:c∉marksT):ZcG (c.toNat:Int)=0:=by
 have key:∀n:Nat,n<126→UInt8.ofNat n∉marksT→marksA.getD n 0=0:=by decide +kernel
 unfold ZcG;split
 ·rename_i q;have:=key c.toNat (by omega) (by rw [UInt8.ofNat_toNat];exact h)
  rw [Int.toNat_natCast];exact this
 ·rfl
structure DelOK (c:UInt8):Prop where
 sp:mSp (c.toNat:Int)=false
 q:mQ (c.toNat:Int)=false
 n0:mN0 (c.toNat:Int)=false
 d:mD (c.toNat:Int)=false
 nm:c∉marksT
 z:c≠12∧c≠13
theorem Jh5 {s:List UInt8} (h:jgI s=true):∃c,s=[c]∧DelOK c:=by
 unfold jgI at h;split at h
 ·rename_i b;simp only [Bool.and_eq_true,Bool.not_eq_true',List.contains_eq_mem,decide_eq_false_iff_not,List.mem_append,not_or] at h;obtain ⟨h1,h2,h3,h4,h5,h6⟩:=h;refine ⟨b,rfl,h1,h2,h3,h4,h6,?_⟩;simp only [List.mem_cons,List.not_mem_nil,or_false,not_or] at h5;exact h5
 ·cases h
theorem zh6 {c:UInt8} {v:List UInt8} (hc:DelOK c) (h:zdk c v):jK (c::v)=(tk 9 [c],1):=by
 obtain ⟨h1,h2,h3,h4,h5,h6,h7⟩:=h;rw [jfD hc.sp hc.q h1 h2 h3 h4 h5 h6,Zh5 c hc.nm,if_neg (by decide)]
theorem Jda (w:List UInt8):(Zs w).1.kind=10∨(Zs w).1.kind=11∨(Zs w).1.kind=12:=by
 unfold Zs;dsimp only;split
 ·exact .inr (.inr rfl)
 ·split
  ·exact .inr (.inl rfl)
  ·exact .inl rfl
theorem zgd (w:List UInt8):(Jau w).1.kind=1∨(Jau w).1.kind=2∨(Jau w).1.kind=7∨(Jau w).1.kind=8:=by
 rcases jb4 w with ⟨n,h,_⟩|h|h|h
 ·rw [h];exact .inl rfl
 ·rw [h];exact .inr (.inl rfl)
 ·exact .inr (.inr (.inl h))
 ·exact .inr (.inr (.inr h))
theorem jiv {c:UInt8} {v:List UInt8} (hc:DelOK c) (hcm:Zax (c::v)=0) (h:(jK (c::v)).1=tk 9 [c]):zdk c v:=by
 have h9:(jK (c::v)).1.kind=9:=by rw [h];rfl
 unfold jK at h9;rw [Jd,hc.sp,if_neg (by decide),hc.q,if_neg (by decide),List.tail_cons] at h9
 have h1:¬((c.toNat:Int)=35∧jH v=true):=by
  intro z;rw [if_pos z] at h9;exact absurd h9 (by show ¬(4:Int)=9;decide)
 rw [if_neg h1] at h9;unfold zfz at h9;cases h2:jbm (c::v) with
 | true=>
  rw [h2,if_pos rfl] at h9;have:=Jda (c::v);omega
 | false=>
  rw [h2,if_neg (by decide)] at h9
  cases h3:[45,45,62].isPrefixOf (c::v) with
  | true=>rw [h3,if_pos rfl] at h9;exact absurd h9 (by decide)
  | false=>
   rw [h3,if_neg (by decide)] at h9
   cases h4:[60,33,45,45].isPrefixOf (c::v) with
   | true=>rw [h4,if_pos rfl] at h9;exact absurd h9 (by decide)
   | false=>
    rw [h4,if_neg (by decide)] at h9
    unfold Jgf at h9;rw [Jd,List.tail_cons] at h9;by_cases h5:(c.toNat:Int)=64∧JC v=true
    ·rw [if_pos h5] at h9;exact absurd h9 (by show ¬(3:Int)=9;decide)
    rw [if_neg h5] at h9;unfold zgI at h9;cases h6:JC (c::v) with
    | true=>
     rw [h6,if_pos rfl] at h9;have:=zgd (c::v);omega
    | false=>
     refine ⟨h1,h2,h3,h4,h5,h6,fun z=>?_⟩
     have hc47:c=47:=UInt8.toNat_inj.mp (by show c.toNat=47;omega)
     cases v with
     | nil=>exact absurd z.2 (by decide)
     | cons d w=>
      have hd:d=42:=UInt8.toNat_inj.mp (by have:=z.2;rw [Jd] at this;show d.toNat=42;omega)
      subst hc47 hd;unfold Zax at hcm;rw [if_pos (by simp [List.isPrefixOf])] at hcm
      split at hcm
      ·simp at hcm
      ·rw [if_neg (by simp)] at hcm;omega
theorem JaM {w:List UInt8} (h:¬(hb w=47∧hb w.tail=42)):Zax w=0:=by
 unfold Zax;rw [if_neg];intro z;apply h;rcases w with _|⟨a,_|⟨b,r⟩⟩
 ·cases z
 ·simp [List.isPrefixOf] at z
 ·simp only [List.isPrefixOf,Bool.and_eq_true,beq_iff_eq] at z;obtain ⟨rfl,rfl,-⟩:=z;exact ⟨rfl,rfl⟩
theorem Jho {k:Int} (hk:16≤k∧k≤24) (v:List UInt8):jK ([marksT.getD (k-16).toNat 0]++v)=(tk k,1):=by
 obtain ⟨n,rfl⟩:∃n:Nat,k=16+(n:Int):=⟨(k-16).toNat,by omega⟩
 have hn:n<9:=by omega
 have key:∀n:Nat,n<9→(let c:=marksT.getD n 0;mSp (c.toNat:Int)=false∧mQ (c.toNat:Int)=false∧mSg (c.toNat:Int)=false∧mD (c.toNat:Int)=false∧mN0 (c.toNat:Int)=false∧ZcG (c.toNat:Int)=16+(n:Int)∧c≠35∧c≠64∧c≠45∧c≠60∧c≠92∧c≠46):=by decide +kernel
 obtain ⟨k1,k2,k3,k4,k5,k6,k7,k8,k9,k10,k11,k12⟩:=key n hn;rw [show (16+(n:Int)-16).toNat=n by omega]
 generalize marksT.getD n 0=c at *;have hne:∀j:UInt8,c≠j→¬(c.toNat:Int)=(j.toNat:Int):=fun j h z=>h (UInt8.toNat_inj.mp (by omega))
 have e35:¬(c.toNat:Int)=35:=hne 35 k7;have e64:¬(c.toNat:Int)=64:=hne 64 k8;have e45:¬(c.toNat:Int)=45:=hne 45 k9;have e92:¬(c.toNat:Int)=92:=hne 92 k11;have e46:¬(c.toNat:Int)=46:=hne 46 k12;rw [List.singleton_append,jfD k1 k2 (fun z=>e35 z.1) ?_ ?_ ?_ (fun z=>e64 z.1) ?_,k6,if_pos (by omega)]
 ·simp only [jbm,Jd,k3,jaa,k4,e46];simp
 ·simp only [List.isPrefixOf];rw [show ((45:UInt8)==c)=false from by rw [beq_eq_false_iff_ne];exact Ne.symm k9];rfl
 ·simp only [List.isPrefixOf];rw [show ((60:UInt8)==c)=false from by rw [beq_eq_false_iff_ne];exact Ne.symm k10];rfl
 ·simp only [JC,Jd,k5,Jcj,e92];simp;exact fun z=>absurd z e45
theorem jh6 (v:List UInt8):jK ([45,45,62]++v)=(tk 15,3):=ZgQ (by simp [List.isPrefixOf])
end Go.Proofs.YtmnegokadegioaaGreatDoor
