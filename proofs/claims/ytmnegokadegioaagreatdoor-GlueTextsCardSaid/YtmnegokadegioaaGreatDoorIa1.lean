/-
 Tokens look at most three bytes behind what they take: the model. Nothing is claimed here.
-/
import Derived.Test.YtmnegokadegioaaGreatDoorWa1
import Derived.Test.YtmnegokadegioaaGreatDoorHa1
set_option linter.unusedVariables false
set_option linter.unusedSimpArgs false
namespace Go.Proofs.YtmnegokadegioaaGreatDoor
open Go.Vm Go.Sx Go.RowKit
theorem Zad {u v:List UInt8} (h:1≤u.length):hb (u++v)=hb u:=by
 cases u with
 | nil=>simp at h
 | cons c w=>rfl
theorem jee {u v:List UInt8} (h:1≤u.length):(u++v).tail=u.tail++v:=by
 cases u with
 | nil=>simp at h
 | cons c w=>rfl
theorem jdc (u:List UInt8):u.tail.length=u.length-1:=List.length_tail
theorem ZeG {u v:List UInt8} (h:2≤u.length):jcn (u++v)=jcn u:=by
 unfold jcn;rw [Zad (by omega),jee (by omega),Zad (by rw [jdc];omega)]
theorem Jb6 {u v:List UInt8} (h:2≤u.length):zI (u++v)=zI u:=by
 unfold zI;rw [Zad (by omega),ZeG h]
theorem ZdU {u v:List UInt8} (h:3≤u.length):ZE (u++v)=ZE u:=by
 unfold ZE;rw [Zad (by omega),ZeG (by omega),jee (by omega),Zad (by rw [jdc];omega),ZeG (by rw [jdc];omega)]
theorem JdU {u v:List UInt8} (h:2≤u.length):Zac (u++v)=Zac u:=by
 unfold Zac;rw [Zad (by omega),jee (by omega),Zad (by rw [jdc];omega)]
theorem Jhp {u v:List UInt8} (h:3≤u.length):Jbo (u++v)=Jbo u:=by
 unfold Jbo;rw [Zad (by omega),JdU (by omega),jee (by omega),Zad (by rw [jdc];omega),JdU (by rw [jdc];omega)]
theorem zhq {u v:List UInt8} (h:2≤u.length):Jec (u++v)=Jec u:=by
 unfold Jec;rw [Zad (by omega),jee (by omega),Zad (by rw [jdc];omega)]
theorem digs_app:∀{u v:List UInt8},(ZF u).length<u.length→ZF (u++v)=ZF u
 | [],v,h=>by simp at h
 | c::w,v,h=>by
  unfold ZF at h ⊢;rw [List.cons_append,List.takeWhile_cons,List.takeWhile_cons];rw [List.takeWhile_cons] at h;by_cases q:mD (c.toNat:Int)=true
  ·simp only [if_pos q] at h ⊢;rw [List.length_cons,List.length_cons] at h;have:=digs_app (u:=w) (v:=v) (by unfold ZF;omega)
   unfold ZF at this;rw [this]
  ·simp only [if_neg q]
end Go.Proofs.YtmnegokadegioaaGreatDoor
set_option linter.unusedVariables false
set_option linter.unusedSimpArgs false
namespace Go.Proofs.YtmnegokadegioaaGreatDoor
open Go.Vm Go.Sx Go.RowKit
theorem jhq {a b c:UInt8} {u v:List UInt8} (h:3≤u.length):[a,b,c].isPrefixOf (u++v)=[a,b,c].isPrefixOf u:=by
 match u,h with
 | x::y::z::w,_=>simp [List.isPrefixOf]
theorem Zhq {a b c d:UInt8} {u v:List UInt8} (h:4≤u.length):[a,b,c,d].isPrefixOf (u++v)=[a,b,c,d].isPrefixOf u:=by
 match u,h with
 | x::y::z::t::w,_=>simp [List.isPrefixOf]
end Go.Proofs.YtmnegokadegioaaGreatDoor
set_option linter.unusedVariables false
set_option linter.unusedSimpArgs false
namespace Go.Proofs.YtmnegokadegioaaGreatDoor
open Go.Vm Go.Sx Go.RowKit
def ziU (u:List UInt8):Option (Tok×List UInt8):=match u.drop (Jat u) with
 | []=>none
 | c::w=>some ((JK (c::w)).1,(c::w).drop (JK (c::w)).2)
inductive Reads:List UInt8→List Tok→List UInt8→Prop where
 | nil (u:List UInt8):Reads u [] u
 | cons {u r s:List UInt8} {t:Tok} {L:List Tok}:ziU u=some (t,r)→Reads r L s→Reads u (t::L) s
theorem Reads.trans {u r s:List UInt8} {L M:List Tok} (h:Reads u L r) (k:Reads r M s):Reads u (L++M) s:=by
 induction h with
 | nil u=>exact k
 | cons h1 _ ih=>exact .cons h1 (ih k)
end Go.Proofs.YtmnegokadegioaaGreatDoor
set_option linter.unusedVariables false
namespace Go.Proofs.YtmnegokadegioaaGreatDoor
open Go.Vm Go.Sx Go.RowKit
theorem jiU (c:UInt8):UInt8.ofNat (c.toNat:Int).toNat=c:=by simp
theorem zaY:∀d,d<16→zcO ((zda d).toNat:Int)=((d:Int),true)∧((zda d).toNat:Int)≠10∧((zda d).toNat:Int)≠0∧((zda d).toNat:Int)≠12∧((zda d).toNat:Int)≠13:=by decide
theorem zfG (k:Nat) (d:Nat) (hd:d<16) (w:List UInt8) (a:Int):ZB (k+1) (zda d::w) a=((ZB k w (a*16+d)).1,(ZB k w (a*16+d)).2+1):=by
 simp only [ZB,je,(zaY d hd).1,if_true,List.tail_cons]
theorem jgT (k:Nat) (r:List UInt8) (a:Int):ZB (k+1) (32::r) a=(a,0):=by
 have h:(zcO (hb (32::r))).2=false:=rfl;unfold ZB;rw [if_neg (by rw [h];decide)]
theorem zh8:∀c:UInt8,(33≤(c.toNat:Int)∧(c.toNat:Int)≤126)∧mD (c.toNat:Int)=false∧mL (c.toNat:Int)=false→(zcO (c.toNat:Int)).2=false:=by
 intro c h;obtain ⟨h1,h2,h3⟩:=h;unfold zcO;rw [if_neg (by rw [h2];decide)]
 unfold mL at h3;simp only [Bool.or_eq_false_iff,Bool.and_eq_false_iff,decide_eq_false_iff_not] at h3;rw [if_neg (by omega),if_neg (by omega)]
theorem JeG (c:UInt8) (h0:c≠0) (h1:(c.toNat:Int)<128) (r:List UInt8):Jai ((zbp c).tail++r)=([c],(zbp c).length-1):=by
 have hc0:¬(c.toNat:Int)=0:=fun z=>h0 (UInt8.toNat_inj.mp (by show c.toNat=0;omega))
 unfold zbp;simp only [List.tail_cons,List.length_cons];by_cases q:(33≤(c.toNat:Int)∧(c.toNat:Int)≤126)∧mD (c.toNat:Int)=false∧mL (c.toNat:Int)=false
 ·rw [if_pos q];show Jgb c r=_;unfold Jgb;rw [if_neg (by rw [zh8 c q];decide)]
  rfl
 ·rw [if_neg q];have e8:zd8 (c.toNat:Int)=[c]:=by
   unfold zd8;rw [if_pos (by omega)]
   show [UInt8.ofNat (c.toNat:Int).toNat]=_;rw [jiU]
  by_cases hu:c.toNat<16
  ·have hl:jda c.toNat=[zda c.toNat]:=by unfold jda;rw [if_pos hu]
   rw [hl];show Jgb (zda c.toNat) (32::r)=_;have hr:ZB 6 (zda c.toNat::32::r) 0=((c.toNat:Int),1):=by rw [zfG _ _ hu,jgT];simp
   unfold Jgb;rw [(zaY _ hu).1,if_pos rfl,hr,if_neg hc0,e8];rfl
  ·have hl:jda c.toNat=[zda (c.toNat / 16),zda (c.toNat%16)]:=by unfold jda;rw [if_neg hu]
   have hd1:c.toNat / 16<16:=by omega
   have hd2:c.toNat%16<16:=by omega
   rw [hl];show Jgb (zda (c.toNat / 16)) (zda (c.toNat%16)::32::r)=_;have hr:ZB 6 (zda (c.toNat / 16)::zda (c.toNat%16)::32::r) 0=((c.toNat:Int),2):=by
    rw [zfG _ _ hd1,zfG _ _ hd2,jgT];refine Prod.ext ?_ rfl;show (0*16+((c.toNat / 16:Nat):Int))*16+((c.toNat%16:Nat):Int)=_;omega
   unfold Jgb;rw [(zaY _ hd1).1,if_pos rfl,hr,if_neg hc0,e8];rfl
theorem za4 (c:UInt8):∃d v,zbp c=92::d::v∧(d.toNat:Int)≠10:=by
 unfold zbp;by_cases q:(33≤(c.toNat:Int)∧(c.toNat:Int)≤126)∧mD (c.toNat:Int)=false∧mL (c.toNat:Int)=false
 ·rw [if_pos q];exact ⟨c,[],rfl,by omega⟩
 ·rw [if_neg q];have hlt:=c.toNat_lt;unfold jda;by_cases hu:c.toNat<16
  ·rw [if_pos hu];exact ⟨_,_,rfl,(zaY _ hu).2.1⟩
  ·rw [if_neg hu];exact ⟨_,_,rfl,(zaY _ (by omega)).2.1⟩
theorem ZbL (c:UInt8) (r:List UInt8):jcn (zbp c++r)=true:=by
 obtain ⟨d,v,h,hd⟩:=za4 c;rw [h];unfold jcn;simp only [List.cons_append,je,List.tail_cons];rw [Bool.and_eq_true];exact ⟨rfl,decide_eq_true hd⟩
theorem ZiU:mN 92=false:=by decide
theorem ZfW {c:UInt8} (h:mN (c.toNat:Int)=true) (r:List UInt8):jo (c::r)=(c::(jo r).1,1+(jo r).2):=by
 rw [jo];rw [if_pos (by unfold zI;rw [je,h];rfl)]
 rw [if_neg (fun z=>by rw [z,ZiU] at h;cases h)]
theorem Jhq (c:UInt8) (h0:c≠0) (h1:(c.toNat:Int)<128) (r:List UInt8):jo (zbp c++r)=(c::(jo r).1,(zbp c).length+(jo r).2):=by
 have hs:=ZbL c r;have he:=JeG c h0 h1 r;have hl:zbp c=92::(zbp c).tail:=rfl;rw [hl,List.cons_append] at hs ⊢;rw [jo];rw [if_pos (by unfold zI;rw [hs,Bool.or_true]),if_pos (show ((92:UInt8).toNat:Int)=92 from rfl),he]
 have hd:((zbp c).tail++r).drop ((zbp c).length-1)=r:=by
  rw [show (zbp c).length-1=(zbp c).tail.length from by rw [List.length_tail],List.drop_left]
 rw [hd];refine Prod.ext rfl ?_;show 1+((zbp c).length-1)+(jo r).2=(92::(zbp c).tail).length+(jo r).2;rw [←hl];have:1≤(zbp c).length:=by rw [hl];simp
 omega
def okE (e:Int):Int→List UInt8→Prop
 | _,[]=>True
 | i,c::w=>(i=e→(c.toNat:Int)<128)∧okE e (i+1) w
theorem Zbi (e:Int):∀(w:List UInt8) (i:Int),e<i→okE e i w
 | [],_,_=>trivial
 | c::w,i,h=>⟨fun z=>by omega,Zbi e w (i+1) (by omega)⟩
theorem zhr {c:UInt8} (h:mN (c.toNat:Int)=false):(c.toNat:Int)<128:=by
 unfold mN mN0 at h;simp only [Bool.or_eq_false_iff,decide_eq_false_iff_not] at h;omega
theorem JhF {c:Int} (h:mD c=true):c<128:=by
 unfold mD at h;simp only [Bool.and_eq_true,decide_eq_true_eq] at h;omega
theorem zb7 (s:List UInt8):jcO s=if s=[45] then 0 else if mD (hb s)=true then 0 else if hb s=45∧mD (hb s.tail)=true then 1 else -1:=by
 unfold jcO swD swM;simp only [Bool.and_eq_true,decide_eq_true_eq]
theorem ziz (s:List UInt8):okE (jcO s) 0 s:=by
 rw [zb7];split
 ·rename_i h;subst h;exact ⟨fun _=>by decide,trivial⟩
 ·split
  ·rename_i h;cases s with
   | nil=>trivial
   | cons c w=>exact ⟨fun _=>JhF h,Zbi 0 w _ (by omega)⟩
  ·split
   ·rename_i h;cases s with
    | nil=>trivial
    | cons c w=>
     refine ⟨fun z=>by omega,?_⟩
     cases w with
     | nil=>trivial
     | cons d v=>exact ⟨fun _=>JhF h.2,Zbi 1 v _ (by omega)⟩
   ·exact Zbi _ _ _ (by omega)
theorem jai (e i:Int) (c:UInt8) (w:List UInt8):(i≠e∧mN (c.toNat:Int)=true∧JaO e i (c::w)=c::JaO e (i+1) w)∨(¬(i≠e∧mN (c.toNat:Int)=true)∧JaO e i (c::w)=zbp c++JaO e (i+1) w):=by
 simp only [JaO];by_cases q:i≠e∧mN (c.toNat:Int)=true
 ·left;rw [if_pos q];exact ⟨q.1,q.2,rfl⟩
 ·right;rw [if_neg q];exact ⟨q,rfl⟩
theorem jcL {c:Int} (h:mN c=true):mN0 c=true∨mD c=true∨c=45:=by
 unfold mN at h;simpa only [Bool.or_eq_true,decide_eq_true_eq] using h
theorem Zee {w:List UInt8} (h:jcn w=true):ZE w=true:=by
 have h1:hb w=92:=by
  unfold jcn at h;simp only [Bool.and_eq_true,decide_eq_true_eq] at h;exact h.1
 unfold ZE;rw [if_pos (by omega),h,Bool.or_true]
theorem Jge {a:List UInt8} (ha:a≠[]):ZE (Jac a)=true:=by
 obtain ⟨c,w,rfl⟩:=List.exists_cons_of_ne_nil ha;unfold Jac;rcases jai (jcO (c::w)) 0 c w with ⟨q1,q2,q3⟩|⟨_,q3⟩
 ·rw [q3];have hD:mD (c.toNat:Int)=false:=by
   cases z:mD (c.toNat:Int) with
   | false=>rfl
   | true=>
    exfalso;apply q1;rw [zb7];split
    ·rfl
    ·rw [je,z,if_pos rfl]
  rcases jcL q2 with z|z|z
  ·unfold ZE;rw [je,if_pos (fun y=>by rw [y] at z;exact absurd z (by decide)),z,Bool.true_or]
  ·rw [z] at hD;cases hD
  ·have hne:w≠[]:=by
    intro y;subst y;apply q1;rw [zb7];have:c=45:=UInt8.toNat_inj.mp (by show c.toNat=45;omega)
    rw [this,if_pos rfl]
   obtain ⟨d,v,rfl⟩:=List.exists_cons_of_ne_nil hne;have key:∀r:List UInt8,mN0 (hb r)=true∨hb r=45∨jcn r=true→ZE (c::r)=true:=by
    intro r hr;unfold ZE;rw [je,if_neg (by omega),List.tail_cons]
    rcases hr with x|x|x
    ·rw [x,Bool.true_or]
    ·rw [decide_eq_true x,Bool.true_or,Bool.or_true]
    ·rw [x,Bool.or_true,Bool.or_true]
   apply key;rcases jai (jcO (c::d::v)) (0+1) d v with ⟨p1,p2,p3⟩|⟨_,p3⟩
   ·rw [p3,je];rcases jcL p2 with y|y|y
    ·exact .inl y
    ·exfalso;apply p1;rw [zb7];rw [if_neg (by simp),je,if_neg (by rw [hD];decide),List.tail_cons,je,if_pos ⟨z,y⟩]
     rfl
    ·exact .inr (.inl y)
   ·rw [p3];exact .inr (.inr (ZbL d _))
 ·rw [q3];exact Zee (ZbL c _)
theorem zcf {x:List UInt8} (h:ZE x=true):mN0 (hb x)=true∨hb x=92∨(hb x=45∧(mN0 (hb x.tail)=true∨hb x.tail=45∨hb x.tail=92)):=by
 unfold ZE at h;have e92:∀w:List UInt8,jcn w=true→hb w=92:=fun w hw=>by
  unfold jcn at hw;simp only [Bool.and_eq_true,decide_eq_true_eq] at hw;exact hw.1
 split at h
 ·simp only [Bool.or_eq_true] at h;exact h.imp id fun z=>.inl (e92 _ z)
 ·rename_i q;have q:hb x=45:=by omega
  simp only [Bool.or_eq_true,decide_eq_true_eq] at h;exact .inr (.inr ⟨q,h.imp id fun z=>z.imp id (e92 _)⟩)
theorem ZcL {c:Int} (h:mN0 c=true):(97≤c∧c≤122)∨(65≤c∧c≤90)∨c=95∨128≤c:=by
 unfold mN0 mL at h;simp only [Bool.or_eq_true,Bool.and_eq_true,decide_eq_true_eq] at h;omega
theorem jfc {x:List UInt8} (h:ZE x=true):Jbo x=false:=by
 unfold Jbo Zac mSg mD;rcases zcf h with q|q|⟨q,q2⟩
 ·have:=ZcL q;rw [if_neg (by simp;omega)]
  simp;omega
 ·rw [q,if_neg (by decide)];rfl
 ·rw [q];have:¬hb x.tail=46∧¬(48≤hb x.tail∧hb x.tail≤57):=by
   rcases q2 with z|z|z
   ·have:=ZcL z;omega
   ·omega
   ·omega
  simp;omega
def okB (c:UInt8):Prop:=¬(c.toNat:Int)=0∧¬(c.toNat:Int)=12∧¬(c.toNat:Int)=13
theorem zdV:∀w:List UInt8,(∀c∈w,okB c)→zA w=w
 | [],_=>rfl
 | c::w,h=>by
  obtain ⟨h1,h2,h3⟩:=h c (List.mem_cons_self ..);simp only [zA,if_neg h1,if_neg h2,if_neg h3];rw [zdV w fun d hd=>h d (List.mem_cons_of_mem _ hd)]
theorem jhr {c:UInt8} (h:mN (c.toNat:Int)=true):okB c:=by
 unfold okB;rcases jcL h with q|q|q
 ·have:=ZcL q;omega
 ·unfold mD at q;simp only [Bool.and_eq_true,decide_eq_true_eq] at q;omega
 ·omega
theorem jfG (c:UInt8):∀d∈zbp c,okB d:=by
 intro d hd;unfold zbp at hd;have h92:okB 92:=by unfold okB;decide
 have h32:okB 32:=by unfold okB;decide
 have hH:∀n,n<16→okB (zda n):=fun n hn=>⟨(zaY n hn).2.2.1,(zaY n hn).2.2.2.1,(zaY n hn).2.2.2.2⟩
 have hlt:=c.toNat_lt;rcases List.mem_cons.1 hd with rfl|hd
 ·exact h92
 ·split at hd
  ·rename_i q;rw [List.mem_singleton] at hd;subst hd;unfold okB;omega
  ·rcases List.mem_append.1 hd with hd|hd
   ·unfold jda at hd;split at hd
    ·rename_i hu;rw [List.mem_singleton] at hd;subst hd;exact hH _ hu
    ·simp only [List.mem_cons,List.not_mem_nil,or_false] at hd;rcases hd with rfl|rfl
     ·exact hH _ (by omega)
     ·exact hH _ (by omega)
   ·rw [List.mem_singleton] at hd;subst hd;exact h32
theorem jdV (e:Int):∀(w:List UInt8) (i:Int),∀d∈JaO e i w,okB d
 | [],_,d,hd=>by simp [JaO] at hd
 | c::w,i,d,hd=>by
  rcases jai e i c w with ⟨_,q2,q3⟩|⟨_,q3⟩
  ·rw [q3] at hd;rcases List.mem_cons.1 hd with rfl|hd
   ·exact jhr q2
   ·exact jdV e w _ d hd
  ·rw [q3] at hd;rcases List.mem_append.1 hd with hd|hd
   ·exact jfG c d hd
   ·exact jdV e w _ d hd
theorem jiz (e i:Int) (w:List UInt8):hb (JaO e i w)≠62:=by
 cases w with
 | nil=>
  show (0:Int)≠62;decide
 | cons c w=>
  rcases jai e i c w with ⟨_,q2,q3⟩|⟨_,q3⟩
  ·rw [q3,je];intro z;rw [z] at q2;exact absurd q2 (by decide)
  ·rw [q3];show (92:Int)≠62;decide
theorem ZdV {p x:List UInt8} {c:UInt8} (h:(c::p).isPrefixOf x=true):hb x=(c.toNat:Int):=by
 obtain ⟨t,ht⟩:=List.isPrefixOf_iff_prefix.1 h;rw [←ht];rfl
end Go.Proofs.YtmnegokadegioaaGreatDoor
set_option linter.unusedVariables false
set_option linter.unusedSimpArgs false
namespace Go.Proofs.YtmnegokadegioaaGreatDoor
open Go.Vm Go.Sx Go.RowKit
theorem JdV (e:Int):∀(w:List UInt8) (i:Int) (v:List UInt8),(0:UInt8)∉w→okE e i w→jo (JaO e i w++v)=(w++(jo v).1,(JaO e i w).length+(jo v).2)
 | [],_,v,_,_=>by simp [JaO]
 | c::w,i,v,h0,hk=>by
  obtain ⟨k1,k2⟩:=hk;have h0':(0:UInt8)∉w:=fun z=>h0 (List.mem_cons_of_mem _ z)
  have hc:c≠0:=fun z=>h0 (by rw [z];exact List.mem_cons_self ..)
  have ih:=JdV e w (i+1) v h0' k2;simp only [JaO];by_cases q:i≠e∧mN (c.toNat:Int)=true
  ·rw [if_pos q,List.singleton_append,List.cons_append,ZfW q.2,ih,List.length_cons];refine Prod.ext ?_ ?_
   ·simp
   ·simp only;omega
  ·rw [if_neg q];have h128:(c.toNat:Int)<128:=by
    by_cases z:i=e
    ·exact k1 z
    ·cases hm:mN (c.toNat:Int) with
     | false=>exact zhr hm
     | true=>exact absurd ⟨z,hm⟩ q
   rw [List.append_assoc,Jhq c hc h128,ih,List.length_append];refine Prod.ext ?_ ?_
   ·simp
   ·simp only;omega
theorem jcy {a:List UInt8} (h0:(0:UInt8)∉a) (v:List UInt8):jo (Jac a++v)=(a++(jo v).1,(Jac a).length+(jo v).2):=JdV _ a 0 v h0 (ziz a)
theorem JaH {v:List UInt8} (h:zI v=false):jo v=([],0):=by
 cases v with
 | nil=>simp [jo]
 | cons c w=>rw [jo,h];simp
theorem Zhr (w:List UInt8):(Jai w).1≠[]:=by
 have hu:∀c,zd8 c≠[]:=fun c=>by unfold zd8;split <;> (try split) <;> (try split) <;> (try split) <;> simp
 cases w with
 | nil=>exact hu 65533
 | cons c w=>
  show (Jgb c w).1≠[];unfold Jgb;split
  ·exact hu _
  ·simp
theorem zdr {v:List UInt8} (h:zI v=true):(jo v).1≠[]:=by
 cases v with
 | nil=>exact absurd h (by decide)
 | cons c w=>
  rw [jo,h,if_pos rfl];split
  ·intro q;exact Zhr w (List.append_eq_nil_iff.1 q).1
  ·simp
theorem jdr {a b:List UInt8} (h:a++b=a):b=[]:=List.append_right_eq_self.1 h
theorem Zdc (c:UInt8) (r:List UInt8):ZE (zbp c++r)=true:=Zee (ZbL c r)
theorem JF {a:List UInt8} (ha:a≠[]) (v:List UInt8):ZE (Jac a++v)=true:=by
 obtain ⟨c,w,rfl⟩:=List.exists_cons_of_ne_nil ha;unfold Jac;rcases jai (jcO (c::w)) 0 c w with ⟨q1,q2,q3⟩|⟨_,q3⟩
 ·rw [q3,List.cons_append];have hD:mD (c.toNat:Int)=false:=by
   cases z:mD (c.toNat:Int) with
   | false=>rfl
   | true=>
    exfalso;apply q1;rw [zb7];split
    ·rfl
    ·rw [je,z,if_pos rfl]
  rcases jcL q2 with z|z|z
  ·unfold ZE;rw [je,if_pos (fun y=>by rw [y] at z;exact absurd z (by decide)),z,Bool.true_or]
  ·rw [z] at hD;cases hD
  ·have hne:w≠[]:=by
    intro y;subst y;apply q1;rw [zb7];have:c=45:=UInt8.toNat_inj.mp (by show c.toNat=45;omega)
    rw [this,if_pos rfl]
   obtain ⟨d,w,rfl⟩:=List.exists_cons_of_ne_nil hne;have key:∀r:List UInt8,mN0 (hb r)=true∨hb r=45∨jcn r=true→ZE (c::r)=true:=by
    intro r hr;unfold ZE;rw [je,if_neg (by omega),List.tail_cons]
    rcases hr with x|x|x
    ·rw [x,Bool.true_or]
    ·rw [decide_eq_true x,Bool.true_or,Bool.or_true]
    ·rw [x,Bool.or_true,Bool.or_true]
   apply key;rcases jai (jcO (c::d::w)) (0+1) d w with ⟨p1,p2,p3⟩|⟨_,p3⟩
   ·rw [p3,List.cons_append,je];rcases jcL p2 with y|y|y
    ·exact .inl y
    ·exfalso;apply p1;rw [zb7];rw [if_neg (by simp),je,if_neg (by rw [hD];decide),List.tail_cons,je,if_pos ⟨z,y⟩]
     rfl
    ·exact .inr (.inl y)
   ·rw [p3,List.append_assoc];exact .inr (.inr (ZbL d _))
 ·rw [q3,List.append_assoc];exact Zdc c _
theorem zdW {a:List UInt8} (ha:a≠[]):Jac a≠[]:=by
 intro z;have:=JF ha [];rw [z] at this;exact absurd this (by decide)
theorem ZgT (e i:Int) (w v:List UInt8) (hw:w≠[]):hb (JaO e i w++v)≠62:=by
 have:=jiz e i w;obtain ⟨c,w,rfl⟩:=List.exists_cons_of_ne_nil hw;have hne:JaO e i (c::w)≠[]:=by
  simp only [JaO];split
  ·simp
  ·intro z;have:=(List.append_eq_nil_iff.1 z).1;unfold zbp at this;cases this
 rw [Zad (by have:=List.length_pos_iff.2 hne;omega)]
 exact this
theorem jh8 {a:List UInt8} (h:[45,45].isPrefixOf (Jac a)=true):∃r,a=45::45::r∧Jac a=45::45::JaO (jcO a) (0+1+1) r:=by
 obtain ⟨t,ht⟩:=List.isPrefixOf_iff_prefix.1 h;cases a with
 | nil=>cases ht
 | cons c w=>
  unfold Jac at ht ⊢;have e92:∀(d:UInt8) (r s:List UInt8),zbp d++r=45::s→False:=fun d r s q=>by
   obtain ⟨x,y,hx,_⟩:=za4 d;rw [hx] at q;injection q with q1 q2
   exact absurd q1 (by decide)
  rcases jai (jcO (c::w)) 0 c w with ⟨q1,q2,q3⟩|⟨_,q3⟩
  ·rw [q3] at ht ⊢;simp only [List.cons_append,List.nil_append,List.cons.injEq] at ht;obtain ⟨rfl,ht⟩:=ht;cases w with
   | nil=>cases ht
   | cons d w=>
    rcases jai (jcO (45::d::w)) (0+1) d w with ⟨p1,p2,p3⟩|⟨_,p3⟩
    ·rw [p3] at ht ⊢;simp only [List.cons.injEq] at ht;obtain ⟨rfl,ht⟩:=ht;exact ⟨w,rfl,rfl⟩
    ·rw [p3] at ht;exact (e92 _ _ _ ht.symm).elim
  ·rw [q3] at ht;exact (e92 _ _ _ ht.symm).elim
theorem jdW {a:List UInt8} (ha:a≠[]) (v:List UInt8):[45,45,62].isPrefixOf (Jac a++v)=(decide (a=[45,45])&&decide (hb v=62)):=by
 have hbp:∀x:List UInt8,[45,45,62].isPrefixOf x=true↔∃t,x=45::45::62::t:=fun x=>by
  rw [List.isPrefixOf_iff_prefix];exact ⟨fun ⟨t,q⟩=>⟨t,q.symm⟩,fun ⟨t,q⟩=>⟨t,q.symm⟩⟩
 have hz:∀x:List UInt8,hb x=62↔∃t,x=62::t:=fun x=>by
  cases x with
  | nil=>simp
  | cons c r=>
   constructor
   ·intro q;have:c=62:=UInt8.toNat_inj.mp (by have:(c.toNat:Int)=62:=q;show c.toNat=62;omega)
    exact ⟨r,by rw [this]⟩
   ·rintro ⟨t,q⟩;injection q with q1 q2
    subst q1;rfl
 rw [Bool.eq_iff_iff,Bool.and_eq_true,decide_eq_true_eq,decide_eq_true_eq,hbp];constructor
 ·rintro ⟨t,ht⟩;have hne:=zdW ha;have h2:[45,45].isPrefixOf (Jac a)=true∨Jac a=[45]:=by
   match hn:Jac a with
   | []=>exact absurd hn hne
   | [x]=>right;rw [hn] at ht;injection ht with q1 q2;rw [q1]
   | x::y::r=>
    left;rw [hn] at ht;injection ht with q1 q2
    injection q2 with q2 q3
    rw [q1,q2];rfl
  rcases h2 with h2|h2
  ·obtain ⟨r,rfl,hn⟩:=jh8 h2;rw [hn] at ht;simp only [List.cons_append,List.cons.injEq,true_and] at ht;cases r with
   | nil=>exact ⟨rfl,(hz v).2 ⟨t,by simpa [JaO] using ht⟩⟩
   | cons c r=>
    exfalso;have:=ZgT (jcO (45::45::c::r)) (0+1+1) (c::r) v (by simp)
    rw [ht] at this;exact this rfl
  ·exfalso;have:=JF ha [];rw [h2] at this;exact absurd this (by decide)
 ·rintro ⟨rfl,h⟩;obtain ⟨t,rfl⟩:=(hz v).1 h;exact ⟨t,by rfl⟩
theorem Zfc {x:List UInt8} (h:ZE x=true):hb x≠47∧hb x≠60∧hb x≠35∧hb x≠64∧hb x≠34∧hb x≠39∧hb x≠10∧hb x≠9∧hb x≠32:=by
 rcases zcf h with q|q|⟨q,_⟩
 ·have:=ZcL q;omega
 ·omega
 ·omega
theorem JgT {x:List UInt8} (h:ZE x=true) (hc:[45,45,62].isPrefixOf x=false):JK x=zat x:=by
 have hf:=Zfc h;unfold JK;rw [if_neg (by unfold mSp;simp;omega),if_neg (by unfold mQ;simp;omega),if_neg (fun z=>hf.2.2.1 z.1)]
 unfold jff;rw [jfc h,if_neg (by decide),hc,if_neg (by decide),if_neg (fun z=>hf.2.1 (ZdV z))]
 unfold zgc;rw [if_neg (fun z=>hf.2.2.2.1 z.1)]
 unfold Zgi;rw [h,if_pos rfl]
theorem zgU {x:List UInt8} (h:[45,45,62].isPrefixOf x=true):JK x=(tk 15,3):=by
 obtain ⟨t,rfl⟩:=List.isPrefixOf_iff_prefix.1 h;have hn:Jbo ([45,45,62]++t)=false:=rfl;unfold JK;rw [if_neg (by show ¬mSp 45=true;decide),if_neg (by show ¬mQ 45=true;decide),if_neg (by show ¬((45:Int)=35∧_);exact fun z=>absurd z.1 (by decide))]
 unfold jff;rw [hn,if_neg (by decide),h,if_pos rfl]
theorem ZfG {a:List UInt8} (ha:a≠[]) (h0:(0:UInt8)∉a) {v:List UInt8} (hc:¬(a=[45,45]∧hb v=62)):JK (Jac a++v)=zat (Jac a++v):=by
 refine JgT (JF ha v) ?_;rw [jdW ha];by_cases q:a=[45,45]
 ·rw [decide_eq_false (fun z=>hc ⟨q,z⟩),Bool.and_false]
 ·rw [decide_eq_false q,Bool.false_and]
theorem ZdW {a:List UInt8} (h0:(0:UInt8)∉a) (v:List UInt8) (hg:zI v=false):zat (Jac a++v)=if hb v≠40 then (tk 1 a,(Jac a).length) else if Z6 a [117,114,108]&&!mQ (hb (v.tail.drop (nSp v.tail))) then ((zU v.tail).1,(Jac a).length+1+(zU v.tail).2) else (tk 2 a,(Jac a).length+1):=by
 unfold zat;simp only [jcy h0,JaH hg,List.append_nil,Nat.add_zero,List.drop_left]
def zeH (a v:List UInt8):Prop:=zI v=false∧hb v≠40∧¬(a=[45,45]∧hb v=62)
theorem jgU {a v:List UInt8} (ha:a≠[]) (h0:(0:UInt8)∉a) (h:zeH a v):JK (Jac a++v)=(tk 1 a,(Jac a).length):=by
 rw [ZfG ha h0 h.2.2,ZdW h0 v h.1,if_pos h.2.1]
theorem Jdc (w:List UInt8):(zU w).1.kind=7∨(zU w).1.kind=8:=by
 unfold zU;dsimp only;split
 ·exact .inl rfl
 ·split
  ·exact .inl rfl
  ·exact .inr rfl
theorem jb7 (x:List UInt8):(∃n,zat x=(tk 1 (jo x).1,n)∧n=(jo x).2)∨(zat x=(tk 2 (jo x).1,(jo x).2+1))∨(zat x).1.kind=7∨(zat x).1.kind=8:=by
 unfold zat;dsimp only;split
 ·exact .inl ⟨_,rfl,rfl⟩
 ·split
  ·right;right;exact Jdc _
  ·exact .inr (.inl rfl)
theorem Jhr {a v:List UInt8} (ha:a≠[]) (h0:(0:UInt8)∉a) (h:(JK (Jac a++v)).1=tk 1 a):zeH a v:=by
 by_cases hc:a=[45,45]∧hb v=62
 ·exfalso;have:[45,45,62].isPrefixOf (Jac a++v)=true:=by rw [jdW ha,decide_eq_true hc.1,decide_eq_true hc.2];rfl
  rw [zgU this] at h;exact absurd (congrArg Tok.kind h) (by simp [tk])
 ·rw [ZfG ha h0 hc] at h;have hr:=jcy h0 v;have hg:zI v=false:=by
   cases q:zI v with
   | false=>rfl
   | true=>
    exfalso;rcases jb7 (Jac a++v) with ⟨n,e,_⟩|e|e|e
    ·rw [e,hr] at h;exact zdr q (jdr (congrArg Tok.text h))
    ·rw [e] at h;exact absurd (congrArg Tok.kind h) (by simp [tk])
    ·rw [h] at e;exact absurd e (by simp [tk])
    ·rw [h] at e;exact absurd e (by simp [tk])
  refine ⟨hg,?_,hc⟩;intro q;rw [ZdW h0 v hg,if_neg (fun z=>z q)] at h
  split at h
  ·have:=Jdc v.tail;rw [h] at this;exact absurd this (by simp [tk])
  ·exact absurd (congrArg Tok.kind h) (by simp [tk])
def JiU (a v:List UInt8):Prop:=Z6 a [117,114,108]=true→mQ (hb (v.drop (nSp v)))=true
theorem ZgU {a:List UInt8} (ha:a≠[]) (h0:(0:UInt8)∉a) (v:List UInt8):JK (Jac a++40::v)=if Z6 a [117,114,108]&&!mQ (hb (v.drop (nSp v))) then ((zU v).1,(Jac a).length+1+(zU v).2) else (tk 2 a,(Jac a).length+1):=by
 have hg:zI (40::v)=false:=by unfold zI jcn;rfl
 rw [ZfG ha h0 (fun z=>absurd z.2 (by show ¬((40:Int)=62);decide)),ZdW h0 _ hg,if_neg (fun z=>z rfl),List.tail_cons]
theorem JfG {a v:List UInt8} (ha:a≠[]) (h0:(0:UInt8)∉a) (h:JiU a v):JK (Jac a++40::v)=(tk 2 a,(Jac a).length+1):=by
 rw [ZgU ha h0,if_neg];intro q;rw [Bool.and_eq_true,Bool.not_eq_true'] at q;rw [h q.1] at q;cases q.2
theorem zhG {a:List UInt8} (ha:a≠[]) (h0:(0:UInt8)∉a) (v:List UInt8):JK (64::(Jac a++v))=(tk 3 (a++(jo v).1),1+((Jac a).length+(jo v).2)):=by
 have hs:=JF ha v;unfold JK;rw [if_neg (by show ¬mSp 64=true;decide),if_neg (by show ¬mQ 64=true;decide),if_neg (fun z=>absurd z.1 (by show ¬((64:Int)=35);decide))]
 unfold jff;have hn:Jbo (64::(Jac a++v))=false:=by
  unfold Jbo Zac;simp only [je,List.tail_cons];rfl
 rw [hn,if_neg (by decide),if_neg (fun z=>absurd (ZdV z) (by show ¬((64:Int)=45);decide)),if_neg (fun z=>absurd (ZdV z) (by show ¬((64:Int)=60);decide))]
 unfold zgc;rw [if_pos ⟨rfl,by rw [List.tail_cons];exact hs⟩,List.tail_cons,jcy h0]
theorem Ziz {a v:List UInt8} (ha:a≠[]) (h0:(0:UInt8)∉a) (h:zI v=false):JK (64::(Jac a++v))=(tk 3 a,(64::Jac a).length):=by
 rw [zhG ha h0,JaH h,List.append_nil,List.length_cons,Nat.add_zero,Nat.add_comm]
theorem ziV {a v:List UInt8} (ha:a≠[]) (h0:(0:UInt8)∉a) (h:(JK (64::(Jac a++v))).1=tk 3 a):zI v=false:=by
 rw [zhG ha h0] at h;cases q:zI v with
 | false=>rfl
 | true=>exact absurd (jdr (congrArg Tok.text h)) (zdr q)
end Go.Proofs.YtmnegokadegioaaGreatDoor
set_option linter.unusedVariables false
set_option linter.unusedSimpArgs false
namespace Go.Proofs.YtmnegokadegioaaGreatDoor
open Go.Vm Go.Sx Go.RowKit
theorem jhG {w:List UInt8} (h:ZE w=true):zI w=true:=by
 unfold zI;rcases zcf h with q|q|⟨q,_⟩
 ·unfold mN;rw [q];rfl
 ·unfold ZE at h;rw [if_pos (by omega)] at h
  unfold mN;rcases Bool.or_eq_true _ _ |>.mp h with z|z
  ·rw [z];rfl
  ·rw [z,Bool.or_true]
 ·unfold mN;rw [q];simp
theorem jbx (c:UInt8) (w:List UInt8):ZE (c::w)=if (c.toNat:Int)≠45 then mN0 (c.toNat:Int)||jcn (c::w) else mN0 (hb w)||(decide (hb w=45)||jcn w):=rfl
theorem Zc6 (c:UInt8) (w:List UInt8):zI (c::w)=(mN (c.toNat:Int)||jcn (c::w)):=rfl
theorem JcL (c:UInt8) (w:List UInt8):jcn (c::w)=(decide ((c.toNat:Int)=92)&&decide (hb w≠10)):=rfl
theorem zhs {v:List UInt8} (h:zI v=false):mN (hb v)=false∧jcn v=false:=by unfold zI at h;simpa using h
theorem jhs {c:Int} (h:mN c=false):mN0 c=false∧mD c=false∧c≠45:=by unfold mN at h;simpa using h
theorem zgf {t v:List UInt8} (ho:jcO t≠-1) (hg:zI v=false):ZE (JaO (-1) 0 t++v)=false∧zI (JaO (-1) 0 t++v)=true:=by
 obtain ⟨s1,s2⟩:=zhs hg;obtain ⟨s3,s4,s5⟩:=jhs s1;have raw:∀(c:UInt8) (w:List UInt8) (i:Int),0≤i→mN (c.toNat:Int)=true→JaO (-1) i (c::w)=c::JaO (-1) (i+1) w:=fun c w i hi hc=>by
  simp only [JaO];rw [if_pos ⟨by omega,hc⟩]
  rfl
 rw [zb7] at ho;split at ho
 ·rename_i h;subst h;rw [raw 45 [] 0 (by decide) (by decide)]
  simp only [JaO,List.singleton_append];rw [jbx,Zc6,if_neg (by decide),s3,decide_eq_false s5,s2]
  exact ⟨rfl,by rw [show mN ((45:UInt8).toNat:Int)=true from by decide];rfl⟩
 ·split at ho
  ·rename_i h;cases t with
   | nil=>exact absurd h (by decide)
   | cons c w=>
    have hc:mD (c.toNat:Int)=true:=h;have hm:mN (c.toNat:Int)=true:=by unfold mN;rw [hc];simp
    rw [raw c w 0 (by decide) hm,List.cons_append]
    unfold mD at hc;simp only [Bool.and_eq_true,decide_eq_true_eq] at hc;have:mN0 (c.toNat:Int)=false:=by unfold mN0 mL;simp;omega
    rw [jbx,Zc6,JcL,if_pos (by omega),hm,this,decide_eq_false (by omega:¬(c.toNat:Int)=92)]
    exact ⟨rfl,rfl⟩
  ·split at ho
   ·rename_i h
    match t,h with
    | [],h=>exact absurd h.1 (by decide)
    | [c],h=>exact absurd h.2 (by show ¬mD 0=true;decide)
    | c::d::w,h=>
     have hc:(c.toNat:Int)=45:=h.1;have hd:mD (d.toNat:Int)=true:=h.2;have hmc:mN (c.toNat:Int)=true:=by rw [hc];decide
     have hmd:mN (d.toNat:Int)=true:=by unfold mN;rw [hd];simp
     rw [raw c _ 0 (by decide) hmc,raw d w (0+1) (by decide) hmd]
     unfold mD at hd;simp only [Bool.and_eq_true,decide_eq_true_eq] at hd;have h0:mN0 (d.toNat:Int)=false:=by unfold mN0 mL;simp;omega
     rw [List.cons_append,List.cons_append,jbx,Zc6,hmc,if_neg (by omega),JcL d,je,h0,decide_eq_false (by omega:¬(d.toNat:Int)=45),decide_eq_false (by omega:¬(d.toNat:Int)=92)]
     exact ⟨rfl,rfl⟩
   ·exact absurd rfl ho
theorem Zhs {t v:List UInt8} {f:Bool} (ht:t≠[]) (h0:(0:UInt8)∉t) (hf:f=true∨jcO t≠-1) (hg2:f=false→zI v=false) :
  ∃b,JK (jcJ t f++v)=(tk 4 (t++(jo v).1) 0 [] b,(jcJ t f).length+(jo v).2)∧(zI v=false∨f=true→b=f):=by
 cases f with
 | true=>
  have hs:=JF ht v;refine ⟨true,?_,fun _=>rfl⟩
  show JK (35::(Jac t++v))=_;unfold JK;rw [if_neg (by show ¬mSp 35=true;decide),if_neg (by show ¬mQ 35=true;decide),if_pos ⟨rfl,by rw [List.tail_cons];exact jhG hs⟩,List.tail_cons,jcy h0,hs]
  refine Prod.ext rfl ?_;show 1+((Jac t).length+(jo v).2)=(35::Jac t).length+(jo v).2;rw [List.length_cons];omega
 | false=>
  have hg:=hg2 rfl;obtain ⟨q1,q2⟩:=zgf (hf.resolve_left (by decide)) hg
  refine ⟨false,?_,fun _=>rfl⟩
  show JK (35::(JaO (-1) 0 t++v))=_;unfold JK;rw [if_neg (by show ¬mSp 35=true;decide),if_neg (by show ¬mQ 35=true;decide),if_pos ⟨rfl,by rw [List.tail_cons];exact q2⟩,List.tail_cons,JdV (-1) t 0 v h0 (Zbi _ _ _ (by decide)),q1]
  refine Prod.ext rfl ?_;show 1+((JaO (-1) 0 t).length+(jo v).2)=(35::JaO (-1) 0 t).length+(jo v).2;rw [List.length_cons];omega
theorem Jhs {t v:List UInt8} {f:Bool} (ht:t≠[]) (h0:(0:UInt8)∉t) (hf:f=true∨jcO t≠-1) (hg:zI v=false):JK (jcJ t f++v)=(tk 4 t 0 [] f,(jcJ t f).length):=by
 obtain ⟨b,h1,h2⟩:=Zhs ht h0 hf (fun _=>hg)
 rw [h1,h2 (.inl hg),JaH hg,List.append_nil,Nat.add_zero]
theorem JgU (t v:List UInt8) (h0:(0:UInt8)∉t):jo (JaO (-1) 0 t++v)=(t++(jo v).1,(JaO (-1) 0 t).length+(jo v).2):=JdV (-1) t 0 v h0 (Zbi _ _ _ (by decide))
theorem jiV (t v:List UInt8) (ht:t≠[]):zI (JaO (-1) 0 t++v)=true:=by
 obtain ⟨c,w,rfl⟩:=List.exists_cons_of_ne_nil ht;rcases jai (-1) 0 c w with ⟨_,q2,q3⟩|⟨_,q3⟩
 ·rw [q3,List.cons_append];unfold zI;rw [je,q2,Bool.true_or]
 ·rw [q3,List.append_assoc];unfold zI;rw [ZbL,Bool.or_true]
theorem Zh8 {t v:List UInt8} {f:Bool} (ht:t≠[]) (h0:(0:UInt8)∉t) (h:(JK (jcJ t f++v)).1=tk 4 t 0 [] f):zI v=false:=by
 have key:∀x:List UInt8,zI x=true→(jo x).1=t++(jo v).1→(JK (35::x)).1=tk 4 t 0 [] f→zI v=false:=fun x hx hn hh=>by
  unfold JK at hh;rw [if_neg (by show ¬mSp 35=true;decide),if_neg (by show ¬mQ 35=true;decide),if_pos ⟨rfl,by rw [List.tail_cons];exact hx⟩,List.tail_cons,hn] at hh
  cases q:zI v with
  | false=>rfl
  | true=>exact absurd (jdr (congrArg Tok.text hh)) (zdr q)
 cases f with
 | true=>exact key (Jac t++v) (jhG (JF ht v)) (by rw [jcy h0]) h
 | false=>exact key (JaO (-1) 0 t++v) (jiV t v ht) (by rw [JgU t v h0]) h
theorem jej:∀(t v:List UInt8),(0:UInt8)∉t→strM 34 (Zcl t++34::v)=(true,t,(Zcl t).length+1)
 | [],v,_=>by
  show strM 34 (34::v)=_;rw [strM.eq_def 34 (34::v)];dsimp only;rw [if_pos (by decide)]
  rfl
 | c::t,v,h0=>by
  have h0':(0:UInt8)∉t:=fun z=>h0 (List.mem_cons_of_mem _ z)
  have hc:c≠0:=fun z=>h0 (by rw [z];exact List.mem_cons_self ..)
  have ih:=jej t v h0';simp only [Zcl];by_cases q:c∈[10,12,13,34,92]
  ·rw [if_pos q];have h128:(c.toNat:Int)<128:=by
    simp only [List.mem_cons,List.not_mem_nil,or_false] at q;rcases q with rfl|rfl|rfl|rfl|rfl <;> decide
   obtain ⟨d,r,he,hd⟩:=za4 c;have hr:=JeG c hc h128 (Zcl t++34::v);rw [he] at hr ⊢;simp only [List.tail_cons,List.cons_append,List.append_assoc] at hr ⊢;rw [strM.eq_def 34 (92::d::(r++(Zcl t++34::v)))];dsimp only;rw [if_neg (by decide),if_neg (by decide),if_neg (by simp),if_neg hd,hr]
   have hdrop:(d::(r++(Zcl t++34::v))).drop ((92::d::r).length-1)=Zcl t++34::v:=by
    have:(92::d::r).length-1=(d::r).length:=by simp
    rw [this,←List.cons_append,List.drop_left]
   rw [hdrop,ih];refine Prod.ext rfl (Prod.ext rfl ?_);simp only [List.length_cons,List.length_append];omega
  ·rw [if_neg q];simp only [List.mem_cons,List.not_mem_nil,or_false,not_or] at q;have hne:∀k:UInt8,c≠k→¬(c.toNat:Int)=(k.toNat:Int):=fun k h z=>h (UInt8.toNat_inj.mp (by omega))
   rw [List.singleton_append,List.cons_append,strM.eq_def 34 (c::(Zcl t++34::v))];dsimp only;have g1:¬(c.toNat:Int)=34:=hne 34 q.2.2.2.1;have g2:¬(c.toNat:Int)=10:=hne 10 q.1;have g3:¬(c.toNat:Int)=92:=hne 92 q.2.2.2.2;rw [if_neg g1,if_neg g2,if_pos g3,ih];refine Prod.ext rfl (Prod.ext rfl ?_);simp only [List.length_cons];omega
theorem zfH {t v:List UInt8} (h0:(0:UInt8)∉t):JK (34::(Zcl t++[34])++v)=(tk 5 t,(34::(Zcl t++[34])).length):=by
 have e:34::(Zcl t++[34])++v=34::(Zcl t++34::v):=by simp
 rw [e];unfold JK;rw [if_neg (by show ¬mSp 34=true;decide),if_pos (by show mQ 34=true;decide)]
 show ((if (strM 34 (Zcl t++34::v)).1=true then tk 5 (strM 34 (Zcl t++34::v)).2.1 else tk 6),1+(strM 34 (Zcl t++34::v)).2.2)=_
 rw [jej t v h0,if_pos rfl];refine Prod.ext rfl ?_;simp only [List.length_cons,List.length_append,List.length_nil];omega
theorem zgV:∀(t v:List UInt8),(0:UInt8)∉t→Jcd (zcx t++41::v)=(t,(zcx t).length)
 | [],v,_=>by
  show Jcd (41::v)=_;rw [Jcd];rw [if_pos (by decide)]
  rfl
 | c::t,v,h0=>by
  have h0':(0:UInt8)∉t:=fun z=>h0 (List.mem_cons_of_mem _ z)
  have hc:c≠0:=fun z=>h0 (by rw [z];exact List.mem_cons_self ..)
  have ih:=zgV t v h0';simp only [zcx];by_cases q:c.toNat≤32∨c∈[34,39,40,41,92,127]
  ·rw [if_pos q];have h128:(c.toNat:Int)<128:=by
    rcases q with q|q
    ·omega
    ·simp only [List.mem_cons,List.not_mem_nil,or_false] at q;rcases q with rfl|rfl|rfl|rfl|rfl|rfl <;> decide
   obtain ⟨d,r,he,hd⟩:=za4 c;have hr:=JeG c hc h128 (zcx t++41::v);have hs:=ZbL c (zcx t++41::v);rw [he] at hr hs ⊢;simp only [List.tail_cons,List.cons_append,List.append_assoc] at hr hs ⊢;rw [Jcd];rw [if_neg (by decide),if_neg (by decide),if_pos hs,hr]
   have hdrop:(d::(r++(zcx t++41::v))).drop ((92::d::r).length-1)=zcx t++41::v:=by
    have:(92::d::r).length-1=(d::r).length:=by simp
    rw [this,←List.cons_append,List.drop_left]
   simp only;rw [hdrop,ih];refine Prod.ext rfl ?_;simp only [List.length_cons,List.length_append];omega
  ·rw [if_neg q];simp only [List.mem_cons,List.not_mem_nil,or_false,not_or] at q;have hne:∀k:UInt8,c≠k→¬(c.toNat:Int)=(k.toNat:Int):=fun k h z=>h (UInt8.toNat_inj.mp (by omega))
   have h1:=hne 34 q.2.1;have h2:=hne 39 q.2.2.1;have h3:=hne 40 q.2.2.2.1;have h4:=hne 41 q.2.2.2.2.1;have h5:=hne 92 q.2.2.2.2.2.1;have h6:=hne 127 q.2.2.2.2.2.2;have h7:=q.1;have e34:((34:UInt8).toNat:Int)=34:=rfl;have e39:((39:UInt8).toNat:Int)=39:=rfl;have e40:((40:UInt8).toNat:Int)=40:=rfl;have e41:((41:UInt8).toNat:Int)=41:=rfl;have e92:((92:UInt8).toNat:Int)=92:=rfl;have e127:((127:UInt8).toNat:Int)=127:=rfl;have hsp:mSp (c.toNat:Int)=false:=by unfold mSp;simp;omega
   have hes:jcn (c::(zcx t++41::v))=false:=by unfold jcn;rw [je,decide_eq_false (by omega)];rfl
   have hspo:zed (c.toNat:Int)=false:=by unfold zed;simp;omega
   rw [List.singleton_append,List.cons_append,Jcd];rw [if_neg (by omega),hsp,if_neg (by decide),hes,if_neg (by decide),hspo,if_neg (by decide),ih]
   refine Prod.ext rfl ?_;simp only [List.length_cons];omega
theorem jgV (t v:List UInt8):mSp (hb (zcx t++41::v))=false∧mQ (hb (zcx t++41::v))=false:=by
 cases t with
 | nil=>exact ⟨by show mSp 41=false;decide,by show mQ 41=false;decide⟩
 | cons c t=>
  simp only [zcx];by_cases q:c.toNat≤32∨c∈[34,39,40,41,92,127]
  ·rw [if_pos q];obtain ⟨d,r,he,hd⟩:=za4 c;rw [he];exact ⟨by show mSp 92=false;decide,by show mQ 92=false;decide⟩
  ·rw [if_neg q];simp only [List.mem_cons,List.not_mem_nil,or_false,not_or] at q;have hne:∀k:UInt8,c≠k→¬(c.toNat:Int)=(k.toNat:Int):=fun k h z=>h (UInt8.toNat_inj.mp (by omega))
   have h1:¬(c.toNat:Int)=34:=hne 34 q.2.1;have h2:¬(c.toNat:Int)=39:=hne 39 q.2.2.1;have h7:=q.1;rw [List.singleton_append,List.cons_append,je];exact ⟨by unfold mSp;simp;omega,by unfold mQ;simp;omega⟩
theorem Jh8 {t v:List UInt8} (h0:(0:UInt8)∉t):JK ([117,114,108,40]++(zcx t++[41])++v)=(tk 7 t,([117,114,108,40]++(zcx t++[41])).length):=by
 have e:[117,114,108,40]++(zcx t++[41])++v=Jac [117,114,108]++40::(zcx t++41::v):=by
  have:Jac [117,114,108]=[117,114,108]:=by decide
  rw [this];simp
 obtain ⟨f1,f2⟩:=jgV t v;have hn:nSp (zcx t++41::v)=0:=by
  cases hx:zcx t++41::v with
  | nil=>rfl
  | cons c w=>rw [hx,je] at f1;simp only [nSp];rw [f1];rfl
 rw [e,ZgU (by simp) (by decide),hn,List.drop_zero,f2,if_pos (by decide)]
 have hr:zU (zcx t++41::v)=(tk 7 t,(zcx t).length+1):=by
  unfold zU;simp only [hn,List.drop_zero,zgV t v h0,Nat.zero_add,List.drop_left];rw [if_neg (by simp),if_pos (by rfl)]
 rw [hr];refine Prod.ext rfl ?_;have:(Jac [117,114,108]).length=3:=by decide
 simp only [this,List.length_cons,List.length_append,List.length_nil]
theorem JfW (c:UInt8) (hc:c=32∨c=10) (v:List UInt8):JK (c::v)=(tk 13,1+nSp v):=by
 unfold JK;rcases hc with rfl|rfl
 ·rw [if_pos (by show mSp 32=true;decide)]
  simp only [nSp];rw [if_pos (by decide),Nat.add_comm]
 ·rw [if_pos (by show mSp 10=true;decide)]
  simp only [nSp];rw [if_pos (by decide),Nat.add_comm]
theorem zh9 (v:List UInt8):JK ([60,33,45,45]++v)=(tk 14,4):=by
 have hn:Jbo ([60,33,45,45]++v)=false:=rfl;unfold JK;rw [if_neg (by show ¬mSp 60=true;decide),if_neg (by show ¬mQ 60=true;decide),if_neg (fun z=>absurd z.1 (by show ¬((60:Int)=35);decide))]
 unfold jff;rw [hn,if_neg (by decide),if_neg (by show ¬([45,45,62].isPrefixOf (60::_)=true);simp [List.isPrefixOf]),if_pos (by simp [List.isPrefixOf])]
theorem jfH {c:UInt8} {v:List UInt8} (h1:mSp (c.toNat:Int)=false) (h2:mQ (c.toNat:Int)=false) (h3:¬((c.toNat:Int)=35∧zI v=true)) (h4:Jbo (c::v)=false) (h5:[45,45,62].isPrefixOf (c::v)=false) (h6:[60,33,45,45].isPrefixOf (c::v)=false) (h7:¬((c.toNat:Int)=64∧ZE v=true)) (h8:ZE (c::v)=false) :
  JK (c::v)=if zcJ (c.toNat:Int)≠0 then (tk (zcJ (c.toNat:Int)),1) else (tk 9 [c],1):=by
 unfold JK;rw [je,h1,if_neg (by decide),h2,if_neg (by decide),List.tail_cons,if_neg h3]
 unfold jff;rw [h4,if_neg (by decide),h5,if_neg (by decide),h6,if_neg (by decide)]
 unfold zgc;rw [je,List.tail_cons,if_neg h7];unfold Zgi;rw [h8,if_neg (by decide)]
 rfl
end Go.Proofs.YtmnegokadegioaaGreatDoor
set_option linter.unusedVariables false
set_option linter.unusedSimpArgs false
namespace Go.Proofs.YtmnegokadegioaaGreatDoor
open Go.Vm Go.Sx Go.RowKit
def Zcy (v:List UInt8):Bool:=mE (hb v)&&Jec v.tail
theorem jbc (V W:List UInt8):zI (V++47::W)=zI V:=by
 rcases V with _|⟨a,_|⟨b,r⟩⟩ <;> simp [zI,jcn,mN,mN0,mL,mD] <;> rfl
theorem Jcy (V W:List UInt8):ZE (V++47::W)=ZE V:=by
 rcases V with _|⟨a,_|⟨b,_|⟨c,r⟩⟩⟩ <;> simp [ZE,jcn,mN0,mL,mD] <;> rfl
theorem ZfH (V W:List UInt8):Zac (V++47::W)=Zac V:=by
 rcases V with _|⟨a,_|⟨b,r⟩⟩ <;> simp [Zac,mD] <;> rfl
theorem jgf (V W:List UInt8):Jbo (V++47::W)=Jbo V:=by
 rcases V with _|⟨a,_|⟨b,_|⟨c,r⟩⟩⟩ <;> simp [Jbo,Zac,mD,mSg] <;> rfl
theorem Zgf (V W:List UInt8):Jec (V++47::W)=Jec V:=by
 rcases V with _|⟨a,_|⟨b,r⟩⟩ <;> simp [Jec,mD,mSg] <;> rfl
theorem Jgf (V W:List UInt8):Zcy (V++47::W)=Zcy V:=by
 rcases V with _|⟨a,r⟩
 ·simp [Zcy,mE]
 ·simp only [Zcy,List.cons_append,je,List.tail_cons,Zgf]
theorem JbL {V:List UInt8} (W:List UInt8) (P:Int→Prop) (h0:¬P 47) (h:¬P (hb V)):¬P (hb (V++47::W)):=by
 cases V with
 | nil=>exact h0
 | cons a r=>exact h
theorem ZgV (V W:List UInt8):[45,45,62].isPrefixOf (V++47::W)=[45,45,62].isPrefixOf V:=by
 rcases V with _|⟨a,_|⟨b,_|⟨c,r⟩⟩⟩ <;> simp [List.isPrefixOf] <;> rfl
theorem JgV (V W:List UInt8):[60,33,45,45].isPrefixOf (V++47::W)=[60,33,45,45].isPrefixOf V:=by
 rcases V with _|⟨a,_|⟨b,_|⟨c,_|⟨d,r⟩⟩⟩⟩ <;> simp [List.isPrefixOf] <;> rfl
theorem zfX {u v:List UInt8} (h:3≤u.length):Zcy (u++v)=Zcy u:=by
 unfold Zcy;rw [Zad (by omega),jee (by omega),zhq (by rw [jdc];omega)]
theorem zcM {v:List UInt8} (h:Zcy v=false):Jbd v=(0,0):=by
 unfold Zcy at h;unfold Jbd;rw [if_neg (by rw [h];decide)]
def Jdl (c:UInt8) (v:List UInt8):Prop:=
 ¬((c.toNat:Int)=35∧zI v=true)∧Jbo (c::v)=false∧[45,45,62].isPrefixOf (c::v)=false∧[60,33,45,45].isPrefixOf (c::v)=false∧
 ¬((c.toNat:Int)=64∧ZE v=true)∧ZE (c::v)=false∧¬((c.toNat:Int)=47∧hb v=42)
theorem JfH {c:UInt8} {v:List UInt8} (W:List UInt8) (h:Jdl c v):Jdl c (v++47::W):=by
 obtain ⟨h1,h2,h3,h4,h5,h6,h7⟩:=h;unfold Jdl;rw [jbc,←List.cons_append,jgf,ZgV,JgV,Jcy,Jcy];refine ⟨h1,h2,h3,h4,h5,h6,fun z=>?_⟩
 exact JbL W (fun x=>x=42) (by decide) (fun q=>h7 ⟨z.1,q⟩) z.2
theorem zgW {c:UInt8} {v:List UInt8} (W:List UInt8) (hl:3≤v.length):Jdl c (v++W)↔Jdl c v:=by
 unfold Jdl;rw [Jb6 (by omega),←List.cons_append,Jhp (by rw [List.length_cons];omega),jhq (by rw [List.length_cons];omega),Zhq (by rw [List.length_cons];omega),ZdU (by omega),ZdU (by rw [List.length_cons];omega),Zad (by omega)]
theorem jh9 (c:UInt8) (h:c∉marksT):zcJ (c.toNat:Int)=0:=by
 have key:∀n:Nat,n<126→UInt8.ofNat n∉marksT→marksA.getD n 0=0:=by decide +kernel
 unfold zcJ;split
 ·rename_i q;have:=key c.toNat (by omega) (by rw [UInt8.ofNat_toNat];exact h)
  rw [Int.toNat_natCast];exact this
 ·rfl
structure DelOK (c:UInt8):Prop where
 sp:mSp (c.toNat:Int)=false
 q:mQ (c.toNat:Int)=false
 n0:mN0 (c.toNat:Int)=false
 d:mD (c.toNat:Int)=false
 nm:c∉marksT
 z:c≠12∧c≠13
theorem Zh9 {s:List UInt8} (h:JgL s=true):∃c,s=[c]∧DelOK c:=by
 unfold JgL at h;split at h
 ·rename_i b;simp only [Bool.and_eq_true,Bool.not_eq_true',List.contains_eq_mem,decide_eq_false_iff_not,List.mem_append,not_or] at h;obtain ⟨h1,h2,h3,h4,h5,h6⟩:=h;refine ⟨b,rfl,h1,h2,h3,h4,h6,?_⟩;simp only [List.mem_cons,List.not_mem_nil,or_false,not_or] at h5;exact h5
 ·cases h
theorem Jh9 {c:UInt8} {v:List UInt8} (hc:DelOK c) (h:Jdl c v):JK (c::v)=(tk 9 [c],1):=by
 obtain ⟨h1,h2,h3,h4,h5,h6,h7⟩:=h;rw [jfH hc.sp hc.q h1 h2 h3 h4 h5 h6,jh9 c hc.nm,if_neg (by decide)]
theorem zdd (w:List UInt8):(jr w).1.kind=10∨(jr w).1.kind=11∨(jr w).1.kind=12:=by
 unfold jr;dsimp only;split
 ·exact .inr (.inr rfl)
 ·split
  ·exact .inr (.inl rfl)
  ·exact .inl rfl
theorem zgg (w:List UInt8):(zat w).1.kind=1∨(zat w).1.kind=2∨(zat w).1.kind=7∨(zat w).1.kind=8:=by
 rcases jb7 w with ⟨n,h,_⟩|h|h|h
 ·rw [h];exact .inl rfl
 ·rw [h];exact .inr (.inl rfl)
 ·exact .inr (.inr (.inl h))
 ·exact .inr (.inr (.inr h))
theorem Jiz {c:UInt8} {v:List UInt8} (hc:DelOK c) (hcm:Jat (c::v)=0) (h:(JK (c::v)).1=tk 9 [c]):Jdl c v:=by
 have h9:(JK (c::v)).1.kind=9:=by rw [h];rfl
 unfold JK at h9;rw [je,hc.sp,if_neg (by decide),hc.q,if_neg (by decide),List.tail_cons] at h9
 have h1:¬((c.toNat:Int)=35∧zI v=true):=by
  intro z;rw [if_pos z] at h9;exact absurd h9 (by show ¬(4:Int)=9;decide)
 rw [if_neg h1] at h9;unfold jff at h9;cases h2:Jbo (c::v) with
 | true=>
  rw [h2,if_pos rfl] at h9;have:=zdd (c::v);omega
 | false=>
  rw [h2,if_neg (by decide)] at h9
  cases h3:[45,45,62].isPrefixOf (c::v) with
  | true=>rw [h3,if_pos rfl] at h9;exact absurd h9 (by decide)
  | false=>
   rw [h3,if_neg (by decide)] at h9
   cases h4:[60,33,45,45].isPrefixOf (c::v) with
   | true=>rw [h4,if_pos rfl] at h9;exact absurd h9 (by decide)
   | false=>
    rw [h4,if_neg (by decide)] at h9
    unfold zgc at h9;rw [je,List.tail_cons] at h9;by_cases h5:(c.toNat:Int)=64∧ZE v=true
    ·rw [if_pos h5] at h9;exact absurd h9 (by show ¬(3:Int)=9;decide)
    rw [if_neg h5] at h9;unfold Zgi at h9;cases h6:ZE (c::v) with
    | true=>
     rw [h6,if_pos rfl] at h9;have:=zgg (c::v);omega
    | false=>
     refine ⟨h1,h2,h3,h4,h5,h6,fun z=>?_⟩
     have hc47:c=47:=UInt8.toNat_inj.mp (by show c.toNat=47;omega)
     cases v with
     | nil=>exact absurd z.2 (by decide)
     | cons d w=>
      have hd:d=42:=UInt8.toNat_inj.mp (by have:=z.2;rw [je] at this;show d.toNat=42;omega)
      subst hc47 hd;unfold Jat at hcm;rw [if_pos (by simp [List.isPrefixOf])] at hcm
      split at hcm
      ·simp at hcm
      ·rw [if_neg (by simp)] at hcm;omega
theorem jaO {w:List UInt8} (h:¬(hb w=47∧hb w.tail=42)):Jat w=0:=by
 unfold Jat;rw [if_neg];intro z;apply h;rcases w with _|⟨a,_|⟨b,r⟩⟩
 ·cases z
 ·simp [List.isPrefixOf] at z
 ·simp only [List.isPrefixOf,Bool.and_eq_true,beq_iff_eq] at z;obtain ⟨rfl,rfl,-⟩:=z;exact ⟨rfl,rfl⟩
theorem zht {k:Int} (hk:16≤k∧k≤24) (v:List UInt8):JK ([marksT.getD (k-16).toNat 0]++v)=(tk k,1):=by
 obtain ⟨n,rfl⟩:∃n:Nat,k=16+(n:Int):=⟨(k-16).toNat,by omega⟩
 have hn:n<9:=by omega
 have key:∀n:Nat,n<9→(let c:=marksT.getD n 0;mSp (c.toNat:Int)=false∧mQ (c.toNat:Int)=false∧mSg (c.toNat:Int)=false∧mD (c.toNat:Int)=false∧mN0 (c.toNat:Int)=false∧zcJ (c.toNat:Int)=16+(n:Int)∧c≠35∧c≠64∧c≠45∧c≠60∧c≠92∧c≠46):=by decide +kernel
 obtain ⟨k1,k2,k3,k4,k5,k6,k7,k8,k9,k10,k11,k12⟩:=key n hn;rw [show (16+(n:Int)-16).toNat=n by omega]
 generalize marksT.getD n 0=c at *;have hne:∀j:UInt8,c≠j→¬(c.toNat:Int)=(j.toNat:Int):=fun j h z=>h (UInt8.toNat_inj.mp (by omega))
 have e35:¬(c.toNat:Int)=35:=hne 35 k7;have e64:¬(c.toNat:Int)=64:=hne 64 k8;have e45:¬(c.toNat:Int)=45:=hne 45 k9;have e92:¬(c.toNat:Int)=92:=hne 92 k11;have e46:¬(c.toNat:Int)=46:=hne 46 k12;rw [List.singleton_append,jfH k1 k2 (fun z=>e35 z.1) ?_ ?_ ?_ (fun z=>e64 z.1) ?_,k6,if_pos (by omega)]
 ·simp only [Jbo,je,k3,Zac,k4,e46];simp
 ·simp only [List.isPrefixOf];rw [show ((45:UInt8)==c)=false from by rw [beq_eq_false_iff_ne];exact Ne.symm k9];rfl
 ·simp only [List.isPrefixOf];rw [show ((60:UInt8)==c)=false from by rw [beq_eq_false_iff_ne];exact Ne.symm k10];rfl
 ·simp only [ZE,je,k5,jcn,e92];simp;exact fun z=>absurd z e45
theorem zia (v:List UInt8):JK ([45,45,62]++v)=(tk 15,3):=zgU (by simp [List.isPrefixOf])
end Go.Proofs.YtmnegokadegioaaGreatDoor
