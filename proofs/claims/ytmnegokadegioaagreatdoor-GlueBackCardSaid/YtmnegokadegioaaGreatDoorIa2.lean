/-
 What is written is read, whatever stands behind it: numbers. Nothing is claimed here.
-/
import Derived.Test.YtmnegokadegioaaGreatDoorIa1
set_option linter.unusedVariables false
set_option linter.unusedSimpArgs false
namespace Go.Proofs.YtmnegokadegioaaGreatDoor.I
open Go.Vm Go.Sx Go.RowKit
def AllDg (w:List UInt8):Prop:=∀b,b∈w→mD (b.toNat:Int)=true
theorem digs_pos {c:UInt8} {w:List UInt8} (h:mD (c.toNat:Int)=true):JE (c::w)=c::JE w:=by unfold JE;rw [List.takeWhile_cons,if_pos h]
theorem digs_neg {c:UInt8} {w:List UInt8} (h:mD (c.toNat:Int)=false):JE (c::w)=[]:=by unfold JE;rw [List.takeWhile_cons,if_neg (by rw [h];decide)]
theorem zeros0_len (w:List UInt8):(ZH w).length≤w.length:=(List.dropWhile_sublist _).length_le
theorem fr3_len:∀k r,(fr3 k r).length≤k
 | 0,_=>Nat.le_refl _
 | k+1,r=>by
  simp only [fr3,List.length_cons];split
  ·simp
  ·have:=fr3_len k (r*10%1000);omega
theorem jeB {a:Nat} (h:a≤1000000000):(Lib.decDigits a).length≤10:=by
 rw [Lib.decDigits_length];have h10:∀k u,u<10^(k+1)→Lib.nDigits u≤k+1:=by
  intro k
  induction k with
  | zero=>intro u hu;rw [Lib.nDigits_small (by simpa using hu)];omega
  | succ k ih=>
   intro u hu;by_cases q:u<10
   ·rw [Lib.nDigits_small q];omega
   ·rw [Lib.nDigits_big q];have:=ih (u / 10) (by rw [Nat.pow_succ] at hu;omega)
    omega
 exact h10 9 a (by omega)
theorem tm {x:Int} {y:Nat} (h:x=(y:Int)) (k:Nat):x.tmod (k:Int)=((y%k:Nat):Int):=by
 subst h;rw [Int.tmod_eq_emod_of_nonneg (by omega)]
 omega
def dvG (a:Int) (c:UInt8):Int:=a*10+((c.toNat:Int)-48)
def dv (w:List UInt8):Int:=w.foldl dvG 0
theorem zfE:∀(w:List UInt8) (a:Int),w.foldl dvG a=a*10^w.length+dv w
 | [],a=>by simp [dv]
 | c::w,a=>by
  have h1:=zfE w (dvG a c);have h2:=zfE w (dvG 0 c);show w.foldl dvG (dvG a c)=_;rw [h1];show _=a*10^(w.length+1)+w.foldl dvG (dvG 0 c);rw [h2,Int.pow_succ];unfold dvG;rw [Int.add_mul,Int.add_mul,Int.mul_assoc,Int.mul_comm 10];omega
theorem jhD (u v:List UInt8):dv (u++v)=dv u*10^v.length+dv v:=by
 unfold dv;rw [List.foldl_append];exact zfE v _
theorem Zeb:∀(k:Nat) (a:Int),Ja9 k [] a=a*10^k
 | 0,a=>by simp [Ja9]
 | k+1,a=>by rw [Ja9,Zeb k,Int.mul_assoc,Int.pow_succ,Int.mul_comm (10^k)]
theorem Jeb:∀(w:List UInt8) (k:Nat) (a:Int),Ja9 (w.length+k) w a=w.foldl dvG a*10^k
 | [],k,a=>by rw [List.length_nil,Nat.zero_add];exact Zeb k a
 | c::w,k,a=>by
  rw [List.length_cons,show w.length+1+k=(w.length+k)+1 from by omega]
  exact Jeb w k _
theorem ZfU:∀w:List UInt8,dv (ZH w)=dv w
 | []=>rfl
 | c::w=>by
  unfold ZH;rw [List.dropWhile_cons];split
  ·rename_i h;have e:c=48:=eq_of_beq h;subst e;exact ZfU w
  ·rfl
theorem dec_ok (a:Nat):AllDg (Lib.decDigits a)∧Lib.decDigits a≠[]∧dv (Lib.decDigits a)=a:=by
 induction a using Nat.strongRecOn with
 | _ a ih=>
  have one:∀d,d<10→mD ((UInt8.ofNat (48+d)).toNat:Int)=true∧((UInt8.ofNat (48+d)).toNat:Int)-48=d:=by
   intro d hd;have:(UInt8.ofNat (48+d)).toNat=48+d:=by rw [UInt8.toNat_ofNat'];omega
   rw [this];refine ⟨?_,by omega⟩
   unfold mD;simp;omega
  by_cases h:a<10
  ·rw [Lib.decDigits_one h];refine ⟨fun b hb=>?_,by simp,?_⟩
   ·rw [List.mem_singleton] at hb;subst hb;exact (one a h).1
   ·show dvG 0 _=_;unfold dvG;have:=(one a h).2;omega
  ·rw [Lib.decDigits,dif_neg h];obtain ⟨h1,h2,h3⟩:=ih (a / 10) (by omega)
   refine ⟨fun b hb=>?_,by simp,?_⟩
   ·rcases List.mem_append.1 hb with q|q
    ·exact h1 b q
    ·rw [List.mem_singleton] at q;subst q;exact (one _ (Nat.mod_lt _ (by decide))).1
   ·rw [jhD,h3];have:=(one (a%10) (Nat.mod_lt _ (by decide))).2
    show _+dvG 0 _=_;unfold dvG;simp only [List.length_cons,List.length_nil];omega
def frB (r:Nat):Bool:=(fr3 3 r).all (fun c=>mD (c.toNat:Int))&&(!(fr3 3 r).isEmpty&&(decide (dv (fr3 3 r)*10^(3-(fr3 3 r).length)=(r:Int))&&(!((fr3 3 r).getLast?==some 48)||decide ((fr3 3 r).length=1))))
theorem Zh6:(List.range 1000).all frB=true:=by decide +kernel
theorem fr_ok {r:Nat} (h:r<1000):AllDg (fr3 3 r)∧fr3 3 r≠[]∧dv (fr3 3 r)*10^(3-(fr3 3 r).length)=(r:Int)∧((fr3 3 r).getLast?≠some 48∨(fr3 3 r).length=1):=by
 have:=List.all_eq_true.1 Zh6 r (List.mem_range.2 h);unfold frB at this;simp only [Bool.and_eq_true,Bool.or_eq_true,Bool.not_eq_true',decide_eq_true_eq,List.all_eq_true] at this;obtain ⟨h1,h2,h3,h4⟩:=this;refine ⟨h1,fun q=>(by rw [q] at h2;cases h2),h3,h4.imp (fun q z=>?_) id⟩
 rw [z] at q;simp at q
theorem digs_app {D rest:List UInt8} (hD:AllDg D) (hr:mD (hb rest)=false):JE (D++rest)=D:=by
 induction D with
 | nil=>
  cases rest with
  | nil=>rfl
  | cons c r=>exact digs_neg hr
 | cons c D ih=>
  rw [List.cons_append,digs_pos (hD c (List.mem_cons_self ..)),ih fun b hb=>hD b (List.mem_cons_of_mem _ hb)]
theorem mD_not {c:Int} (h:mD c=true):mSg c=false∧(c=46)=False∧(c=45)=False∧mE c=false:=by
 unfold mD at h;simp only [Bool.and_eq_true,decide_eq_true_eq] at h;refine ⟨?_,?_,?_,?_⟩
 ·unfold mSg;simp;omega
 ·simp;omega
 ·simp;omega
 ·unfold mE;simp;omega
theorem cut_val {a r:Nat} (ha:a≤1000000000) (hv:a*1000+r≤1000000000000) (F:List UInt8) (hF:F.length≤3) (hd:dv F*10^(3-F.length)=(r:Int)) :
  jey (Lib.decDigits a++F) (((Lib.decDigits a).length:Int)+0+3)=((a*1000+r:Nat):Int):=by
 obtain ⟨h1,h2,h3⟩:=dec_ok a;have hl:=jeB ha;have hp:(0:Int)<10^(3-F.length):=Int.pow_pos (by decide)
 have key:dv (Lib.decDigits a++F)*10^(3-F.length)=((a*1000+r:Nat):Int):=by
  rw [jhD,h3,Int.add_mul,hd,Int.mul_assoc,←Int.pow_add,show F.length+(3-F.length)=3 from by omega]
  omega
 unfold jey;dsimp only;have hz:=zeros0_len (Lib.decDigits a++F);rw [List.length_append] at hz;have hdz:=ZfU (Lib.decDigits a++F);generalize hvv:ZH (Lib.decDigits a++F)=v at hz hdz ⊢;rw [List.length_append];by_cases hv0:v=[]
 ·rw [if_pos (.inl hv0)];rw [hv0] at hdz;have hdz:(0:Int)=dv (Lib.decDigits a++F):=hdz;rw [←hdz] at key;omega
 ·have hvl:0<v.length:=List.length_pos_iff.2 hv0;rw [if_neg (fun z=>z.elim hv0 (fun z=>by omega)),if_neg (by omega)]
  have hq:(((Lib.decDigits a).length:Int)+0+3-(((((Lib.decDigits a).length+F.length:Nat):Int))-(v.length:Int))).toNat=v.length+(3-F.length):=by omega
  rw [hq,Jeb];show min (dv v*_) _=_;rw [hdz,key];omega
theorem num_gen {W F v:List UInt8} (sg:Bool) (hW:AllDg W) (hW0:W≠[]) (hF:AllDg F) (hv:mD (hb v)=false) (hv2:F=[]→jaa v=false) :
  jbm ((if sg then [45] else [])++(W++((if F=[] then [] else 46::F)++v)))=true∧
  ZbL ((if sg then [45] else [])++(W++((if F=[] then [] else 46::F)++v))) =
   (if sg then 0-jey (W++F) ((W.length:Int)+(Zbb v).1+3) else jey (W++F) ((W.length:Int)+(Zbb v).1+3),
   decide (F=[])&&decide ((Zbb v).2=0),((if sg then [45] else [])++(W++(if F=[] then [] else 46::F))).length+(Zbb v).2):=by
 obtain ⟨d,W',rfl⟩:=List.exists_cons_of_ne_nil hW0;have hd:=hW d (List.mem_cons_self ..);obtain ⟨m1,m2,m3,m4⟩:=mD_not hd;generalize hR:(if F=[] then ([]:List UInt8) else 46::F)=R
 have hRv:mD (hb (R++v))=false:=by
  subst hR;by_cases q:F=[]
  ·rw [if_pos q];exact hv
  ·rw [if_neg q];rfl
 have hRl:R.length=if F=[] then 0 else 1+F.length:=by
  subst hR;split
  ·rfl
  ·rw [List.length_cons];omega
 have hfs:jaa (R++v) = !decide (F=[]):=by
  subst hR;by_cases q:F=[]
  ·rw [if_pos q,List.nil_append,hv2 q];simp [q]
  ·rw [if_neg q];obtain ⟨e,F',rfl⟩:=List.exists_cons_of_ne_nil q;have he:=hF e (List.mem_cons_self ..);unfold jaa;simp only [List.cons_append,Jd,List.tail_cons,he];simp
 generalize hX:(if sg then ([45]:List UInt8) else [])++(d::W'++(R++v))=X
 have hs:ZaR X=(if sg then 1 else 0)∧X.drop (ZaR X)=d::W'++(R++v)∧jbm X=true∧(hb X=45↔sg=true):=by
  subst hX;cases sg with
  | true=>
   refine ⟨rfl,rfl,?_,⟨fun _=>rfl,fun _=>rfl⟩⟩
   show jbm (45::d::(W'++(R++v)))=true;unfold jbm;rw [if_pos (by rfl)]
   simp only [List.tail_cons,Jd,hd,Bool.true_or]
  | false=>
   have h0:ZaR (d::(W'++(R++v)))=0:=by unfold ZaR;rw [Jd,m1];rfl
   refine ⟨h0,?_,?_,⟨fun z=>?_,fun z=>by cases z⟩⟩
   ·show (d::(W'++(R++v))).drop (ZaR (d::(W'++(R++v))))=_;rw [h0];rfl
   ·show jbm (d::(W'++(R++v)))=true;unfold jbm;rw [Jd,m1];simp only [Bool.false_eq_true,if_false,hd,Bool.true_or]
   ·have z:hb (d::(W'++(R++v)))=45:=z;rw [Jd,m3] at z;exact z.elim
 obtain ⟨s1,s2,s3,s4⟩:=hs;have hwd:jaF X=d::W':=by unfold jaF;rw [s2];exact digs_app hW hRv
 have hbw:jz X=ZaR X+(d::W').length:=by unfold jz;rw [hwd]
 have hdw:X.drop (jz X)=R++v:=by rw [hbw,←List.drop_drop,s2,List.drop_left]
 have hfd:JbH X=F:=by
  unfold JbH;rw [hdw,hfs];by_cases q:F=[]
  ·simp [q]
  ·simp only [q,decide_false,Bool.not_false,if_true];subst hR;rw [if_neg q,List.cons_append,List.tail_cons];exact digs_app hF hv
 have hbf:zn X=ZaR X+((d::W').length+R.length):=by
  unfold zn;rw [hdw,hfs,hfd,hbw,hRl];by_cases q:F=[]
  ·simp [q]
  ·simp only [q,decide_false,Bool.not_false,if_true,if_false];omega
 have hbv:X.drop (zn X)=v:=by
  rw [hbf,←List.drop_drop,s2,←List.drop_drop,List.drop_left,List.drop_left]
 have hlen:((if sg then ([45]:List UInt8) else [])++(d::W'++R)).length=zn X:=by
  rw [hbf,s1];cases sg <;> simp <;> omega
 refine ⟨s3,?_⟩;unfold ZbL jax;simp only [hbv,hwd,hfd,hdw,hfs,Bool.not_not];rw [hlen];refine Prod.ext ?_ rfl;dsimp only;cases sg with
 | true=>rw [if_pos (s4.2 rfl)];rfl
 | false=>rw [if_neg (fun z=>by have:=s4.1 z;cases this)];rfl
end Go.Proofs.YtmnegokadegioaaGreatDoor.I
set_option linter.unusedVariables false
set_option linter.unusedSimpArgs false
namespace Go.Proofs.YtmnegokadegioaaGreatDoor
open Go.Vm Go.Sx Go.RowKit
theorem ZaS {x:List UInt8} (h:jbm x=true):jK x=Zs x:=by
 have hx:(hb x=43∨hb x=45)∨(48≤hb x∧hb x≤57)∨hb x=46:=by
  unfold jbm at h;split at h
  ·rename_i q;unfold mSg at q;simp only [Bool.or_eq_true,decide_eq_true_eq] at q;exact .inl q
  ·simp only [Bool.or_eq_true,mD,jaa,Bool.and_eq_true,decide_eq_true_eq] at h;rcases h with h|h
   ·exact .inr (.inl h)
   ·exact .inr (.inr h.1)
 have h1:mSp (hb x)=false:=by unfold mSp;simp;omega
 have h2:mQ (hb x)=false:=by unfold mQ;simp;omega
 unfold jK;rw [h1,if_neg (by decide),h2,if_neg (by decide),if_neg (fun z=>by have:=z.1;omega)]
 unfold zfz;rw [if_pos h]
theorem zec (n:Int) (f:Bool) (v:List UInt8):J3 n f++v=(if decide (n<0) then [45] else [])++(Lib.decDigits (n.natAbs / 1000)++((if (if f then [] else fr3 3 (n.natAbs%1000))=[] then [] else 46::(if f then [] else fr3 3 (n.natAbs%1000)))++v)):=by
 have h2:=(I.fr_ok (r:=n.natAbs%1000) (Nat.mod_lt _ (by decide))).2.1
 unfold J3;have e1:(if n<0 then [(45:UInt8)] else [])=if decide (n<0) then [45] else []:=by by_cases q:n<0 <;> simp [q]
 rw [e1];cases f with
 | true=>simp
 | false=>simp [h2]
theorem Je9 (n:Int) (f:Bool):(J3 n f).length=((if decide (n<0) then [45] else [])++(Lib.decDigits (n.natAbs / 1000)++(if (if f then [] else fr3 3 (n.natAbs%1000))=[] then [] else 46::(if f then [] else fr3 3 (n.natAbs%1000))))).length:=by
 have:=zec n f [];rw [List.append_nil,List.append_nil] at this;rw [←this]
theorem jiR {n:Int} (h:n.tmod 1000=0):n.natAbs%1000=0:=by
 rcases Int.le_total 0 n with q|q
 ·have h2:=I.tm (x:=n) (y:=n.natAbs) (by omega) 1000
  rw [show ((1000:Nat):Int)=1000 from rfl,h] at h2
  omega
 ·have h2:=Int.neg_tmod n 1000;have h3:=I.tm (x:=-n) (y:=n.natAbs) (by omega) 1000
  rw [show ((1000:Nat):Int)=1000 from rfl,h2,h] at h3
  omega
structure NumOK (n:Int) (f:Bool):Prop where
 lo:-1000000000000≤n
 hi:n≤1000000000000
 wh:f=true→n.tmod 1000=0
theorem jbg {n:Int} {f:Bool} (h:NumOK n f) {v:List UInt8} (hv:mD (hb v)=false) (hv2:f=true→jaa v=false) :
  jbm (J3 n f++v)=true∧(ZbL (J3 n f++v)).2=(f&&decide ((Zbb v).2=0),(J3 n f).length+(Zbb v).2)∧((Zbb v).1=0→(ZbL (J3 n f++v)).1=n):=by
 obtain ⟨d1,d2,d3⟩:=I.dec_ok (n.natAbs / 1000);obtain ⟨f1,f2,f3,_⟩:=I.fr_ok (r:=n.natAbs%1000) (Nat.mod_lt _ (by decide))
 have hlF:=I.fr3_len 3 (n.natAbs%1000);have hF:I.AllDg (if f then [] else fr3 3 (n.natAbs%1000)):=by
  cases f with
  | true=>intro b hb;cases hb
  | false=>exact f1
 have hFe:(if f then ([]:List UInt8) else fr3 3 (n.natAbs%1000))=[]→f=true:=by
  intro z;cases f with
  | true=>rfl
  | false=>exact absurd z f2
 have hFd:decide ((if f then ([]:List UInt8) else fr3 3 (n.natAbs%1000))=[])=f:=by
  cases f with
  | true=>rfl
  | false=>exact decide_eq_false f2
 have g:=I.num_gen (v:=v) (decide (n<0)) d1 d2 hF hv (fun z=>hv2 (hFe z))
 rw [←zec n f v] at g;refine ⟨g.1,?_,fun he=>?_⟩
 ·rw [g.2,←Je9,hFd]
 ·rw [g.2,he];dsimp only;have hlo:=h.lo;have hhi:=h.hi;have hnat:n.natAbs=n.natAbs / 1000*1000+n.natAbs%1000:=by omega
  have hc:jey (Lib.decDigits (n.natAbs / 1000)++(if f then [] else fr3 3 (n.natAbs%1000))) (((Lib.decDigits (n.natAbs / 1000)).length:Int)+0+3)=(n.natAbs:Int):=by
   cases f with
   | true=>
    have hr0:=jiR (h.wh rfl);have:=I.cut_val (a:=n.natAbs / 1000) (r:=0) (by omega) (by omega) [] (by simp) (by simp [I.dv])
    simp only [if_true] at this ⊢;rw [this];omega
   | false=>
    have:=I.cut_val (a:=n.natAbs / 1000) (r:=n.natAbs%1000) (by omega) (by omega) _ hlF f3
    simp only [Bool.false_eq_true,if_false] at this ⊢;rw [this];omega
  rw [hc];by_cases q:n<0
  ·rw [if_pos (by simpa using q)];omega
  ·rw [if_neg (by simpa using q)];omega
def jgd (f:Bool) (v:List UInt8):Prop:=mD (hb v)=false∧(f=true→jaa v=false)∧JC v=false∧hb v≠37
theorem jeE {v:List UInt8} (h:mE (hb v)=true):JC v=true:=by
 have:hb v=101∨hb v=69:=by unfold mE at h;simpa using h
 unfold JC;rw [if_pos (by omega)]
 have h0:mN0 (hb v)=true:=by
  rcases this with q|q <;> rw [q] <;> decide
 rw [h0];rfl
theorem ZeE {v:List UInt8} (h:JC v=false):Zbb v=(0,0):=by
 refine ZcJ ?_;unfold Zcv;cases q:mE (hb v) with
 | false=>rfl
 | true=>rw [jeE q] at h;cases h
theorem Jh6 {n:Int} {f:Bool} (h:NumOK n f) {v:List UInt8} (hv:jgd f v):jK (J3 n f++v)=(tk 10 [] n [] f,(J3 n f).length):=by
 obtain ⟨v1,v2,v3,v4⟩:=hv;obtain ⟨g1,g2,g3⟩:=jbg h v1 v2;have he:=ZeE v3;rw [he] at g2 g3;have g3:=g3 rfl;have hd:(J3 n f++v).drop (J3 n f).length=v:=List.drop_left;rw [ZaS g1];unfold Zs;simp only [g2,g3,Nat.add_zero,hd,v3,if_neg v4,Bool.false_eq_true,if_false];simp
theorem zfa {X:List UInt8} (h:(Zs X).1.flag=true):(ZbL X).2.1=true:=by
 unfold Zs at h;dsimp only at h;generalize ZbL X=r at *;split at h
 ·exact h
 ·split at h
  ·cases h
  ·exact h
theorem ZhD {n:Int} {f:Bool} (h:NumOK n f) {v:List UInt8} (v1:mD (hb v)=false) (v2:Zcv v=false) (ht:(jK (J3 n f++v)).1=tk 10 [] n [] f):jgd f v:=by
 have he:=ZcJ v2;have hfr:f=true→jaa v=false:=by
  intro hf;cases q:jaa v with
  | false=>rfl
  | true=>
   exfalso;subst hf;have hv:∃c w,v=46::c::w∧mD (c.toNat:Int)=true:=by
    unfold jaa at q;simp only [Bool.and_eq_true,decide_eq_true_eq] at q;rcases v with _|⟨a,_|⟨b,r⟩⟩
    ·exact absurd q.1 (by decide)
    ·exact absurd q.2 (by show ¬mD 0=true;decide)
    ·have ha:a=46:=UInt8.toNat_inj.mp (by have:=q.1;rw [Jd] at this;show a.toNat=46;omega)
     exact ⟨b,r,by rw [ha],q.2⟩
   obtain ⟨c,w,rfl,hc⟩:=hv;obtain ⟨d1,d2,d3⟩:=I.dec_ok (n.natAbs / 1000);have hsplit:c::w=JE (c::w)++(c::w).drop (JE (c::w)).length:=by
    have:(c::w).take (JE (c::w)).length=JE (c::w):=by
     have:∀x:List UInt8,x.take (JE x).length=JE x:=by
      intro x
      induction x with
      | nil=>rfl
      | cons a x ih=>
       cases hq:mD (a.toNat:Int) with
       | true=>rw [I.digs_pos hq,List.length_cons,List.take_succ_cons,ih]
       | false=>rw [I.digs_neg hq];rfl
     exact this _
    conv=>lhs;rw [←List.take_append_drop (JE (c::w)).length (c::w)]
    rw [this]
   have hall:∀x:List UInt8,I.AllDg (JE x)∧mD (hb (x.drop (JE x).length))=false:=by
    intro x
    induction x with
    | nil=>exact ⟨fun b hb=>(by cases hb),by decide⟩
    | cons a x ih=>
     cases hq:mD (a.toNat:Int) with
     | true=>
      rw [I.digs_pos hq,List.length_cons,List.drop_succ_cons];refine ⟨fun b hb=>?_,ih.2⟩
      rcases List.mem_cons.1 hb with rfl|hb
      ·exact hq
      ·exact ih.1 b hb
     | false=>rw [I.digs_neg hq];exact ⟨fun b hb=>(by cases hb),hq⟩
   obtain ⟨a1,a2⟩:=hall (c::w);have hne:JE (c::w)≠[]:=by rw [I.digs_pos hc];simp
   have g:=I.num_gen (v:=(c::w).drop (JE (c::w)).length) (decide (n<0)) d1 d2 a1 a2 (fun z=>absurd z hne)
   rw [if_neg hne,List.cons_append,←hsplit] at g;have e:=zec n true (46::c::w);simp only [if_true,List.nil_append] at e;rw [←e] at g;rw [ZaS g.1] at ht;have hfl:(Zs (J3 n true++46::c::w)).1.flag=true:=by rw [ht];rfl
   have:=zfa hfl;rw [g.2] at this;simp [hne] at this
 obtain ⟨g1,g2,g3⟩:=jbg h v1 hfr;rw [he] at g2 g3;have g3:=g3 rfl;have hd:(J3 n f++v).drop (J3 n f).length=v:=List.drop_left;rw [ZaS g1] at ht;unfold Zs at ht;simp only [g2,g3,Nat.add_zero,hd] at ht;cases h3:JC v with
 | true=>rw [h3,if_pos rfl] at ht;exact absurd (congrArg Tok.kind ht) (by show ¬(12:Int)=10;decide)
 | false=>
  refine ⟨v1,hfr,h3,fun z=>?_⟩
  rw [h3,if_neg (by decide),if_pos z] at ht
  exact absurd (congrArg Tok.kind ht) (by show ¬(11:Int)=10;decide)
theorem zh7 {n:Int} (h:NumOK n (Jaq n)) (v:List UInt8):jK (J3 n (Jaq n)++[37]++v)=(tk 11 [] n,(J3 n (Jaq n)++[37]).length):=by
 rw [List.append_assoc,List.singleton_append];have hn:JC (37::v)=false:=rfl;obtain ⟨g1,g2,g3⟩:=jbg h (v:=37::v) (by show mD 37=false;decide) (fun _=>rfl)
 have he:=ZeE hn;rw [he] at g2 g3;have g3:=g3 rfl;have hd:(J3 n (Jaq n)++37::v).drop (J3 n (Jaq n)).length=37::v:=List.drop_left;rw [ZaS g1];unfold Zs;simp only [g2,g3,Nat.add_zero,hd,hn,Bool.false_eq_true,if_false];rw [if_pos (by rfl)]
 simp [List.length_append]
theorem JcJ {u:List UInt8} (hu:u≠[]) (h0:(0:UInt8)∉u) (v:List UInt8):JC (zae u++v)=true∧Zo (zae u++v)=(u++(Zo v).1,(zae u).length+(Zo v).2):=by
 unfold zae;split
 ·refine ⟨?_,?_⟩
  ·obtain ⟨c,w,rfl⟩:=List.exists_cons_of_ne_nil hu;have:zaN 0 0 (c::w)=Zbm c++zaN 0 (0+1) w:=by simp [zaN]
   rw [this,List.append_assoc];exact jda c _
  ·refine ZdT 0 u 0 v h0 ?_;rename_i q;obtain ⟨c,w,rfl⟩:=List.exists_cons_of_ne_nil hu;unfold JeG at q;simp only [Bool.and_eq_true,Jd] at q;have hc:(c.toNat:Int)=101∨(c.toNat:Int)=69:=by have:=q.1;unfold mE at this;simpa using this
   unfold okE
   first|(refine ⟨?_,zbg _ _ _ (by omega)⟩;intro;omega)|(exact ⟨fun _=>by omega,zbg _ _ _ (by omega)⟩)|(simp only [okE];omega)
 ·exact ⟨zF hu v,jcv h0 v⟩
theorem zcK {x:List UInt8} (h:JC x=true):mD (hb x)=false∧jaa x=false∧hb x≠37:=by
 have h2:=zcc h;refine ⟨?_,?_,?_⟩
 ·unfold mD;simp only [Bool.and_eq_false_iff,decide_eq_false_iff_not];rcases h2 with q|q|q
  ·have:=zcJ q;omega
  ·omega
  ·omega
 ·unfold jaa;simp only [Bool.and_eq_false_iff,decide_eq_false_iff_not];left;rcases h2 with q|q|q
  ·have:=zcJ q;omega
  ·omega
  ·omega
 ·rcases h2 with q|q|q
  ·have:=zcJ q;omega
  ·omega
  ·omega
def Zgd (u v:List UInt8):Prop:=jH v=false∧Zcv (zae u++v)=false
theorem JgS {n:Int} {f:Bool} {u:List UInt8} (h:NumOK n f) (hu:u≠[]) (h0:(0:UInt8)∉u) {v:List UInt8} (he:Zcv (zae u++v)=false) :
  jK (J3 n f++zae u++v)=(tk 12 [] n (u++(Zo v).1) f,(J3 n f++zae u).length+(Zo v).2):=by
 obtain ⟨n1,n2⟩:=JcJ hu h0 v;obtain ⟨s1,s2,s3⟩:=zcK n1;rw [List.append_assoc];obtain ⟨g1,g2,g3⟩:=jbg h s1 (fun _=>s2)
 rw [ZcJ he] at g2 g3;have g3:=g3 rfl;have hd:(J3 n f++(zae u++v)).drop (J3 n f).length=zae u++v:=List.drop_left;rw [ZaS g1];unfold Zs;simp only [g2,g3,Nat.add_zero,hd,n1,if_true,n2];refine Prod.ext ?_ ?_
 ·simp
 ·simp only [List.length_append];omega
theorem jh7 {n:Int} {f:Bool} {u:List UInt8} (h:NumOK n f) (hu:u≠[]) (h0:(0:UInt8)∉u) {v:List UInt8} (hv:Zgd u v):jK (J3 n f++zae u++v)=(tk 12 [] n u f,(J3 n f++zae u).length):=by
 rw [JgS h hu h0 hv.2,JaF hv.1];simp
theorem Ziv {n:Int} {f:Bool} {u:List UInt8} (h:NumOK n f) (hu:u≠[]) (h0:(0:UInt8)∉u) {v:List UInt8} (he:Zcv (zae u++v)=false) (ht:(jK (J3 n f++zae u++v)).1=tk 12 [] n u f):Zgd u v:=by
 rw [JgS h hu h0 he] at ht;refine ⟨?_,he⟩;cases q:jH v with
 | false=>rfl
 | true=>
  have:=congrArg Tok.unit ht;exact absurd (Jdo this) (Zdo q)
end Go.Proofs.YtmnegokadegioaaGreatDoor
set_option linter.unusedVariables false
set_option linter.unusedSimpArgs false
namespace Go.Proofs.YtmnegokadegioaaGreatDoor
open Go.Vm Go.Sx Go.RowKit
theorem ZdU:∀w:List UInt8,ZH (w++[48])=if ZH w=[] then [] else ZH w++[48]
 | []=>rfl
 | c::w=>by
  have ih:=ZdU w;unfold ZH at ih ⊢;rw [List.cons_append,List.dropWhile_cons,List.dropWhile_cons];by_cases q:(c==48)=true
  ·rw [if_pos q,if_pos q,ih]
  ·rw [if_neg q,if_neg q,if_neg (by simp),List.cons_append]
theorem JdU:∀(w:List UInt8) (k:Nat) (a:Int),Ja9 k (w++[48]) a=Ja9 k w a
 | [],0,a=>rfl
 | [],k+1,a=>by
  show Ja9 k [] (a*10+(((48:UInt8).toNat:Int)-48))=Ja9 k [] (a*10);rw [show a*10+(((48:UInt8).toNat:Int)-48)=a*10 by simp]
 | c::w,0,a=>rfl
 | c::w,k+1,a=>JdU w k _
theorem zhp (w:List UInt8) (p:Int):jey (w++[48]) p=jey w p:=by
 unfold jey;dsimp only;rw [ZdU,List.length_append];by_cases q:ZH w=[]
 ·rw [if_pos q,if_pos (.inl rfl),if_pos (.inl q)]
 ·rw [if_neg q,List.length_append];have hz:=I.zeros0_len w;simp only [List.length_cons,List.length_nil];have e:p-(((w.length+(0+1):Nat):Int)-((((ZH w).length+(0+1):Nat)):Int))=p-((w.length:Int)-((ZH w).length:Int)):=by omega
  rw [e];have h1:(ZH w++[48]=[]∨p-((w.length:Int)-((ZH w).length:Int))≤0)↔(ZH w=[]∨p-((w.length:Int)-((ZH w).length:Int))≤0):=by simp [q]
  by_cases q2:ZH w=[]∨p-((w.length:Int)-((ZH w).length:Int))≤0
  ·rw [if_pos q2,if_pos (h1.2 q2)]
  ·rw [if_neg q2,if_neg (fun z=>q2 (h1.1 z)),JdU]
theorem jhp (w:List UInt8) (p:Int):jey (48::w) (p+1)=jey w p:=by
 have hz:ZH (48::w)=ZH w:=rfl;unfold jey;dsimp only;rw [hz,List.length_cons];have e:p+1-(((w.length+1:Nat):Int)-((ZH w).length:Int))=p-((w.length:Int)-((ZH w).length:Int)):=by omega
 rw [e]
theorem zgT {d:UInt8} (hd:mD (d.toNat:Int)=true) (W:List UInt8):jK (48::46::d::W)=((jK (46::d::W)).1,(jK (46::d::W)).2+1):=by
 have n1:jbm (48::46::d::W)=true:=by
  unfold jbm;rw [if_neg (by show ¬mSg 48=true;decide)]
  show (mD 48||_)=true;rw [show mD 48=true by decide];rfl
 have f1:jaa (46::d::W)=true:=by simp [jaa,hd]
 have n2:jbm (46::d::W)=true:=by
  unfold jbm;rw [if_neg (by show ¬mSg 46=true;decide),f1];simp
 rw [ZaS n1,ZaS n2];have s1:ZaR (48::46::d::W)=0:=rfl;have s2:ZaR (46::d::W)=0:=rfl;have w2:jaF (46::d::W)=[]:=by unfold jaF;rw [s2];exact I.digs_neg (by show mD 46=false;decide)
 have w1:jaF (48::46::d::W)=[48]:=by
  unfold jaF;rw [s1];show JE (48::46::d::W)=[48];rw [I.digs_pos (by show mD 48=true;decide),I.digs_neg (by show mD 46=false;decide)]
 have b1:jz (48::46::d::W)=1:=by unfold jz;rw [s1,w1];rfl
 have b2:jz (46::d::W)=0:=by unfold jz;rw [s2,w2];rfl
 have r1:(48::46::d::W).drop 1=46::d::W:=rfl;have r2:(46::d::W).drop 0=46::d::W:=rfl;have g1:JbH (48::46::d::W)=JE (d::W):=by unfold JbH;rw [b1,r1,if_pos f1];rfl
 have g2:JbH (46::d::W)=JE (d::W):=by unfold JbH;rw [b2,r2,if_pos f1];rfl
 have c2:zn (46::d::W)=1+(JE (d::W)).length:=by unfold zn;rw [b2,r2,if_pos f1,g2];omega
 have c1:zn (48::46::d::W)=zn (46::d::W)+1:=by rw [c2];unfold zn;rw [b1,r1,if_pos f1,g1];omega
 have dr:∀k,(48::46::d::W).drop (k+1)=(46::d::W).drop k:=fun k=>rfl
 have e1:jax (48::46::d::W)=jax (46::d::W)+1:=by unfold jax;rw [c1,dr];omega
 have m1:ZbL (48::46::d::W)=((ZbL (46::d::W)).1,(ZbL (46::d::W)).2.1,(ZbL (46::d::W)).2.2+1):=by
  unfold ZbL;rw [w1,w2,g1,g2,c1,dr,b1,b2,r1,r2,e1];have k1:¬hb (48::46::d::W)=45:=by show ¬(48:Int)=45;decide
  have k2:¬hb (46::d::W)=45:=by show ¬(46:Int)=45;decide
  simp only [if_neg k1,if_neg k2];refine Prod.ext ?_ rfl;dsimp only;rw [List.singleton_append,List.nil_append];have e:∀x:Int,((([48]:List UInt8).length:Int))+x+3=((([]:List UInt8).length:Int))+x+3+1:=fun x=>by
   show (1:Int)+x+3=0+x+3+1;omega
  rw [e];exact jhp _ _
 unfold Zs;rw [m1];dsimp only;rw [dr];split
 ·refine Prod.ext rfl ?_;dsimp only;omega
 ·split
  ·rfl
  ·rfl
theorem Zh7 {n:Int} (h:NumOK n false) {d:UInt8} (hd:mD (d.toNat:Int)=true) (W:List UInt8):jK (J3 n false++48::46::d::W)=(tk 10 [] n [] false,(J3 n false).length+1):=by
 obtain ⟨d1,d2,d3⟩:=I.dec_ok (n.natAbs / 1000);obtain ⟨f1,f2,f3,_⟩:=I.fr_ok (r:=n.natAbs%1000) (Nat.mod_lt _ (by decide))
 have hlF:=I.fr3_len 3 (n.natAbs%1000);have hlo:=h.lo;have hhi:=h.hi;have hF:I.AllDg (fr3 3 (n.natAbs%1000)++[48]):=by
  intro b hb;rcases List.mem_append.1 hb with q|q
  ·exact f1 b q
  ·rw [List.mem_singleton] at q;subst q;decide
 have hne:fr3 3 (n.natAbs%1000)++[48]≠[]:=by simp
 have hnm:JC (46::d::W)=false:=rfl;have hex:=ZeE hnm;have g:=I.num_gen (v:=46::d::W) (decide (n<0)) d1 d2 hF (by show mD 46=false;decide) (fun z=>absurd z hne)
 rw [if_neg hne,hex] at g;have e:=zec n false (48::46::d::W);simp only [Bool.false_eq_true,if_false,if_neg f2] at e;have e2:(46::fr3 3 (n.natAbs%1000))++48::46::d::W=(46::(fr3 3 (n.natAbs%1000)++[48]))++46::d::W:=by simp
 rw [e2] at e;rw [←e] at g;have hl:=Je9 n false;simp only [Bool.false_eq_true,if_false,if_neg f2] at hl;have hc:=I.cut_val (a:=n.natAbs / 1000) (r:=n.natAbs%1000) (by omega) (by omega) _ hlF f3
 have hv:ZbL (J3 n false++48::46::d::W)=(n,false,(J3 n false).length+1):=by
  rw [g.2,←List.append_assoc,zhp,hc,hl];refine Prod.ext ?_ (Prod.ext ?_ ?_)
  ·dsimp only;by_cases q:n<0
   ·rw [if_pos (by simpa using q)];omega
   ·rw [if_neg (by simpa using q)];omega
  ·simp
  ·simp;omega
 rw [ZaS g.1];have hdrop:(J3 n false++48::46::d::W).drop ((J3 n false).length+1)=46::d::W:=by
  rw [←List.drop_drop,List.drop_left];rfl
 unfold Zs;rw [hv];dsimp only;rw [hdrop,hnm,if_neg (by decide),if_neg (by show ¬(46:Int)=37;decide)]
end Go.Proofs.YtmnegokadegioaaGreatDoor
set_option linter.unusedVariables false
set_option linter.unusedSimpArgs false
namespace Go.Proofs.YtmnegokadegioaaGreatDoor
open Go.Vm Go.Sx Go.RowKit
inductive RD:List UInt8→List Tok→Prop where
 | nil {u:List UInt8}:u.drop (Zax u)=[]→RD u []
 | cons {u:List UInt8} {L:List Tok}:u.drop (Zax u)≠[]→RD ((u.drop (Zax u)).drop (jK (u.drop (Zax u))).2) L→RD u ((jK (u.drop (Zax u))).1::L)
theorem jcc {L:List Tok} (h:RD [] L):L=[]:=by
 cases h with
 | nil _=>rfl
 | cons h _=>simp at h
theorem JhD {u:List UInt8} {t:Tok} {L:List Tok} (h:RD u (t::L)):u.drop (Zax u)≠[]∧(jK (u.drop (Zax u))).1=t∧RD ((u.drop (Zax u)).drop (jK (u.drop (Zax u))).2) L:=by
 generalize hM:t::L=M at h;cases h with
 | nil _=>cases hM
 | cons h1 h2=>
  injection hM with e1 e2
  subst e1 e2;exact ⟨h1,rfl,h2⟩
theorem Jai {u:List UInt8} {t:Tok} {L:List Tok} (hc:Zax u=0) (h:RD u (t::L)):u≠[]∧(jK u).1=t∧RD (u.drop (jK u).2) L:=by
 have:=JhD h;rw [hc,List.drop_zero] at this;exact this
theorem Zhp {u:List UInt8} {t:Tok} {n:Nat} {L:List Tok} (hc:Zax u=0) (hu:u≠[]) (ht:jK u=(t,n)) (h:RD (u.drop n) L):RD u (t::L):=by
 have h2:RD u ((jK (u.drop (Zax u))).1::L):=by
  refine .cons ?_ ?_
  ·rw [hc,List.drop_zero];exact hu
  ·rw [hc,List.drop_zero,ht];exact h
 rw [hc,List.drop_zero,ht] at h2;exact h2
theorem jgT {X V:List UInt8} {t:Tok} {L:List Tok} (hX:X≠[]) (hc:Zax (X++V)=0) (ht:jK (X++V)=(t,X.length)):RD (X++V) (t::L)↔RD V L:=by
 refine ⟨fun h=>?_,fun h=>?_⟩
 ·have:=(Jai hc h).2.2;rw [ht,List.drop_left] at this;exact this
 ·exact Zhp hc (by simp [hX]) ht (by rw [List.drop_left];exact h)
theorem Jhp (V:List UInt8):Zax ([47,42,42,47]++V)=4+Zax V:=by
 show Zax (47::42::42::47::V)=_;rw [Zax];have h1:[47,42].isPrefixOf (47::42::42::47::V)=true:=by simp [List.isPrefixOf]
 have h2:Zdj ((47::42::42::47::V).drop 2)=some 0:=by
  show Zdj (42::47::V)=some 0;unfold Zdj;rw [if_pos ⟨rfl,rfl⟩]
 rw [if_pos h1,h2];simp
theorem Jiv {V:List UInt8} {L:List Tok}:RD ([47,42,42,47]++V) L↔RD V L:=by
 have e:([47,42,42,47]++V).drop (Zax ([47,42,42,47]++V))=V.drop (Zax V):=by
  rw [Jhp,←List.drop_drop];rfl
 refine ⟨fun h=>?_,fun h=>?_⟩
 ·cases h with
  | nil h=>rw [e] at h;exact .nil h
  | cons h1 h2=>rw [e] at h1 h2 ⊢;exact .cons h1 h2
 ·cases h with
  | nil h=>rw [←e] at h;exact .nil h
  | cons h1 h2=>rw [←e] at h1 h2 ⊢;exact .cons h1 h2
def exV (t:Tok) (v:List UInt8):Prop:=t.kind=10∧t.flag=false∧∃(d:UInt8) (W:List UInt8),mD (d.toNat:Int)=true∧v=48::46::d::W
def stM (t:Tok) (v:List UInt8):Prop:=
 if t.kind=1 then zeE t.text v
 else if t.kind=3 then jH v=false
 else if t.kind=4 then jH v=false
 else if t.kind=9 then ∀c,t.text=[c]→zdk c v
 else if t.kind=10 then jgd t.flag v∨exV t v
 else if t.kind=12 then Zgd t.unit v
 else if t.kind=13 then mSp (hb v)=false
 else True
theorem jfE {t:Tok} {v:List UInt8} (W:List UInt8) (h:exV t v):exV t (v++W):=by
 obtain ⟨h1,h2,d,X,h3,rfl⟩:=h;exact ⟨h1,h2,d,X++W,h3,rfl⟩
theorem ZgT {t:Tok} {v:List UInt8} (W:List UInt8) (h:stM t v):stM t (v++47::W):=by
 unfold stM at h ⊢;split
 ·rename_i q;rw [if_pos q] at h;obtain ⟨h1,h2,h3⟩:=h;refine ⟨by rw [zba];exact h1,zbJ W (fun x=>x=40) (by decide) h2,fun z=>?_⟩
  exact zbJ W (fun x=>x=62) (by decide) (fun q=>h3 ⟨z.1,q⟩) z.2
 rename_i q;rw [if_neg q] at h;split
 ·rename_i q;rw [if_pos q] at h;rw [zba];exact h
 rename_i q;rw [if_neg q] at h;split
 ·rename_i q;rw [if_pos q] at h;rw [zba];exact h
 rename_i q;rw [if_neg q] at h;split
 ·rename_i q;rw [if_pos q] at h;exact fun c hc=>JfD W (h c hc)
 rename_i q;rw [if_neg q] at h;split
 ·rename_i q;rw [if_pos q] at h;rcases h with ⟨h1,h2,h3,h4⟩|h
  ·left;refine ⟨?_,fun z=>by rw [ZfD];exact h2 z,by rw [Jcv];exact h3,zbJ W (fun x=>x=37) (by decide) h4⟩
   have:=zbJ (V:=v) W (fun x=>mD x=true) (by decide) (by rw [h1];decide)
   simpa using this
  ·exact .inr (jfE _ h)
 rename_i q;rw [if_neg q] at h;split
 ·rename_i q;rw [if_pos q] at h;exact ⟨by rw [zba];exact h.1,by rw [←List.append_assoc,Jgc];exact h.2⟩
 rename_i q;rw [if_neg q] at h;split
 ·rename_i q;rw [if_pos q] at h;have:=zbJ (V:=v) W (fun x=>mSp x=true) (by decide) (by rw [h];decide)
  simpa using this
 ·trivial
theorem Jh7 {t:Tok} {v:List UInt8} (W:List UInt8) (hl:3≤v.length) (h:stM t v):stM t (v++W):=by
 unfold stM at h ⊢;split
 ·rename_i q;rw [if_pos q] at h;obtain ⟨h1,h2,h3⟩:=h;exact ⟨by rw [Jb3 (by omega)];exact h1,by rw [Zab (by omega)];exact h2,by rw [Zab (by omega)];exact h3⟩
 rename_i q;rw [if_neg q] at h;split
 ·rename_i q;rw [if_pos q] at h;rw [Jb3 (by omega)];exact h
 rename_i q;rw [if_neg q] at h;split
 ·rename_i q;rw [if_pos q] at h;rw [Jb3 (by omega)];exact h
 rename_i q;rw [if_neg q] at h;split
 ·rename_i q;rw [if_pos q] at h;exact fun c hc=>(ZgS W hl).2 (h c hc)
 rename_i q;rw [if_neg q] at h;split
 ·rename_i q;rw [if_pos q] at h;rcases h with ⟨h1,h2,h3,h4⟩|h
  ·exact .inl ⟨by rw [Zab (by omega)];exact h1,fun z=>by rw [ZdS (by omega)];exact h2 z,by rw [jdS (by omega)];exact h3,by rw [Zab (by omega)];exact h4⟩
  ·exact .inr (jfE _ h)
 rename_i q;rw [if_neg q] at h;split
 ·rename_i q;rw [if_pos q] at h;exact ⟨by rw [Jb3 (by omega)];exact h.1,by rw [←List.append_assoc,jfU (by rw [List.length_append];omega)];exact h.2⟩
 rename_i q;rw [if_neg q] at h;split
 ·rename_i q;rw [if_pos q] at h;rw [Zab (by omega)];exact h
 ·trivial
theorem jec {a b:Tok} (h:jab a b=true):a=b:=by
 unfold jab at h;simp only [Bool.and_eq_true,decide_eq_true_eq] at h;obtain ⟨h1,h2,h3,h4,h5⟩:=h;cases a;cases b;simp only at h1 h2 h3 h4 h5;subst h1 h2 h3 h4 h5;rfl
theorem JeE {t:Tok} (h:jbP t=true):NumOK t.num t.flag:=by
 unfold jbP at h;simp only [Bool.and_eq_true,Bool.or_eq_true,decide_eq_true_eq,Bool.not_eq_true'] at h;refine ⟨h.1,h.2.1,fun z=>?_⟩
 rcases h.2.2 with q|q
 ·rw [z] at q;cases q
 ·unfold Jaq at q;simpa using q
inductive Can:Tok→Prop where
 | ident (a:List UInt8) (ha:a≠[]) (h0:(0:UInt8)∉a):Can (tk 1 a)
 | func (a:List UInt8) (ha:a≠[]) (h0:(0:UInt8)∉a):Can (tk 2 a)
 | atk (a:List UInt8) (ha:a≠[]) (h0:(0:UInt8)∉a):Can (tk 3 a)
 | hash (a:List UInt8) (f:Bool) (ha:a≠[]) (h0:(0:UInt8)∉a) (hf:f=true∨ZcL a≠-1):Can (tk 4 a 0 [] f)
 | str (a:List UInt8) (h0:(0:UInt8)∉a):Can (tk 5 a)
 | url (a:List UInt8) (h0:(0:UInt8)∉a):Can (tk 7 a)
 | del (c:UInt8) (hc:DelOK c) (h0:c≠0):Can (tk 9 [c])
 | num (n:Int) (f:Bool) (h:NumOK n f):Can (tk 10 [] n [] f)
 | pct (n:Int) (h:NumOK n (Jaq n)):Can (tk 11 [] n)
 | dim (n:Int) (u:List UInt8) (f:Bool) (h:NumOK n f) (hu:u≠[]) (h0:(0:UInt8)∉u):Can (tk 12 [] n u f)
 | sp:Can (tk 13)
 | cdo:Can (tk 14)
 | cdc:Can (tk 15)
 | mark (k:Int) (hk:16≤k∧k≤24):Can (tk k)
theorem jfa {t:Tok} (h:jck t=true):Can t:=by
 unfold jck at h;simp only [Bool.and_eq_true,Bool.not_eq_true',List.contains_eq_mem,decide_eq_false_iff_not] at h;obtain ⟨h1,h2,h3,h4⟩:=h;have e:=jec h1;unfold Jci at e;by_cases k1:t.kind∈([1,2,3]:List Int)
 ·rw [if_pos k1] at h4;rw [if_pos (by simp only [List.mem_cons,List.not_mem_nil,or_false] at k1 ⊢;omega)] at e
  have h4:t.text≠[]:=by simpa using h4
  simp only [List.mem_cons,List.not_mem_nil,or_false] at k1;rw [e];rcases k1 with k|k|k <;> rw [k]
  ·exact .ident _ h4 h2
  ·exact .func _ h4 h2
  ·exact .atk _ h4 h2
 rw [if_neg k1] at h4;simp only [List.mem_cons,List.not_mem_nil,or_false,not_or] at k1;by_cases k4:t.kind=4
 ·rw [if_pos k4] at h4;rw [if_neg (by simp only [List.mem_cons,List.not_mem_nil,or_false];omega),if_pos k4,k4] at e
  simp only [Bool.and_eq_true,Bool.or_eq_true,decide_eq_true_eq,bne_iff_ne] at h4;rw [e];exact .hash _ _ h4.1 h2 h4.2
 rw [if_neg k4] at h4;by_cases k9:t.kind=9
 ·rw [if_pos k9] at h4;rw [if_pos (by simp [k9]),k9] at e
  obtain ⟨c,hc,ho⟩:=Jh5 h4;rw [e,hc];exact .del c ho (fun z=>h2 (by rw [hc,z];simp))
 rw [if_neg k9] at h4;by_cases k10:t.kind=10∨t.kind=11
 ·rw [if_pos k10] at h4;rw [if_neg (by simp only [List.mem_cons,List.not_mem_nil,or_false];omega),if_neg k4] at e
  rcases k10 with k|k
  ·rw [if_pos k,k] at e;rw [e];exact .num _ _ (JeE h4)
  ·rw [if_neg (by omega),if_pos k,k] at e
   rw [e];have:=JeE h4;exact .pct _ ⟨this.lo,this.hi,fun z=>by unfold Jaq at z;simpa using z⟩
 rw [if_neg k10] at h4;by_cases k12:t.kind=12
 ·rw [if_pos k12] at h4;simp only [Bool.and_eq_true,bne_iff_ne] at h4;rw [if_neg (by simp only [List.mem_cons,List.not_mem_nil,or_false];omega),if_neg k4,if_neg (by omega),if_neg (by omega),if_pos k12,k12] at e
  rw [e];exact .dim _ _ _ (JeE h4.1) h4.2 h3
 rw [if_neg k12] at h4;by_cases k6:t.kind=6∨t.kind=8
 ·rw [if_pos k6] at h4;cases h4
 rw [if_neg k6] at h4;simp only [Bool.and_eq_true,decide_eq_true_eq] at h4;by_cases k5:t.kind=5∨t.kind=7
 ·rw [if_pos (by simp only [List.mem_cons,List.not_mem_nil,or_false];omega)] at e
  rw [e];rcases k5 with k|k <;> rw [k]
  ·exact .str _ h2
  ·exact .url _ h2
 rw [if_neg (by simp only [List.mem_cons,List.not_mem_nil,or_false];omega),if_neg k4,if_neg (by omega),if_neg (by omega),if_neg k12] at e
 rw [e];by_cases k13:t.kind=13
 ·rw [k13];exact .sp
 by_cases k14:t.kind=14
 ·rw [k14];exact .cdo
 by_cases k15:t.kind=15
 ·rw [k15];exact .cdc
 exact .mark _ (by omega)
end Go.Proofs.YtmnegokadegioaaGreatDoor
set_option linter.unusedVariables false
set_option linter.unusedSimpArgs false
namespace Go.Proofs.YtmnegokadegioaaGreatDoor
open Go.Vm Go.Sx Go.RowKit
theorem Zbl {X V:List UInt8} {t:Tok} {L:List Tok} (hX:X≠[]) (h47:hb X≠47) (ht:jK (X++V)=(t,X.length)):RD (X++V) (t::L)↔RD V L:=by
 refine jgT hX (JaM fun z=>h47 ?_) ht
 rw [←z.1,Zab (List.length_pos_iff.2 hX)]
theorem JfU {x:List UInt8} (h:jbm x=true):hb x=43∨hb x=45∨hb x=46∨mD (hb x)=true:=by
 unfold jbm at h;split at h
 ·rename_i q;unfold mSg at q;simp only [Bool.or_eq_true,decide_eq_true_eq] at q;omega
 ·simp only [Bool.or_eq_true,jaa,Bool.and_eq_true,decide_eq_true_eq] at h;rcases h with h|h
  ·exact .inr (.inr (.inr h))
  ·exact .inr (.inr (.inl h.1))
theorem Zec {c:Int} (h:mD c=true):48≤c∧c≤57:=by unfold mD at h;simpa using h
theorem Zfa {n:Int} {f:Bool} (h:NumOK n f):jbm (J3 n f)=true:=by
 have:=(jbg h (v:=[]) (by decide) (fun _=>by decide)).1
 rwa [List.append_nil] at this
theorem zaj {n:Int} {f:Bool} (h:NumOK n f):J3 n f≠[]:=fun z=>by
 have:=Zfa h;rw [z] at this;exact absurd this (by decide)
theorem Jbl {n:Int} {f:Bool} (h:NumOK n f):hb (J3 n f)≠47:=fun z=>by
 rcases JfU (Zfa h) with q|q|q|q
 ·omega
 ·omega
 ·omega
 ·have:=Zec q;omega
theorem zdb {X Y:List UInt8} (hX:X≠[]) (h:hb X≠47):hb (X++Y)≠47:=by
 rw [Zab (List.length_pos_iff.2 hX)];exact h
theorem ji4 {V:List UInt8} (h:mSp (hb V)=false):nSp V=0:=by
 cases V with
 | nil=>rfl
 | cons c w=>simp only [nSp];rw [Jd] at h;rw [h];rfl
theorem Jfa {a:List UInt8} (ha:a≠[]):hb (Zaa a)≠47:=(Ze9 (Jgb ha)).1
theorem jcK {k:Int} (hk:16≤k∧k≤24):tokT (tk k)=[marksT.getD (k-16).toNat 0]:=by
 have h:∀j:Int,j<16→k≠j:=fun j hj=>by omega
 have e:∀j:Int,j<16→(tk k).kind≠j:=h;unfold tokT;simp only [e 13 (by decide),e 1 (by decide),e 2 (by decide),e 3 (by decide),e 4 (by decide),e 5 (by decide),e 7 (by decide),e 10 (by decide),e 11 (by decide),e 12 (by decide),e 9 (by decide),e 14 (by decide),e 15 (by decide),if_false]
 rfl
theorem zhq {t:Tok} {V:List UInt8} {L:List Tok} (hc:Can t) (hb1:zbv t=false) (hu1:jcw t=false) (h:stM t V):RD (tokT t++V) (t::L)↔RD V L:=by
 cases hc with
 | ident a ha h0=>
  have h:zeE a V:=h;exact Zbl (JdT ha) (Jfa ha) (JgQ ha h0 h)
 | func a ha h0=>
  have hu:Z3 a [117,114,108]=false:=by simpa [jcw,tk] using hu1
  show RD (Zaa a++[40]++V) _↔_;refine Zbl (by simp) (zdb (JdT ha) (Jfa ha)) ?_
  rw [List.append_assoc,List.singleton_append,JfC ha h0 (fun z=>by rw [hu] at z;cases z)]
  simp
 | atk a ha h0=>
  have h:jH V=false:=h;exact Zbl (X:=64::Zaa a) (by simp) (by show ¬(64:Int)=47;decide) (ziv ha h0 h)
 | hash a f ha h0 hf=>
  have h:jH V=false:=h;exact Zbl (X:=JcG a f) (by simp [JcG]) (by show ¬(35:Int)=47;decide) (Zho ha h0 hf h)
 | str a h0=>exact Zbl (X:=34::(Zci a++[34])) (by simp) (by show ¬(34:Int)=47;decide) (zfD h0)
 | url a h0=>exact Zbl (X:=[117,114,108,40]++(zcu a++[41])) (by simp) (by show ¬(117:Int)=47;decide) (zh5 h0)
 | del c hc h0=>
  have h:zdk c V:=h c rfl;refine jgT (X:=[c]) (by simp) (JaM fun z=>h.2.2.2.2.2.2 z) (zh6 hc h)
 | num n f hn=>
  have h:jgd f V∨exV (tk 10 [] n [] f) V:=h;show RD (J3 n f++V) _↔_;rcases h with h|⟨_,hf,d,W,hd,rfl⟩
  ·exact Zbl (zaj hn) (Jbl hn) (Jh6 hn h)
  ·have hf:f=false:=hf;subst hf;have hr:=Zh7 hn hd W;have hc0:Zax (J3 n false++48::46::d::W)=0:=JaM fun z=>zdb (zaj hn) (Jbl hn) z.1
   have hdr:(J3 n false++48::46::d::W).drop ((J3 n false).length+1)=46::d::W:=by rw [←List.drop_drop,List.drop_left];rfl
   have e1:RD (J3 n false++48::46::d::W) (tk 10 [] n [] false::L)↔RD (46::d::W) L:=by
    refine ⟨fun z=>?_,fun z=>?_⟩
    ·have:=(Jai hc0 z).2.2;rw [hr,hdr] at this;exact this
    ·exact Zhp hc0 (by simp) hr (by rw [hdr];exact z)
   rw [e1];have k1:Zax (48::46::d::W)=0:=JaM fun z=>absurd z.1 (by show ¬(48:Int)=47;decide)
   have k2:Zax (46::d::W)=0:=JaM fun z=>absurd z.1 (by show ¬(46:Int)=47;decide)
   have hs:=zgT hd W;cases L with
   | nil=>
    refine ⟨fun z=>?_,fun z=>?_⟩
    ·cases z with
     | nil z=>rw [k2] at z;cases z
    ·cases z with
     | nil z=>rw [k1] at z;cases z
   | cons b L=>
    refine ⟨fun z=>?_,fun z=>?_⟩
    ·obtain ⟨-,z2,z3⟩:=Jai k2 z;exact Zhp k1 (by simp) (hs.trans (by rw [z2])) z3
    ·obtain ⟨-,z2,z3⟩:=Jai k1 z;rw [hs] at z2 z3;exact Zhp k2 (by simp) (Prod.ext z2 rfl) z3
 | pct n hn=>
  show RD (J3 n (Jaq n)++[37]++V) _↔_;exact Zbl (by simp) (zdb (zaj hn) (Jbl hn)) (zh7 hn V)
 | dim n u f hn hu h0=>
  have h:Zgd u V:=h;show RD (J3 n f++zae u++V) _↔_;exact Zbl (by simp [zaj hn]) (zdb (zaj hn) (Jbl hn)) (jh7 hn hu h0 h)
 | sp=>
  have h:mSp (hb V)=false:=h;refine Zbl (X:=[32]) (by simp) (by show ¬(32:Int)=47;decide) ?_
  rw [List.singleton_append,zfU 32 (.inl rfl),ji4 h];rfl
 | cdo=>exact Zbl (X:=[60,33,45,45]) (by simp) (by show ¬(60:Int)=47;decide) (jh5 V)
 | cdc=>exact Zbl (X:=[45,45,62]) (by simp) (by show ¬(45:Int)=47;decide) (jh6 V)
 | mark k hk=>
  have e:=jcK hk;rw [e];refine Zbl (by simp) ?_ (Jho hk V)
  obtain ⟨n,rfl⟩:∃n:Nat,k=16+(n:Int):=⟨(k-16).toNat,by omega⟩
  have key:∀n:Nat,n<9→(((marksT.getD n 0).toNat:Int))≠47:=by decide +kernel
  rw [show (16+(n:Int)-16).toNat=n by omega]
  exact key n (by omega)
inductive Pc:List Tok→List UInt8→Prop where
 | one (t:Tok) (hc:Can t) (h1:zbv t=false) (h2:jcw t=false):Pc [t] (tokT t)
 | bs:Pc [tk 9 [92],tk 13] [92,10]
 | uf (a s:List UInt8) (ha:a≠[]) (h0:(0:UInt8)∉a) (hu:Z3 a [117,114,108]=true) (hs:(0:UInt8)∉s):Pc [tk 2 a,tk 5 s] (Zaa a++[40]++(34::(Zci s++[34])))
 | ufs (a s:List UInt8) (ha:a≠[]) (h0:(0:UInt8)∉a) (hu:Z3 a [117,114,108]=true) (hs:(0:UInt8)∉s):Pc [tk 2 a,tk 13,tk 5 s] (Zaa a++[40]++(32::34::(Zci s++[34])))
def stP (T:List Tok) (V:List UInt8):Prop:=(∀t,T=[t]→stM t V)∧(∀t,T=[t,tk 13]→mSp (hb V)=false)
theorem ZfE {t:Tok} {V:List UInt8}:stP [t] V↔stM t V:=
 ⟨fun h=>h.1 t rfl,fun h=>⟨fun u e=>by injection e with e _;subst e;exact h,fun u e=>(by cases e)⟩⟩
theorem JgT {V:List UInt8}:stP [tk 9 [92],tk 13] V↔mSp (hb V)=false:=
 ⟨fun h=>h.2 _ rfl,fun h=>⟨fun u e=>(by cases e),fun u e=>h⟩⟩
theorem zgU {T:List Tok} {V:List UInt8} (W:List UInt8) (h:stP T V):stP T (V++47::W):=by
 refine ⟨fun t e=>ZgT W (h.1 t e),fun t e=>?_⟩
 have:=zbJ (V:=V) W (fun x=>mSp x=true) (by decide) (by rw [h.2 t e];decide)
 simpa using this
theorem zh8 {T:List Tok} {V:List UInt8} (W:List UInt8) (hl:3≤V.length) (h:stP T V):stP T (V++W):=
 ⟨fun t e=>Jh7 W hl (h.1 t e),fun t e=>by rw [Zab (by omega)];exact h.2 t e⟩
theorem zhE (V:List UInt8):jK ([92]++10::V)=(tk 9 [92],1):=by
 have h1:mSp (((92:UInt8).toNat:Int))=false:=by decide
 have h2:mQ (((92:UInt8).toNat:Int))=false:=by decide
 have h3:¬(((92:UInt8).toNat:Int))=35:=by decide
 have h4:¬(((92:UInt8).toNat:Int))=64:=by decide
 have h5:jbm (92::10::V)=false:=by
  unfold jbm jaa;rw [Jd,show mSg (((92:UInt8).toNat:Int))=false by decide,show mD (((92:UInt8).toNat:Int))=false by decide,show decide ((((92:UInt8).toNat:Int))=46)=false by decide]
  rfl
 have h6:JC (92::10::V)=false:=by
  rw [Jbu,if_pos (by decide),show mN0 (((92:UInt8).toNat:Int))=false by decide,jcJ,Jd,show decide ((((10:UInt8).toNat:Int))≠10)=false by decide,Bool.and_false]
  rfl
 rw [List.singleton_append,jfD h1 h2 (fun z=>h3 z.1) h5 (by simp [List.isPrefixOf]) (by simp [List.isPrefixOf]) (fun z=>h4 z.1) h6,if_neg (by decide)]
theorem jh8 {T:List Tok} {X:List UInt8} (h:Pc T X):X≠[]∧T≠[]:=by
 cases h with
 | one t hc h1 h2=>
  refine ⟨fun z=>?_,by simp⟩
  cases hc with
  | ident a ha h0=>exact JdT ha z
  | func a ha h0=>have z:Zaa a++[40]=[]:=z;simp at z
  | atk a ha h0=>have z:64::Zaa a=[]:=z;cases z
  | hash a f ha h0 hf=>cases z
  | str a h0=>cases z
  | url a h0=>cases z
  | del c hc h0=>cases z
  | num n f hn=>exact zaj hn z
  | pct n hn=>have z:J3 n (Jaq n)++[37]=[]:=z;simp at z
  | dim n u f hn hu h0=>have z:J3 n f++zae u=[]:=z;simp [zaj hn] at z
  | sp=>cases z
  | cdo=>cases z
  | cdc=>cases z
  | mark k hk=>
   have e:tokT (tk k)=[marksT.getD (k-16).toNat 0]:=jcK hk;rw [e] at z;cases z
 | bs=>simp
 | uf a s ha h0 hu hs=>simp
 | ufs a s ha h0 hu hs=>simp
theorem jgU {T:List Tok} {X V:List UInt8} {L:List Tok} (hp:Pc T X) (h:stP T V):RD (X++V) (T++L)↔RD V L:=by
 cases hp with
 | one t hc h1 h2=>exact zhq hc h1 h2 (ZfE.1 h)
 | bs=>
  have h:=JgT.1 h;show RD ([92]++(10::V)) (tk 9 [92]::tk 13::L)↔_;rw [Zbl (by simp) (by show ¬(92:Int)=47;decide) (zhE V)]
  show RD ([10]++V) (tk 13::L)↔_;refine Zbl (by simp) (by show ¬(10:Int)=47;decide) ?_
  rw [List.singleton_append,zfU 10 (.inr rfl),ji4 h];rfl
 | uf a s ha h0 hu hs=>
  rw [List.append_assoc];show RD (Zaa a++[40]++(34::(Zci s++[34])++V)) (tk 2 a::tk 5 s::L)↔_;rw [Zbl (by simp) (zdb (JdT ha) (Jfa ha)) (by rw [List.append_assoc,List.singleton_append,JfC ha h0 (fun z=>by rfl)];simp)]
  exact Zbl (by simp) (by show ¬(34:Int)=47;decide) (zfD hs)
 | ufs a s ha h0 hu hs=>
  rw [List.append_assoc];show RD (Zaa a++[40]++([32]++(34::(Zci s++[34])++V))) (tk 2 a::tk 13::tk 5 s::L)↔_;rw [Zbl (by simp) (zdb (JdT ha) (Jfa ha)) (by rw [List.append_assoc,List.singleton_append,JfC ha h0 (fun z=>by rfl)];simp)]
  rw [Zbl (by simp) (by show ¬(32:Int)=47;decide) (by rw [List.singleton_append,zfU 32 (.inl rfl)];rfl)]
  exact Zbl (by simp) (by show ¬(34:Int)=47;decide) (zfD hs)
end Go.Proofs.YtmnegokadegioaaGreatDoor
set_option linter.unusedVariables false
set_option linter.unusedSimpArgs false
namespace Go.Proofs.YtmnegokadegioaaGreatDoor
open Go.Vm Go.Sx Go.RowKit
inductive First (T:List Tok) (X:List UInt8):Prop where
 | name (a tl:List UInt8) (ha:a≠[]) (h0:(0:UInt8)∉a) (hX:X=Zaa a++tl) (h:(T=[tk 1 a]∧tl=[])∨(T=[tk 2 a]∧tl=[40])∨Z3 a [117,114,108]=true)
 | num (n:Int) (f:Bool) (tl:List UInt8) (hn:NumOK n f) (hX:X=J3 n f++tl) (h:(T=[tk 10 [] n [] f]∧tl=[])∨(T=[tk 11 [] n]∧tl=[37])∨(∃u,u≠[]∧(0:UInt8)∉u∧T=[tk 12 [] n u f]∧tl=zae u))
 | del (c:UInt8) (hc:DelOK c) (hX:X=[c])
 | sp (hX:X=[32]) (hT:T=[tk 13])
 | other (h1:hb X≠42) (h2:mSp (hb X)=false) (h3:mD (hb X)=false) (h4:mE (hb X)=false) (h5:¬(mSg (hb X)=true∧mD (hb X.tail)=true))
theorem jhq {T:List Tok} {X:List UInt8} (hp:Pc T X):First T X:=by
 cases hp with
 | one t hc h1 h2=>
  cases hc with
  | ident a ha h0=>exact .name a [] ha h0 (List.append_nil _).symm (.inl ⟨rfl,rfl⟩)
  | func a ha h0=>exact .name a [40] ha h0 rfl (.inr (.inl ⟨rfl,rfl⟩))
  | atk a ha h0=>exact .other (by show ¬(64:Int)=42;decide) (by show mSp 64=false;decide) (by show mD 64=false;decide) (by show mE 64=false;decide) (fun z=>absurd z.1 (by show ¬mSg 64=true;decide))
  | hash a f ha h0 hf=>exact .other (by show ¬(35:Int)=42;decide) (by show mSp 35=false;decide) (by show mD 35=false;decide) (by show mE 35=false;decide) (fun z=>absurd z.1 (by show ¬mSg 35=true;decide))
  | str a h0=>exact .other (by show ¬(34:Int)=42;decide) (by show mSp 34=false;decide) (by show mD 34=false;decide) (by show mE 34=false;decide) (fun z=>absurd z.1 (by show ¬mSg 34=true;decide))
  | url a h0=>exact .other (by show ¬(117:Int)=42;decide) (by show mSp 117=false;decide) (by show mD 117=false;decide) (by show mE 117=false;decide) (fun z=>absurd z.1 (by show ¬mSg 117=true;decide))
  | del c hc h0=>exact .del c hc rfl
  | num n f hn=>exact .num n f [] hn (List.append_nil _).symm (.inl ⟨rfl,rfl⟩)
  | pct n hn=>exact .num n (Jaq n) [37] hn rfl (.inr (.inl ⟨rfl,rfl⟩))
  | dim n u f hn hu h0=>exact .num n f (zae u) hn rfl (.inr (.inr ⟨u,hu,h0,rfl,rfl⟩))
  | sp=>exact .sp rfl rfl
  | cdo=>exact .other (by show ¬(60:Int)=42;decide) (by show mSp 60=false;decide) (by show mD 60=false;decide) (by show mE 60=false;decide) (fun z=>absurd z.1 (by show ¬mSg 60=true;decide))
  | cdc=>exact .other (by show ¬(45:Int)=42;decide) (by show mSp 45=false;decide) (by show mD 45=false;decide) (by show mE 45=false;decide) (fun z=>absurd z.2 (by show ¬mD 45=true;decide))
  | mark k hk=>
   rw [jcK hk];obtain ⟨n,rfl⟩:∃n:Nat,k=16+(n:Int):=⟨(k-16).toNat,by omega⟩
   have key:∀n:Nat,n<9→((((marksT.getD n 0).toNat:Int))≠42∧mSp ((marksT.getD n 0).toNat:Int)=false∧mD ((marksT.getD n 0).toNat:Int)=false∧mE ((marksT.getD n 0).toNat:Int)=false∧mSg ((marksT.getD n 0).toNat:Int)=false):=by decide +kernel
   rw [show (16+(n:Int)-16).toNat=n by omega]
   obtain ⟨k1,k2,k3,k4,k5⟩:=key n (by omega)
   refine .other k1 k2 k3 k4 (fun z=>?_)
   have z:=z.1;rw [Jd,k5] at z;cases z
 | bs=>exact .other (by show ¬(92:Int)=42;decide) (by show mSp 92=false;decide) (by show mD 92=false;decide) (by show mE 92=false;decide) (fun z=>absurd z.1 (by show ¬mSg 92=true;decide))
 | uf a s ha h0 hu hs=>exact .name a _ ha h0 (List.append_assoc _ _ _) (.inr (.inr hu))
 | ufs a s ha h0 hu hs=>exact .name a _ ha h0 (List.append_assoc _ _ _) (.inr (.inr hu))
theorem Jgd {T:List Tok} {X:List UInt8} (hf:First T X) (h:hb X=42):X=[42]:=by
 cases hf with
 | name a tl ha h0 hX _=>
  exfalso;rw [hX] at h;rcases zcc (zF ha tl) with q|q|q
  ·have:=zcJ q;omega
  ·omega
  ·omega
 | num n f tl hn hX _=>
  exfalso;rw [hX,Zab (List.length_pos_iff.2 (zaj hn))] at h;rcases JfU (Zfa hn) with q|q|q|q
  ·omega
  ·omega
  ·omega
  ·have:=Zec q;omega
 | del c hc hX=>
  rw [hX,Jd] at h;have:c=42:=UInt8.toNat_inj.mp (by show c.toNat=42;omega)
  rw [hX,this]
 | sp hX=>rw [hX] at h;exact absurd h (by decide)
 | other h1=>exact absurd h h1
theorem Zhq {T:List Tok} {X:List UInt8} (hf:First T X) (h:mSp (hb X)=true):X=[32]:=by
 cases hf with
 | name a tl ha h0 hX _=>
  exfalso;rw [hX] at h;have hs:hb (Zaa a++tl)=10∨hb (Zaa a++tl)=9∨hb (Zaa a++tl)=32:=by unfold mSp at h;simpa using h
  rcases zcc (zF ha tl) with q|q|q
  ·have:=zcJ q;omega
  ·omega
  ·omega
 | num n f tl hn hX _=>
  exfalso;rw [hX,Zab (List.length_pos_iff.2 (zaj hn))] at h;have hs:hb (J3 n f)=10∨hb (J3 n f)=9∨hb (J3 n f)=32:=by unfold mSp at h;simpa using h
  rcases JfU (Zfa hn) with q|q|q|q
  ·omega
  ·omega
  ·omega
  ·have:=Zec q;omega
 | del c hc hX=>rw [hX,Jd,hc.sp] at h;cases h
 | sp hX=>exact hX
 | other _ h2=>rw [h2] at h;cases h
theorem Jhq {c:Int} (h:mE c=true):c=101∨c=69:=by unfold mE at h;simpa using h
theorem ZgU {c:Int} (h:mSg c=true):c=43∨c=45:=by unfold mSg at h;simpa using h
theorem Zh8 {T:List Tok} {X:List UInt8} (hf:First T X) (h:mE (hb X)=true):∃a tl,a≠[]∧(0:UInt8)∉a∧X=Zaa a++tl∧((T=[tk 1 a]∧tl=[])∨(T=[tk 2 a]∧tl=[40])):=by
 have he:=Jhq h;cases hf with
 | name a tl ha h0 hX hh=>
  refine ⟨a,tl,ha,h0,hX,?_⟩;rcases hh with q|q|q
  ·exact .inl q
  ·exact .inr q
  ·exfalso;obtain ⟨c,w,rfl⟩:=List.exists_cons_of_ne_nil ha;unfold Z3 at q;simp only [Bool.and_eq_true,decide_eq_true_eq] at q;have hc:¬((c.toNat:Int)=101∨(c.toNat:Int)=69):=by
    intro z;have q1:=q.1;rcases z with z|z <;> rw [z] at q1 <;> exact absurd q1 (by decide)
   rw [hX] at he;unfold Zaa at he;rcases Zag (ZcL (c::w)) 0 c w with ⟨_,_,e⟩|⟨_,e⟩
   ·rw [e,List.cons_append,Jd] at he;exact hc he
   ·obtain ⟨d,v,e2,_⟩:=za2 c;rw [e,e2] at he;exact absurd he (by show ¬((92:Int)=101∨(92:Int)=69);decide)
 | num n f tl hn hX _=>
  exfalso;rw [hX,Zab (List.length_pos_iff.2 (zaj hn))] at he;rcases JfU (Zfa hn) with q|q|q|q
  ·omega
  ·omega
  ·omega
  ·have:=Zec q;omega
 | del c hc hX=>
  exfalso;rw [hX,Jd] at he;have:=hc.n0;rcases he with z|z <;> rw [z] at this <;> exact absurd this (by decide)
 | sp hX=>rw [hX] at he;exact absurd he (by decide)
 | other _ _ _ h4=>rw [h4] at h;cases h
theorem JgU {T:List Tok} {X:List UInt8} (hf:First T X) (h:mD (hb X)=true∨(mSg (hb X)=true∧mD (hb X.tail)=true)) :
  ∃n f tl,NumOK n f∧X=J3 n f++tl∧((T=[tk 10 [] n [] f]∧tl=[])∨(T=[tk 11 [] n]∧tl=[37])∨(∃u,u≠[]∧(0:UInt8)∉u∧T=[tk 12 [] n u f]∧tl=zae u)):=by
 cases hf with
 | name a tl ha h0 hX _=>
  exfalso;rw [hX] at h;have hs:=zF ha tl;have hn:=je9 hs;unfold jbm at hn;rcases h with q|⟨q1,q2⟩
  ·by_cases z:mSg (hb (Zaa a++tl))=true
   ·have:=ZgU z;have:=Zec q;omega
   ·rw [if_neg z,q] at hn;cases hn
  ·rw [if_pos q1,q2] at hn;cases hn
 | num n f tl hn hX hh=>exact ⟨n,f,tl,hn,hX,hh⟩
 | del c hc hX=>
  exfalso;rw [hX] at h;rcases h with q|⟨_,q⟩
  ·rw [Jd,hc.d] at q;cases q
  ·exact absurd q (by show ¬mD 0=true;decide)
 | sp hX=>rw [hX] at h;exact absurd h (by decide)
 | other _ _ h3 _ h5=>
  exfalso;rcases h with q|q
  ·rw [h3] at q;cases q
  ·exact h5 q
theorem ZcK {X W:List UInt8} (hX:X≠[]) (h:hb X≠47):Zax (X++W)=0:=JaM fun z=>zdb hX h z.1
theorem ziw {U P:List UInt8} {T' L:List Tok} (hf:First T' P) (hU:mSp (hb U)=false) (hL:L≠[]) (c:UInt8) (hc:c=32∨c=10) (h:RD ([c]++(U++P)) (tk 13::L)):mSp (hb (U++P))=false:=by
 cases q:mSp (hb (U++P)) with
 | false=>rfl
 | true=>
  exfalso;cases U with
  | cons b U=>rw [List.cons_append,Jd] at q;rw [Jd,q] at hU;cases hU
  | nil=>
   have hP:=Zhq hf q;rw [hP] at h;apply hL;have hcm:Zax ([c]++([]++[32]))=0:=JaM fun z=>(by rcases hc with rfl|rfl <;> exact absurd z.1 (by decide))
   have:=(Jai hcm h).2.2;rw [show jK ([c]++([]++[32]))=(tk 13,2) by rw [List.singleton_append,zfU c hc];rfl] at this
   exact jcc this
theorem Jh8 {c:UInt8} {U P:List UInt8} {T' L:List Tok} (hc:DelOK c) (hf:First T' P) (hU:zdk c U) (h:RD ([c]++(U++P)) (tk 9 [c]::L)):zdk c (U++P):=by
 by_cases z:(c.toNat:Int)=47∧hb (U++P)=42
 ·exfalso;cases U with
  | cons b U=>exact hU.2.2.2.2.2.2 ⟨z.1,z.2⟩
  | nil=>
   have hP:=Jgd hf z.2;have hc47:c=47:=UInt8.toNat_inj.mp (by show c.toNat=47;omega)
   rw [hP,hc47] at h;have:=(JhD h).1;rw [show Zax ([47]++([]++[42]))=2 by show Zax [47,42]=2;rw [Zax];rfl] at this
   exact this rfl
 ·have hcm:Zax (c::(U++P))=0:=JaM z;exact jiv hc hcm (Jai hcm h).2.1
end Go.Proofs.YtmnegokadegioaaGreatDoor
set_option linter.unusedVariables false
set_option linter.unusedSimpArgs false
namespace Go.Proofs.YtmnegokadegioaaGreatDoor
open Go.Vm Go.Sx Go.RowKit
theorem zge:∀n:Nat,n<126→marksA.getD n 0=0∨16≤marksA.getD n 0:=by decide +kernel
theorem jhE {r:List UInt8} (h:(jK r).1.kind=1∨(jK r).1.kind=2):JC r=true:=by
 cases q:JC r with
 | true=>rfl
 | false=>
  exfalso;unfold jK at h;split at h
  ·exact absurd h (by show ¬((13:Int)=1∨(13:Int)=2);decide)
  ·split at h
   ·dsimp only at h;split at h
    ·exact absurd h (by show ¬((5:Int)=1∨(5:Int)=2);decide)
    ·exact absurd h (by show ¬((6:Int)=1∨(6:Int)=2);decide)
   ·split at h
    ·exact absurd h (by show ¬((4:Int)=1∨(4:Int)=2);decide)
    ·unfold zfz at h;split at h
     ·have:=Jda r;omega
     ·split at h
      ·exact absurd h (by show ¬((15:Int)=1∨(15:Int)=2);decide)
      ·split at h
       ·exact absurd h (by show ¬((14:Int)=1∨(14:Int)=2);decide)
       ·unfold Jgf at h;split at h
        ·exact absurd h (by show ¬((3:Int)=1∨(3:Int)=2);decide)
        ·unfold zgI at h;rw [q,if_neg (by decide)] at h
         split at h
         ·have h:ZcG (hb r)=1∨ZcG (hb r)=2:=h;unfold ZcG at h;split at h
          ·rename_i z;have:=zge (hb r).toNat (by omega)
           omega
          ·omega
         ·exact absurd h (by show ¬((9:Int)=1∨(9:Int)=2);decide)
theorem Zcc:∀(X r:List UInt8),(∀b∈X,mN (b.toNat:Int)=true)→Zo (X++r)=(X++(Zo r).1,X.length+(Zo r).2)
 | [],r,_=>by simp
 | c::X,r,h=>by
  rw [List.cons_append,JfT (h c (List.mem_cons_self ..)),Zcc X r fun b hb=>h b (List.mem_cons_of_mem _ hb)]
  simp only [List.cons_append,List.length_cons];refine Prod.ext rfl ?_;dsimp only;omega
theorem Jec (x:List UInt8):JE x++x.drop (JE x).length=x:=by
 induction x with
 | nil=>rfl
 | cons a x ih=>
  cases hq:mD (a.toNat:Int) with
  | true=>rw [I.digs_pos hq,List.length_cons,List.drop_succ_cons,List.cons_append,ih]
  | false=>rw [I.digs_neg hq];rfl
theorem zgV (x:List UInt8):I.AllDg (JE x):=by
 induction x with
 | nil=>exact fun b hb=>(by cases hb)
 | cons a x ih=>
  cases hq:mD (a.toNat:Int) with
  | true=>
   rw [I.digs_pos hq];intro b hb;rcases List.mem_cons.1 hb with rfl|hb
   ·exact hq
   ·exact ih b hb
  | false=>rw [I.digs_neg hq];exact fun b hb=>(by cases hb)
theorem jiw {c:Int} (h:mD c=true):mN c=true:=by unfold mN;rw [h];simp
theorem jgV {x:List UInt8} (h:mD (hb x)=true):JE x≠[]:=by
 cases x with
 | nil=>exact absurd h (by decide)
 | cons a x=>rw [I.digs_pos h];simp
theorem ZgV {P:List UInt8} (h:Zcv P=true):∃(y:UInt8) (S D r:List UInt8),P=y::(S++(D++r))∧mE (y.toNat:Int)=true∧(S=[]∨S=[45]∨S=[43])∧I.AllDg D∧D≠[]∧r=P.drop (Zbb P).2∧(Zbb P).2=1+S.length+D.length:=by
 unfold Zcv at h;simp only [Bool.and_eq_true] at h;obtain ⟨h1,h2⟩:=h;cases P with
 | nil=>exact absurd h1 (by decide)
 | cons y w=>
  rw [Jd] at h1;rw [List.tail_cons] at h2;have hx:(Zbb (y::w)).2=(if mSg (hb w) then 2 else 1)+(JE (if mSg (hb w) then w.tail else w)).length:=by
   unfold Zbb;rw [if_pos (by rw [Jd,List.tail_cons,h1,h2];rfl)]
   rfl
  cases w with
  | nil=>exact absurd h2 (by decide)
  | cons s w=>
   unfold Zd9 at h2;rw [Jd,List.tail_cons] at h2;rw [Jd,List.tail_cons] at hx;by_cases q:mSg (s.toNat:Int)=true
   ·rw [if_pos q] at h2;rw [if_pos q,if_pos q] at hx;have hs:s=45∨s=43:=by
     rcases ZgU q with z|z
     ·exact .inr (UInt8.toNat_inj.mp (by show s.toNat=43;omega))
     ·exact .inl (UInt8.toNat_inj.mp (by show s.toNat=45;omega))
    refine ⟨y,[s],JE w,w.drop (JE w).length,?_,h1,?_,zgV w,jgV h2,?_,hx⟩
    ·rw [Jec];rfl
    ·rcases hs with rfl|rfl
     ·exact .inr (.inl rfl)
     ·exact .inr (.inr rfl)
    ·rw [hx,show 2+(JE w).length=(JE w).length+1+1 by omega,List.drop_succ_cons,List.drop_succ_cons]
   ·rw [if_neg q] at h2;rw [if_neg q,if_neg q] at hx;refine ⟨y,[],JE (s::w),(s::w).drop (JE (s::w)).length,?_,h1,.inl rfl,zgV _,jgV h2,?_,hx⟩
    ·rw [Jec];rfl
    ·rw [hx,show 1+(JE (s::w)).length=(JE (s::w)).length+1 by omega,List.drop_succ_cons]
theorem ZiR {n:Int} {f:Bool} {T L:List Tok} {P:List UInt8} (hn:NumOK n f) (hf:First T P) (he:Zcv P=true) (hT:L=T) (h:RD (J3 n f++P) (tk 10 [] n [] f::L)):False:=by
 have he1:mE (hb P)=true:=by unfold Zcv at he;simp only [Bool.and_eq_true] at he;exact he.1
 obtain ⟨a,tl,ha,h0,hP,hk⟩:=Zh8 hf he1;obtain ⟨y,S,D,r,e1,e2,e3,e4,e5,e6,e7⟩:=ZgV he;have hPd:mD (hb P)=false:=(zcK (jeE he1)).1;have hPf:jaa P=false:=(zcK (jeE he1)).2.1;obtain ⟨g1,g2,g3⟩:=jbg hn hPd (fun _=>hPf)
 obtain ⟨-,i2,i3⟩:=Jai (ZcK (zaj hn) (Jbl hn)) h;have hdrop:(J3 n f++P).drop (ZbL (J3 n f++P)).2.2=r:=by
  rw [g2];dsimp only;rw [←List.drop_drop,List.drop_left,←e6]
 rw [ZaS g1] at i2 i3;have hr:JC r=false∧(Zs (J3 n f++P)).2=(ZbL (J3 n f++P)).2.2:=by
  unfold Zs at i2 ⊢;dsimp only at i2 ⊢;rw [hdrop] at i2 ⊢;cases q:JC r with
  | true=>rw [q,if_pos rfl] at i2;exact absurd (congrArg Tok.kind i2) (by show ¬(12:Int)=10;decide)
  | false=>
   refine ⟨rfl,?_⟩;rw [q,if_neg (by decide)] at i2
   by_cases q2:hb r=37
   ·rw [if_pos q2] at i2;exact absurd (congrArg Tok.kind i2) (by show ¬(11:Int)=10;decide)
   ·rw [if_neg (by decide),if_neg q2]
 rw [hr.2,hdrop] at i3;have hc:hb r≠47:=by
  intro z;have hg:jH r=false:=by
   unfold jH Jcj;rw [z];rfl
  have htl:jH tl=false:=by
   rcases hk with ⟨_,q⟩|⟨_,q⟩ <;> rw [q] <;> decide
  have hP2:=hP;have n1:=jcv h0 tl;rw [JaF htl,←hP] at n1;have hlen:P.length=(Zaa a).length+tl.length:=by rw [hP,List.length_append]
  have hy:mN (y.toNat:Int)=true:=by rcases Jhq e2 with q|q <;> rw [q] <;> decide
  have htl2:hb tl≠47∧hb tl≠43:=by rcases hk with ⟨_,q⟩|⟨_,q⟩ <;> rw [q] <;> decide
  rcases e3 with q|q|q
  ·have raw:∀b∈y::D,mN (b.toNat:Int)=true:=by
    intro b hb;rcases List.mem_cons.1 hb with rfl|hb
    ·exact hy
    ·exact jiw (e4 b hb)
   have n2:=Zcc (y::D) r raw;rw [JaF hg,show (y::D)++r=P by rw [e1,q];rfl,n1] at n2
   have n3:=congrArg Prod.snd n2;have hr2:r=tl:=by
    rw [e6,e7,q,hP,show 1+([]:List UInt8).length+D.length=(Zaa a).length by simp at n3 ⊢;omega,List.drop_left]
   rw [hr2] at z;exact htl2.1 z
  ·have raw:∀b∈y::45::D,mN (b.toNat:Int)=true:=by
    intro b hb;rcases List.mem_cons.1 hb with rfl|hb
    ·exact hy
    ·rcases List.mem_cons.1 hb with rfl|hb
     ·decide
     ·exact jiw (e4 b hb)
   have n2:=Zcc (y::45::D) r raw;rw [JaF hg,show (y::45::D)++r=P by rw [e1,q];rfl,n1] at n2
   have n3:=congrArg Prod.snd n2;have hr2:r=tl:=by
    rw [e6,e7,q,hP,show 1+[(45:UInt8)].length+D.length=(Zaa a).length by simp at n3 ⊢;omega,List.drop_left]
   rw [hr2] at z;exact htl2.1 z
  ·have raw:∀b∈[y],mN (b.toNat:Int)=true:=by
    intro b hb;rw [List.mem_singleton] at hb;rw [hb];exact hy
   have hg2:jH (43::(D++r))=false:=rfl;have n2:=Zcc [y] (43::(D++r)) raw;rw [JaF hg2,show [y]++(43::(D++r))=P by rw [e1,q];rfl,n1] at n2
   have n3:=congrArg Prod.snd n2;have hr2:tl=43::(D++r):=by
    have w1:P.drop 1=tl:=by rw [hP,show 1=(Zaa a).length by simp at n3;omega,List.drop_left]
    rw [←w1,e1,q];rfl
   exact htl2.2 (by rw [hr2];rfl)
 rw [hT] at i3;rcases hk with ⟨q,_⟩|⟨q,_⟩
 ·rw [q] at i3;have:=(Jai (JaM fun z=>hc z.1) i3).2.1
  rw [jhE (.inl (by rw [this];rfl))] at hr
  cases hr.1
 ·rw [q] at i3;have:=(Jai (JaM fun z=>hc z.1) i3).2.1
  rw [jhE (.inr (by rw [this];rfl))] at hr
  cases hr.1
end Go.Proofs.YtmnegokadegioaaGreatDoor
