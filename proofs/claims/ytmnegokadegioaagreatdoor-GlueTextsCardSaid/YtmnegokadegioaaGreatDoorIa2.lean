/-
 What is written is read, whatever stands behind it: numbers. Nothing is claimed here.
-/
import Derived.Test.YtmnegokadegioaaGreatDoorIa1
set_option linter.unusedVariables false
set_option linter.unusedSimpArgs false
namespace Go.Proofs.YtmnegokadegioaaGreatDoor.I
open Go.Vm Go.Sx Go.RowKit
def AllDg (w:List UInt8):Prop:=∀b,b∈w→mD (b.toNat:Int)=true
theorem digs_pos {c:UInt8} {w:List UInt8} (h:mD (c.toNat:Int)=true):ZF (c::w)=c::ZF w:=by unfold ZF;rw [List.takeWhile_cons,if_pos h]
theorem digs_neg {c:UInt8} {w:List UInt8} (h:mD (c.toNat:Int)=false):ZF (c::w)=[]:=by unfold ZF;rw [List.takeWhile_cons,if_neg (by rw [h];decide)]
theorem zeros0_len (w:List UInt8):(jI w).length≤w.length:=(List.dropWhile_sublist _).length_le
theorem fr3_len:∀k r,(fr3 k r).length≤k
 | 0,_=>Nat.le_refl _
 | k+1,r=>by
  simp only [fr3,List.length_cons];split
  ·simp
  ·have:=fr3_len k (r*10%1000);omega
theorem jeE {a:Nat} (h:a≤1000000000):(Lib.decDigits a).length≤10:=by
 rw [Lib.decDigits_length];have h10:∀k u,u<10^(k+1)→Lib.nDigits u≤k+1:=by
  intro k
  induction k with
  | zero=>intro u hu;rw [Lib.nDigits_small (by simpa using hu)];omega
  | succ k ih=>
   intro u hu;by_cases q:u<10
   ·rw [Lib.nDigits_small q];omega
   ·rw [Lib.nDigits_big q];have:=ih (u / 10) (by rw [Nat.pow_succ] at hu;omega)
    omega
 exact h10 9 a (by omega)
theorem tm {x:Int} {y:Nat} (h:x=(y:Int)) (k:Nat):x.tmod (k:Int)=((y%k:Nat):Int):=by
 subst h;rw [Int.tmod_eq_emod_of_nonneg (by omega)]
 omega
def dvG (a:Int) (c:UInt8):Int:=a*10+((c.toNat:Int)-48)
def dv (w:List UInt8):Int:=w.foldl dvG 0
theorem zfI:∀(w:List UInt8) (a:Int),w.foldl dvG a=a*10^w.length+dv w
 | [],a=>by simp [dv]
 | c::w,a=>by
  have h1:=zfI w (dvG a c);have h2:=zfI w (dvG 0 c);show w.foldl dvG (dvG a c)=_;rw [h1];show _=a*10^(w.length+1)+w.foldl dvG (dvG 0 c);rw [h2,Int.pow_succ];unfold dvG;rw [Int.add_mul,Int.add_mul,Int.mul_assoc,Int.mul_comm 10];omega
theorem ZhG (u v:List UInt8):dv (u++v)=dv u*10^v.length+dv v:=by
 unfold dv;rw [List.foldl_append];exact zfI v _
theorem Jee:∀(k:Nat) (a:Int),zbc k [] a=a*10^k
 | 0,a=>by simp [zbc]
 | k+1,a=>by rw [zbc,Jee k,Int.mul_assoc,Int.pow_succ,Int.mul_comm (10^k)]
theorem zef:∀(w:List UInt8) (k:Nat) (a:Int),zbc (w.length+k) w a=w.foldl dvG a*10^k
 | [],k,a=>by rw [List.length_nil,Nat.zero_add];exact Jee k a
 | c::w,k,a=>by
  rw [List.length_cons,show w.length+1+k=(w.length+k)+1 from by omega]
  exact zef w k _
theorem jfX:∀w:List UInt8,dv (jI w)=dv w
 | []=>rfl
 | c::w=>by
  unfold jI;rw [List.dropWhile_cons];split
  ·rename_i h;have e:c=48:=eq_of_beq h;subst e;exact jfX w
  ·rfl
theorem dec_ok (a:Nat):AllDg (Lib.decDigits a)∧Lib.decDigits a≠[]∧dv (Lib.decDigits a)=a:=by
 induction a using Nat.strongRecOn with
 | _ a ih=>
  have one:∀d,d<10→mD ((UInt8.ofNat (48+d)).toNat:Int)=true∧((UInt8.ofNat (48+d)).toNat:Int)-48=d:=by
   intro d hd;have:(UInt8.ofNat (48+d)).toNat=48+d:=by rw [UInt8.toNat_ofNat'];omega
   rw [this];refine ⟨?_,by omega⟩
   unfold mD;simp;omega
  by_cases h:a<10
  ·rw [Lib.decDigits_one h];refine ⟨fun b hb=>?_,by simp,?_⟩
   ·rw [List.mem_singleton] at hb;subst hb;exact (one a h).1
   ·show dvG 0 _=_;unfold dvG;have:=(one a h).2;omega
  ·rw [Lib.decDigits,dif_neg h];obtain ⟨h1,h2,h3⟩:=ih (a / 10) (by omega)
   refine ⟨fun b hb=>?_,by simp,?_⟩
   ·rcases List.mem_append.1 hb with q|q
    ·exact h1 b q
    ·rw [List.mem_singleton] at q;subst q;exact (one _ (Nat.mod_lt _ (by decide))).1
   ·rw [ZhG,h3];have:=(one (a%10) (Nat.mod_lt _ (by decide))).2
    show _+dvG 0 _=_;unfold dvG;simp only [List.length_cons,List.length_nil];omega
def frB (r:Nat):Bool:=(fr3 3 r).all (fun c=>mD (c.toNat:Int))&&(!(fr3 3 r).isEmpty&&(decide (dv (fr3 3 r)*10^(3-(fr3 3 r).length)=(r:Int))&&(!((fr3 3 r).getLast?==some 48)||decide ((fr3 3 r).length=1))))
theorem jia:(List.range 1000).all frB=true:=by decide +kernel
theorem fr_ok {r:Nat} (h:r<1000):AllDg (fr3 3 r)∧fr3 3 r≠[]∧dv (fr3 3 r)*10^(3-(fr3 3 r).length)=(r:Int)∧((fr3 3 r).getLast?≠some 48∨(fr3 3 r).length=1):=by
 have:=List.all_eq_true.1 jia r (List.mem_range.2 h);unfold frB at this;simp only [Bool.and_eq_true,Bool.or_eq_true,Bool.not_eq_true',decide_eq_true_eq,List.all_eq_true] at this;obtain ⟨h1,h2,h3,h4⟩:=this;refine ⟨h1,fun q=>(by rw [q] at h2;cases h2),h3,h4.imp (fun q z=>?_) id⟩
 rw [z] at q;simp at q
theorem digs_app {D rest:List UInt8} (hD:AllDg D) (hr:mD (hb rest)=false):ZF (D++rest)=D:=by
 induction D with
 | nil=>
  cases rest with
  | nil=>rfl
  | cons c r=>exact digs_neg hr
 | cons c D ih=>
  rw [List.cons_append,digs_pos (hD c (List.mem_cons_self ..)),ih fun b hb=>hD b (List.mem_cons_of_mem _ hb)]
theorem mD_not {c:Int} (h:mD c=true):mSg c=false∧(c=46)=False∧(c=45)=False∧mE c=false:=by
 unfold mD at h;simp only [Bool.and_eq_true,decide_eq_true_eq] at h;refine ⟨?_,?_,?_,?_⟩
 ·unfold mSg;simp;omega
 ·simp;omega
 ·simp;omega
 ·unfold mE;simp;omega
theorem cut_val {a r:Nat} (ha:a≤1000000000) (hv:a*1000+r≤1000000000000) (F:List UInt8) (hF:F.length≤3) (hd:dv F*10^(3-F.length)=(r:Int)) :
  jeB (Lib.decDigits a++F) (((Lib.decDigits a).length:Int)+0+3)=((a*1000+r:Nat):Int):=by
 obtain ⟨h1,h2,h3⟩:=dec_ok a;have hl:=jeE ha;have hp:(0:Int)<10^(3-F.length):=Int.pow_pos (by decide)
 have key:dv (Lib.decDigits a++F)*10^(3-F.length)=((a*1000+r:Nat):Int):=by
  rw [ZhG,h3,Int.add_mul,hd,Int.mul_assoc,←Int.pow_add,show F.length+(3-F.length)=3 from by omega]
  omega
 unfold jeB;dsimp only;have hz:=zeros0_len (Lib.decDigits a++F);rw [List.length_append] at hz;have hdz:=jfX (Lib.decDigits a++F);generalize hvv:jI (Lib.decDigits a++F)=v at hz hdz ⊢;rw [List.length_append];by_cases hv0:v=[]
 ·rw [if_pos (.inl hv0)];rw [hv0] at hdz;have hdz:(0:Int)=dv (Lib.decDigits a++F):=hdz;rw [←hdz] at key;omega
 ·have hvl:0<v.length:=List.length_pos_iff.2 hv0;rw [if_neg (fun z=>z.elim hv0 (fun z=>by omega)),if_neg (by omega)]
  have hq:(((Lib.decDigits a).length:Int)+0+3-(((((Lib.decDigits a).length+F.length:Nat):Int))-(v.length:Int))).toNat=v.length+(3-F.length):=by omega
  rw [hq,zef];show min (dv v*_) _=_;rw [hdz,key];omega
theorem num_gen {W F v:List UInt8} (sg:Bool) (hW:AllDg W) (hW0:W≠[]) (hF:AllDg F) (hv:mD (hb v)=false) (hv2:F=[]→Zac v=false) :
  Jbo ((if sg then [45] else [])++(W++((if F=[] then [] else 46::F)++v)))=true∧
  Zbx ((if sg then [45] else [])++(W++((if F=[] then [] else 46::F)++v))) =
   (if sg then 0-jeB (W++F) ((W.length:Int)+(Jbd v).1+3) else jeB (W++F) ((W.length:Int)+(Jbd v).1+3),
   decide (F=[])&&decide ((Jbd v).2=0),((if sg then [45] else [])++(W++(if F=[] then [] else 46::F))).length+(Jbd v).2):=by
 obtain ⟨d,W',rfl⟩:=List.exists_cons_of_ne_nil hW0;have hd:=hW d (List.mem_cons_self ..);obtain ⟨m1,m2,m3,m4⟩:=mD_not hd;generalize hR:(if F=[] then ([]:List UInt8) else 46::F)=R
 have hRv:mD (hb (R++v))=false:=by
  subst hR;by_cases q:F=[]
  ·rw [if_pos q];exact hv
  ·rw [if_neg q];rfl
 have hRl:R.length=if F=[] then 0 else 1+F.length:=by
  subst hR;split
  ·rfl
  ·rw [List.length_cons];omega
 have hfs:Zac (R++v) = !decide (F=[]):=by
  subst hR;by_cases q:F=[]
  ·rw [if_pos q,List.nil_append,hv2 q];simp [q]
  ·rw [if_neg q];obtain ⟨e,F',rfl⟩:=List.exists_cons_of_ne_nil q;have he:=hF e (List.mem_cons_self ..);unfold Zac;simp only [List.cons_append,je,List.tail_cons,he];simp
 generalize hX:(if sg then ([45]:List UInt8) else [])++(d::W'++(R++v))=X
 have hs:ZaT X=(if sg then 1 else 0)∧X.drop (ZaT X)=d::W'++(R++v)∧Jbo X=true∧(hb X=45↔sg=true):=by
  subst hX;cases sg with
  | true=>
   refine ⟨rfl,rfl,?_,⟨fun _=>rfl,fun _=>rfl⟩⟩
   show Jbo (45::d::(W'++(R++v)))=true;unfold Jbo;rw [if_pos (by rfl)]
   simp only [List.tail_cons,je,hd,Bool.true_or]
  | false=>
   have h0:ZaT (d::(W'++(R++v)))=0:=by unfold ZaT;rw [je,m1];rfl
   refine ⟨h0,?_,?_,⟨fun z=>?_,fun z=>by cases z⟩⟩
   ·show (d::(W'++(R++v))).drop (ZaT (d::(W'++(R++v))))=_;rw [h0];rfl
   ·show Jbo (d::(W'++(R++v)))=true;unfold Jbo;rw [je,m1];simp only [Bool.false_eq_true,if_false,hd,Bool.true_or]
   ·have z:hb (d::(W'++(R++v)))=45:=z;rw [je,m3] at z;exact z.elim
 obtain ⟨s1,s2,s3,s4⟩:=hs;have hwd:jaH X=d::W':=by unfold jaH;rw [s2];exact digs_app hW hRv
 have hbw:Jz X=ZaT X+(d::W').length:=by unfold Jz;rw [hwd]
 have hdw:X.drop (Jz X)=R++v:=by rw [hbw,←List.drop_drop,s2,List.drop_left]
 have hfd:JbK X=F:=by
  unfold JbK;rw [hdw,hfs];by_cases q:F=[]
  ·simp [q]
  ·simp only [q,decide_false,Bool.not_false,if_true];subst hR;rw [if_neg q,List.cons_append,List.tail_cons];exact digs_app hF hv
 have hbf:jn X=ZaT X+((d::W').length+R.length):=by
  unfold jn;rw [hdw,hfs,hfd,hbw,hRl];by_cases q:F=[]
  ·simp [q]
  ·simp only [q,decide_false,Bool.not_false,if_true,if_false];omega
 have hbv:X.drop (jn X)=v:=by
  rw [hbf,←List.drop_drop,s2,←List.drop_drop,List.drop_left,List.drop_left]
 have hlen:((if sg then ([45]:List UInt8) else [])++(d::W'++R)).length=jn X:=by
  rw [hbf,s1];cases sg <;> simp <;> omega
 refine ⟨s3,?_⟩;unfold Zbx Jaz;simp only [hbv,hwd,hfd,hdw,hfs,Bool.not_not];rw [hlen];refine Prod.ext ?_ rfl;dsimp only;cases sg with
 | true=>rw [if_pos (s4.2 rfl)];rfl
 | false=>rw [if_neg (fun z=>by have:=s4.1 z;cases this)];rfl
end Go.Proofs.YtmnegokadegioaaGreatDoor.I
set_option linter.unusedVariables false
set_option linter.unusedSimpArgs false
namespace Go.Proofs.YtmnegokadegioaaGreatDoor
open Go.Vm Go.Sx Go.RowKit
theorem ZaU {x:List UInt8} (h:Jbo x=true):JK x=jr x:=by
 have hx:(hb x=43∨hb x=45)∨(48≤hb x∧hb x≤57)∨hb x=46:=by
  unfold Jbo at h;split at h
  ·rename_i q;unfold mSg at q;simp only [Bool.or_eq_true,decide_eq_true_eq] at q;exact .inl q
  ·simp only [Bool.or_eq_true,mD,Zac,Bool.and_eq_true,decide_eq_true_eq] at h;rcases h with h|h
   ·exact .inr (.inl h)
   ·exact .inr (.inr h.1)
 have h1:mSp (hb x)=false:=by unfold mSp;simp;omega
 have h2:mQ (hb x)=false:=by unfold mQ;simp;omega
 unfold JK;rw [h1,if_neg (by decide),h2,if_neg (by decide),if_neg (fun z=>by have:=z.1;omega)]
 unfold jff;rw [if_pos h]
theorem jef (n:Int) (f:Bool) (v:List UInt8):J6 n f++v=(if decide (n<0) then [45] else [])++(Lib.decDigits (n.natAbs / 1000)++((if (if f then [] else fr3 3 (n.natAbs%1000))=[] then [] else 46::(if f then [] else fr3 3 (n.natAbs%1000)))++v)):=by
 have h2:=(I.fr_ok (r:=n.natAbs%1000) (Nat.mod_lt _ (by decide))).2.1
 unfold J6;have e1:(if n<0 then [(45:UInt8)] else [])=if decide (n<0) then [45] else []:=by by_cases q:n<0 <;> simp [q]
 rw [e1];cases f with
 | true=>simp
 | false=>simp [h2]
theorem Jfc (n:Int) (f:Bool):(J6 n f).length=((if decide (n<0) then [45] else [])++(Lib.decDigits (n.natAbs / 1000)++(if (if f then [] else fr3 3 (n.natAbs%1000))=[] then [] else 46::(if f then [] else fr3 3 (n.natAbs%1000))))).length:=by
 have:=jef n f [];rw [List.append_nil,List.append_nil] at this;rw [←this]
theorem ZiV {n:Int} (h:n.tmod 1000=0):n.natAbs%1000=0:=by
 rcases Int.le_total 0 n with q|q
 ·have h2:=I.tm (x:=n) (y:=n.natAbs) (by omega) 1000
  rw [show ((1000:Nat):Int)=1000 from rfl,h] at h2
  omega
 ·have h2:=Int.neg_tmod n 1000;have h3:=I.tm (x:=-n) (y:=n.natAbs) (by omega) 1000
  rw [show ((1000:Nat):Int)=1000 from rfl,h2,h] at h3
  omega
structure NumOK (n:Int) (f:Bool):Prop where
 lo:-1000000000000≤n
 hi:n≤1000000000000
 wh:f=true→n.tmod 1000=0
theorem Jbi {n:Int} {f:Bool} (h:NumOK n f) {v:List UInt8} (hv:mD (hb v)=false) (hv2:f=true→Zac v=false) :
  Jbo (J6 n f++v)=true∧(Zbx (J6 n f++v)).2=(f&&decide ((Jbd v).2=0),(J6 n f).length+(Jbd v).2)∧((Jbd v).1=0→(Zbx (J6 n f++v)).1=n):=by
 obtain ⟨d1,d2,d3⟩:=I.dec_ok (n.natAbs / 1000);obtain ⟨f1,f2,f3,_⟩:=I.fr_ok (r:=n.natAbs%1000) (Nat.mod_lt _ (by decide))
 have hlF:=I.fr3_len 3 (n.natAbs%1000);have hF:I.AllDg (if f then [] else fr3 3 (n.natAbs%1000)):=by
  cases f with
  | true=>intro b hb;cases hb
  | false=>exact f1
 have hFe:(if f then ([]:List UInt8) else fr3 3 (n.natAbs%1000))=[]→f=true:=by
  intro z;cases f with
  | true=>rfl
  | false=>exact absurd z f2
 have hFd:decide ((if f then ([]:List UInt8) else fr3 3 (n.natAbs%1000))=[])=f:=by
  cases f with
  | true=>rfl
  | false=>exact decide_eq_false f2
 have g:=I.num_gen (v:=v) (decide (n<0)) d1 d2 hF hv (fun z=>hv2 (hFe z))
 rw [←jef n f v] at g;refine ⟨g.1,?_,fun he=>?_⟩
 ·rw [g.2,←Jfc,hFd]
 ·rw [g.2,he];dsimp only;have hlo:=h.lo;have hhi:=h.hi;have hnat:n.natAbs=n.natAbs / 1000*1000+n.natAbs%1000:=by omega
  have hc:jeB (Lib.decDigits (n.natAbs / 1000)++(if f then [] else fr3 3 (n.natAbs%1000))) (((Lib.decDigits (n.natAbs / 1000)).length:Int)+0+3)=(n.natAbs:Int):=by
   cases f with
   | true=>
    have hr0:=ZiV (h.wh rfl);have:=I.cut_val (a:=n.natAbs / 1000) (r:=0) (by omega) (by omega) [] (by simp) (by simp [I.dv])
    simp only [if_true] at this ⊢;rw [this];omega
   | false=>
    have:=I.cut_val (a:=n.natAbs / 1000) (r:=n.natAbs%1000) (by omega) (by omega) _ hlF f3
    simp only [Bool.false_eq_true,if_false] at this ⊢;rw [this];omega
  rw [hc];by_cases q:n<0
  ·rw [if_pos (by simpa using q)];omega
  ·rw [if_neg (by simpa using q)];omega
def jgg (f:Bool) (v:List UInt8):Prop:=mD (hb v)=false∧(f=true→Zac v=false)∧ZE v=false∧hb v≠37
theorem jeH {v:List UInt8} (h:mE (hb v)=true):ZE v=true:=by
 have:hb v=101∨hb v=69:=by unfold mE at h;simpa using h
 unfold ZE;rw [if_pos (by omega)]
 have h0:mN0 (hb v)=true:=by
  rcases this with q|q <;> rw [q] <;> decide
 rw [h0];rfl
theorem ZeH {v:List UInt8} (h:ZE v=false):Jbd v=(0,0):=by
 refine zcM ?_;unfold Zcy;cases q:mE (hb v) with
 | false=>rfl
 | true=>rw [jeH q] at h;cases h
theorem Zia {n:Int} {f:Bool} (h:NumOK n f) {v:List UInt8} (hv:jgg f v):JK (J6 n f++v)=(tk 10 [] n [] f,(J6 n f).length):=by
 obtain ⟨v1,v2,v3,v4⟩:=hv;obtain ⟨g1,g2,g3⟩:=Jbi h v1 v2;have he:=ZeH v3;rw [he] at g2 g3;have g3:=g3 rfl;have hd:(J6 n f++v).drop (J6 n f).length=v:=List.drop_left;rw [ZaU g1];unfold jr;simp only [g2,g3,Nat.add_zero,hd,v3,if_neg v4,Bool.false_eq_true,if_false];simp
theorem zfd {X:List UInt8} (h:(jr X).1.flag=true):(Zbx X).2.1=true:=by
 unfold jr at h;dsimp only at h;generalize Zbx X=r at *;split at h
 ·exact h
 ·split at h
  ·cases h
  ·exact h
theorem JhG {n:Int} {f:Bool} (h:NumOK n f) {v:List UInt8} (v1:mD (hb v)=false) (v2:Zcy v=false) (ht:(JK (J6 n f++v)).1=tk 10 [] n [] f):jgg f v:=by
 have he:=zcM v2;have hfr:f=true→Zac v=false:=by
  intro hf;cases q:Zac v with
  | false=>rfl
  | true=>
   exfalso;subst hf;have hv:∃c w,v=46::c::w∧mD (c.toNat:Int)=true:=by
    unfold Zac at q;simp only [Bool.and_eq_true,decide_eq_true_eq] at q;rcases v with _|⟨a,_|⟨b,r⟩⟩
    ·exact absurd q.1 (by decide)
    ·exact absurd q.2 (by show ¬mD 0=true;decide)
    ·have ha:a=46:=UInt8.toNat_inj.mp (by have:=q.1;rw [je] at this;show a.toNat=46;omega)
     exact ⟨b,r,by rw [ha],q.2⟩
   obtain ⟨c,w,rfl,hc⟩:=hv;obtain ⟨d1,d2,d3⟩:=I.dec_ok (n.natAbs / 1000);have hsplit:c::w=ZF (c::w)++(c::w).drop (ZF (c::w)).length:=by
    have:(c::w).take (ZF (c::w)).length=ZF (c::w):=by
     have:∀x:List UInt8,x.take (ZF x).length=ZF x:=by
      intro x
      induction x with
      | nil=>rfl
      | cons a x ih=>
       cases hq:mD (a.toNat:Int) with
       | true=>rw [I.digs_pos hq,List.length_cons,List.take_succ_cons,ih]
       | false=>rw [I.digs_neg hq];rfl
     exact this _
    conv=>lhs;rw [←List.take_append_drop (ZF (c::w)).length (c::w)]
    rw [this]
   have hall:∀x:List UInt8,I.AllDg (ZF x)∧mD (hb (x.drop (ZF x).length))=false:=by
    intro x
    induction x with
    | nil=>exact ⟨fun b hb=>(by cases hb),by decide⟩
    | cons a x ih=>
     cases hq:mD (a.toNat:Int) with
     | true=>
      rw [I.digs_pos hq,List.length_cons,List.drop_succ_cons];refine ⟨fun b hb=>?_,ih.2⟩
      rcases List.mem_cons.1 hb with rfl|hb
      ·exact hq
      ·exact ih.1 b hb
     | false=>rw [I.digs_neg hq];exact ⟨fun b hb=>(by cases hb),hq⟩
   obtain ⟨a1,a2⟩:=hall (c::w);have hne:ZF (c::w)≠[]:=by rw [I.digs_pos hc];simp
   have g:=I.num_gen (v:=(c::w).drop (ZF (c::w)).length) (decide (n<0)) d1 d2 a1 a2 (fun z=>absurd z hne)
   rw [if_neg hne,List.cons_append,←hsplit] at g;have e:=jef n true (46::c::w);simp only [if_true,List.nil_append] at e;rw [←e] at g;rw [ZaU g.1] at ht;have hfl:(jr (J6 n true++46::c::w)).1.flag=true:=by rw [ht];rfl
   have:=zfd hfl;rw [g.2] at this;simp [hne] at this
 obtain ⟨g1,g2,g3⟩:=Jbi h v1 hfr;rw [he] at g2 g3;have g3:=g3 rfl;have hd:(J6 n f++v).drop (J6 n f).length=v:=List.drop_left;rw [ZaU g1] at ht;unfold jr at ht;simp only [g2,g3,Nat.add_zero,hd] at ht;cases h3:ZE v with
 | true=>rw [h3,if_pos rfl] at ht;exact absurd (congrArg Tok.kind ht) (by show ¬(12:Int)=10;decide)
 | false=>
  refine ⟨v1,hfr,h3,fun z=>?_⟩
  rw [h3,if_neg (by decide),if_pos z] at ht
  exact absurd (congrArg Tok.kind ht) (by show ¬(11:Int)=10;decide)
theorem Jia {n:Int} (h:NumOK n (jat n)) (v:List UInt8):JK (J6 n (jat n)++[37]++v)=(tk 11 [] n,(J6 n (jat n)++[37]).length):=by
 rw [List.append_assoc,List.singleton_append];have hn:ZE (37::v)=false:=rfl;obtain ⟨g1,g2,g3⟩:=Jbi h (v:=37::v) (by show mD 37=false;decide) (fun _=>rfl)
 have he:=ZeH hn;rw [he] at g2 g3;have g3:=g3 rfl;have hd:(J6 n (jat n)++37::v).drop (J6 n (jat n)).length=37::v:=List.drop_left;rw [ZaU g1];unfold jr;simp only [g2,g3,Nat.add_zero,hd,hn,Bool.false_eq_true,if_false];rw [if_pos (by rfl)]
 simp [List.length_append]
theorem jcM {u:List UInt8} (hu:u≠[]) (h0:(0:UInt8)∉u) (v:List UInt8):ZE (zag u++v)=true∧jo (zag u++v)=(u++(jo v).1,(zag u).length+(jo v).2):=by
 unfold zag;split
 ·refine ⟨?_,?_⟩
  ·obtain ⟨c,w,rfl⟩:=List.exists_cons_of_ne_nil hu;have:JaO 0 0 (c::w)=zbp c++JaO 0 (0+1) w:=by simp [JaO]
   rw [this,List.append_assoc];exact Zdc c _
  ·refine JdV 0 u 0 v h0 ?_;rename_i q;obtain ⟨c,w,rfl⟩:=List.exists_cons_of_ne_nil hu;unfold ZeJ at q;simp only [Bool.and_eq_true,je] at q;have hc:(c.toNat:Int)=101∨(c.toNat:Int)=69:=by have:=q.1;unfold mE at this;simpa using this
   unfold okE
   first|(refine ⟨?_,Zbi _ _ _ (by omega)⟩;intro;omega)|(exact ⟨fun _=>by omega,Zbi _ _ _ (by omega)⟩)|(simp only [okE];omega)
 ·exact ⟨JF hu v,jcy h0 v⟩
theorem ZcM {x:List UInt8} (h:ZE x=true):mD (hb x)=false∧Zac x=false∧hb x≠37:=by
 have h2:=zcf h;refine ⟨?_,?_,?_⟩
 ·unfold mD;simp only [Bool.and_eq_false_iff,decide_eq_false_iff_not];rcases h2 with q|q|q
  ·have:=ZcL q;omega
  ·omega
  ·omega
 ·unfold Zac;simp only [Bool.and_eq_false_iff,decide_eq_false_iff_not];left;rcases h2 with q|q|q
  ·have:=ZcL q;omega
  ·omega
  ·omega
 ·rcases h2 with q|q|q
  ·have:=ZcL q;omega
  ·omega
  ·omega
def Zgg (u v:List UInt8):Prop:=zI v=false∧Zcy (zag u++v)=false
theorem jgW {n:Int} {f:Bool} {u:List UInt8} (h:NumOK n f) (hu:u≠[]) (h0:(0:UInt8)∉u) {v:List UInt8} (he:Zcy (zag u++v)=false) :
  JK (J6 n f++zag u++v)=(tk 12 [] n (u++(jo v).1) f,(J6 n f++zag u).length+(jo v).2):=by
 obtain ⟨n1,n2⟩:=jcM hu h0 v;obtain ⟨s1,s2,s3⟩:=ZcM n1;rw [List.append_assoc];obtain ⟨g1,g2,g3⟩:=Jbi h s1 (fun _=>s2)
 rw [zcM he] at g2 g3;have g3:=g3 rfl;have hd:(J6 n f++(zag u++v)).drop (J6 n f).length=zag u++v:=List.drop_left;rw [ZaU g1];unfold jr;simp only [g2,g3,Nat.add_zero,hd,n1,if_true,n2];refine Prod.ext ?_ ?_
 ·simp
 ·simp only [List.length_append];omega
theorem zib {n:Int} {f:Bool} {u:List UInt8} (h:NumOK n f) (hu:u≠[]) (h0:(0:UInt8)∉u) {v:List UInt8} (hv:Zgg u v):JK (J6 n f++zag u++v)=(tk 12 [] n u f,(J6 n f++zag u).length):=by
 rw [jgW h hu h0 hv.2,JaH hv.1];simp
theorem ziA {n:Int} {f:Bool} {u:List UInt8} (h:NumOK n f) (hu:u≠[]) (h0:(0:UInt8)∉u) {v:List UInt8} (he:Zcy (zag u++v)=false) (ht:(JK (J6 n f++zag u++v)).1=tk 12 [] n u f):Zgg u v:=by
 rw [jgW h hu h0 he] at ht;refine ⟨?_,he⟩;cases q:zI v with
 | false=>rfl
 | true=>
  have:=congrArg Tok.unit ht;exact absurd (jdr this) (zdr q)
end Go.Proofs.YtmnegokadegioaaGreatDoor
set_option linter.unusedVariables false
set_option linter.unusedSimpArgs false
namespace Go.Proofs.YtmnegokadegioaaGreatDoor
open Go.Vm Go.Sx Go.RowKit
theorem JdW:∀w:List UInt8,jI (w++[48])=if jI w=[] then [] else jI w++[48]
 | []=>rfl
 | c::w=>by
  have ih:=JdW w;unfold jI at ih ⊢;rw [List.cons_append,List.dropWhile_cons,List.dropWhile_cons];by_cases q:(c==48)=true
  ·rw [if_pos q,if_pos q,ih]
  ·rw [if_neg q,if_neg q,if_neg (by simp),List.cons_append]
theorem zdX:∀(w:List UInt8) (k:Nat) (a:Int),zbc k (w++[48]) a=zbc k w a
 | [],0,a=>rfl
 | [],k+1,a=>by
  show zbc k [] (a*10+(((48:UInt8).toNat:Int)-48))=zbc k [] (a*10);rw [show a*10+(((48:UInt8).toNat:Int)-48)=a*10 by simp]
 | c::w,0,a=>rfl
 | c::w,k+1,a=>zdX w k _
theorem jht (w:List UInt8) (p:Int):jeB (w++[48]) p=jeB w p:=by
 unfold jeB;dsimp only;rw [JdW,List.length_append];by_cases q:jI w=[]
 ·rw [if_pos q,if_pos (.inl rfl),if_pos (.inl q)]
 ·rw [if_neg q,List.length_append];have hz:=I.zeros0_len w;simp only [List.length_cons,List.length_nil];have e:p-(((w.length+(0+1):Nat):Int)-((((jI w).length+(0+1):Nat)):Int))=p-((w.length:Int)-((jI w).length:Int)):=by omega
  rw [e];have h1:(jI w++[48]=[]∨p-((w.length:Int)-((jI w).length:Int))≤0)↔(jI w=[]∨p-((w.length:Int)-((jI w).length:Int))≤0):=by simp [q]
  by_cases q2:jI w=[]∨p-((w.length:Int)-((jI w).length:Int))≤0
  ·rw [if_pos q2,if_pos (h1.2 q2)]
  ·rw [if_neg q2,if_neg (fun z=>q2 (h1.1 z)),zdX]
theorem Zht (w:List UInt8) (p:Int):jeB (48::w) (p+1)=jeB w p:=by
 have hz:jI (48::w)=jI w:=rfl;unfold jeB;dsimp only;rw [hz,List.length_cons];have e:p+1-(((w.length+1:Nat):Int)-((jI w).length:Int))=p-((w.length:Int)-((jI w).length:Int)):=by omega
 rw [e]
theorem ZgW {d:UInt8} (hd:mD (d.toNat:Int)=true) (W:List UInt8):JK (48::46::d::W)=((JK (46::d::W)).1,(JK (46::d::W)).2+1):=by
 have n1:Jbo (48::46::d::W)=true:=by
  unfold Jbo;rw [if_neg (by show ¬mSg 48=true;decide)]
  show (mD 48||_)=true;rw [show mD 48=true by decide];rfl
 have f1:Zac (46::d::W)=true:=by simp [Zac,hd]
 have n2:Jbo (46::d::W)=true:=by
  unfold Jbo;rw [if_neg (by show ¬mSg 46=true;decide),f1];simp
 rw [ZaU n1,ZaU n2];have s1:ZaT (48::46::d::W)=0:=rfl;have s2:ZaT (46::d::W)=0:=rfl;have w2:jaH (46::d::W)=[]:=by unfold jaH;rw [s2];exact I.digs_neg (by show mD 46=false;decide)
 have w1:jaH (48::46::d::W)=[48]:=by
  unfold jaH;rw [s1];show ZF (48::46::d::W)=[48];rw [I.digs_pos (by show mD 48=true;decide),I.digs_neg (by show mD 46=false;decide)]
 have b1:Jz (48::46::d::W)=1:=by unfold Jz;rw [s1,w1];rfl
 have b2:Jz (46::d::W)=0:=by unfold Jz;rw [s2,w2];rfl
 have r1:(48::46::d::W).drop 1=46::d::W:=rfl;have r2:(46::d::W).drop 0=46::d::W:=rfl;have g1:JbK (48::46::d::W)=ZF (d::W):=by unfold JbK;rw [b1,r1,if_pos f1];rfl
 have g2:JbK (46::d::W)=ZF (d::W):=by unfold JbK;rw [b2,r2,if_pos f1];rfl
 have c2:jn (46::d::W)=1+(ZF (d::W)).length:=by unfold jn;rw [b2,r2,if_pos f1,g2];omega
 have c1:jn (48::46::d::W)=jn (46::d::W)+1:=by rw [c2];unfold jn;rw [b1,r1,if_pos f1,g1];omega
 have dr:∀k,(48::46::d::W).drop (k+1)=(46::d::W).drop k:=fun k=>rfl
 have e1:Jaz (48::46::d::W)=Jaz (46::d::W)+1:=by unfold Jaz;rw [c1,dr];omega
 have m1:Zbx (48::46::d::W)=((Zbx (46::d::W)).1,(Zbx (46::d::W)).2.1,(Zbx (46::d::W)).2.2+1):=by
  unfold Zbx;rw [w1,w2,g1,g2,c1,dr,b1,b2,r1,r2,e1];have k1:¬hb (48::46::d::W)=45:=by show ¬(48:Int)=45;decide
  have k2:¬hb (46::d::W)=45:=by show ¬(46:Int)=45;decide
  simp only [if_neg k1,if_neg k2];refine Prod.ext ?_ rfl;dsimp only;rw [List.singleton_append,List.nil_append];have e:∀x:Int,((([48]:List UInt8).length:Int))+x+3=((([]:List UInt8).length:Int))+x+3+1:=fun x=>by
   show (1:Int)+x+3=0+x+3+1;omega
  rw [e];exact Zht _ _
 unfold jr;rw [m1];dsimp only;rw [dr];split
 ·refine Prod.ext rfl ?_;dsimp only;omega
 ·split
  ·rfl
  ·rfl
theorem jib {n:Int} (h:NumOK n false) {d:UInt8} (hd:mD (d.toNat:Int)=true) (W:List UInt8):JK (J6 n false++48::46::d::W)=(tk 10 [] n [] false,(J6 n false).length+1):=by
 obtain ⟨d1,d2,d3⟩:=I.dec_ok (n.natAbs / 1000);obtain ⟨f1,f2,f3,_⟩:=I.fr_ok (r:=n.natAbs%1000) (Nat.mod_lt _ (by decide))
 have hlF:=I.fr3_len 3 (n.natAbs%1000);have hlo:=h.lo;have hhi:=h.hi;have hF:I.AllDg (fr3 3 (n.natAbs%1000)++[48]):=by
  intro b hb;rcases List.mem_append.1 hb with q|q
  ·exact f1 b q
  ·rw [List.mem_singleton] at q;subst q;decide
 have hne:fr3 3 (n.natAbs%1000)++[48]≠[]:=by simp
 have hnm:ZE (46::d::W)=false:=rfl;have hex:=ZeH hnm;have g:=I.num_gen (v:=46::d::W) (decide (n<0)) d1 d2 hF (by show mD 46=false;decide) (fun z=>absurd z hne)
 rw [if_neg hne,hex] at g;have e:=jef n false (48::46::d::W);simp only [Bool.false_eq_true,if_false,if_neg f2] at e;have e2:(46::fr3 3 (n.natAbs%1000))++48::46::d::W=(46::(fr3 3 (n.natAbs%1000)++[48]))++46::d::W:=by simp
 rw [e2] at e;rw [←e] at g;have hl:=Jfc n false;simp only [Bool.false_eq_true,if_false,if_neg f2] at hl;have hc:=I.cut_val (a:=n.natAbs / 1000) (r:=n.natAbs%1000) (by omega) (by omega) _ hlF f3
 have hv:Zbx (J6 n false++48::46::d::W)=(n,false,(J6 n false).length+1):=by
  rw [g.2,←List.append_assoc,jht,hc,hl];refine Prod.ext ?_ (Prod.ext ?_ ?_)
  ·dsimp only;by_cases q:n<0
   ·rw [if_pos (by simpa using q)];omega
   ·rw [if_neg (by simpa using q)];omega
  ·simp
  ·simp;omega
 rw [ZaU g.1];have hdrop:(J6 n false++48::46::d::W).drop ((J6 n false).length+1)=46::d::W:=by
  rw [←List.drop_drop,List.drop_left];rfl
 unfold jr;rw [hv];dsimp only;rw [hdrop,hnm,if_neg (by decide),if_neg (by show ¬(46:Int)=37;decide)]
end Go.Proofs.YtmnegokadegioaaGreatDoor
set_option linter.unusedVariables false
set_option linter.unusedSimpArgs false
namespace Go.Proofs.YtmnegokadegioaaGreatDoor
open Go.Vm Go.Sx Go.RowKit
inductive RD:List UInt8→List Tok→Prop where
 | nil {u:List UInt8}:u.drop (Jat u)=[]→RD u []
 | cons {u:List UInt8} {L:List Tok}:u.drop (Jat u)≠[]→RD ((u.drop (Jat u)).drop (JK (u.drop (Jat u))).2) L→RD u ((JK (u.drop (Jat u))).1::L)
theorem jcf {L:List Tok} (h:RD [] L):L=[]:=by
 cases h with
 | nil _=>rfl
 | cons h _=>simp at h
theorem zhH {u:List UInt8} {t:Tok} {L:List Tok} (h:RD u (t::L)):u.drop (Jat u)≠[]∧(JK (u.drop (Jat u))).1=t∧RD ((u.drop (Jat u)).drop (JK (u.drop (Jat u))).2) L:=by
 generalize hM:t::L=M at h;cases h with
 | nil _=>cases hM
 | cons h1 h2=>
  injection hM with e1 e2
  subst e1 e2;exact ⟨h1,rfl,h2⟩
theorem zal {u:List UInt8} {t:Tok} {L:List Tok} (hc:Jat u=0) (h:RD u (t::L)):u≠[]∧(JK u).1=t∧RD (u.drop (JK u).2) L:=by
 have:=zhH h;rw [hc,List.drop_zero] at this;exact this
theorem Jht {u:List UInt8} {t:Tok} {n:Nat} {L:List Tok} (hc:Jat u=0) (hu:u≠[]) (ht:JK u=(t,n)) (h:RD (u.drop n) L):RD u (t::L):=by
 have h2:RD u ((JK (u.drop (Jat u))).1::L):=by
  refine .cons ?_ ?_
  ·rw [hc,List.drop_zero];exact hu
  ·rw [hc,List.drop_zero,ht];exact h
 rw [hc,List.drop_zero,ht] at h2;exact h2
theorem JgW {X V:List UInt8} {t:Tok} {L:List Tok} (hX:X≠[]) (hc:Jat (X++V)=0) (ht:JK (X++V)=(t,X.length)):RD (X++V) (t::L)↔RD V L:=by
 refine ⟨fun h=>?_,fun h=>?_⟩
 ·have:=(zal hc h).2.2;rw [ht,List.drop_left] at this;exact this
 ·exact Jht hc (by simp [hX]) ht (by rw [List.drop_left];exact h)
theorem zhu (V:List UInt8):Jat ([47,42,42,47]++V)=4+Jat V:=by
 show Jat (47::42::42::47::V)=_;rw [Jat];have h1:[47,42].isPrefixOf (47::42::42::47::V)=true:=by simp [List.isPrefixOf]
 have h2:jdl ((47::42::42::47::V).drop 2)=some 0:=by
  show jdl (42::47::V)=some 0;unfold jdl;rw [if_pos ⟨rfl,rfl⟩]
 rw [if_pos h1,h2];simp
theorem jiA {V:List UInt8} {L:List Tok}:RD ([47,42,42,47]++V) L↔RD V L:=by
 have e:([47,42,42,47]++V).drop (Jat ([47,42,42,47]++V))=V.drop (Jat V):=by
  rw [zhu,←List.drop_drop];rfl
 refine ⟨fun h=>?_,fun h=>?_⟩
 ·cases h with
  | nil h=>rw [e] at h;exact .nil h
  | cons h1 h2=>rw [e] at h1 h2 ⊢;exact .cons h1 h2
 ·cases h with
  | nil h=>rw [←e] at h;exact .nil h
  | cons h1 h2=>rw [←e] at h1 h2 ⊢;exact .cons h1 h2
def exV (t:Tok) (v:List UInt8):Prop:=t.kind=10∧t.flag=false∧∃(d:UInt8) (W:List UInt8),mD (d.toNat:Int)=true∧v=48::46::d::W
def stM (t:Tok) (v:List UInt8):Prop:=
 if t.kind=1 then zeH t.text v
 else if t.kind=3 then zI v=false
 else if t.kind=4 then zI v=false
 else if t.kind=9 then ∀c,t.text=[c]→Jdl c v
 else if t.kind=10 then jgg t.flag v∨exV t v
 else if t.kind=12 then Zgg t.unit v
 else if t.kind=13 then mSp (hb v)=false
 else True
theorem jfI {t:Tok} {v:List UInt8} (W:List UInt8) (h:exV t v):exV t (v++W):=by
 obtain ⟨h1,h2,d,X,h3,rfl⟩:=h;exact ⟨h1,h2,d,X++W,h3,rfl⟩
theorem zgX {t:Tok} {v:List UInt8} (W:List UInt8) (h:stM t v):stM t (v++47::W):=by
 unfold stM at h ⊢;split
 ·rename_i q;rw [if_pos q] at h;obtain ⟨h1,h2,h3⟩:=h;refine ⟨by rw [jbc];exact h1,JbL W (fun x=>x=40) (by decide) h2,fun z=>?_⟩
  exact JbL W (fun x=>x=62) (by decide) (fun q=>h3 ⟨z.1,q⟩) z.2
 rename_i q;rw [if_neg q] at h;split
 ·rename_i q;rw [if_pos q] at h;rw [jbc];exact h
 rename_i q;rw [if_neg q] at h;split
 ·rename_i q;rw [if_pos q] at h;rw [jbc];exact h
 rename_i q;rw [if_neg q] at h;split
 ·rename_i q;rw [if_pos q] at h;exact fun c hc=>JfH W (h c hc)
 rename_i q;rw [if_neg q] at h;split
 ·rename_i q;rw [if_pos q] at h;rcases h with ⟨h1,h2,h3,h4⟩|h
  ·left;refine ⟨?_,fun z=>by rw [ZfH];exact h2 z,by rw [Jcy];exact h3,JbL W (fun x=>x=37) (by decide) h4⟩
   have:=JbL (V:=v) W (fun x=>mD x=true) (by decide) (by rw [h1];decide)
   simpa using this
  ·exact .inr (jfI _ h)
 rename_i q;rw [if_neg q] at h;split
 ·rename_i q;rw [if_pos q] at h;exact ⟨by rw [jbc];exact h.1,by rw [←List.append_assoc,Jgf];exact h.2⟩
 rename_i q;rw [if_neg q] at h;split
 ·rename_i q;rw [if_pos q] at h;have:=JbL (V:=v) W (fun x=>mSp x=true) (by decide) (by rw [h];decide)
  simpa using this
 ·trivial
theorem Zib {t:Tok} {v:List UInt8} (W:List UInt8) (hl:3≤v.length) (h:stM t v):stM t (v++W):=by
 unfold stM at h ⊢;split
 ·rename_i q;rw [if_pos q] at h;obtain ⟨h1,h2,h3⟩:=h;exact ⟨by rw [Jb6 (by omega)];exact h1,by rw [Zad (by omega)];exact h2,by rw [Zad (by omega)];exact h3⟩
 rename_i q;rw [if_neg q] at h;split
 ·rename_i q;rw [if_pos q] at h;rw [Jb6 (by omega)];exact h
 rename_i q;rw [if_neg q] at h;split
 ·rename_i q;rw [if_pos q] at h;rw [Jb6 (by omega)];exact h
 rename_i q;rw [if_neg q] at h;split
 ·rename_i q;rw [if_pos q] at h;exact fun c hc=>(zgW W hl).2 (h c hc)
 rename_i q;rw [if_neg q] at h;split
 ·rename_i q;rw [if_pos q] at h;rcases h with ⟨h1,h2,h3,h4⟩|h
  ·exact .inl ⟨by rw [Zad (by omega)];exact h1,fun z=>by rw [JdU (by omega)];exact h2 z,by rw [ZdU (by omega)];exact h3,by rw [Zad (by omega)];exact h4⟩
  ·exact .inr (jfI _ h)
 rename_i q;rw [if_neg q] at h;split
 ·rename_i q;rw [if_pos q] at h;exact ⟨by rw [Jb6 (by omega)];exact h.1,by rw [←List.append_assoc,zfX (by rw [List.length_append];omega)];exact h.2⟩
 rename_i q;rw [if_neg q] at h;split
 ·rename_i q;rw [if_pos q] at h;rw [Zad (by omega)];exact h
 ·trivial
theorem Zef {a b:Tok} (h:jad a b=true):a=b:=by
 unfold jad at h;simp only [Bool.and_eq_true,decide_eq_true_eq] at h;obtain ⟨h1,h2,h3,h4,h5⟩:=h;cases a;cases b;simp only at h1 h2 h3 h4 h5;subst h1 h2 h3 h4 h5;rfl
theorem JeH {t:Tok} (h:zbS t=true):NumOK t.num t.flag:=by
 unfold zbS at h;simp only [Bool.and_eq_true,Bool.or_eq_true,decide_eq_true_eq,Bool.not_eq_true'] at h;refine ⟨h.1,h.2.1,fun z=>?_⟩
 rcases h.2.2 with q|q
 ·rw [z] at q;cases q
 ·unfold jat at q;simpa using q
inductive Can:Tok→Prop where
 | ident (a:List UInt8) (ha:a≠[]) (h0:(0:UInt8)∉a):Can (tk 1 a)
 | func (a:List UInt8) (ha:a≠[]) (h0:(0:UInt8)∉a):Can (tk 2 a)
 | atk (a:List UInt8) (ha:a≠[]) (h0:(0:UInt8)∉a):Can (tk 3 a)
 | hash (a:List UInt8) (f:Bool) (ha:a≠[]) (h0:(0:UInt8)∉a) (hf:f=true∨jcO a≠-1):Can (tk 4 a 0 [] f)
 | str (a:List UInt8) (h0:(0:UInt8)∉a):Can (tk 5 a)
 | url (a:List UInt8) (h0:(0:UInt8)∉a):Can (tk 7 a)
 | del (c:UInt8) (hc:DelOK c) (h0:c≠0):Can (tk 9 [c])
 | num (n:Int) (f:Bool) (h:NumOK n f):Can (tk 10 [] n [] f)
 | pct (n:Int) (h:NumOK n (jat n)):Can (tk 11 [] n)
 | dim (n:Int) (u:List UInt8) (f:Bool) (h:NumOK n f) (hu:u≠[]) (h0:(0:UInt8)∉u):Can (tk 12 [] n u f)
 | sp:Can (tk 13)
 | cdo:Can (tk 14)
 | cdc:Can (tk 15)
 | mark (k:Int) (hk:16≤k∧k≤24):Can (tk k)
theorem jfd {t:Tok} (h:zcm t=true):Can t:=by
 unfold zcm at h;simp only [Bool.and_eq_true,Bool.not_eq_true',List.contains_eq_mem,decide_eq_false_iff_not] at h;obtain ⟨h1,h2,h3,h4⟩:=h;have e:=Zef h1;unfold Jcl at e;by_cases k1:t.kind∈([1,2,3]:List Int)
 ·rw [if_pos k1] at h4;rw [if_pos (by simp only [List.mem_cons,List.not_mem_nil,or_false] at k1 ⊢;omega)] at e
  have h4:t.text≠[]:=by simpa using h4
  simp only [List.mem_cons,List.not_mem_nil,or_false] at k1;rw [e];rcases k1 with k|k|k <;> rw [k]
  ·exact .ident _ h4 h2
  ·exact .func _ h4 h2
  ·exact .atk _ h4 h2
 rw [if_neg k1] at h4;simp only [List.mem_cons,List.not_mem_nil,or_false,not_or] at k1;by_cases k4:t.kind=4
 ·rw [if_pos k4] at h4;rw [if_neg (by simp only [List.mem_cons,List.not_mem_nil,or_false];omega),if_pos k4,k4] at e
  simp only [Bool.and_eq_true,Bool.or_eq_true,decide_eq_true_eq,bne_iff_ne] at h4;rw [e];exact .hash _ _ h4.1 h2 h4.2
 rw [if_neg k4] at h4;by_cases k9:t.kind=9
 ·rw [if_pos k9] at h4;rw [if_pos (by simp [k9]),k9] at e
  obtain ⟨c,hc,ho⟩:=Zh9 h4;rw [e,hc];exact .del c ho (fun z=>h2 (by rw [hc,z];simp))
 rw [if_neg k9] at h4;by_cases k10:t.kind=10∨t.kind=11
 ·rw [if_pos k10] at h4;rw [if_neg (by simp only [List.mem_cons,List.not_mem_nil,or_false];omega),if_neg k4] at e
  rcases k10 with k|k
  ·rw [if_pos k,k] at e;rw [e];exact .num _ _ (JeH h4)
  ·rw [if_neg (by omega),if_pos k,k] at e
   rw [e];have:=JeH h4;exact .pct _ ⟨this.lo,this.hi,fun z=>by unfold jat at z;simpa using z⟩
 rw [if_neg k10] at h4;by_cases k12:t.kind=12
 ·rw [if_pos k12] at h4;simp only [Bool.and_eq_true,bne_iff_ne] at h4;rw [if_neg (by simp only [List.mem_cons,List.not_mem_nil,or_false];omega),if_neg k4,if_neg (by omega),if_neg (by omega),if_pos k12,k12] at e
  rw [e];exact .dim _ _ _ (JeH h4.1) h4.2 h3
 rw [if_neg k12] at h4;by_cases k6:t.kind=6∨t.kind=8
 ·rw [if_pos k6] at h4;cases h4
 rw [if_neg k6] at h4;simp only [Bool.and_eq_true,decide_eq_true_eq] at h4;by_cases k5:t.kind=5∨t.kind=7
 ·rw [if_pos (by simp only [List.mem_cons,List.not_mem_nil,or_false];omega)] at e
  rw [e];rcases k5 with k|k <;> rw [k]
  ·exact .str _ h2
  ·exact .url _ h2
 rw [if_neg (by simp only [List.mem_cons,List.not_mem_nil,or_false];omega),if_neg k4,if_neg (by omega),if_neg (by omega),if_neg k12] at e
 rw [e];by_cases k13:t.kind=13
 ·rw [k13];exact .sp
 by_cases k14:t.kind=14
 ·rw [k14];exact .cdo
 by_cases k15:t.kind=15
 ·rw [k15];exact .cdc
 exact .mark _ (by omega)
end Go.Proofs.YtmnegokadegioaaGreatDoor
set_option linter.unusedVariables false
set_option linter.unusedSimpArgs false
namespace Go.Proofs.YtmnegokadegioaaGreatDoor
open Go.Vm Go.Sx Go.RowKit
theorem zbo {X V:List UInt8} {t:Tok} {L:List Tok} (hX:X≠[]) (h47:hb X≠47) (ht:JK (X++V)=(t,X.length)):RD (X++V) (t::L)↔RD V L:=by
 refine JgW hX (jaO fun z=>h47 ?_) ht
 rw [←z.1,Zad (List.length_pos_iff.2 hX)]
theorem ZfX {x:List UInt8} (h:Jbo x=true):hb x=43∨hb x=45∨hb x=46∨mD (hb x)=true:=by
 unfold Jbo at h;split at h
 ·rename_i q;unfold mSg at q;simp only [Bool.or_eq_true,decide_eq_true_eq] at q;omega
 ·simp only [Bool.or_eq_true,Zac,Bool.and_eq_true,decide_eq_true_eq] at h;rcases h with h|h
  ·exact .inr (.inr (.inr h))
  ·exact .inr (.inr (.inl h.1))
theorem Jef {c:Int} (h:mD c=true):48≤c∧c≤57:=by unfold mD at h;simpa using h
theorem Zfd {n:Int} {f:Bool} (h:NumOK n f):Jbo (J6 n f)=true:=by
 have:=(Jbi h (v:=[]) (by decide) (fun _=>by decide)).1
 rwa [List.append_nil] at this
theorem jal {n:Int} {f:Bool} (h:NumOK n f):J6 n f≠[]:=fun z=>by
 have:=Zfd h;rw [z] at this;exact absurd this (by decide)
theorem jbo {n:Int} {f:Bool} (h:NumOK n f):hb (J6 n f)≠47:=fun z=>by
 rcases ZfX (Zfd h) with q|q|q|q
 ·omega
 ·omega
 ·omega
 ·have:=Jef q;omega
theorem jdd {X Y:List UInt8} (hX:X≠[]) (h:hb X≠47):hb (X++Y)≠47:=by
 rw [Zad (List.length_pos_iff.2 hX)];exact h
theorem Zi8 {V:List UInt8} (h:mSp (hb V)=false):nSp V=0:=by
 cases V with
 | nil=>rfl
 | cons c w=>simp only [nSp];rw [je] at h;rw [h];rfl
theorem Jfd {a:List UInt8} (ha:a≠[]):hb (Jac a)≠47:=(Zfc (Jge ha)).1
theorem JcM {k:Int} (hk:16≤k∧k≤24):tokT (tk k)=[marksT.getD (k-16).toNat 0]:=by
 have h:∀j:Int,j<16→k≠j:=fun j hj=>by omega
 have e:∀j:Int,j<16→(tk k).kind≠j:=h;unfold tokT;simp only [e 13 (by decide),e 1 (by decide),e 2 (by decide),e 3 (by decide),e 4 (by decide),e 5 (by decide),e 7 (by decide),e 10 (by decide),e 11 (by decide),e 12 (by decide),e 9 (by decide),e 14 (by decide),e 15 (by decide),if_false]
 rfl
theorem jhu {t:Tok} {V:List UInt8} {L:List Tok} (hc:Can t) (hb1:Jbx t=false) (hu1:jcz t=false) (h:stM t V):RD (tokT t++V) (t::L)↔RD V L:=by
 cases hc with
 | ident a ha h0=>
  have h:zeH a V:=h;exact zbo (zdW ha) (Jfd ha) (jgU ha h0 h)
 | func a ha h0=>
  have hu:Z6 a [117,114,108]=false:=by simpa [jcz,tk] using hu1
  show RD (Jac a++[40]++V) _↔_;refine zbo (by simp) (jdd (zdW ha) (Jfd ha)) ?_
  rw [List.append_assoc,List.singleton_append,JfG ha h0 (fun z=>by rw [hu] at z;cases z)]
  simp
 | atk a ha h0=>
  have h:zI V=false:=h;exact zbo (X:=64::Jac a) (by simp) (by show ¬(64:Int)=47;decide) (Ziz ha h0 h)
 | hash a f ha h0 hf=>
  have h:zI V=false:=h;exact zbo (X:=jcJ a f) (by simp [jcJ]) (by show ¬(35:Int)=47;decide) (Jhs ha h0 hf h)
 | str a h0=>exact zbo (X:=34::(Zcl a++[34])) (by simp) (by show ¬(34:Int)=47;decide) (zfH h0)
 | url a h0=>exact zbo (X:=[117,114,108,40]++(zcx a++[41])) (by simp) (by show ¬(117:Int)=47;decide) (Jh8 h0)
 | del c hc h0=>
  have h:Jdl c V:=h c rfl;refine JgW (X:=[c]) (by simp) (jaO fun z=>h.2.2.2.2.2.2 z) (Jh9 hc h)
 | num n f hn=>
  have h:jgg f V∨exV (tk 10 [] n [] f) V:=h;show RD (J6 n f++V) _↔_;rcases h with h|⟨_,hf,d,W,hd,rfl⟩
  ·exact zbo (jal hn) (jbo hn) (Zia hn h)
  ·have hf:f=false:=hf;subst hf;have hr:=jib hn hd W;have hc0:Jat (J6 n false++48::46::d::W)=0:=jaO fun z=>jdd (jal hn) (jbo hn) z.1
   have hdr:(J6 n false++48::46::d::W).drop ((J6 n false).length+1)=46::d::W:=by rw [←List.drop_drop,List.drop_left];rfl
   have e1:RD (J6 n false++48::46::d::W) (tk 10 [] n [] false::L)↔RD (46::d::W) L:=by
    refine ⟨fun z=>?_,fun z=>?_⟩
    ·have:=(zal hc0 z).2.2;rw [hr,hdr] at this;exact this
    ·exact Jht hc0 (by simp) hr (by rw [hdr];exact z)
   rw [e1];have k1:Jat (48::46::d::W)=0:=jaO fun z=>absurd z.1 (by show ¬(48:Int)=47;decide)
   have k2:Jat (46::d::W)=0:=jaO fun z=>absurd z.1 (by show ¬(46:Int)=47;decide)
   have hs:=ZgW hd W;cases L with
   | nil=>
    refine ⟨fun z=>?_,fun z=>?_⟩
    ·cases z with
     | nil z=>rw [k2] at z;cases z
    ·cases z with
     | nil z=>rw [k1] at z;cases z
   | cons b L=>
    refine ⟨fun z=>?_,fun z=>?_⟩
    ·obtain ⟨-,z2,z3⟩:=zal k2 z;exact Jht k1 (by simp) (hs.trans (by rw [z2])) z3
    ·obtain ⟨-,z2,z3⟩:=zal k1 z;rw [hs] at z2 z3;exact Jht k2 (by simp) (Prod.ext z2 rfl) z3
 | pct n hn=>
  show RD (J6 n (jat n)++[37]++V) _↔_;exact zbo (by simp) (jdd (jal hn) (jbo hn)) (Jia hn V)
 | dim n u f hn hu h0=>
  have h:Zgg u V:=h;show RD (J6 n f++zag u++V) _↔_;exact zbo (by simp [jal hn]) (jdd (jal hn) (jbo hn)) (zib hn hu h0 h)
 | sp=>
  have h:mSp (hb V)=false:=h;refine zbo (X:=[32]) (by simp) (by show ¬(32:Int)=47;decide) ?_
  rw [List.singleton_append,JfW 32 (.inl rfl),Zi8 h];rfl
 | cdo=>exact zbo (X:=[60,33,45,45]) (by simp) (by show ¬(60:Int)=47;decide) (zh9 V)
 | cdc=>exact zbo (X:=[45,45,62]) (by simp) (by show ¬(45:Int)=47;decide) (zia V)
 | mark k hk=>
  have e:=JcM hk;rw [e];refine zbo (by simp) ?_ (zht hk V)
  obtain ⟨n,rfl⟩:∃n:Nat,k=16+(n:Int):=⟨(k-16).toNat,by omega⟩
  have key:∀n:Nat,n<9→(((marksT.getD n 0).toNat:Int))≠47:=by decide +kernel
  rw [show (16+(n:Int)-16).toNat=n by omega]
  exact key n (by omega)
inductive Pc:List Tok→List UInt8→Prop where
 | one (t:Tok) (hc:Can t) (h1:Jbx t=false) (h2:jcz t=false):Pc [t] (tokT t)
 | bs:Pc [tk 9 [92],tk 13] [92,10]
 | uf (a s:List UInt8) (ha:a≠[]) (h0:(0:UInt8)∉a) (hu:Z6 a [117,114,108]=true) (hs:(0:UInt8)∉s):Pc [tk 2 a,tk 5 s] (Jac a++[40]++(34::(Zcl s++[34])))
 | ufs (a s:List UInt8) (ha:a≠[]) (h0:(0:UInt8)∉a) (hu:Z6 a [117,114,108]=true) (hs:(0:UInt8)∉s):Pc [tk 2 a,tk 13,tk 5 s] (Jac a++[40]++(32::34::(Zcl s++[34])))
def stP (T:List Tok) (V:List UInt8):Prop:=(∀t,T=[t]→stM t V)∧(∀t,T=[t,tk 13]→mSp (hb V)=false)
theorem ZfI {t:Tok} {V:List UInt8}:stP [t] V↔stM t V:=
 ⟨fun h=>h.1 t rfl,fun h=>⟨fun u e=>by injection e with e _;subst e;exact h,fun u e=>(by cases e)⟩⟩
theorem jgX {V:List UInt8}:stP [tk 9 [92],tk 13] V↔mSp (hb V)=false:=
 ⟨fun h=>h.2 _ rfl,fun h=>⟨fun u e=>(by cases e),fun u e=>h⟩⟩
theorem ZgX {T:List Tok} {V:List UInt8} (W:List UInt8) (h:stP T V):stP T (V++47::W):=by
 refine ⟨fun t e=>zgX W (h.1 t e),fun t e=>?_⟩
 have:=JbL (V:=V) W (fun x=>mSp x=true) (by decide) (by rw [h.2 t e];decide)
 simpa using this
theorem Jib {T:List Tok} {V:List UInt8} (W:List UInt8) (hl:3≤V.length) (h:stP T V):stP T (V++W):=
 ⟨fun t e=>Zib W hl (h.1 t e),fun t e=>by rw [Zad (by omega)];exact h.2 t e⟩
theorem jhH (V:List UInt8):JK ([92]++10::V)=(tk 9 [92],1):=by
 have h1:mSp (((92:UInt8).toNat:Int))=false:=by decide
 have h2:mQ (((92:UInt8).toNat:Int))=false:=by decide
 have h3:¬(((92:UInt8).toNat:Int))=35:=by decide
 have h4:¬(((92:UInt8).toNat:Int))=64:=by decide
 have h5:Jbo (92::10::V)=false:=by
  unfold Jbo Zac;rw [je,show mSg (((92:UInt8).toNat:Int))=false by decide,show mD (((92:UInt8).toNat:Int))=false by decide,show decide ((((92:UInt8).toNat:Int))=46)=false by decide]
  rfl
 have h6:ZE (92::10::V)=false:=by
  rw [jbx,if_pos (by decide),show mN0 (((92:UInt8).toNat:Int))=false by decide,JcL,je,show decide ((((10:UInt8).toNat:Int))≠10)=false by decide,Bool.and_false]
  rfl
 rw [List.singleton_append,jfH h1 h2 (fun z=>h3 z.1) h5 (by simp [List.isPrefixOf]) (by simp [List.isPrefixOf]) (fun z=>h4 z.1) h6,if_neg (by decide)]
theorem zic {T:List Tok} {X:List UInt8} (h:Pc T X):X≠[]∧T≠[]:=by
 cases h with
 | one t hc h1 h2=>
  refine ⟨fun z=>?_,by simp⟩
  cases hc with
  | ident a ha h0=>exact zdW ha z
  | func a ha h0=>have z:Jac a++[40]=[]:=z;simp at z
  | atk a ha h0=>have z:64::Jac a=[]:=z;cases z
  | hash a f ha h0 hf=>cases z
  | str a h0=>cases z
  | url a h0=>cases z
  | del c hc h0=>cases z
  | num n f hn=>exact jal hn z
  | pct n hn=>have z:J6 n (jat n)++[37]=[]:=z;simp at z
  | dim n u f hn hu h0=>have z:J6 n f++zag u=[]:=z;simp [jal hn] at z
  | sp=>cases z
  | cdo=>cases z
  | cdc=>cases z
  | mark k hk=>
   have e:tokT (tk k)=[marksT.getD (k-16).toNat 0]:=JcM hk;rw [e] at z;cases z
 | bs=>simp
 | uf a s ha h0 hu hs=>simp
 | ufs a s ha h0 hu hs=>simp
theorem JgX {T:List Tok} {X V:List UInt8} {L:List Tok} (hp:Pc T X) (h:stP T V):RD (X++V) (T++L)↔RD V L:=by
 cases hp with
 | one t hc h1 h2=>exact jhu hc h1 h2 (ZfI.1 h)
 | bs=>
  have h:=jgX.1 h;show RD ([92]++(10::V)) (tk 9 [92]::tk 13::L)↔_;rw [zbo (by simp) (by show ¬(92:Int)=47;decide) (jhH V)]
  show RD ([10]++V) (tk 13::L)↔_;refine zbo (by simp) (by show ¬(10:Int)=47;decide) ?_
  rw [List.singleton_append,JfW 10 (.inr rfl),Zi8 h];rfl
 | uf a s ha h0 hu hs=>
  rw [List.append_assoc];show RD (Jac a++[40]++(34::(Zcl s++[34])++V)) (tk 2 a::tk 5 s::L)↔_;rw [zbo (by simp) (jdd (zdW ha) (Jfd ha)) (by rw [List.append_assoc,List.singleton_append,JfG ha h0 (fun z=>by rfl)];simp)]
  exact zbo (by simp) (by show ¬(34:Int)=47;decide) (zfH hs)
 | ufs a s ha h0 hu hs=>
  rw [List.append_assoc];show RD (Jac a++[40]++([32]++(34::(Zcl s++[34])++V))) (tk 2 a::tk 13::tk 5 s::L)↔_;rw [zbo (by simp) (jdd (zdW ha) (Jfd ha)) (by rw [List.append_assoc,List.singleton_append,JfG ha h0 (fun z=>by rfl)];simp)]
  rw [zbo (by simp) (by show ¬(32:Int)=47;decide) (by rw [List.singleton_append,JfW 32 (.inl rfl)];rfl)]
  exact zbo (by simp) (by show ¬(34:Int)=47;decide) (zfH hs)
end Go.Proofs.YtmnegokadegioaaGreatDoor
set_option linter.unusedVariables false
set_option linter.unusedSimpArgs false
namespace Go.Proofs.YtmnegokadegioaaGreatDoor
open Go.Vm Go.Sx Go.RowKit
inductive First (T:List Tok) (X:List UInt8):Prop where
 | name (a tl:List UInt8) (ha:a≠[]) (h0:(0:UInt8)∉a) (hX:X=Jac a++tl) (h:(T=[tk 1 a]∧tl=[])∨(T=[tk 2 a]∧tl=[40])∨Z6 a [117,114,108]=true)
 | num (n:Int) (f:Bool) (tl:List UInt8) (hn:NumOK n f) (hX:X=J6 n f++tl) (h:(T=[tk 10 [] n [] f]∧tl=[])∨(T=[tk 11 [] n]∧tl=[37])∨(∃u,u≠[]∧(0:UInt8)∉u∧T=[tk 12 [] n u f]∧tl=zag u))
 | del (c:UInt8) (hc:DelOK c) (hX:X=[c])
 | sp (hX:X=[32]) (hT:T=[tk 13])
 | other (h1:hb X≠42) (h2:mSp (hb X)=false) (h3:mD (hb X)=false) (h4:mE (hb X)=false) (h5:¬(mSg (hb X)=true∧mD (hb X.tail)=true))
theorem Zhu {T:List Tok} {X:List UInt8} (hp:Pc T X):First T X:=by
 cases hp with
 | one t hc h1 h2=>
  cases hc with
  | ident a ha h0=>exact .name a [] ha h0 (List.append_nil _).symm (.inl ⟨rfl,rfl⟩)
  | func a ha h0=>exact .name a [40] ha h0 rfl (.inr (.inl ⟨rfl,rfl⟩))
  | atk a ha h0=>exact .other (by show ¬(64:Int)=42;decide) (by show mSp 64=false;decide) (by show mD 64=false;decide) (by show mE 64=false;decide) (fun z=>absurd z.1 (by show ¬mSg 64=true;decide))
  | hash a f ha h0 hf=>exact .other (by show ¬(35:Int)=42;decide) (by show mSp 35=false;decide) (by show mD 35=false;decide) (by show mE 35=false;decide) (fun z=>absurd z.1 (by show ¬mSg 35=true;decide))
  | str a h0=>exact .other (by show ¬(34:Int)=42;decide) (by show mSp 34=false;decide) (by show mD 34=false;decide) (by show mE 34=false;decide) (fun z=>absurd z.1 (by show ¬mSg 34=true;decide))
  | url a h0=>exact .other (by show ¬(117:Int)=42;decide) (by show mSp 117=false;decide) (by show mD 117=false;decide) (by show mE 117=false;decide) (fun z=>absurd z.1 (by show ¬mSg 117=true;decide))
  | del c hc h0=>exact .del c hc rfl
  | num n f hn=>exact .num n f [] hn (List.append_nil _).symm (.inl ⟨rfl,rfl⟩)
  | pct n hn=>exact .num n (jat n) [37] hn rfl (.inr (.inl ⟨rfl,rfl⟩))
  | dim n u f hn hu h0=>exact .num n f (zag u) hn rfl (.inr (.inr ⟨u,hu,h0,rfl,rfl⟩))
  | sp=>exact .sp rfl rfl
  | cdo=>exact .other (by show ¬(60:Int)=42;decide) (by show mSp 60=false;decide) (by show mD 60=false;decide) (by show mE 60=false;decide) (fun z=>absurd z.1 (by show ¬mSg 60=true;decide))
  | cdc=>exact .other (by show ¬(45:Int)=42;decide) (by show mSp 45=false;decide) (by show mD 45=false;decide) (by show mE 45=false;decide) (fun z=>absurd z.2 (by show ¬mD 45=true;decide))
  | mark k hk=>
   rw [JcM hk];obtain ⟨n,rfl⟩:∃n:Nat,k=16+(n:Int):=⟨(k-16).toNat,by omega⟩
   have key:∀n:Nat,n<9→((((marksT.getD n 0).toNat:Int))≠42∧mSp ((marksT.getD n 0).toNat:Int)=false∧mD ((marksT.getD n 0).toNat:Int)=false∧mE ((marksT.getD n 0).toNat:Int)=false∧mSg ((marksT.getD n 0).toNat:Int)=false):=by decide +kernel
   rw [show (16+(n:Int)-16).toNat=n by omega]
   obtain ⟨k1,k2,k3,k4,k5⟩:=key n (by omega)
   refine .other k1 k2 k3 k4 (fun z=>?_)
   have z:=z.1;rw [je,k5] at z;cases z
 | bs=>exact .other (by show ¬(92:Int)=42;decide) (by show mSp 92=false;decide) (by show mD 92=false;decide) (by show mE 92=false;decide) (fun z=>absurd z.1 (by show ¬mSg 92=true;decide))
 | uf a s ha h0 hu hs=>exact .name a _ ha h0 (List.append_assoc _ _ _) (.inr (.inr hu))
 | ufs a s ha h0 hu hs=>exact .name a _ ha h0 (List.append_assoc _ _ _) (.inr (.inr hu))
theorem Jgg {T:List Tok} {X:List UInt8} (hf:First T X) (h:hb X=42):X=[42]:=by
 cases hf with
 | name a tl ha h0 hX _=>
  exfalso;rw [hX] at h;rcases zcf (JF ha tl) with q|q|q
  ·have:=ZcL q;omega
  ·omega
  ·omega
 | num n f tl hn hX _=>
  exfalso;rw [hX,Zad (List.length_pos_iff.2 (jal hn))] at h;rcases ZfX (Zfd hn) with q|q|q|q
  ·omega
  ·omega
  ·omega
  ·have:=Jef q;omega
 | del c hc hX=>
  rw [hX,je] at h;have:c=42:=UInt8.toNat_inj.mp (by show c.toNat=42;omega)
  rw [hX,this]
 | sp hX=>rw [hX] at h;exact absurd h (by decide)
 | other h1=>exact absurd h h1
theorem Jhu {T:List Tok} {X:List UInt8} (hf:First T X) (h:mSp (hb X)=true):X=[32]:=by
 cases hf with
 | name a tl ha h0 hX _=>
  exfalso;rw [hX] at h;have hs:hb (Jac a++tl)=10∨hb (Jac a++tl)=9∨hb (Jac a++tl)=32:=by unfold mSp at h;simpa using h
  rcases zcf (JF ha tl) with q|q|q
  ·have:=ZcL q;omega
  ·omega
  ·omega
 | num n f tl hn hX _=>
  exfalso;rw [hX,Zad (List.length_pos_iff.2 (jal hn))] at h;have hs:hb (J6 n f)=10∨hb (J6 n f)=9∨hb (J6 n f)=32:=by unfold mSp at h;simpa using h
  rcases ZfX (Zfd hn) with q|q|q|q
  ·omega
  ·omega
  ·omega
  ·have:=Jef q;omega
 | del c hc hX=>rw [hX,je,hc.sp] at h;cases h
 | sp hX=>exact hX
 | other _ h2=>rw [h2] at h;cases h
theorem zhv {c:Int} (h:mE c=true):c=101∨c=69:=by unfold mE at h;simpa using h
theorem zgY {c:Int} (h:mSg c=true):c=43∨c=45:=by unfold mSg at h;simpa using h
theorem jic {T:List Tok} {X:List UInt8} (hf:First T X) (h:mE (hb X)=true):∃a tl,a≠[]∧(0:UInt8)∉a∧X=Jac a++tl∧((T=[tk 1 a]∧tl=[])∨(T=[tk 2 a]∧tl=[40])):=by
 have he:=zhv h;cases hf with
 | name a tl ha h0 hX hh=>
  refine ⟨a,tl,ha,h0,hX,?_⟩;rcases hh with q|q|q
  ·exact .inl q
  ·exact .inr q
  ·exfalso;obtain ⟨c,w,rfl⟩:=List.exists_cons_of_ne_nil ha;unfold Z6 at q;simp only [Bool.and_eq_true,decide_eq_true_eq] at q;have hc:¬((c.toNat:Int)=101∨(c.toNat:Int)=69):=by
    intro z;have q1:=q.1;rcases z with z|z <;> rw [z] at q1 <;> exact absurd q1 (by decide)
   rw [hX] at he;unfold Jac at he;rcases jai (jcO (c::w)) 0 c w with ⟨_,_,e⟩|⟨_,e⟩
   ·rw [e,List.cons_append,je] at he;exact hc he
   ·obtain ⟨d,v,e2,_⟩:=za4 c;rw [e,e2] at he;exact absurd he (by show ¬((92:Int)=101∨(92:Int)=69);decide)
 | num n f tl hn hX _=>
  exfalso;rw [hX,Zad (List.length_pos_iff.2 (jal hn))] at he;rcases ZfX (Zfd hn) with q|q|q|q
  ·omega
  ·omega
  ·omega
  ·have:=Jef q;omega
 | del c hc hX=>
  exfalso;rw [hX,je] at he;have:=hc.n0;rcases he with z|z <;> rw [z] at this <;> exact absurd this (by decide)
 | sp hX=>rw [hX] at he;exact absurd he (by decide)
 | other _ _ _ h4=>rw [h4] at h;cases h
theorem jgY {T:List Tok} {X:List UInt8} (hf:First T X) (h:mD (hb X)=true∨(mSg (hb X)=true∧mD (hb X.tail)=true)) :
  ∃n f tl,NumOK n f∧X=J6 n f++tl∧((T=[tk 10 [] n [] f]∧tl=[])∨(T=[tk 11 [] n]∧tl=[37])∨(∃u,u≠[]∧(0:UInt8)∉u∧T=[tk 12 [] n u f]∧tl=zag u)):=by
 cases hf with
 | name a tl ha h0 hX _=>
  exfalso;rw [hX] at h;have hs:=JF ha tl;have hn:=jfc hs;unfold Jbo at hn;rcases h with q|⟨q1,q2⟩
  ·by_cases z:mSg (hb (Jac a++tl))=true
   ·have:=zgY z;have:=Jef q;omega
   ·rw [if_neg z,q] at hn;cases hn
  ·rw [if_pos q1,q2] at hn;cases hn
 | num n f tl hn hX hh=>exact ⟨n,f,tl,hn,hX,hh⟩
 | del c hc hX=>
  exfalso;rw [hX] at h;rcases h with q|⟨_,q⟩
  ·rw [je,hc.d] at q;cases q
  ·exact absurd q (by show ¬mD 0=true;decide)
 | sp hX=>rw [hX] at h;exact absurd h (by decide)
 | other _ _ h3 _ h5=>
  exfalso;rcases h with q|q
  ·rw [h3] at q;cases q
  ·exact h5 q
theorem zcN {X W:List UInt8} (hX:X≠[]) (h:hb X≠47):Jat (X++W)=0:=jaO fun z=>jdd hX h z.1
theorem ZiA {U P:List UInt8} {T' L:List Tok} (hf:First T' P) (hU:mSp (hb U)=false) (hL:L≠[]) (c:UInt8) (hc:c=32∨c=10) (h:RD ([c]++(U++P)) (tk 13::L)):mSp (hb (U++P))=false:=by
 cases q:mSp (hb (U++P)) with
 | false=>rfl
 | true=>
  exfalso;cases U with
  | cons b U=>rw [List.cons_append,je] at q;rw [je,q] at hU;cases hU
  | nil=>
   have hP:=Jhu hf q;rw [hP] at h;apply hL;have hcm:Jat ([c]++([]++[32]))=0:=jaO fun z=>(by rcases hc with rfl|rfl <;> exact absurd z.1 (by decide))
   have:=(zal hcm h).2.2;rw [show JK ([c]++([]++[32]))=(tk 13,2) by rw [List.singleton_append,JfW c hc];rfl] at this
   exact jcf this
theorem Zic {c:UInt8} {U P:List UInt8} {T' L:List Tok} (hc:DelOK c) (hf:First T' P) (hU:Jdl c U) (h:RD ([c]++(U++P)) (tk 9 [c]::L)):Jdl c (U++P):=by
 by_cases z:(c.toNat:Int)=47∧hb (U++P)=42
 ·exfalso;cases U with
  | cons b U=>exact hU.2.2.2.2.2.2 ⟨z.1,z.2⟩
  | nil=>
   have hP:=Jgg hf z.2;have hc47:c=47:=UInt8.toNat_inj.mp (by show c.toNat=47;omega)
   rw [hP,hc47] at h;have:=(zhH h).1;rw [show Jat ([47]++([]++[42]))=2 by show Jat [47,42]=2;rw [Jat];rfl] at this
   exact this rfl
 ·have hcm:Jat (c::(U++P))=0:=jaO z;exact Jiz hc hcm (zal hcm h).2.1
end Go.Proofs.YtmnegokadegioaaGreatDoor
set_option linter.unusedVariables false
set_option linter.unusedSimpArgs false
namespace Go.Proofs.YtmnegokadegioaaGreatDoor
open Go.Vm Go.Sx Go.RowKit
theorem zgh:∀n:Nat,n<126→marksA.getD n 0=0∨16≤marksA.getD n 0:=by decide +kernel
theorem ZhH {r:List UInt8} (h:(JK r).1.kind=1∨(JK r).1.kind=2):ZE r=true:=by
 cases q:ZE r with
 | true=>rfl
 | false=>
  exfalso;unfold JK at h;split at h
  ·exact absurd h (by show ¬((13:Int)=1∨(13:Int)=2);decide)
  ·split at h
   ·dsimp only at h;split at h
    ·exact absurd h (by show ¬((5:Int)=1∨(5:Int)=2);decide)
    ·exact absurd h (by show ¬((6:Int)=1∨(6:Int)=2);decide)
   ·split at h
    ·exact absurd h (by show ¬((4:Int)=1∨(4:Int)=2);decide)
    ·unfold jff at h;split at h
     ·have:=zdd r;omega
     ·split at h
      ·exact absurd h (by show ¬((15:Int)=1∨(15:Int)=2);decide)
      ·split at h
       ·exact absurd h (by show ¬((14:Int)=1∨(14:Int)=2);decide)
       ·unfold zgc at h;split at h
        ·exact absurd h (by show ¬((3:Int)=1∨(3:Int)=2);decide)
        ·unfold Zgi at h;rw [q,if_neg (by decide)] at h
         split at h
         ·have h:zcJ (hb r)=1∨zcJ (hb r)=2:=h;unfold zcJ at h;split at h
          ·rename_i z;have:=zgh (hb r).toNat (by omega)
           omega
          ·omega
         ·exact absurd h (by show ¬((9:Int)=1∨(9:Int)=2);decide)
theorem Zcf:∀(X r:List UInt8),(∀b∈X,mN (b.toNat:Int)=true)→jo (X++r)=(X++(jo r).1,X.length+(jo r).2)
 | [],r,_=>by simp
 | c::X,r,h=>by
  rw [List.cons_append,ZfW (h c (List.mem_cons_self ..)),Zcf X r fun b hb=>h b (List.mem_cons_of_mem _ hb)]
  simp only [List.cons_append,List.length_cons];refine Prod.ext rfl ?_;dsimp only;omega
theorem zeg (x:List UInt8):ZF x++x.drop (ZF x).length=x:=by
 induction x with
 | nil=>rfl
 | cons a x ih=>
  cases hq:mD (a.toNat:Int) with
  | true=>rw [I.digs_pos hq,List.length_cons,List.drop_succ_cons,List.cons_append,ih]
  | false=>rw [I.digs_neg hq];rfl
theorem ZgY (x:List UInt8):I.AllDg (ZF x):=by
 induction x with
 | nil=>exact fun b hb=>(by cases hb)
 | cons a x ih=>
  cases hq:mD (a.toNat:Int) with
  | true=>
   rw [I.digs_pos hq];intro b hb;rcases List.mem_cons.1 hb with rfl|hb
   ·exact hq
   ·exact ih b hb
  | false=>rw [I.digs_neg hq];exact fun b hb=>(by cases hb)
theorem JiA {c:Int} (h:mD c=true):mN c=true:=by unfold mN;rw [h];simp
theorem JgY {x:List UInt8} (h:mD (hb x)=true):ZF x≠[]:=by
 cases x with
 | nil=>exact absurd h (by decide)
 | cons a x=>rw [I.digs_pos h];simp
theorem zgZ {P:List UInt8} (h:Zcy P=true):∃(y:UInt8) (S D r:List UInt8),P=y::(S++(D++r))∧mE (y.toNat:Int)=true∧(S=[]∨S=[45]∨S=[43])∧I.AllDg D∧D≠[]∧r=P.drop (Jbd P).2∧(Jbd P).2=1+S.length+D.length:=by
 unfold Zcy at h;simp only [Bool.and_eq_true] at h;obtain ⟨h1,h2⟩:=h;cases P with
 | nil=>exact absurd h1 (by decide)
 | cons y w=>
  rw [je] at h1;rw [List.tail_cons] at h2;have hx:(Jbd (y::w)).2=(if mSg (hb w) then 2 else 1)+(ZF (if mSg (hb w) then w.tail else w)).length:=by
   unfold Jbd;rw [if_pos (by rw [je,List.tail_cons,h1,h2];rfl)]
   rfl
  cases w with
  | nil=>exact absurd h2 (by decide)
  | cons s w=>
   unfold Jec at h2;rw [je,List.tail_cons] at h2;rw [je,List.tail_cons] at hx;by_cases q:mSg (s.toNat:Int)=true
   ·rw [if_pos q] at h2;rw [if_pos q,if_pos q] at hx;have hs:s=45∨s=43:=by
     rcases zgY q with z|z
     ·exact .inr (UInt8.toNat_inj.mp (by show s.toNat=43;omega))
     ·exact .inl (UInt8.toNat_inj.mp (by show s.toNat=45;omega))
    refine ⟨y,[s],ZF w,w.drop (ZF w).length,?_,h1,?_,ZgY w,JgY h2,?_,hx⟩
    ·rw [zeg];rfl
    ·rcases hs with rfl|rfl
     ·exact .inr (.inl rfl)
     ·exact .inr (.inr rfl)
    ·rw [hx,show 2+(ZF w).length=(ZF w).length+1+1 by omega,List.drop_succ_cons,List.drop_succ_cons]
   ·rw [if_neg q] at h2;rw [if_neg q,if_neg q] at hx;refine ⟨y,[],ZF (s::w),(s::w).drop (ZF (s::w)).length,?_,h1,.inl rfl,ZgY _,JgY h2,?_,hx⟩
    ·rw [zeg];rfl
    ·rw [hx,show 1+(ZF (s::w)).length=(ZF (s::w)).length+1 by omega,List.drop_succ_cons]
theorem JiV {n:Int} {f:Bool} {T L:List Tok} {P:List UInt8} (hn:NumOK n f) (hf:First T P) (he:Zcy P=true) (hT:L=T) (h:RD (J6 n f++P) (tk 10 [] n [] f::L)):False:=by
 have he1:mE (hb P)=true:=by unfold Zcy at he;simp only [Bool.and_eq_true] at he;exact he.1
 obtain ⟨a,tl,ha,h0,hP,hk⟩:=jic hf he1;obtain ⟨y,S,D,r,e1,e2,e3,e4,e5,e6,e7⟩:=zgZ he;have hPd:mD (hb P)=false:=(ZcM (jeH he1)).1;have hPf:Zac P=false:=(ZcM (jeH he1)).2.1;obtain ⟨g1,g2,g3⟩:=Jbi hn hPd (fun _=>hPf)
 obtain ⟨-,i2,i3⟩:=zal (zcN (jal hn) (jbo hn)) h;have hdrop:(J6 n f++P).drop (Zbx (J6 n f++P)).2.2=r:=by
  rw [g2];dsimp only;rw [←List.drop_drop,List.drop_left,←e6]
 rw [ZaU g1] at i2 i3;have hr:ZE r=false∧(jr (J6 n f++P)).2=(Zbx (J6 n f++P)).2.2:=by
  unfold jr at i2 ⊢;dsimp only at i2 ⊢;rw [hdrop] at i2 ⊢;cases q:ZE r with
  | true=>rw [q,if_pos rfl] at i2;exact absurd (congrArg Tok.kind i2) (by show ¬(12:Int)=10;decide)
  | false=>
   refine ⟨rfl,?_⟩;rw [q,if_neg (by decide)] at i2
   by_cases q2:hb r=37
   ·rw [if_pos q2] at i2;exact absurd (congrArg Tok.kind i2) (by show ¬(11:Int)=10;decide)
   ·rw [if_neg (by decide),if_neg q2]
 rw [hr.2,hdrop] at i3;have hc:hb r≠47:=by
  intro z;have hg:zI r=false:=by
   unfold zI jcn;rw [z];rfl
  have htl:zI tl=false:=by
   rcases hk with ⟨_,q⟩|⟨_,q⟩ <;> rw [q] <;> decide
  have hP2:=hP;have n1:=jcy h0 tl;rw [JaH htl,←hP] at n1;have hlen:P.length=(Jac a).length+tl.length:=by rw [hP,List.length_append]
  have hy:mN (y.toNat:Int)=true:=by rcases zhv e2 with q|q <;> rw [q] <;> decide
  have htl2:hb tl≠47∧hb tl≠43:=by rcases hk with ⟨_,q⟩|⟨_,q⟩ <;> rw [q] <;> decide
  rcases e3 with q|q|q
  ·have raw:∀b∈y::D,mN (b.toNat:Int)=true:=by
    intro b hb;rcases List.mem_cons.1 hb with rfl|hb
    ·exact hy
    ·exact JiA (e4 b hb)
   have n2:=Zcf (y::D) r raw;rw [JaH hg,show (y::D)++r=P by rw [e1,q];rfl,n1] at n2
   have n3:=congrArg Prod.snd n2;have hr2:r=tl:=by
    rw [e6,e7,q,hP,show 1+([]:List UInt8).length+D.length=(Jac a).length by simp at n3 ⊢;omega,List.drop_left]
   rw [hr2] at z;exact htl2.1 z
  ·have raw:∀b∈y::45::D,mN (b.toNat:Int)=true:=by
    intro b hb;rcases List.mem_cons.1 hb with rfl|hb
    ·exact hy
    ·rcases List.mem_cons.1 hb with rfl|hb
     ·decide
     ·exact JiA (e4 b hb)
   have n2:=Zcf (y::45::D) r raw;rw [JaH hg,show (y::45::D)++r=P by rw [e1,q];rfl,n1] at n2
   have n3:=congrArg Prod.snd n2;have hr2:r=tl:=by
    rw [e6,e7,q,hP,show 1+[(45:UInt8)].length+D.length=(Jac a).length by simp at n3 ⊢;omega,List.drop_left]
   rw [hr2] at z;exact htl2.1 z
  ·have raw:∀b∈[y],mN (b.toNat:Int)=true:=by
    intro b hb;rw [List.mem_singleton] at hb;rw [hb];exact hy
   have hg2:zI (43::(D++r))=false:=rfl;have n2:=Zcf [y] (43::(D++r)) raw;rw [JaH hg2,show [y]++(43::(D++r))=P by rw [e1,q];rfl,n1] at n2
   have n3:=congrArg Prod.snd n2;have hr2:tl=43::(D++r):=by
    have w1:P.drop 1=tl:=by rw [hP,show 1=(Jac a).length by simp at n3;omega,List.drop_left]
    rw [←w1,e1,q];rfl
   exact htl2.2 (by rw [hr2];rfl)
 rw [hT] at i3;rcases hk with ⟨q,_⟩|⟨q,_⟩
 ·rw [q] at i3;have:=(zal (jaO fun z=>hc z.1) i3).2.1
  rw [ZhH (.inl (by rw [this];rfl))] at hr
  cases hr.1
 ·rw [q] at i3;have:=(zal (jaO fun z=>hc z.1) i3).2.1
  rw [ZhH (.inr (by rw [this];rfl))] at hr
  cases hr.1
end Go.Proofs.YtmnegokadegioaaGreatDoor
