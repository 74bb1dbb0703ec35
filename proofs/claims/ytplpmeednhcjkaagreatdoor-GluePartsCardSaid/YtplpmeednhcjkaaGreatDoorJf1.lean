/- Lemmas. -/
import Derived.Test.YtplpmeednhcjkaaGreatDoorIw1
set_option linter.unusedVariables false
set_option linter.unusedSimpArgs false
namespace Go.Proofs.YtplpmeednhcjkaaGreatDoor
open Go.Proofs.Tryz
open Go.Vm Go.Sx Go.RowKit
def wB (c:UInt8):Nat:=if (c.toNat:Int)=34 then 1 else if (c.toNat:Int)=39 then 2 else if (c.toNat:Int)=40 then 2 else 0
def wt:List UInt8->Nat
 | []=>0
 | c::w=>wB c+wt w
theorem JaJ:∀(a b:List UInt8),wt (a++b)=wt a+wt b
 | [],b=>by rw [gf];show _=0+_;omega
 | c::a,b=>by show wB c+wt (a++b)=wB c+wt a+wt b;rw [JaJ a b];omega
def Al:List UInt8->Prop
 | []=>True
 | c::w=>if (c.toNat:Int)=92/\hb w≠10 then wt (ZT w).1+wt (w.drop (ZT w).2)<=wt w/\Al (w.drop (ZT w).2) else Al w
termination_by w=>w.length
decreasing_by all_goals (simp only [Hb,da];omega)
def qr:List UInt8->List UInt8
 | []=>[]
 | c::w=>if (c.toNat:Int)=34 then c::w else if (c.toNat:Int)=92/\hb w≠10 then qr (w.drop (ZT w).2) else qr w
termination_by w=>w.length
decreasing_by all_goals (simp only [Hb,da];omega)
theorem Zi3:Al []:=by unfold Al;trivial
theorem ZL {c:UInt8} {w:List UInt8} (h:(c.toNat:Int)≠92\/hb w=10):Al (c::w)↔Al w:=by
 rw [Al,ga (λx=>by rcases h with h|h;exact h x.1;exact x.2 h)]
theorem Zeu {c:UInt8} {w:List UInt8} (hc:(c.toNat:Int)=92) (h:hb w≠10):Al (c::w)↔wt (ZT w).1+wt (w.drop (ZT w).2)<=wt w/\Al (w.drop (ZT w).2):=by
 rw [Al,ya ⟨hc,h⟩]
theorem Z8 {c:UInt8} {w:List UInt8} (h0:(c.toNat:Int)≠34) (h:(c.toNat:Int)≠92\/hb w=10):qr (c::w)=qr w:=by
 rw [qr,ga h0,ga (λx=>by rcases h with h|h;exact h x.1;exact x.2 h)]
theorem Jeu {c:UInt8} {w:List UInt8} (hc:(c.toNat:Int)=92) (h:hb w≠10):qr (c::w)=qr (w.drop (ZT w).2):=by
 rw [qr,ga (by omega),ya ⟨hc,h⟩]
theorem jft {c:UInt8} {w:List UInt8} (h:(c.toNat:Int)=34):qr (c::w)=c::w:=by rw [qr,ya h]
theorem jhS {c:UInt8} (h1:(c.toNat:Int)≠34) (h2:(c.toNat:Int)≠39) (h3:(c.toNat:Int)≠40):wB c=0:=by
 unfold wB;rw [ga h1,ga h2,ga h3]
theorem Ji3 {c:Int} (h:mN c=true):c≠34/\c≠39/\c≠40/\c≠92:=by
 unfold mN mN0 mL mD at h;simp only [xg,yb,xc] at h;omega
theorem zcV:∀(w:List UInt8),Al w->Al (w.drop (jj w).2)/\wt (jj w).1+wt (w.drop (jj w).2)<=wt w/\qr (w.drop (jj w).2)=qr w
 | [],h=>by rw [jj];exact ⟨h,by simp [wt],rfl⟩
 | c::w,h=>by
  rw [jj];by_cases g:Jx (c::w)=true
  ·rw [ya g];by_cases q:(c.toNat:Int)=92
   ·rw [ya q];have hs:hb w≠10:=by
     intro z;unfold Jx at g;have:mN (hb (c::w))=false:=by show mN (c.toNat:Int)=false;rw [q];decide
     rw [this] at g;unfold Jbt at g;simp [z] at g
    have h2:=(Zeu q hs).1 h;have ih:=zcV (w.drop (ZT w).2) h2.2;dsimp only;rw [show 1+(ZT w).2+(jj (w.drop (ZT w).2)).2=((ZT w).2+(jj (w.drop (ZT w).2)).2)+1 by omega,Hf,<-xe,Jeu q hs,JaJ]
    refine ⟨ih.1,?_,ih.2.2⟩;have:wt (c::w)=wB c+wt w:=rfl;omega
   ·rw [ga q];have h2:=(ZL (.inl q)).1 h;have ih:=zcV w h2;have hc:(c.toNat:Int)≠34:=by
     unfold Jx at g;have:Jbt (c::w)=false:=by unfold Jbt;simp [q]
     rw [this,Bool.or_false] at g;exact (Ji3 g).1
    dsimp only;rw [show 1+(jj w).2=(jj w).2+1 by omega,Hf,Z8 hc (.inl q)]
    refine ⟨ih.1,?_,ih.2.2⟩;show wB c+wt (jj w).1+_<=wB c+wt w;omega
  ·rw [ga g];exact ⟨h,by simp [wt],rfl⟩
termination_by w=>w.length
decreasing_by all_goals (simp only [Hb,da];omega)
theorem ZhS:∀(n:Nat) (w:List UInt8),w.length<=n->Al w->(strM 34 w).1=true->(∃v c,(c.toNat:Int)=34/\qr w=c::v/\w.drop (strM 34 w).2.2=v/\Al v/\wt (strM 34 w).2.1+1+wt v<=wt w)\/(qr w=[]/\w.drop (strM 34 w).2.2=[]/\wt (strM 34 w).2.1<=wt w)
 | _,[],_,h,hg=>by rw [strM];exact .inr ⟨by rw [qr],rfl,by simp [wt]⟩
 | n+1,c::w,hl,h,hg=>by
  rw [da] at hl;rw [strM.eq_def 34 (c::w)] at hg |-;dsimp only at hg |-;by_cases q:(c.toNat:Int)=34
  ·rw [ya q] at hg |-;refine .inl ⟨w,c,q,jft q,rfl,(ZL (.inl (by omega))).1 h,?_⟩
   show 0+1+wt w<=wB c+wt w;unfold wB;rw [ya q];omega
  rw [ga q] at hg |-;by_cases q2:(c.toNat:Int)=10
  ·rw [ya q2] at hg;cases hg
  rw [ga q2] at hg |-;have hw:wt (c::w)=wB c+wt w:=rfl;by_cases q3:(c.toNat:Int)≠92
  ·rw [ya q3] at hg |-;have h2:=(ZL (.inl q3)).1 h;rw [Z8 q (.inl q3)];dsimp only at hg |-;rw [show 1+(strM 34 w).2.2=(strM 34 w).2.2+1 by omega,Hf]
   have ww:wt (c::(strM 34 w).2.1)=wB c+wt (strM 34 w).2.1:=rfl;rcases ZhS n w (by omega) h2 hg with ⟨v,c',e0,e1,e2,e3,e4⟩|⟨e1,e2,e3⟩
   ·exact .inl ⟨v,c',e0,e1,e2,e3,by omega⟩
   ·exact .inr ⟨e1,e2,by omega⟩
  rw [ga q3] at hg |-;have q3:(c.toNat:Int)=92:=by omega
  cases w with
  | nil=>exact .inr ⟨by rw [Jeu q3 (by decide)];simp [qr],rfl,by simp [wt]⟩
  | cons d v=>
   rw [da] at hl;dsimp only at hg |-;by_cases q4:(d.toNat:Int)=10
   ·have q5:hb (d::v)=10:=q4;rw [ya q4] at hg |-;have h2:=(ZL (.inl (by omega))).1 ((ZL (.inr q5)).1 h)
    rw [Z8 q (.inr q5),Z8 (by omega) (.inl (by omega))]
    have hw2:wt (d::v)=wB d+wt v:=rfl;dsimp only at hg |-;rw [show 2+(strM 34 v).2.2=(strM 34 v).2.2+1+1 by omega,Hf,Hf]
    rcases ZhS n v (by omega) h2 hg with ⟨v',c',e0,e1,e2,e3,e4⟩|⟨e1,e2,e3⟩
    ·exact .inl ⟨v',c',e0,e1,e2,e3,by omega⟩
    ·exact .inr ⟨e1,e2,by omega⟩
   ·rw [ga q4] at hg |-;have q5:hb (d::v)≠10:=q4;have h2:=(Zeu q3 q5).1 h;rw [Jeu q3 q5];dsimp only at hg |-;generalize hE:ZT (d::v)=E at hg h2 |-;rw [show 1+E.2+(strM 34 ((d::v).drop E.2)).2.2=(E.2+(strM 34 ((d::v).drop E.2)).2.2)+1 by omega,Hf,<-xe,JaJ]
    rcases ZhS n ((d::v).drop E.2) (by rw [Hb,da];omega) h2.2 hg with ⟨v',c',e0,e1,e2,e3,e4⟩|⟨e1,e2,e3⟩
    ·exact .inl ⟨v',c',e0,e1,e2,e3,by omega⟩
    ·exact .inr ⟨e1,e2,by omega⟩
theorem JhS:∀(n:Nat) (w:List UInt8),w.length<=n->Al w->(strM 39 w).1=true->(Al (w.drop (strM 39 w).2.2)/\wt (strM 39 w).2.1+2+wt (w.drop (strM 39 w).2.2)<=wt w)\/(w.drop (strM 39 w).2.2=[]/\wt (strM 39 w).2.1<=wt w)
 | _,[],_,h,hg=>by rw [strM];exact .inr ⟨rfl,by simp [wt]⟩
 | n+1,c::w,hl,h,hg=>by
  rw [da] at hl;rw [strM.eq_def 39 (c::w)] at hg |-;dsimp only at hg |-;by_cases q:(c.toNat:Int)=39
  ·rw [ya q] at hg |-;refine .inl ⟨(ZL (.inl (by omega))).1 h,?_⟩
   show 0+2+wt w<=wB c+wt w;unfold wB;rw [ga (by omega),ya q];omega
  rw [ga q] at hg |-;by_cases q2:(c.toNat:Int)=10
  ·rw [ya q2] at hg;cases hg
  rw [ga q2] at hg |-;have hw:wt (c::w)=wB c+wt w:=rfl;by_cases q3:(c.toNat:Int)≠92
  ·rw [ya q3] at hg |-;have h2:=(ZL (.inl q3)).1 h;dsimp only at hg |-;rw [show 1+(strM 39 w).2.2=(strM 39 w).2.2+1 by omega,Hf]
   have ww:wt (c::(strM 39 w).2.1)=wB c+wt (strM 39 w).2.1:=rfl;rcases JhS n w (by omega) h2 hg with ⟨e3,e4⟩|⟨e2,e3⟩
   ·exact .inl ⟨e3,by omega⟩
   ·exact .inr ⟨e2,by omega⟩
  rw [ga q3] at hg |-;have q3:(c.toNat:Int)=92:=by omega
  cases w with
  | nil=>exact .inr ⟨rfl,by simp [wt]⟩
  | cons d v=>
   rw [da] at hl;dsimp only at hg |-;by_cases q4:(d.toNat:Int)=10
   ·have q5:hb (d::v)=10:=q4;rw [ya q4] at hg |-;have h2:=(ZL (.inl (by omega))).1 ((ZL (.inr q5)).1 h)
    have hw2:wt (d::v)=wB d+wt v:=rfl;dsimp only at hg |-;rw [show 2+(strM 39 v).2.2=(strM 39 v).2.2+1+1 by omega,Hf,Hf]
    rcases JhS n v (by omega) h2 hg with ⟨e3,e4⟩|⟨e2,e3⟩
    ·exact .inl ⟨e3,by omega⟩
    ·exact .inr ⟨e2,by omega⟩
   ·rw [ga q4] at hg |-;have q5:hb (d::v)≠10:=q4;have h2:=(Zeu q3 q5).1 h;dsimp only at hg |-;generalize hE:ZT (d::v)=E at hg h2 |-;rw [show 1+E.2+(strM 39 ((d::v).drop E.2)).2.2=(E.2+(strM 39 ((d::v).drop E.2)).2.2)+1 by omega,Hf,<-xe,JaJ]
    rcases JhS n ((d::v).drop E.2) (by rw [Hb,da];omega) h2.2 hg with ⟨e3,e4⟩|⟨e2,e3⟩
    ·exact .inl ⟨e3,by omega⟩
    ·exact .inr ⟨e2,by omega⟩
theorem zev:∀(n:Nat) (w:List UInt8),(∀c∈w.take n,(c.toNat:Int)≠42)->zW w=(zW (w.drop n)).map (· + n)
 | 0,w,_=>by rw [dh];simp
 | n+1,[],_=>rfl
 | n+1,c::w,h=>by
  rw [zW,ga (λx=>h c (by simp) (by rw [x.1];decide)),Hf,zev n w (λc hc=>h c (by simp [hc]))]
  cases zW (w.drop n) with
  | none=>rfl
  | some k=>simp;omega
theorem jev:∀(k:Nat) (w:List UInt8) (a:Int),∀c∈w.take (Zw k w a).2,(jcs (c.toNat:Int)).2=true
 | 0,w,a,c,h=>by simp [Zw] at h
 | k+1,[],a,c,h=>by simp at h
 | k+1,d::w,a,c,h=>by
  rw [Zw] at h;by_cases q:(jcs (hb (d::w))).2=true
  ·rw [ya q] at h;dsimp only [Hc] at h;rw [Hn,gc] at h;rcases h with rfl|h
   ·exact q
   ·exact jev k w _ c h
  ·rw [ga q] at h;simp at h
theorem zhT (d:UInt8) (v:List UInt8) (h:(jcs (d.toNat:Int)).2=true):∀c∈(d::v).take (ZT (d::v)).2,(c.toNat:Int)≠42:=by
 intro c hc z;have e:(ZT (d::v)).2=(Zw 6 (d::v) 0).2+(if mSp (hb ((d::v).drop (Zw 6 (d::v) 0).2)) then 1 else 0):=by
  show (jfm d v).2=_;unfold jfm;rw [ya h]
 rw [e,List.take_add,Rf] at hc;rcases hc with hc|hc
 ·have:=jev 6 _ 0 c hc;rw [z] at this;exact absurd this (by decide)
 ·split at hc
  ·rename_i q;cases hr:(d::v).drop (Zw 6 (d::v) 0).2 with
   | nil=>rw [hr] at hc;simp at hc
   | cons x y=>
    rw [hr] at hc q;simp at hc;subst hc;have q:mSp (c.toNat:Int)=true:=q;rw [z] at q;exact absurd q (by decide)
  ·simp at hc
theorem jiD (d:UInt8) (v:List UInt8) (h:¬(jcs (d.toNat:Int)).2=true):ZT (d::v)=([d],1):=by
 show jfm d v=_;unfold jfm;rw [ga h]
theorem jcm:∀(n:Nat) (w:List UInt8),w.length<=n->Al w->∀k,zW w=some k->Al (w.drop (k+2))/\wt (w.drop (k+2))<=wt w/\(qr (w.drop (k+2))=qr w\/wt (w.drop (k+2))+1<=wt w)
 | _,[],_,_,k,h=>by cases h
 | n+1,c::w,hl,hA,k,h=>by
  rw [da] at hl;have hw:wt (c::w)=wB c+wt w:=rfl;rw [zW] at h;by_cases q:c=42/\hb w=47
  ·rw [ya q] at h;injection h with h
   subst h;obtain ⟨rfl,q2⟩:=q;cases w with
   | nil=>cases q2
   | cons d v=>
    have q2:(d.toNat:Int)=47:=q2;have hw2:wt (d::v)=wB d+wt v:=rfl;rw [show 0+2=1+1 by rfl,Hf,Hf,dh,Z8 (by decide) (.inl (by decide)),Z8 (by omega) (.inl (by omega))]
    exact ⟨(ZL (.inl (by omega))).1 ((ZL (.inl (by decide))).1 hA),by omega,.inl rfl⟩
  rw [ga q] at h;cases hj:zW w with
  | none=>rw [hj] at h;cases h
  | some j=>
  rw [hj] at h;injection h with h
  subst h;by_cases q2:(c.toNat:Int)≠92\/hb w=10
  ·have ih:=jcm n w (by omega) ((ZL q2).1 hA) j hj
   show Al (w.drop (j+2))/\wt (w.drop (j+2))<=_/\(qr (w.drop (j+2))=_\/_);refine ⟨ih.1,by omega,?_⟩
   by_cases q3:(c.toNat:Int)=34
   ·refine .inr ?_;have:wB c=1:=by unfold wB;rw [ya q3]
    show wt (w.drop (j+2))+1<=_;omega
   ·rw [Z8 q3 q2];rcases ih.2.2 with e|e
    ·exact .inl e
    ·refine .inr ?_;show wt (w.drop (j+2))+1<=_;omega
  have qc:(c.toNat:Int)=92:=by
   by_cases z:(c.toNat:Int)=92
   ·exact z
   ·exact absurd (.inl z) q2
  have qh:hb w≠10:=λz=>q2 (.inr z)
  have hE:=(Zeu qc qh).1 hA;rw [Jeu qc qh];show Al (w.drop (j+2))/\wt (w.drop (j+2))<=_/\(qr (w.drop (j+2))=_\/wt (w.drop (j+2))+1<=_);cases w with
  | nil=>cases hj
  | cons d v=>
  rw [da] at hl;by_cases hx:(jcs (d.toNat:Int)).2=true
  ·rw [zev _ _ (zhT d v hx)] at hj;cases hi:zW ((d::v).drop (ZT (d::v)).2) with
   | none=>rw [hi] at hj;cases hj
   | some i=>
   rw [hi] at hj;injection hj with hj
   have hj:i+(ZT (d::v)).2=j:=hj;subst hj;have ih:=jcm n _ (by rw [Hb,da];omega) hE.2 i hi
   rw [xe] at ih;have e:(ZT (d::v)).2+(i+2)=i+(ZT (d::v)).2+2:=by omega
   rw [e] at ih;refine ⟨ih.1,by omega,?_⟩
   rcases ih.2.2 with e|e
   ·exact .inl e
   ·exact .inr (by omega)
  ·rw [jiD d v hx] at hE |-;have hE2:Al v:=hE.2;have hE1:wt [d]+wt v<=wt (d::v):=hE.1;show Al (v.drop (j+1))/\wt (v.drop (j+1))<=_/\(qr (v.drop (j+1))=qr v\/wt (v.drop (j+1))+1<=_);rw [zW] at hj;by_cases q:d=42/\hb v=47
   ·rw [ya q] at hj;injection hj with hj
    subst hj;cases v with
    | nil=>exact absurd q.2 (by decide)
    | cons x y=>
     have q3:(x.toNat:Int)=47:=q.2;show Al y/\wt y<=_/\(qr y=qr (x::y)\/_);rw [Z8 (by omega) (.inl (by omega))]
     have:wt (x::y)=wB x+wt y:=rfl;exact ⟨(ZL (.inl (by omega))).1 hE2,by omega,.inl rfl⟩
   ·rw [ga q] at hj;cases hi:zW v with
    | none=>rw [hi] at hj;cases hj
    | some i=>
    rw [hi] at hj;injection hj with hj
    subst hj;have ih:=jcm n v (by omega) hE2 i hi
    show Al (v.drop (i+2))/\wt (v.drop (i+2))<=_/\(qr (v.drop (i+2))=qr v\/wt (v.drop (i+2))+1<=_);refine ⟨ih.1,by omega,?_⟩
    rcases ih.2.2 with e|e
    ·exact .inl e
    ·exact .inr (by omega)
theorem ZiD {w:List UInt8} (h:[47,42].isPrefixOf w=true):∃r,w=47::42::r:=by
 match w,h with
 | [],h=>cases h
 | [a],h=>simp [List.isPrefixOf] at h
 | a::b::r,h=>
  simp [List.isPrefixOf] at h;exact ⟨r,by rw [<-h.1,<-h.2]⟩
theorem Jgi {r:List UInt8} (hc:zW r=none):comM (47::42::r)=(47::42::r).length:=by
 rw [comM.eq_def,ya (show [47,42].isPrefixOf (47::42::r)=true from by simp [List.isPrefixOf])]
 have:zW ((47::42::r).drop 2)=none:=hc;rw [this]
theorem zgj {r:List UInt8} {k:Nat} (hc:zW r=some k):(47::42::r).drop (comM (47::42::r))=(r.drop (k+2)).drop (comM (r.drop (k+2))):=by
 have e:∀m,(47::42::r).drop (2+(k+2)+m)=(r.drop (k+2)).drop m:=by
  intro m;rw [xe,show 2+(k+2)+m=(k+2+m)+1+1 by omega,Hf,Hf]
 have e0:(47::42::r).drop (2+(k+2))=r.drop (k+2):=by have:=e 0;rwa [dh,Re] at this
 have h:comM (47::42::r)=2+(k+2)+comM (r.drop (k+2)):=by
  rw [comM.eq_def,ya (show [47,42].isPrefixOf (47::42::r)=true from by simp [List.isPrefixOf])]
  have:zW ((47::42::r).drop 2)=some k:=hc;rw [this];dsimp only;rw [ga (by simp),e0]
 rw [h,e]
theorem zi4:∀(n:Nat) (u:List UInt8),u.length<=n->Al u->u.drop (comM u)=[]\/(Al (u.drop (comM u))/\wt (u.drop (comM u))<=wt u/\(qr (u.drop (comM u))=qr u\/wt (u.drop (comM u))+1<=wt u)):=by
 intro n
 induction n with
 | zero=>
  intro u hl hA;cases u with
  | nil=>exact .inl (by simp)
  | cons c w=>rw [da] at hl;omega
 | succ n ih=>
 intro u hl hA;by_cases q:[47,42].isPrefixOf u=true
 ·obtain ⟨r,rfl⟩:=ZiD q;have hr:Al r:=(ZL (.inl (by decide))).1 ((ZL (.inl (by decide))).1 hA)
  have hw:wt (47::42::r)=wt r:=by show wB 47+(wB 42+wt r)=_;rw [jhS (by decide) (by decide) (by decide),jhS (by decide) (by decide) (by decide)];omega
  have hq:qr (47::42::r)=qr r:=by rw [Z8 (by decide) (.inl (by decide)),Z8 (by decide) (.inl (by decide))]
  rw [hw,hq];cases hc:zW r with
  | none=>rw [Jgi hc];exact .inl (by simp)
  | some k=>
   rw [zgj hc];have h1:=jcm r.length r (Ra _) hr k hc;rw [da,da] at hl;rcases ih (r.drop (k+2)) (by rw [Hb];omega) h1.1 with z|⟨a,b,c⟩
   ·exact .inl z
   ·refine .inr ⟨a,by omega,?_⟩
    rcases c with c|c
    ·rcases h1.2.2 with d|d
     ·exact .inl (c.trans d)
     ·exact .inr (by omega)
    ·exact .inr (by omega)
 ·rw [comM.eq_def,ga q,dh];exact .inr ⟨hA,Ra _,.inl rfl⟩
def pl (c:UInt8):Prop:=(c.toNat:Int)≠34/\(c.toNat:Int)≠39/\(c.toNat:Int)≠40/\(c.toNat:Int)≠92
def PL (w:List UInt8) (n:Nat):Prop:=∀c∈w.take n,pl c
theorem ZcG:∀(n:Nat) (w:List UInt8),PL w n->Al w->Al (w.drop n)/\wt (w.drop n)=wt w/\qr (w.drop n)=qr w
 | 0,w,_,h=>⟨h,rfl,rfl⟩
 | n+1,[],_,h=>⟨h,rfl,rfl⟩
 | n+1,c::w,hp,h=>by
  have hc:=hp c (by simp)
  obtain ⟨c1,c2,c3,c4⟩:=hc;have ih:=ZcG n w (λc h=>hp c (by simp [h])) ((ZL (.inl c4)).1 h)
  rw [Hf,Z8 c1 (.inl c4)];refine ⟨ih.1,?_,ih.2.2⟩;show _=wB c+wt w;rw [jhS c1 c2 c3,ih.2.1];omega
theorem Jh7 (w:List UInt8):PL w 0:=λc h=>by simp at h
theorem Zdm {w:List UInt8} {a b:Nat} (h1:PL w a) (h2:PL (w.drop a) b):PL w (a+b):=by
 intro c h;rw [List.take_add,Rf] at h;rcases h with h|h
 ·exact h1 c h
 ·exact h2 c h
theorem jcV {w:List UInt8} (h:hb w≠34/\hb w≠39/\hb w≠40/\hb w≠92):PL w 1:=by
 cases w with
 | nil=>intro c h;simp at h
 | cons d w=>intro c hc;simp at hc;subst hc;exact h
theorem jhl (c:UInt8) (w:List UInt8):jE (c::w)=if mD (c.toNat:Int)=true then c::jE w else []:=by
 unfold jE;rw [gj]
theorem ji4 {c:Int}:mD c=true↔48<=c/\c<=57:=by unfold mD;simp
theorem Jd9:∀(w:List UInt8),PL w (jE w).length
 | []=>Jh7 _
 | d::w=>by
  rw [jhl];split
  ·rename_i h;have h:=ji4.1 h;intro c hc;rw [da,Hn,gc] at hc;rcases hc with rfl|hc
   ·unfold pl;omega
   ·exact Jd9 w c hc
  ·exact Jh7 _
theorem zjs {w:List UInt8}:PL w (ZaQ w):=by
 unfold ZaQ;split
 ·rename_i h;unfold mSg at h;simp at h;exact jcV (by omega)
 ·exact Jh7 _
theorem Zhl (w:List UInt8):PL w (zae w):=by
 have hF:PL w (Zl w):=by
  have hW:PL w (zA w):=Zdm zjs (Jd9 _);unfold Zl;refine Zdm hW ?_;split
  ·rename_i h;refine Zdm (jcV ?_) ?_
   ·unfold JQ at h;simp at h;omega
   ·unfold zbD;rw [ya h,Yk];exact Jd9 _
  ·exact Jh7 _
 unfold zae;refine Zdm hF ?_;generalize w.drop (Zl w)=v;unfold Za0;split
 ·rename_i h;simp only [yb] at h;dsimp only;have h1:=h.1;unfold mE at h1;simp at h1;by_cases q:mSg (hb v.tail)=true
  ·rw [ya q,ya q];have h2:=q;unfold mSg at h2;simp at h2;refine Zdm (a:=1+1) (Zdm (jcV (by omega)) ?_) ?_
   ·rw [Yk];exact jcV (by omega)
   ·rw [<-xe,Yk,Yk];exact Jd9 _
  ·rw [ga q,ga q];refine Zdm (jcV (by omega)) ?_
   rw [Yk];exact Jd9 _
 ·exact Jh7 _
theorem jhT (c:UInt8) (w:List UInt8):nSp (c::w)=if mSp (c.toNat:Int) then nSp w+1 else 0:=rfl
theorem ZhT:∀(w:List UInt8),PL w (nSp w)
 | []=>Jh7 _
 | d::w=>by
  rw [jhT];split
  ·rename_i h;unfold mSp at h;simp at h;intro c hc;rw [Hn,gc] at hc;rcases hc with rfl|hc
   ·unfold pl;omega
   ·exact ZhT w c hc
  ·exact Jh7 _
theorem jgj {c:UInt8} {w:List UInt8}:Jbt (c::w)=true↔(c.toNat:Int)=92/\hb w≠10:=by
 show (decide ((c.toNat:Int)=92)&&decide (hb w≠10))=true↔_;rw [yb,xc,xc]
theorem jfY:∀(n:Nat) (w:List UInt8),w.length<=n->Al w->Al (w.drop (Za2 w).2)/\wt (Za2 w).1+wt (w.drop (Za2 w).2)<=wt w/\qr (w.drop (Za2 w).2)=qr w
 | _,[],_,h=>by rw [Za2];exact ⟨h,by simp [wt],rfl⟩
 | n+1,c::w,hl,h=>by
  rw [da] at hl;rw [Za2];have hw:wt (c::w)=wB c+wt w:=rfl;by_cases q:(c.toNat:Int)=41
  ·rw [ya q];exact ⟨h,by simp [wt],rfl⟩
  rw [ga q];by_cases q2:mSp (c.toNat:Int)=true
  ·rw [ya q2];have:=ZcG _ _ (ZhT (c::w)) h;exact ⟨this.1,by have:=this.2.1;show 0+_<=_;dsimp only;omega,this.2.2⟩
  rw [ga q2];by_cases q3:Jbt (c::w)=true
  ·rw [ya q3];have q4:=jgj.1 q3;have hE:=(Zeu q4.1 q4.2).1 h;have ih:=jfY n (w.drop (ZT w).2) (by rw [Hb];omega) hE.2
   dsimp only;rw [show 1+(ZT w).2+(Za2 (w.drop (ZT w).2)).2=((ZT w).2+(Za2 (w.drop (ZT w).2)).2)+1 by omega,Hf,<-xe,Jeu q4.1 q4.2,JaJ]
   exact ⟨ih.1,by omega,ih.2.2⟩
  rw [ga q3];by_cases q5:jdk (c.toNat:Int)=true
  ·rw [ya q5];exact ⟨h,by simp [wt],rfl⟩
  rw [ga q5];have q6:(c.toNat:Int)≠34/\(c.toNat:Int)≠92:=by
   unfold jdk at q5;simp at q5;omega
  have ih:=jfY n w (by omega) ((ZL (.inl q6.2)).1 h)
  dsimp only;rw [show 1+(Za2 w).2=(Za2 w).2+1 by omega,Hf,Z8 q6.1 (.inl q6.2)]
  refine ⟨ih.1,?_,ih.2.2⟩;show wB c+wt (Za2 w).1+_<=_;omega
def WT (t:Tok):Nat:=wt t.text+wt t.unit+(if t.kind=5\/t.kind=2\/t.kind=7\/t.kind=21 then 2 else 0)
def Qu (u:List UInt8) (t:Tok) (n:Nat):Prop:=t.kind≠5/\Al (u.drop n)/\WT t+wt (u.drop n)<=wt u/\qr (u.drop n)=qr u
theorem Jhl {u:List UInt8} {n:Nat} {k:Int} {x:Int} {f:Bool} (h:PL u n) (hA:Al u) (hk:k≠5/\k≠2/\k≠7/\k≠21):Qu u (tk k [] x [] f) n:=by
 have:=ZcG n u h hA;refine ⟨hk.1,this.1,?_,this.2.2⟩;show 0+0+(if k=5\/k=2\/k=7\/k=21 then 2 else 0)+_<=_
 rw [ga (by omega)];omega
theorem zgC {u:List UInt8} (hA:Al u):Qu u (Zn u).1 (Zn u).2:=by
 have h1:=ZcG _ u (Zhl u) hA;unfold Zn;have hn:(zbn u).2.2=zae u:=rfl;dsimp only;rw [hn];split
 ·rename_i h;have h2:=zcV _ h1.1;unfold Qu;dsimp only;rw [<-xe];refine ⟨by show (12:Int)≠5;decide,h2.1,?_,by rw [h2.2.2,h1.2.2]⟩
  show 0+wt (jj (u.drop (zae u))).1+0+_<=_;omega
 ·split
  ·rename_i h;exact Jhl (Zdm (Zhl u) (jcV (by omega))) hA (by decide)
  ·exact Jhl (Zhl u) hA (by decide)
theorem zhm {u:List UInt8} {k:Int} {f:Bool} (h:PL u 1) (hA:Al u) (hk:k≠5/\k≠2/\k≠7/\k≠21):Qu u (tk k (jj u.tail).1 0 [] f) (1+(jj u.tail).2):=by
 have h1:=ZcG 1 u h hA;have h2:=zcV (u.drop 1) h1.1;rw [Yk] at h1 h2;unfold Qu;rw [<-xe,Yk];refine ⟨hk.1,h2.1,?_,by rw [h2.2.2,h1.2.2]⟩
 show wt (jj u.tail).1+0+(if k=5\/k=2\/k=7\/k=21 then 2 else 0)+_<=_
 rw [ga (by omega)];omega
theorem jhm {v:List UInt8} (h:hb v=40) (hA:Al v):Al v.tail/\wt v.tail+2=wt v/\qr v.tail=qr v:=by
 cases v with
 | nil=>cases h
 | cons c v=>
  have h:(c.toNat:Int)=40:=h;refine ⟨(ZL (.inl (by omega))).1 hA,?_,(Z8 (by omega) (.inl (by omega))).symm⟩
  show wt v+2=wB c+wt v;unfold wB;rw [ga (by omega),ga (by omega),ya h];omega
theorem JhT {u:List UInt8} (hA:Al u) (h8:(zaf u).1.kind≠8):Qu u (zaf u).1 (zaf u).2:=by
 have h1:=zcV u hA;unfold zaf at h8 |-;dsimp only at h8 |-;by_cases q:hb (u.drop (jj u).2)≠40
 ·rw [ya q];refine ⟨by show (1:Int)≠5;decide,h1.1,?_,h1.2.2⟩
  show wt (jj u).1+0+0+wt (u.drop (jj u).2)<=_;omega
 rw [ga q] at h8 |-;have h2:=jhm (by omega) h1.1
 have e:∀m,u.drop ((jj u).2+1+m)=(u.drop (jj u).2).tail.drop m:=by
  intro m;rw [<-xe,<-xe,Yk]
 have e0:=e 0;rw [Re,dh] at e0;by_cases q2:(z6 (jj u).1 [117,114,108]&&!mQ (hb ((u.drop (jj u).2).tail.drop (nSp (u.drop (jj u).2).tail))))=true
 ·rw [ya q2] at h8 |-;dsimp only at h8 |-;unfold Qu;rw [e];generalize (u.drop (jj u).2).tail=v at *;have h3:=ZcG _ v (ZhT v) h2.1;have h4:=jfY _ _ (Ra _) h3.1;unfold JU at h8 |-;dsimp only at h8 |-;rw [<-xe] at h8 |-;have fin:∀n,PL ((v.drop (nSp v)).drop (Za2 (v.drop (nSp v))).2) n->(tk 7 (Za2 (v.drop (nSp v))).1).kind≠5/\Al (v.drop (nSp v+(Za2 (v.drop (nSp v))).2+n))/\WT (tk 7 (Za2 (v.drop (nSp v))).1)+wt (v.drop (nSp v+(Za2 (v.drop (nSp v))).2+n))<=wt u/\qr (v.drop (nSp v+(Za2 (v.drop (nSp v))).2+n))=qr u:=by
   intro n hn;have h5:=ZcG _ _ hn h4.1;rw [<-xe,<-xe];refine ⟨by show (7:Int)≠5;decide,h5.1,?_,by rw [h5.2.2,h4.2.2,h3.2.2,h2.2.2,h1.2.2]⟩
   show wt (Za2 (v.drop (nSp v))).1+0+2+_<=_;omega
  by_cases q3:(v.drop (nSp v)).drop (Za2 (v.drop (nSp v))).2=[]
  ·rw [ya q3];exact fin 0 (Jh7 _)
  rw [ga q3] at h8 |-;by_cases q4:hb ((v.drop (nSp v)).drop (Za2 (v.drop (nSp v))).2)=41
  ·rw [ya q4];exact fin 1 (jcV (by omega))
  ·rw [ga q4] at h8;exact absurd rfl h8
 ·rw [ga q2];unfold Qu;rw [e0];refine ⟨by show (2:Int)≠5;decide,h2.1,?_,by rw [h2.2.2,h1.2.2]⟩
  show wt (jj u).1+0+2+_<=_;omega
theorem jgC:∀c:Nat,c<256->zbu (c:Int)≠0->((c:Int)≠34/\(c:Int)≠39/\(c:Int)≠92)/\zbu (c:Int)≠5/\zbu (c:Int)≠2/\zbu (c:Int)≠7/\(zbu (c:Int)=21↔(c:Int)=40):=by decide +kernel
theorem JiD {c:UInt8} {w:List UInt8} (hA:Al (c::w)) (h1:(c.toNat:Int)≠34) (h2:(c.toNat:Int)≠39) (h8:(Jfm (c::w)).1.kind≠8):Qu (c::w) (Jfm (c::w)).1 (Jfm (c::w)).2:=by
 have hw:wt (c::w)=wB c+wt w:=rfl;unfold Jfm at h8 |-;by_cases q:Js (c::w)=true
 ·rw [ya q] at h8 |-;exact JhT hA h8
 rw [ga q];by_cases q2:zbu (hb (c::w))≠0
 ·rw [ya q2];have f:=jgC c.toNat (by have:=c.toNat_lt;omega) q2
  have eh:hb (c::w)=(c.toNat:Int):=rfl;rw [eh];generalize zbu (c.toNat:Int)=m at f;refine ⟨f.2.1,(ZL (.inl f.1.2.2)).1 hA,?_,(Z8 h1 (.inl f.1.2.2)).symm⟩;show 0+0+(if m=5\/m=2\/m=7\/m=21 then 2 else 0)+wt w<=_
  by_cases q3:(c.toNat:Int)=40
  ·have:wB c=2:=by unfold wB;rw [ga h1,ga h2,ya q3]
   split <;> omega
  ·rw [ga (λx=>by have:=f.2.2.2.2.1;rcases x with x|x|x|x;exact f.2.1 x;exact f.2.2.1 x;exact f.2.2.2.1 x;exact q3 (this x))]
   omega
 ·rw [ga q2];have q3:(c.toNat:Int)≠92\/hb w=10:=by
   by_cases z:(c.toNat:Int)=92
   ·refine .inr (Classical.byContradiction λz2=>q ?_)
    unfold Js;rw [ya (show hb (c::w)≠45 from by show (c.toNat:Int)≠45;omega),jgj.2 ⟨z,z2⟩,Qk]
   ·exact .inl z
  refine ⟨by show (9:Int)≠5;decide,(ZL q3).1 hA,?_,(Z8 h1 q3).symm⟩
  show wB c+0+0+0+wt w<=_;omega
theorem ziE {c:UInt8} {w:List UInt8} (hA:Al (c::w)) (h1:(c.toNat:Int)≠34) (h2:(c.toNat:Int)≠39) (h8:(Zek (c::w)).1.kind≠8):Qu (c::w) (Zek (c::w)).1 (Zek (c::w)).2:=by
 unfold Zek at h8 |-;by_cases q:Za7 (c::w)=true
 ·rw [ya q];exact zgC hA
 rw [ga q] at h8 |-;by_cases q2:[45,45,62].isPrefixOf (c::w)=true
 ·rw [ya q2];refine Jhl ?_ hA (by decide)
  match w,q2 with
  | [],q2=>simp [List.isPrefixOf] at q2
  | [a],q2=>simp [List.isPrefixOf] at q2
  | a::b::r,q2=>
   simp [List.isPrefixOf] at q2;obtain ⟨rfl,rfl,rfl⟩:=q2;intro x hx;simp at hx;rcases hx with rfl|rfl <;> (unfold pl;decide)
 rw [ga q2] at h8 |-;by_cases q3:[60,33,45,45].isPrefixOf (c::w)=true
 ·rw [ya q3];refine Jhl ?_ hA (by decide)
  match w,q3 with
  | [],q3=>simp [List.isPrefixOf] at q3
  | [a],q3=>simp [List.isPrefixOf] at q3
  | [a,b],q3=>simp [List.isPrefixOf] at q3
  | a::b::d::r,q3=>
   simp [List.isPrefixOf] at q3;obtain ⟨rfl,rfl,rfl,rfl⟩:=q3;intro x hx;simp at hx;rcases hx with rfl|rfl|rfl <;> (unfold pl;decide)
 rw [ga q3] at h8 |-;unfold JfR at h8 |-;by_cases q4:hb (c::w)=64/\Js (c::w).tail=true
 ·rw [ya q4];exact zhm (jcV (by omega)) hA (by decide)
 rw [ga q4] at h8 |-;exact JiD hA h1 h2 h8
theorem Zi4 {c:UInt8} {w:List UInt8} (q:mQ (c.toNat:Int)=true):zy (c::w)=(if (strM (c.toNat:Int) w).1=true then tk 5 (strM (c.toNat:Int) w).2.1 else tk 6,1+(strM (c.toNat:Int) w).2.2):=by
 have q1:¬mSp (hb (c::w))=true:=by
  intro z;have z:mSp (c.toNat:Int)=true:=z;unfold mSp at z;unfold mQ at q;simp only [xg,xc] at q z;omega
 unfold zy;rw [ga q1,ya (show mQ (hb (c::w))=true from q)]
 rfl
theorem Zhm {u:List UInt8} (hne:u≠[]) (hA:Al u) (h6:(zy u).1.kind≠6) (h8:(zy u).1.kind≠8) :
  Qu u (zy u).1 (zy u).2\/(Al (u.drop (zy u).2)/\WT (zy u).1+wt (u.drop (zy u).2)+1<=wt u)\/(u.drop (zy u).2=[]/\WT (zy u).1<=wt u)\/
  (∃c v,(c.toNat:Int)=34/\u=c::v/\(zy u).1=tk 5 (strM 34 v).2.1/\((∃c' v',(c'.toNat:Int)=34/\qr v=c'::v'/\u.drop (zy u).2=v'/\Al v'/\WT (zy u).1+wt v'<=wt u)\/(qr v=[]/\u.drop (zy u).2=[]/\WT (zy u).1<=wt u+1))):=by
 obtain ⟨c,w,rfl⟩:=yf hne;have hw:wt (c::w)=wB c+wt w:=rfl;have h5:∀t,WT (tk 5 t)=wt t+2:=λt=>rfl
 by_cases q2:mQ (c.toNat:Int)=true
 ·rw [Zi4 q2] at h6 h8 |-;dsimp only at h6 h8 |-;have q3:(c.toNat:Int)=34\/(c.toNat:Int)=39:=by
   unfold mQ at q2;rw [xg,xc,xc] at q2;exact q2
  have hAw:Al w:=(ZL (.inl (by omega))).1 hA
  have e:∀m,(c::w).drop (1+m)=w.drop m:=λm=>by rw [show 1+m=m+1 by omega,Hf]
  rw [e];rcases q3 with q3|q3
  ·rw [q3] at h6 h8 |-;have hB:wB c=1:=by unfold wB;rw [ya q3]
   have h34:=ZhS _ w (Ra _) hAw;generalize hS:strM 34 w=S at h6 h8 h34 |-;obtain ⟨b,t,n⟩:=S;cases b with
   | false=>exact absurd rfl h6
   | true=>
    refine .inr (.inr (.inr ⟨c,w,q3,rfl,by rw [hS];rfl,?_⟩))
    show (∃c' v',(c'.toNat:Int)=34/\qr w=c'::v'/\w.drop n=v'/\Al v'/\wt t+2+wt v'<=wt (c::w))\/(qr w=[]/\w.drop n=[]/\wt t+2<=wt (c::w)+1);rcases h34 rfl with ⟨v,c',e0,e1,e2,e3,e4⟩|⟨e1,e2,e3⟩
    ·exact .inl ⟨c',v,e0,e1,e2,e3,by dsimp only at e4;omega⟩
    ·exact .inr ⟨e1,e2,by dsimp only at e3;omega⟩
  ·rw [q3] at h6 h8 |-;have hB:wB c=2:=by unfold wB;rw [ga (by omega),ya q3]
   have h39:=JhS _ w (Ra _) hAw;generalize hS:strM 39 w=S at h6 h8 h39 |-;obtain ⟨b,t,n⟩:=S;cases b with
   | false=>exact absurd rfl h6
   | true=>
    rcases h39 rfl with ⟨e3,e4⟩|⟨e2,e3⟩
    ·refine .inr (.inl ⟨e3,?_⟩);show wt t+2+wt (w.drop n)+1<=wt (c::w);dsimp only at e4;omega
    ·refine .inr (.inr (.inl ⟨e2,?_⟩));show wt t+2<=wt (c::w);dsimp only at e3;omega
 have q3:(c.toNat:Int)≠34/\(c.toNat:Int)≠39:=by
  unfold mQ at q2;rw [xg,xc,xc] at q2;omega
 unfold zy at h6 h8 |-;by_cases q:mSp (hb (c::w))=true
 ·rw [ya q];exact .inl (Jhl (ZhT _) hA (by decide))
 rw [ga q,ga (show ¬mQ (hb (c::w))=true from q2)] at h6 h8 |-
 by_cases q4:hb (c::w)=35/\Jx (c::w).tail=true
 ·rw [ya q4];exact .inl (zhm (jcV (by omega)) hA (by decide))
 rw [ga q4] at h6 h8 |-;exact .inl (ziE hA q3.1 q3.2 h8)
def wtl:List Tok->Nat
 | []=>0
 | t::L=>WT t+wtl L
theorem ZfY:∀a b:List Tok,wtl (a++b)=wtl a+wtl b
 | [],b=>by rw [gf];show _=0+_;omega
 | t::a,b=>by show WT t+wtl (a++b)=WT t+wtl a+wtl b;rw [ZfY a b];omega
def JfY (L:List Tok):Prop:=∀t∈L,t.kind≠6/\t.kind≠8
theorem zeX {u:List UInt8} {t:Tok} {L:List Tok} (hA:Al u) (h:RD u (t::L)) (hf:JfY (t::L)):∃u',RD u' L/\((t.kind≠5/\Al u'/\WT t+wt u'<=wt u/\qr u'=qr u)\/(Al u'/\WT t+wt u'+1<=wt u)\/(u'=[]/\WT t<=wt u)\/
  (∃c v,(c.toNat:Int)=34/\qr u=c::v/\t=tk 5 (strM 34 v).2.1/\((∃c',(c'.toNat:Int)=34/\qr v=c'::u'/\Al u'/\WT t+wt u'<=wt u)\/(qr v=[]/\u'=[]/\WT t<=wt u+1)))):=by
 obtain ⟨h1,h2,h3⟩:=zes h;refine ⟨_,h3,?_⟩;rcases zi4 _ u (Ra _) hA with z|⟨a,b,c⟩
 ·exact absurd z h1
 generalize u.drop (comM u)=v at *;have hk:=hf t (yc ..);rw [<-h2] at hk |-;rcases Zhm h1 a hk.1 hk.2 with ⟨e1,e2,e3,e4⟩|⟨e1,e2⟩|⟨e1,e2⟩|⟨c0,w,e1,rfl,e3,e4⟩
 ·rcases c with c|c
  ·exact .inl ⟨e1,e2,by omega,e4.trans c⟩
  ·exact .inr (.inl ⟨e2,by omega⟩)
 ·exact .inr (.inl ⟨e1,by omega⟩)
 ·exact .inr (.inr (.inl ⟨e1,by omega⟩))
 ·rcases c with c|c
  ·refine .inr (.inr (.inr ⟨c0,w,e1,by rw [<-c,jft e1],e3,?_⟩))
   rcases e4 with ⟨c',v',f1,f2,f3,f4,f5⟩|⟨f1,f2,f3⟩
   ·exact .inl ⟨c',f1,by rw [f3];exact f2,by rw [f3];exact f4,by rw [f3];omega⟩
   ·exact .inr ⟨f1,f2,by omega⟩
  ·rcases e4 with ⟨c',v',f1,f2,f3,f4,f5⟩|⟨f1,f2,f3⟩
   ·exact .inr (.inl ⟨by rw [f3];exact f4,by rw [f3];omega⟩)
   ·exact .inr (.inr (.inl ⟨f2,by omega⟩))
theorem Zft:∀(L:List Tok) {u:List UInt8},Al u->RD u L->JfY L->wtl L<=wt u+1
 | [],u,_,_,_=>dg _
 | t::L,u,hA,h,hf=>by
  obtain ⟨u',h1,h2⟩:=zeX hA h hf;have hf':JfY L:=λt h=>hf t (gd _ h)
  show WT t+wtl L<=_;rcases h2 with ⟨_,a,b,_⟩|⟨a,b⟩|⟨a,b⟩|⟨c,v,_,_,_,⟨c',_,_,a,b⟩|⟨_,a,b⟩⟩
  ·have:=Zft L a h1 hf';omega
  ·have:=Zft L a h1 hf';omega
  ·subst a;rw [jay h1];show _+0<=_;omega
  ·have:=Zft L a h1 hf';omega
  ·subst a;rw [jay h1];show _+0<=_;omega
def jiE:List UInt8->Prop
 | []=>True
 | c::X=>(c≠42\/hb X≠47)/\jiE X
theorem Zgj:∀{a b:List UInt8},jiE a->jiE b->hb b≠47->jiE (a++b)
 | [],b,_,h2,_=>h2
 | [c],b,h1,h2,h3=>⟨.inr h3,h2⟩
 | c::d::a,b,h1,h2,h3=>⟨h1.1,Zgj (a:=d::a) h1.2 h2 h3⟩
theorem jdA:∀(X V:List UInt8) (k:Nat),zW (X++V)=some k->(k+2<=X.length/\zW X=some k)\/(k+1=X.length/\hb V=47)\/(∃j,zW V=some j/\k=X.length+j)
 | [],V,k,h=>.inr (.inr ⟨k,h,by simp⟩)
 | c::X,V,k,h=>by
  rw [Qc,zW] at h;rw [zW];by_cases q:c=42/\hb (X++V)=47
  ·rw [ya q] at h;injection h with h
   subst h;cases X with
   | nil=>exact .inr (.inl ⟨rfl,q.2⟩)
   | cons d X=>
    rw [ya (show c=42/\hb (d::X)=47 from q)]
    exact .inl ⟨by simp,rfl⟩
  ·rw [ga q] at h;cases hj:zW (X++V) with
   | none=>rw [hj] at h;cases h
   | some j=>
   rw [hj] at h;injection h with h
   have h:j+1=k:=h;subst h;have q2:X≠[]->¬(c=42/\hb X=47):=by
    intro hx;obtain ⟨d,X',rfl⟩:=yf hx;exact q
   rcases jdA X V j hj with ⟨a,b⟩|⟨a,b⟩|⟨i,a,b⟩
   ·have hx:X≠[]:=λz=>by rw [z] at a;simp at a
    rw [ga (q2 hx),b];exact .inl ⟨by rw [da];omega,rfl⟩
   ·exact .inr (.inl ⟨by rw [da];omega,b⟩)
   ·exact .inr (.inr ⟨i,a,by rw [da];omega⟩)
theorem zea:∀{X:List UInt8},jiE X->zW X=none
 | [],_=>rfl
 | c::X,h=>by
  rw [zW,ga (λx=>by rcases h.1 with z|z;exact z x.1;exact z x.2),zea h.2]
  rfl
structure Tx (X:List UInt8) (m:Nat):Prop where
 al:∀V,Al V->Al (X++V)
 w:wt X=m
 q:∀V,qr (X++V)=qr V
 n:jiE X
theorem Tx.nil:Tx [] 0:=⟨λV h=>h,rfl,λV=>rfl,trivial⟩
theorem Tx.app {X Y:List UInt8} {m n:Nat} (h1:Tx X m) (h2:Tx Y n) (h:hb Y≠47):Tx (X++Y) (m+n):=
 ⟨λV hV=>by rw [Qb];exact h1.al _ (h2.al V hV),by rw [JaJ,h1.w,h2.w],λV=>by rw [Qb,h1.q,h2.q],Zgj h1.n h2.n h⟩
theorem Tx.raw {c:UInt8} (h1:(c.toNat:Int)≠34) (h2:(c.toNat:Int)≠92):Tx [c] (wB c):=
 ⟨λV hV=>(ZL (.inl h2)).2 hV,rfl,λV=>Z8 h1 (.inl h2),⟨.inr (by decide),trivial⟩⟩
theorem Tx.of {X:List UInt8} (h:∀c∈X,pl c/\c≠42):Tx X 0:=by
 induction X with
 | nil=>exact .nil
 | cons c X ih=>
  have hc:=h c (yc ..);have h2:=ih λd hd=>h d (gd _ hd)
  obtain ⟨⟨a,b,d,e⟩,f⟩:=hc;refine ⟨λV hV=>(ZL (.inl e)).2 (h2.al V hV),?_,λV=>(Z8 a (.inl e)).trans (h2.q V),⟨.inl f,h2.n⟩⟩
  show wB c+wt X=0;rw [jhS a b d,h2.w]
theorem Jhm:∀d,d<16->pl (JcV d)/\JcV d≠42:=by unfold pl;decide
theorem ZiE {u:Nat} (h:u<256):∀c∈jcH u,pl c/\c≠42:=by
 intro c hc;unfold jcH at hc;split at hc
 ·rw [yh.1 hc];exact Jhm _ (by assumption)
 ·simp only [gc,Qe,or_false] at hc;rcases hc with rfl|rfl
  ·exact Jhm _ (by omega)
  ·exact Jhm _ (by omega)
theorem Tx.esc (c:UInt8) (h0:c≠0) (h1:(c.toNat:Int)<128):Tx (jbh c) (wB c):=by
 have hr:=Zdy c h0 h1;obtain ⟨d,v,e,hd⟩:=zay c;have hwv:wt (d::v)=wB c/\jiE (jbh c):=by
  rw [show wt (d::v)=wt (jbh c) by rw [e];show _=wB 92+wt (d::v);rw [jhS (by decide) (by decide) (by decide)];omega]
  unfold jbh;split
  ·exact ⟨by show wB 92+(wB c+0)=_;rw [jhS (c:=92) (by decide) (by decide) (by decide)];omega,⟨.inl (by decide),.inr (by decide),trivial⟩⟩
  ·rename_i q;have hx:Tx (jcH c.toNat++[32]) 0:=Tx.of λx hx=>by
    rcases Rf.1 hx with z|z
    ·exact ZiE c.toNat_lt x z
    ·rw [yh.1 z];unfold pl;decide
   refine ⟨?_,⟨.inl (by decide),hx.n⟩⟩
   show wB 92+wt (jcH c.toNat++[32])=_;rw [jhS (c:=92) (by decide) (by decide) (by decide),hx.w,jhS]
   all_goals (intro z;refine q ⟨by omega,?_,?_⟩ <;> rw [z] <;> decide)
 rw [e] at hr hwv |-;have hr:∀r,ZT (d::(v++r))=([c],(d::v).length):=hr;have hdr:∀V,(d::(v++V)).drop ((d::v).length)=V:=λV=>by
  rw [<-Qc,ye]
 refine ⟨λV hV=>?_,?_,λV=>?_,hwv.2⟩
 ·rw [Qc,Qc,Zeu (by decide) (by exact hd),hr,hdr]
  refine ⟨?_,hV⟩;rw [<-Qc,JaJ,hwv.1];show wB c+0+_<=_;omega
 ·show wB 92+wt (d::v)=_;rw [jhS (c:=92) (by decide) (by decide) (by decide),hwv.1];omega
 ·rw [Qc,Qc,Jeu (by decide) (by exact hd),hr,hdr]
theorem ZdA (e i:Int) (w:List UInt8):hb (JaB e i w)≠47:=by
 cases w with
 | nil=>show (0:Int)≠47;decide
 | cons c w=>
  unfold JaB;split
  ·rename_i h;have h2:=h.2;show (c.toNat:Int)≠47;intro z;rw [z] at h2;exact absurd h2 (by decide)
  ·obtain ⟨d,v,e,_⟩:=zay c;rw [e];show ((92:UInt8).toNat:Int)≠47;decide
theorem Tx.but (e:Int):∀(w:List UInt8) (i:Int),(0:UInt8)∉w->okE e i w->Tx (JaB e i w) (wt w)
 | [],i,_,_=>.nil
 | c::w,i,h0,hE=>by
  have h0':(0:UInt8)∉w:=λz=>h0 (gd _ z)
  unfold JaB;refine Tx.app (m:=wB c) ?_ (Tx.but e w (i+1) h0' hE.2) (ZdA _ _ _);split
  ·rename_i h;have:=Ji3 h.2;exact .raw this.1 this.2.2.2
  ·rename_i h;refine .esc c (λz=>h0 (by rw [z];exact yc ..)) ?_
   by_cases q:i=e
   ·exact hE.1 q
   ·exact Jge (by
     cases hm:mN (c.toNat:Int) with
     | false=>rfl
     | true=>exact absurd ⟨q,hm⟩ h)
structure Ty (X:List UInt8) (m:Nat):Prop where
 al:∀V,Al V->Al (X++V)
 w:wt X=m
 q:∀V,qr (X++V)=qr V
theorem Tx.y {X:List UInt8} {m:Nat} (h:Tx X m):Ty X m:=⟨h.al,h.w,h.q⟩
theorem Ty.nil:Ty [] 0:=⟨λV h=>h,rfl,λV=>rfl⟩
theorem Ty.app {X Y:List UInt8} {m n:Nat} (h1:Ty X m) (h2:Ty Y n):Ty (X++Y) (m+n):=
 ⟨λV hV=>by rw [Qb];exact h1.al _ (h2.al V hV),by rw [JaJ,h1.w,h2.w],λV=>by rw [Qb,h1.q,h2.q]⟩
theorem Ty.to {X:List UInt8} {m n:Nat} (h:Ty X m) (e:m=n):Ty X n:=e▸h
theorem Tx.to {X:List UInt8} {m n:Nat} (h:Tx X m) (e:m=n):Tx X n:=e▸h
theorem Ty.str:∀s:List UInt8,(0:UInt8)∉s->Ty (jaJ s) (wt s)
 | [],_=>.nil
 | c::s,h0=>by
  have h0':(0:UInt8)∉s:=λz=>h0 (gd _ z)
  unfold jaJ;refine Ty.app (m:=wB c) ?_ (Ty.str s h0');split
  ·rename_i h;refine (Tx.esc c (λz=>h0 (by rw [z];exact yc ..)) ?_).y
   simp only [gc,Qe,or_false] at h;rcases h with rfl|rfl|rfl|rfl|rfl <;> decide
  ·rename_i h;simp only [gc,Qe,or_false,not_or] at h;refine (Tx.raw ?_ ?_).y
   ·exact λz=>h.2.2.2.1 (UInt8.toNat_inj.mp (by show c.toNat=34;omega))
   ·exact λz=>h.2.2.2.2 (UInt8.toNat_inj.mp (by show c.toNat=92;omega))
theorem Ty.url:∀s:List UInt8,(0:UInt8)∉s->Ty (Zbi s) (wt s)
 | [],_=>.nil
 | c::s,h0=>by
  have h0':(0:UInt8)∉s:=λz=>h0 (gd _ z)
  unfold Zbi;refine Ty.app (m:=wB c) ?_ (Ty.url s h0');split
  ·rename_i h;refine (Tx.esc c (λz=>h0 (by rw [z];exact yc ..)) ?_).y
   simp only [gc,Qe,or_false] at h;rcases h with h|rfl|rfl|rfl|rfl|rfl|rfl
   ·omega
   all_goals decide
  ·rename_i h;simp only [gc,Qe,or_false,not_or] at h;refine (Tx.raw ?_ ?_).y
   ·exact λz=>h.2.1 (UInt8.toNat_inj.mp (by show c.toNat=34;omega))
   ·exact λz=>h.2.2.2.2.2.1 (UInt8.toNat_inj.mp (by show c.toNat=92;omega))
def no5 (L:List Tok):Prop:=∀t∈L,t.kind≠5
inductive So:List Tok->List UInt8->Prop where
 | qu {T:List Tok} {X:List UInt8} (h:Tx X (wtl T)) (h5:no5 T) (hf:JfY T) (hX:hb X=47->X=[47]):So T X
 | st (pre:List Tok) (P s:List UInt8) (h:Tx P (wtl pre)) (h5:no5 pre) (hf:JfY pre) (hP:hb P≠47) (h0:(0:UInt8)∉s) (e:pre=[]->P=[]):So (pre++[tk 5 s]) (P++34::(jaJ s++[34]))
 | ur (s:List UInt8) (h0:(0:UInt8)∉s):So [tk 7 s] (117::114::108::40::(Zbi s++[41]))
theorem Ji4 {w:List UInt8} (h:I.AllDg w):Tx w 0:=Tx.of λc hc=>by
 have:=ZcT (h c hc);unfold pl;exact ⟨by omega,λz=>by rw [z] at this;exact absurd this.1 (by decide)⟩
theorem zi5 {w:List UInt8} (h:I.AllDg w):hb w≠47:=by
 cases w with
 | nil=>show (0:Int)≠47;decide
 | cons c w=>
  have:=ZcT (h c (yc ..));show (c.toNat:Int)≠47;omega
theorem Zev (n:Int) (f:Bool):Tx (jD n f) 0/\hb (jD n f)≠47:=by
 have hd:=(I.dec_ok (n.natAbs / 1000)).1;have hne:=(I.dec_ok (n.natAbs / 1000)).2.1;have hT:Tx (Lib.decDigits (n.natAbs / 1000)++(if f then [] else 46::fr3 3 (n.natAbs%1000))) 0:=by
  refine Tx.app (n:=0) (Ji4 hd) ?_ ?_
  ·cases f with
   | true=>exact .nil
   | false=>exact Tx.app (X:=[46]) (m:=0) (n:=0) (Tx.of (by unfold pl;decide)) (Ji4 (I.fr_ok (gh _ (by decide))).1) (zi5 (I.fr_ok (gh _ (by decide))).1)
  ·cases f with
   | true=>show (0:Int)≠47;decide
   | false=>show ((46:UInt8).toNat:Int)≠47;decide
 have hh:hb (Lib.decDigits (n.natAbs / 1000)++(if f then [] else 46::fr3 3 (n.natAbs%1000)))≠47:=by
  have:=zi5 hd;obtain ⟨c,w,e⟩:=yf hne;rw [e] at this |-;exact this
 unfold jD;split
 ·exact ⟨Tx.app (X:=[45]) (m:=0) (n:=0) (Tx.of (by unfold pl;decide)) hT hh,by show ((45:UInt8).toNat:Int)≠47;decide⟩
 ·exact ⟨hT,hh⟩
theorem jea {a:List UInt8} (h0:(0:UInt8)∉a):Tx (zX a) (wt a):=Tx.but _ a 0 h0 (jh5 a)
theorem JbS (a:List UInt8):hb (zX a)≠47:=ZdA _ _ _
theorem Zbo {a b:List UInt8} (h1:hb a≠47) (h2:hb b≠47):hb (a++b)≠47:=by
 cases a with
 | nil=>exact h2
 | cons c a=>exact h1
theorem Jgj {t:Tok} (h:t.kind≠5):no5 [t]:=λx hx=>by rw [yh.1 hx];exact h
theorem zgk {t:Tok} (h:t.kind≠6/\t.kind≠8):JfY [t]:=λx hx=>by rw [yh.1 hx];exact h
theorem zfZ {T:List Tok} {X:List UInt8} (hp:Pc T X):So T X:=by
 cases hp with
 | one t hc h1 h2=>
  cases hc with
  | ident a ha h0=>exact .qu ((jea h0).to (by show _=wt a+0+0+0;omega)) (Jgj (by show (1:Int)≠5;decide)) (zgk (by show (1:Int)≠6/\(1:Int)≠8;decide)) (λz=>absurd z (JbS a))
  | func a ha h0=>exact .qu ((Tx.app (jea h0) (Tx.raw (c:=40) (by decide) (by decide)) (by decide)).to (by show wt a+2=wt a+0+2+0;omega)) (Jgj (by show (2:Int)≠5;decide)) (zgk (by show (2:Int)≠6/\(2:Int)≠8;decide)) (λz=>absurd z (Zbo (b:=[40]) (JbS a) (by decide)))
  | atk a ha h0=>exact .qu ((Tx.app (X:=[64]) (m:=0) (Tx.of (by unfold pl;decide)) (jea h0) (JbS a)).to (by show 0+wt a=wt a+0+0+0;omega)) (Jgj (by show (3:Int)≠5;decide)) (zgk (by show (3:Int)≠6/\(3:Int)≠8;decide)) (λz=>absurd z (by show ((64:UInt8).toNat:Int)≠47;decide))
  | hash a f ha h0 hf=>
   have hw:Tx (jcc a f) (wtl [tk 4 a 0 [] f]):=by
    cases f with
    | true=>exact (Tx.app (X:=[35]) (m:=0) (Tx.of (by unfold pl;decide)) (jea h0) (JbS a)).to (by show 0+wt a=wt a+0+0+0;omega)
    | false=>exact (Tx.app (X:=[35]) (m:=0) (Tx.of (by unfold pl;decide)) (Tx.but (-1) a 0 h0 (JaY _ _ _ (by decide))) (ZdA _ _ _)).to (by show 0+wt a=wt a+0+0+0;omega)
   exact .qu hw (Jgj (by show (4:Int)≠5;decide)) (zgk (by show (4:Int)≠6/\(4:Int)≠8;decide)) (λz=>absurd z (by show ((35:UInt8).toNat:Int)≠47;decide))
  | str a h0=>exact So.st [] [] a .nil (λt h=>by cases h) (λt h=>by cases h) (by decide) h0 (λ_=>rfl)
  | url a h0=>exact So.ur a h0
  | del c hc h0=>
   have hq:=hc.q;unfold mQ at hq;rw [Hl,Rh,Rh] at hq;have h92:(c.toNat:Int)≠92:=λz=>by
    have:c=92:=UInt8.toNat_inj.mp (by show c.toNat=92;omega)
    rw [this] at h1;exact absurd h1 (by decide)
   refine .qu (X:=[c]) ((Tx.raw hq.1 h92).to (by show wB c=wB c+0+0+0+0;omega)) (Jgj (by show (9:Int)≠5;decide)) (zgk (by show (9:Int)≠6/\(9:Int)≠8;decide)) (λz=>?_)
   have z:(c.toNat:Int)=47:=z;rw [show c=47 from UInt8.toNat_inj.mp (by show c.toNat=47;omega)]
  | num n f hn=>exact .qu ((Zev n f).1.to rfl) (Jgj (by show (10:Int)≠5;decide)) (zgk (by show (10:Int)≠6/\(10:Int)≠8;decide)) (λz=>absurd z (Zev n f).2)
  | pct n hn=>exact .qu ((Tx.app (n:=0) (Zev n _).1 (Tx.of (X:=[37]) (by unfold pl;decide)) (by decide)).to rfl) (Jgj (by show (11:Int)≠5;decide)) (zgk (by show (11:Int)≠6/\(11:Int)≠8;decide)) (λz=>absurd z (Zbo (b:=[37]) (Zev n _).2 (by decide)))
  | dim n u f hn hu h0=>
   have hU:Tx (zQ u) (wt u)/\hb (zQ u)≠47:=by
    unfold zQ;split
    ·rename_i q;refine ⟨Tx.but 0 u 0 h0 ?_,ZdA _ _ _⟩;cases u with
     | nil=>trivial
     | cons c u=>
      refine ⟨λ_=>?_,JaY _ _ _ (by decide)⟩
      unfold JeB at q;have q:=(yb _ _▸q:_/\_).1;have q:mE (c.toNat:Int)=true:=q;unfold mE at q;simp only [xg,xc] at q;omega
    ·exact ⟨jea h0,JbS u⟩
   exact .qu ((Tx.app (Zev n f).1 hU.1 hU.2).to (by show 0+wt u=0+wt u+0+0;omega)) (Jgj (by show (12:Int)≠5;decide)) (zgk (by show (12:Int)≠6/\(12:Int)≠8;decide)) (λz=>absurd z (Zbo (Zev n f).2 hU.2))
  | sp=>exact .qu (X:=[32]) ((Tx.of (by unfold pl;decide)).to rfl) (Jgj (by show (13:Int)≠5;decide)) (zgk (by show (13:Int)≠6/\(13:Int)≠8;decide)) (λz=>absurd z (by decide))
  | cdo=>exact .qu (X:=[60,33,45,45]) ((Tx.of (by unfold pl;decide)).to rfl) (Jgj (by show (14:Int)≠5;decide)) (zgk (by show (14:Int)≠6/\(14:Int)≠8;decide)) (λz=>absurd z (by decide))
  | cdc=>exact .qu (X:=[45,45,62]) ((Tx.of (by unfold pl;decide)).to rfl) (Jgj (by show (15:Int)≠5;decide)) (zgk (by show (15:Int)≠6/\(15:Int)≠8;decide)) (λz=>absurd z (by decide))
  | mark k hk=>
   rw [Zbg hk];obtain ⟨n,rfl⟩:∃n:Nat,k=16+(n:Int):=⟨(k-16).toNat,by omega⟩
   have key:∀n:Nat,n<9->((marksT.getD n 0).toNat:Int)≠34/\((marksT.getD n 0).toNat:Int)≠92/\((marksT.getD n 0).toNat:Int)≠47/\wB (marksT.getD n 0)=(if n=5 then 2 else 0):=by decide +kernel
   rw [show (16+(n:Int)-16).toNat=n by omega]
   have kk:=key n (by omega)
   refine .qu (X:=[marksT.getD n 0]) ((Tx.raw kk.1 kk.2.1).to ?_) (Jgj (by show (16+(n:Int))≠5;omega)) (zgk (by show (16+(n:Int))≠6/\(16+(n:Int))≠8;omega)) (λz=>absurd z kk.2.2.1)
   show _=0+0+(if (16+(n:Int))=5\/(16+(n:Int))=2\/(16+(n:Int))=7\/(16+(n:Int))=21 then 2 else 0)+0
   rw [kk.2.2.2];by_cases q:n=5
   ·rw [ya q,ya (by omega)]
   ·rw [ga q,ga (by omega)]
 | bs=>
  refine .qu ⟨λV hV=>?_,by decide,λV=>?_,?_⟩ (λt h=>?_) (λt h=>?_) (λz=>absurd z (by decide))
  ·exact (ZL (.inr (by show ((10:UInt8).toNat:Int)=10;decide))).2 ((ZL (.inl (by decide))).2 hV)
  ·exact (Z8 (by decide) (.inr (by show ((10:UInt8).toNat:Int)=10;decide))).trans (Z8 (by decide) (.inl (by decide)))
  ·exact ⟨.inl (by decide),.inl (by decide),trivial⟩
  ·simp only [gc,Qe,or_false] at h;rcases h with rfl|rfl
   ·show (9:Int)≠5;decide
   ·show (13:Int)≠5;decide
  ·simp only [gc,Qe,or_false] at h;rcases h with rfl|rfl
   ·show (9:Int)≠6/\(9:Int)≠8;decide
   ·show (13:Int)≠6/\(13:Int)≠8;decide
 | uf a s ha h0 hu hs=>
  exact So.st [tk 2 a] (zX a++[40]) s ((Tx.app (jea h0) (Tx.raw (c:=40) (by decide) (by decide)) (by decide)).to (by show wt a+2=wt a+0+2+0;omega)) (Jgj (by show (2:Int)≠5;decide)) (zgk (by show (2:Int)≠6/\(2:Int)≠8;decide)) (Zbo (b:=[40]) (JbS a) (by decide)) hs (λz=>by cases z)
 | ufs a s ha h0 hu hs=>
  have h:=So.st [tk 2 a,tk 13] (zX a++[40]++[32]) s ((Tx.app (Tx.app (jea h0) (Tx.raw (c:=40) (by decide) (by decide)) (by decide)) (Tx.of (X:=[32]) (by unfold pl;decide)) (by decide)).to (by show wt a+2+0=wt a+0+2+0;omega))
   (λt h=>by
    simp only [gc,Qe,or_false] at h;rcases h with rfl|rfl
    ·show (2:Int)≠5;decide
    ·show (13:Int)≠5;decide)
   (λt h=>by
    simp only [gc,Qe,or_false] at h;rcases h with rfl|rfl
    ·show (2:Int)≠6/\(2:Int)≠8;decide
    ·show (13:Int)≠6/\(13:Int)≠8;decide) (Zbo (Zbo (b:=[40]) (JbS a) (by decide)) (b:=[32]) (by decide)) hs (λz=>by cases z)
  rw [Qb (zX a++[40])] at h;exact h
theorem jjs {T:List Tok} {X:List UInt8} (h:So T X):∀V,Al V->Al (X++V):=by
 intro V hV;cases h with
 | qu h h5 hf hX=>exact h.al V hV
 | st pre P s h h5 hf hP h0 e=>
  rw [Qb];refine h.al _ ((ZL (.inl (by decide))).2 ?_)
  show Al (jaJ s++[34]++V);rw [Qb];exact (Ty.str s h0).al _ ((ZL (.inl (by decide))).2 hV)
 | ur s h0=>
  have e:(117::114::108::40::(Zbi s++[41]))++V=117::114::108::40::(Zbi s++(41::V)):=by simp
  rw [e];exact (ZL (.inl (by decide))).2 ((ZL (.inl (by decide))).2 ((ZL (.inl (by decide))).2 ((ZL (.inl (by decide))).2 ((Ty.url s h0).al _ ((ZL (.inl (by decide))).2 hV)))))
theorem Zjs {T:List Tok} {X:List UInt8} (h:So T X):wt X=wtl T:=by
 cases h with
 | qu h h5 hf hX=>exact h.w
 | st pre P s h h5 hf hP h0 e=>
  rw [JaJ,ZfY,h.w];show _+(1+wt (jaJ s++[34]))=_+(wt s+0+2+0);rw [JaJ,(Ty.str s h0).w];show _+(1+(wt s+1))=_;omega
 | ur s h0=>
  show 0+(0+(0+(2+wt (Zbi s++[41]))))=wt s+0+2+0;rw [JaJ,(Ty.url s h0).w];show 0+(0+(0+(2+(wt s+0))))=_;omega
theorem JiE {T:List Tok} {X:List UInt8} (h:So T X):JfY T:=by
 cases h with
 | qu h h5 hf hX=>exact hf
 | st pre P s h h5 hf hP h0 e=>
  intro t ht;rcases Rf.1 ht with z|z
  ·exact hf t z
  ·rw [yh.1 z];show (5:Int)≠6/\(5:Int)≠8;decide
 | ur s h0=>exact zgk (by show (7:Int)≠6/\(7:Int)≠8;decide)
theorem Jjs (s:List UInt8) (h0:(0:UInt8)∉s) (V:List UInt8):qr ((117::114::108::40::(Zbi s++[41]))++V)=qr V:=by
 have e:(117::114::108::40::(Zbi s++[41]))++V=117::114::108::40::(Zbi s++(41::V)):=by simp
 rw [e,Z8 (by decide) (.inl (by decide)),Z8 (by decide) (.inl (by decide)),Z8 (by decide) (.inl (by decide)),Z8 (by decide) (.inl (by decide)),(Ty.url s h0).q,Z8 (by decide) (.inl (by decide))]
theorem ji5:Ty [47,42,42,47] 0:=
 ⟨λV hV=>(ZL (.inl (by decide))).2 ((ZL (.inl (by decide))).2 ((ZL (.inl (by decide))).2 ((ZL (.inl (by decide))).2 hV))),by decide,
 λV=>(Z8 (by decide) (.inl (by decide))).trans ((Z8 (by decide) (.inl (by decide))).trans ((Z8 (by decide) (.inl (by decide))).trans (Z8 (by decide) (.inl (by decide)))))⟩
theorem jgk (p:Pi):Ty (if p.c then [47,42,42,47] else []) 0:=by
 cases p.c with
 | true=>exact ji5
 | false=>exact .nil
theorem zhn:∀ps:List Pi,(∀p∈ps,p.ok)->Al (txs ps)
 | [],_=>Zi3
 | p::ps,h=>by
  rw [zO];unfold Pi.tx;rw [Qb];exact (jgk p).al _ (jjs (zfZ (h p (yc ..))) _ (zhn ps λq hq=>h q (gd _ hq)))
theorem jhn:∀ps:List Pi,(∀p∈ps,p.ok)->wt (txs ps)=wtl (jW ps)
 | [],_=>rfl
 | p::ps,h=>by
  rw [zO,Z6,JaJ,ZfY,jhn ps λq hq=>h q (gd _ hq),<-Zjs (zfZ (h p (yc ..)))]
  unfold Pi.tx;rw [JaJ,(jgk p).w];omega
theorem Jft:∀ps:List Pi,(∀p∈ps,p.ok)->JfY (jW ps)
 | [],_=>λt h=>by cases h
 | p::ps,h=>by
  intro t ht;rw [Z6] at ht;rcases Rf.1 ht with z|z
  ·exact JiE (zfZ (h p (yc ..))) t z
  ·exact Jft ps (λq hq=>h q (gd _ hq)) t z
theorem ziF {a b:List Tok} (h1:no5 a) (h2:no5 b):no5 (a++b):=λt h=>(Rf.1 h).elim (h1 t) (h2 t)
theorem zh8:∀(ps:List Pi),(∀p∈ps,p.ok)->∀{c:UInt8} {u:List UInt8},qr (txs ps)=c::u->∃a p b pre P s,ps=a++p::b/\no5 (jW a++pre)/\p.T=pre++[tk 5 s]/\p.X=P++34::(jaJ s++[34])/\(pre=[]->P=[])/\(0:UInt8)∉s/\u=jaJ s++34::txs b
 | [],_,c,u,h=>by rw [show txs []=[] from rfl,qr] at h;cases h
 | p::ps,hv,c,u,h=>by
  have hp:=zfZ (hv p (yc ..));have hv':∀q∈ps,q.ok:=λq hq=>hv q (gd _ hq)
  rw [zO] at h;unfold Pi.tx at h;rw [Qb,(jgk p).q] at h;have rest:qr (p.X++txs ps)=qr (txs ps)->no5 p.T->∃a p' b pre P s,p::ps=a++p'::b/\no5 (jW a++pre)/\p'.T=pre++[tk 5 s]/\p'.X=P++34::(jaJ s++[34])/\(pre=[]->P=[])/\(0:UInt8)∉s/\u=jaJ s++34::txs b:=λe h5=>by
   rw [e] at h;obtain ⟨a,p',b,pre,P,s,e1,e2,e3,e4,e5,e6,e7⟩:=zh8 ps hv' h;exact ⟨p::a,p',b,pre,P,s,by rw [e1];rfl,by rw [Z6,Qb];exact ziF h5 e2,e3,e4,e5,e6,e7⟩
  generalize hT:p.T=T at hp rest;generalize hX:p.X=X at hp rest h;cases hp with
  | qu hh h5 hf hX=>exact rest (hh.q _) h5
  | ur s h0=>exact rest (Jjs s h0 _) (Jgj (by show (7:Int)≠5;decide))
  | st pre P s hh h5 hf hP h0 e=>
   rw [Qb,hh.q] at h;rw [show (34::(jaJ s++[34]))++txs ps=34::(jaJ s++34::txs ps) by simp,jft (by decide)] at h
   injection h with h1 h2
   exact ⟨[],p,ps,pre,P,s,rfl,h5,hT,hX,e,h0,h2.symm⟩
theorem jeX:∀(N:List Tok) {L:List Tok} {u:List UInt8},no5 N->Al u->RD u (N++L)->JfY (N++L)->wtl (N++L)=wt u+1->∃u',Al u'/\RD u' L/\wtl L=wt u'+1/\qr u'=qr u
 | [],L,u,_,hA,h,_,hw=>⟨u,hA,h,hw,rfl⟩
 | t::N,L,u,h5,hA,h,hf,hw=>by
  obtain ⟨u',h1,h2⟩:=zeX hA h hf;have h1:RD u' (N++L):=h1;have hf':JfY (N++L):=λx hx=>hf x (gd _ hx)
  have hw:WT t+wtl (N++L)=wt u+1:=hw;rcases h2 with ⟨_,a,b,d⟩|⟨a,b⟩|⟨a,b⟩|⟨c,v,_,_,e,_⟩
  ·have:=Zft _ a h1 hf';obtain ⟨w,e1,e2,e3,e4⟩:=jeX N (λx hx=>h5 x (gd _ hx)) a h1 hf' (by omega)
   exact ⟨w,e1,e2,e3,e4.trans d⟩
  ·have:=Zft _ a h1 hf';omega
  ·subst a;have:=jay h1;rw [this] at hw;have hw:WT t+0=wt u+1:=hw;omega
  ·exact absurd (by rw [e];rfl) (h5 t (yc ..))
theorem Zgk {ps:List Pi} (hv:∀p∈ps,p.ok) (h:jW ps=[]):ps=[]:=by
 cases ps with
 | nil=>rfl
 | cons p ps=>
  rw [Z6] at h;exact absurd (dj.1 h).1 (Jcs (hv p (yc ..))).2
theorem Zhn (V:List UInt8):(zy (34::V)).1.kind≠6->(zy (34::V)).1.kind=5:=by
 rw [Zi4 (by decide)]
 dsimp only;split
 ·intro _;rfl
 ·intro h;exact absurd rfl h
theorem jh8 {V:List UInt8} {t:Tok} {L:List Tok} (c:Bool) (h:RD ((if c then [47,42,42,47] else [])++34::V) (t::L)) (hf:t.kind≠6):t.kind=5:=by
 have h:RD (34::V) (t::L):=by
  cases c with
  | true=>exact Jh6.1 h
  | false=>exact h
 obtain ⟨_,h2,_⟩:=zes h;have e:comM (34::V)=0:=by
  rw [comM.eq_def,ga (by simp [List.isPrefixOf])]
 rw [e,dh] at h2;rw [<-h2] at hf |-;exact Zhn V hf
theorem ZeX {c:UInt8} {w:List UInt8} (h:(c.toNat:Int)≠34/\(c.toNat:Int)≠10/\(c.toNat:Int)≠92):strM 34 (c::w)=((strM 34 w).1,c::(strM 34 w).2.1,1+(strM 34 w).2.2):=by
 rw [strM.eq_def];dsimp only;rw [ga h.1,ga h.2.1,ya h.2.2]
theorem Zi5:∀(m:Nat) (ps:List Pi),ps.length<=m->(∀p∈ps,p.ok)->∀{u:List UInt8} {N:List Tok} {s:List UInt8},no5 N->Al u->RD u (N++tk 5 s::jW ps)->JfY (N++tk 5 s::jW ps)->wtl (N++tk 5 s::jW ps)=wt u+1->qr u=34::txs ps->s=[]\/s=[47,42,42,47]:=by
 intro m
 induction m with
 | zero=>
  intro ps hl hv u N s h5 hA h hf hw hq;obtain rfl:ps=[]:=List.eq_nil_of_length_eq_zero (by omega)
  obtain ⟨u1,a1,a2,a3,a4⟩:=jeX N h5 hA h hf hw;have hf1:JfY (tk 5 s::jW []):=λx hx=>hf x (Rf.2 (.inr hx))
  obtain ⟨u2,b1,b2⟩:=zeX a1 a2 hf1;have a3:WT (tk 5 s)+wtl (jW [])=wt u1+1:=a3;have z:wtl (jW [])=0:=rfl;rcases b2 with ⟨q,_⟩|⟨_,b⟩|⟨_,b⟩|⟨c,v,c1,c2,c3,_⟩
  ·exact absurd rfl q
  ·omega
  ·omega
  ·rw [a4,hq] at c2;injection c2 with c2 c4
   have hs:s=(strM 34 v).2.1:=Ya Tok.text c3;rw [<-c4] at hs;left;rw [hs,show txs []=[] from rfl,strM]
 | succ m ih=>
  intro ps hl hv u N s h5 hA h hf hw hq;obtain ⟨u1,a1,a2,a3,a4⟩:=jeX N h5 hA h hf hw;have hf1:JfY (tk 5 s::jW ps):=λx hx=>hf x (Rf.2 (.inr hx))
  have hf2:JfY (jW ps):=λx hx=>hf1 x (gd _ hx)
  obtain ⟨u2,b1,b2⟩:=zeX a1 a2 hf1;have a3:WT (tk 5 s)+wtl (jW ps)=wt u1+1:=a3;rcases b2 with ⟨q,_⟩|⟨a,b⟩|⟨a,b⟩|⟨c,v,c1,c2,c3,b2⟩
  ·exact absurd rfl q
  ·have:=Zft _ a b1 hf2;omega
  ·subst a;rw [jay b1] at a3;have a3:WT (tk 5 s)+0=wt u1+1:=a3;omega
  ·rw [a4,hq] at c2;injection c2 with c2 c4
   have hs:s=(strM 34 v).2.1:=Ya Tok.text c3;rw [<-c4] at hs b2;rcases b2 with ⟨c',d1,d2,d3,d4⟩|⟨d1,d2,d3⟩
   ·have hw2:wtl (jW ps)=wt u2+1:=by have:=Zft _ d3 b1 hf2;omega
    obtain ⟨a,p,b,pre,P,s1,e1,e2,e3,e4,e5,e6,e7⟩:=zh8 ps hv d2;have hvb:∀q∈b,q.ok:=λq hq=>hv q (by rw [e1];simp [hq])
    have eT:jW ps=(jW a++pre)++tk 5 s1::jW b:=by rw [e1,zaZ,Z6,e3];simp
    have hq2:qr u2=34::txs b:=by rw [e7,(Ty.str s1 e6).q,jft (by decide)]
    rw [eT] at b1 hf2 hw2;have hs1:=ih b (by rw [e1] at hl;simp at hl;omega) hvb e2 d3 b1 hf2 hw2 hq2
    have hu:∃c:Bool,u2=(if c then [47,42,42,47] else [])++34::txs b:=by
     rcases hs1 with z|z
     ·exact ⟨false,by rw [e7,z];rfl⟩
     ·exact ⟨true,by rw [e7,z];rfl⟩
    obtain ⟨cc,hu⟩:=hu;have hN:jW a++pre=[]:=by
     cases hN:jW a++pre with
     | nil=>rfl
     | cons t N'=>
      rw [hN,hu] at b1;rw [hN] at e2 hf2;exact absurd (jh8 cc b1 (hf2 t (yc ..)).1) (e2 t (yc ..))
    obtain ⟨n1,n2⟩:=dj.1 hN;have ha:a=[]:=Zgk (λq hq=>hv q (by rw [e1];simp [hq])) n1
    rw [ha,gf] at e1;rw [e1,zO] at hs;unfold Pi.tx at hs;rw [e4,e5 n2,gf] at hs;cases hc:p.c with
    | true=>
     right;rw [hc] at hs;rw [hs];show (strM 34 (47::42::42::47::34::_)).2.1=_;rw [ZeX (by decide),ZeX (by decide),ZeX (by decide),ZeX (by decide),strM.eq_def]
     rfl
    | false=>
     left;rw [hc] at hs;rw [hs];show (strM 34 (34::_)).2.1=_;rw [strM.eq_def];rfl
   ·subst d2;have hn:=Zgk hv (jay b1);left;rw [hs,hn,show txs []=[] from rfl,strM]
theorem jho:∀(n:Nat) (w:List UInt8),wt (w.drop n)<=wt w
 | 0,w=>Ra _
 | n+1,[]=>Ra _
 | n+1,c::w=>by
  have:=jho n w;show wt (w.drop n)<=wB c+wt w;omega
theorem Jev {c:UInt8} {w:List UInt8} {k:Nat} (hc:c≠42) (h:zW (c::w)=some k):∃j,zW w=some j/\k=j+1:=by
 rw [zW,ga (λx=>hc x.1)] at h
 cases hj:zW w with
 | none=>rw [hj] at h;cases h
 | some j=>rw [hj] at h;injection h with h;exact ⟨j,rfl,h.symm⟩
theorem zgl (w:List UInt8):zW (47::42::42::47::w)=some 2:=by
 rw [zW,ga (λx=>absurd x.1 (by decide)),zW,ga (λx=>absurd x.2 (by show ((42:UInt8).toNat:Int)≠47;decide)),zW,ya ⟨rfl,by show ((47:UInt8).toNat:Int)=47;decide⟩]
 rfl
theorem zeY (X V:List UInt8) (n:Nat):(X++V).drop (X.length+n)=V.drop n:=by rw [<-xe,ye]
def CL (ps:List Pi) (Y:List UInt8):Prop:=
  (∃a b,ps=a++b/\∀L,RD Y L↔RD (txs b) L)\/(∃Z,Y=42::Z)\/
  (∃a p b pre P s k',ps=a++p::b/\p.T=pre++[tk 5 s]/\p.X=P++34::(jaJ s++[34])/\no5 pre/\(0:UInt8)∉s/\zW (jaJ s++34::txs b)=some k'/\k'+2<=(jaJ s).length/\Y=(jaJ s++34::txs b).drop (k'+2))\/
  wt Y+2<=wt (txs ps)
theorem jgl:∀(ps:List Pi),(∀p∈ps,p.ok)->∀{k:Nat},zW (txs ps)=some k->CL ps ((txs ps).drop (k+2))
 | [],_,k,h=>by cases h
 | p::ps,hv,k,h=>by
  have hp:=zfZ (hv p (yc ..));have hv':∀q∈ps,q.ok:=λq hq=>hv q (gd _ hq)
  have hne:=(Jcs (hv p (yc ..))).1;have ec:=zO p ps;rw [ec] at h |-;cases hc:p.c with
  | true=>
   have e:p.tx++txs ps=47::42::42::47::(p.X++txs ps):=by unfold Pi.tx;rw [hc];rfl
   rw [e,zgl] at h;injection h with h
   subst h;refine .inl ⟨[],p::ps,rfl,λL=>?_⟩
   rw [e,ec,JgB];rfl
  | false=>
   have e:p.tx=p.X:=by unfold Pi.tx;rw [hc];rfl
   rw [e] at h ec |-;have step:∀j,zW (txs ps)=some j->k=p.X.length+j->CL (p::ps) ((p.X++txs ps).drop (k+2)):=λj hj hk=>by
    rw [hk,Qf,zeY];rcases jgl ps hv' hj with ⟨a,b,e1,e2⟩|⟨Y,e1⟩|⟨a,q,b,pre,P,s,k',e1,e2,e3,e4,e5,e6,e7,e8⟩|e1
    ·exact .inl ⟨p::a,b,by rw [e1];rfl,e2⟩
    ·exact .inr (.inl ⟨Y,e1⟩)
    ·exact .inr (.inr (.inl ⟨p::a,q,b,pre,P,s,k',by rw [e1];rfl,e2,e3,e4,e5,e6,e7,e8⟩))
    ·exact .inr (.inr (.inr (by rw [ec,JaJ];omega)))
   generalize hT:p.T=T at hp;generalize hX:p.X=X at hp h step hne ec |-;cases hp with
   | qu hh h5 hf hXX=>
    rcases jdA X (txs ps) k h with ⟨_,z⟩|⟨z,z2⟩|⟨j,hj,hk⟩
    ·rw [zea hh.n] at z;cases z
    ·-- a star ends the piece,a slash begins the rest
     have ed:(X++txs ps).drop (k+2)=(txs ps).drop 1:=by
      rw [show k+2=X.length+1 by omega,zeY]
     rw [ed];clear ed step ec h;cases ps with
     | nil=>exact absurd z2 (by show (0:Int)≠47;decide)
     | cons q ps=>
      have hq:=zfZ (hv' q (yc ..));have hqne:=(Jcs (hv' q (yc ..))).1;rw [zO] at z2 |-;cases hqc:q.c with
      | true=>
       have e:q.tx++txs ps=47::42::42::47::(q.X++txs ps):=by unfold Pi.tx;rw [hqc];rfl
       rw [e];exact .inr (.inl ⟨_,rfl⟩)
      | false=>
       have e:q.tx=q.X:=by unfold Pi.tx;rw [hqc];rfl
       rw [e] at z2 |-;have z3:hb q.X=47:=by
        obtain ⟨c,w,ew⟩:=yf hqne;rw [ew] at z2 |-;exact z2
       have z4:q.X=[47]:=by
        generalize hqX:q.X=Q at hq z3;generalize hqT:q.T=QT at hq;cases hq with
        | qu hh h5 hf hXX=>exact hXX z3
        | st pre P s hh h5 hf hP h0 e=>exact absurd z3 (Zbo hP (by show ((34:UInt8).toNat:Int)≠47;decide))
        | ur s h0=>exact absurd z3 (by show ((117:UInt8).toNat:Int)≠47;decide)
       rw [z4];exact .inl ⟨[p,q],ps,rfl,λL=>Iff.rfl⟩
    ·exact step j hj hk
   | ur s h0=>
    have e4:(117::114::108::40::(Zbi s++[41]))++txs ps=117::114::108::40::(Zbi s++[41]++txs ps):=by simp
    rw [e4] at h ec |-;obtain ⟨j1,h,k1⟩:=Jev (by decide) h
    obtain ⟨j2,h,k2⟩:=Jev (by decide) h
    obtain ⟨j3,h,k3⟩:=Jev (by decide) h
    obtain ⟨j4,h,k4⟩:=Jev (by decide) h
    refine .inr (.inr (.inr ?_));rw [show k+2=(j4+2)+1+1+1+1 by omega,ec]
    have:=jho (j4+2) (Zbi s++[41]++txs ps);show wt ((Zbi s++[41]++txs ps).drop (j4+2))+2<=0+(0+(0+(2+wt (Zbi s++[41]++txs ps))));omega
   | st pre P s hh h5 hf hP h0 e5=>
    have e4:(P++34::(jaJ s++[34]))++txs ps=P++34::(jaJ s++34::txs ps):=by simp
    have hlen:(P++34::(jaJ s++[34])).length=P.length+1+(jaJ s).length+1:=by simp;omega
    rw [e4] at h |-;rcases jdA P _ k h with ⟨_,z⟩|⟨z,z2⟩|⟨j,hj,hk⟩
    ·rw [zea hh.n] at z;cases z
    ·exact absurd z2 (by show ((34:UInt8).toNat:Int)≠47;decide)
    ·obtain ⟨j',hj,k1⟩:=Jev (by decide) hj
     rcases jdA (jaJ s) (34::txs ps) j' hj with ⟨z,_⟩|⟨z,z2⟩|⟨i,hi,hk2⟩
     ·refine .inr (.inr (.inl ⟨[],p,ps,pre,P,s,j',rfl,hT,hX,h5,h0,hj,z,?_⟩));rw [hk,k1,Qf,zeY,show j'+1+2=(j'+2)+1 by omega,Hf]
     ·exact absurd z2 (by show ((34:UInt8).toNat:Int)≠47;decide)
     ·obtain ⟨i',hi,k3⟩:=Jev (by decide) hi
      rw [<-e4];exact step i' hi (by omega)
theorem Zho:∀{L:List Tok},wtl L<=1->no5 L
 | [],_=>λt h=>by cases h
 | x::L,h=>by
  have h:WT x+wtl L<=1:=h;intro t ht;rcases gc.1 ht with rfl|ht
  ·intro z;have:2<=WT t:=by unfold WT;rw [ya (.inl z)];omega
   omega
  ·exact Zho (L:=L) (by omega) t ht
theorem JdA (Y:List UInt8):comM (42::Y)=0/\zy (42::Y)=(tk 9 [42],1):=by
 refine ⟨by rw [comM.eq_def,ga (by simp [List.isPrefixOf])],?_⟩
 have hh:hb (42::Y)=42:=rfl;have h1:Js (42::Y)=false:=by
  unfold Js;rw [hh,ya (by decide),show Jbt (42::Y)=false from by unfold Jbt;rw [hh];rfl]
  decide
 have h2:Za7 (42::Y)=false:=by
  unfold Za7;rw [hh,ga (by decide),show JQ (42::Y)=false from by unfold JQ;rw [hh];rfl]
  decide
 unfold zy;rw [hh,ga (by decide),ga (by decide),ga (λx=>absurd x.1 (by decide))]
 unfold Zek;rw [h2,ga (by decide),ga (by simp [List.isPrefixOf]),ga (by simp [List.isPrefixOf])]
 unfold JfR;rw [hh,ga (λx=>absurd x.1 (by decide))]
 unfold Jfm;rw [h1,ga (by decide),hh,ga (by decide +kernel)]
 rfl
theorem JgC {ps:List Pi} (hv:∀p∈ps,p.ok) (hg:zeu ps) (h:RD (47::42::txs ps) (tk 9 [47]::tk 9 [42]::jW ps)):False:=by
 obtain ⟨h1,h2,h3⟩:=zes h;cases hc:zW (txs ps) with
 | none=>rw [Jgi hc] at h1;simp at h1
 | some k=>
 have e:=zgj hc;rw [e] at h1 h2 h3;have hY:RD ((txs ps).drop (k+2)) (tk 9 [47]::tk 9 [42]::jW ps):=by
  have:=RD.cons h1 h3;rw [h2] at this;exact this
 have hA:=zhn ps hv;have hYA:=jcm _ _ (Ra _) hA k hc;have hf:JfY (tk 9 [47]::tk 9 [42]::jW ps):=by
  intro t ht;rcases gc.1 ht with rfl|ht
  ·show (9:Int)≠6/\(9:Int)≠8;decide
  ·rcases gc.1 ht with rfl|ht
   ·show (9:Int)≠6/\(9:Int)≠8;decide
   ·exact Jft ps hv t ht
 have hw:wtl (tk 9 [47]::tk 9 [42]::jW ps)=wt (txs ps):=by
  rw [jhn ps hv];show 0+(0+wtl (jW ps))=_;omega
 have hle:=Zft _ hYA.1 hY hf;rcases jgl ps hv hc with ⟨a,b,e1,e2⟩|⟨Y,e1⟩|⟨a,p,b,pre,P,s,k',e1,e2,e3,e4,e5,e6,e7,e8⟩|e1
 ·have hb:=(e2 _).1 hY;have hg':zeu b:=by rw [e1] at hg;exact Jdz a b hg
  have hb2:=Jce b (λq hq=>hv q (by rw [e1];simp [hq])) hg'
  have:=Ya List.length (Zea hb hb2);rw [e1,zaZ] at this;simp at this;omega
 ·rw [e1] at hY;obtain ⟨_,z,_⟩:=zes hY;rw [(JdA Y).1,dh,(JdA Y).2] at z;exact absurd (Ya Tok.text z) (by decide)
 ·have hvb:∀q∈b,q.ok:=λq hq=>hv q (by rw [e1];simp [hq])
  have hva:∀q∈a,q.ok:=λq hq=>hv q (by rw [e1];simp [hq])
  have hAw:Al (jaJ s++34::txs b):=(Ty.str s e5).al _ ((ZL (.inl (by decide))).2 (zhn b hvb))
  have hYw:=jcm _ _ (Ra _) hAw k' e6;rw [<-e8] at hYw;have hwt:wt (txs ps)=wt (txs a)+(wt P+(1+wt (jaJ s++34::txs b))):=by
   rw [e1,JaW,zO,JaJ,JaJ];unfold Pi.tx;rw [JaJ,(jgk p).w,e3,JaJ,JaJ (jaJ s)];show _+(0+(wt P+(1+wt (jaJ s++[34])))+_)=_+(_+(1+(_+(1+wt (txs b)))));rw [JaJ];show _+(0+(wt P+(1+(wt (jaJ s)+1)))+_)=_;omega
  have hqw:qr (jaJ s++34::txs b)=34::txs b:=by rw [(Ty.str s e5).q,jft (by decide)]
  have hq:qr ((txs ps).drop (k+2))=34::txs b:=by
   rcases hYw.2.2 with z|z
   ·rw [z,hqw]
   ·omega
  have h5:no5 (tk 9 [47]::tk 9 [42]::(jW a++pre)):=by
   intro t ht;rcases gc.1 ht with rfl|ht
   ·show (9:Int)≠5;decide
   ·rcases gc.1 ht with rfl|ht
    ·show (9:Int)≠5;decide
    ·rcases Rf.1 ht with ht|ht
     ·exact Zho (by rw [<-jhn a hva];omega) t ht
     ·exact e4 t ht
  have eT:tk 9 [47]::tk 9 [42]::jW ps=(tk 9 [47]::tk 9 [42]::(jW a++pre))++tk 5 s::jW b:=by rw [e1,zaZ,Z6,e2];simp
  have hwY:wtl (tk 9 [47]::tk 9 [42]::jW ps)=wt ((txs ps).drop (k+2))+1:=by omega
  rw [eT] at hY hf hwY;rcases Zi5 _ b (Ra _) hvb h5 hYA.1 hY hf hwY hq with z|z
  ·rw [z] at e7;simp [jaJ] at e7
  ·rw [z] at e6 e8;have e6:zW (47::42::42::47::(34::txs b))=some k':=e6;rw [zgl] at e6;injection e6 with e6
   rw [<-e6] at e8;rw [e8] at hY;have:=jh8 false hY (by show (9:Int)≠6;decide)
   exact absurd this (by show (9:Int)≠5;decide)
 ·omega
theorem zh9 (e i:Int) (w:List UInt8):JaB e i w≠[92]:=by
 cases w with
 | nil=>intro z;cases z
 | cons c w=>
  intro z;rcases j6 e i c w with ⟨_,h,q⟩|⟨_,q⟩
  ·rw [q] at z;injection z with z _
   rw [z] at h;exact absurd h (by decide)
  ·obtain ⟨d,v,e2,_⟩:=zay c;rw [q,e2] at z;cases z
theorem ZiG (e i:Int) (w:List UInt8):JaB e i w≠[45,92]:=by
 cases w with
 | nil=>intro z;cases z
 | cons c w=>
  intro z;rcases j6 e i c w with ⟨_,h,q⟩|⟨_,q⟩
  ·rw [q] at z;injection z with _ z
   exact zh9 e (i+1) w z
  ·obtain ⟨d,v,e2,_⟩:=zay c;rw [q,e2] at z;injection z with z _
   exact absurd z (by decide)
theorem ZfZ {x:List UInt8} {c:UInt8} (hc:c≠92):x++[c]≠[92]/\x++[c]≠[45,92]:=by
 constructor <;> intro z <;> have z2:=Ya List.reverse z <;> rw [List.reverse_append] at z2 <;> injection z2 with z3 _ <;> exact hc z3
theorem JfZ {n:Int} {f:Bool} (tl:List UInt8):jD n f++tl≠[92]/\jD n f++tl≠[45,92]:=by
 obtain ⟨d1,d2,d3⟩:=I.dec_ok (n.natAbs / 1000);obtain ⟨d,D,hD⟩:=yf d2;have hd:=ZcT (d1 d (by rw [hD];exact yc ..))
 have h92:d≠92:=λz=>by rw [z] at hd;exact absurd hd (by decide)
 have h45:d≠45:=λz=>by rw [z] at hd;exact absurd hd (by decide)
 unfold jD;rw [hD];by_cases q:n<0
 ·rw [ya q];refine ⟨λz=>?_,λz=>?_⟩
  ·injection z with z _;exact absurd z (by decide)
  ·injection z with _ z;injection z with z _;exact h92 z
 ·rw [ga q];refine ⟨λz=>?_,λz=>?_⟩
  ·injection z with z _;exact h92 z
  ·injection z with z _;exact h45 z
theorem zjt {T:List Tok} {X:List UInt8} (hp:Pc T X):X≠[92]/\X≠[45,92]:=by
 have head:∀(c:UInt8) (x:List UInt8),c≠92->c≠45->c::x≠[92]/\c::x≠[45,92]:=λc x h1 h2=>⟨λz=>by injection z with z _;exact h1 z,λz=>by injection z with z _;exact h2 z⟩
 cases hp with
 | one t hc h1 h2=>
  cases hc with
  | ident a ha h0=>exact ⟨zh9 _ _ _,ZiG _ _ _⟩
  | func a ha h0=>exact ZfZ (x:=zX a) (c:=40) (by decide)
  | atk a ha h0=>exact head 64 _ (by decide) (by decide)
  | hash a f ha h0 hf=>exact head 35 _ (by decide) (by decide)
  | str a h0=>exact head 34 _ (by decide) (by decide)
  | url a h0=>exact head 117 _ (by decide) (by decide)
  | del c hc h0=>
   refine ⟨λz=>?_,λz=>?_⟩
   ·have z:[c]=[92]:=z;injection z with z _
    subst z;exact absurd h1 (by decide)
   ·have z:[c]=[45,92]:=z;cases z
  | num n f hn=>have:=JfZ (n:=n) (f:=f) [];rw [xf] at this;exact this
  | pct n hn=>exact JfZ _
  | dim n u f hn hu h0=>exact JfZ _
  | sp=>exact head 32 _ (by decide) (by decide)
  | cdo=>exact head 60 _ (by decide) (by decide)
  | cdc=>exact ⟨by show [(45:UInt8),45,62]≠[92];decide,by show [(45:UInt8),45,62]≠[45,92];decide⟩
  | mark k hk=>
   rw [Zbg hk];obtain ⟨n,rfl⟩:∃n:Nat,k=16+(n:Int):=⟨(k-16).toNat,by omega⟩
   have key:∀n:Nat,n<9->marksT.getD n 0≠92/\marksT.getD n 0≠45:=by decide +kernel
   rw [show (16+(n:Int)-16).toNat=n by omega]
   exact head _ _ (key n (by omega)).1 (key n (by omega)).2
 | bs=>exact ⟨by decide,by decide⟩
 | uf a s ha h0 hu hs=>rw [<-Qc,<-Qb];exact ZfZ (c:=34) (by decide)
 | ufs a s ha h0 hu hs=>rw [<-Qc,<-Qc,<-Qb];exact ZfZ (c:=34) (by decide)
theorem jh9 {T:List Tok} {P:List UInt8} (hp:Pc T P):∀qs:List Pi,(∀q∈qs,q.ok)->txs qs++P≠[92]/\txs qs++P≠[45,92]
 | [],_=>zjt hp
 | q::qs,hv=>by
  have ih:=jh9 hp qs λr hr=>hv r (gd _ hr)
  have h1:=Jgh (hv q (yc ..));have h2:=Rj.2 (Jcs hp).1;rw [zO,Qb];refine ⟨λz=>?_,λz=>?_⟩
  ·have:=Ya List.length z;rw [Rb,Rb] at this;simp at this;omega
  ·have hl:=Ya List.length z;rw [Rb,Rb] at hl;simp at hl;obtain ⟨c,x,hx⟩:=yf (Rj.1 (show 0<q.tx.length by omega))
   have hx0:x=[]:=by
    rw [hx,da] at hl;exact Rk.1 (by omega)
   rw [hx,hx0] at z;injection z with _ z
   exact ih.1 z
theorem JiG {T:List Tok} {V:List UInt8} (Z:List UInt8) (hV:V≠[]) (h1:V≠[92]) (h2:V≠[45,92]) (hx:∀t,T=[t]->exV t (V++Z)->stM t V) (h:stP T (V++Z)):stP T V:=
 ⟨λt e=>jiF Z hV h1 h2 (hx t e) (h.1 t e),λt e=>by rw [<-zbh Z hV];exact h.2 t e⟩
theorem ji7 {T':List Tok} {P Z:List UInt8} {t:Tok} (hp:Pc T' P) (hZ:stP T' Z) (h:exV t (P++Z)):exV t P:=by
 obtain ⟨h1,h2,d,W,hd,e⟩:=h;have hne:=(Jcs hp).1;have hb0:hb P=48:=by rw [<-zbh Z hne,e];rfl
 obtain ⟨m,g,tl,hm,hP,hk⟩:=Jd7 (zcU hp) (.inl (by rw [hb0];decide))
 have tf:=JcG hk hZ;have hm0:¬m<0:=by
  intro z;rw [hP,jX (Rj.2 (JI hm))] at hb0;unfold jD at hb0;rw [ya z] at hb0;exact absurd hb0 (by show ¬(45:Int)=48;decide)
 obtain ⟨p1,p2,p3⟩:=I.dec_ok (m.natAbs / 1000);obtain ⟨q1,q2,q3,_⟩:=I.fr_ok (r:=m.natAbs%1000) (gh _ (by decide))
 have hPw:P=Lib.decDigits (m.natAbs / 1000)++((if g then [] else 46::fr3 3 (m.natAbs%1000))++tl):=by
  rw [hP];unfold jD;rw [ga hm0];simp
 obtain ⟨c,D2,hD⟩:=yf p2;have hD2:D2=[]:=by
  cases D2 with
  | nil=>rfl
  | cons b D2=>
   exfalso;rw [hPw,hD] at e;injection e with _ e
   injection e with e _
   have:=p1 b (by rw [hD];simp)
   rw [e] at this;exact absurd this (by decide)
 rw [hD2] at hD;rw [hD] at hPw;have hgc:g=true\/g=false:=by cases g <;> simp
 rcases hgc with hg|hg
 ·exfalso;subst hg;rcases tf with ⟨_,t2,_⟩|⟨_,t2,_⟩
  ·have t2:=t2 rfl;have e2:tl++Z=46::d::W:=by
    rw [hPw] at e;injection e with _ e
   rw [e2] at t2;have:JQ (46::d::W)=true:=by simp [JQ,hd]
   rw [this] at t2;cases t2
  ·cases t2
 ·subst hg;obtain ⟨b,F,hF⟩:=yf q2;have hc:c=48:=by rw [hPw] at e;injection e with e _
  refine ⟨h1,h2,b,F++tl,q1 b (by rw [hF];exact yc ..),?_⟩
  rw [hPw,hF,hc];rfl
theorem Zi7 {T T' L M:List Tok} {X U P Z:List UInt8} (hp:Pc T X) (hp':Pc T' P) (hU:stP T U) (hZ:stP T' Z) (hM:RD Z M) (h43:¬(hb Z=43/\mD (hb Z.tail)=true)) (hL:L≠[]) (hL2:U=[]->L=T')
  (h:RD (X++(U++(P++Z))) (T++(L++M))):∀t,T=[t]->t.kind=10\/t.kind=12->stM t (U++(P++Z)):=by
 intro t e hk;cases hp with
 | one t0 hc h1 h2=>
  injection e with e _
  subst e;rw [jaR] at hU;cases hc with
  | num n f hn=>exact ZiF hn hp' hU hZ hM h43 hL2 h
  | dim n u f hn hu h0=>exact JiF hn hu h0 hp' hU hZ hM (JhU hp' hZ) hL h
  | mark k hkk=>have hk:k=10\/k=12:=hk;omega
  | _=>exact absurd hk (by simp [tk])
 | bs=>cases e
 | uf a s ha h0 hu hs=>cases e
 | ufs a s ha h0 hu hs=>cases e
inductive BuiltW:List Pi->Prop where
 | nil:BuiltW []
 | com {ps:List Pi} {p:Pi}:BuiltW ps->p.ok->p.c=true->¬RD (txs ps++p.X) (jW ps++p.T)->BuiltW (ps++[p])
 | win {ps:List Pi} {p:Pi}:BuiltW ps->p.ok->p.c=false->RD (txs ps++p.X) (jW ps++p.T)->BuiltW (ps++[p])
theorem zaK {ps:List Pi} (h:BuiltW ps):Built ps:=by
 induction h with
 | nil=>exact .nil
 | com _ hp hc _ ih=>exact .com ih hp hc
 | win _ hp hc hr ih=>exact Built.win (pre:=[]) ih hp hc (.inl rfl) hr
theorem Zgl {α:Type} {a b:List α} {x y:α} {c:List α} (h:a++[x]=b++y::c):(c=[]/\a=b/\x=y)\/∃c',c=c'++[x]/\a=b++y::c':=by
 rcases List.eq_nil_or_concat c with rfl|⟨c',z,rfl⟩
 ·have:=List.append_inj' h rfl;injection this.2 with q _
  exact .inl ⟨rfl,this.1,q⟩
 ·rw [List.concat_eq_append] at h |-;rw [<-Qc,<-Qb] at h;have:=List.append_inj' h rfl;injection this.2 with q _
  exact .inr ⟨c',by rw [q],this.1⟩
theorem zgD {ps:List Pi} (h:BuiltW ps):∀{ps1 ps3:List Pi} {p:Pi},ps=ps1++p::ps3->p.c=true->¬RD (txs ps1++p.X) (jW ps1++p.T):=by
 induction h with
 | nil=>intro ps1 ps3 p e _;exact absurd e.symm (by simp)
 | com _ hp hc hr ih=>
  intro ps1 ps3 p e hpc;rcases Zgl e with ⟨_,e1,e2⟩|⟨c',_,e1⟩
  ·rw [<-e1,<-e2];exact hr
  ·exact ih e1 hpc
 | win _ hp hc hr ih=>
  intro ps1 ps3 p e hpc;rcases Zgl e with ⟨_,_,e2⟩|⟨c',_,e1⟩
  ·rw [<-e2,hc] at hpc;cases hpc
  ·exact ih e1 hpc
theorem Zcm (hpos:∀w:List UInt8,w≠[]->1<=(zy w).2) (l:List Tok) (hl:jbn l=true):∀(f:Nat) (ps:List Pi) (i:Nat),BuiltW ps->jW ps=l.take i->i<=l.length->l.length-i<f->
  ∃ps2,BuiltW (ps++ps2)/\wrR l f (txs ps) i=txs (ps++ps2)/\jW ps2=l.drop i
 | 0,ps,i,_,_,_,hf=>absurd hf (by omega)
 | f+1,ps,i,hB,hT,hi,hf=>by
  unfold wrR;by_cases q:l.length<=i
  ·rw [ya q];exact ⟨[],by rw [xf];exact hB,by rw [xf],by rw [List.drop_eq_nil_of_le q];rfl⟩
  rw [ga q];obtain ⟨t,l',hd⟩:=yf (show l.drop i≠[] from λz=>by
   have:=Ya List.length z;rw [Hb,Hd] at this;omega)
  obtain ⟨hpc,hpl,hp1⟩:=jcU (by rw [<-hd];exact ZbD i l hl:jbn (t::l')=true)
  rw [<-hd] at hpc hpl hp1;generalize hn:jcW (l.drop i)=n at hpc hpl hp1 |-;dsimp only;simp only [show i+n-i=n by omega]
  generalize hTt:(l.drop i).take n=T at hpc hpl |-;generalize hX:Zdk T=X at hpc |-;have hin:i+n<=l.length:=by
   have:((l.drop i).take n).length<=(l.drop i).length:=by rw [Qi];omega
   rw [hTt,hpl,Hb] at this;omega
  have htk:l.take (i+n)=jW ps++T:=by rw [List.take_add,hT,hTt]
  have okw:∀c∈txs ps++X,okB c:=zD (jbu _ (jae (zaK hB)).1) (Zd8 hpc);have hdr:l.drop i=T++l.drop (i+n):=by rw [<-hTt,<-xe,Hp]
  have step:∀p:Pi,p.T=T->BuiltW (ps++[p])->∃ps2,BuiltW (ps++ps2)/\wrR l f (txs ps++p.tx) (i+n)=txs (ps++ps2)/\jW ps2=l.drop i:=by
   intro p hp hBp;obtain ⟨ps2,b1,b2,b3⟩:=Zcm hpos l hl f (ps++[p]) (i+n) hBp (by rw [zaZ,jdz,hp,htk]) hin (by omega)
   refine ⟨p::ps2,?_,?_,?_⟩
   ·rw [List.append_cons];exact b1
   ·rw [List.append_cons,<-b2,JaW,zcG]
   ·rw [Z6,hp,b3,hdr]
  by_cases qs:Zan ((Jd1 (Jt (txs ps++X))).map (·.1)) (l.take (i+n))=true
  ·rw [ya qs];refine step ⟨T,X,false⟩ rfl ?_;rw [zbg _ okw] at qs;have hRD:RD (txs ps++X) (jW ps++T):=(jcG hpos _ _).2 (by rw [<-htk];exact ja5 _ _ qs)
   exact .win hB hpc rfl hRD
  ·rw [ga qs,Qb];refine step ⟨T,X,true⟩ rfl (.com hB hpc rfl λhr=>qs ?_)
   have hr:RD (txs ps++X) (jW ps++T):=hr;rw [zbg _ okw,(jcG hpos _ _).1 hr,htk];exact zbE _
theorem zbT:∀(a:List Pi) {p:Pi} {b:List Pi},zeu (a++p::b)->stP p.T (txs b)/\zeu b
 | [],_,_,h=>h
 | _::a,_,_,h=>zbT a h.2
theorem zhp {E:List Pi} (h:BuiltW E):∀{a b:List Pi},E=a++b->BuiltW a:=by
 induction h with
 | nil=>
  intro a b e;have:=(dj.1 e.symm).1;rw [this];exact .nil
 | com h1 hp hc hr ih=>
  intro a b e;rcases List.eq_nil_or_concat b with rfl|⟨c,z,rfl⟩
  ·rw [xf] at e;rw [<-e];exact .com h1 hp hc hr
  ·rw [List.concat_eq_append,<-Qb] at e;exact ih (List.append_inj' e rfl).1
 | win h1 hp hc hr ih=>
  intro a b e;rcases List.eq_nil_or_concat b with rfl|⟨c,z,rfl⟩
  ·rw [xf] at e;rw [<-e];exact .win h1 hp hc hr
  ·rw [List.concat_eq_append,<-Qb] at e;exact ih (List.append_inj' e rfl).1
theorem zhV {a b:List Pi} (h:BuiltW (a++b)):BuiltW a:=zhp h rfl
theorem Jgl {T:List Tok} {X:List UInt8} (hp:Pc T X):RD X T:=by
 have:=(JcF (V:=[]) (L:=[]) hp (Zdz hp)).2 (.nil (by simp))
 rw [xf,xf] at this;exact this
theorem jjt {T:List Tok} {X:List UInt8} (hp:Pc T X) (e:X=[42]):T=[tk 9 [42]]:=by
 subst e;exact Zea (Jgl hp) (jgB (JdA []).1 (by simp) (JdA []).2 (.nil (by simp)))
theorem zfu:comM [47]=0/\zy [47]=(tk 9 [47],1):=by
 refine ⟨by rw [comM.eq_def,ga (by simp [List.isPrefixOf])],?_⟩
 unfold zy;rw [ga (by decide),ga (by decide),ga (λx=>absurd x.1 (by decide))]
 unfold Zek;rw [ga (by decide),ga (by decide),ga (by decide)]
 unfold JfR;rw [ga (λx=>absurd x.1 (by decide))]
 unfold Jfm;rw [ga (by decide),ga (by decide +kernel)]
 rfl
theorem Ji7 {T:List Tok} {X:List UInt8} (hp:Pc T X) (e:X=[47]):T=[tk 9 [47]]:=by
 subst e;exact Zea (Jgl hp) (jgB zfu.1 (by simp) zfu.2 (.nil (by simp)))
theorem jfu {p:Pi} {ps3:List Pi} (hp:p.ok) (hv3:∀q∈ps3,q.ok) (hg3:zeu ps3) (hpZ:stP p.T (txs ps3)):∀qs:List Pi,(∀q∈qs,q.ok)->zeu qs->
  RD (txs qs++(p.X++txs ps3)) (jW qs++(p.T++jW ps3))->RD (txs qs++p.X) (jW qs++p.T)
 | [],_,_,_=>by
  have:=(JcF (V:=[]) (L:=[]) hp (Zdz hp)).2 (.nil (by simp))
  rw [xf,xf] at this;exact this
 | q::qs,hv,hg,h=>by
  have hq:=hv q (yc ..);have hv2:∀p∈qs,p.ok:=λp hp=>hv p (gd _ hp)
  have hM:=Jce ps3 hv3 hg3;have hL:jW qs++p.T≠[]:=λz=>(Jcs hp).2 (dj.1 z).2
  have hL2:txs qs=[]->jW qs++p.T=p.T:=λz=>by rw [Jgg hv2 z];rfl
  rw [zO,Z6,Qb,Qb,JgB,<-Qb (jW qs)] at h;have hs:=Ji5 hq hp hg.1 hpZ hM hL (λz=>by
   rw [z.1,z.2.1,z.2.2,Ji7 hq z.1,jjt hp z.2.2,Jgg hv2 z.2.1] at h;exact JgC hv3 hg3 h) (Zi7 hq hp hg.1 hpZ hM (jiG ps3 hv3 hg3) hL hL2 h) h
  have h2:=(JcF hq hs).1 h;rw [Qb] at h2;have ih:=jfu hp hv3 hg3 hpZ qs hv2 hg.2 h2;have hbs:=jh9 hp qs hv2;have hst:stP q.T (txs qs++p.X):=by
   refine JiG (txs ps3) (λz=>(Jcs hp).1 (dj.1 z).2) hbs.1 hbs.2 ?_ (by rw [Qb];exact hs)
   intro t e hx;have hk:t.kind=10:=hx.1;have want:exV t (txs qs++p.X)->stM t (txs qs++p.X):=by
    intro z;unfold stM;rw [ga (by omega),ga (by omega),ga (by omega),ga (by omega),ya hk]
    exact .inr z
   have hU:=hg.1.1 t e;unfold stM at hU;rw [ga (by omega),ga (by omega),ga (by omega),ga (by omega),ya hk] at hU
   rcases hU with hU|hU
   ·by_cases hq0:txs qs=[]
    ·rw [hq0,gf] at hx want |-;exact want (ji7 hp hpZ hx)
    ·exfalso;obtain ⟨_,_,d,W,_,e2⟩:=hx;have:hb (txs qs)=48:=by rw [<-zbh p.X hq0,<-zbh (txs ps3) (by simp [hq0]),e2];rfl
     have hU1:=hU.1;rw [this] at hU1;exact absurd hU1 (by decide)
   ·exact want (Zd7 _ hU)
  rw [zO,Z6,Qb,Qb,JgB,JcF hq hst];exact ih
theorem zf0 {ps1 ps3:List Pi} {p:Pi} (h:BuiltW (ps1++p::ps3)) (hc:p.c=true):¬RD (txs ps1++(p.X++txs ps3)) (jW ps1++(p.T++jW ps3)):=by
 intro hr;obtain ⟨hv,hg⟩:=jae (zaK h);obtain ⟨h1,h2⟩:=zbT ps1 hg;have hB1:=jae (zaK (zhV h));refine zgD h rfl hc (jfu (hv p (by simp)) (λq hq=>hv q (by simp [hq])) h2 h1 ps1 hB1.1 hB1.2 hr)
theorem jjE {ps1 ps2:List Pi} {x y:List Tok} (hB:BuiltW (ps1++ps2)) (hx:jW ps1=x) (hy:jW ps2=y) (hpos:∀w:List UInt8,w≠[]->1<=(zy w).2) (h4:(txs ps2).take 4=[47,42,42,47]) (hL:(Jd1 (Jt (txs ps1++(txs ps2).drop 4))).map (·.1)=x++y):False:=by
 obtain ⟨hv,hg⟩:=jae (zaK hB);cases ps2 with
 | nil=>cases h4
 | cons p ps3=>
  have hp:=hv p (by simp)
  have hv3:∀q∈ps3,q.ok:=λq hq=>hv q (by simp [hq])
  have hc:p.c=true:=by
   cases hc:p.c with
   | true=>rfl
   | false=>
    exfalso;have e:p.tx=p.X:=by unfold Pi.tx;rw [hc];rfl
    rw [zO,e] at h4;have hso:=zfZ hp;have hne:=(Jcs hp).1;have z1:hb p.X=47:=by
     obtain ⟨c,w,ew⟩:=yf hne;rw [ew] at h4 |-;rw [Qc,Hn] at h4;injection h4 with h4 _
     show (c.toNat:Int)=47;rw [h4];decide
    have z2:p.X=[47]:=by
     generalize p.X=Q at hso z1;generalize p.T=QT at hso;cases hso with
     | qu hh h5 hf hXX=>exact hXX z1
     | st pre P s hh h5 hf hP h0 e=>exact absurd z1 (Zbo hP (by show ((34:UInt8).toNat:Int)≠47;decide))
     | ur s h0=>exact absurd z1 (by show ((117:UInt8).toNat:Int)≠47;decide)
    have hst:=(zbT ps1 hg).1;rw [Ji7 hp z2,jaR] at hst;rw [z2] at h4;cases hV:txs ps3 with
    | nil=>rw [hV] at h4;cases h4
    | cons d V=>
     rw [hV] at h4 hst;have hd:d=42:=by
      have h4:47::d::(V.take 2)=[47,42,42,47]:=h4;injection h4 with _ h4
      injection h4 with h4 _
     subst hd;unfold stM at hst;simp [tk] at hst;exact hst.2.2.2.2.2.2 ⟨by decide,by show ((42:UInt8).toNat:Int)=42;decide⟩
  have e2:txs (p::ps3)=[47,42,42,47]++(p.X++txs ps3):=by
   rw [zO];unfold Pi.tx;rw [hc];rfl
  have e3:(txs (p::ps3)).drop 4=p.X++txs ps3:=by rw [e2];rfl
  rw [e3] at hL;have hok:∀c∈txs ps1++(p.X++txs ps3),okB c:=zD (jbu ps1 λq hq=>hv q (by simp [hq])) (zD (Zd8 hp) (jbu ps3 hv3))
  rw [zbg _ hok] at hL;refine zf0 hB hc ((jcG hpos _ _).2 ?_);rw [hL,<-hx,<-hy,Z6]
theorem jf0 (hpos:∀w:List UInt8,w≠[]->1<=(zy w).2) {x y:List Tok} {a:List UInt8} (h1:Jep (x++y)=(a,0)) (hx:jeb x=0):∃b,Jep x=(b,0)/\∃c,a=b++c/\Jek c=some y/\(c.take 4=[47,42,42,47]->(Jd1 (Jt (b++c.drop 4))).map (·.1)≠x++y):=by
 have chk:∀{l:List Tok} {s:List UInt8},Jep l=(s,0)->jeb l=0/\jbn l=true/\l.length<=1500/\s=wrR l (l.length+1) [] 0/\s.length<=4000:=by
  intro l s h;have hc:jeb l=0:=by
   cases q:decide (jeb l=0) with
   | true=>exact Ha q
   | false=>
    unfold Jep at h;rw [ya (gb q)] at h;exact Ya Prod.snd h
  have h3:=jgi hpos hc;rw [h] at h3;have hc2:=hc;unfold jeb at hc2;by_cases q1:1500<l.length
  ·rw [ya q1] at hc2;exact absurd hc2 (by decide)
  rw [ga q1] at hc2;cases q2:jbn l with
  | false=>rw [q2,ga (by decide)] at hc2;exact absurd hc2 (by decide)
  | true=>
   by_cases q4:4000<(wrR l (l.length+1) [] 0).length
   ·rw [ya q4] at h3;exact absurd (Ya Prod.snd h3) (by show ¬(0:Int)=28;decide)
   ·rw [ga q4] at h3;have hs:s=wrR l (l.length+1) [] 0:=Ya Prod.fst h3;exact ⟨hc,rfl,by omega,hs,by rw [hs];omega⟩
 obtain ⟨-,a2,a3,a4,a5⟩:=chk h1;have b2:jbn x=true:=by
  have hc2:=hx;unfold jeb at hc2;by_cases q1:1500<x.length
  ·rw [ya q1] at hc2;exact absurd hc2 (by decide)
  rw [ga q1] at hc2;cases q2:jbn x with
  | false=>rw [q2,ga (by decide)] at hc2;exact absurd hc2 (by decide)
  | true=>rfl
 obtain ⟨b,b4⟩:∃b,b=wrR x (x.length+1) [] 0:=⟨_,rfl⟩;obtain ⟨ps1,p1,p2,p3⟩:=Zcm hpos x b2 ((x++y).length+1) [] 0 .nil rfl (dg _) (by rw [Rb];omega)
 obtain ⟨ps0,s1,s2,s3⟩:=Zcm hpos x b2 (x.length+1) [] 0 .nil rfl (dg _) (by omega)
 obtain ⟨f2,g1,g2⟩:=zft x y b2 ((x++y).length+1) [] 0 (dg _) (by rw [Rb];omega)
 have fuel:∀(f g:Nat) (b:List UInt8) (i:Nat),i<=x.length->x.length-i<f->x.length-i<g->wrR x f b i=wrR x g b i:=by
  intro f
  induction f with
  | zero=>intro g b i _ h;omega
  | succ f ih=>
   intro g b i hi hf hg;cases g with
   | zero=>omega
   | succ g=>
    unfold wrR;by_cases q:x.length<=i
    ·rw [ya q,ya q]
    ·rw [ga q,ga q];obtain ⟨t,l',hd⟩:=yf (show x.drop i≠[] from λz=>by
      have:=Ya List.length z;rw [Hb,Hd] at this;omega)
     obtain ⟨-,hpl,hp1⟩:=jcU (by rw [<-hd];exact ZbD i x b2:jbn (t::l')=true)
     rw [<-hd] at hpl hp1;have hin:i+jcW (x.drop i)<=x.length:=by
      have:((x.drop i).take (jcW (x.drop i))).length<=(x.drop i).length:=by rw [Qi];omega
      rw [hpl,Hb] at this;omega
     exact ih g _ _ hin (by omega) (by omega)
 have hb:b=txs ps1:=by
  rw [b4,fuel (x.length+1) ((x++y).length+1) [] 0 (dg _) (by omega) (by rw [Rb];omega)]
  exact p2
 have hk1:jW ps1=x:=p3;have hfull:wrR x ((x++y).length+1) [] 0=txs ps1:=p2;rw [hfull] at g2;have p1:BuiltW ps1:=p1;obtain ⟨ps2,r1,r2,r3⟩:=Zcm hpos (x++y) a2 f2 ps1 x.length p1 (by rw [hk1,List.take_left]) (by rw [Rb];omega) (by rw [Rb] at g1 |-;omega)
 rw [r2] at g2;have ha:a=txs ps1++txs ps2:=by rw [a4,g2,JaW]
 have hv:=(jae (zaK r1)).1;have hv2:∀p∈ps2,p.ok:=λp hp=>hv p (ym _ hp)
 have hRD:=Jce ps2 hv2 (Jdz ps1 ps2 (jae (zaK r1)).2);rw [r3,ye] at hRD;have hlen:(txs ps1).length<=4000:=by rw [ha,Rb] at a5;omega
 have hwx:Jep x=(b,0):=by
  have h3:=jgi hpos hx;rw [<-b4,ga (by rw [hb];omega)] at h3
  exact h3
 refine ⟨b,hwx,txs ps2,by rw [ha,hb],?_,λh4 hL=>?_⟩
 rotate_left
 ·exact jjE r1 hk1 (by rw [r3,ye]) hpos h4 (by rw [<-hb];exact hL)
 refine zeW hpos (jbu ps2 hv2) ?_ ?_ hRD
 ·rw [ha,Rb] at a5;omega
 ·rw [Rb] at a3;omega
