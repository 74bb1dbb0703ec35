/- Lemmas. -/
import Derived.Test.YtplpmeednhcjkaaGreatDoorSa1
import Derived.Test.YtplpmeednhcjkaaGreatDoorAw1
import Derived.Test.YtplpmeednhcjkaaGreatDoorIn1
namespace Go.Sx
open Go.Vm
section
variable {S:Sg} {Y:Sy S} {P:Program} {G:Gl} {ro:Nat} {o0:Nat->Prop}
def jje (Y:Sy S) (D:DD S) (E:En):Option (U S)->Option V->Prop
 | some u,some v=>RelV Y D E u v
 | none,none=>True
 | _,_=>False
def zcH (Y:Sy S) (G:Gl) (o0:Nat->Prop) (ro:Nat) (E:En) (m:T (Ct S)) (st:St) (k:Kn S) (res:Option V) (st':St):Prop:=
 ∃u nx' m' ks wr E',Inv Y G o0 ro E' nx' m' st'/\Step o0 E m st E' m' st' ks wr/\jje Y (Dat Y (ji o0 E' m') st') E' u res/\k u nx' m' ks wr
variable {E:En} {nx:Nat} {m:T (Ct S)} {st:St} {fr:T (U S)} {frV:T V}
theorem Z0 (hI:Inv Y G o0 ro E nx m st) {k:Kn S} {u:U S} {v:V} (hr:RelV Y (Dat Y (ji o0 E m) st) E u v) (hk:k (some u) nx m [] []):zcH Y G o0 ro E m st k (some v) st:=
 ⟨some u,nx,m,[],[],E,hI,Step.refl ..,hr,hk⟩
theorem ZaB (st:St) (b:Blk) (id:Nat) (h:id<st.nx):(st.alloc b).hp.get id=st.hp.get id:=by
 unfold St.alloc;dsimp only;rw [Tgu,ga (by omega)]
theorem jaG (st:St) (b:Blk):(st.alloc b).hp.get st.nx=some b:=by
 unfold St.alloc;dsimp only;rw [Tgu,ya rfl]
theorem ZhW (hI:Inv Y G o0 ro E nx m st) {k:Kn S} {us:List (U S)} {vs:List V} {es:Nat} (h:Jja nx m us k) (hr:RelL Y (Dat Y (ji o0 E m) st) E us vs):∃b,JbE vs es false=some b/\zcH Y G o0 ro E m st k (some (.p st.nx 0)) (st.alloc b):=by
 unfold Jja at h;cases ha:zie us with
 | false=>rw [ha] at h;exact h.elim
 | true=>
  rw [ha] at h;obtain ⟨b,hb⟩:=zbG vs es false (zfy ha hr);obtain ⟨q1,q2,q3,q4,q5,q6⟩:=JL hb;have hs:=jb1 hI (some st.nx) .pn (.cells us) (st':=st.alloc b) (λid e=>by cases e;exact Ra _) (di _) (ZaB st b) rfl
  have hE:(E++[(some st.nx,V.pn)])[nx]?=some (some st.nx,.pn):=by rw [<-hI.len];exact push_self
  refine ⟨b,hb,some (.p nx 0),nx+1,_,[],[],_,ZcJ hI (some st.nx) .pn (.cells us) hs (λid e=>by cases e;exact Ra _) (ZaB st b) ?_,hs,⟨st.nx,.pn,hE,rfl⟩,h⟩
  exact ⟨st.nx,.pn,b,vs,hE,hI.ro,gk _,jaG st b,by rw [q1,hr.length],hs.rels hr,λj _=>q5 j⟩
theorem zf5 (hI:Inv Y G o0 ro E nx m st) {k:Kn S} {c:S.Cd} {xs:List (S.Den c)} {cap:Nat} {op:Bool} {b:Blk} (h:ZiI nx m c xs k) (h1:b.es=Y.wid c) (h2:b.sz=cap*Y.wid c) (h3:xs.length<=cap) (h4:(op=true->(b.op=true\/(Y.cvb&&!(Y.opn c))=true)/\cap=xs.length)/\(Y.opn c=true->op=true)) (h5:Cel Y c xs b.get (DatA Y (ji o0 E m) st)) :
  zcH Y G o0 ro E m st k (some (.sl st.nx 0 xs.length cap op)) (st.alloc b):=by
 have hs:=jb1 hI (some st.nx) (.sl st.nx 0 xs.length cap op) (.buf c xs) (st':=st.alloc b) (λid e=>by cases e;exact Ra _) (di _) (ZaB st b) rfl
 have hE:(E++[(some st.nx,V.sl st.nx 0 xs.length cap op)])[nx]?=some (some st.nx,.sl st.nx 0 xs.length cap op):=by rw [<-hI.len];exact push_self
 refine ⟨some (.o nx),nx+1,_,[],[],_,ZcJ hI (some st.nx) (.sl st.nx 0 xs.length cap op) (.buf c xs) hs (λid e=>by cases e;exact Ra _) (ZaB st b) ?_,hs,⟨_,hE,rfl⟩,h⟩
 obtain ⟨vs,r1,r2⟩:=JaC (off:=0) (b:=b) (DA:=DatA Y (ji o0 E m) st) (by simpa only [dd] using h5)
 refine .inr ⟨st.nx,cap,op,b,hE,hI.ro,gk _,jaG st b,h3,h1,h2,h4,vs,λi x hx=>by rw [<-r1 i x hx,dd],λi x hx j u v hu hv=>?_⟩
 exact hs.datA (r2 i x hx j u v hu hv)
theorem Jie (hI:Inv Y G o0 ro E nx m st) {k:Kn S} {c:S.Cd} {xs:List (S.Den c)} {b:Blk} (h:k (some (.o nx)) (nx+1) (m.upd nx (some (.row c xs))) [] []) (h1:b.op=false) (h5:Cel Y c xs b.get (DatA Y (ji o0 E m) st)) :
  zcH Y G o0 ro E m st k (some (.sl st.nx 0 xs.length xs.length false)) (st.alloc b):=by
 have hs:=jb1 hI (some st.nx) (.sl st.nx 0 xs.length xs.length false) (.row c xs) (st':=st.alloc b) (λid e=>by cases e;exact Ra _) (di _) (ZaB st b) rfl
 have hE:(E++[(some st.nx,V.sl st.nx 0 xs.length xs.length false)])[nx]?=some (some st.nx,.sl st.nx 0 xs.length xs.length false):=by rw [<-hI.len];exact push_self
 refine ⟨some (.o nx),nx+1,_,[],[],_,ZcJ hI (some st.nx) (.sl st.nx 0 xs.length xs.length false) (.row c xs) hs (λid e=>by cases e;exact Ra _) (ZaB st b) ?_,hs,⟨_,hE,rfl⟩,h⟩
 obtain ⟨vs,r1,r2⟩:=JaC (off:=0) (b:=b) (DA:=DatA Y (ji o0 E m) st) (by simpa only [dd] using h5)
 refine ⟨st.nx,b,hE,hI.ro,gk _,jaG st b,h1,vs,λi x hx=>by rw [<-r1 i x hx,dd],λi x hx j u v hu hv=>?_⟩
 exact hs.datA (r2 i x hx j u v hu hv)
theorem jf5 (hI:Inv Y G o0 ro E nx m st) {k:Kn S} {c:S.Cd} {xs:List (S.Den c)} {cap:Nat} {op:Bool} {b:Blk} (h:k (some (.l c xs)) nx m [] []) (h3:xs.length<=cap) (h5:Cel Y c xs b.get (DatA Y (ji o0 E m) st)) :
  zcH Y G o0 ro E m st k (some (.sl st.nx 0 xs.length cap op)) (st.alloc b):=by
 have hs:Step o0 E m st E m (st.alloc b) [] []:=⟨Ra _,λ_ _ _=>rfl,di _,λid h _=>ZaB st b id h,λ_ h=>.inl h,λj _ h2 _=>h2⟩
 have inv:Inv Y G o0 ro E nx m (st.alloc b):=⟨hI.len,Yb hI.ro (di _),hI.lt,λr ct e=>by
  have:=Ent.keep hs (hI.ent r ct e) rfl (λid _ _ hid=>ZaB st b id hid)
  rwa [zby] at this,λid ho=>⟨(hI.out id ho).1,xi (hI.out id ho).2 (di _)⟩,zb1 hI hs,hI.inj⟩
 obtain ⟨vs,r1,r2⟩:=JaC (off:=0) (b:=b) (DA:=DatA Y (ji o0 E m) st) (by simpa only [dd] using h5)
 have hno:¬ji o0 E m st.nx:=by
  rintro (q|⟨r,ct,y,e1,e2⟩)
  ·exact absurd (hI.out _ q).2 (Nat.lt_irrefl _)
  ·exact absurd (Zf4 hI e1 e2).2 (Nat.lt_irrefl _)
 exact ⟨some (.l c xs),nx,m,[],[],E,inv,hs,Dat.mk vs hno (gk _) (jaG st b) r1 (λi x hx j u v hu hv=>hs.datA (r2 i x hx j u v hu hv)) h3,h⟩
theorem jiO (hI:Inv Y G o0 ro E nx m st) {k:Kn S} {c:S.Cd} (h:ZiI nx m c [] k):zcH Y G o0 ro E m st k (some .sn) st:=by
 have hs:=jb1 hI none .sn (.buf c []) (st':=st) (λid e=>by cases e) (Ra _) (λ_ _=>rfl) rfl
 have hE:(E++[((none:Option Nat),V.sn)])[nx]?=some (none,.sn):=by rw [<-hI.len];exact push_self
 exact ⟨some (.o nx),nx+1,_,[],[],_,ZcJ hI none .sn (.buf c []) hs (λid e=>by cases e) (λ_ _=>rfl) (.inl ⟨hE,rfl⟩),hs,⟨none,hE,rfl⟩,h⟩
theorem JcJ (st:St) (b:Blk) (id j:Nat) (h:j≠id):(st.write id b).hp.get j=st.hp.get j:=by
 rw [Swe];dsimp only;rw [Tgu,ga h]
theorem ZcZ (st:St) (b:Blk) (id:Nat):(st.write id b).hp.get id=some b:=by
 rw [Swe];dsimp only;rw [Tgu,ya rfl]
theorem Zch (st:St) (b:Blk) (id:Nat):(st.write id b).nx=st.nx:=by rw [Swe]
theorem jdJ (st:St) (b:Blk) (id j:Nat) (h:j<=st.ver) (h':j<=id):j<=(st.write id b).ver:=by rw [Swe];exact ze4 h h'
theorem JhW {st':St} (h:Inv Y G o0 ro E nx m st) {r:Nat} {ct0:Ct S} (ct:Ct S) (hr:m.get r=some ct0) (hs:Step o0 E m st E (m.upd r (some ct)) st' [] [r]) (hk:∀id,id<st.nx->(∀y,E[r]?≠some (some id,y))->st'.hp.get id=st.hp.get id)
  (hent:Ent Y ro (Dat Y (ji o0 E (m.upd r (some ct))) st') (DatA Y (ji o0 E (m.upd r (some ct))) st') E st' r ct):Inv Y G o0 ro E nx (m.upd r (some ct)) st':=by
 have old:∀k c,k≠r->(m.upd r (some ct)).get k=some c->m.get k=some c:=by
  intro k c q e
  rwa [Tgu,ga q] at e
 have any:∀k c,(m.upd r (some ct)).get k=some c->∃c0,m.get k=some c0:=by
  intro k c e;by_cases q:k=r
  ·subst q;exact ⟨_,hr⟩
  ·exact ⟨c,old k c q e⟩
 refine ⟨h.len,Yb h.ro hs.nx,?_,?_,λid ho=>⟨(h.out id ho).1,xi (h.out id ho).2 hs.nx⟩,zb1 h hs,?_⟩
 ·intro k c e;obtain ⟨c0,e0⟩:=any k c e;exact h.lt k c0 e0
 ·intro k c e;by_cases q:k=r
  ·subst q;rw [Tgu,ya rfl] at e;cases e;exact hent
  ·have e0:=old k c q e;have:=Ent.keep hs (h.ent k c e0) rfl (λid y e1 hid=>hk id hid λy' e2=>q (h.inj k r c ct0 id y y' e0 hr e1 e2))
   rwa [zby] at this
 ·intro k k' c c' id y y' e1 e2 e3 e4;obtain ⟨c0,a0⟩:=any k c e1;obtain ⟨c1,b0⟩:=any k' c' e2;exact h.inj k k' c0 c1 id y y' a0 b0 e3 e4
theorem JgO {st':St} (h:Inv Y G o0 ro E nx m st) {r:Nat} {ct0:Ct S} (ct:Ct S) (hr:m.get r=some ct0) {id:Nat} {y:V} (he:E[r]?=some (some id,y)) (hn:st.nx<=st'.nx) (hk:∀j,j<st.nx->j≠id->st'.hp.get j=st.hp.get j) (hv:∀j,j<=st.ver->j<=id->j<=st'.ver) :
  Step o0 E m st E (m.upd r (some ct)) st' [] [r]:=by
 have hset:E.set r (some id,y)=E:=by
  apply List.ext_getElem?;intro k;by_cases q:k=r
  ·subst q;rw [List.getElem?_set_self (List.getElem?_eq_some_iff.1 he).1,he]
  ·rw [List.getElem?_set_ne (Ne.symm q)]
 have:=jez (st':=st') (m0:=m) h ct hr [] (.inr rfl) (some id) y (λid' e=>by cases e;exact .inl ⟨y,he⟩) (λ_=>hset) (λk c e=>⟨c,e⟩) hn
  (λj hj hh=>hk j hj λe=>by subst e;exact hh y he) (λj h1 h2 h3=>hv j h2 (h3 id y he))
 rwa [hset] at this
theorem zgP (hI:Inv Y G o0 ro E nx m st) {t:TypeId} {x v:U S} {xv vv:V} {k:Kn S} (h:zgO Y P nx m t x v k) (hx:RelV Y (Dat Y (ji o0 E m) st) E x xv) (hv:RelV Y (Dat Y (ji o0 E m) st) E v vv) :
  ∃id off st',xv=.p id off/\ZdB P ro st t id off vv=some st'/\zcH Y G o0 ro E m st k none st':=by
 unfold zgO at h;split at h
 ·rename_i n hn;cases hc:(jbV v&&(zie (Jai v)&&Nat.beq (Jai v).length n)) with
  | false=>rw [hc] at h;exact h.elim
  | true=>
   rw [hc] at h;simp only [yb,Rc] at hc;obtain ⟨hsol,hall,hlen⟩:=hc;have hcel:=RelV.cells hsol hv;have hat:=zfy hall hcel;obtain ⟨ti,hti,htn⟩:=jgo hn;simp only [Qa] at h;split at h
   ·rename_i r off;split at h
    ·rename_i us hr;cases hb:Nat.ble (off+n) us.length with
     | false=>rw [hb] at h;exact h.elim
     | true=>
      rw [hb] at h;rw [xd] at hb;simp only [RelV] at hx;obtain ⟨id,y,e1,rfl⟩:=hx;obtain ⟨id',y',b,vs,q1,q2,q3,q4,q5,q6,q7⟩:=hI.ent r _ hr;rw [e1] at q1;cases q1;obtain ⟨b',hp⟩:=Blk.put_ok vv.cells b off (by rw [hcel.length,q5];omega) hat
      obtain ⟨p1,p2,p3,p4,p5,p6,p7⟩:=Blk.put_spec _ _ _ _ hp;have hs:=JgO (st':=st.write id b') hI (.cells (Zbx us off (Jai v))) hr e1 (by rw [Zch];exact Ra _) (λj _ hj=>JcJ st b' id j hj) (λj h1 h2=>jdJ st b' id j h1 h2)
      refine ⟨id,off,st.write id b',rfl,?_,none,nx,_,[],[r],E,JhW hI _ hr hs (λj _ hj=>JcJ st b' id j λe=>by subst e;exact hj _ e1) ?_,hs,trivial,h⟩
      ·unfold ZdB;have c1:(Nat.ble ro id&&Nat.beq vv.cells.length ti.size)=true:=by rw [yb,xd,Rc];exact ⟨q2,by rw [hcel.length,hlen,htn]⟩
       simp only [q4,hti,c1,Qa,hp]
      ·refine ⟨id,y,b',Vm.setAt vs off vv.cells,e1,q2,by rw [Zch];exact q3,ZcZ st b' id,by rw [p1,q5,zch],hs.rels (RelL.setAt q6 hcel),λj hj=>?_⟩
       rw [zch] at hj;rw [p5 j];have sg:∀(l cs:List V) (o j:Nat),j<cs.length->o+l.length<=cs.length->(Vm.setAt cs o l)[j]?=if o<=j/\j<o+l.length then l[j-o]? else cs[j]?:=by
        intro l
        induction l with
        | nil=>intro cs o j _ _;rw [ga (by simp)];rfl
        | cons a l ih=>
         intro cs o j hj hl;simp only [da] at hl;rw [Vm.setAt,ih _ _ _ (by simpa using hj) (by simp;omega)]
         by_cases q:j=o
         ·subst q;rw [ga (by omega),ya (by simp),List.getElem?_set_self hj]
          simp
         ·rw [List.getElem?_set_ne (by omega)]
          by_cases q2:o+1<=j/\j<o+1+l.length
          ·rw [ya q2,ya (by simp;omega),show j-o=(j-(o+1))+1 from by omega];simp
          ·rw [ga q2,ga (by simp;omega)]
       rw [sg _ _ _ _ (by rw [q6.length];exact hj) (by rw [hcel.length,q6.length];omega),q7 j hj]
    ·exact h.elim
   ·rename_i r w i off;split at h
    ·rename_i c xs hr;cases hb:(Nat.beq w (Y.wid c)&&Nat.ble (off+n) (Y.wid c)) with
     | false=>rw [hb] at h;exact h.elim
     | true=>
      rw [hb] at h;simp only [yb,Rc,xd] at hb;obtain ⟨rfl,hb⟩:=hb;obtain ⟨hi,h⟩:=h;obtain ⟨y0,e0,hk⟩:=Y.dec_ok _ _ _ h;simp only [RelV] at hx;obtain ⟨id,y,e1,rfl⟩:=hx;rcases hI.ent r _ hr with ⟨q1,q2⟩|⟨id',cap,op,b,q1,q2,q3,q4,q5,q6,q7,q8,vs,q9,q10⟩
      ·subst q2;simp at hi
      rw [e1] at q1;cases q1;have hxi:xs[i]?=some (xs.getD i (Y.dflt c)):=by rw [List.getD_eq_getElem?_getD,List.getElem?_eq_getElem hi];rfl
      have hbound:i*Y.wid c+off+vv.cells.length<=b.sz:=by
       rw [hcel.length,hlen,q7];have:(i+1)*Y.wid c<=cap*Y.wid c:=gm _ (by omega)
       rw [xl] at this;omega
      obtain ⟨b',hp⟩:=Blk.put_ok vv.cells b (i*Y.wid c+off) hbound hat;obtain ⟨p1,p2,p3,p4,p5,p6,p7⟩:=Blk.put_spec _ _ _ _ hp;have hs:=JgO (st':=st.write id b') hI (.buf c (xs.set i y0)) hr e1 (by rw [Zch];exact Ra _) (λj _ hj=>JcJ st b' id j hj) (λj h1 h2=>jdJ st b' id j h1 h2)
      refine ⟨id,_,st.write id b',rfl,?_,none,nx,_,[],[r],E,JhW hI _ hr hs (λj _ hj=>JcJ st b' id j λe=>by subst e;exact hj _ e1) ?_,hs,trivial,hk⟩
      ·unfold ZdB;have c1:(Nat.ble ro id&&Nat.beq vv.cells.length ti.size)=true:=by rw [yb,xd,Rc];exact ⟨q2,by rw [hcel.length,hlen,htn]⟩
       simp only [q4,hti,c1,Qa,hp]
      ·-- the elements,cell by cell
       have hold:=z7 (off:=0) (b:=b) (DA:=DatA Y (ji o0 E m) st) (λi x hx=>by rw [dd];exact q9 i x hx) q10
       have kp:∀{u:U S} {v:V},DatA Y (ji o0 E m) st u v->DatA Y (ji o0 E (m.upd r (some (.buf c (xs.set i y0))))) (st.write id b') u v:=λhd=>hs.datA hd
       have hnew:Cel Y c (xs.set i y0) (λk=>b'.get (0+k)) (DatA Y (ji o0 E (m.upd r (some (.buf c (xs.set i y0))))) (st.write id b')):=by
        intro i' x' hx' j u hu;have hj:j<Y.wid c:=by rw [<-Y.len c x'];exact (List.getElem?_eq_some_iff.1 hu).1
        simp only [dd];by_cases hii:i'=i
        ·subst hii;rw [List.getElem?_set_self hi] at hx';cases hx';rw [<-e0] at hu;rw [p5];by_cases hin:off<=j/\j<off+vv.cells.length
         ·rw [ya (by omega),show i'*Y.wid c+j-(i'*Y.wid c+off)=j-off from by omega]
          have hset:∀(l cs:List (U S)) (o j:Nat),j<cs.length->o+l.length<=cs.length->(Zbx cs o l)[j]?=if o<=j/\j<o+l.length then l[j-o]? else cs[j]?:=by
           intro l
           induction l with
           | nil=>intro cs o j _ _;rw [ga (by simp)];rfl
           | cons a l ih=>
            intro cs o j hj hl;simp only [da] at hl;rw [Zbx,ih _ _ _ (by simpa using hj) (by simp;omega)]
            by_cases q:j=o
            ·subst q;rw [ga (by omega),ya (by simp),List.getElem?_set_self hj]
             simp
            ·rw [List.getElem?_set_ne (by omega)]
             by_cases q2:o+1<=j/\j<o+1+l.length
             ·rw [ya q2,ya (by simp;omega),show j-o=(j-(o+1))+1 from by omega];simp
             ·rw [ga q2,ga (by simp;omega)]
          rw [hset _ _ _ _ (by rw [Y.len];exact hj) (by rw [jbj,Y.len,hlen];exact hb),ya (by rw [jbj,<-hcel.length];exact hin)] at hu
          obtain ⟨w,e2,e3⟩:=(zdw hcel).get hu;have hfl:u.flat=true:=by
           apply Y.flat c y0;rw [<-e0];rw [List.mem_iff_getElem?];refine ⟨j,?_⟩;rw [hset _ _ _ _ (by rw [Y.len];exact hj) (by rw [jbj,Y.len,hlen];exact hb),ya (by rw [jbj,<-hcel.length];exact hin)]
           exact hu
          exact ⟨w,e2,kp (DatA.of_rel hfl e3)⟩
         ·rw [ga (by omega)]
          have hset:∀(l cs:List (U S)) (o j:Nat),j<cs.length->o+l.length<=cs.length->¬(o<=j/\j<o+l.length)->(Zbx cs o l)[j]?=cs[j]?:=by
           intro l
           induction l with
           | nil=>intro cs o j _ _ _;rfl
           | cons a l ih=>
            intro cs o j hj hl hne;simp only [da] at hl hne;rw [Zbx,ih _ _ _ (by simpa using hj) (by simp;omega) (by omega),List.getElem?_set_ne (by omega)]
          rw [hset _ _ _ _ (by rw [Y.len];exact hj) (by rw [jbj,Y.len,hlen];exact hb) (by rw [jbj,<-hcel.length];exact hin)] at hu
          obtain ⟨w,e2,e3⟩:=hold i' _ hxi j u hu;simp only [dd] at e2;exact ⟨w,e2,kp e3⟩
        ·rw [List.getElem?_set_ne (Ne.symm hii)] at hx';obtain ⟨w,e2,e3⟩:=hold i' x' hx' j u hu;simp only [dd] at e2;refine ⟨w,?_,kp e3⟩;rw [p5,ga ?_,e2];rw [hcel.length,hlen];intro ⟨z1,z2⟩;rcases Nat.lt_or_gt_of_ne hii with z|z
         ·have:(i'+1)*Y.wid c<=i*Y.wid c:=gm _ z;rw [xl] at this;omega
         ·have:(i+1)*Y.wid c<=i'*Y.wid c:=gm _ z;rw [xl] at this;omega
       obtain ⟨vs',r1,r2⟩:=JaC hnew;have e1':E[r]?=some (some id,.sl id 0 (xs.set i y0).length cap op):=by rw [Yo];exact e1
       exact .inr ⟨id,cap,op,b',e1',q2,by rw [Zch];exact q3,ZcZ st b' id,by rw [Yo];exact q5,p2.trans q6,p1.trans q7,⟨λz=>by rw [p3,Yo];exact q8.1 z,q8.2⟩,vs',λi x hx=>by rw [<-r1 i x hx,dd],r2⟩
    ·exact h.elim
   ·exact h.elim
 ·exact h.elim
end
end Go.Sx
namespace Go.Sx
open Go.Vm
section
variable {S:Sg} {Y:Sy S} {P:Program} {G:Gl} {ro:Nat} {o0:Nat->Prop} {E:En} {nx:Nat} {m:T (Ct S)} {st:St} {fr:T (U S)} {frV:T V}
theorem je5 {place:Nat->Option (Nat×Nat)}:∀{parts:List (Nat×U S)} {us us':List (U S)},Zeb place us parts=some us'->us'.length=us.length
 | [],us,us',h=>by simp only [Zeb,xa] at h;rw [h]
 | (i,u)::parts,us,us',h=>by
  simp only [Zeb] at h;cases hp:place i with
  | none=>simp [hp] at h
  | some q=>
   obtain ⟨off,size⟩:=q;simp only [hp] at h
   (cases hq:(jbV u&&(Nat.beq (Jai u).length size&&Nat.ble (off+(Jai u).length) us.length)) with
    | false=>simp [hq] at h
    | true=>rw [hq] at h;rw [je5 h,zch])
theorem Jeb (hI:Inv Y G o0 ro E nx m st) {t:TypeId} {len:Nat} {parts:List (Nat×U S)} {pv:List (Nat×V)} {k:Kn S} (h:jcx Y P nx m t len parts k) (hp:jic Y (Dat Y (ji o0 E m) st) E parts pv) :
  ∃v st',zS P st t len pv=some (v,st')/\zcH Y G o0 ro E m st k (some v) st':=by
 unfold jcx at h;split at h
 ·rename_i e hu;split at h
  ·rename_i n z c hn hz hcode;cases hc:(Nat.ble (len*n) 16777216&&Nat.blt 0 n&&Nat.beq (Jai z).length n&&jbV z&&Nat.beq n (Y.wid c)) with
   | false=>rw [hc] at h;exact h.elim
   | true=>
    rw [hc] at h;simp only [yb] at hc;obtain ⟨⟨⟨⟨c1,c2⟩,c3⟩,c4⟩,c5⟩:=hc;obtain ⟨us,h1,h2⟩:=Ja2 h;obtain ⟨w,e1,e2⟩:=zdv (Y:=Y) hz;have e2:=RelV.cells c4 (e2 (Dat Y (ji o0 E m) st) E);obtain ⟨vs,h3,h4⟩:=jdv h1 (JdI e2 len) hp;rw [Rc] at c5 c3;subst c5;have hl:us.length=len*Y.wid c:=by rw [je5 h1,zdJ,c3]
    obtain ⟨xs,g1,g2,g3⟩:=Jf4 h2 (by rw [jbj,hl])
    have h5:=zdw h4;have hcel:∀(i:Nat) x,xs[i]?=some x->∀(j:Nat) u,(Y.cells c x)[j]?=some u->∃v,vs[i*Y.wid c+j]?=some v/\DatA Y (ji o0 E m) st u v:=by
     intro i x hx j u hu;obtain ⟨v,q1,q2⟩:=h5.get (g3 i x hx j u hu);exact ⟨v,q1,DatA.of_rel (Y.flat c x u (List.mem_of_getElem? hu)) q2⟩
    have hat:∀v∈vs,v.atom=true:=by
     intro v hv;obtain ⟨j,hj⟩:=List.mem_iff_getElem?.1 hv;have hjl:j<len*Y.wid c:=by rw [<-hl,<-h4.length];exact (List.getElem?_eq_some_iff.1 hj).1
     have hw:=Y.wpos c;have q1:j / Y.wid c<xs.length:=by rw [g1];exact Nat.div_lt_of_lt_mul (by rw [yl];exact hjl)
     have q2:j%Y.wid c<Y.wid c:=gh _ hw;have hx:=List.getElem?_eq_getElem q1;have hu:(Y.cells c xs[j / Y.wid c])[j%Y.wid c]?=some _:=List.getElem?_eq_getElem (by rw [Y.len];exact q2)
     obtain ⟨v',e3,e4⟩:=hcel _ _ hx _ _ hu;rw [Nat.div_add_mod',hj] at e3;cases e3;exact jch (E:=E) (Zb1 (Y.flat _ _ _ (List.mem_of_getElem? hu))) e4.rel
    obtain ⟨b,hb⟩:=zbG vs (Y.wid c) false hat;obtain ⟨p1,p2,p3,p4,p5,p6⟩:=JL hb;have hd:zcH Y G o0 ro E m st k (some (.sl st.nx 0 xs.length xs.length false)) (st.alloc b):=by
     cases ho:Y.opn c with
     | true=>
      rw [ho,Qa] at g2;cases hsm:Nat.ble len 2 with
      | true=>rw [hsm,Qa] at g2;exact jf5 hI g2 (Ra _) (λi x hx j u hu=>by rw [p5];exact hcel i x hx j u hu)
      | false=>rw [hsm,Yc] at g2;exact Jie hI g2 p3 (λi x hx j u hu=>by rw [p5];exact hcel i x hx j u hu)
     | false=>
      rw [ho,Yc] at g2;exact zf5 (b:=b) (cap:=xs.length) (op:=false) hI g2 p2 (by rw [p1,h4.length,hl,g1]) (Ra _) ⟨λz=>(by cases z),λz=>by rw [ho] at z;cases z⟩ (λi x hx j u hu=>by rw [p5];exact hcel i x hx j u hu)
    rw [g1] at hd;refine ⟨_,_,?_,hd⟩;unfold zS;have c3':Nat.beq w.cells.length (Y.wid c)=true:=by rw [Rc,e2.length,c3]
    simp only [hu,hn,e1,c1,c2,c3',Bool.and_self,Qa,h3,hb,jy]
  ·exact h.elim
 ·exact h.elim
theorem ZeA (hI:Inv Y G o0 ro E nx m st) {t:TypeId} {len cap:Int} {k:Kn S} (h:jcZ Y P nx m t len cap k):∃v st',JaS P st t len cap=some (v,st')/\zcH Y G o0 ro E m st k (some v) st':=by
 unfold jcZ at h;split at h
 ·rename_i e hu;split at h
  ·rename_i ti z c hn hz hcode;cases hc:(Nat.blt 0 ti.size&&Nat.beq (Jai z).length ti.size&&jbV z&&Nat.beq ti.size (Y.wid c)&&!(Y.opn c)) with
   | false=>rw [hc] at h;exact h.elim
   | true=>
    rw [hc] at h;simp only [yb,Rm] at hc;obtain ⟨⟨⟨⟨c1,c3⟩,c4⟩,c5⟩,ho⟩:=hc;obtain ⟨⟨s1,s2,s3,s4⟩,h⟩:=h;obtain ⟨x,g1,g2⟩:=Y.dec_ok _ _ _ h;obtain ⟨w,e1,e2⟩:=zdv (Y:=Y) hz;have e2:=RelV.cells c4 (e2 (Dat Y (ji o0 E m) st) E);have e3:=zdw e2;rw [g1] at e3;rw [Rc] at c3 c5;have hwl:w.cells.length=Y.wid c:=by rw [e2.length,c3,c5]
    have hat:w.cells.all V.atom=true:=by
     rw [Hk];intro v hv;obtain ⟨j,hj⟩:=List.mem_iff_getElem?.1 hv;have hjl:j<Y.wid c:=by rw [<-hwl];exact (List.getElem?_eq_some_iff.1 hj).1
     have hu:(Y.cells c x)[j]?=some _:=List.getElem?_eq_getElem (by rw [Y.len];exact hjl)
     obtain ⟨v',q1,q2⟩:=e3.get hu;rw [hj] at q1;cases q1;exact jch (Zb1 (Y.flat _ _ _ (List.mem_of_getElem? hu))) q2
    have hcap:len.toNat<=cap.toNat:=by omega
    have hd:=zf5 (xs:=List.replicate len.toNat x) (b:=⟨.e,w.cells,cap.toNat*ti.size,ti.size,false⟩) (cap:=cap.toNat) (op:=false) hI g2 c5 (by dsimp only;rw [c5]) (by simpa using hcap) ⟨λz=>(by cases z),λz=>by rw [ho] at z;cases z⟩ (λi y hy j u hu=>by
     have hi:i<len.toNat:=by have:=(List.getElem?_eq_some_iff.1 hy).1;simpa using this
     have:y=x:=by rw [List.getElem?_replicate_of_lt hi] at hy;exact (Rd hy).symm
     subst this;have hj:j<Y.wid c:=by rw [<-Y.len c y];exact (List.getElem?_eq_some_iff.1 hu).1
     obtain ⟨v,q1,q2⟩:=e3.get hu;refine ⟨v,?_,DatA.of_rel (Y.flat c y u (List.mem_of_getElem? hu)) q2⟩;unfold Blk.get;dsimp only;have hlt:i*Y.wid c+j<cap.toNat*ti.size:=by
      rw [c5];have:(i+1)*Y.wid c<=cap.toNat*Y.wid c:=gm _ (by omega)
      rw [xl] at this;omega
     have hb:Nat.blt (i*Y.wid c+j) (cap.toNat*ti.size)=true:=by rw [ge];exact hlt
     rw [hb,Qa,T.get_e];dsimp only;rw [c5,yl i,Nat.mul_add_mod,Hm hj];exact q1)
    rw [List.length_replicate] at hd;refine ⟨_,_,?_,hd⟩;unfold JaS;have hcond:(ile 0 len&&ile len cap&&ile ((ti.bytes:Int)*cap) 1099511627776&&ile cap 1099511627776&&Nat.blt 0 ti.size&&Nat.beq w.cells.length ti.size&&w.cells.all V.atom)=true:=by
     have z1:Nat.beq w.cells.length ti.size=true:=by rw [Rc,hwl,c5]
     rw [hat,z1,c1];simp only [ile,xk,yb,xc];exact ⟨⟨⟨s1,s2⟩,s3⟩,s4⟩
    simp only [hu,hn,e1,hcond,Qa,jy]
  ·exact h.elim
 ·exact h.elim
theorem ZdJ {c:S.Cd} {xs ys:List (S.Den c)} {get:Nat->Option V} {new:List V} {DA:U S->V->Prop} (h1:Cel Y c xs get DA) (h2:Cel Y c ys (λk=>new[k]?) DA) {get':Nat->Option V} (hg:∀k,get' k=if xs.length*Y.wid c<=k/\k<xs.length*Y.wid c+new.length then new[k-xs.length*Y.wid c]? else get k):Cel Y c (xs++ys) get' DA:=by
 intro i x hx j u hu;have hj:j<Y.wid c:=by rw [<-Y.len c x];exact (List.getElem?_eq_some_iff.1 hu).1
 rcases Hg i xs.length with q|q
 ·rw [List.getElem?_append_left q] at hx;obtain ⟨v,e1,e2⟩:=h1 i x hx j u hu;refine ⟨v,?_,e2⟩;have:(i+1)*Y.wid c<=xs.length*Y.wid c:=gm _ q;rw [xl] at this;rw [hg,ga (by omega),e1]
 ·rw [List.getElem?_append_right q] at hx;obtain ⟨v,e1,e2⟩:=h2 _ x hx j u hu;dsimp only at e1;have hlt:=(List.getElem?_eq_some_iff.1 e1).1;have e3:i*Y.wid c=xs.length*Y.wid c+(i-xs.length)*Y.wid c:=by rw [<-Yl];congr 1;omega
  refine ⟨v,?_,e2⟩;rw [hg,ya (by rw [e3];omega),show i*Y.wid c+j-xs.length*Y.wid c=(i-xs.length)*Y.wid c+j from by rw [e3];omega,e1]
theorem zeo (hI:Inv Y G o0 ro E nx m st) {t:TypeId} {s x:U S} {sv xv:V} {k:Kn S} (h:zeA Y P nx m t s x k) (hs:RelV Y (Dat Y (ji o0 E m) st) E s sv) (hx:RelV Y (Dat Y (ji o0 E m) st) E x xv) :
  ∃v st',zaT P ro st t sv xv=some (v,st')/\zcH Y G o0 ro E m st k (some v) st':=by
 unfold zeA at h;split at h
 ·rename_i e hu;split at h
  ·rename_i ti c hi hcode;cases hc:(Nat.beq ti.size (Y.wid c)&&Nat.blt 0 ti.bytes&&Za4 P e ti.size) with
   | false=>rw [hc] at h;exact h.elim
   | true=>
    rw [hc] at h;simp only [yb] at hc;obtain ⟨⟨c1,c2⟩,c3⟩:=hc;rw [Rc] at c1;have hw:=Y.wpos c;have c0:(Nat.blt 0 (Y.wid c)&&Nat.blt 0 ti.bytes&&Za4 P e (Y.wid c))=true:=by rw [<-c1,c2,c3];simp;omega
    obtain ⟨ys,new,h2,l1,l2,l3,l4,l5⟩:=ZgO hI h hx;have base:∀r,zaT P ro st t sv xv=some r↔(match (generalizing:=false) sv with
     | .sn=>cond (Nat.ble (ys.length*ti.bytes) 1099511627776)
      (cond (Nat.beq ys.length 0) (some (V.sn,st)) (match JbE new (Y.wid c) true with
       | some b=>Zbu st.nx λnx=>Zbu ys.length λn=>some (V.sl nx 0 n n true,St.alloc ⟨nx,st.hp,st.ver⟩ b)
       | none=>none)) none
     | .sl id off len cap op=>match st.hp.get id with
      | some b=>cond (Nat.ble ((len+ys.length)*ti.bytes) 1099511627776)
       (cond (Nat.ble (len+ys.length) cap)
        (cond (Nat.ble ro id) (match b.put new (off+len*Y.wid c) with
         | some b=>Zbu (len+ys.length) λm=>some (V.sl id off m cap op,st.write id b)
         | none=>none) none)
        (match JcH b off len (Y.wid c) new with
        | some b'=>cond op
         (cond (Nat.ble ro id&&b.op&&Nat.beq b.es (Y.wid c)&&Nat.beq (off+cap*Y.wid c) b.sz)
          (Zbu st.nx λnx=>Zbu (len+ys.length) λm=>some (V.sl nx 0 m m true,St.alloc ⟨nx,(st.kill id).hp,(st.kill id).ver⟩ b')) none)
         (Zbu st.nx λnx=>Zbu (len+ys.length) λm=>some (V.sl nx 0 m m true,St.alloc ⟨nx,st.hp,st.ver⟩ b'))
        | none=>none)) none
      | none=>none
     | _=>none)=some r:=by
     intro r;unfold zaT;simp only [hu,hi,l1,c1,l2,c0,Qa];exact Iff.rfl
    split at h2
    ·-- the first one
     simp only [RelV] at hs;subst hs;obtain ⟨b1,hk⟩:=h2;have b1':Nat.ble (ys.length*ti.bytes) 1099511627776=true:=by rw [xd];exact b1
     rcases Nat.eq_zero_or_pos ys.length with z|z
     ·have:ys=[]:=Rk.1 z;subst this;refine ⟨.sn,st,(base _).2 ?_,jiO hI hk⟩;have b0:Nat.ble (0*ti.bytes) 1099511627776=true:=b1';simp only [Hd,b0,Qa];rfl
     ·obtain ⟨b,hb⟩:=zbG new (Y.wid c) true l5;obtain ⟨p1,p2,p3,p4,p5,p6⟩:=JL hb;have hd:=zf5 (b:=b) (cap:=ys.length) (op:=true) hI hk p2 (by rw [p1,l3]) (Ra _) ⟨λ_=>⟨.inl p3,rfl⟩,λ_=>rfl⟩ (λi x hx j u hu=>by rw [p5];exact l4 i x hx j u hu)
      refine ⟨_,_,(base _).2 ?_,hd⟩;have z':Nat.beq ys.length 0=false:=by rw [dl];intro q;rw [Rc] at q;omega
      simp only [b1',Qa,z',Yc,hb,jy]
    ·rename_i r;split at h2
     ·rename_i c' xs hr;cases hcv:(Y.cvb&&!(Y.opn c')) with
      | true=>rw [hcv] at h2;exact h2.elim
      | false=>
      rw [hcv,Yc] at h2;obtain ⟨rfl,h3⟩:=Y.cast_ok _ _ _ _ h2;obtain ⟨b1,hk⟩:=h3;simp only [RelV] at hs;obtain ⟨y,e1,_⟩:=hs;have hrl:=(List.getElem?_eq_some_iff.1 e1).1;have DAk:∀{E':En} {m':T (Ct S)} {st':St} {ks wr:List Nat},Step o0 E m st E' m' st' ks wr->∀{u:U S} {v:V},DatA Y (ji o0 E m) st u v->DatA Y (ji o0 E' m') st' u v:=λhs _ _ hd=>hs.datA hd
      have hm0:∀k c,(Jey (za3 [r]) m).get k=some c->∃c',m.get k=some c':=by
       intro k c e;rw [jcg] at e;cases q:m.get k with
       | none=>rw [q] at e;cases e
       | some c'=>exact ⟨c',rfl⟩
      have fin:∀(id:Nat) (cap:Nat) (op:Bool) (b':Blk) (st':St),(∀id',some id=some id'->(∃y,E[r]?=some (some id',y))\/st.nx<=id')->ro<=id->id<st'.nx->st.nx<=st'.nx->(∀j,j<st.nx->(∀y,E[r]?≠some (some j,y))->st'.hp.get j=st.hp.get j)->
        (∀j,j<=st.nx->j<=st.ver->(∀id y,E[r]?=some (some id,y)->j<=id)->j<=st'.ver)->st'.hp.get id=some b'->b'.es=Y.wid c'->b'.sz=cap*Y.wid c'->(xs++ys).length<=cap->((op=true->(b'.op=true\/(Y.cvb&&!(Y.opn c'))=true)/\cap=(xs++ys).length)/\(Y.opn c'=true->op=true))->Cel Y c' (xs++ys) b'.get (DatA Y (ji o0 E m) st)->
        zcH Y G o0 ro E m st k (some (.sl id 0 (xs++ys).length cap op)) st':=by
       intro id cap op b' st' f1 f2 f3 f4 f5 f6 f7 f8 f9 f10 f11 f12;have hst:=jez (st':=st') (m0:=Jey (za3 [r]) m) hI (.buf c' (xs++ys)) hr [r] (.inl rfl) (some id) (.sl id 0 (xs++ys).length cap op) f1 (λq=>by cases q) hm0 f4 f5 f6
       have hE:(E.set r (some id,V.sl id 0 (xs++ys).length cap op))[r]?=some (some id,.sl id 0 (xs++ys).length cap op):=List.getElem?_set_self hrl;obtain ⟨vs,r1,r2⟩:=JaC (off:=0) (b:=b') (DA:=DatA Y (ji o0 E m) st) (by simpa only [dd] using f12)
       exact ⟨some (.o r),nx,_,[r],[r],_,zgN hI (.buf c' (xs++ys)) hr [r] (some id) _ f1 hst f5 (.inr ⟨id,cap,op,b',hE,f2,f3,f7,f10,f8,f9,f11,vs,λi x hx=>by rw [<-r1 i x hx,dd],λi x hx j u v hu hv=>DAk hst (r2 i x hx j u v hu hv)⟩),hst,⟨_,hE,rfl⟩,hk⟩
      rcases hI.ent r _ hr with ⟨q1,q2⟩|⟨id,cap,op,b,q1,q2,q3,q4,q5,q6,q7,q8,vs,q9,q10⟩
      ·-- nil before
       rw [e1] at q1;cases q1;subst q2;simp only [Hd,dd] at b1;have b1':Nat.ble (ys.length*ti.bytes) 1099511627776=true:=by rw [xd];exact b1
       rcases Nat.eq_zero_or_pos ys.length with z|z
       ·have:ys=[]:=Rk.1 z;subst this;have hst:=jez (st':=st) (m0:=Jey (za3 [r]) m) hI (.buf c' []) hr [r] (.inl rfl) none .sn (λ_ q=>by cases q) (λq=>by cases q) hm0 (Ra _) (λ_ _ _=>rfl) (λ_ _ q _=>q)
        have hE:(E.set r ((none:Option Nat),V.sn))[r]?=some (none,.sn):=List.getElem?_set_self hrl;have b0:Nat.ble (0*ti.bytes) 1099511627776=true:=b1';exact ⟨.sn,st,(base _).2 (by simp only [Hd,b0,Qa];rfl),some (.o r),nx,_,[r],[r],_,zgN hI (.buf c' []) hr [r] none .sn (λ_ q=>by cases q) hst (λ_ _ _=>rfl) (.inl ⟨hE,rfl⟩),hst,⟨_,hE,rfl⟩,hk⟩
       ·obtain ⟨b,hb⟩:=zbG new (Y.wid c') true l5;obtain ⟨p1,p2,p3,p4,p5,p6⟩:=JL hb;have hd:=fin st.nx ys.length true b (st.alloc b) (λid' e=>.inr (by cases e;exact Ra _)) hI.ro (gk _) (di _) (λj hj _=>ZaB st b j hj) (λ_ _ q _=>q) (jaG st b) p2 (by rw [p1,l3]) (by simp) ⟨λ_=>⟨.inl p3,by simp⟩,λ_=>rfl⟩ (λi x hx j u hu=>by rw [p5];exact l4 i x (by simpa using hx) j u hu)
        refine ⟨_,_,(base _).2 ?_,hd⟩;have z':Nat.beq ys.length 0=false:=by rw [dl];intro q;rw [Rc] at q;omega
        simp only [b1',Qa,z',Yc,hb,jy,gf]
      ·rw [e1] at q1;cases q1;have hold:=z7 (off:=0) (b:=b) (DA:=DatA Y (ji o0 E m) st) (λi x hx=>by rw [dd];exact q9 i x hx) q10
       simp only [dd] at hold;have b1':Nat.ble ((xs.length+ys.length)*ti.bytes) 1099511627776=true:=by rw [xd];exact b1
       have roT:Nat.ble ro id=true:=by rw [xd];exact q2
       have le1:xs.length*Y.wid c'<=cap*Y.wid c':=gm _ q5;by_cases hcap:xs.length+ys.length<=cap
       ·have le2:(xs.length+ys.length)*Y.wid c'<=cap*Y.wid c':=gm _ hcap;obtain ⟨b',hp⟩:=Blk.put_ok new b (xs.length*Y.wid c') (by rw [q7,l3,<-Yl];exact le2) l5
        obtain ⟨p1,p2,p3,p4,p5,p6,p7⟩:=Blk.put_spec _ _ _ _ hp;have hd:=fin id cap op b' (st.write id b') (λid' e=>.inl (by cases e;exact ⟨_,e1⟩)) q2 (by rw [Zch];exact q3) (by rw [Zch];exact Ra _) (λj hj hh=>JcJ st b' id j (λz=>by subst z;exact hh _ e1)) (λj _ h2 h3=>jdJ st b' id j h2 (h3 id _ e1)) (ZcZ st b' id) (p2.trans q6) (p1.trans q7) (by rw [Rb];exact hcap)
         ⟨λz=>by rw [p3,Rb];have:=q8.1 z;exact ⟨this.1,by omega⟩,q8.2⟩ (ZdJ hold l4 (λk=>p5 k))
        refine ⟨_,_,(base _).2 ?_,hd⟩;have c4:Nat.ble (xs.length+ys.length) cap=true:=by rw [xd];exact hcap
        simp only [q4,b1',c4,Qa,roT,dd,hp,jy,Rb]
       ·have c4:Nat.ble (xs.length+ys.length) cap=false:=by rw [dl];intro q;rw [xd] at q;exact hcap q
        have grown:∃b',JcH b 0 xs.length (Y.wid c') new=some b'/\b'.es=Y.wid c'/\b'.op=true/\b'.sz=(xs.length+ys.length)*Y.wid c'/\Cel Y c' (xs++ys) b'.get (DatA Y (ji o0 E m) st):=by
         unfold JcH;cases hq:(b.op&&Nat.beq 0 0&&Nat.beq (xs.length*Y.wid c') b.sz&&Nat.beq b.es (Y.wid c')) with
         | true=>
          simp only [yb,Rc] at hq;simp only [Qa];unfold Blk.grow;have hq2:=hq.1.2;obtain ⟨b',hb'⟩:=Blk.put_ok new { b with sz:=b.sz+new.length,op:=true } b.sz (by dsimp only;omega) l5
          obtain ⟨p1,p2,p3,p4,p5,p6,p7⟩:=Blk.put_spec _ _ _ _ hb';refine ⟨b',hb',p2.trans q6,p3,by rw [p1];dsimp only;rw [<-hq2,l3,<-Yl],λi x hx j u hu=>?_⟩
          refine ZdJ (get:=λk=>if k<b.sz then b.get k else none) (get':=λk=>if k<b.sz+new.length then b'.get k else none) ?_ l4 ?_ i x hx j u hu |>.elim λv hv=>⟨v,?_,hv.2⟩
          ·intro i x hx j u hu;obtain ⟨v,z1,z2⟩:=hold i x hx j u hu;exact ⟨v,by dsimp only;rw [ya (Blk.get_lt z1)];exact z1,z2⟩
          ·intro k;rw [hq2];by_cases z1:k<b.sz+new.length
           ·rw [ya z1,p5 k];by_cases z2:b.sz<=k
            ·rw [ya ⟨z2,z1⟩,ya ⟨z2,z1⟩]
            ·rw [ga (by omega),ga (by omega),ya (by omega)]
             unfold Blk.get;dsimp only;have a1:Nat.blt k (b.sz+new.length)=true:=by rw [ge];exact z1
             have a2:Nat.blt k b.sz=true:=by rw [ge];omega
             rw [a1,a2]
           ·rw [ga z1,ga (by omega),ga (by omega)]
          ·have:=hv.1;dsimp only at this;split at this
           ·exact this
           ·cases this
         | false=>
          have hw0:=hw;have key:∀k,k<xs.length*Y.wid c'->∃v,b.get k=some v/\v.atom=true:=by
           intro k hk;have h1:k / Y.wid c'<xs.length:=Nat.div_lt_of_lt_mul (by rw [yl];exact hk)
           have h2:k%Y.wid c'<Y.wid c':=gh _ hw0;have hx:=List.getElem?_eq_getElem h1;have hu:(Y.cells c' xs[k / Y.wid c'])[k%Y.wid c']?=some _:=List.getElem?_eq_getElem (by rw [Y.len];exact h2)
           obtain ⟨v,z1,z2⟩:=hold _ _ hx _ _ hu;rw [Nat.div_add_mod'] at z1;exact ⟨v,z1,jch (E:=E) (Zb1 (Y.flat _ _ _ (List.mem_of_getElem? hu))) z2.rel⟩
          let old:List V:=(List.range (xs.length*Y.wid c')).map λk=>(b.get k).getD (.b false)
          have hol:old.length=xs.length*Y.wid c':=by simp [old]
          have hog:∀k,k<xs.length*Y.wid c'->old[k]?=b.get k:=by
           intro k hk;obtain ⟨v,z1,_⟩:=key k hk;simp only [old];rw [List.getElem?_map,List.getElem?_range hk,yg,z1,dm]
          have hrow:b.row (xs.length*Y.wid c') 0=some old:=by
           have:=Blk.row_ok (b:=b) old 0 (λj hj=>by rw [dd,hog j (by rw [<-hol];exact hj)])
           rwa [hol] at this
          have hoa:∀v∈old++new,v.atom=true:=by
           intro v hv;rcases Rf.1 hv with z|z
           ·obtain ⟨j,hj⟩:=List.mem_iff_getElem?.1 z;have hjl:j<xs.length*Y.wid c':=by rw [<-hol];exact (List.getElem?_eq_some_iff.1 hj).1
            rw [hog j hjl] at hj;obtain ⟨v',z1,z2⟩:=key j hjl;rw [hj] at z1;cases z1;exact z2
           ·exact l5 v z
          obtain ⟨b',hb'⟩:=zbG (old++new) (Y.wid c') true hoa;obtain ⟨p1,p2,p3,p4,p5,p6⟩:=JL hb';refine ⟨b',by simp only [Yc,hrow,hb'],p2,p3,by rw [p1,Rb,hol,l3,<-Yl],ZdJ (get:=λk=>old[k]?) ?_ l4 (λk=>?_)⟩
          ·intro i x hx j u hu;obtain ⟨v,z1,z2⟩:=hold i x hx j u hu;have hj:j<Y.wid c':=by rw [<-Y.len c' x];exact (List.getElem?_eq_some_iff.1 hu).1
           have:(i+1)*Y.wid c'<=xs.length*Y.wid c':=gm _ (List.getElem?_eq_some_iff.1 hx).1;rw [xl] at this;exact ⟨v,by dsimp only;rw [hog _ (by omega)];exact z1,z2⟩
          ·rw [p5];by_cases z:xs.length*Y.wid c'<=k
           ·rw [List.getElem?_append_right (by rw [hol];exact z),hol]
            by_cases z2:k<xs.length*Y.wid c'+new.length
            ·rw [ya ⟨z,z2⟩]
            ·rw [ga (by omega),List.getElem?_eq_none (by omega),List.getElem?_eq_none (by rw [hol];exact z)]
           ·rw [ga (by omega),List.getElem?_append_left (by rw [hol];omega)]
        obtain ⟨b',g1,g2,g3,g4,g5⟩:=grown;have ver2:∀st':St,(∀j,j<=st.ver->j<=id->j<=st'.ver)->(∀j,j<=st.nx->j<=st.ver->(∀id y,E[r]?=some (some id,y)->j<=id)->j<=st'.ver):=λst' hh j _ h2 h3=>hh j h2 (h3 id _ e1)
        cases op with
        | true=>
         obtain ⟨o1,o2⟩:=q8.1 rfl;have o1:b.op=true:=o1.resolve_right (by rw [hcv];decide)
         have hd:=fin st.nx (xs++ys).length true b' (St.alloc ⟨st.nx,(st.kill id).hp,(st.kill id).ver⟩ b') (λid' e=>.inr (by cases e;exact Ra _)) hI.ro (gk _) (di _)
          (λj hj hh=>by
           show (St.alloc ⟨st.nx,(st.kill id).hp,(st.kill id).ver⟩ b').hp.get j=_;rw [ZaB ⟨st.nx,(st.kill id).hp,(st.kill id).ver⟩ b' j hj,St.kill_eq];dsimp only;rw [Tgu,ga (λz=>by subst z;exact hh _ e1)])
          (ver2 _ (λj h1 h2=>by show j<=(st.kill id).ver;rw [St.kill_eq];exact ze4 h1 h2)) (jaG ⟨st.nx,(st.kill id).hp,(st.kill id).ver⟩ b') g2 (by rw [g4,Rb]) (Ra _) ⟨λ_=>⟨.inl g3,rfl⟩,λ_=>rfl⟩ g5
         refine ⟨_,_,(base _).2 ?_,hd⟩;have c5:(Nat.ble ro id&&b.op&&Nat.beq b.es (Y.wid c')&&Nat.beq (0+cap*Y.wid c') b.sz)=true:=by rw [roT,o1,q6,q7];simp
         simp only [q4,b1',c4,Qa,Yc,g1,c5,jy,Rb]
        | false=>
         have hd:=fin st.nx (xs++ys).length true b' (st.alloc b') (λid' e=>.inr (by cases e;exact Ra _)) hI.ro (gk _) (di _) (λj hj _=>ZaB st b' j hj) (λ_ _ q _=>q) (jaG st b') g2 (by rw [g4,Rb]) (Ra _) ⟨λ_=>⟨.inl g3,rfl⟩,λ_=>rfl⟩ g5
         refine ⟨_,_,(base _).2 ?_,hd⟩;simp only [q4,b1',c4,Qa,Yc,g1,jy,Rb]
     ·exact h2.elim
    ·exact h2.elim
  ·exact h.elim
 ·exact h.elim
theorem Zcx {α β:Type} {f:α->List (U S)} {g:β->List (U S)} {xs:List α} {ys:List β} (h:xs.map f=ys.map g):xs.length=ys.length/\∀(i:Nat) x,xs[i]?=some x->∃y,ys[i]?=some y/\f x=g y:=by
 refine ⟨by have:=Ya List.length h;simpa using this,λi x hx=>?_⟩
 have:=Ya (·[i]?) h;simp only [List.getElem?_map,hx,yg] at this;cases hy:ys[i]? with
 | none=>rw [hy] at this;cases this
 | some y=>rw [hy] at this;exact ⟨y,rfl,Rd this⟩
theorem jfy {own:Nat->Prop} {c:S.Cd} {xs:List (S.Den c)} {bs:List UInt8} {b:Blk} {off:Nat} (hw:Y.wid c=1) (hm:xs.map (Y.cells c)=bs.map (λy=>[.i .u8 (y.toNat:Int)])) (hc:Cel Y c xs (λk=>b.get (off+k)) (DatA Y own st)):Jfu b xs.length off=some (V.str bs):=by
 obtain ⟨hl,hg⟩:=Zcx hm;have cell:∀j,j<bs.length->b.get (off+j)=(cB bs)[j]?:=by
  intro j hj;have hx:=List.getElem?_eq_getElem (l:=xs) (i:=j) (by omega)
  obtain ⟨y,e1,e2⟩:=hg j _ hx;obtain ⟨v,e3,e4⟩:=hc j _ hx 0 (.i .u8 (y.toNat:Int)) (by rw [e2];rfl)
  dsimp only at e3;rw [hw,Hj,Re] at e3;cases e4;rw [e3,ZgJ,e1];rfl
 have:=Blk.row_ok (b:=b) (cB bs) off (λj hj=>cell j (by rwa [zbb] at hj))
 rw [zbb] at this;rw [hl];exact Jhs this (Zen bs)
theorem Zfy (hI:Inv Y G o0 ro E nx m st) {s d:TypeId} {x:U S} {xv:V} {k:Kn S} (h:jeA Y P nx m s d x k) (hx:RelV Y (Dat Y (ji o0 E m) st) E x xv) :
  ∃v st',JT P st s d xv=some (v,st')/\zcH Y G o0 ro E m st k (some v) st':=by
 unfold jeA at h;split at h
 ·rename_i hs hd;simp only [RelV] at hx;subst hx;exact ⟨_,st,by unfold JT;simp only [hs,hd],Z0 hI (u:=.i _ _) rfl (Jbx h)⟩
 ·rename_i hs hd;simp only [RelV] at hx;subst hx;exact ⟨_,st,by unfold JT V.str;simp only [hs,hd],Z0 hI (u:=.s _) rfl h⟩
 ·rename_i e l hs hd;split at h
  ·rename_i c he hcode;simp only [RelV] at hx;subst hx;obtain ⟨h1,h⟩:=h;obtain ⟨xs,hw,hm,hk⟩:=Y.ofB_ok _ _ _ h;obtain ⟨hl,hg⟩:=Zcx hm;obtain ⟨b,hb⟩:=zbG (cB l) 1 false (jcY l);obtain ⟨p1,p2,p3,p4,p5,p6⟩:=JL hb;have hcl:Cel Y c xs b.get (DatA Y (ji o0 E m) st):=(λi x hx j u hu=>by
    obtain ⟨y,e1,e2⟩:=hg i x hx;rw [e2] at hu;cases j with
    | zero=>
     simp only [List.getElem?_cons_zero,xa] at hu;subst hu;exact ⟨_,by rw [hw,Hj,Re,p5,ZgJ,e1];rfl,.i _ _⟩
    | succ j=>simp at hu)
   have hd2:zcH Y G o0 ro E m st k (some (.sl st.nx 0 xs.length xs.length true)) (st.alloc b):=by
    cases hcv:(Y.cvb&&!(Y.opn c)) with
    | false=>
     rw [hcv,Yc] at hk;exact jf5 (b:=b) (cap:=xs.length) (op:=true) hI hk (Ra _) hcl
    | true=>
     rw [hcv,Qa] at hk;exact zf5 (b:=b) (cap:=xs.length) (op:=true) hI hk (p2.trans hw.symm) (by rw [p1,zbb,hw,Hj,hl]) (Ra _) ⟨λ_=>⟨.inr hcv,rfl⟩,λ_=>rfl⟩ hcl
   rw [hl] at hd2;refine ⟨_,_,?_,hd2⟩;have c1:Nat.ble l.length 1099511627776=true:=by rw [xd];exact h1
   unfold JT V.str;simp only [hs,hd,he,c1,Qa,zdI,hb,jy]
  ·exact h.elim
 ·rename_i e hs hd;split at h
  ·rename_i he;simp only [RelV] at hx;subst hx;exact ⟨.s 0 0,st,by unfold JT;simp only [hs,hd,he],Z0 hI (u:=.s []) rfl h⟩
  ·exact h.elim
 ·rename_i e c xs hs hd;split at h
  ·rename_i he;obtain ⟨bs,hw,hm,hk⟩:=Y.byt_ok _ _ _ h;simp only [RelV] at hx;cases hx with
   | nil=>
    obtain ⟨hl,_⟩:=Zcx hm;have:bs=[]:=Rk.1 hl.symm;subst this;exact ⟨.s 0 0,st,by unfold JT;simp only [hs,hd,he],Z0 hI (u:=.s []) rfl hk⟩
   | ne=>
    obtain ⟨hl,_⟩:=Zcx hm;have:bs=[]:=Rk.1 hl.symm;subst this;exact ⟨.s 0 0,st,by unfold JT;simp only [hs,hd,he],Z0 hI (u:=.s []) rfl hk⟩
   | ze=>
    obtain ⟨hl,_⟩:=Zcx hm;have:bs=[]:=Rk.1 hl.symm;subst this;exact ⟨.s 0 0,st,by unfold JT;simp only [hs,hd,he],Z0 hI (u:=.s []) rfl hk⟩
   | mk vs h1 h2 h3 h4 h5 h6=>
    exact ⟨V.str bs,st,by unfold JT;simp only [hs,hd,he,h3,jfy hw hm (z7 h4 h5)],Z0 hI (u:=.s bs) rfl hk⟩
  ·exact h.elim
 ·rename_i e r hs hd;split at h
  ·rename_i c xs he hr;obtain ⟨bs,hw,hm,hk⟩:=Y.byt_ok _ _ _ h;simp only [RelV] at hx;obtain ⟨y,e1,_⟩:=hx;rcases hI.ent r _ hr with ⟨q1,q2⟩|⟨id,cap,op,b,q1,q2,q3,q4,q5,q6,q7,q8,vs,q9,q10⟩
   ·rw [e1] at q1;cases q1;subst q2;obtain ⟨hl,_⟩:=Zcx hm;have:bs=[]:=Rk.1 hl.symm;subst this;exact ⟨.s 0 0,st,by unfold JT;simp only [hs,hd,he],Z0 hI (u:=.s []) rfl hk⟩
   ·rw [e1] at q1;cases q1;exact ⟨V.str bs,st,by unfold JT;simp only [hs,hd,he,q4,jfy hw hm (z7 (λi x hx=>by rw [dd];exact q9 i x hx) q10)],Z0 hI (u:=.s bs) rfl hk⟩
  ·exact h.elim
 ·rename_i e r w i hs hd;split at h
  ·rename_i c xs he hr;cases hwc:Nat.beq w (Y.wid c) with
   | false=>rw [hwc] at h;exact h.elim
   | true=>
    rw [hwc,Qa] at h;rw [Rc] at hwc;subst hwc;obtain ⟨bs,hw,hm,hk⟩:=Y.byt_ok _ _ _ h;obtain ⟨hl,_⟩:=Zcx hm;simp only [RelV] at hx;obtain ⟨x,y,e1,hv⟩:=hx;have none:xs.drop i=[]->bs=[]:=λq=>Rk.1 (by rw [<-hl,q];rfl)
    rcases hI.ent r _ hr with ⟨q1,q2⟩|⟨id,cap,op,b,q1,q2,q3,q4,q5,q6,q7,q8,vs,q9,q10⟩
    ·rw [e1] at q1;cases q1;subst q2;have:=none (by simp)
     subst this;obtain ⟨_,rfl⟩|⟨_,_,_,_,q,_⟩:=hv
     ·exact ⟨.s 0 0,st,by unfold JT;simp only [hs,hd,he],Z0 hI (u:=.s []) rfl hk⟩
     ·cases q
    ·rw [e1] at q1;cases q1;obtain ⟨q,_⟩|⟨_,_,_,_,q,hi,hv⟩:=hv
     ·cases q
     cases q;have hlen:(xs.drop i).length=xs.length-i:=Hb;obtain ⟨o,cap',op',ho,rfl⟩|⟨hi2,o,o2,rfl⟩:=hv
     ·have hc:Cel Y c (xs.drop i) (λk=>b.get (o+k)) (DatA Y (ji o0 E m) st):=by
       by_cases hlt:i<xs.length
       ·rw [ho hlt];refine z7 (vs:=λj=>vs (i+j)) (λj x hx=>?_) (λj x hx=>?_)
        ·rw [<-Yl];exact q9 (i+j) x (by rw [List.getElem?_drop] at hx;exact hx)
        ·exact q10 (i+j) x (by rw [List.getElem?_drop] at hx;exact hx)
       ·intro j x hx;rw [List.getElem?_eq_none (by omega)] at hx
        cases hx
      have ht:=jfy hw hm hc;rw [hlen] at ht;exact ⟨V.str bs,st,by unfold JT;simp only [hs,hd,he,q4,ht],Z0 hI (u:=.s bs) rfl hk⟩
     ·have:=none (Rk.1 (by omega))
      subst this;exact ⟨.s 0 0,st,by unfold JT;simp only [hs,hd,he],Z0 hI (u:=.s []) rfl hk⟩
  ·exact h.elim
 ·exact h.elim
theorem jgP (hI:Inv Y G o0 ro E nx m st) {s d:TypeId} {x:U S} {xv:V} {k:Kn S} (h:jgO Y P nx m s d x k) (hx:RelV Y (Dat Y (ji o0 E m) st) E x xv) :
  ∃v st',Jdf P ro st s d xv=some (v,st')/\zcH Y G o0 ro E m st k (some v) st':=by
 unfold jgO at h;split at h
 ·rename_i e e2 r hs hd;split at h
  ·rename_i c xs he hr;cases hq:decide (s=d) with
   | false=>rw [hq] at h;exact h.elim
   | true=>
    rw [hq,Qa] at h;have hx0:=hx;simp only [RelV] at hx;obtain ⟨y,e1,_⟩:=hx;obtain ⟨id,b,q1,q2,q3,q4,q5,q6⟩:=hI.ent r _ hr;rw [e1] at q1;cases q1;have c1:(decide (s=d)&&!b.op&&Nat.ble ro id)=true:=by
     rw [hq,q5,show Nat.ble ro id=true from by rw [xd];exact q2]
     rfl
    exact ⟨_,st,by unfold Jdf;simp only [hs,hd,he,q4,c1,Qa],Z0 hI hx0 h⟩
  ·exact h.elim
 ·obtain ⟨v,st',h7,h8⟩:=Zfy hI h hx;exact ⟨v,st',JgH h7,h8⟩
theorem Zje (hI:Inv Y G o0 ro E nx m st) {o:Op} {k:Kn S} (h:sE Y P fr nx m o k) (hf:RelF Y (Dat Y (ji o0 E m) st) E fr frV):∃res st',(∀call,vop P ro call frV st o=some (res,st'))/\zcH Y G o0 ro E m st k res st':=by
 unfold sE at h;split at h
 ·obtain ⟨u,v,h1,h2,h3⟩:=jB h hf;obtain ⟨w,z,h4,h5,h6⟩:=jB h3 hf;obtain ⟨id,off,st',rfl,h7,h8⟩:=zgP hI h6 h2 h5;exact ⟨none,st',λcall=>by simp only [vop,h1,h4,h7],h8⟩
 ·split at h
  ·rename_i z n hz hn;cases hs:jbV z with
   | false=>rw [hs] at h;exact h.elim
   | true=>
    rw [hs] at h;obtain ⟨w,e1,e2⟩:=zdv (Y:=Y) hz;obtain ⟨b,h1,h2⟩:=ZhW (es:=n) hI h (RelV.cells hs (e2 (Dat Y (ji o0 E m) st) E));exact ⟨_,_,λcall=>by simp only [vop,e1,hn,jdf,h1,jy],h2⟩
  ·exact h.elim
 ·split at h
  ·rename_i n hn;obtain ⟨u,v,h1,h2,h3⟩:=jB h hf;cases hs:jbV u with
   | false=>rw [hs] at h3;exact h3.elim
   | true=>
    rw [hs] at h3;obtain ⟨b,h4,h5⟩:=ZhW (es:=n) hI h3 (RelV.cells hs h2);exact ⟨_,_,λcall=>by simp only [vop,h1,hn,jdf,h4,jy],h5⟩
  ·exact h.elim
 ·obtain ⟨us,vs,h1,h2,h3⟩:=jdI hf h;obtain ⟨v,st',h4,h5⟩:=Jeb hI h3 h2;exact ⟨some v,st',λcall=>by simp only [vop,h1,h4],h5⟩
 ·obtain ⟨u,v,h1,h2,h3⟩:=jB h hf;obtain ⟨w,z,h4,h5,h6⟩:=jB h3 hf;split at h6
  ·simp only [RelV] at h2 h5;subst h2 h5;obtain ⟨v,st',h7,h8⟩:=ZeA hI h6;exact ⟨some v,st',λcall=>by simp only [vop,h1,h4,h7],h8⟩
  ·exact h6.elim
 ·obtain ⟨u,v,h1,h2,h3⟩:=jB h hf;obtain ⟨v,st',h7,h8⟩:=jgP hI h3 h2;exact ⟨some v,st',λcall=>by simp only [vop,h1,h7],h8⟩
 ·rename_i c;obtain ⟨callee,args,ts⟩:=c;dsimp only at h;split at h
  ·rename_i s x t u hc ha ht;split at h
   ·exact h.elim
   ·rename_i d hni hu;obtain ⟨su,sv,h1,h2,h3⟩:=jB h hf;obtain ⟨xu,xv,h4,h5,h6⟩:=jB h3 hf;obtain ⟨v,st',h7,h8⟩:=zeo hI h6 h2 h5;refine ⟨some v,st',λcall=>?_,h8⟩
    simp only [vop,ha,ht,ja4,h1,h4,ZZ,hu];cases d <;> first|exact absurd rfl (hni _)|simp only [h7]
   ·exact h.elim
  ·exact h.elim
 ·exact h.elim
end
end Go.Sx
namespace Go.Sx
open Go.Vm
structure Z (S:Sg) where
 fr:T (U S)
 nx:Nat
 m:T (Ct S)
 ks:List Nat
abbrev Zj (S:Sg):=FuncId->List (U S)->Nat->T (Ct S)->Kn S->Prop
abbrev ZY (S:Sg):=Code->Z S->(Ex->Z S->Prop)->Prop
def Zhv:Nat->Nat->List Bool
 | 0,_=>[]
 | f+1,i=>match i with
  | 0=>[]
  | k+1=>Nat.beq (k%2) 0::Zhv f (k / 2)
def zif {α:Type}:List Bool->T α->Option α->(T α->Prop)->Prop
 | [],.e,v,k=>k (.n .e v .e)
 | [],.n l _ r,v,k=>k (.n l v r)
 | true::p,.e,v,k=>zif p .e v λl=>k (.n l none .e)
 | true::p,.n l x r,v,k=>zif p l v λl=>k (.n l x r)
 | false::p,.e,v,k=>zif p .e v λr=>k (.n .e none r)
 | false::p,.n l x r,v,k=>zif p r v λr=>k (.n l x r)
theorem ZiO {α:Type} (v:Option α) (r x:T α):T.mkL v r x=.n x v r:=by cases x <;> rfl
theorem JiO {α:Type} (v:Option α) (l x:T α):T.mkR l v x=.n l v x:=by cases x <;> rfl
theorem ZgP {α:Type} (v:Option α):∀(f:Nat) (t:T α) (i:Nat) (k:T α->Prop),i<f->zif (Zhv f i) t v k=k (T.go v f t i)
 | 0,_,_,_,h=>absurd h (Nat.not_lt_zero _)
 | f+1,t,i,k,h=>by
  cases i with
  | zero=>cases t <;> rfl
  | succ j=>
   have hj:j / 2<f:=by omega
   simp only [Zhv,T.go];cases hb:Nat.beq (j%2) 0 <;> cases t <;> simp only [zif,Qa,Yc,ZiO,JiO] <;> rw [ZgP v f _ _ _ hj]
def jif {α:Type} (t:T α) (i:Nat) (v:Option α) (k:T α->Prop):Prop:=zif (Zhv (i+1) i) t v k
theorem Jfy {α:Type} (t:T α) (i:Nat) (v:Option α) (k:T α->Prop):jif t i v k=k (t.upd i v):=ZgP v (i+1) t i k (gk i)
def zcK {α:Type}:T α->(T α->Prop)->Prop
 | .e,k=>k .e
 | .n l v r,k=>zcK l λl=>zcK r λr=>k (.n l v r)
theorem jbb {α:Type}:∀(t:T α) (k:T α->Prop),zcK t k=k t
 | .e,k=>rfl
 | .n l v r,k=>by rw [zcK,jbb l,jbb r]
section
variable {S:Sg} (Y:Sy S) (P:Program) (G:Gl)
def jt (z:Z S) (k:Z S->Prop):Prop:=zcK z.fr λfr=>zcK z.m λm=>k ⟨fr,z.nx,m,z.ks⟩
theorem JdJ (z:Z S) (k:Z S->Prop):jt z k=k z:=by unfold jt;rw [jbb,jbb]
def Jhv (ks:List Nat) (fr:T (U S)) (k:T (U S)->Prop):Prop:=match ks with
 | []=>k fr
 | n::r=>zcK (Jey (kill (n::r)) fr) k
def Jgo (ks:List Nat) (fr:T (U S)):T (U S):=match ks with
 | []=>fr
 | k::r=>Jey (kill (k::r)) fr
def Ze5:U S->Bool
 | .b _|.kb _|.i _ _|.s _|.pn|.sn|.fz|.nz=>true
 | _=>false
def JeA:List (U S)->Bool
 | []=>true
 | u::us=>Ze5 u&&JeA us
def zdK:U S->Bool
 | .a us|.t us=>JeA us
 | u=>Ze5 u
def sOp (C:Zj S) (fr:T (U S)) (nx:Nat) (m:T (Ct S)) (o:Op) (k:Kn S):Prop:=match o with
 | .store t x v=>sE Y P fr nx m (.store t x v) k
 | .alloc t=>sE Y P fr nx m (.alloc t) k
 | .box t x=>sE Y P fr nx m (.box t x) k
 | .buildSlice t l ps=>sE Y P fr nx m (.buildSlice t l ps) k
 | .makeSlice t l c=>sE Y P fr nx m (.makeSlice t l c) k
 | .convert s d x=>sE Y P fr nx m (.convert s d x) k
 | .call c=>match c.callee with
  | .value f=>jbG fr f λw=>match w with
   | .f fn caps=>Zfx fr c.args.toList λus=>C fn (us++caps) nx m k
   | _=>False
  | .builtin .append=>sE Y P fr nx m (.call c) k
  | _=>sQ Y P G fr m (.call c) λu=>k (some u) nx m [] []
 | o=>sQ Y P G fr m o λu=>k (some u) nx m [] []
def zhX (k:U S->Prop):Kn S:=λu _ _ ks wr=>match u,ks,wr with
 | some u,[],[]=>cond (zdK u) (k u) False
 | _,_,_=>False
def Jje (C:Zj S) (fr:T (U S)) (nx:Nat) (m:T (Ct S)) (o:Op) (k:U S->Prop):Prop:=match o with
 | .call c=>match c.callee with
  | .value f=>jbG fr f λw=>match w with
   | .f fn caps=>Zfx fr c.args.toList λus=>C fn (us++caps) nx m (zhX k)
   | _=>False
  | _=>sQ Y P G fr m (.call c) k
 | o=>sQ Y P G fr m o k
def zgE (nt:Nat) (fr:T (U S)) (dst:Option Nat) (v:Option (U S)) (k:T (U S)->Prop):Prop:=match dst with
 | none=>k fr
 | some d=>cond (Nat.blt d nt) (match v with
  | some u=>jif fr d (some u) k
  | none=>jif fr d (some (.t [])) k) False
def Je5 (ops:Array Oper) (g:Option (Nat×Bool)) (fr:T (U S)) (run skip:T (U S)->Prop):Prop:=match g with
 | none=>run fr
 | some (j,want)=>match (ops[j]?).bind (·.dst) with
  | none=>skip fr
  | some d=>match fr.get d with
   | some (.kb x)=>cond (x==want) (run fr) (skip fr)
   | some (.b x)=>(x=want->jif fr d (some (.kb want)) run)/\(x = !want->jif fr d (some (.kb (!want))) skip)
   | some (.t _)=>skip fr
   | _=>False
def JiI (C:Zj S) (nt:Nat) (ops:Array Oper):List Oper->Z S->(Z S->Prop)->Prop
 | [],z,K=>K z
 | o::r,z,K=>Je5 ops o.guard z.fr
  (λfr=>sOp Y P G C fr z.nx z.m o.op λu nx' m' ks _=>zcK m' λm'=>Jhv ks fr λfr=>zgE nt fr o.dst u λfr'=>JiI C nt ops r ⟨fr',nx',m',ks++z.ks⟩ K)
  (λfr=>zgE nt fr o.dst none λfr'=>JiI C nt ops r ⟨fr',z.nx,z.m,z.ks⟩ K)
def zfz (C:Zj S) (nt:Nat) (ops:Array Oper) (nx:Nat) (m:T (Ct S)):List Oper->T (U S)->(T (U S)->Prop)->Prop
 | [],fr,K=>K fr
 | o::r,fr,K=>Je5 ops o.guard fr
  (λfr=>Jje Y P G C fr nx m o.op λu=>zgE nt fr o.dst (some u) λfr'=>zfz C nt ops nx m r fr' K)
  (λfr=>zgE nt fr o.dst none λfr'=>zfz C nt ops nx m r fr' K)
structure SE (S:Sg) where
 x:Nat
 t:TypeId
 a:U S
 u:U S
def jcK (ops:Array Oper) (i:Nat):List (SE S)->List (SE S)
 | []=>[]
 | e::r=>match Region.waitsT .any ops i e.x with
  | true=>jcK ops i r
  | false=>e::jcK ops i r
def jfz (ks:List Nat) (es:List (SE S)):List (SE S):=match ks with
 | []=>es
 | k::r=>es.map λe=>⟨e.x,e.t,kill (k::r) e.a,kill (k::r) e.u⟩
def ziP (m:T (Ct S)):U S->Bool
 | .b _|.kb _|.i _ _|.s _|.pn|.sn|.fz|.nz|.p _ _|.g _ _=>true
 | .o r=>match m.get r with
  | some (.buf _ _)=>true
  | _=>false
 | _=>false
def zjb (m:T (Ct S)):List (U S)->Bool
 | []=>true
 | u::us=>ziP m u&&zjb m us
def zjf (m:T (Ct S)):U S->Bool
 | .a us=>zjb m us
 | u=>ziP m u
def zhw (m:T (Ct S)):List (SE S)->Prop->Prop
 | [],p=>p
 | e::r,p=>Zgo Y P G m e.t e.a λu=>u=e.u/\cond (zjf m u) (zhw m r p) False
def jhw (C:Zj S) (nt:Nat) (ops:Array Oper):List (Nat×Oper)->List (SE S)->Z S->(Z S->Prop)->Prop
 | [],_,z,K=>K z
 | (i,o)::r,es,z,K=>Je5 ops o.guard z.fr
  (λfr=>match jcn o.op with
   | 0=>sQ Y P G fr z.m o.op λu=>zgE nt fr o.dst (some u) λfr'=>jhw C nt ops r es ⟨fr',z.nx,z.m,z.ks⟩ K
   | 1=>match o.op with
    | .load t x=>jbG fr x λa=>Zgo Y P G z.m t a λu=>zgE nt fr o.dst (some u) λfr'=>jhw C nt ops r (⟨i,t,a,u⟩::es) ⟨fr',z.nx,z.m,z.ks⟩ K
    | _=>False
   | _=>sOp Y P G C fr z.nx z.m o.op λu nx' m' ks wr=>zcK m' λm'=>Jhv ks fr λfr=>match wr with
    | []=>zgE nt fr o.dst u λfr'=>jhw C nt ops r (jfz ks (jcK ops i es)) ⟨fr',nx',m',ks++z.ks⟩ K
    | _::_=>zhw Y P G m' (jfz ks (jcK ops i es)) (zgE nt fr o.dst u λfr'=>jhw C nt ops r (jfz ks (jcK ops i es)) ⟨fr',nx',m',ks++z.ks⟩ K))
  (λfr=>zgE nt fr o.dst none λfr'=>jhw C nt ops r es ⟨fr',z.nx,z.m,z.ks⟩ K)
def sC (C:Zj S) (L:ZY S) (nt:Nat):Code->Z S->(Ex->Z S->Prop)->Prop
 | .skip,z,K=>K .nrm z
 | .label _,z,K=>K .nrm z
 | .exit i,z,K=>K (.exit i) z
 | .goto i,z,K=>K (.goto i) z
 | .ret,z,K=>K .ret z
 | .region _ ops draw,z,K=>match draw with
  | false=>JiI Y P G C nt ops ops.toList z (K .nrm)
  | true=>cond (JgF P ops) (zfz Y P G C nt ops z.nx z.m ops.toList z.fr λfr=>K .nrm ⟨fr,z.nx,z.m,z.ks⟩)
   (cond (ZgF ops) (zfz Y P G C nt ops z.nx z.m (ops.toList.take (ops.size-1)) z.fr λfr=>JiI Y P G C nt ops (ops.toList.drop (ops.size-1)) ⟨fr,z.nx,z.m,z.ks⟩ (K .nrm))
   (match Zem P ops with
    | some l=>jhw Y P G C nt ops l [] z (K .nrm)
    | none=>cond (Jia ops) (zfz Y P G C nt ops z.nx z.m ops.toList z.fr λfr=>K .nrm ⟨fr,z.nx,z.m,z.ks⟩) False))
 | .seq a b,z,K=>sC C L nt a z λe z'=>match e with
  | .nrm=>sC C L nt b z' K
  | .exit i=>K (.exit i) z'
  | .goto i=>K (.goto i) z'
  | .ret=>K .ret z'
 | .cond c a b,z,K=>match c with
  | .tmp t=>match z.fr.get t with
   | some (.kb true)=>sC C L nt a z K
   | some (.kb false)=>sC C L nt b z K
   | some (.b x)=>(x=true->jif z.fr t (some (.kb true)) λfr=>sC C L nt a ⟨fr,z.nx,z.m,z.ks⟩ K)/\(x=false->jif z.fr t (some (.kb false)) λfr=>sC C L nt b ⟨fr,z.nx,z.m,z.ks⟩ K)
   | _=>False
  | _=>False
 | .block i b,z,K=>sC C L nt b z λe z'=>match e with
  | .nrm=>K .nrm z'
  | .exit j=>cond (Nat.beq j i) (K .nrm z') (K (.exit j) z')
  | .goto i=>K (.goto i) z'
  | .ret=>K .ret z'
 | .loop b,z,K=>L b z K
 | .scope b,z,K=>sC C L nt b z λe z'=>match e with
  | .nrm=>K .nrm z'
  | .exit j=>K (.exit j) z'
  | .goto _=>False
  | .ret=>K .ret z'
 | _,_,_=>False
def zab:Code->List Code
 | .seq a b=>zab a++zab b
 | .cond _ a b=>zab a++zab b
 | .block _ b=>zab b
 | .scope b=>zab b
 | .loop b=>[b]
 | _=>[]
variable {Y P G}
variable {o0:Nat->Prop} {ro nt:Nat} {ov:Ov}
theorem zeB (ks:List Nat) (fr:T (U S)) (k:T (U S)->Prop):Jhv ks fr k=k (Jgo ks fr):=by
 cases ks with
 | nil=>rfl
 | cons n r=>simp only [Jhv,Jgo,jbb]
structure Bs (S:Sg) where
 E:En
 m:T (Ct S)
 st:St
def Zat (Y:Sy S) (G:Gl) (o0:Nat->Prop) (ro:Nat) (B:Bs S) (z:Z S) (frV:T V) (st:St):Prop:=
 ∃E,Inv Y G o0 ro E z.nx z.m st/\Step o0 B.E B.m B.st E z.m st z.ks [0]/\RelF Y (Dat Y (ji o0 E z.m) st) E z.fr frV
def jC (Y:Sy S) (P:Program) (G:Gl) (ov:Ov) (o0:Nat->Prop) (ro:Nat) (C:Zj S):Prop:=
 ∀f us nx m k,C f us nx m k->∀E st vs,Inv Y G o0 ro E nx m st->RelL Y (Dat Y (ji o0 E m) st) E us vs->∃v st',(∃M,∀n,M<=n->evF P ov ro n f vs st=some (v,st'))/\zcH Y G o0 ro E m st k (some v) st'
def Sem (Y:Sy S) (P:Program) (G:Gl) (ov:Ov) (o0:Nat->Prop) (ro nt:Nat) (st0:Bs S) (c:Code) (z:Z S) (K:Ex->Z S->Prop):Prop:=
 ∀frV st,Zat Y G o0 ro st0 z frV st->∃e frV' st',(∃M,∀n,M<=n->evC P ov ro n nt c frV st=some (e,frV',st'))/\∃z',Zat Y G o0 ro st0 z' frV' st'/\K e z'
theorem Step.anyW {E E':En} {m m':T (Ct S)} {st st':St} {ks wr:List Nat} (h:Step o0 E m st E' m' st' ks wr):Step o0 E m st E' m' st' ks [0]:=⟨h.len,h.same,h.nx,h.keep,h.nam,λj h1 h2 hw=>h.ver j h1 h2 (.inr (hw.elim (λq=>by cases q) λq=>q))⟩
theorem jdK {E E':En} {m m':T (Ct S)} {st st':St} {ks wr:List Nat} {fr:T (U S)} {frV:T V} (hs:Step o0 E m st E' m' st' ks wr) (hf:RelF Y (Dat Y (ji o0 E m) st) E fr frV):RelF Y (Dat Y (ji o0 E' m') st') E' (Jgo ks fr) frV:=by
 intro t u hu;cases ks with
 | nil=>
  obtain ⟨v,h1,h2⟩:=hf t u hu;exact ⟨v,h1,hs.rel h2⟩
 | cons k r=>
  simp only [Jgo] at hu;rw [jcg] at hu;cases hg:fr.get t with
  | none=>rw [hg] at hu;cases hu
  | some u0=>
   rw [hg] at hu;cases hu;obtain ⟨v,h1,h2⟩:=hf t u0 hg;exact ⟨v,h1,hs.relK h2⟩
theorem jeB {D:DD S} {E:En} {fr:T (U S)} {frV:T V} (hf:RelF Y D E fr frV) {d:Nat} {u:U S} {v:V} (h:RelV Y D E u v):RelF Y D E (fr.upd d (some u)) (frV.upd d (some v)):=by
 intro t w hw;rw [Tgu] at hw;by_cases e:t=d
 ·subst e;rw [ya rfl] at hw;cases hw;exact ⟨v,T.get_same,h⟩
 ·rw [ga e] at hw;obtain ⟨x,h1,h2⟩:=hf t w hw;exact ⟨x,by rw [Tgu,ga e];exact h1,h2⟩
theorem Ja8 {D:DD S} {E:En} {fr:T (U S)} {frV:T V} (hf:RelF Y D E fr frV) {d:Nat} {u:U S} {v:V} (hv:frV.get d=some v) (h:RelV Y D E u v):RelF Y D E (fr.upd d (some u)) frV:=by
 intro t w hw;rw [Tgu] at hw;by_cases e:t=d
 ·subst e;rw [ya rfl] at hw;cases hw;exact ⟨v,hv,h⟩
 ·rw [ga e] at hw;exact hf t w hw
theorem Jb1 {D:DD S} {E:En} {fr:T (U S)} {frV:T V} {dst:Option Nat} {u:Option (U S)} {v:Option V} {k:T (U S)->Prop} (h:zgE nt fr dst u k) (hf:RelF Y D E fr frV) (hr:jje Y D E u v):∃fr' frV',Ja4 nt frV dst v=some frV'/\RelF Y D E fr' frV'/\k fr':=by
 unfold zgE at h;simp only [Jfy] at h;cases dst with
 | none=>exact ⟨fr,frV,rfl,hf,h⟩
 | some d=>
  dsimp only at h;cases hd:Nat.blt d nt with
  | false=>rw [hd] at h;exact h.elim
  | true=>
   rw [hd] at h;cases u with
   | none=>
    cases v with
    | some v=>exact hr.elim
    | none=>exact ⟨_,_,by simp only [Ja4,hd,Qa],jeB hf (u:=.t []) (v:=.t []) ⟨[],rfl,rfl⟩,h⟩
   | some u=>
    cases v with
    | none=>exact hr.elim
    | some v=>exact ⟨_,_,by simp only [Ja4,hd,Qa,V.force_eq],jeB hf hr,h⟩
theorem ZdK {D:DD S} {E:En} {fr:T (U S)} {frV:T V} {ops:Array Oper} {o:Oper} {run skip:T (U S)->Prop} (h:Je5 ops o.guard fr run skip) (hf:RelF Y D E fr frV):∃fr',RelF Y D E fr' frV/\((ZG ops frV o=some true/\run fr')\/(ZG ops frV o=some false/\skip fr')):=by
 unfold Je5 at h;simp only [Jfy] at h;unfold ZG;cases hg:o.guard with
 | none=>rw [hg] at h;exact ⟨fr,hf,.inl ⟨rfl,h⟩⟩
 | some g=>
  obtain ⟨j,want⟩:=g;rw [hg] at h;dsimp only at h |-;cases hd:(ops[j]?).bind (·.dst) with
  | none=>rw [hd] at h;exact ⟨fr,hf,.inr ⟨rfl,h⟩⟩
  | some d=>
   rw [hd] at h;dsimp only at h |-;split at h
   ·rename_i x hx;obtain ⟨v,h1,h2⟩:=hf d _ hx;simp only [RelV] at h2;subst h2;rw [h1];dsimp only;cases hq:(x==want) with
    | true=>rw [hq] at h;exact ⟨fr,hf,.inl ⟨rfl,h⟩⟩
    | false=>rw [hq] at h;exact ⟨fr,hf,.inr ⟨rfl,h⟩⟩
   ·rename_i x hx;obtain ⟨v,h1,h2⟩:=hf d _ hx;simp only [RelV] at h2;subst h2;rw [h1];dsimp only;by_cases e:x=want
    ·subst e;exact ⟨_,Ja8 hf h1 (u:=.kb x) rfl,.inl ⟨by simp,h.1 rfl⟩⟩
    ·have e':x = !want:=by cases x <;> cases want <;> first|rfl|exact absurd rfl e
     refine ⟨_,Ja8 hf h1 (u:=.kb (!want)) (by simp only [RelV];rw [e']),.inr ⟨?_,h.2 e'⟩⟩
     have:(x==want)=false:=by cases x <;> cases want <;> first|rfl|exact absurd rfl e
     rw [this]
   ·rename_i us hx;obtain ⟨v,h1,h2⟩:=hf d _ hx;simp only [RelV] at h2;obtain ⟨vs,rfl,_⟩:=h2;rw [h1];exact ⟨fr,hf,.inr ⟨rfl,h⟩⟩
   ·exact h.elim
theorem jhX {C:Zj S} (hC:jC Y P G ov o0 ro C) {E:En} {nx:Nat} {m:T (Ct S)} {st:St} {fr:T (U S)} {frV:T V} (hI:Inv Y G o0 ro E nx m st) {o:Op} {k:Kn S} (h:sOp Y P G C fr nx m o k) (hf:RelF Y (Dat Y (ji o0 E m) st) E fr frV) :
  ∃res st',(∃M,∀n,M<=n->vop P ro (evF P ov ro n) frV st o=some (res,st'))/\zcH Y G o0 ro E m st k res st':=by
 have eff:∀o,sE Y P fr nx m o k->∃res st',(∃M,∀n,M<=n->vop P ro (evF P ov ro n) frV st o=some (res,st'))/\zcH Y G o0 ro E m st k res st':=λo h=>
  let ⟨res,st',h1,h2⟩:=Zje hI h hf
  ⟨res,st',⟨0,λn _=>h1 _⟩,h2⟩
 have quiet:∀o,(sQ Y P G fr m o λu=>k (some u) nx m [] [])->∃res st',(∃M,∀n,M<=n->vop P ro (evF P ov ro n) frV st o=some (res,st'))/\zcH Y G o0 ro E m st k res st':=λo h=>
  let ⟨u,v,h1,h2,h3⟩:=Zid (ro:=ro) hI h hf
  ⟨some v,st,⟨0,λn _=>h1.2 _ st.ver⟩,Z0 hI h2 h3⟩
 unfold sOp at h;split at h
 ·exact eff _ h
 ·exact eff _ h
 ·exact eff _ h
 ·exact eff _ h
 ·exact eff _ h
 ·exact eff _ h
 ·rename_i c;obtain ⟨callee,args,ts⟩:=c;dsimp only at h;split at h
  ·obtain ⟨w,wv,h1,h2,h3⟩:=jB h hf;split at h3
   ·simp only [RelV] at h2;obtain ⟨cv,rfl,h2⟩:=h2;obtain ⟨us,vs,h4,h5,h6⟩:=Zcg hf h3;obtain ⟨v,st',⟨M,h7⟩,h8⟩:=hC _ _ _ _ _ h6 E st (vs++cv) hI (h5.append h2);exact ⟨some v,st',⟨M,λn hn=>by simp only [vop,h4,h1,gf,h7 n hn]⟩,h8⟩
   ·exact h3.elim
  ·exact eff _ h
  ·exact quiet _ h
 ·exact quiet _ h
theorem ZeB {C:Zj S} (hC:jC Y P G ov o0 ro C) {st0:Bs S} {ops:Array Oper}:∀(l:List Oper) {z:Z S} {K:Z S->Prop} {frV:T V} {st:St},JiI Y P G C nt ops l z K->Zat Y G o0 ro st0 z frV st->
  ∃frV' st',(∃M,∀n,M<=n->Jdu P ro nt (evF P ov ro n) ops l frV st=some (frV',st'))/\∃z',Zat Y G o0 ro st0 z' frV' st'/\K z'
 | [],z,K,frV,st,h,hz=>⟨frV,st,⟨0,λ_ _=>rfl⟩,z,hz,h⟩
 | o::r,z,K,frV,st,h,hz=>by
  obtain ⟨E,hI,hS,hf⟩:=hz;simp only [JiI,jbb,zeB] at h;obtain ⟨fr',hf',⟨hw,h⟩|⟨hw,h⟩⟩:=ZdK h hf
  ·obtain ⟨res,st',⟨M,h1⟩,u,nx',m',ks,wr,E',hI',hS',hr,hk⟩:=jhX hC hI h hf';obtain ⟨fr2,frV2,h2,h3,h4⟩:=Jb1 hk (jdK hS' hf') hr;obtain ⟨frV3,st3,⟨M2,h5⟩,h6⟩:=ZeB hC r h4 ⟨E',hI',(hS.trans hS').anyW,h3⟩;exact ⟨frV3,st3,⟨max M M2,λn hn=>by simp only [Jdu,hw,h1 n (by omega),h2,h5 n (by omega)]⟩,h6⟩
  ·obtain ⟨fr2,frV2,h2,h3,h4⟩:=Jb1 (v:=none) h hf' trivial;obtain ⟨frV3,st3,⟨M2,h5⟩,h6⟩:=ZeB hC r h4 ⟨E,hI,hS,h3⟩;exact ⟨frV3,st3,⟨M2,λn hn=>by simp only [Jdu,hw,h2,h5 n hn]⟩,h6⟩
theorem ze6 {D:DD S} {E E':En} {D':DD S} {u:U S} {v:V} (hp:Ze5 u=true) (h:RelV Y D E u v):v.plain=true/\RelV Y D' E' u v:=by
 cases u <;> simp only [Ze5,yd] at hp <;> simp only [RelV] at h |- <;> (subst h;exact ⟨rfl,rfl⟩)
theorem JcZ {D:DD S} {E E':En} {D':DD S}:∀{us:List (U S)} {vs:List V},JeA us=true->RelL Y D E us vs->vs.all V.plain=true/\RelL Y D' E' us vs
 | [],vs,_,h=>by simp only [RelL] at h |-;subst h;exact ⟨rfl,rfl⟩
 | u::us,vs,hp,h=>by
  simp only [RelL] at h |-;obtain ⟨v,r,rfl,h1,h2⟩:=h;simp only [JeA,yb] at hp;obtain ⟨a1,a2⟩:=ze6 (D':=D') (E':=E') hp.1 h1;obtain ⟨b1,b2⟩:=JcZ (D':=D') (E':=E') hp.2 h2;exact ⟨by simp [a1,b1],v,r,rfl,a2,b2⟩
theorem jeo {D:DD S} {E E':En} {D':DD S} {u:U S} {v:V} (hp:zdK u=true) (h:RelV Y D E u v):v.plainT=true/\RelV Y D' E' u v:=by
 have one:Ze5 u=true->v.plainT=true/\RelV Y D' E' u v:=λhp=>by
  obtain ⟨a1,a2⟩:=ze6 (D':=D') (E':=E') hp h;exact ⟨by cases v <;> simp_all [V.plain,V.plainT],a2⟩
 cases u with
 | a us=>
  simp only [RelV] at h |-;obtain ⟨vs,rfl,h⟩:=h;obtain ⟨a1,a2⟩:=JcZ (D':=D') (E':=E') hp h;exact ⟨a1,vs,rfl,a2⟩
 | t us=>
  simp only [RelV] at h |-;obtain ⟨vs,rfl,h⟩:=h;obtain ⟨a1,a2⟩:=JcZ (D':=D') (E':=E') hp h;exact ⟨a1,vs,rfl,a2⟩
 | _=>exact one hp
theorem Zif {C:Zj S} (hC:jC Y P G ov o0 ro C) {E:En} {nx:Nat} {m:T (Ct S)} {st:St} {fr:T (U S)} {frV:T V} (hI:Inv Y G o0 ro E nx m st) {op:Op} {k:U S->Prop} (h:Jje Y P G C fr nx m op k) (hf:RelF Y (Dat Y (ji o0 E m) st) E fr frV) :
  ∃u v st',Jak op=true/\(∃M,∀n,M<=n->vop P ro (evF P ov ro n) frV ⟨st.nx,st.hp,st.nx⟩ op=some (some v,st'))/\(Nat.ble st.nx st'.ver&&(Nat.beq st'.nx st.nx||jdB (some v)))=true/\RelV Y (Dat Y (ji o0 E m) st) E u v/\k u:=by
 have quiet:∀op,sQ Y P G fr m op k->∃u v st',Jak op=true/\(∃M,∀n,M<=n->vop P ro (evF P ov ro n) frV ⟨st.nx,st.hp,st.nx⟩ op=some (some v,st'))/\(Nat.ble st.nx st'.ver&&(Nat.beq st'.nx st.nx||jdB (some v)))=true/\RelV Y (Dat Y (ji o0 E m) st) E u v/\k u:=λop h=>
  let ⟨u,v,h1,h2,h3⟩:=Zid (ro:=ro) hI h hf
  ⟨u,v,⟨st.nx,st.hp,st.nx⟩,h1.1,⟨0,λn _=>h1.2 _ st.nx⟩,by simp,h2,h3⟩
 unfold Jje at h;split at h
 ·rename_i c;obtain ⟨callee,args,ts⟩:=c;dsimp only at h;split at h
  ·obtain ⟨w,wv,h1,h2,h3⟩:=jB h hf;split at h3
   ·simp only [RelV] at h2;obtain ⟨cv,rfl,h2⟩:=h2;obtain ⟨us,vs,h4,h5,h6⟩:=Zcg hf h3;have st2:Step o0 E m st E m ⟨st.nx,st.hp,st.nx⟩ [] []:=⟨Ra _,λ_ _ _=>rfl,Ra _,λ_ _ _=>rfl,λ_ h=>.inl h,λ_ h _ _=>h⟩
    have hI2:Inv Y G o0 ro E nx m ⟨st.nx,st.hp,st.nx⟩:=⟨hI.len,hI.ro,hI.lt,λr ct hr=>by
     have:=Ent.keep st2 (hI.ent r ct hr) rfl (λ_ _ _ _=>rfl)
     rwa [zby] at this,hI.out,hI.glob,hI.inj⟩
    obtain ⟨v,st',⟨M,h7⟩,u,nx',m',ks,wr,E',hI',hS',hr,hk⟩:=hC _ _ _ _ _ h6 E ⟨st.nx,st.hp,st.nx⟩ (vs++cv) hI2 (st2.rels (h5.append h2));unfold zhX at hk;split at hk
    ·rename_i u;cases hp:zdK u with
     | false=>rw [hp] at hk;exact hk.elim
     | true=>
      rw [hp] at hk;obtain ⟨p1,p2⟩:=jeo (D':=Dat Y (ji o0 E m) st) (E':=E) hp hr;refine ⟨u,v,st',rfl,⟨M,λn hn=>by simp only [vop,h4,h1,gf,h7 n hn]⟩,?_,p2,hk⟩
      have:st.nx<=st'.ver:=hS'.ver st.nx (Ra _) (Ra _) (.inl rfl);rw [yb,xd];exact ⟨this,by simp only [jdB,p1,Qk]⟩
    ·exact hk.elim
   ·exact h3.elim
  ·exact quiet _ h
 ·exact quiet _ h
theorem ZcK {C:Zj S} (hC:jC Y P G ov o0 ro C) {E:En} {nx:Nat} {m:T (Ct S)} {st:St} (hI:Inv Y G o0 ro E nx m st) {ops:Array Oper}:∀(l:List Oper) {fr:T (U S)} {K:T (U S)->Prop} {frV:T V},zfz Y P G C nt ops nx m l fr K->RelF Y (Dat Y (ji o0 E m) st) E fr frV->
  ∃frV',(∃M,∀n,M<=n->ZaR P ro nt (evF P ov ro n) ops l frV st=some frV')/\∃fr',RelF Y (Dat Y (ji o0 E m) st) E fr' frV'/\K fr'
 | [],fr,K,frV,h,hf=>⟨frV,⟨0,λ_ _=>rfl⟩,fr,hf,h⟩
 | o::r,fr,K,frV,h,hf=>by
  simp only [zfz] at h;obtain ⟨fr',hf',⟨hw,h⟩|⟨hw,h⟩⟩:=ZdK h hf
  ·have key:=Zif hC hI h hf';obtain ⟨u,v,st',k1,⟨M,k2⟩,k3,k4,k5⟩:=key;obtain ⟨fr2,frV2,h2,h3,h4⟩:=Jb1 (v:=some v) k5 hf' k4;obtain ⟨frV3,⟨M2,h5⟩,h6⟩:=ZcK hC hI r h4 h3;exact ⟨frV3,⟨max M M2,λn hn=>by simp only [ZaR,hw,k1,k2 n (by omega),k3,Qa,h2,h5 n (by omega)]⟩,h6⟩
  ·obtain ⟨fr2,frV2,h2,h3,h4⟩:=Jb1 (v:=none) h hf' trivial;obtain ⟨frV3,⟨M2,h5⟩,h6⟩:=ZcK hC hI r h4 h3;exact ⟨frV3,⟨M2,λn hn=>by simp only [ZaR,hw,h2,h5 n hn]⟩,h6⟩
theorem Dat.reVer {own:Nat->Prop} {st:St} {n:Nat} {c:S.Cd} {xs:List (S.Den c)} {v:V} (h:Dat Y own st c xs v):Dat Y own ⟨st.nx,st.hp,n⟩ c xs v:=Dat.keep (st:=st) (st':=⟨st.nx,st.hp,n⟩) (Ra st.nx) (λ_ _ _=>rfl) (λ_ _ h=>h) h
theorem DatA.reVer {own:Nat->Prop} {st:St} {n:Nat} {u:U S} {v:V} (h:DatA Y own st u v):DatA Y own ⟨st.nx,st.hp,n⟩ u v:=DatA.keep (st:=st) (st':=⟨st.nx,st.hp,n⟩) (Ra st.nx) (λ_ _ _=>rfl) (λ_ _ h=>h) h
theorem RelV.reVer {own:Nat->Prop} {st:St} {n:Nat} {E:En} {u:U S} {v:V} (h:RelV Y (Dat Y own st) E u v):RelV Y (Dat Y own ⟨st.nx,st.hp,n⟩) E u v:=RelV.mono (λ_ _ h=>h) (λ_ _ _=>Dat.reVer) u v h
theorem RelL.reVer {own:Nat->Prop} {st:St} {n:Nat} {E:En} {u:List (U S)} {v:List V} (h:RelL Y (Dat Y own st) E u v):RelL Y (Dat Y own ⟨st.nx,st.hp,n⟩) E u v:=RelL.mono (λ_ _ h=>h) (λ_ _ _=>Dat.reVer) u v h
theorem RelF.reVer {own:Nat->Prop} {st:St} {n:Nat} {E:En} {fr:T (U S)} {frV:T V} (h:RelF Y (Dat Y own st) E fr frV):RelF Y (Dat Y own ⟨st.nx,st.hp,n⟩) E fr frV:=λt u hu=>by
 obtain ⟨v,h1,h2⟩:=h t u hu;exact ⟨v,h1,h2.reVer⟩
theorem Inv.reVer {E:En} {nx:Nat} {m:T (Ct S)} {st:St} (hI:Inv Y G o0 ro E nx m st) (n:Nat):Inv Y G o0 ro E nx m ⟨st.nx,st.hp,n⟩:=by
 refine ⟨hI.len,hI.ro,hI.lt,λr ct hr=>?_,hI.out,hI.glob,hI.inj⟩
 have h:=hI.ent r ct hr;cases ct with
 | cells us=>
  obtain ⟨id,hd,b,vs,e1,e2,e3,e4,e5,e6,e7⟩:=h;exact ⟨id,hd,b,vs,e1,e2,e3,e4,e5,e6.reVer,e7⟩
 | buf c xs=>
  rcases h with h|⟨id,cap,op,b,q1,q2,q3,q4,q5,q6,q7,q8,vs,q9,q10⟩
  ·exact .inl h
  ·exact .inr ⟨id,cap,op,b,q1,q2,q3,q4,q5,q6,q7,q8,vs,q9,λi x hx j u v hu hv=>(q10 i x hx j u v hu hv).reVer⟩
 | row c xs=>
  obtain ⟨id,b,q1,q2,q3,q4,q5,vs,q9,q10⟩:=h;exact ⟨id,b,q1,q2,q3,q4,q5,vs,q9,λi x hx j u v hu hv=>(q10 i x hx j u v hu hv).reVer⟩
theorem je6 {st:St} {n:Nat}:∀es:List Vm.Ent,zcX P ⟨st.nx,st.hp,n⟩ es=zcX P st es
 | []=>rfl
 | e::r=>by
  simp only [zcX,je6 r];rfl
theorem JdK {b:Builtin} (hb:b=.len\/b=.min\/b=.max) {ts:List TypeId} {vs:List V} {st st':St} {v:V} (h:ZZ P ro b ts vs st=some (v,st')) (st2:St):ZZ P ro b ts vs st2=some (v,st2):=by
 rcases hb with rfl|rfl|rfl
 ·rcases ts with _|⟨t,_|⟨t2,tr⟩⟩ <;> rcases vs with _|⟨x,_|⟨y,r⟩⟩ <;> simp only [ZZ,reduceCtorEq] at h |-
  cases hv:zbv P t x with
  | none=>simp [hv] at h
  | some w=>simp only [hv,xa,xb] at h |-;exact ⟨h.1,trivial⟩
 ·rcases vs with _|⟨x,r⟩ <;> simp only [ZZ,reduceCtorEq] at h |-
  cases hv:zcI true x r with
  | none=>simp [hv] at h
  | some w=>simp only [hv,xa,xb] at h |-;exact ⟨h.1,trivial⟩
 ·rcases vs with _|⟨x,r⟩ <;> simp only [ZZ,reduceCtorEq] at h |-
  cases hv:zcI false x r with
  | none=>simp [hv] at h
  | some w=>simp only [hv,xa,xb] at h |-;exact ⟨h.1,trivial⟩
theorem zgp {call:jbv} {frV:T V} {op:Op} (hc:jcn op=0) {st:St} {v:V} (h:∀ver,vop P ro call frV ⟨st.nx,st.hp,ver⟩ op=some (some v,⟨st.nx,st.hp,ver⟩)) (st2:St):vop P ro call frV st2 op=some (some v,st2):=by
 replace h:=h 0
 have key:∀(o:Option V) (s1:St),(match o with|some v=>some (some v,s1)|none=>none)=some (some v,s1)->o=some v:=by
  intro o s1 h;cases o with
  | none=>cases h
  | some u=>simpa using h
 cases op <;> simp only [jcn,Jak,Qa,Yc,reduceCtorEq,Nat.succ_ne_zero] at hc <;> simp only [vop] at h |-
 case call c=>
  obtain ⟨callee,args,ts⟩:=c;cases callee <;> simp only [Nat.succ_ne_zero,reduceCtorEq] at hc
  rename_i b;cases ha:ja4 frV args.toList with
  | none=>simp [ha] at h
  | some vs=>
   simp only [ha] at h |-;have hb:b=.len\/b=.min\/b=.max:=by cases b <;> simp_all
   cases hv:ZZ P ro b ts.toList vs ⟨st.nx,st.hp,0⟩ with
   | none=>simp [hv] at h
   | some w=>
    obtain ⟨w,s1⟩:=w;simp only [hv,xa,xb] at h;obtain ⟨rfl,rfl⟩:=h;simp only [JdK hb hv st2]
 all_goals ((repeat' split at h) <;> simp_all)
def EsRel (Y:Sy S) (D:DD S) (E:En):List (SE S)->List Vm.Ent->Prop
 | [],es=>es=[]
 | s::r,es=>∃e es',es=e::es'/\(e.x=s.x/\e.t=s.t/\RelV Y D E s.a (.p e.id e.off)/\RelV Y D E s.u e.v)/\EsRel Y D E r es'
theorem EsRel.mono {D D':DD S} {E E':En} (f:∀u v,RelV Y D E u v->RelV Y D' E' u v):∀{ses:List (SE S)} {es:List Vm.Ent},EsRel Y D E ses es->EsRel Y D' E' ses es
 | [],es,h=>h
 | s::r,es,h=>by
  obtain ⟨e,es',h1,⟨h2,h3,h4,h5⟩,h6⟩:=h;exact ⟨e,es',h1,⟨h2,h3,f _ _ h4,f _ _ h5⟩,EsRel.mono f h6⟩
theorem EsRel.kills {D D':DD S} {E E':En} {ks:List Nat} (f:∀u v,RelV Y D E u v->RelV Y D' E' (kill ks u) v) (f0:ks=[]->∀u v,RelV Y D E u v->RelV Y D' E' u v) {ses:List (SE S)} {es:List Vm.Ent} (h:EsRel Y D E ses es):EsRel Y D' E' (jfz ks ses) es:=by
 unfold jfz;cases ks with
 | nil=>exact h.mono (f0 rfl)
 | cons k ks=>
  have go:∀{ses:List (SE S)} {es:List Vm.Ent},EsRel Y D E ses es->EsRel Y D' E' (ses.map λe=>⟨e.x,e.t,kill (k::ks) e.a,kill (k::ks) e.u⟩) es:=by
   intro ses
   induction ses with
   | nil=>intro es h;exact h
   | cons s r ih=>
    intro es h;obtain ⟨e,es',h1,⟨h2,h3,h4,h5⟩,h6⟩:=h;exact ⟨e,es',h1,⟨h2,h3,f _ _ h4,f _ _ h5⟩,ih h6⟩
  exact go h
theorem EsRel.alive {D:DD S} {E:En} {ops:Array Oper} {i:Nat}:∀{ses:List (SE S)} {es:List Vm.Ent},EsRel Y D E ses es->EsRel Y D E (jcK ops i ses) (ZaF ops i es)
 | [],es,h=>by simp only [EsRel] at h;subst h;rfl
 | s::r,es,h=>by
  obtain ⟨e,es',rfl,⟨h2,h3,h4,h5⟩,h6⟩:=h;simp only [jcK,ZaF,h2];cases Region.waitsT .any ops i s.x with
  | true=>exact h6.alive
  | false=>exact ⟨e,_,rfl,⟨h2,h3,h4,h5⟩,h6.alive⟩
theorem JgP {E:En} {nx:Nat} {m:T (Ct S)} {st:St} (hI:Inv Y G o0 ro E nx m st) {D D':DD S} {u:U S} {v w:V} (hd:ziP m u=true) (h:RelV Y D E u v) (h':RelV Y D' E u w):Jdm v w=true:=by
 have refl:∀v:V,(v=.sn\/∃a b c d e,v=.sl a b c d e)->Jdm v v=true:=by
  rintro v (rfl|⟨a,b,c,d,e,rfl⟩)
  ·rfl
  ·cases e <;> simp [Jdm]
 cases u <;> simp only [ziP,yd] at hd <;> simp only [RelV] at h h'
 case b x=>subst h h';cases x <;> rfl
 case kb x=>subst h h';cases x <;> rfl
 case i k n=>subst h h';simp [Jdm]
 case s l=>subst h h';simp [V.str,Jdm]
 case pn=>subst h h';rfl
 case sn=>subst h h';rfl
 case fz=>subst h h';rfl
 case nz=>subst h h';rfl
 case p r off=>
  obtain ⟨id,y,e1,rfl⟩:=h;obtain ⟨id',y',e1',rfl⟩:=h';rw [e1] at e1';cases e1';simp [Jdm]
 case g g off=>
  obtain ⟨_,rfl⟩:=h;obtain ⟨_,rfl⟩:=h';simp [Jdm]
 case o r=>
  obtain ⟨y,e1,_⟩:=h;obtain ⟨y',e1',_⟩:=h';rw [e1] at e1';cases e1';split at hd
  ·rename_i c xs hr;rcases hI.ent r _ hr with ⟨q1,_⟩|⟨id,cap,op,b,q1,_⟩
   ·rw [e1] at q1;cases q1;exact refl _ (.inl rfl)
   ·rw [e1] at q1;cases q1;exact refl _ (.inr ⟨_,_,_,_,_,rfl⟩)
  ·cases hd
theorem zgQ {E:En} {nx:Nat} {m:T (Ct S)} {st:St} (hI:Inv Y G o0 ro E nx m st) {D D':DD S}:∀{us:List (U S)} {vs ws:List V},zjb m us=true->RelL Y D E us vs->RelL Y D' E us ws->Zan vs ws=true
 | [],vs,ws,_,h,h'=>by simp only [RelL] at h h';subst h h';rfl
 | u::us,vs,ws,hd,h,h'=>by
  simp only [RelL] at h h';simp only [zjb,yb] at hd;obtain ⟨v,r,rfl,h1,h2⟩:=h;obtain ⟨v',r',rfl,h1',h2'⟩:=h';simp only [Zan,yb];exact ⟨JgP hI hd.1 h1 h1',zgQ hI hd.2 h2 h2'⟩
theorem Jif {E:En} {nx:Nat} {m:T (Ct S)} {st:St} (hI:Inv Y G o0 ro E nx m st) {D D':DD S} {u:U S} {v w:V} (hd:zjf m u=true) (h:RelV Y D E u v) (h':RelV Y D' E u w):zfv v w=true:=by
 have one:ziP m u=true->zfv v w=true:=λhd=>by
  have:=JgP hI hd h h';unfold zfv;split
  ·simp [Jdm] at this
  ·exact this
 cases u with
 | a us=>
  simp only [RelV] at h h';obtain ⟨vs,rfl,h⟩:=h;obtain ⟨ws,rfl,h'⟩:=h';exact zgQ hI hd h h'
 | _=>exact one hd
theorem Zf5 {E:En} {nx:Nat} {m:T (Ct S)} {st:St} (hI:Inv Y G o0 ro E nx m st):∀{ses:List (SE S)} {es:List Vm.Ent} {p:Prop},zhw Y P G m ses p->EsRel Y (Dat Y (ji o0 E m) st) E ses es->zcX P st es=true/\p
 | [],es,p,h,hr=>by simp only [EsRel] at hr;subst hr;exact ⟨rfl,h⟩
 | s::r,es,p,h,hr=>by
  obtain ⟨e,es',rfl,⟨h2,h3,h4,h5⟩,h6⟩:=hr;simp only [zhw] at h;obtain ⟨id,off,u,w,k1,k2,k3,rfl,k4⟩:=Jdv hI h h4;cases k1;cases hd:zjf m s.u with
  | false=>rw [hd] at k4;exact k4.elim
  | true=>
   rw [hd] at k4;obtain ⟨k5,k6⟩:=Zf5 hI k4 h6;refine ⟨?_,k6⟩;simp only [zcX];rw [h3,k2];simp only [Jif hI hd k3 h5,Qa,k5]
theorem zdL {C:Zj S} (hC:jC Y P G ov o0 ro C) {st0:Bs S} {ops:Array Oper}:∀(l:List (Nat×Oper)) {ses:List (SE S)} {es:List Vm.Ent} {z:Z S} {K:Z S->Prop} {frV:T V} {st:St} {E:En},jhw Y P G C nt ops l ses z K->
  Inv Y G o0 ro E z.nx z.m st->Step o0 st0.E st0.m st0.st E z.m st z.ks [0]->RelF Y (Dat Y (ji o0 E z.m) st) E z.fr frV->EsRel Y (Dat Y (ji o0 E z.m) st) E ses es->
  ∃frV' st',(∃M,∀n,M<=n->jdC P ro nt (evF P ov ro n) ops l es frV st=some (frV',st'))/\∃z',Zat Y G o0 ro st0 z' frV' st'/\K z'
 | [],ses,es,z,K,frV,st,E,h,hI,hS,hf,he=>⟨frV,st,⟨0,λ_ _=>rfl⟩,z,⟨E,hI,hS,hf⟩,h⟩
 | (i,o)::r,ses,es,z,K,frV,st,E,h,hI,hS,hf,he=>by
  simp only [jhw,jbb,zeB] at h;obtain ⟨fr',hf',⟨hw,h⟩|⟨hw,h⟩⟩:=ZdK h hf
  ·split at h
   ·rename_i hc;obtain ⟨u,v,h1,h2,h3⟩:=Zid (ro:=ro) hI h hf';obtain ⟨fr2,frV2,k1,k2,k3⟩:=Jb1 (v:=some v) h3 hf' h2;obtain ⟨frV3,st3,⟨M2,h5⟩,h6⟩:=zdL hC r k3 hI hS k2 he;refine ⟨frV3,st3,⟨M2,λn hn=>?_⟩,h6⟩
    unfold jdC;simp only [hw,hc,zgp hc (h1.2 _) ⟨st.nx,.e,0⟩,k1];exact h5 n hn
   ·rename_i hc;split at h
    ·rename_i t x hop;obtain ⟨a,av,h1,h2,h3⟩:=jB h hf';obtain ⟨id,off,u,w,rfl,h4,h5,h6⟩:=Jdv hI h3 h2;obtain ⟨fr2,frV2,k1,k2,k3⟩:=Jb1 (v:=some w) h6 hf' h5;obtain ⟨frV3,st3,⟨M2,h7⟩,h8⟩:=zdL (es:=⟨i,t,id,off,w⟩::es) hC r k3 hI hS k2 ⟨_,_,rfl,⟨rfl,rfl,h2,h5⟩,he⟩;refine ⟨frV3,st3,⟨M2,λn hn=>?_⟩,h8⟩
     unfold jdC;simp only [hw,hc];rw [hop];simp only [h1,h4,k1];exact h7 n hn
    ·exact h.elim
   ·rename_i hc0 hc1;have hI1:=hI.reVer st.nx;obtain ⟨res,st1,⟨M,h1⟩,u,nx',m',ks,wr,E',hI',hS',hr,hk⟩:=jhX hC hI1 h (RelF.reVer hf');have hSx:Step o0 E z.m st E' m' ⟨st1.nx,st1.hp,low st.ver st1.ver⟩ ks wr:=⟨hS'.len,hS'.same,hS'.nx,hS'.keep,hS'.nam,λj j1 j2 j3=>by
     have:=hS'.ver j j1 j1 j3;show j<=low st.ver st1.ver;unfold low;cases Nat.ble st.ver st1.ver <;> simp only [Qa,Yc] <;> assumption⟩
    have hI2:=hI'.reVer (low st.ver st1.ver);have hf2:RelF Y (Dat Y (ji o0 E' m') ⟨st1.nx,st1.hp,low st.ver st1.ver⟩) E' (Jgo ks fr') frV:=jdK hSx hf';have he2:EsRel Y (Dat Y (ji o0 E' m') ⟨st1.nx,st1.hp,low st.ver st1.ver⟩) E' (jfz ks (jcK ops i ses)) (ZaF ops i es):=
     he.alive.kills (λu v h=>hSx.relK h) (λq u v h=>by subst q;exact hSx.rel h)
    have fin:(Nat.ble st.nx st1.ver||zcX P st1 (ZaF ops i es))=true->(zgE nt (Jgo ks fr') o.dst u λfr'=>jhw Y P G C nt ops r (jfz ks (jcK ops i ses)) ⟨fr',nx',m',ks++z.ks⟩ K)->
      ∃frV' st',(∃M,∀n,M<=n->jdC P ro nt (evF P ov ro n) ops ((i,o)::r) es frV st=some (frV',st'))/\∃z',Zat Y G o0 ro st0 z' frV' st'/\K z':=by
     intro hkeep hk;have hr2:jje Y (Dat Y (ji o0 E' m') ⟨st1.nx,st1.hp,low st.ver st1.ver⟩) E' u res:=by
      cases u <;> cases res <;> first|exact hr|exact RelV.reVer hr
     obtain ⟨fr2,frV2,k1,k2,k3⟩:=Jb1 hk hf2 hr2;obtain ⟨frV3,st3,⟨M2,h5⟩,h6⟩:=zdL hC r k3 hI2 (hS.trans hSx).anyW k2 he2;obtain ⟨n0,hn0⟩:∃n,jcn o.op=n+2:=by
      cases hq:jcn o.op with
      | zero=>exact absurd hq hc0
      | succ q=>cases q with
       | zero=>exact absurd hq hc1
       | succ q=>exact ⟨q,rfl⟩
     refine ⟨frV3,st3,⟨max M M2,λn hn=>?_⟩,h6⟩
     unfold jdC;simp only [hw,hn0,h1 n (by omega),hkeep,k1,jy]
     exact h5 n (by omega)
    split at hk
    ·refine fin ?_ hk;have:st.nx<=st1.ver:=hS'.ver st.nx (Ra _) (Ra _) (.inl rfl);rw [xg,xd];exact .inl this
    ·obtain ⟨k1,k2⟩:=Zf5 hI2 hk he2;refine fin ?_ k2;rw [xg];exact .inr (by rw [<-je6];exact k1)
  ·obtain ⟨fr2,frV2,h2,h3,h4⟩:=Jb1 (v:=none) h hf' trivial;obtain ⟨frV3,st3,⟨M2,h5⟩,h6⟩:=zdL hC r h4 hI hS h3 he;exact ⟨frV3,st3,⟨M2,λn hn=>by unfold jdC;simp only [hw,h2];exact h5 n hn⟩,h6⟩
theorem zec {C:Zj S} (hC:jC Y P G ov o0 ro C) {L:ZY S} {st0:Bs S}:∀(c:Code),(∀b∈zab c,∀z K,L b z K->Sem Y P G ov o0 ro nt st0 (.loop b) z K)->∀(z:Z S) (K:Ex->Z S->Prop),sC Y P G C L nt c z K->Sem Y P G ov o0 ro nt st0 c z K
 | .skip,_,z,K,h=>λfrV st hz=>⟨.nrm,frV,st,⟨1,λn hn=>by obtain ⟨k,rfl⟩:=xh (Qp.1 hn);rfl⟩,z,hz,h⟩
 | .label _,_,z,K,h=>λfrV st hz=>⟨.nrm,frV,st,⟨1,λn hn=>by obtain ⟨k,rfl⟩:=xh (Qp.1 hn);rfl⟩,z,hz,h⟩
 | .exit i,_,z,K,h=>λfrV st hz=>⟨.exit i,frV,st,⟨1,λn hn=>by obtain ⟨k,rfl⟩:=xh (Qp.1 hn);rfl⟩,z,hz,h⟩
 | .goto i,_,z,K,h=>λfrV st hz=>⟨.goto i,frV,st,⟨1,λn hn=>by obtain ⟨k,rfl⟩:=xh (Qp.1 hn);rfl⟩,z,hz,h⟩
 | .ret,_,z,K,h=>λfrV st hz=>⟨.ret,frV,st,⟨1,λn hn=>by obtain ⟨k,rfl⟩:=xh (Qp.1 hn);rfl⟩,z,hz,h⟩
 | .region id ops draw,_,z,K,h=>λfrV st hz=>by
  cases draw with
  | false=>
   obtain ⟨frV',st',⟨M,h1⟩,z',hz',hk⟩:=ZeB hC ops.toList h hz;exact ⟨.nrm,frV',st',⟨M+1,λn hn=>by
    obtain ⟨k,rfl⟩:=xh (show n≠0 by omega)
    have:=h1 k (by omega)
    simp only [evC];rw [show ZS P ov (evC P ov ro k)=evF P ov ro k from rfl,this]⟩,z',hz',hk⟩
  | true=>
   simp only [sC] at h;cases hB:JgF P ops with
   | false=>
    rw [hB] at h;cases hT:ZgF ops with
    | false=>
     rw [hT] at h;simp only [Yc] at h;cases hpl:Zem P ops with
     | some l=>
      rw [hpl] at h;obtain ⟨E,hI,hS,hf⟩:=hz;obtain ⟨frV',st',⟨M,h1⟩,z',hz',hk⟩:=zdL (es:=[]) hC l h hI hS hf rfl;exact ⟨.nrm,frV',st',⟨M+1,λn hn=>by
       obtain ⟨k,rfl⟩:=xh (show n≠0 by omega)
       have:=h1 k (by omega)
       simp only [evC,hB,hT,hpl];rw [show ZS P ov (evC P ov ro k)=evF P ov ro k from rfl,this]⟩,z',hz',hk⟩
     | none=>
      rw [hpl] at h;cases hL:Jia ops with
      | false=>rw [hL] at h;exact h.elim
      | true=>
       rw [hL] at h;obtain ⟨E,hI,hS,hf⟩:=hz;obtain ⟨frV',⟨M,h1⟩,fr',hf',hk⟩:=ZcK hC hI ops.toList h hf;exact ⟨.nrm,frV',st,⟨M+1,λn hn=>by
        obtain ⟨k,rfl⟩:=xh (show n≠0 by omega)
        have:=h1 k (by omega)
        simp only [evC,hB,hT,hpl,hL];rw [show ZS P ov (evC P ov ro k)=evF P ov ro k from rfl,this]⟩,⟨fr',z.nx,z.m,z.ks⟩,⟨E,hI,hS,hf'⟩,hk⟩
    | true=>
     rw [hT] at h;simp only [Qa,Yc] at h;obtain ⟨E,hI,hS,hf⟩:=hz;obtain ⟨frV',⟨M,h1⟩,fr',hf',hk⟩:=ZcK hC hI (ops.toList.take (ops.size-1)) h hf;obtain ⟨frV2,st2,⟨M2,h2⟩,z2,hz2,hk2⟩:=ZeB hC (ops.toList.drop (ops.size-1)) hk ⟨E,hI,hS,hf'⟩;exact ⟨.nrm,frV2,st2,⟨max M M2+1,λn hn=>by
      obtain ⟨k,rfl⟩:=xh (show n≠0 by omega)
      have q1:=h1 k (by omega)
      have q2:=h2 k (by omega)
      simp only [evC,hB,hT];rw [show ZS P ov (evC P ov ro k)=evF P ov ro k from rfl,q1]
      simp only;rw [q2]⟩,z2,hz2,hk2⟩
   | true=>
    rw [hB] at h;obtain ⟨E,hI,hS,hf⟩:=hz;obtain ⟨frV',⟨M,h1⟩,fr',hf',hk⟩:=ZcK hC hI ops.toList h hf;exact ⟨.nrm,frV',st,⟨M+1,λn hn=>by
     obtain ⟨k,rfl⟩:=xh (show n≠0 by omega)
     have:=h1 k (by omega)
     simp only [evC,hB];rw [show ZS P ov (evC P ov ro k)=evF P ov ro k from rfl,this]⟩,⟨fr',z.nx,z.m,z.ks⟩,⟨E,hI,hS,hf'⟩,hk⟩
 | .seq a b,hL,z,K,h=>λfrV st hz=>by
  have hLa:∀c∈zab a,∀z K,L c z K->Sem Y P G ov o0 ro nt st0 (.loop c) z K:=λc hc=>hL c (by simp only [zab];exact yo _ hc)
  have hLb:∀c∈zab b,∀z K,L c z K->Sem Y P G ov o0 ro nt st0 (.loop c) z K:=λc hc=>hL c (by simp only [zab];exact ym _ hc)
  obtain ⟨e,frV1,st1,⟨M,h1⟩,z1,hz1,hk⟩:=zec hC a hLa z _ h frV st hz;cases e with
  | nrm=>
   obtain ⟨e2,frV2,st2,⟨M2,h2⟩,h3⟩:=zec hC b hLb z1 K hk frV1 st1 hz1;exact ⟨e2,frV2,st2,⟨max M M2+1,λn hn=>by
    obtain ⟨k,rfl⟩:=xh (show n≠0 by omega)
    simp only [evC,h1 k (by omega),h2 k (by omega)]⟩,h3⟩
  | exit i=>exact ⟨.exit i,frV1,st1,⟨M+1,λn hn=>by
    obtain ⟨k,rfl⟩:=xh (show n≠0 by omega)
    simp only [evC,h1 k (by omega)]⟩,z1,hz1,hk⟩
  | goto i=>exact ⟨.goto i,frV1,st1,⟨M+1,λn hn=>by
    obtain ⟨k,rfl⟩:=xh (show n≠0 by omega)
    simp only [evC,h1 k (by omega)]⟩,z1,hz1,hk⟩
  | ret=>exact ⟨.ret,frV1,st1,⟨M+1,λn hn=>by
    obtain ⟨k,rfl⟩:=xh (show n≠0 by omega)
    simp only [evC,h1 k (by omega)]⟩,z1,hz1,hk⟩
 | .cond c a b,hL,z,K,h=>λfrV st hz=>by
  have hLa:∀c∈zab a,∀z K,L c z K->Sem Y P G ov o0 ro nt st0 (.loop c) z K:=λx hc=>hL x (by simp only [zab];exact yo _ hc)
  have hLb:∀c∈zab b,∀z K,L c z K->Sem Y P G ov o0 ro nt st0 (.loop c) z K:=λx hc=>hL x (by simp only [zab];exact ym _ hc)
  obtain ⟨E,hI,hS,hf⟩:=hz;simp only [sC,Jfy] at h;split at h
  ·rename_i t;have fin:∀(x:Bool) (z1:Z S),frV.get t=some (.b x)->Zat Y G o0 ro st0 z1 frV st->(x=true->sC Y P G C L nt a z1 K)->(x=false->sC Y P G C L nt b z1 K)->∃e frV' st',(∃M,∀n,M<=n->evC P ov ro n nt (.cond (.tmp t) a b) frV st=some (e,frV',st'))/\∃z',Zat Y G o0 ro st0 z' frV' st'/\K e z':=by
    intro x z1 hx hz1 ha hb;cases x with
    | true=>
     obtain ⟨e,frV2,st2,⟨M,h2⟩,h3⟩:=zec hC a hLa z1 K (ha rfl) frV st hz1;exact ⟨e,frV2,st2,⟨M+1,λn hn=>by
      obtain ⟨k,rfl⟩:=xh (show n≠0 by omega)
      simp only [evC,zL,hx,h2 k (by omega)]⟩,h3⟩
    | false=>
     obtain ⟨e,frV2,st2,⟨M,h2⟩,h3⟩:=zec hC b hLb z1 K (hb rfl) frV st hz1;exact ⟨e,frV2,st2,⟨M+1,λn hn=>by
      obtain ⟨k,rfl⟩:=xh (show n≠0 by omega)
      simp only [evC,zL,hx,h2 k (by omega)]⟩,h3⟩
   split at h
   ·rename_i hx;obtain ⟨v,h1,h2⟩:=hf t _ hx;simp only [RelV] at h2;subst h2;exact fin true z h1 ⟨E,hI,hS,hf⟩ (λ_=>h) (λq=>by cases q)
   ·rename_i hx;obtain ⟨v,h1,h2⟩:=hf t _ hx;simp only [RelV] at h2;subst h2;exact fin false z h1 ⟨E,hI,hS,hf⟩ (λq=>by cases q) (λ_=>h)
   ·rename_i x hx;obtain ⟨v,h1,h2⟩:=hf t _ hx;simp only [RelV] at h2;subst h2;cases x with
    | true=>exact fin true ⟨z.fr.upd t (some (.kb true)),z.nx,z.m,z.ks⟩ h1 ⟨E,hI,hS,Ja8 hf h1 rfl⟩ (λ_=>h.1 rfl) (λq=>by cases q)
    | false=>exact fin false ⟨z.fr.upd t (some (.kb false)),z.nx,z.m,z.ks⟩ h1 ⟨E,hI,hS,Ja8 hf h1 rfl⟩ (λq=>by cases q) (λ_=>h.2 rfl)
   ·exact h.elim
  ·exact h.elim
 | .block i b,hL,z,K,h=>λfrV st hz=>by
  obtain ⟨e,frV1,st1,⟨M,h1⟩,z1,hz1,hk⟩:=zec hC b hL z _ h frV st hz;cases e with
  | exit j=>
   dsimp only at hk;cases hj:Nat.beq j i with
   | true=>
    rw [hj] at hk;exact ⟨.nrm,frV1,st1,⟨M+1,λn hn=>by
     obtain ⟨k,rfl⟩:=xh (show n≠0 by omega)
     simp only [evC,h1 k (by omega),hj,Qa]⟩,z1,hz1,hk⟩
   | false=>
    rw [hj] at hk;exact ⟨.exit j,frV1,st1,⟨M+1,λn hn=>by
     obtain ⟨k,rfl⟩:=xh (show n≠0 by omega)
     simp only [evC,h1 k (by omega),hj,Yc]⟩,z1,hz1,hk⟩
  | nrm=>exact ⟨.nrm,frV1,st1,⟨M+1,λn hn=>by
    obtain ⟨k,rfl⟩:=xh (show n≠0 by omega)
    simp only [evC,h1 k (by omega)]⟩,z1,hz1,hk⟩
  | goto i=>exact ⟨.goto i,frV1,st1,⟨M+1,λn hn=>by
    obtain ⟨k,rfl⟩:=xh (show n≠0 by omega)
    simp only [evC,h1 k (by omega)]⟩,z1,hz1,hk⟩
  | ret=>exact ⟨.ret,frV1,st1,⟨M+1,λn hn=>by
    obtain ⟨k,rfl⟩:=xh (show n≠0 by omega)
    simp only [evC,h1 k (by omega)]⟩,z1,hz1,hk⟩
 | .loop b,hL,z,K,h=>hL b (by simp [zab]) z K h
 | .scope b,hL,z,K,h=>λfrV st hz=>by
  obtain ⟨e,frV1,st1,⟨M,h1⟩,z1,hz1,hk⟩:=zec hC b hL z _ h frV st hz;have sc:∀n,M+2<=n->∃k,n=k+2/\M<=k:=λn hn=>⟨n-2,by omega,by omega⟩
  cases e with
  | goto i=>exact hk.elim
  | nrm=>exact ⟨.nrm,frV1,st1,⟨M+2,λn hn=>by
    obtain ⟨k,rfl,hk⟩:=sc n hn;rw [show evC P ov ro (k+2) nt (.scope b) frV st=jaT (evC P ov ro (k+1) nt) b (k+1) b frV st from rfl]
    simp only [jaT,h1 (k+1) (by omega)]⟩,z1,hz1,hk⟩
  | exit j=>exact ⟨.exit j,frV1,st1,⟨M+2,λn hn=>by
    obtain ⟨k,rfl,hk⟩:=sc n hn;rw [show evC P ov ro (k+2) nt (.scope b) frV st=jaT (evC P ov ro (k+1) nt) b (k+1) b frV st from rfl]
    simp only [jaT,h1 (k+1) (by omega)]⟩,z1,hz1,hk⟩
  | ret=>exact ⟨.ret,frV1,st1,⟨M+2,λn hn=>by
    obtain ⟨k,rfl,hk⟩:=sc n hn;rw [show evC P ov ro (k+2) nt (.scope b) frV st=jaT (evC P ov ro (k+1) nt) b (k+1) b frV st from rfl]
    simp only [jaT,h1 (k+1) (by omega)]⟩,z1,hz1,hk⟩
 | .rangeFunc _ _ _ _,_,_,_,h=>by simp [sC] at h
 | .refuse _,_,_,_,h=>by simp [sC] at h
end
end Go.Sx
namespace Go.Sx
open Go.Vm
section
variable {S:Sg}
mutual
def ziJ (n:Nat):U S->Bool
 | .p r _=>Nat.blt r n
 | .o r=>Nat.blt r n
 | .pe r _ _ _=>Nat.blt r n
 | .v r _ _=>Nat.blt r n
 | .vh r _=>Nat.blt r n
 | .f _ caps=>zig n caps
 | .a cs=>zig n cs
 | .t vs=>zig n vs
 | _=>true
def zig (n:Nat):List (U S)->Bool
 | []=>true
 | u::us=>ziJ n u&&zig n us
end
def ZhX {α:Type} (p:α->Bool):T α->Bool
 | .e=>true
 | .n l v r=>(match v with|some x=>p x|none=>true)&&(ZhX p l&&ZhX p r)
theorem jdw {α:Type} {p:α->Bool}:∀{t:T α} {i:Nat} {x:α},ZhX p t=true->t.get i=some x->p x=true
 | .e,i,x,_,h=>by rw [T.get_e] at h;cases h
 | .n l v r,i,x,ha,h=>by
  simp only [ZhX,yb] at ha;rw [T.get_n] at h;cases i with
  | zero=>dsimp only at h;subst h;exact ha.1
  | succ k=>
   dsimp only at h;cases hk:Nat.beq (k%2) 0 with
   | true=>rw [hk] at h;exact jdw ha.2.1 h
   | false=>rw [hk] at h;exact jdw ha.2.2 h
def jiP (n:Nat):Ct S->Bool
 | .cells us=>zig n us
 | .buf _ _=>true
 | .row _ _=>true
theorem Jch {E:En} {n r:Nat} (h:Nat.blt r n=true):(E.take n)[r]?=E[r]?:=by
 rw [ge] at h;rw [List.getElem?_take,ya h]
mutual
theorem RelV.low {Y:Sy S} {D:DD S} {E:En} {n:Nat}:(u:U S)->(v:V)->ziJ n u=true->RelV Y D E u v->RelV Y D (E.take n) u v
 | .b x,v,_,h=>h
 | .kb x,v,_,h=>h
 | .i k n,v,_,h=>h
 | .s l,v,_,h=>h
 | .pn,v,_,h=>h
 | .sn,v,_,h=>h
 | .fz,v,_,h=>h
 | .nz,v,_,h=>h
 | .dead,v,_,h=>trivial
 | .g g off,v,_,h=>h
 | .l c xs,v,_,h=>h
 | .pd c xs i off,v,_,h=>h
 | .p r off,v,hl,h=>by
  obtain ⟨id,x,h1,h2⟩:=h;exact ⟨id,x,(Jch hl).trans h1,h2⟩
 | .o r,v,hl,h=>by
  obtain ⟨x,h1,h2⟩:=h;exact ⟨x,(Jch hl).trans h1,h2⟩
 | .pe r w i off,v,hl,h=>by
  obtain ⟨id,x,h1,h2⟩:=h;exact ⟨id,x,(Jch hl).trans h1,h2⟩
 | .v r w i,v,hl,h=>by
  obtain ⟨id,x,h1,h2⟩:=h;exact ⟨id,x,(Jch hl).trans h1,h2⟩
 | .vh r j,v,hl,h=>by
  obtain ⟨id,x,h1,h2⟩:=h;exact ⟨id,x,(Jch hl).trans h1,h2⟩
 | .f fn caps,v,hl,h=>by
  obtain ⟨vs,h1,h2⟩:=h;exact ⟨vs,h1,RelL.low caps vs hl h2⟩
 | .a cs,v,hl,h=>by
  obtain ⟨vs,h1,h2⟩:=h;exact ⟨vs,h1,RelL.low cs vs hl h2⟩
 | .t us,v,hl,h=>by
  obtain ⟨vs,h1,h2⟩:=h;exact ⟨vs,h1,RelL.low us vs hl h2⟩
theorem RelL.low {Y:Sy S} {D:DD S} {E:En} {n:Nat}:(us:List (U S))->(vs:List V)->zig n us=true->RelL Y D E us vs->RelL Y D (E.take n) us vs
 | [],_,_,h=>h
 | u::us,vs,hl,h=>by
  obtain ⟨v,r,h1,h2,h3⟩:=h;simp only [zig,yb] at hl;exact ⟨v,r,h1,RelV.low u v hl.1 h2,RelL.low us r hl.2 h3⟩
end
structure VC (Y:Sy S) (X:Type) where
 enc:X->U S
 dec:U S->(X->Prop)->Prop
 ok:∀{own:Nat->Prop} {st:St} {E:En} {u:U S} {k:X->Prop} {v:V},dec u k->RelV Y (Dat Y own st) E u v->∃x,k x/\RelV Y (Dat Y own st) E (enc x) v
structure LC (Y:Sy S) (X:Type) where
 enc:X->List (U S)
 dec:List (U S)->(X->Prop)->Prop
 ok:∀{own:Nat->Prop} {st:St} {E:En} {us:List (U S)} {k:X->Prop} {vs:List V},dec us k->RelL Y (Dat Y own st) E us vs->∃x,k x/\RelL Y (Dat Y own st) E (enc x) vs
variable {Y:Sy S}
def JhX (kd:IntKind) (u:U S) (k:Int->Prop):Prop:=match u with
 | .i kd' n=>cond (decide (kd'=kd)) (k n) False
 | _=>False
def Je (Y:Sy S) (kd:IntKind):VC Y Int where
 enc n:=.i kd n
 dec:=JhX kd
 ok:=by
  intro own st E u k v h hr;unfold JhX at h;split at h
  ·rename_i kd' n;cases hk:decide (kd'=kd) with
   | false=>rw [hk] at h;exact h.elim
   | true=>rw [hk] at h;obtain rfl:=Ha hk;exact ⟨n,h,hr⟩
  ·exact h.elim
def jgQ (u:U S) (k:Bool->Prop):Prop:=match u with
 | .b x=>k x
 | .kb x=>k x
 | _=>False
def Jn (Y:Sy S):VC Y Bool where
 enc x:=.b x
 dec:=jgQ
 ok:=by
  intro own st E u k v h hr;unfold jgQ at h;split at h
  ·exact ⟨_,h,hr⟩
  ·exact ⟨_,h,hr⟩
  ·exact h.elim
def zhY (u:U S) (k:List UInt8->Prop):Prop:=match u with
 | .s l=>k l
 | _=>False
def Jl (Y:Sy S):VC Y (List UInt8) where
 enc l:=.s l
 dec:=zhY
 ok:=by
  intro own st E u k v h hr;unfold zhY at h;split at h
  ·exact ⟨_,h,hr⟩
  ·exact h.elim
def ZgQ (Y:Sy S) (c:S.Cd) (u:U S) (k:List (S.Den c)->Prop):Prop:=match u with
 | .l c' xs=>Y.cast c' c xs k
 | .sn=>k []
 | _=>False
def jQ (Y:Sy S) (c:S.Cd):VC Y (List (S.Den c)) where
 enc xs:=.l c xs
 dec:=ZgQ Y c
 ok:=by
  intro own st E u k v h hr;unfold ZgQ at h;split at h
  ·obtain ⟨rfl,h⟩:=Y.cast_ok _ _ _ _ h;exact ⟨_,h,hr⟩
  ·simp only [RelV] at hr;subst hr;exact ⟨[],h,.nil c⟩
  ·exact h.elim
def Zhw:U S->U S->Bool
 | .p r off,.p r' off'=>Nat.beq r r'&&Nat.beq off off'
 | .o r,.o r'=>Nat.beq r r'
 | .g r off,.g r' off'=>Nat.beq r r'&&Nat.beq off off'
 | .pn,.pn=>true
 | .sn,.sn=>true
 | .fz,.fz=>true
 | .nz,.nz=>true
 | _,_=>false
theorem Jhw {u w:U S} (h:Zhw u w=true):u=w:=by
 unfold Zhw at h;split at h <;> simp_all
def ZK (Y:Sy S) (u0:U S):VC Y Unit where
 enc _:=u0
 dec u k:=cond (Zhw u u0) (k ()) False
 ok:=by
  intro own st E u k v h hr;cases hq:Zhw u u0 with
  | false=>rw [hq] at h;exact h.elim
  | true=>rw [hq] at h;rw [<-Jhw hq];exact ⟨(),h,hr⟩
def zaj (Y:Sy S):VC Y Unit where
 enc _:=.dead
 dec _ k:=k ()
 ok:=by
  intro own st E u k v h hr;exact ⟨(),h,trivial⟩
def Zq (Y:Sy S):LC Y Unit where
 enc _:=[]
 dec us k:=match us with
  | []=>k ()
  | _=>False
 ok:=by
  intro own st E us k vs h hr;cases us with
  | nil=>exact ⟨(),h,hr⟩
  | cons u us=>exact h.elim
def ja {A B:Type} (v:VC Y A) (r:LC Y B):LC Y (A×B) where
 enc x:=v.enc x.1::r.enc x.2
 dec us k:=match us with
  | u::us=>v.dec u λa=>r.dec us λb=>k (a,b)
  | []=>False
 ok:=by
  intro own st E us k vs h hr;cases us with
  | nil=>exact h.elim
  | cons u us=>
   simp only [RelL] at hr;obtain ⟨w,ws,rfl,h1,h2⟩:=hr;obtain ⟨a,h3,h4⟩:=v.ok h h1;obtain ⟨b,h5,h6⟩:=r.ok h3 h2;exact ⟨(a,b),h5,w,ws,rfl,h4,h6⟩
def jhY {A:Type} (r:LC Y A) (u:U S) (k:A->Prop):Prop:=match u with
 | .a us=>r.dec us k
 | _=>False
def Jjz {A:Type} (r:LC Y A):VC Y A where
 enc x:=.a (r.enc x)
 dec:=jhY r
 ok:=by
  intro own st E u k v h hr;unfold jhY at h;split at h
  ·simp only [RelV] at hr;obtain ⟨vs,rfl,hr⟩:=hr;obtain ⟨x,h1,h2⟩:=r.ok h hr;exact ⟨x,h1,vs,rfl,h2⟩
  ·exact h.elim
def ZiP {A:Type} (f:FuncId) (r:LC Y A) (u:U S) (k:A->Prop):Prop:=match u with
 | .f f' us=>cond (Nat.beq f' f) (r.dec us k) False
 | _=>False
def vFn {A:Type} (f:FuncId) (r:LC Y A):VC Y A where
 enc x:=.f f (r.enc x)
 dec:=ZiP f r
 ok:=by
  intro own st E u k v h hr;unfold ZiP at h;split at h
  ·rename_i f' us;cases hq:Nat.beq f' f with
   | false=>rw [hq] at h;exact h.elim
   | true=>
    rw [hq] at h;rw [Rc] at hq;subst hq;simp only [RelV] at hr;obtain ⟨vs,rfl,hr⟩:=hr;obtain ⟨x,h1,h2⟩:=r.ok h hr;exact ⟨x,h1,vs,rfl,h2⟩
  ·exact h.elim
structure FC (Y:Sy S) (X:Type) where
 enc:X->T (U S)
 dec:T (U S)->(X->Prop)->Prop
 ok:∀{own:Nat->Prop} {st:St} {E:En} {fr:T (U S)} {k:X->Prop} {frV:T V},dec fr k->RelF Y (Dat Y own st) E fr frV->∃x,k x/\RelF Y (Dat Y own st) E (enc x) frV
def jF (Y:Sy S):FC Y Unit where
 enc _:=.e
 dec _ k:=k ()
 ok:=λh _=>⟨(),h,λt u hu=>by rw [T.get_e] at hu;cases hu⟩
def zd {A B:Type} (t:Nat) (v:VC Y A) (r:FC Y B):FC Y (A×B) where
 enc x:=(r.enc x.2).upd t (some (v.enc x.1))
 dec fr k:=onO (fr.get t) λu=>v.dec u λa=>r.dec fr λb=>k (a,b)
 ok:=by
  intro own st E fr k frV h hr;obtain ⟨u,h1,h2⟩:=Ja2 h;obtain ⟨w,h3,h4⟩:=hr t u h1;obtain ⟨a,h5,h6⟩:=v.ok h2 h4;obtain ⟨b,h7,h8⟩:=r.ok h5 hr;exact ⟨(a,b),h7,Ja8 h8 h3 h6⟩
structure HC (Y:Sy S) (X:Type) where
 enc:X->T (Ct S)
 dec:Nat->T (Ct S)->(X->Prop)->Prop
 ok:∀{own:Nat->Prop} {ro:Nat} {st:St} {E:En} {n:Nat} {m:T (Ct S)} {k:X->Prop},dec n m k->(∀r ct,m.get r=some ct->Ent Y ro (Dat Y own st) (DatA Y own st) E st r ct)->
  ∃x,k x/\∀r ct,(enc x).get r=some ct->r<n/\(∃ct0,m.get r=some ct0)/\Ent Y ro (Dat Y own st) (DatA Y own st) E st r ct
def ZF (Y:Sy S):HC Y Unit where
 enc _:=.e
 dec _ _ k:=k ()
 ok:=λh _=>⟨(),h,λr ct e=>by rw [T.get_e] at e;cases e⟩
def Jf5 {A:Type} (v:LC Y A) (o:Option (Ct S)) (k:A->Prop):Prop:=match o with
 | some (.cells us)=>v.dec us k
 | _=>False
def ZhY (Y:Sy S) (c:S.Cd) (o:Option (Ct S)) (k:List (S.Den c)->Prop):Prop:=match o with
 | some (.buf c' xs)=>Y.cast c' c xs k
 | _=>False
def Jb {A B:Type} (q:Nat) (v:LC Y A) (r:HC Y B):HC Y (A×B) where
 enc x:=(r.enc x.2).upd q (some (.cells (v.enc x.1)))
 dec n m k:=cond (Nat.blt q n) (Jf5 v (m.get q) λa=>r.dec n m λb=>k (a,b)) False
 ok:=by
  intro own ro st E n m k h hE;cases hq:Nat.blt q n with
  | false=>rw [hq] at h;exact h.elim
  | true=>
   rw [hq] at h;simp only [Qa] at h;unfold Jf5 at h;split at h
   ·rename_i us hm;obtain ⟨id,y,b,vs,h1,h2,h3,h4,h5,h6,h7⟩:=hE q _ hm;obtain ⟨a,g1,g2⟩:=v.ok h h6;obtain ⟨b',g3,g4⟩:=r.ok g1 hE;refine ⟨(a,b'),g3,λr' ct e=>?_⟩
    rw [Tgu] at e;by_cases z:r'=q
    ·subst z;rw [ya rfl] at e;cases e;have hl:us.length=(v.enc a).length:=by rw [<-h6.length,g2.length]
     exact ⟨ge.mp hq,⟨_,hm⟩,id,y,b,vs,h1,h2,h3,h4,h5.trans hl,g2,λj hj=>h7 j (by rw [hl];exact hj)⟩
    ·rw [ga z] at e;exact g4 r' ct e
   ·exact h.elim
def ZQ {B:Type} (q:Nat) (c:S.Cd) (r:HC Y B):HC Y (List (S.Den c)×B) where
 enc x:=(r.enc x.2).upd q (some (.buf c x.1))
 dec n m k:=cond (Nat.blt q n) (ZhY Y c (m.get q) λa=>r.dec n m λb=>k (a,b)) False
 ok:=by
  intro own ro st E n m k h hE;cases hq:Nat.blt q n with
  | false=>rw [hq] at h;exact h.elim
  | true=>
   rw [hq] at h;simp only [Qa] at h;unfold ZhY at h;split at h
   ·rename_i c' xs hm;obtain ⟨rfl,h⟩:=Y.cast_ok _ _ _ _ h;obtain ⟨b',g3,g4⟩:=r.ok h hE;refine ⟨(xs,b'),g3,λr' ct e=>?_⟩
    rw [Tgu] at e;by_cases z:r'=q
    ·subst z;rw [ya rfl] at e;cases e;exact ⟨ge.mp hq,⟨_,hm⟩,hE r' _ hm⟩
    ·rw [ga z] at e;exact g4 r' ct e
   ·exact h.elim
inductive Fix (S:Sg) where
 | slot (t r:Nat) (c:S.Cd)
 | cell (q j r:Nat) (c:S.Cd)
def jiJ:Option (U S)->Bool
 | some .sn=>true
 | _=>false
def jjb (z:Z S):Fix S->Z S
 | .slot t r c=>cond (jiJ (z.fr.get t)&&Nat.beq z.nx r) ⟨z.fr.upd t (some (.o z.nx)),z.nx+1,z.m.upd z.nx (some (.buf c [])),z.ks⟩ z
 | .cell q j r c=>match z.m.get q with
  | some (.cells us)=>cond (jiJ us[j]?&&Nat.beq z.nx r) ⟨z.fr,z.nx+1,(z.m.upd q (some (.cells (us.set j (.o z.nx))))).upd z.nx (some (.buf c [])),z.ks⟩ z
  | _=>z
def Zfz (z:Z S):List (Fix S)->Z S
 | []=>z
 | f::r=>Zfz (jjb z f) r
variable {G:Gl} {o0:Nat->Prop} {ro:Nat} {B:Bs S}
theorem zf6 {z:Z S} {frV:T V} {st:St} (h:Zat Y G o0 ro B z frV st) (c:S.Cd):∃E,Inv Y G o0 ro E (z.nx+1) (z.m.upd z.nx (some (.buf c []))) st/\Step o0 B.E B.m B.st E (z.m.upd z.nx (some (.buf c []))) st z.ks [0]/\RelF Y (Dat Y (ji o0 E (z.m.upd z.nx (some (.buf c [])))) st) E z.fr frV/\E[z.nx]?=some (none,.sn):=by
 obtain ⟨E,hI,hS,hf⟩:=h;have hs:=jb1 hI none .sn (.buf c []) (st':=st) (λid e=>by cases e) (Ra _) (λ_ _=>rfl) rfl
 have hE:(E++[((none:Option Nat),V.sn)])[z.nx]?=some (none,.sn):=by rw [<-hI.len];exact push_self
 have:=(hS.trans hs).anyW;rw [gf] at this;exact ⟨_,ZcJ hI none .sn (.buf c []) hs (λid e=>by cases e) (λ_ _=>rfl) (.inl ⟨hE,rfl⟩),this,jdK (ks:=[]) hs hf,hE⟩
theorem jig {z:Z S} {frV:T V} {st:St} (h:Zat Y G o0 ro B z frV st) (f:Fix S):Zat Y G o0 ro B (jjb z f) frV st:=by
 cases f with
 | slot t r c=>
  simp only [jjb];cases hq:(jiJ (z.fr.get t)&&Nat.beq z.nx r) with
  | false=>exact h
  | true=>
   rw [yb] at hq;have hz:z.fr.get t=some .sn:=by
    have h1:=hq.1;unfold jiJ at h1;split at h1
    ·assumption
    ·cases h1
   obtain ⟨E,h1,h2,h3,h4⟩:=zf6 h c;obtain ⟨v,h5,h6⟩:=h3 t _ hz;simp only [RelV] at h6;subst h6;exact ⟨E,h1,h2,Ja8 h3 h5 (u:=.o z.nx) ⟨none,h4,rfl⟩⟩
 | cell q j r c=>
  simp only [jjb];split
  ·rename_i us hm;cases hq:(jiJ us[j]?&&Nat.beq z.nx r) with
   | false=>exact h
   | true=>
    rw [yb] at hq;have hz:us[j]?=some .sn:=by
     have h1:=hq.1;unfold jiJ at h1;split at h1
     ·assumption
     ·cases h1
    obtain ⟨E,h1,h2,h3,h4⟩:=zf6 h c;have hlt:q<z.nx:=by obtain ⟨E0,hI0,_⟩:=h;exact hI0.lt q _ hm
    have hm':(z.m.upd z.nx (some (.buf c []))).get q=some (.cells us):=by rw [Tgu,ga (by omega)];exact hm
    have nam:∀id,Zcn E ((z.m.upd q (some (.cells (us.set j (.o z.nx))))).upd z.nx (some (.buf c []))) id↔Zcn E (z.m.upd z.nx (some (.buf c []))) id:=by
     intro id;constructor
     ·rintro ⟨k,ct,y,e1,e2⟩;rw [Tgu] at e1;by_cases a:k=z.nx
      ·exact ⟨k,.buf c [],y,by rw [Tgu,ya a],e2⟩
      ·rw [ga a,Tgu] at e1;by_cases b:k=q
       ·exact ⟨k,.cells us,y,by rw [b];exact hm',e2⟩
       ·rw [ga b] at e1;exact ⟨k,ct,y,by rw [Tgu,ga a];exact e1,e2⟩
     ·rintro ⟨k,ct,y,e1,e2⟩;rw [Tgu] at e1;by_cases a:k=z.nx
      ·exact ⟨k,.buf c [],y,by rw [Tgu,ya a],e2⟩
      ·rw [ga a] at e1;by_cases b:k=q
       ·exact ⟨k,.cells (us.set j (.o z.nx)),y,by rw [Tgu,ga a,Tgu,ya b],e2⟩
       ·exact ⟨k,ct,y,by rw [Tgu,ga a,Tgu,ga b];exact e1,e2⟩
    have own:∀id,ji o0 E ((z.m.upd q (some (.cells (us.set j (.o z.nx))))).upd z.nx (some (.buf c []))) id->ji o0 E (z.m.upd z.nx (some (.buf c []))) id:=λid ho=>ho.imp (λq=>q) (nam id).1
    have hd:∀c' xs v,Dat Y (ji o0 E (z.m.upd z.nx (some (.buf c [])))) st c' xs v->Dat Y (ji o0 E ((z.m.upd q (some (.cells (us.set j (.o z.nx))))).upd z.nx (some (.buf c [])))) st c' xs v:=λc' xs v hd=>Dat.keep (Ra _) (λ_ _ _=>rfl) (λid _ ho=>own id ho) hd
    have hda:∀u v,DatA Y (ji o0 E (z.m.upd z.nx (some (.buf c [])))) st u v->DatA Y (ji o0 E ((z.m.upd q (some (.cells (us.set j (.o z.nx))))).upd z.nx (some (.buf c [])))) st u v:=λu v hd=>DatA.keep (Ra _) (λ_ _ _=>rfl) (λid _ ho=>own id ho) hd
    have any:∀k ct,((z.m.upd q (some (.cells (us.set j (.o z.nx))))).upd z.nx (some (.buf c []))).get k=some ct->∃ct0,(z.m.upd z.nx (some (.buf c []))).get k=some ct0/\(k≠q->ct0=ct)/\(k=q->ct=.cells (us.set j (.o z.nx))):=by
     intro k ct e;rw [Tgu] at e;by_cases a:k=z.nx
     ·rw [ya a] at e;exact ⟨.buf c [],by rw [Tgu,ya a],λ_=>Rd e,λb=>by omega⟩
     ·rw [ga a,Tgu] at e;by_cases b:k=q
      ·rw [ya b] at e;exact ⟨.cells us,by rw [b];exact hm',λq'=>absurd b q',λ_=>(Rd e).symm⟩
      ·rw [ga b] at e;exact ⟨ct,by rw [Tgu,ga a];exact e,λ_=>rfl,λq'=>absurd q' b⟩
    refine ⟨E,⟨h1.len,h1.ro,?_,?_,h1.out,h1.glob,?_⟩,⟨h2.len,h2.same,h2.nx,h2.keep,λid hn=>h2.nam id ((nam id).1 hn),h2.ver⟩,λt u hu=>?_⟩
    ·intro k ct e;obtain ⟨ct0,e0,_⟩:=any k ct e;exact h1.lt k ct0 e0
    ·intro k ct e;obtain ⟨ct0,e0,e1,e2⟩:=any k ct e;by_cases b:k=q
     ·obtain rfl:=e2 b;subst b;rw [hm'] at e0;cases e0;obtain ⟨id,y,b,vs,q1,q2,q3,q4,q5,q6,q7⟩:=h1.ent k _ hm';refine ⟨id,y,b,vs,q1,q2,q3,q4,by rw [Yo];exact q5,?_,λi hi=>q7 i (by rwa [Yo] at hi)⟩
      have q6':RelL Y _ E us vs:=q6;refine RelL.of_get (by rw [Yo];exact q6'.length) λi u v hu hv=>?_
      by_cases c1:i=j
      ·subst c1;have hi:=(List.getElem?_eq_some_iff.1 hz).1;rw [List.getElem?_set_self hi] at hu;cases hu;obtain ⟨w,z1,z2⟩:=q6'.get hz;rw [hv] at z1;cases z1;simp only [RelV] at z2;subst z2;exact ⟨none,h4,rfl⟩
      ·rw [List.getElem?_set_ne (Ne.symm c1)] at hu;obtain ⟨w,z1,z2⟩:=q6'.get hu;rw [hv] at z1;cases z1;exact RelV.mono (λ_ _ e=>e) hd u v z2
     ·obtain rfl:=e1 b;have he:=h1.ent k ct0 e0;cases ct0 with
      | cells us'=>
       obtain ⟨id,y,b,vs,q1,q2,q3,q4,q5,q6,q7⟩:=he;exact ⟨id,y,b,vs,q1,q2,q3,q4,q5,RelL.mono (λ_ _ e=>e) hd us' vs q6,q7⟩
      | buf c' xs=>
       rcases he with he|⟨id,cap,op,b,q1,q2,q3,q4,q5,q6,q7,q8,vs,q9,q10⟩
       ·exact .inl he
       ·exact .inr ⟨id,cap,op,b,q1,q2,q3,q4,q5,q6,q7,q8,vs,q9,λi x hx j u v hu hv=>hda u v (q10 i x hx j u v hu hv)⟩
      | row c' xs=>
       obtain ⟨id,b,q1,q2,q3,q4,q5,vs,q9,q10⟩:=he;exact ⟨id,b,q1,q2,q3,q4,q5,vs,q9,λi x hx j u v hu hv=>hda u v (q10 i x hx j u v hu hv)⟩
    ·intro k k' ct ct' id y y' e1 e2 e3 e4;obtain ⟨a0,a1,_⟩:=any k ct e1;obtain ⟨b0,b1,_⟩:=any k' ct' e2;exact h1.inj k k' a0 b0 id y y' a1 b1 e3 e4
    ·obtain ⟨v,z1,z2⟩:=h3 t u hu;exact ⟨v,z1,RelV.mono (λ_ _ e=>e) hd u v z2⟩
  ·exact h
theorem jf6 {frV:T V} {st:St}:∀(l:List (Fix S)) {z:Z S},Zat Y G o0 ro B z frV st->Zat Y G o0 ro B (Zfz z l) frV st
 | [],_,h=>h
 | f::r,_,h=>jf6 r (jig h f)
def JiP:List Nat->List Nat->Bool
 | [],_=>true
 | k::r,ks=>mem ks k&&JiP r ks
theorem JgQ:∀{a ks:List Nat},JiP a ks=true->∀r,mem ks r=false->mem a r=false
 | [],_,_,_,_=>rfl
 | k::a,ks,h,r,hr=>by
  simp only [JiP,yb] at h;simp only [mem];cases e:Nat.beq k r with
  | true=>rw [Rc] at e;subst e;rw [h.1] at hr;cases hr
  | false=>exact JgQ h.2 r hr
structure LS (Y:Sy S) (A H:Type) where
 fx:List (Fix S)
 fc:FC Y A
 hc:HC Y H
 nx:Nat
 ks:List Nat
def LS.put {A H:Type} (l:LS Y A H) (x:A×H):Z S:=⟨l.fc.enc x.1,l.nx,l.hc.enc x.2,l.ks⟩
def LS.get {A H:Type} (l:LS Y A H) (z:Z S) (k:A×H->Prop):Prop:=
 cond (Nat.ble l.nx (Zfz z l.fx).nx&&JiP (Zfz z l.fx).ks l.ks) (l.fc.dec (Zfz z l.fx).fr λa=>l.hc.dec l.nx (Zfz z l.fx).m λh=>cond (ZhX (ziJ l.nx) (l.fc.enc a)&&ZhX (jiP l.nx) (l.hc.enc h)) (k (a,h)) False) False
theorem LS.ok {A H:Type} (l:LS Y A H) (hB:B.E.length<=l.nx) {z:Z S} {k:A×H->Prop} {frV:T V} {st:St} (h:l.get z k) (hz:Zat Y G o0 ro B z frV st):∃x,k x/\Zat Y G o0 ro B (l.put x) frV st:=by
 obtain ⟨E,hI,hS,hf⟩:=jf6 l.fx hz;unfold LS.get at h;generalize hz1:Zfz z l.fx=z1 at h hI hS hf;cases hc:(Nat.ble l.nx z1.nx&&JiP z1.ks l.ks) with
 | false=>rw [hc] at h;exact h.elim
 | true=>
  rw [hc] at h;rw [yb,xd] at hc;obtain ⟨a,h1,h2⟩:=l.fc.ok h hf;obtain ⟨b,h3,h4⟩:=l.hc.ok h1 hI.ent;cases hl:(ZhX (ziJ l.nx) (l.fc.enc a)&&ZhX (jiP l.nx) (l.hc.enc b)) with
  | false=>rw [hl] at h3;exact h3.elim
  | true=>
   rw [hl] at h3;rw [yb] at hl;have tk:∀r,r<l.nx->(E.take l.nx)[r]?=E[r]?:=λr hr=>Jch (by rw [ge];exact hr)
   have nam:∀id,Zcn (E.take l.nx) (l.hc.enc b) id->Zcn E z1.m id:=by
    rintro id ⟨r,ct,y,e1,e2⟩;obtain ⟨q1,⟨ct0,q2⟩,_⟩:=h4 r ct e1;rw [tk r q1] at e2;exact ⟨r,ct0,y,q2,e2⟩
   have own:∀id,ji o0 (E.take l.nx) (l.hc.enc b) id->ji o0 E z1.m id:=λid ho=>ho.imp (λq=>q) (nam id)
   have hd:∀c xs v,Dat Y (ji o0 E z1.m) st c xs v->Dat Y (ji o0 (E.take l.nx) (l.hc.enc b)) st c xs v:=λc xs v hd=>Dat.keep (Ra _) (λ_ _ _=>rfl) (λid _ ho=>own id ho) hd
   have hda:∀u v,DatA Y (ji o0 E z1.m) st u v->DatA Y (ji o0 (E.take l.nx) (l.hc.enc b)) st u v:=λu v hd=>DatA.keep (Ra _) (λ_ _ _=>rfl) (λid _ ho=>own id ho) hd
   have hlen:(E.take l.nx).length=l.nx:=by rw [Qi,hI.len];omega
   refine ⟨(a,b),h3,E.take l.nx,⟨hlen,hI.ro,λr ct e=>(h4 r ct e).1,λr ct e=>?_,hI.out,hI.glob,λr r' ct ct' id y y' e1 e2 e3 e4=>?_⟩,⟨by show _<=(E.take l.nx).length;rw [hlen];exact hB,λr hr hm=>?_,hS.nx,hS.keep,λid hn=>hS.nam id (nam id hn),hS.ver⟩,λt u hu=>?_⟩
   ·obtain ⟨q1,_,he⟩:=h4 r ct e;have hlow:=jdw hl.2 e;cases ct with
    | cells us=>
     obtain ⟨id,y,b,vs,g1,g2,g3,g4,g5,g6,g7⟩:=he;exact ⟨id,y,b,vs,(tk r q1).trans g1,g2,g3,g4,g5,RelL.mono (λ_ _ e=>e) hd us vs (RelL.low us vs hlow g6),g7⟩
    | buf c xs=>
     rcases he with ⟨g1,g2⟩|⟨id,cap,op,b,g1,g2,g3,g4,g5,g6,g7,g8,vs,g9,g10⟩
     ·exact .inl ⟨(tk r q1).trans g1,g2⟩
     ·exact .inr ⟨id,cap,op,b,(tk r q1).trans g1,g2,g3,g4,g5,g6,g7,g8,vs,g9,λi x hx j u v hu hv=>hda u v (g10 i x hx j u v hu hv)⟩
    | row c xs=>
     obtain ⟨id,b,g1,g2,g3,g4,g5,vs,g9,g10⟩:=he;exact ⟨id,b,(tk r q1).trans g1,g2,g3,g4,g5,vs,g9,λi x hx j u v hu hv=>hda u v (g10 i x hx j u v hu hv)⟩
   ·obtain ⟨q1,⟨c0,q2⟩,_⟩:=h4 r ct e1;obtain ⟨p1,⟨d0,p2⟩,_⟩:=h4 r' ct' e2;rw [tk r q1] at e3;rw [tk r' p1] at e4;exact hI.inj r r' c0 d0 id y y' q2 p2 e3 e4
   ·rw [tk r (xi hr hB)];exact hS.same r hr (JgQ hc.2 r hm)
   ·obtain ⟨v,e1,e2⟩:=h2 t u hu;exact ⟨v,e1,RelV.mono (λ_ _ e=>e) hd u v (RelV.low u v (jdw hl.1 hu) e2)⟩
variable {P:Program} {ov:Ov} {nt:Nat}
theorem zhx {A H:Type} (l:LS Y A H) (hB:B.E.length<=l.nx) {b:Code} {K:Ex->Z S->Prop} {F:Nat->A×H->Prop} (h0:∀x,F 0 x->False)
  (hs:∀n x,F (n+1) x->Sem Y P G ov o0 ro nt B b (l.put x) (λe z=>match e with|.nrm=>l.get z (λx'=>F n x')|.exit i=>K (.exit i) z|.goto i=>K (.goto i) z|.ret=>K .ret z))
  {z:Z S} (h:l.get z (λx=>∃n,F n x)):Sem Y P G ov o0 ro nt B (.loop b) z K:=by
 intro frV st hz;obtain ⟨x,⟨n,hF⟩,hz1⟩:=l.ok hB h hz;have key:∀(n:Nat) (x:A×H) (frV:T V) (st:St),F n x->Zat Y G o0 ro B (l.put x) frV st->∃e frV' st',(∃M R,∀n,M<=n->∀r,R<=r->Zbv (evC P ov ro n nt b) r frV st=some (e,frV',st'))/\∃z',Zat Y G o0 ro B z' frV' st'/\K e z':=by
  intro n
  induction n with
  | zero=>intro x frV st h;exact (h0 x h).elim
  | succ n ih=>
   intro x frV st h hz;obtain ⟨e,frV1,st1,⟨M,h1⟩,z1,hz1,hk⟩:=hs n x h frV st hz;cases e with
   | nrm=>
    obtain ⟨x',h2,h3⟩:=l.ok hB hk hz1;obtain ⟨e2,frV2,st2,⟨M2,R2,h4⟩,h5⟩:=ih x' frV1 st1 h2 h3;refine ⟨e2,frV2,st2,⟨max M M2,R2+1,λk hk r hr=>?_⟩,h5⟩
    obtain ⟨r',rfl⟩:=xh (show r≠0 by omega)
    simp only [Zbv,h1 k (by omega)]
    exact h4 k (by omega) r' (by omega)
   | exit i=>exact ⟨_,frV1,st1,⟨M,1,λk hk r hr=>by
     obtain ⟨r',rfl⟩:=xh (show r≠0 by omega)
     simp only [Zbv,h1 k (by omega)]⟩,z1,hz1,hk⟩
   | goto i=>exact ⟨_,frV1,st1,⟨M,1,λk hk r hr=>by
     obtain ⟨r',rfl⟩:=xh (show r≠0 by omega)
     simp only [Zbv,h1 k (by omega)]⟩,z1,hz1,hk⟩
   | ret=>exact ⟨_,frV1,st1,⟨M,1,λk hk r hr=>by
     obtain ⟨r',rfl⟩:=xh (show r≠0 by omega)
     simp only [Zbv,h1 k (by omega)]⟩,z1,hz1,hk⟩
 obtain ⟨e,frV',st',⟨M,R,h1⟩,h2⟩:=key n x frV st hF hz1;refine ⟨e,frV',st',⟨M+R+1,λn hn=>?_⟩,h2⟩
 obtain ⟨k,rfl⟩:=xh (show n≠0 by omega)
 simp only [evC];exact h1 k (by omega) k (by omega)
def rnd {A H:Type} (l:LS Y A H) (cz:(Ex->Z S->Prop)->Ex->Z S->Prop) (F:A×H->Prop) (K:Ex->Z S->Prop) (e:Ex) (z:Z S):Prop:=match e with
 | .nrm=>l.get z F
 | .exit i=>cz K (.exit i) z
 | .goto i=>cz K (.goto i) z
 | .ret=>cz K .ret z
theorem zgR {A H:Type} (l:LS Y A H) (hB:B.E.length<=l.nx) {b:Code} (cz:(Ex->Z S->Prop)->Ex->Z S->Prop) (hcz:∀K e z frV st,cz K e z->Zat Y G o0 ro B z frV st->∃z',Zat Y G o0 ro B z' frV st/\K e z')
  {F:Nat->A×H->(Ex->Z S->Prop)->Prop} (h0:∀x K,F 0 x K->False)
  (hs:∀n x K,F (n+1) x K->Sem Y P G ov o0 ro nt B b (l.put x) (rnd l cz (λx'=>F n x' K) K))
  {z:Z S} {K:Ex->Z S->Prop} (h:l.get z (λx=>∃n,F n x K)):Sem Y P G ov o0 ro nt B (.loop b) z K:=by
 have:=zhx (K:=λe z=>cz K e z) l hB (F:=λn x=>F n x K) (λx=>h0 x K) (λn x hF frV st hz=>by
  obtain ⟨e,frV',st',h1,z',h2,h3⟩:=hs n x K hF frV st hz;exact ⟨e,frV',st',h1,z',h2,by cases e <;> exact h3⟩) h
 intro frV st hz;obtain ⟨e,frV',st',h1,z',h2,h3⟩:=this frV st hz;obtain ⟨z2,h4,h5⟩:=hcz K e z' frV' st' h3 h2;exact ⟨e,frV',st',h1,z2,h4,h5⟩
def czT {A1 H1 A2 H2:Type} (i0:Nat) (le:LS Y A1 H1) (lr:LS Y A2 H2) (K:Ex->Z S->Prop) (e:Ex) (z:Z S):Prop:=match e with
 | .exit i=>cond (Nat.beq i i0) (le.get z λy=>K (.exit i) (le.put y)) False
 | .ret=>lr.get z λy=>K .ret (lr.put y)
 | _=>False
theorem zY {A1 H1 A2 H2:Type} (i0:Nat) (le:LS Y A1 H1) (lr:LS Y A2 H2) (h1:B.E.length<=le.nx) (h2:B.E.length<=lr.nx) (K:Ex->Z S->Prop) (e:Ex) (z:Z S) (frV:T V) (st:St) (h:czT i0 le lr K e z) (hz:Zat Y G o0 ro B z frV st):∃z',Zat Y G o0 ro B z' frV st/\K e z':=by
 cases e with
 | exit i=>
  simp only [czT] at h;cases hq:Nat.beq i i0 with
  | false=>rw [hq] at h;exact h.elim
  | true=>rw [hq,Qa] at h;obtain ⟨x,q1,q2⟩:=le.ok h1 h hz;exact ⟨_,q2,q1⟩
 | ret=>
  simp only [czT] at h;obtain ⟨x,q1,q2⟩:=lr.ok h2 h hz;exact ⟨_,q2,q1⟩
 | nrm=>exact h.elim
 | goto i=>exact h.elim
def Jdh:Code->Option Nat
 | .region i _ _=>some i
 | .seq a b=>match Jdh a with
  | some i=>some i
  | none=>Jdh b
 | .cond _ a b=>match Jdh a with
  | some i=>some i
  | none=>Jdh b
 | .block _ b=>Jdh b
 | .loop b=>Jdh b
 | .scope b=>Jdh b
 | _=>none
def Jcx:List (Nat×(Z S->(Ex->Z S->Prop)->Prop))->ZY S
 | [],_,_,_=>False
 | (i,h)::r,b,z,K=>match Jdh b with
  | some j=>cond (Nat.beq j i) (h z K) (Jcx r b z K)
  | none=>False
def zb (c:Code) (i:Nat):Code:=(zab c).getD i .skip
def jgR (Y:Sy S) (P:Program) (G:Gl) (ov:Ov) (ro:Nat) (L:ZY S) (bn nt:Nat) (l:List Code):Prop:=∀(o0:Nat->Prop) (B:Bs S),B.E.length<=bn->∀b∈l,∀z K,L b z K->Sem Y P G ov o0 ro nt B (.loop b) z K
theorem je {L:ZY S} {bn:Nat}:jgR Y P G ov ro L bn nt []:=λ_ _ _ b hb=>by cases hb
theorem JF {L:ZY S} {bn:Nat} {b:Code} {r:List Code} (h:∀(o0:Nat->Prop) (B:Bs S),B.E.length<=bn->∀z K,L b z K->Sem Y P G ov o0 ro nt B (.loop b) z K) (hr:jgR Y P G ov ro L bn nt r):jgR Y P G ov ro L bn nt (b::r):=by
 intro o0 B hB b' hb;rcases gc.1 hb with rfl|hb
 ·exact h o0 B hB
 ·exact hr o0 B hB b' hb
end
end Go.Sx
namespace Go.Sx
open Go.Vm
section
variable {S:Sg} (Y:Sy S) (P:Program) (G:Gl)
def frU:List (U S)->Nat->T (U S)->T (U S)
 | [],_,fr=>fr
 | u::r,i,fr=>frU r (i+1) (fr.upd i (some u))
def zjA (fr:T (U S)) (m:T (Ct S)) (r:ResultVar) (k:U S->Prop):Prop:=match r with
 | .tmp t=>onO (fr.get t) k
 | .cell a t=>onO (fr.get a) λu=>Zgo Y P G m t u k
def jec (fr:T (U S)) (m:T (Ct S)):List ResultVar->(List (U S)->Prop)->Prop
 | [],k=>k []
 | r::rs,k=>zjA Y P G fr m r λu=>jec fr m rs λus=>k (u::us)
def jgE:List (U S)->U S
 | [u]=>u
 | us=>.t us
mutual
def JeB (m:T (Ct S)):U S->(U S->Prop)->Prop
 | .b x,k=>k (.b x)
 | .kb x,k=>k (.b x)
 | .i kd n,k=>k (.i kd n)
 | .s l,k=>k (.s l)
 | .pn,k=>k .pn
 | .sn,k=>k .sn
 | .fz,k=>k .fz
 | .l c xs,k=>k (.l c xs)
 | .o r,k=>match m.get r with
  | some (.buf c xs)=>k (.l c xs)
  | _=>False
 | .a us,k=>JhY m us λus=>k (.a us)
 | .t us,k=>JhY m us λus=>k (.t us)
 | _,_=>False
def JhY (m:T (Ct S)):List (U S)->(List (U S)->Prop)->Prop
 | [],k=>k []
 | u::us,k=>JeB m u λu=>JhY m us λus=>k (u::us)
end
def Jhq:List (Option S.Cd)->List (U S)->List (U S)
 | some c::cs,.sn::us=>.l c []::Jhq cs us
 | _::cs,u::us=>u::Jhq cs us
 | [],us=>us
 | _::_,[]=>[]
def fin (rc:List (Option S.Cd)) (res:List ResultVar) (k:U S->Prop) (e:Ex) (z:Z S):Prop:=match e with
 | .nrm=>jec Y P G z.fr z.m res λus=>JhY z.m us λus=>k (jgE (Jhq rc us))
 | .ret=>jec Y P G z.fr z.m res λus=>JhY z.m us λus=>k (jgE (Jhq rc us))
 | _=>False
def fnT (C:Zj S) (L:ZY S) (nt:Nat) (c:Code) (rc:List (Option S.Cd)) (res:List ResultVar) (us:List (U S)) (k:U S->Prop):Prop:=
 cond (Nat.ble us.length nt) (sC Y P G C L nt c ⟨frU us 0 .e,0,.e,[]⟩ (fin Y P G rc res k)) False
def jjA (res:List ResultVar) (k:Kn S) (e:Ex) (z:Z S):Prop:=match e with
 | .nrm=>jec Y P G z.fr z.m res λus=>k (some (jgE us)) z.nx z.m z.ks [0]
 | .ret=>jec Y P G z.fr z.m res λus=>k (some (jgE us)) z.nx z.m z.ks [0]
 | _=>False
def inl (C:Zj S) (L:ZY S) (bn nt:Nat) (c:Code) (res:List ResultVar):List (U S)->Nat->T (Ct S)->Kn S->Prop:=λus nx m k=>
 cond (Nat.ble us.length nt&&Nat.ble nx bn) (sC Y P G C L nt c ⟨frU us 0 .e,nx,m,[]⟩ (jjA Y P G res k)) False
def nb1:U S->U S
 | .kb x=>.b x
 | u=>u
def nb:U S->U S
 | .a cs=>.a (cs.map nb1)
 | u=>u
def Jfz (m:T (Ct S)):List (U S)->(List (U S)->Bool->Prop)->Prop
 | [],k=>k [] false
 | u::us,k=>match u with
  | .o r=>match m.get r with
   | some (.buf c xs)=>Jfz m us λus' _=>k (.l c xs::us') true
   | _=>False
  | .vh r j=>match m.get r with
   | some (.buf c xs)=>Jfz m us λus' _=>k (.l c (xs.take j)::us') true
   | _=>False
  | .kb x=>Jfz m us λus' b=>k (.b x::us') b
  | u=>cond (ziJ 0 u) (Jfz m us λus' b=>k (nb u::us') b) False
def con (pc:List (Option S.Cd)) (pt:List (U S)->(U S->Prop)->Prop):List (U S)->Nat->T (Ct S)->Kn S->Prop:=λus nx m k=>
 Jfz m us λus' b=>pt (Jhq pc us') λu=>match b with
  | false=>k (some u) nx m [] []
  | true=>cond (zdK u) (k (some u) nx m [] []) False
def tab:List (FuncId×(List (U S)->Nat->T (Ct S)->Kn S->Prop))->Zj S
 | [],_,_,_,_,_=>False
 | (g,p)::r,f,us,nx,m,k=>cond (Nat.beq f g) (p us nx m k) (tab r f us nx m k)
variable (ov:Ov) (ro:Nat)
def GOK (G:Gl) (ro:Nat) (st:St):Prop:=∀g k l,G g=some (k,l)->g<ro/\∃b,st.hp.get g=some b/\∀j,j<l.length->b.get j=some (.i k (l.getD j 0))
structure Ext (st st':St):Prop where
 nx:st.nx<=st'.nx
 keep:∀id,id<st.nx->st'.hp.get id=st.hp.get id
 ver:∀j,j<=st.nx->j<=st.ver->j<=st'.ver
def FnOK (f:FuncId) (pt:List (U S)->(U S->Prop)->Prop):Prop:=
 ∀(o0:Nat->Prop) us k,pt us k->∀st vs,ro<=st.nx->GOK G ro st->(∀id,o0 id->ro<=id/\id<st.nx)->RelL Y (Dat Y o0 st) [] us vs->
  ∃v st',(∃M,∀n,M<=n->evF P ov ro n f vs st=some (v,st'))/\∃u,RelV Y (Dat Y o0 st') [] u v/\Ext st st'/\k u
def Je1 (f:FuncId) (p:List (U S)->Nat->T (Ct S)->Kn S->Prop):Prop:=
 ∀(o0:Nat->Prop) us nx m k,p us nx m k->∀E st vs,Inv Y G o0 ro E nx m st->RelL Y (Dat Y (ji o0 E m) st) E us vs->∃v st',(∃M,∀n,M<=n->evF P ov ro n f vs st=some (v,st'))/\zcH Y G o0 ro E m st k (some v) st'
def zci (L:ZY S) (bn nt:Nat) (c:Code):Prop:=∀(o0:Nat->Prop) (B:Bs S),B.E.length<=bn->∀b∈zab c,∀z K,L b z K->Sem Y P G ov o0 ro nt B (.loop b) z K
variable {Y P G ov ro}
theorem Jd (o0:Nat->Prop):jC Y P G ov o0 ro (tab []):=λ_ _ _ _ _ h=>h.elim
theorem Za {g:FuncId} {p:List (U S)->Nat->T (Ct S)->Kn S->Prop} {r:List (FuncId×(List (U S)->Nat->T (Ct S)->Kn S->Prop))} (hp:Je1 Y P G ov ro g p) (hr:∀o0,jC Y P G ov o0 ro (tab r)) (o0:Nat->Prop):jC Y P G ov o0 ro (tab ((g,p)::r)):=by
 intro f us nx m k h E st vs hI hv;simp only [tab] at h;cases hq:Nat.beq f g with
 | true=>rw [hq] at h;rw [Rc] at hq;subst hq;exact hp o0 us nx m k h E st vs hI hv
 | false=>rw [hq] at h;exact hr o0 f us nx m k h E st vs hI hv
theorem zeC {D:DD S} {E:En}:∀{us:List (U S)} {vs:List V} {i:Nat} {fr:T (U S)} {frV:T V},RelL Y D E us vs->RelF Y D E fr frV->RelF Y D E (frU us i fr) (jaK vs i frV)
 | [],vs,i,fr,frV,h,hf=>by simp only [RelL] at h;subst h;exact hf
 | u::us,vs,i,fr,frV,h,hf=>by
  simp only [RelL] at h;obtain ⟨v,r,rfl,h1,h2⟩:=h;simp only [frU,jaK,V.force_eq];exact zeC h2 (jeB hf h1)
theorem Zig {o0:Nat->Prop} {E:En} {nx:Nat} {m:T (Ct S)} {st:St} (hI:Inv Y G o0 ro E nx m st) {fr:T (U S)} {frV:T V} (hf:RelF Y (Dat Y (ji o0 E m) st) E fr frV) {r:ResultVar} {k:U S->Prop} (h:zjA Y P G fr m r k) :
  ∃u v,za5 P frV st r=some v/\RelV Y (Dat Y (ji o0 E m) st) E u v/\k u:=by
 cases r with
 | tmp t=>
  obtain ⟨u,h1,h2⟩:=Ja2 h;obtain ⟨v,h3,h4⟩:=hf t u h1;exact ⟨u,v,h3,h4,h2⟩
 | cell a t=>
  obtain ⟨u,h1,h2⟩:=Ja2 h;obtain ⟨v,h3,h4⟩:=hf a u h1;obtain ⟨id,off,w,y,rfl,h5,h6,h7⟩:=Jdv hI h2 h4;exact ⟨w,y,by simp only [za5,h3];exact h5,h6,h7⟩
theorem Zdw {o0:Nat->Prop} {E:En} {nx:Nat} {m:T (Ct S)} {st:St} (hI:Inv Y G o0 ro E nx m st) {fr:T (U S)} {frV:T V} (hf:RelF Y (Dat Y (ji o0 E m) st) E fr frV):∀{rs:List ResultVar} {k:List (U S)->Prop},jec Y P G fr m rs k->
  ∃us vs,JG P frV st rs=some vs/\RelL Y (Dat Y (ji o0 E m) st) E us vs/\k us
 | [],k,h=>⟨[],[],rfl,rfl,h⟩
 | r::rs,k,h=>by
  obtain ⟨u,v,h1,h2,h3⟩:=Zig hI hf h;obtain ⟨us,vs,h4,h5,h6⟩:=Zdw hI hf h3;exact ⟨u::us,v::vs,by simp only [JG,h1,h4],⟨v,vs,rfl,h2,h5⟩,h6⟩
theorem jeC {D:DD S} {E:En} {us:List (U S)} {vs:List V} (h:RelL Y D E us vs):RelV Y D E (jgE us) (zcn vs):=by
 cases us with
 | nil=>simp only [RelL] at h;subst h;exact ⟨[],rfl,rfl⟩
 | cons u us=>
  have h':=h;simp only [RelL] at h;obtain ⟨v,r,rfl,h1,h2⟩:=h;cases us with
  | nil=>simp only [RelL] at h2;subst h2;exact h1
  | cons w us=>
   have h3:=h2;simp only [RelL] at h2;obtain ⟨x,r',rfl,h4,h5⟩:=h2;exact ⟨_,rfl,h'⟩
theorem Zf6 {o0 own:Nat->Prop} {E:En} {nx:Nat} {m:T (Ct S)} {st:St} (hI:Inv Y G o0 ro E nx m st) {r:Nat} {c:S.Cd} {xs:List (S.Den c)} {v:V} (hr:m.get r=some (.buf c xs)) (hv:RelV Y (Dat Y (ji o0 E m) st) E (.o r) v) (h1:∀id,own id->ji o0 E m id) (h2:∀id y,E[r]?=some (some id,y)->¬own id) :
  Dat Y own st c xs v:=by
 simp only [RelV] at hv;obtain ⟨x,e1,_⟩:=hv;rcases hI.ent r _ hr with ⟨q1,q2⟩|⟨id,cap,op,b,q1,q2,q3,q4,q5,q6,q7,q8,vs,q9,q10⟩
 ·rw [e1] at q1;cases q1;subst q2;exact .nil c
 ·have e1':=e1;rw [e1] at q1;cases q1;exact .mk vs (h2 id _ e1') q3 q4 (λi x hx=>by rw [dd];exact q9 i x hx) (λi x hx j u v hu hv=>DatA.keep (Ra _) (λ_ _ _=>rfl) (λid _ ho=>h1 id ho) (q10 i x hx j u v hu hv)) q5
theorem ZgR {o0:Nat->Prop} {E:En} {nx:Nat} {m:T (Ct S)} {st:St} (hI:Inv Y G o0 ro E nx m st) {r j:Nat} {c:S.Cd} {xs:List (S.Den c)} {v:V} (hr:m.get r=some (.buf c xs)) (hv:RelV Y (Dat Y (ji o0 E m) st) E (.vh r j) v) :
  Dat Y (λ_=>False) st c (xs.take j) v:=by
 simp only [RelV] at hv;obtain ⟨x,y,e1,hv⟩:=hv;rcases hI.ent r _ hr with ⟨q1,q2⟩|⟨id,cap,op,b,q1,q2,q3,q4,q5,q6,q7,q8,vs,q9,q10⟩
 ·rw [e1] at q1;cases q1;subst q2;obtain ⟨_,rfl,rfl⟩|⟨_,_,_,_,q,_⟩:=hv
  ·exact .nil c
  ·cases q
 ·rw [e1] at q1;cases q1;obtain ⟨q,_⟩|⟨_,_,_,_,q,hj,rfl⟩:=hv
  ·cases q
  cases q;have hl:(xs.take j).length=j:=by rw [Qi];omega
  have hg:∀(i:Nat) x,(xs.take j)[i]?=some x->xs[i]?=some x:=λi x hx=>by
   rw [List.getElem?_take] at hx;split at hx
   ·exact hx
   ·cases hx
  have:=Dat.mk (Y:=Y) (own:=λ_=>False) (st:=st) (c:=c) (xs:=xs.take j) (off:=0) (cap:=cap) (op:=op) (b:=b) vs (λq=>q) q3 q4 (λi x hx=>by rw [dd];exact q9 i x (hg i x hx)) (λi x hx j u v hu hv=>DatA.keep (Ra _) (λ_ _ _=>rfl) (λid _ ho=>ho.elim) (q10 i x (hg i x hx) j u v hu hv)) (by omega)
  rw [hl] at this;exact this
section
variable {o0:Nat->Prop} {E:En} {nx:Nat} {m:T (Ct S)} {st:St}
mutual
theorem Jig (hI:Inv Y G o0 ro E nx m st) (hn:∀id,Zcn E m id->¬o0 id):(u:U S)->(v:V)->(k:U S->Prop)->JeB m u k->RelV Y (Dat Y (ji o0 E m) st) E u v->∃w,RelV Y (Dat Y o0 st) [] w v/\k w
 | .b x,v,k,h,hr=>⟨.b x,hr,h⟩
 | .kb x,v,k,h,hr=>⟨.b x,hr,h⟩
 | .i kd n,v,k,h,hr=>⟨.i kd n,hr,h⟩
 | .s l,v,k,h,hr=>⟨.s l,hr,h⟩
 | .pn,v,k,h,hr=>⟨.pn,hr,h⟩
 | .sn,v,k,h,hr=>⟨.sn,hr,h⟩
 | .fz,v,k,h,hr=>⟨.fz,hr,h⟩
 | .l c xs,v,k,h,hr=>⟨.l c xs,Dat.keep (Ra _) (λ_ _ _=>rfl) (λid _ ho=>.inl ho) hr,h⟩
 | .o r,v,k,h,hr=>by
  simp only [JeB] at h;split at h
  ·rename_i c xs hm;exact ⟨.l c xs,Zf6 hI hm hr (λid ho=>.inl ho) (λid y e=>hn id ⟨r,_,y,hm,e⟩),h⟩
  ·exact h.elim
 | .a us,v,k,h,hr=>by
  obtain ⟨vs,rfl,hr⟩:=hr;obtain ⟨ws,h1,h2⟩:=ZeC hI hn us vs _ h hr;exact ⟨.a ws,⟨vs,rfl,h1⟩,h2⟩
 | .t us,v,k,h,hr=>by
  obtain ⟨vs,rfl,hr⟩:=hr;obtain ⟨ws,h1,h2⟩:=ZeC hI hn us vs _ h hr;exact ⟨.t ws,⟨vs,rfl,h1⟩,h2⟩
 | .nz,v,k,h,hr=>by simp [JeB] at h
 | .dead,v,k,h,hr=>by simp [JeB] at h
 | .p _ _,v,k,h,hr=>by simp [JeB] at h
 | .g _ _,v,k,h,hr=>by simp [JeB] at h
 | .pe _ _ _ _,v,k,h,hr=>by simp [JeB] at h
 | .pd _ _ _ _,v,k,h,hr=>by simp [JeB] at h
 | .f _ _,v,k,h,hr=>by simp [JeB] at h
theorem ZeC (hI:Inv Y G o0 ro E nx m st) (hn:∀id,Zcn E m id->¬o0 id):(us:List (U S))->(vs:List V)->(k:List (U S)->Prop)->JhY m us k->RelL Y (Dat Y (ji o0 E m) st) E us vs->∃ws,RelL Y (Dat Y o0 st) [] ws vs/\k ws
 | [],vs,k,h,hr=>⟨[],hr,h⟩
 | u::us,vs,k,h,hr=>by
  obtain ⟨v,r,rfl,h1,h2⟩:=hr;simp only [JhY] at h;obtain ⟨w,h3,h4⟩:=Jig hI hn u v _ h h1;obtain ⟨ws,h5,h6⟩:=ZeC hI hn us r _ h4 h2;exact ⟨w::ws,⟨v,r,rfl,h3,h5⟩,h6⟩
end
end
theorem zfA {f:FuncId} {fn:Func} {c:Code} {nt:Nat} {res:List ResultVar} {vs:List V} {st:St} {e:Ex} {frV':T V} {st':St} {ws:List V} (hov:ov f vs st=none) (hf:P.funcs[f]?=some fn) (hb:fn.body=some c) (hnt:fn.ntmps=nt) (hres:fn.results.toList=res) (hl:vs.length<=nt)
  (he:e=.nrm\/e=.ret) (h:∃M,∀n,M<=n->evC P ov ro n nt c (jaK vs 0 .e) st=some (e,frV',st')) (hr:JG P frV' st' res=some ws):∃M,∀n,M<=n->evF P ov ro n f vs st=some (zcn ws,st'):=by
 obtain ⟨M,h⟩:=h;subst hnt hres;refine ⟨M,λn hn=>?_⟩
 have hl':Nat.ble vs.length fn.ntmps=true:=by rw [xd];exact hl
 unfold evF ZS;rcases he with rfl|rfl <;> simp only [hov,hf,hb,hl',Qa,h n hn,hr]
theorem Jdw {own:Nat->Prop} {st:St} {E:En}:∀{rc:List (Option S.Cd)} {us:List (U S)} {vs:List V},RelL Y (Dat Y own st) E us vs->RelL Y (Dat Y own st) E (Jhq rc us) vs
 | [],us,vs,h=>by cases us <;> exact h
 | o::rc,[],vs,h=>by cases o <;> exact h
 | o::rc,u::us,vs,h=>by
  obtain ⟨v,r,rfl,h1,h2⟩:=h;have h3:=Jdw (rc:=rc) h2;cases o with
  | none=>exact ⟨v,r,rfl,h1,h3⟩
  | some c=>
   cases u with
   | sn=>
    simp only [RelV] at h1;subst h1;exact ⟨.sn,r,rfl,.nil _,h3⟩
   | _=>exact ⟨v,r,rfl,h1,h3⟩
theorem Zy {rc:List (Option S.Cd)} {f:FuncId} {fn:Func} {c:Code} {nt:Nat} {res:List ResultVar} {C:Zj S} {L:ZY S} (hov:∀vs st,ov f vs st=none) (hf:P.funcs[f]?=some fn) (hb:fn.body=some c) (hnt:fn.ntmps=nt) (hres:fn.results.toList=res)
  (hC:∀o0,jC Y P G ov o0 ro C) (hL:zci Y P G ov ro L 0 nt c):FnOK Y P G ov ro f (fnT Y P G C L nt c rc res):=by
 intro o0 us k h st vs h1 h2 h3 h4;unfold fnT at h;cases hl:Nat.ble us.length nt with
 | false=>rw [hl] at h;exact h.elim
 | true=>
  rw [hl] at h;rw [xd] at hl;have hown:∀id,ji o0 [] (T.e:T (Ct S)) id->o0 id:=λid ho=>ho.elim (λq=>q) (λ⟨r,ct,y,e,_⟩=>by rw [T.get_e] at e;cases e)
  have hI:Inv Y G o0 ro [] 0 (T.e:T (Ct S)) st:=⟨rfl,h1,λr ct e=>(by rw [T.get_e] at e;cases e),λr ct e=>(by rw [T.get_e] at e;cases e),h3,h2,λr r' ct ct' id y y' e=>(by rw [T.get_e] at e;cases e)⟩
  have hz:Zat Y G o0 ro ⟨[],.e,st⟩ (⟨frU us 0 .e,0,.e,[]⟩:Z S) (jaK vs 0 .e) st:=
   ⟨[],hI,(Step.refl o0 [] _ st).anyW,zeC (RelL.mono (λ_ _ e=>e) (λc xs v hd=>Dat.keep (Ra _) (λ_ _ _=>rfl) (λid _ ho=>hown id ho) hd) us vs h4) (λt u hu=>by rw [T.get_e] at hu;cases hu)⟩
  obtain ⟨e,frV',st',hev,z',⟨E,hI',hS',hf'⟩,hk⟩:=zec (hC o0) c (hL o0 ⟨[],.e,st⟩ (Ra _)) _ _ h _ st hz;have hnam:∀id,Zcn E z'.m id->¬o0 id:=λid hn ho=>by
   rcases hS'.nam id hn with ⟨r,ct,y,e,_⟩|q
   ·rw [T.get_e] at e;cases e
   ·have:=(h3 id ho).2;exact absurd this (Nat.not_lt.2 q)
  have fin':(jec Y P G z'.fr z'.m res λus=>JhY z'.m us λus=>k (jgE (Jhq rc us)))->(e=.nrm\/e=.ret)->∃v st',(∃M,∀n,M<=n->evF P ov ro n f vs st=some (v,st'))/\∃u,RelV Y (Dat Y o0 st') [] u v/\Ext st st'/\k u:=by
   intro hk he;obtain ⟨us',ws,g1,g2,g3⟩:=Zdw hI' hf' hk;obtain ⟨xs,g4,g5⟩:=ZeC hI' hnam us' ws _ g3 g2;exact ⟨zcn ws,st',zfA (hov vs _) hf hb hnt hres (by rw [h4.length];exact hl) he hev g1,jgE (Jhq rc xs),jeC (Jdw g4),⟨hS'.nx,λid hid=>hS'.keep id hid (λ⟨r,ct,y,e,_⟩=>by rw [T.get_e] at e;cases e),λj j1 j2=>hS'.ver j j1 j2 (.inr λid ⟨r,ct,y,e,_⟩=>(by rw [T.get_e] at e;cases e))⟩,g5⟩
  unfold fin at hk;cases e with
  | nrm=>exact fin' hk (.inl rfl)
  | ret=>exact fin' hk (.inr rfl)
  | exit i=>exact hk.elim
  | goto i=>exact hk.elim
theorem zdi {f:FuncId} {fn:Func} {c:Code} {nt bn:Nat} {res:List ResultVar} {C:Zj S} {L:ZY S} (hov:∀vs st,ov f vs st=none) (hf:P.funcs[f]?=some fn) (hb:fn.body=some c) (hnt:fn.ntmps=nt) (hres:fn.results.toList=res)
  (hC:∀o0,jC Y P G ov o0 ro C) (hL:zci Y P G ov ro L bn nt c):Je1 Y P G ov ro f (inl Y P G C L bn nt c res):=by
 intro o0 us nx m k h E st vs hI hr;unfold inl at h;cases hl:(Nat.ble us.length nt&&Nat.ble nx bn) with
 | false=>rw [hl] at h;exact h.elim
 | true=>
  rw [hl] at h;rw [yb,xd,xd] at hl;have hz:Zat Y G o0 ro ⟨E,m,st⟩ (⟨frU us 0 .e,nx,m,[]⟩:Z S) (jaK vs 0 .e) st:=
   ⟨E,hI,(Step.refl o0 E m st).anyW,zeC hr (λt u hu=>by rw [T.get_e] at hu;cases hu)⟩
  obtain ⟨e,frV',st',hev,z',⟨E',hI',hS',hf'⟩,hk⟩:=zec (hC o0) c (hL o0 ⟨E,m,st⟩ (by rw [hI.len];exact hl.2)) _ _ h _ st hz
  have fin':(jec Y P G z'.fr z'.m res λus=>k (some (jgE us)) z'.nx z'.m z'.ks [0])->(e=.nrm\/e=.ret)->∃v st',(∃M,∀n,M<=n->evF P ov ro n f vs st=some (v,st'))/\zcH Y G o0 ro E m st k (some v) st':=by
   intro hk he;obtain ⟨us',ws,g1,g2,g3⟩:=Zdw hI' hf' hk;exact ⟨zcn ws,st',zfA (hov vs _) hf hb hnt hres (by rw [hr.length];exact hl.1) he hev g1,some (jgE us'),z'.nx,z'.m,z'.ks,[0],E',hI',hS',jeC g2,g3⟩
  unfold jjA at hk;cases e with
  | nrm=>exact fin' hk (.inl rfl)
  | ret=>exact fin' hk (.inr rfl)
  | exit i=>exact hk.elim
  | goto i=>exact hk.elim
theorem zih {D:DD S} {E:En} {u:U S} {v:V} (h:RelV Y D E u v):RelV Y D E (nb1 u) v:=by
 cases u <;> first|exact h|(simp only [nb1,RelV] at h |-;exact h)
theorem Jf6 {D:DD S} {E:En}:∀{us:List (U S)} {vs:List V},RelL Y D E us vs->RelL Y D E (us.map nb1) vs
 | [],_,h=>h
 | u::us,_,h=>by
  obtain ⟨v,r,rfl,h1,h2⟩:=h;exact ⟨v,r,rfl,zih h1,Jf6 h2⟩
theorem zhZ {D:DD S} {E:En} {u:U S} {v:V} (h:RelV Y D E u v):RelV Y D E (nb u) v:=by
 cases u <;> first
  | exact h
  | (simp only [nb,RelV] at h |-;obtain ⟨vs,e,h2⟩:=h;exact ⟨vs,e,Jf6 h2⟩)
theorem JcK {o0:Nat->Prop} {E:En} {nx:Nat} {m:T (Ct S)} {st:St} (hI:Inv Y G o0 ro E nx m st):∀{us:List (U S)} {vs:List V} {k:List (U S)->Bool->Prop},Jfz m us k->RelL Y (Dat Y (ji o0 E m) st) E us vs->
  ∃us' b,k us' b/\RelL Y (Dat Y (λ_=>False) st) [] us' vs/\(b=false->RelL Y (Dat Y (ji o0 E m) st) [] us' vs)
 | [],vs,k,h,hr=>⟨[],false,h,hr,λ_=>hr⟩
 | u::us,vs,k,h,hr=>by
  obtain ⟨v,r,rfl,h1,h2⟩:=hr;simp only [Jfz] at h;split at h
  ·rename_i r0;split at h
   ·rename_i c xs hm;obtain ⟨us',b,g1,g2,_⟩:=JcK hI h h2;exact ⟨.l c xs::us',true,g1,⟨v,r,rfl,Zf6 hI hm h1 (λ_ q=>q.elim) (λ_ _ _ q=>q),g2⟩,λq=>by cases q⟩
   ·exact h.elim
  ·rename_i r0 j;split at h
   ·rename_i c xs hm;obtain ⟨us',b,g1,g2,_⟩:=JcK hI h h2;exact ⟨.l c (xs.take j)::us',true,g1,⟨v,r,rfl,ZgR hI hm h1,g2⟩,λq=>by cases q⟩
   ·exact h.elim
  ·rename_i x;obtain ⟨us',b,g1,g2,g3⟩:=JcK hI h h2;exact ⟨.b x::us',b,g1,⟨v,r,rfl,h1,g2⟩,λq=>⟨v,r,rfl,h1,g3 q⟩⟩
  ·cases hq:ziJ 0 u with
   | false=>rw [hq] at h;exact h.elim
   | true=>
    rw [hq] at h;obtain ⟨us',b,g1,g2,g3⟩:=JcK hI h h2;have hlow:=RelV.low (n:=0) u v hq h1;rw [List.take_zero] at hlow;exact ⟨nb u::us',b,g1,⟨v,r,rfl,zhZ (RelV.mono (λ_ _ e=>e) (λc xs v hd=>Dat.keep (Ra _) (λ_ _ _=>rfl) (λ_ _ q=>q.elim) hd) u v hlow),g2⟩,λq=>⟨v,r,rfl,zhZ hlow,g3 q⟩⟩
theorem Jc {pc:List (Option S.Cd)} {f:FuncId} {pt:List (U S)->(U S->Prop)->Prop} (hp:FnOK Y P G ov ro f pt):Je1 Y P G ov ro f (con pc pt):=by
 intro o0 us nx m k h E st vs hI hr;obtain ⟨us',b,g1,g2,g3⟩:=JcK hI h hr;have stp:∀{st':St},Ext st st'->Step o0 E m st E m st' [] []:=λhx=>⟨Ra _,λ_ _ _=>rfl,hx.nx,λid hid _=>hx.keep id hid,λ_ h=>.inl h,λj h1 h2 _=>hx.ver j h1 h2⟩
 have inv:∀{st':St},Ext st st'->Inv Y G o0 ro E nx m st':=fun {st'} hx=>⟨hI.len,Yb hI.ro hx.nx,hI.lt,λr ct e=>by
  have:=Ent.keep (stp hx) (hI.ent r ct e) rfl (λid _ _ hid=>hx.keep id hid)
  rwa [zby] at this,λid ho=>⟨(hI.out id ho).1,xi (hI.out id ho).2 hx.nx⟩,zb1 hI (stp hx),hI.inj⟩
 cases b with
 | false=>
  obtain ⟨v,st',hev,u,q1,q2,q3⟩:=hp (ji o0 E m) (Jhq pc us') _ g1 st vs hI.ro hI.glob (λid ho=>ho.elim (hI.out id) (λ⟨r,ct,y,e1,e2⟩=>Zf4 hI e1 e2)) (Jdw (g3 rfl))
  exact ⟨v,st',hev,some u,nx,m,[],[],E,inv q2,stp q2,RelV.mono (λr x e=>by simp at e) (λ_ _ _ hd=>hd) u v q1,q3⟩
 | true=>
  obtain ⟨v,st',hev,u,q1,q2,q3⟩:=hp (λ_=>False) (Jhq pc us') _ g1 st vs hI.ro hI.glob (λ_ q=>q.elim) (Jdw g2)
  cases hpl:zdK u with
  | false=>dsimp only at q3;rw [hpl] at q3;exact q3.elim
  | true=>
   dsimp only at q3;rw [hpl] at q3;exact ⟨v,st',hev,some u,nx,m,[],[],E,inv q2,stp q2,(jeo hpl q1).2,q3⟩
theorem Ji {L:ZY S} {bn nt:Nat} {c:Code} {l:List Code} (hl:zab c=l) (h:jgR Y P G ov ro L bn nt l):zci Y P G ov ro L bn nt c:=by
 subst hl;exact h
theorem zG {A H:Type} {L:ZY S} {C:Zj S} {bn nt:Nat} {b:Code} (hC:∀o0,jC Y P G ov o0 ro C) (hin:jgR Y P G ov ro L bn nt (zab b)) (l:LS Y A H) (hl:bn<=l.nx) (cz:(Ex->Z S->Prop)->Ex->Z S->Prop)
  (hcz:∀(o0:Nat->Prop) (B:Bs S),B.E.length<=bn->∀K e z frV st,cz K e z->Zat Y G o0 ro B z frV st->∃z',Zat Y G o0 ro B z' frV st/\K e z') {F:Nat->A×H->(Ex->Z S->Prop)->Prop} (h0:∀x K,F 0 x K->False)
  (hs:∀n x K,jt (l.put x) (λz=>sC Y P G C L nt b z (rnd l cz (λx'=>F n x' K) K))=F (n+1) x K)
  (hL:∀z K,L b z K=l.get z (λx=>∃n,F n x K)):∀(o0:Nat->Prop) (B:Bs S),B.E.length<=bn->∀z K,L b z K->Sem Y P G ov o0 ro nt B (.loop b) z K:=
 λo0 B hB _ _ h=>zgR l (Yb hB hl) cz (hcz o0 B hB) h0 (λn x K hF=>zec (hC o0) b (hin o0 B hB) _ _ (by have:=(hs n x K).mpr hF;rwa [JdJ] at this)) ((hL _ _).mp h)
theorem FnOK.weak {f:FuncId} {pt pt':List (U S)->(U S->Prop)->Prop} (hp:FnOK Y P G ov ro f pt) (h:∀us k,pt' us k->pt us k):FnOK Y P G ov ro f pt':=λo0 us k hk=>hp o0 us k (h us k hk)
end
end Go.Sx
namespace Go.Sx
open Go.Vm
section
variable {S:Sg} (Y:Sy S) (P:Program) (G:Gl) (ov:Ov) (ro:Nat)
def ZeD {A2 H2:Type} {Y:Sy S} (le:LS Y A2 H2) (K:A2×H2->Prop) (e:Ex) (z:Z S):Prop:=match e with
 | .nrm=>le.get z K
 | .ret=>le.get z K
 | _=>False
def ShOK {A H A2 H2:Type} (nt:Nat) (c:Code) (l:LS Y A H) (le:LS Y A2 H2) (Af:A×H->(A2×H2->Prop)->Prop):Prop:=
 ∀(o0:Nat->Prop) (B:Bs S),B.E.length<=l.nx->∀x K,Af x K->Sem Y P G ov o0 ro nt B c (l.put x) (ZeD le K)
def shp {A H A2 H2:Type} (nt:Nat) (l:LS Y A H) (le:LS Y A2 H2) (res:List ResultVar) (Af:A×H->(A2×H2->Prop)->Prop):List (U S)->Nat->T (Ct S)->Kn S->Prop:=λus nx m k=>
 cond (Nat.ble us.length nt&&Nat.ble nx l.nx) (l.get ⟨frU us 0 .e,nx,m,[]⟩ λx=>Af x λy=>jt (le.put y) λz=>jec Y P G z.fr z.m res λus=>k (some (jgE us)) z.nx z.m z.ks [0]) False
variable {Y P G ov ro}
theorem zb2 {A H A2 H2:Type} {nt:Nat} {c:Code} {l:LS Y A H} {le:LS Y A2 H2} {C:Zj S} {L:ZY S} {F:A×H->(A2×H2->Prop)->Prop} (hC:∀o0,jC Y P G ov o0 ro C) (hL:zci Y P G ov ro L l.nx nt c)
  (h:∀x K,jt (l.put x) (λz=>sC Y P G C L nt c z (ZeD le K))=F x K):ShOK Y P G ov ro nt c l le F:=
 λo0 B hB x K hF=>zec (hC o0) c (hL o0 B hB) _ _ (by have:=(h x K).mpr hF;rwa [JdJ] at this)
theorem ShOK.weak {A H A2 H2:Type} {nt:Nat} {c:Code} {l:LS Y A H} {le:LS Y A2 H2} {F F2:A×H->(A2×H2->Prop)->Prop} (h:ShOK Y P G ov ro nt c l le F) (hw:∀x K,F2 x K->F x K):ShOK Y P G ov ro nt c l le F2:=
 λo0 B hB x K hF=>h o0 B hB x K (hw x K hF)
theorem Zam {A H A2 H2:Type} {f:FuncId} {fn:Func} {c:Code} {nt:Nat} {res:List ResultVar} {l:LS Y A H} {le:LS Y A2 H2} {Af:A×H->(A2×H2->Prop)->Prop} (hov:∀vs st,ov f vs st=none) (hf:P.funcs[f]?=some fn) (hb:fn.body=some c) (hnt:fn.ntmps=nt) (hres:fn.results.toList=res)
  (hle:l.nx<=le.nx) (h:ShOK Y P G ov ro nt c l le Af):Je1 Y P G ov ro f (shp Y P G nt l le res Af):=by
 intro o0 us nx m k hk E st vs hI hr;unfold shp at hk;cases hl:(Nat.ble us.length nt&&Nat.ble nx l.nx) with
 | false=>rw [hl] at hk;exact hk.elim
 | true=>
  rw [hl,Qa] at hk;rw [yb,xd,xd] at hl;have hz:Zat Y G o0 ro ⟨E,m,st⟩ (⟨frU us 0 .e,nx,m,[]⟩:Z S) (jaK vs 0 .e) st:=
   ⟨E,hI,(Step.refl o0 E m st).anyW,zeC hr (λt u hu=>by rw [T.get_e] at hu;cases hu)⟩
  have hB:E.length<=l.nx:=by rw [hI.len];exact hl.2
  obtain ⟨x,h1,h2⟩:=l.ok (B:=⟨E,m,st⟩) hB hk hz;obtain ⟨e,frV',st',hev,z',hz',hfin⟩:=h o0 ⟨E,m,st⟩ hB x _ h1 _ st h2;have fin':le.get z' (λy=>jt (le.put y) λz=>jec Y P G z.fr z.m res λus=>k (some (jgE us)) z.nx z.m z.ks [0])->(e=.nrm\/e=.ret)->∃v st',(∃M,∀n,M<=n->evF P ov ro n f vs st=some (v,st'))/\zcH Y G o0 ro E m st k (some v) st':=by
   intro hg he;obtain ⟨y,q1,E',hI',hS',hf'⟩:=le.ok (B:=⟨E,m,st⟩) (Yb hB hle) hg hz';rw [JdJ] at q1;obtain ⟨us',ws,g1,g2,g3⟩:=Zdw hI' hf' q1;exact ⟨zcn ws,st',zfA (hov vs _) hf hb hnt hres (by rw [hr.length];exact hl.1) he hev g1,some (jgE us'),(le.put y).nx,(le.put y).m,(le.put y).ks,[0],E',hI',hS',jeC g2,g3⟩
  cases e with
  | nrm=>exact fin' hfin (.inl rfl)
  | ret=>exact fin' hfin (.inr rfl)
  | exit i=>exact hfin.elim
  | goto i=>exact hfin.elim
end
end Go.Sx
namespace Go.Sx
open Go.Vm
section
variable {S:Sg} (Y:Sy S) (P:Program) (G:Gl) (ov:Ov) (ro:Nat)
def pAI (t:TypeId):List (U S)->Nat->T (Ct S)->Kn S->Prop:=λus nx m k=>match us with
 | [s,.i .i64 n,.i .i64 b]=>Jec n b=true/\zeA Y P nx m t s (.s (zaX n b)) k
 | _=>False
variable {Y P G ov ro}
theorem JgT {f:FuncId} {t:TypeId} (hov:∀args st v st',jh0 P f t ro f args st=some (v,st')->ov f args st=some (v,st')):Je1 Y P G ov ro f (pAI Y P t):=by
 intro o0 us nx m k hk E st vs hI hr;unfold pAI at hk;split at hk
 ·rename_i s n b;simp only [RelL] at hr;obtain ⟨sv,r1,rfl,hs,v1,r2,rfl,hv1,v2,r3,rfl,hv2,rfl⟩:=hr;simp only [RelV] at hv1 hv2;subst hv1;subst hv2;obtain ⟨v,st',h1,h2⟩:=zeo (P:=P) hI hk.2 hs (xv:=V.str (zaX n b)) (by simp only [RelV])
  refine ⟨v,st',⟨0,λn' _=>?_⟩,h2⟩
  have h3:jh0 P f t ro f [sv,.i .i64 n,.i .i64 b] st=some (v,st'):=by
   unfold jh0;rw [show Nat.beq f f=true from by simp,Qa]
   simp only [hk.1,Qa];exact h1
  show ZS P ov _ f _ st=_;unfold ZS;rw [hov _ _ _ _ h3]
 ·exact hk.elim
end
end Go.Sx
namespace Go.Sx
open Go.Vm Go.Proofs.YtplpmeednhcjkaaGreatDoor
section
variable {S:Sg} (Y:Sy S) (P:Program) (G:Gl) (ov:Ov) (ro:Nat)
def zjh:List (U S)->Nat->T (Ct S)->Kn S->Prop:=λus nx m k=>match us with
 | [.o r,.i .i64 i,.o r2]=>match m.get r,m.get r2 with
  | some (.buf c xs),some (.row c2 ys)=>Y.cast c2 c ys λys=>cond (Nat.beq (Y.wid c) 1&&Y.opn c) ((0<=i/\i<(xs.length:Int)/\0<ys.length/\xs.length+ys.length<=1099511627776)/\
   k (some (.o r)) nx ((Jey (za3 [r]) m).upd r (some (.buf c (xs.take i.toNat++(ys++xs.drop i.toNat))))) [r] [r]) False
  | _,_=>False
 | _=>False
variable {Y P G ov ro}
theorem zep {c:S.Cd} {xs:List (S.Den c)} {b:Blk} {off:Nat} {own:Nat->Prop} {st:St} (hw:Y.wid c=1) (h:Cel Y c xs (λk=>b.get (off+k)) (DatA Y own st)) :
  ∃cs,b.row xs.length off=some cs/\cs.length=xs.length/\Cel Y c xs (λk=>cs[k]?) (DatA Y own st)/\∀v∈cs,v.atom=true:=by
 have key:∀k,k<xs.length->∃v,b.get (off+k)=some v/\v.atom=true:=by
  intro k hk;have hx:=List.getElem?_eq_getElem hk;have hu:(Y.cells c xs[k])[0]?=some _:=List.getElem?_eq_getElem (by rw [Y.len,hw];exact Nat.one_pos)
  obtain ⟨v,z1,z2⟩:=h k _ hx 0 _ hu;dsimp only at z1;rw [hw,Hj,Re] at z1;exact ⟨v,z1,jch (E:=[]) (Zb1 (Y.flat _ _ _ (List.mem_of_getElem? hu))) z2.rel⟩
 have hl:((List.range xs.length).map λk=>(b.get (off+k)).getD (.b false)).length=xs.length:=by simp
 have hg:∀k,k<xs.length->((List.range xs.length).map λk=>(b.get (off+k)).getD (.b false))[k]?=b.get (off+k):=by
  intro k hk;obtain ⟨v,z1,_⟩:=key k hk;rw [List.getElem?_map,List.getElem?_range hk,yg,z1,dm]
 refine ⟨(List.range xs.length).map λk=>(b.get (off+k)).getD (.b false),?_,hl,?_,?_⟩
 ·have:=Blk.row_ok (b:=b) ((List.range xs.length).map λk=>(b.get (off+k)).getD (.b false)) off (λj hj=>(hg j (by rw [<-hl];exact hj)).symm)
  rwa [hl] at this
 ·intro i x hx j u hu;obtain ⟨v,z1,z2⟩:=h i x hx j u hu;refine ⟨v,?_,z2⟩;have hj:j<Y.wid c:=by rw [<-Y.len c x];exact (List.getElem?_eq_some_iff.1 hu).1
  have hi:=(List.getElem?_eq_some_iff.1 hx).1;dsimp only at z1 |-;rw [hg _ (by rw [hw] at hj |-;omega)]
  exact z1
 ·intro v hv;obtain ⟨j,hj⟩:=List.mem_iff_getElem?.1 hv;have hjl:j<xs.length:=by rw [<-hl];exact (List.getElem?_eq_some_iff.1 hj).1
  rw [hg j hjl] at hj;obtain ⟨w,z1,z2⟩:=key j hjl;rw [hj] at z1;cases z1;exact z2
theorem zim {f:FuncId} (hov:∀args st v st',Zh0 ro args st=some (v,st')->ov f args st=some (v,st')):Je1 Y P G ov ro f (zjh Y):=by
 intro o0 us nx m k hk E st vs hI hr;unfold zjh at hk;split at hk
 ·rename_i r i r2;split at hk
  ·rename_i c xs c2 ys hm hm2;obtain ⟨rfl,hk⟩:=Y.cast_ok _ _ _ _ hk;dsimp only at hk;cases hc:(Nat.beq (Y.wid c2) 1&&Y.opn c2) with
   | false=>rw [hc] at hk;exact hk.elim
   | true=>
    rw [hc,Qa] at hk;simp only [yb,Rc] at hc;obtain ⟨hw,ho⟩:=hc;obtain ⟨⟨g1,g2,g3,g4⟩,hk⟩:=hk;simp only [RelL] at hr;obtain ⟨sv,r1,rfl,hs,v1,r2',rfl,hv1,v2,r3,rfl,hv2,rfl⟩:=hr;simp only [RelV] at hs hv1 hv2;subst hv1;obtain ⟨y,e1,_⟩:=hs;have hrl:=(List.getElem?_eq_some_iff.1 e1).1;rcases hI.ent r _ hm with ⟨q1,q2⟩|⟨id,cap,op,b,q1,q2,q3,q4,q5,q6,q7,q8,vs,q9,q10⟩
    ·subst q2;simp at g2;omega
    ·rw [e1] at q1;cases q1;have hop:=q8.2 ho;subst hop;obtain ⟨o1,rfl⟩:=q8.1 rfl;have o1:b.op=true:=o1.resolve_right (by rw [ho];simp)
     rw [hw,Hj] at q7;obtain ⟨y2,e2,_⟩:=hv2;obtain ⟨id2,b2,u1,u2,u3,h3,u5,vs2,h4,h5⟩:=hI.ent r2 _ hm2;rw [e2] at u1;cases u1;have hne:id≠id2:=λq=>by
      have:=hI.inj r r2 _ _ id _ _ hm hm2 e1 (by rw [q];exact e2)
      subst this;rw [hm] at hm2;cases hm2
     obtain ⟨n,rfl⟩:∃n:Nat,i=Int.ofNat n:=⟨i.toNat,by show i=(i.toNat:Int);omega⟩
     have hn:n<xs.length:=by have:(n:Int)<(xs.length:Int):=g2;omega
     rw [show (Int.ofNat n).toNat=n from rfl] at hk
     have hold:=z7 (off:=0) (b:=b) (DA:=DatA Y (ji o0 E m) st) (λi x hx=>by rw [dd];exact q9 i x hx) q10
     simp only [dd] at hold;have hys:=z7 (off:=0) (b:=b2) (DA:=DatA Y (ji o0 E m) st) (λi x hx=>by rw [dd];exact h4 i x hx) h5
     have hdr:Cel Y c2 (xs.drop n) (λk=>b.get (n+k)) (DatA Y (ji o0 E m) st):=by
      intro j x hx j0 u hu;rw [List.getElem?_drop] at hx;obtain ⟨v,z1,z2⟩:=hold (n+j) x hx j0 u hu;rw [hw] at z1 |-;exact ⟨v,by dsimp only;rw [<-z1];congr 1;omega,z2⟩
     obtain ⟨rest,s1,s2,s3,s4⟩:=zep hw hdr;obtain ⟨new,t1,t2,t3,t4⟩:=zep hw hys;have hdl:(xs.drop n).length=xs.length-n:=Hb;rw [hdl] at s1 s2;have hnl:(new++rest).length=ys.length+(xs.length-n):=by rw [Rb,t2,s2]
     obtain ⟨b',hput⟩:=Blk.put_ok (new++rest) { b with sz:=b.sz+ys.length } n (by rw [hnl];dsimp only;omega) (λv hv=>by
      rcases Rf.1 hv with q|q
      ·exact t4 v q
      ·exact s4 v q)
     obtain ⟨p1,p2,p3,p4,p5,p6,_⟩:=Blk.put_spec _ _ _ _ hput;dsimp only at p1 p2 p3;have hzl:(xs.take n++(ys++xs.drop n)).length=xs.length+ys.length:=by simp only [Rb,Qi,Hb];omega
     have hget:∀k,k<n->b'.get k=b.get k:=by
      intro k hk;rw [p5,ga (by omega)]
      unfold Blk.get;dsimp only;rw [show Nat.blt k (b.sz+ys.length)=true from by rw [ge];omega,show Nat.blt k b.sz=true from by rw [ge];omega]
     have htl:(xs.take n).length=n:=by rw [Qi];omega
     have hcel:Cel Y c2 (xs.take n++(ys++xs.drop n)) b'.get (DatA Y (ji o0 E m) st):=by
      refine ZdJ (new:=new++rest) (get:=b'.get) ?_ ?_ (λk=>?_)
      ·intro j x hx j0 u hu;rw [List.getElem?_take] at hx;split at hx
       ·rename_i hjn;obtain ⟨v,z1,z2⟩:=hold j x hx j0 u hu;have hj0:j0<Y.wid c2:=by rw [<-Y.len c2 x];exact (List.getElem?_eq_some_iff.1 hu).1
        exact ⟨v,by rw [hget _ (by rw [hw] at hj0 |-;omega)];exact z1,z2⟩
       ·cases hx
      ·refine ZdJ (new:=rest) (get:=λk=>(new++rest)[k]?) ?_ s3 (λk=>?_)
       ·intro j x hx j0 u hu;obtain ⟨v,z1,z2⟩:=t3 j x hx j0 u hu;dsimp only at z1 |-;exact ⟨v,by rw [List.getElem?_append_left (List.getElem?_eq_some_iff.1 z1).1];exact z1,z2⟩
       ·rw [hw,Hj];split
        ·rename_i q;rw [List.getElem?_append_right (by rw [t2];exact q.1),t2]
        ·rfl
      ·rw [p5,hw,Hj,htl];split
       ·rfl
       ·rfl
     have hv:Zh0 ro [.sl id 0 xs.length xs.length true,.i .i64 (Int.ofNat n),.sl id2 0 ys.length ys.length false] st=some (.sl st.nx 0 (xs.length+ys.length) (xs.length+ys.length) true,St.alloc ⟨st.nx,(st.kill id).hp,(st.kill id).ver⟩ b'):=by
      unfold Zh0;have c1:(Nat.beq 0 0&&Nat.beq xs.length xs.length&&Nat.beq b.sz xs.length&&Nat.beq b.es 1&&b.op&&Nat.blt n xs.length&&Nat.blt 0 ys.length&&Nat.ble ro id&&!(Nat.beq id id2)&&Nat.ble (xs.length+ys.length) 1099511627776)=true:=by
       have a1:Nat.beq id id2=false:=by rw [dl];intro q;rw [Rc] at q;exact hne q
       have a2:Nat.blt n xs.length=true:=by rw [ge];exact hn
       have a3:Nat.blt 0 ys.length=true:=by rw [ge];exact g3
       have a4:Nat.ble ro id=true:=by rw [xd];exact q2
       have a5:Nat.ble (xs.length+ys.length) 1099511627776=true:=by rw [xd];exact g4
       rw [q7,q6,hw,o1,a1,a2,a3,a4,a5];simp
      simp only [q4,h3,c1,Qa,s1,t1,hput,Zf7]
     have hm0:∀k c,(Jey (za3 [r]) m).get k=some c->∃c',m.get k=some c':=by
      intro k c e;rw [jcg] at e;cases q:m.get k with
      | none=>rw [q] at e;cases e
      | some c'=>exact ⟨c',rfl⟩
     have f1:∀id',some st.nx=some id'->(∃y,E[r]?=some (some id',y))\/st.nx<=id':=λid' e=>.inr (by cases e;exact Ra _)
     have f5:∀j,j<st.nx->(∀y,E[r]?≠some (some j,y))->(St.alloc ⟨st.nx,(st.kill id).hp,(st.kill id).ver⟩ b').hp.get j=st.hp.get j:=λj hj hh=>by
      rw [ZaB ⟨st.nx,(st.kill id).hp,(st.kill id).ver⟩ b' j hj,St.kill_eq];dsimp only;rw [Tgu,ga (λz=>by subst z;exact hh _ e1)]
     have f6:∀j,j<=st.nx->j<=st.ver->(∀id y,E[r]?=some (some id,y)->j<=id)->j<=(St.alloc ⟨st.nx,(st.kill id).hp,(st.kill id).ver⟩ b').ver:=λj _ h2 h3=>by
      show j<=(st.kill id).ver;rw [St.kill_eq];exact ze4 h2 (h3 id _ e1)
     have hst:=jez (st':=St.alloc ⟨st.nx,(st.kill id).hp,(st.kill id).ver⟩ b') (m0:=Jey (za3 [r]) m) hI (.buf c2 (xs.take n++(ys++xs.drop n))) hm [r] (.inl rfl) (some st.nx) (.sl st.nx 0 (xs.take n++(ys++xs.drop n)).length (xs.take n++(ys++xs.drop n)).length true) f1 (λq=>by cases q) hm0 (di _) f5 f6
     have hE:(E.set r (some st.nx,V.sl st.nx 0 (xs.take n++(ys++xs.drop n)).length (xs.take n++(ys++xs.drop n)).length true))[r]?=some (some st.nx,.sl st.nx 0 (xs.take n++(ys++xs.drop n)).length (xs.take n++(ys++xs.drop n)).length true):=List.getElem?_set_self hrl;obtain ⟨vs',w1,w2⟩:=JaC (off:=0) (b:=b') (DA:=DatA Y (ji o0 E m) st) (by simpa only [dd] using hcel)
     refine ⟨_,_,⟨0,λn' _=>?_⟩,some (.o r),nx,_,[r],[r],_,zgN hI (.buf c2 (xs.take n++(ys++xs.drop n))) hm [r] (some st.nx) _ f1 hst f5 (.inr ⟨st.nx,_,true,b',hE,hI.ro,gk _,jaG ⟨st.nx,(st.kill id).hp,(st.kill id).ver⟩ b',Ra _,p2.trans q6,by rw [p1,q7,hw,Hj,hzl],⟨λ_=>⟨.inl (p3.trans o1),rfl⟩,λ_=>rfl⟩,vs',λi x hx=>by rw [<-w1 i x hx,dd],λi x hx j u v hu hv=>hst.datA (w2 i x hx j u v hu hv)⟩),hst,⟨_,hE,rfl⟩,hk⟩
     show ZS P ov _ f _ st=_;unfold ZS;rw [hzl,hov _ _ _ _ hv]
  ·exact hk.elim
 ·exact hk.elim
end
end Go.Sx
namespace Go.Sx
open Go.Vm
section
variable {S:Sg}
mutual
theorem RelV.swap {Y Y':Sy S} {D D':DD S} {E:En} (hw:∀c,Y'.wid c=Y.wid c) (hD:∀c xs v,D c xs v->D' c xs v) :
  (u:U S)->(v:V)->RelV Y D E u v->RelV Y' D' E u v
 | .b x,v,h=>h
 | .kb x,v,h=>h
 | .i k n,v,h=>h
 | .s l,v,h=>h
 | .pn,v,h=>h
 | .sn,v,h=>h
 | .fz,v,h=>h
 | .nz,v,h=>h
 | .dead,v,h=>trivial
 | .g g off,v,h=>h
 | .l c xs,v,h=>hD c xs v h
 | .pd c xs i off,v,h=>by
  obtain ⟨h0,id,o,cap,op,h1,h2⟩:=h;exact ⟨h0,id,o,cap,op,hD _ _ _ h1,by rw [hw];exact h2⟩
 | .p r off,v,h=>by
  obtain ⟨id,x,h1,h2⟩:=h;exact ⟨id,x,h1,h2⟩
 | .o r,v,h=>by
  obtain ⟨x,h1,h2⟩:=h;exact ⟨x,h1,h2⟩
 | .pe r w i off,v,h=>by
  obtain ⟨id,x,h1,h2⟩:=h;exact ⟨id,x,h1,h2⟩
 | .v r w i,v,h=>by
  obtain ⟨id,x,h1,h2⟩:=h;exact ⟨id,x,h1,h2⟩
 | .vh r j,v,h=>by
  obtain ⟨id,x,h1,h2⟩:=h;exact ⟨id,x,h1,h2⟩
 | .f fn caps,v,h=>by
  obtain ⟨vs,h1,h2⟩:=h;exact ⟨vs,h1,RelL.swap hw hD caps vs h2⟩
 | .a cs,v,h=>by
  obtain ⟨vs,h1,h2⟩:=h;exact ⟨vs,h1,RelL.swap hw hD cs vs h2⟩
 | .t us,v,h=>by
  obtain ⟨vs,h1,h2⟩:=h;exact ⟨vs,h1,RelL.swap hw hD us vs h2⟩
theorem RelL.swap {Y Y':Sy S} {D D':DD S} {E:En} (hw:∀c,Y'.wid c=Y.wid c) (hD:∀c xs v,D c xs v->D' c xs v) :
  (us:List (U S))->(vs:List V)->RelL Y D E us vs->RelL Y' D' E us vs
 | [],_,h=>h
 | u::us,vs,h=>by
  obtain ⟨v,r,h1,h2,h3⟩:=h;exact ⟨v,r,h1,RelV.swap hw hD u v h2,RelL.swap hw hD us r h3⟩
end
mutual
theorem Dat.swap {Y Y':Sy S} (hw:∀c,Y'.wid c=Y.wid c) (hc:∀c,Y'.cells c=Y.cells c) {own:Nat->Prop} {st:St} {c:S.Cd} {xs:List (S.Den c)} {v:V} :
  Dat Y own st c xs v->Dat Y' own st c xs v
 | .nil c=>.nil c
 | .ne c id o o2=>.ne c id o o2
 | .ze c a=>.ze c a
 | .mk vs h1 h2 h3 h4 h5 h6=>.mk vs h1 h2 h3 (λi x hx=>by rw [hw];exact h4 i x hx) (λi x hx j u v hu hv=>DatA.swap hw hc (h5 i x hx j u v (by rw [<-hc];exact hu) hv)) h6
theorem DatA.swap {Y Y':Sy S} (hw:∀c,Y'.wid c=Y.wid c) (hc:∀c,Y'.cells c=Y.cells c) {own:Nat->Prop} {st:St} {u:U S} {v:V} :
  DatA Y own st u v->DatA Y' own st u v
 | .b x=>.b x
 | .i k n=>.i k n
 | .s l=>.s l
 | .sn=>.sn
 | .l h=>.l (Dat.swap hw hc h)
end
theorem FnOK.swap {Y Y':Sy S} {P:Program} {G:Gl} {ov:Ov} {ro:Nat} {f:FuncId} {pt:List (U S)->(U S->Prop)->Prop} (hw:∀c,Y'.wid c=Y.wid c) (hc:∀c,Y'.cells c=Y.cells c) (h:FnOK Y P G ov ro f pt):FnOK Y' P G ov ro f pt:=by
 intro o0 us k hk st vs h1 h2 h3 hr;obtain ⟨v,st',hM,u,hu,he,hk⟩:=h o0 us k hk st vs h1 h2 h3 (RelL.swap (Y:=Y') (Y':=Y) (D:=Dat Y' o0 st) (D':=Dat Y o0 st) (λc=>(hw c).symm) (λ_ _ _ q=>Dat.swap (Y:=Y') (Y':=Y) (λc=>(hw c).symm) (λc=>(hc c).symm) q) us vs hr)
 exact ⟨v,st',hM,u,RelV.swap (Y:=Y) (Y':=Y') (D:=Dat Y o0 st') (D':=Dat Y' o0 st') hw (λ_ _ _ q=>Dat.swap (Y:=Y) (Y':=Y') hw hc q) u v hu,he,hk⟩
def Sy.cv (Y:Sy S):Sy S:={ Y with cvb:=true }
theorem FnOK.cv {Y:Sy S} {P:Program} {G:Gl} {ov:Ov} {ro:Nat} {f:FuncId} {pt:List (U S)->(U S->Prop)->Prop} (h:FnOK Y P G ov ro f pt):FnOK Y.cv P G ov ro f pt:=FnOK.swap (Y:=Y) (Y':=Y.cv) (λ_=>rfl) (λ_=>rfl) h
end
end Go.Sx
namespace Go.Sx
open Go.Vm
section
variable {S:Sg}
def Sy.grown (Y:Sy S) (f:S.Cd->Bool):Sy S:={ Y with opn:=f }
theorem FnOK.grown {Y:Sy S} {P:Program} {G:Gl} {ov:Ov} {ro:Nat} {f:FuncId} {pt:List (U S)->(U S->Prop)->Prop} (g:S.Cd->Bool) (h:FnOK Y P G ov ro f pt):FnOK (Y.grown g) P G ov ro f pt:=FnOK.swap (Y:=Y) (Y':=Y.grown g) (λ_=>rfl) (λ_=>rfl) h
end
