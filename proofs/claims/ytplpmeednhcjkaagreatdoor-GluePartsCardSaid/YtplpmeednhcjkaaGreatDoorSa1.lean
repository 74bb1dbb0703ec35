/- Lemmas. -/
import Derived.Test.YtplpmeednhcjkaaGreatDoorVa4
namespace Go.Sx
open Go.Vm
structure Sg where
 Cd:Type
 Den:Cd->Type
inductive U (S:Sg):Type where
 | b (x:Bool)
 | kb (x:Bool)
 | i (k:IntKind) (n:Int)
 | s (l:List UInt8)
 | pn
 | sn
 | fz
 | nz
 | dead
 | p (r off:Nat)
 | g (g off:Nat)
 | o (r:Nat)
 | l (c:S.Cd) (xs:List (S.Den c))
 | pe (r w i off:Nat)
 | v (r w i:Nat)
 | vh (r j:Nat)
 | pd (c:S.Cd) (xs:List (S.Den c)) (i off:Nat)
 | f (fn:FuncId) (caps:List (U S))
 | a (cs:List (U S))
 | t (vs:List (U S))
def mem (ks:List Nat) (r:Nat):Bool:=match ks with
 | []=>false
 | k::ks=>cond (Nat.beq k r) true (mem ks r)
section
variable {S:Sg}
mutual
def kill (ks:List Nat):U S->U S
 | .p r off=>cond (mem ks r) .dead (.p r off)
 | .o r=>cond (mem ks r) .dead (.o r)
 | .pe r w i off=>cond (mem ks r) .dead (.pe r w i off)
 | .v r w i=>cond (mem ks r) .dead (.v r w i)
 | .vh r j=>cond (mem ks r) .dead (.vh r j)
 | .f fn caps=>.f fn (kills ks caps)
 | .a cs=>.a (kills ks cs)
 | .t vs=>.t (kills ks vs)
 | .b x=>.b x
 | .kb x=>.kb x
 | .i k n=>.i k n
 | .s l=>.s l
 | .pn=>.pn
 | .sn=>.sn
 | .fz=>.fz
 | .nz=>.nz
 | .dead=>.dead
 | .g g off=>.g g off
 | .l c xs=>.l c xs
 | .pd c xs i off=>.pd c xs i off
def kills (ks:List Nat):List (U S)->List (U S)
 | []=>[]
 | u::us=>kill ks u::kills ks us
end
def U.flat:U S->Bool
 | .b _|.i _ _|.s _|.sn|.l _ _=>true
 | _=>false
structure Sy (S:Sg) where
 wid:S.Cd->Nat
 wpos:∀c,0<wid c
 cells:(c:S.Cd)->S.Den c->List (U S)
 dflt:(c:S.Cd)->S.Den c
 dec:(c:S.Cd)->List (U S)->(S.Den c->Prop)->Prop
 byt:(c:S.Cd)->List (S.Den c)->(List UInt8->Prop)->Prop
 ofB:(c:S.Cd)->List UInt8->(List (S.Den c)->Prop)->Prop
 code:TypeId->Option S.Cd
 opn:S.Cd->Bool
 cvb:Bool:=false
 cast:(c c':S.Cd)->List (S.Den c)->(List (S.Den c')->Prop)->Prop
 len:∀c x,(cells c x).length=wid c
 flat:∀c x u,u∈cells c x->u.flat=true
 dec_ok:∀c us k,dec c us k->∃x,us=cells c x/\k x
 byt_ok:∀c xs k,byt c xs k->∃bs:List UInt8,wid c=1/\xs.map (cells c)=bs.map (λy=>[.i .u8 (y.toNat:Int)])/\k bs
 cast_ok:∀c c' xs k,cast c c' xs k->∃h:c=c',k (h▸xs)
 ofB_ok:∀c bs k,ofB c bs k->∃xs,wid c=1/\xs.map (cells c)=bs.map (λy=>[.i .u8 (y.toNat:Int)])/\k xs
abbrev DD (S:Sg):=(c:S.Cd)->List (S.Den c)->V->Prop
abbrev En:=List (Option Nat×V)
def zjz (w i:Nat) (y v:V):Prop:=(y=.sn/\v=.sn)\/∃id len cap op,y=.sl id 0 len cap op/\i<=len/\
 ((∃o cap' op',(i<len->o=i*w)/\v=.sl id o (len-i) cap' op')\/(i=len/\∃o o2,v=.se id o o2))
def ziN (j:Nat) (y v:V):Prop:=(y=.sn/\j=0/\v=.sn)\/∃id len cap op,y=.sl id 0 len cap op/\j<=len/\v=.sl id 0 j cap op
mutual
def RelV (Y:Sy S) (D:DD S) (E:En):U S->V->Prop
 | .b x,v=>v=.b x
 | .kb x,v=>v=.b x
 | .i k n,v=>v=.i k n
 | .s l,v=>v=V.str l
 | .pn,v=>v=.pn
 | .sn,v=>v=.sn
 | .fz,v=>v=.fz
 | .nz,v=>v=.nz
 | .dead,_=>True
 | .p r off,v=>∃id h,E[r]?=some (some id,h)/\v=.p id off
 | .g g off,v=>g<GL/\v=.p g off
 | .o r,v=>∃x,E[r]?=some (x,v)/\v.atom=true
 | .l c xs,v=>D c xs v
 | .pe r w i off,v=>∃id h,E[r]?=some (some id,h)/\v=.p id (i*w+off)
 | .v r w i,v=>∃x y,E[r]?=some (x,y)/\zjz w i y v
 | .vh r j,v=>∃x y,E[r]?=some (x,y)/\ziN j y v
 | .pd c xs i off,v=>i<xs.length/\∃id o cap op,D c xs (.sl id o xs.length cap op)/\v=.p id (o+i*Y.wid c+off)
 | .f fn caps,v=>∃vs,v=.f (.func fn) [] vs/\RelL Y D E caps vs
 | .a cs,v=>∃vs,v=.a vs/\RelL Y D E cs vs
 | .t us,v=>∃vs,v=.t vs/\RelL Y D E us vs
def RelL (Y:Sy S) (D:DD S) (E:En):List (U S)->List V->Prop
 | [],vs=>vs=[]
 | u::us,vs=>∃v r,vs=v::r/\RelV Y D E u v/\RelL Y D E us r
end
mutual
theorem RelV.kill {Y:Sy S} {D D':DD S} {E E':En} {ks:List Nat} (hE:∀(r:Nat) x,mem ks r=false->E[r]?=some x->E'[r]?=some x) (hD:∀c xs v,D c xs v->D' c xs v) :
  (u:U S)->(v:V)->RelV Y D E u v->RelV Y D' E' (Sx.kill ks u) v
 | .b x,v,h=>h
 | .kb x,v,h=>h
 | .i k n,v,h=>h
 | .s l,v,h=>h
 | .pn,v,h=>h
 | .sn,v,h=>h
 | .fz,v,h=>h
 | .nz,v,h=>h
 | .dead,v,h=>trivial
 | .g g off,v,h=>h
 | .l c xs,v,h=>hD c xs v h
 | .pd c xs i off,v,h=>by
  obtain ⟨h0,id,o,cap,op,h1,h2⟩:=h;exact ⟨h0,id,o,cap,op,hD _ _ _ h1,h2⟩
 | .p r off,v,h=>by
  obtain ⟨id,x,h1,h2⟩:=h;simp only [Sx.kill];cases hm:mem ks r with
  | true=>exact trivial
  | false=>exact ⟨id,x,hE r _ hm h1,h2⟩
 | .o r,v,h=>by
  obtain ⟨x,h1,h2⟩:=h;simp only [Sx.kill];cases hm:mem ks r with
  | true=>exact trivial
  | false=>exact ⟨x,hE r _ hm h1,h2⟩
 | .pe r w i off,v,h=>by
  obtain ⟨id,x,h1,h2⟩:=h;simp only [Sx.kill];cases hm:mem ks r with
  | true=>exact trivial
  | false=>exact ⟨id,x,hE r _ hm h1,h2⟩
 | .v r w i,v,h=>by
  obtain ⟨id,x,h1,h2⟩:=h;simp only [Sx.kill];cases hm:mem ks r with
  | true=>exact trivial
  | false=>exact ⟨id,x,hE r _ hm h1,h2⟩
 | .vh r j,v,h=>by
  obtain ⟨id,x,h1,h2⟩:=h;simp only [Sx.kill];cases hm:mem ks r with
  | true=>exact trivial
  | false=>exact ⟨id,x,hE r _ hm h1,h2⟩
 | .f fn caps,v,h=>by
  obtain ⟨vs,h1,h2⟩:=h;exact ⟨vs,h1,RelL.kill hE hD caps vs h2⟩
 | .a cs,v,h=>by
  obtain ⟨vs,h1,h2⟩:=h;exact ⟨vs,h1,RelL.kill hE hD cs vs h2⟩
 | .t us,v,h=>by
  obtain ⟨vs,h1,h2⟩:=h;exact ⟨vs,h1,RelL.kill hE hD us vs h2⟩
theorem RelL.kill {Y:Sy S} {D D':DD S} {E E':En} {ks:List Nat} (hE:∀(r:Nat) x,mem ks r=false->E[r]?=some x->E'[r]?=some x) (hD:∀c xs v,D c xs v->D' c xs v) :
  (us:List (U S))->(vs:List V)->RelL Y D E us vs->RelL Y D' E' (Sx.kills ks us) vs
 | [],_,h=>h
 | u::us,vs,h=>by
  obtain ⟨v,r,h1,h2,h3⟩:=h;exact ⟨v,r,h1,RelV.kill hE hD u v h2,RelL.kill hE hD us r h3⟩
end
mutual
theorem RelV.mono {Y:Sy S} {D D':DD S} {E E':En} (hE:∀(r:Nat) x,E[r]?=some x->E'[r]?=some x) (hD:∀c xs v,D c xs v->D' c xs v) :
  (u:U S)->(v:V)->RelV Y D E u v->RelV Y D' E' u v
 | .b x,v,h=>h
 | .kb x,v,h=>h
 | .i k n,v,h=>h
 | .s l,v,h=>h
 | .pn,v,h=>h
 | .sn,v,h=>h
 | .fz,v,h=>h
 | .nz,v,h=>h
 | .dead,v,h=>trivial
 | .g g off,v,h=>h
 | .l c xs,v,h=>hD c xs v h
 | .pd c xs i off,v,h=>by
  obtain ⟨h0,id,o,cap,op,h1,h2⟩:=h;exact ⟨h0,id,o,cap,op,hD _ _ _ h1,h2⟩
 | .p r off,v,h=>by
  obtain ⟨id,x,h1,h2⟩:=h;exact ⟨id,x,hE r _ h1,h2⟩
 | .o r,v,h=>by
  obtain ⟨x,h1,h2⟩:=h;exact ⟨x,hE r _ h1,h2⟩
 | .pe r w i off,v,h=>by
  obtain ⟨id,x,h1,h2⟩:=h;exact ⟨id,x,hE r _ h1,h2⟩
 | .v r w i,v,h=>by
  obtain ⟨id,x,h1,h2⟩:=h;exact ⟨id,x,hE r _ h1,h2⟩
 | .vh r j,v,h=>by
  obtain ⟨id,x,h1,h2⟩:=h;exact ⟨id,x,hE r _ h1,h2⟩
 | .f fn caps,v,h=>by
  obtain ⟨vs,h1,h2⟩:=h;exact ⟨vs,h1,RelL.mono hE hD caps vs h2⟩
 | .a cs,v,h=>by
  obtain ⟨vs,h1,h2⟩:=h;exact ⟨vs,h1,RelL.mono hE hD cs vs h2⟩
 | .t us,v,h=>by
  obtain ⟨vs,h1,h2⟩:=h;exact ⟨vs,h1,RelL.mono hE hD us vs h2⟩
theorem RelL.mono {Y:Sy S} {D D':DD S} {E E':En} (hE:∀(r:Nat) x,E[r]?=some x->E'[r]?=some x) (hD:∀c xs v,D c xs v->D' c xs v) :
  (us:List (U S))->(vs:List V)->RelL Y D E us vs->RelL Y D' E' us vs
 | [],_,h=>h
 | u::us,vs,h=>by
  obtain ⟨v,r,h1,h2,h3⟩:=h;exact ⟨v,r,h1,RelV.mono hE hD u v h2,RelL.mono hE hD us r h3⟩
end
theorem RelL.length {Y:Sy S} {D:DD S} {E:En}:∀{us:List (U S)} {vs:List V},RelL Y D E us vs->vs.length=us.length
 | [],vs,h=>by simp only [RelL] at h;subst h;rfl
 | u::us,vs,h=>by
  simp only [RelL] at h;obtain ⟨v,r,rfl,_,h3⟩:=h;simp [RelL.length h3]
theorem RelL.get {Y:Sy S} {D:DD S} {E:En}:∀{us:List (U S)} {vs:List V},RelL Y D E us vs->∀{j:Nat} {u:U S},us[j]?=some u->∃v,vs[j]?=some v/\RelV Y D E u v
 | [],vs,h,j,u,hj=>by simp at hj
 | u0::us,vs,h,j,u,hj=>by
  simp only [RelL] at h;obtain ⟨v,r,rfl,h2,h3⟩:=h;cases j with
  | zero=>simp only [List.getElem?_cons_zero,xa] at hj;subst hj;exact ⟨v,rfl,h2⟩
  | succ j=>simp only [List.getElem?_cons_succ] at hj |-;exact RelL.get h3 hj
theorem RelL.of_get {Y:Sy S} {D:DD S} {E:En}:∀{us:List (U S)} {vs:List V},vs.length=us.length->(∀(j:Nat) u v,us[j]?=some u->vs[j]?=some v->RelV Y D E u v)->RelL Y D E us vs
 | [],vs,hl,h=>by simp only [RelL];exact Rk.1 hl
 | u0::us,[],hl,h=>by simp at hl
 | u0::us,v::r,hl,h=>by
  simp only [RelL];exact ⟨v,r,rfl,h 0 u0 v rfl rfl,RelL.of_get (by simpa using hl) (λj u v hu hv=>h (j+1) u v (by simpa using hu) (by simpa using hv))⟩
theorem RelL.take {Y:Sy S} {D:DD S} {E:En} {us:List (U S)} {vs:List V} (h:RelL Y D E us vs) (n:Nat):RelL Y D E (us.take n) (vs.take n):=
 RelL.of_get (by simp [h.length]) λj u v hu hv=>by
  rw [List.getElem?_take] at hu hv;split at hu
  ·rename_i q;rw [ya q] at hv;obtain ⟨w,h1,h2⟩:=h.get hu;rw [h1] at hv;cases hv;exact h2
  ·cases hu
theorem RelL.drop {Y:Sy S} {D:DD S} {E:En} {us:List (U S)} {vs:List V} (h:RelL Y D E us vs) (n:Nat):RelL Y D E (us.drop n) (vs.drop n):=
 RelL.of_get (by simp [h.length]) λj u v hu hv=>by
  rw [List.getElem?_drop] at hu hv;obtain ⟨w,h1,h2⟩:=h.get hu;rw [h1] at hv;cases hv;exact h2
theorem RelL.append {Y:Sy S} {D:DD S} {E:En}:∀{us us':List (U S)} {vs vs':List V},RelL Y D E us vs->RelL Y D E us' vs'->RelL Y D E (us++us') (vs++vs')
 | [],_,vs,_,h,h'=>by simp only [RelL] at h;subst h;exact h'
 | u::us,_,vs,_,h,h'=>by
  simp only [RelL] at h;obtain ⟨v,r,rfl,h2,h3⟩:=h;exact ⟨v,_,rfl,h2,RelL.append h3 h'⟩
mutual
inductive Dat (Y:Sy S) (own:Nat->Prop) (st:St):(c:S.Cd)->List (S.Den c)->V->Prop where
 | nil (c:S.Cd):Dat Y own st c [] .sn
 | ne (c:S.Cd) (id o o2:Nat):Dat Y own st c [] (.se id o o2)
 | ze (c:S.Cd) (a:Addr):Dat Y own st c [] (.ze a)
 | mk {c:S.Cd} {xs:List (S.Den c)} {id off cap:Nat} {op:Bool} {b:Blk} (vs:Nat->List V):¬own id->id<st.nx->st.hp.get id=some b->
  (∀(i:Nat) x,xs[i]?=some x->b.row (Y.wid c) (off+i*Y.wid c)=some (vs i))->
  (∀(i:Nat) x,xs[i]?=some x->∀(j:Nat) u v,(Y.cells c x)[j]?=some u->(vs i)[j]?=some v->DatA Y own st u v)->xs.length<=cap->Dat Y own st c xs (.sl id off xs.length cap op)
inductive DatA (Y:Sy S) (own:Nat->Prop) (st:St):U S->V->Prop where
 | b (x:Bool):DatA Y own st (.b x) (.b x)
 | i (k:IntKind) (n:Int):DatA Y own st (.i k n) (.i k n)
 | s (l:List UInt8):DatA Y own st (.s l) (V.str l)
 | sn:DatA Y own st .sn .sn
 | l {c:S.Cd} {xs:List (S.Den c)} {v:V}:Dat Y own st c xs v->DatA Y own st (.l c xs) v
end
mutual
theorem Dat.keep {Y:Sy S} {own own':Nat->Prop} {st st':St} (hn:st.nx<=st'.nx) (hk:∀id,id<st.nx->¬own id->st'.hp.get id=st.hp.get id) (ho:∀id,id<st.nx->own' id->own id) {c:S.Cd} {xs:List (S.Den c)} {v:V} :
  Dat Y own st c xs v->Dat Y own' st' c xs v
 | .nil c=>.nil c
 | .ne c id o o2=>.ne c id o o2
 | .ze c a=>.ze c a
 | .mk vs h1 h2 h3 h4 h5 h6=>.mk vs (λq=>h1 (ho _ h2 q)) (xi h2 hn) ((hk _ h2 h1).trans h3) h4 (λi x hx j u v hu hv=>DatA.keep hn hk ho (h5 i x hx j u v hu hv)) h6
theorem DatA.keep {Y:Sy S} {own own':Nat->Prop} {st st':St} (hn:st.nx<=st'.nx) (hk:∀id,id<st.nx->¬own id->st'.hp.get id=st.hp.get id) (ho:∀id,id<st.nx->own' id->own id) {u:U S} {v:V} :
  DatA Y own st u v->DatA Y own' st' u v
 | .b x=>.b x
 | .i k n=>.i k n
 | .s l=>.s l
 | .sn=>.sn
 | .l h=>.l (Dat.keep hn hk ho h)
end
theorem DatA.rel {Y:Sy S} {own:Nat->Prop} {st:St} {E:En} {u:U S} {v:V} (h:DatA Y own st u v):RelV Y (Dat Y own st) E u v:=by
 cases h <;> simp_all [RelV]
theorem DatA.of_rel {Y:Sy S} {own:Nat->Prop} {st:St} {E:En} {u:U S} {v:V} (hf:u.flat=true) (h:RelV Y (Dat Y own st) E u v):DatA Y own st u v:=by
 cases u <;> simp only [U.flat,yd] at hf <;> simp only [RelV] at h
 ·subst h;exact .b _
 ·subst h;exact .i _ _
 ·subst h;exact .s _
 ·subst h;exact .sn
 ·exact .l h
end
end Go.Sx
namespace Go.Sx
open Go.Vm
inductive Ct (S:Sg):Type where
 | cells (us:List (U S))
 | buf (c:S.Cd) (xs:List (S.Den c))
 | row (c:S.Cd) (xs:List (S.Den c))
structure Sig (S:Sg) where
 nx:Nat
 m:T (Ct S)
 ks:List Nat
 wr:List Nat
def Jey {α β:Type} (f:α->β):T α->T β
 | .e=>.e
 | .n l v r=>.n (Jey f l) (match v with|some x=>some (f x)|none=>none) (Jey f r)
theorem jcg {α β:Type} (f:α->β):∀(t:T α) (i:Nat),(Jey f t).get i=(t.get i).map f
 | .e,i=>by simp [Jey,T.get_e]
 | .n l v r,i=>by
  simp only [Jey,T.get_n];cases i with
  | zero=>cases v <;> rfl
  | succ k=>
   dsimp only;cases Nat.beq (k%2) 0
   ·simp only [Yc];exact jcg f r _
   ·simp only [Qa];exact jcg f l _
section
variable {S:Sg} {Y:Sy S} {ro:Nat} {o0:Nat->Prop}
def Zcn (E:En) (m:T (Ct S)) (id:Nat):Prop:=∃(r:Nat) (ct:Ct S) (h:V),m.get r=some ct/\E[r]?=some (some id,h)
def ji (o0:Nat->Prop) (E:En) (m:T (Ct S)) (id:Nat):Prop:=o0 id\/Zcn E m id
def Ent (Y:Sy S) (ro:Nat) (D:DD S) (DA:U S->V->Prop) (E:En) (st:St) (r:Nat):Ct S->Prop
 | .cells us=>∃id h b vs,E[r]?=some (some id,h)/\ro<=id/\id<st.nx/\st.hp.get id=some b/\b.sz=us.length/\RelL Y D E us vs/\∀j,j<us.length->b.get j=vs[j]?
 | .buf c xs=>(E[r]?=some (none,.sn)/\xs=[])\/∃id cap op b,E[r]?=some (some id,.sl id 0 xs.length cap op)/\ro<=id/\id<st.nx/\st.hp.get id=some b/\xs.length<=cap/\b.es=Y.wid c/\b.sz=cap*Y.wid c/\((op=true->(b.op=true\/(Y.cvb&&!(Y.opn c))=true)/\cap=xs.length)/\(Y.opn c=true->op=true))/\
   ∃vs:Nat->List V,(∀(i:Nat) x,xs[i]?=some x->b.row (Y.wid c) (i*Y.wid c)=some (vs i))/\∀(i:Nat) x,xs[i]?=some x->∀(j:Nat) u v,(Y.cells c x)[j]?=some u->(vs i)[j]?=some v->DA u v
 | .row c xs=>∃id b,E[r]?=some (some id,.sl id 0 xs.length xs.length false)/\ro<=id/\id<st.nx/\st.hp.get id=some b/\b.op=false/\
   ∃vs:Nat->List V,(∀(i:Nat) x,xs[i]?=some x->b.row (Y.wid c) (i*Y.wid c)=some (vs i))/\∀(i:Nat) x,xs[i]?=some x->∀(j:Nat) u v,(Y.cells c x)[j]?=some u->(vs i)[j]?=some v->DA u v
abbrev Gl:=Nat->Option (IntKind×List Int)
structure Inv (Y:Sy S) (G:Gl) (o0:Nat->Prop) (r0:Nat) (E:En) (nx:Nat) (m:T (Ct S)) (st:St):Prop where
 len:E.length=nx
 ro:r0<=st.nx
 lt:∀r ct,m.get r=some ct->r<nx
 ent:∀r ct,m.get r=some ct->Ent Y r0 (Dat Y (ji o0 E m) st) (DatA Y (ji o0 E m) st) E st r ct
 out:∀id,o0 id->r0<=id/\id<st.nx
 glob:∀g k l,G g=some (k,l)->g<r0/\∃b,st.hp.get g=some b/\∀j,j<l.length->b.get j=some (.i k (l.getD j 0))
 inj:∀(r r':Nat) ct ct' id h h',m.get r=some ct->m.get r'=some ct'->E[r]?=some (some id,h)->E[r']?=some (some id,h')->r=r'
structure Step (o0:Nat->Prop) (E:En) (m:T (Ct S)) (st:St) (E':En) (m':T (Ct S)) (st':St) (ks wr:List Nat):Prop where
 len:E.length<=E'.length
 same:∀r,r<E.length->mem ks r=false->E'[r]?=E[r]?
 nx:st.nx<=st'.nx
 keep:∀id,id<st.nx->¬Zcn E m id->st'.hp.get id=st.hp.get id
 nam:∀id,Zcn E' m' id->Zcn E m id\/st.nx<=id
 ver:∀j,j<=st.nx->j<=st.ver->(wr=[]\/∀id,Zcn E m id->j<=id)->j<=st'.ver
theorem Step.refl (o0:Nat->Prop) (E:En) (m:T (Ct S)) (st:St):Step o0 E m st E m st [] []:=
 ⟨Ra _,λ_ _ _=>rfl,Ra _,λ_ _ _=>rfl,λ_ h=>.inl h,λ_ _ h _=>h⟩
theorem JgJ:∀(a b:List Nat) (r:Nat),mem (a++b) r=(mem a r||mem b r)
 | [],b,r=>by simp [mem]
 | k::a,b,r=>by
  simp only [Qc,mem];cases Nat.beq k r <;> simp [JgJ a b r]
theorem Step.own {E E':En} {m m':T (Ct S)} {st st':St} {ks wr:List Nat} (h:Step o0 E m st E' m' st' ks wr) {id:Nat} (hi:id<st.nx) (ho:ji o0 E' m' id):ji o0 E m id:=by
 rcases ho with z|z
 ·exact .inl z
 ·rcases h.nam id z with q|q
  ·exact .inr q
  ·omega
theorem Step.datK {E E':En} {m m':T (Ct S)} {st st':St} {ks wr:List Nat} (h:Step o0 E m st E' m' st' ks wr) {c:S.Cd} {xs:List (S.Den c)} {v:V} (hd:Dat Y (ji o0 E m) st c xs v):Dat Y (ji o0 E' m') st' c xs v:=
 Dat.keep h.nx (λid h1 h2=>h.keep id h1 λq=>h2 (.inr q)) (λ_ h1 h2=>h.own h1 h2) hd
theorem Step.datA {E E':En} {m m':T (Ct S)} {st st':St} {ks wr:List Nat} (h:Step o0 E m st E' m' st' ks wr) {u:U S} {v:V} (hd:DatA Y (ji o0 E m) st u v):DatA Y (ji o0 E' m') st' u v:=
 DatA.keep h.nx (λid h1 h2=>h.keep id h1 λq=>h2 (.inr q)) (λ_ h1 h2=>h.own h1 h2) hd
theorem Step.relK {E E':En} {m m':T (Ct S)} {st st':St} {ks wr:List Nat} (h:Step o0 E m st E' m' st' ks wr) {u:U S} {v:V} (hr:RelV Y (Dat Y (ji o0 E m) st) E u v):RelV Y (Dat Y (ji o0 E' m') st') E' (kill ks u) v:=
 RelV.kill (λr x h1 h2=>by rw [h.same r (List.getElem?_eq_some_iff.1 h2).1 h1];exact h2) (λ_ _ _=>h.datK) u v hr
theorem Step.relsK {E E':En} {m m':T (Ct S)} {st st':St} {ks wr:List Nat} (h:Step o0 E m st E' m' st' ks wr) {u:List (U S)} {v:List V} (hr:RelL Y (Dat Y (ji o0 E m) st) E u v):RelL Y (Dat Y (ji o0 E' m') st') E' (kills ks u) v:=
 RelL.kill (λr x h1 h2=>by rw [h.same r (List.getElem?_eq_some_iff.1 h2).1 h1];exact h2) (λ_ _ _=>h.datK) u v hr
theorem Step.rel {E E':En} {m m':T (Ct S)} {st st':St} {wr:List Nat} (h:Step o0 E m st E' m' st' [] wr) {u:U S} {v:V} (hr:RelV Y (Dat Y (ji o0 E m) st) E u v):RelV Y (Dat Y (ji o0 E' m') st') E' u v:=
 RelV.mono (λr x h2=>by rw [h.same r (List.getElem?_eq_some_iff.1 h2).1 rfl];exact h2) (λ_ _ _=>h.datK) u v hr
theorem Step.rels {E E':En} {m m':T (Ct S)} {st st':St} {wr:List Nat} (h:Step o0 E m st E' m' st' [] wr) {u:List (U S)} {v:List V} (hr:RelL Y (Dat Y (ji o0 E m) st) E u v):RelL Y (Dat Y (ji o0 E' m') st') E' u v:=
 RelL.mono (λr x h2=>by rw [h.same r (List.getElem?_eq_some_iff.1 h2).1 rfl];exact h2) (λ_ _ _=>h.datK) u v hr
theorem Step.trans {E E1 E2:En} {m m1 m2:T (Ct S)} {st st1 st2:St} {ks wr ks' wr':List Nat} (h:Step o0 E m st E1 m1 st1 ks wr) (h':Step o0 E1 m1 st1 E2 m2 st2 ks' wr') :
  Step o0 E m st E2 m2 st2 (ks'++ks) (wr'++wr):=by
 refine ⟨Yb h.len h'.len,?_,Yb h.nx h'.nx,?_,?_,?_⟩
 ·intro r hr hm;rw [JgJ,Hl] at hm;rw [h'.same r (xi hr h.len) hm.1,h.same r hr hm.2]
 ·intro id hid hn;rw [h'.keep id (xi hid h.nx) λq=>?_,h.keep id hid hn]
  rcases h.nam id q with z|z
  ·exact hn z
  ·omega
 ·intro id hn;rcases h'.nam id hn with q|q
  ·exact h.nam id q
  ·exact .inr (Yb h.nx q)
 ·intro j h1 h2 hw;have e1:wr=[]\/∀id,Zcn E m id->j<=id:=hw.imp (λq=>(dj.1 q).2) λq=>q
  refine h'.ver j (Yb h1 h.nx) (h.ver j h1 h2 e1) (hw.imp (λq=>(dj.1 q).1) λhw id hn=>?_)
  rcases h.nam id hn with q|q
  ·exact hw id q
  ·omega
end
end Go.Sx
namespace Go.Sx
open Go.Vm
def onO {α:Type} (o:Option α) (k:α->Prop):Prop:=match o with
 | some x=>k x
 | none=>False
theorem Ja2 {α:Type} {o:Option α} {k:α->Prop} (h:onO o k):∃x,o=some x/\k x:=by
 cases o with
 | none=>exact h.elim
 | some x=>exact ⟨x,rfl,h⟩
def I64 (n:Int):Prop:=-9223372036854775808<=n/\n<=9223372036854775807
def I32 (n:Int):Prop:=-2147483648<=n/\n<=2147483647
section
variable {S:Sg}
def ofC:Nat->Value->Option (U S)
 | 0,_=>none
 | _+1,.bool x=>some (.kb x)
 | _+1,.int k n=>some (.i k n)
 | _+1,.string x=>some (.s x.data.toList)
 | _+1,.pointer none=>some .pn
 | _+1,.slice none 0 0=>some .sn
 | _+1,.nilFunc=>some .fz
 | _+1,.nilIface=>some .nz
 | d+1,.agg cs=>(jbE (ofC d) cs.toList).map .a
 | d+1,.tuple cs=>(jbE (ofC d) cs.toList).map .t
 | _+1,_=>none
def Jai:U S->List (U S)
 | .a cs=>cs
 | u=>[u]
def jbV:U S->Bool
 | .dead=>false
 | _=>true
def asB:U S->Option Bool
 | .b x=>some x
 | .kb x=>some x
 | _=>none
variable (Y:Sy S) (P:Program)
def RelF (Y:Sy S) (D:DD S) (E:En) (fr:T (U S)) (frV:T V):Prop:=∀t u,fr.get t=some u->∃v,frV.get t=some v/\RelV Y D E u v
def jbG (fr:T (U S)) (o:Operand) (k:U S->Prop):Prop:=match o with
 | .tmp t=>onO (fr.get t) k
 | .const v=>onO (ofC 4 v) k
 | .global g=>cond (Nat.blt g GL) (k (.g g 0)) False
 | .func f=>k (.f f [])
def Zfx (fr:T (U S)):List Operand->(List (U S)->Prop)->Prop
 | [],k=>k []
 | o::r,k=>jbG fr o λu=>Zfx fr r λus=>k (u::us)
def jf3 (fr:T (U S)):List (Nat×Operand)->(List (Nat×U S)->Prop)->Prop
 | [],k=>k []
 | (i,o)::r,k=>jbG fr o λu=>jf3 fr r λus=>k ((i,u)::us)
def Zdh (kd:IntKind) (n:Int) (k:U S->Prop):Prop:=match kd with
 | .i64=>I64 n/\k (.i .i64 n)
 | .i32=>I32 n/\k (.i .i32 n)
 | kd=>k (.i kd (kd.wrap n))
def jhu (kd:IntKind) (n:Nat) (k:U S->Prop):Prop:=k (.i kd (kd.wrap n))
def Zjd (op:BinOp) (kd:IntKind) (a b:Int) (k:U S->Prop):Prop:=match op with
 | .add=>Zdh kd (a+b) k
 | .sub=>Zdh kd (a-b) k
 | .mul=>Zdh kd (a*b) k
 | .quo=>b≠0/\Zdh kd (a.tdiv b) k
 | .rem=>b≠0/\k (.i kd (a.tmod b))
 | .eql=>k (.b (decide (a=b)))
 | .neq=>k (.b (decide (a≠b)))
 | .lss=>k (.b (decide (a<b)))
 | .leq=>k (.b (decide (a<=b)))
 | .gtr=>k (.b (decide (b<a)))
 | .geq=>k (.b (decide (b<=a)))
 | .and=>jhu kd (BitVec.ofInt kd.bits a &&&BitVec.ofInt kd.bits b).toNat k
 | .or=>jhu kd (BitVec.ofInt kd.bits a |||BitVec.ofInt kd.bits b).toNat k
 | .xor=>jhu kd (BitVec.ofInt kd.bits a ^^^ BitVec.ofInt kd.bits b).toNat k
 | .andNot=>jhu kd (BitVec.ofInt kd.bits a &&&~~~(BitVec.ofInt kd.bits b)).toNat k
 | _=>False
def Zf3 (op:BinOp) (kd:IntKind) (x y:Int) (k:U S->Prop):Prop:=match op with
 | .shl=>0<=y/\k (.i kd (kd.wrap (x*2^(min y.toNat kd.bits))))
 | .shr=>0<=y/\k (.i kd (x.fdiv (2^(min y.toNat kd.bits))))
 | _=>False
def Jjd (op:BinOp) (l m:List UInt8) (k:U S->Prop):Prop:=match op with
 | .add=>l.length+m.length<=1099511627776/\k (.s (l++m))
 | .eql=>k (.b (l==m))
 | .neq=>k (.b (!(l==m)))
 | .lss=>k (.b (Op.bytesLess l m))
 | .leq=>k (.b (Op.bytesLess l m||(l==m)))
 | .gtr=>k (.b (!(Op.bytesLess l m||(l==m))))
 | .geq=>k (.b (!(Op.bytesLess l m)))
 | _=>False
def Zdn (t:TypeId) (cs:List (U S)) (off:Nat):Option (U S):=
 match P.info? t,P.underlying t with
 | some ti,some _=>cond (jbT P t) (some (.a ((cs.drop off).take ti.size))) (cs[off]?)
 | _,_=>none
def jbx (eq:TypeId->U S->U S->Option Bool) (xs ys:List (U S)):List Field->Option Bool
 | []=>some true
 | f :: r => cond (f.name == "_") (jbx eq xs ys r)
  (match Zdn P f.type xs f.offset,Zdn P f.type ys f.offset with
  | some x,some y=>match eq f.type x y,jbx eq xs ys r with
   | some a,some b=>some (a&&b)
   | _,_=>none
  | _,_=>none)
def jcJ (eq:TypeId->U S->U S->Option Bool) (t:TypeId) (sz:Nat) (xs ys:List (U S)) (i:Nat):Nat->Option Bool
 | 0=>some true
 | n+1=>match Zdn P t xs (i*sz),Zdn P t ys (i*sz) with
  | some x,some y=>match eq t x y,jcJ eq t sz xs ys (i+1) n with
   | some a,some b=>some (a&&b)
   | _,_=>none
  | _,_=>none
def sEq:Nat->TypeId->U S->U S->Option Bool
 | 0,_,_,_=>none
 | d+1,t,x,y=>match P.underlying t with
  | some .bool=>match asB x,asB y with
   | some a,some b=>some (a==b)
   | _,_=>none
  | some (.int _)=>match x,y with
   | .i k a,.i k' b=>cond (decide (k=k')) (some (decide (a=b))) none
   | _,_=>none
  | some .string=>match x,y with
   | .s l,.s m=>some (l==m)
   | _,_=>none
  | some (.pointer _)=>match x,y with
   | .pn,.pn=>some true
   | .pn,.p _ _=>some false
   | .p _ _,.pn=>some false
   | _,_=>none
  | some (.func ..)=>match x,y with
   | .fz,.fz=>some true
   | .fz,.f ..=>some false
   | .f ..,.fz=>some false
   | _,_=>none
  | some (.struct fs)=>match x,y with
   | .a xs,.a ys=>cond (P.stoodInHeld t) none (jbx P (sEq d) xs ys fs.toList)
   | _,_=>none
  | some (.array n e)=>match x,y with
   | .a xs,.a ys=>match P.info? e with
    | some ti=>jcJ P (sEq d) e ti.size xs ys 0 n
    | none=>none
   | _,_=>none
  | _=>none
def Jf3 (t:TypeId) (x y:U S):Option Bool:=match x,y with
 | .a _,.a _=>cond (P.eqGuardType P.depth t) none (sEq P 60 t x y)
 | .nz,_=>none
 | _,_=>sEq P 60 t x y
def zje (op:BinOp) (xt:TypeId) (x y:U S) (k:U S->Prop):Prop:=match x,y with
 | .i kd a,.i kd' b=>match op with
  | .shl=>Zf3 .shl kd a b k
  | .shr=>Zf3 .shr kd a b k
  | op=>cond (decide (kd=kd')) (Zjd op kd a b k) False
 | .s l,.s m=>Jjd op l m k
 | x,y=>match op with
  | .eql=>onO (Jf3 P xt x y) λr=>k (.b r)
  | .neq=>onO (Jf3 P xt x y) λr=>k (.b (!r))
  | _=>False
def sUn (op:UnOp) (x:U S) (k:U S->Prop):Prop:=match op,x with
 | .neg,.i kd n=>Zdh kd (0-n) k
 | .not,.b x=>k (.b (!x))
 | .not,.kb true=>k (.kb false)
 | .not,.kb false=>k (.kb true)
 | _,_=>False
def Jfx (t:TypeId):Option (U S):=match P.info? t with
 | some ti=>match ti.zero with|some z=>ofC 4 z|none=>none
 | none=>none
def Zbx (cells:List (U S)) (off:Nat):List (U S)->List (U S)
 | []=>cells
 | v::r=>Zbx (cells.set off v) (off+1) r
def Zeb (place:Nat->Option (Nat×Nat)) (cells:List (U S)):List (Nat×U S)->Option (List (U S))
 | []=>some cells
 | (i,v)::rest=>match place i with
  | none=>none
  | some (off,size)=>cond (jbV v&&(Nat.beq (Jai v).length size&&Nat.ble (off+(Jai v).length) cells.length)) (Zeb place (Zbx cells off (Jai v)) rest) none
def zgK (t:TypeId) (parts:List (Nat×U S)) (k:U S->Prop):Prop:=
 match Jfx P t,P.underlying t with
 | some z,some (.struct fs)=>match jbE (zcv P) fs.toList with
  | some places=>cond (jbV z) (onO (Zeb (λi=>places[i]?) (Jai z) parts) λcs=>k (.a cs)) False
  | none=>False
 | some z,some (.array _ e)=>match zaa P e with
  | some n=>cond (jbV z) (onO (Zeb (λi=>some (i*n,n)) (Jai z) parts) λcs=>k (.a cs)) False
  | none=>False
 | _,_=>False
def jgK (t:TypeId) (x:U S) (f:Nat) (k:U S->Prop):Prop:=match P.underlying t,x with
 | some (.struct fs),.a cs=>match fs[f]? with
  | some fd=>onO (Zdn P fd.type cs fd.offset) k
  | none=>False
 | _,_=>False
def ZgK (t:TypeId) (x:U S) (i:Int) (k:U S->Prop):Prop:=match P.underlying t,x with
 | some .string,.s l=>(0<=i/\i<(l.length:Int))/\k (.i .u8 ((l.getD i.toNat 0).toNat:Int))
 | some (.array len e),.a cs=>match zaa P e with
  | some n=>(0<=i/\i<(len:Int))/\onO (Zdn P e cs (i.toNat*n)) k
  | none=>False
 | _,_=>False
def JgK (t:TypeId) (x:U S) (lo hi:Option Int) (k:U S->Prop):Prop:=match P.underlying t,x,lo,hi with
 | some .string,.s l,some a,none=>(0<=a/\a<=(l.length:Int))/\k (.s (l.drop a.toNat))
 | some .string,.s l,none,some b=>(0<=b/\b<=(l.length:Int))/\k (.s (l.take b.toNat))
 | some .string,.s l,some a,some b=>(0<=a/\a<=b/\b<=(l.length:Int))/\k (.s ((l.drop a.toNat).take (b.toNat-a.toNat)))
 | some .string,.s l,none,none=>k (.s l)
 | _,_,_,_=>False
def Zja (fr:T (U S)) (o:Option Operand) (k:Option Int->Prop):Prop:=match o with
 | none=>k none
 | some o=>jbG fr o λu=>match u with
  | .i _ n=>k (some n)
  | _=>False
def jiN (mn:Bool) (x y:U S) (k:U S->Prop):Prop:=match x,y with
 | .i kd a,.i _ b=>k (.i kd (cond mn (if b<a then b else a) (if a<b then b else a)))
 | _,_=>False
def zgL (mn:Bool) (x:U S) (l:List (U S)) (k:U S->Prop):Prop:=match l with
 | []=>k x
 | y::r=>jiN mn x y λz=>zgL mn z r k
variable {Y P}
variable {D:DD S} {E:En} {fr:T (U S)} {frV:T V}
theorem jgL:∀(d:Nat) (v:Value) (u:U S),ofC d v=some u->∃w,ofV d v=some w/\∀(D:DD S) (E:En),RelV Y D E u w
 | 0,v,u,h=>by simp [ofC] at h
 | d+1,v,u,h=>by
  have list:∀(l:List Value) (us:List (U S)),jbE (ofC d) l=some us->∃ws,jbE (ofV d) l=some ws/\∀(D:DD S) (E:En),RelL Y D E us ws:=by
   intro l
   induction l with
   | nil=>intro us h;simp only [jbE,xa] at h;subst h;exact ⟨[],rfl,λ_ _=>rfl⟩
   | cons x l ih=>
    intro us h;simp only [jbE] at h;cases h1:ofC (S:=S) d x with
    | none=>simp [h1] at h
    | some y=>
     cases h2:jbE (ofC (S:=S) d) l with
     | none=>simp [h1,h2] at h
     | some ys=>
      simp only [h1,h2,xa] at h;subst h;obtain ⟨w,e1,e2⟩:=jgL d x y h1;obtain ⟨ws,e3,e4⟩:=ih ys h2;exact ⟨w::ws,by simp only [jbE,e1,e3],λD E=>⟨w,ws,rfl,e2 D E,e4 D E⟩⟩
  cases v with
  | bool x=>cases h;exact ⟨_,rfl,λ_ _=>rfl⟩
  | int k n=>cases h;exact ⟨_,rfl,λ_ _=>rfl⟩
  | string x=>cases h;exact ⟨_,rfl,λ_ _=>rfl⟩
  | pointer a=>cases a with
   | none=>cases h;exact ⟨_,rfl,λ_ _=>rfl⟩
   | some a=>cases h
  | slice a l c=>
   unfold ofC at h;split at h <;> first|(rename_i q;cases q)|skip
   all_goals first|(cases h;exact ⟨_,rfl,λ_ _=>rfl⟩)|cases h
  | nilFunc=>cases h;exact ⟨_,rfl,λ_ _=>rfl⟩
  | nilIface=>cases h;exact ⟨_,rfl,λ_ _=>rfl⟩
  | agg cs=>
   simp only [ofC] at h;cases h1:jbE (ofC (S:=S) d) cs.toList with
   | none=>rw [h1] at h;cases h
   | some us=>
    rw [h1] at h;cases h;obtain ⟨ws,e1,e2⟩:=list _ _ h1;exact ⟨.a ws,by simp only [ofV,e1,yg],λD E=>⟨ws,rfl,e2 D E⟩⟩
  | tuple cs=>
   simp only [ofC] at h;cases h1:jbE (ofC (S:=S) d) cs.toList with
   | none=>rw [h1] at h;cases h
   | some us=>
    rw [h1] at h;cases h;obtain ⟨ws,e1,e2⟩:=list _ _ h1;exact ⟨.t ws,by simp only [ofV,e1,yg],λD E=>⟨ws,rfl,e2 D E⟩⟩
  | _=>cases h
theorem jB {o:Operand} {k:U S->Prop} (h:jbG fr o k) (hf:RelF Y D E fr frV):∃u v,zL frV o=some v/\RelV Y D E u v/\k u:=by
 cases o with
 | tmp t=>
  obtain ⟨u,h1,h2⟩:=Ja2 h;obtain ⟨v,h3,h4⟩:=hf t u h1;exact ⟨u,v,h3,h4,h2⟩
 | const c=>
  obtain ⟨u,h1,h2⟩:=Ja2 h;obtain ⟨w,h3,h4⟩:=jgL (Y:=Y) 4 c u h1;exact ⟨u,w,h3,h4 D E,h2⟩
 | global g=>
  simp only [jbG] at h;cases hg:Nat.blt g GL with
  | false=>rw [hg] at h;exact h.elim
  | true=>
   rw [hg] at h;exact ⟨.g g 0,.p g 0,by simp only [zL,hg,Qa],⟨ge.mp hg,rfl⟩,h⟩
 | func f=>exact ⟨.f f [],.f (.func f) [] [],rfl,⟨[],rfl,rfl⟩,h⟩
theorem Zcg (hf:RelF Y D E fr frV):∀{l:List Operand} {k:List (U S)->Prop},Zfx fr l k->∃us vs,ja4 frV l=some vs/\RelL Y D E us vs/\k us
 | [],k,h=>⟨[],[],rfl,rfl,h⟩
 | o::r,k,h=>by
  obtain ⟨u,v,h1,h2,h3⟩:=jB h hf;obtain ⟨us,vs,h4,h5,h6⟩:=Zcg hf h3;exact ⟨u::us,v::vs,by simp only [ja4,h1,h4],⟨v,vs,rfl,h2,h5⟩,h6⟩
def jic (Y:Sy S) (D:DD S) (E:En):List (Nat×U S)->List (Nat×V)->Prop
 | [],vs=>vs=[]
 | (i,u)::us,vs=>∃v r,vs=(i,v)::r/\RelV Y D E u v/\jic Y D E us r
theorem jdI (hf:RelF Y D E fr frV):∀{l:List (Nat×Operand)} {k:List (Nat×U S)->Prop},jf3 fr l k->∃us vs,Jan frV l=some vs/\jic Y D E us vs/\k us
 | [],k,h=>⟨[],[],rfl,rfl,h⟩
 | (i,o)::r,k,h=>by
  obtain ⟨u,v,h1,h2,h3⟩:=jB h hf;obtain ⟨us,vs,h4,h5,h6⟩:=jdI hf h3;exact ⟨(i,u)::us,(i,v)::vs,by simp only [Jan,h1,h4],⟨v,vs,rfl,h2,h5⟩,h6⟩
theorem Jbx {kd:IntKind} {n:Int} {k:U S->Prop} (h:Zdh kd n k):k (.i kd (kd.wrap n)):=by
 unfold Zdh at h;split at h
 ·obtain ⟨⟨h1,h2⟩,h3⟩:=h;rw [JiM h1 h2];exact h3
 ·obtain ⟨⟨h1,h2⟩,h3⟩:=h;have:IntKind.i32.wrap n=n:=by simp [IntKind.wrap,IntKind.bits,IntKind.signed];omega
  rw [this];exact h3
 ·exact h
theorem Zic {op:BinOp} {kd:IntKind} {a b:Int} {k:U S->Prop} (h:Zjd op kd a b k):∃u v,zgF op kd a b=some v/\RelV Y D E u v/\k u:=by
 cases op <;> simp only [Zjd] at h <;> try exact h.elim
 ·exact ⟨.i kd _,_,rfl,rfl,Jbx h⟩
 ·exact ⟨.i kd _,_,rfl,rfl,Jbx h⟩
 ·exact ⟨.i kd _,_,rfl,rfl,Jbx h⟩
 ·exact ⟨.i kd _,.i kd (kd.wrap (a.tdiv b)),by simp only [zgF,h.1,decide_false,Yc],rfl,Jbx h.2⟩
 ·exact ⟨.i kd _,.i kd (a.tmod b),by simp only [zgF,h.1,decide_false,Yc],rfl,h.2⟩
 all_goals first
  | exact ⟨.i kd _,_,rfl,rfl,h⟩
  | (refine ⟨.b _,_,rfl,?_,h⟩;simp only [RelV,V.b.injEq];rw [He];simp [ilt,ile])
theorem Jic {op:BinOp} {l m:List UInt8} {k:U S->Prop} (h:Jjd op l m k):∃u v,JiK op l.length (jY l) m.length (jY m)=some v/\RelV Y D E u v/\k u:=by
 cases op <;> simp only [Jjd] at h <;> try exact h.elim
 ·obtain ⟨h1,h2⟩:=h;have e:Nat.ble (l.length+m.length) 1099511627776=true:=by rw [xd];exact h1
  exact ⟨.s _,ziI l.length (jY l) m.length (jY m),by simp only [JiK,e,Qa],jey l m,h2⟩
 all_goals exact ⟨.b _,_,rfl,by simp only [RelV,V.b.injEq,jgJ,zN],h⟩
theorem Jcg {t:TypeId} {cs:List (U S)} {vs:List V} {off:Nat} {u:U S} (h:Zdn P t cs off=some u) (hr:RelL Y D E cs vs):∃v,Jcm P t vs off=some v/\RelV Y D E u v:=by
 unfold Zdn at h;unfold Jcm;cases h1:P.info? t with
 | none=>simp [h1] at h
 | some ti=>
  cases h2:P.underlying t with
  | none=>simp [h1,h2] at h
  | some d=>
   simp only [h1,h2] at h |-;cases hA:jbT P t with
   | true=>
    rw [hA] at h;cases h;exact ⟨_,rfl,⟨_,rfl,(hr.drop off).take ti.size⟩⟩
   | false=>
    rw [hA] at h;exact hr.get h
theorem Jb0 {eq:TypeId->U S->U S->Option Bool} {eqV:TypeId->V->V->Option Bool} (he:∀t x y r v w,eq t x y=some r->RelV Y D E x v->RelV Y D E y w->eqV t v w=some r) {xs ys:List (U S)} {vs ws:List V} (hx:RelL Y D E xs vs) (hy:RelL Y D E ys ws) :
  ∀(fs:List Field) (r:Bool),jbx P eq xs ys fs=some r->jaZ P eqV vs ws fs=some r
 | [],r,h=>h
 | f::fs,r,h=>by
  simp only [jbx] at h;simp only [jaZ]
  cases hn : (f.name == "_") with
  | true=>rw [hn] at h;exact Jb0 he hx hy fs r h
  | false=>
   rw [hn] at h;simp only [Yc] at h |-;cases h1:Zdn P f.type xs f.offset with
   | none=>simp [h1] at h
   | some x=>
    cases h2:Zdn P f.type ys f.offset with
    | none=>simp [h1,h2] at h
    | some y=>
     simp only [h1,h2] at h;cases h3:eq f.type x y with
     | none=>simp [h3] at h
     | some a=>
      cases h4:jbx P eq xs ys fs with
      | none=>simp [h3,h4] at h
      | some b=>
       simp only [h3,h4,xa] at h;subst h;obtain ⟨v,e1,e2⟩:=Jcg h1 hx;obtain ⟨w,e3,e4⟩:=Jcg h2 hy;simp only [e1,e3,he _ _ _ _ _ _ h3 e2 e4];cases a with
       | false=>rfl
       | true=>simpa using Jb0 he hx hy fs b h4
theorem ZdI {eq:TypeId->U S->U S->Option Bool} {eqV:TypeId->V->V->Option Bool} (he:∀t x y r v w,eq t x y=some r->RelV Y D E x v->RelV Y D E y w->eqV t v w=some r) {xs ys:List (U S)} {vs ws:List V} (hx:RelL Y D E xs vs) (hy:RelL Y D E ys ws) {t:TypeId} {sz:Nat} :
  ∀(n i:Nat) (r:Bool),jcJ P eq t sz xs ys i n=some r->ZbE P eqV t sz vs ws i n=some r
 | 0,i,r,h=>h
 | n+1,i,r,h=>by
  simp only [jcJ] at h;simp only [ZbE];cases h1:Zdn P t xs (i*sz) with
  | none=>simp [h1] at h
  | some x=>
   cases h2:Zdn P t ys (i*sz) with
   | none=>simp [h1,h2] at h
   | some y=>
    simp only [h1,h2] at h;cases h3:eq t x y with
    | none=>simp [h3] at h
    | some a=>
     cases h4:jcJ P eq t sz xs ys (i+1) n with
     | none=>simp [h3,h4] at h
     | some b=>
      simp only [h3,h4,xa] at h;subst h;obtain ⟨v,e1,e2⟩:=Jcg h1 hx;obtain ⟨w,e3,e4⟩:=Jcg h2 hy;simp only [e1,e3,he _ _ _ _ _ _ h3 e2 e4];cases a with
      | false=>rfl
      | true=>simpa using ZdI he hx hy n (i+1) b h4
theorem zf4 {u:U S} {x:Bool} {v:V} (h:asB u=some x) (hr:RelV Y D E u v):v=.b x:=by
 cases u <;> simp only [asB,reduceCtorEq,xa] at h <;> (subst h;exact hr)
theorem ZgL:∀(d:Nat) (t:TypeId) (x y:U S) (r:Bool) (v w:V),sEq P d t x y=some r->RelV Y D E x v->RelV Y D E y w->veq P d t v w=some r
 | 0,_,_,_,_,_,_,h,_,_=>by simp [sEq] at h
 | d+1,t,x,y,r,v,w,h,hx,hy=>by
  have ih:=λt x y r v w=>ZgL d t x y r v w
  unfold sEq at h;split at h
  ·rename_i hu;cases h1:asB x with
   | none=>simp [h1] at h
   | some a=>
    cases h2:asB y with
    | none=>simp [h1,h2] at h
    | some b=>
     simp only [h1,h2] at h;rw [zf4 h1 hx,zf4 h2 hy];unfold veq;simp only [hu];exact h
  ·rename_i hu;split at h
   ·rename_i k a k' b;simp only [RelV] at hx hy;subst hx hy;unfold veq;simp only [hu];cases hk:decide (k=k') with
    | false=>rw [hk] at h;cases h
    | true=>
     rw [hk] at h;simp only [Qa,xa] at h |-;rw [<-h,He];simp
   ·cases h
  ·rename_i hu;split at h
   ·rename_i l m;simp only [RelV] at hx hy;subst hx hy;unfold veq V.str;simp only [hu,jgJ];exact h
   ·cases h
  ·rename_i hu;split at h
   ·simp only [RelV] at hx hy;subst hx hy;unfold veq;simp only [hu];exact h
   ·simp only [RelV] at hx hy;subst hx;obtain ⟨_,_,_,rfl⟩:=hy;unfold veq;simp only [hu];exact h
   ·simp only [RelV] at hx hy;subst hy;obtain ⟨_,_,_,rfl⟩:=hx;unfold veq;simp only [hu];exact h
   ·cases h
  ·rename_i hu;split at h
   ·simp only [RelV] at hx hy;subst hx hy;unfold veq;simp only [hu];exact h
   ·simp only [RelV] at hx hy;subst hx;obtain ⟨_,rfl,_⟩:=hy;unfold veq;simp only [hu];exact h
   ·simp only [RelV] at hx hy;subst hy;obtain ⟨_,rfl,_⟩:=hx;unfold veq;simp only [hu];exact h
   ·cases h
  ·rename_i fs hu;split at h
   ·rename_i xs ys;simp only [RelV] at hx hy;obtain ⟨vs,rfl,hx⟩:=hx;obtain ⟨ws,rfl,hy⟩:=hy;unfold veq;simp only [hu];cases hs:P.stoodInHeld t with
    | true=>rw [hs] at h;cases h
    | false=>
     rw [hs] at h;exact Jb0 ih hx hy _ _ h
   ·cases h
  ·rename_i n e hu;split at h
   ·rename_i xs ys;simp only [RelV] at hx hy;obtain ⟨vs,rfl,hx⟩:=hx;obtain ⟨ws,rfl,hy⟩:=hy;unfold veq;simp only [hu];split at h
    ·rename_i ti hi;simp only [hi];exact ZdI ih hx hy _ _ _ h
    ·cases h
   ·cases h
  ·cases h
end
end Go.Sx
namespace Go.Sx
open Go.Vm
section
variable {S:Sg} {Y:Sy S} {P:Program} {D:DD S} {E:En} {fr:T (U S)} {frV:T V}
theorem Zhu {op:BinOp} {t:TypeId} {kd:IntKind} {a b:Int} (h1:op≠.shl) (h2:op≠.shr):JeY P op t (.i kd a) (.i kd b)=zgF op kd a b:=by cases op <;> simp_all [JeY]
theorem Jhu {t:TypeId} {x y:V} (h:∀k a k' b,¬(x=.i k a/\y=.i k' b)) (h':∀l a m b,¬(x=.s l a/\y=.s m b)):JeY P .eql t x y=(match jbZ P t x y with|some r=>some (.b r)|none=>none):=by
 unfold JeY;split
 ·exact absurd ⟨rfl,rfl⟩ (h _ _ _ _)
 ·exact absurd ⟨rfl,rfl⟩ (h' _ _ _ _)
 ·rfl
theorem zhv {t:TypeId} {x y:V} (h:∀k a k' b,¬(x=.i k a/\y=.i k' b)) (h':∀l a m b,¬(x=.s l a/\y=.s m b)):JeY P .neq t x y=(match jbZ P t x y with|some r=>some (.b (!r))|none=>none):=by
 unfold JeY;split
 ·exact absurd ⟨rfl,rfl⟩ (h _ _ _ _)
 ·exact absurd ⟨rfl,rfl⟩ (h' _ _ _ _)
 ·rfl
theorem jf4 {d:Nat} {t:TypeId} {x y:U S} {r:Bool} {v w:V} (h:sEq P d t x y=some r) (hx:RelV Y D E x v) (hy:RelV Y D E y w) (hi:∀k a k' b,¬(x=.i k a/\y=.i k' b)) (hs:∀l m,¬(x=.s l/\y=.s m)) :
  (∀k a k' b,¬(v=.i k a/\w=.i k' b))/\(∀l a m b,¬(v=.s l a/\w=.s m b)):=by
 cases d with
 | zero=>simp [sEq] at h
 | succ d=>
  unfold sEq at h;split at h
  ·cases h1:asB x with
   | none=>simp [h1] at h
   | some a=>
    rw [zf4 h1 hx];exact ⟨λ_ _ _ _ q=>(by cases q.1),λ_ _ _ _ q=>(by cases q.1)⟩
  ·split at h
   ·exact absurd ⟨rfl,rfl⟩ (hi _ _ _ _)
   ·cases h
  ·split at h
   ·exact absurd ⟨rfl,rfl⟩ (hs _ _)
   ·cases h
  ·split at h
   ·simp only [RelV] at hx;subst hx;exact ⟨λ_ _ _ _ q=>(by cases q.1),λ_ _ _ _ q=>(by cases q.1)⟩
   ·simp only [RelV] at hx;subst hx;exact ⟨λ_ _ _ _ q=>(by cases q.1),λ_ _ _ _ q=>(by cases q.1)⟩
   ·simp only [RelV] at hy;subst hy;exact ⟨λ_ _ _ _ q=>(by cases q.2),λ_ _ _ _ q=>(by cases q.2)⟩
   ·cases h
  ·split at h
   ·simp only [RelV] at hx;subst hx;exact ⟨λ_ _ _ _ q=>(by cases q.1),λ_ _ _ _ q=>(by cases q.1)⟩
   ·simp only [RelV] at hx;subst hx;exact ⟨λ_ _ _ _ q=>(by cases q.1),λ_ _ _ _ q=>(by cases q.1)⟩
   ·simp only [RelV] at hy;subst hy;exact ⟨λ_ _ _ _ q=>(by cases q.2),λ_ _ _ _ q=>(by cases q.2)⟩
   ·cases h
  ·split at h
   ·simp only [RelV] at hx;obtain ⟨_,rfl,_⟩:=hx;exact ⟨λ_ _ _ _ q=>(by cases q.1),λ_ _ _ _ q=>(by cases q.1)⟩
   ·cases h
  ·split at h
   ·simp only [RelV] at hx;obtain ⟨_,rfl,_⟩:=hx;exact ⟨λ_ _ _ _ q=>(by cases q.1),λ_ _ _ _ q=>(by cases q.1)⟩
   ·cases h
  ·cases h
theorem ZiN {d:Nat} {t:TypeId} {w:V} {r:Bool} (h:veq P d t .nz w=some r):False:=by
 cases d with
 | zero=>cases h
 | succ d=>
  unfold veq at h;cases hu:P.underlying t with
  | none=>rw [hu] at h;cases h
  | some x=>rw [hu] at h;cases x <;> cases w <;> cases h
theorem Ze4 {t:TypeId} {x y:U S} {r:Bool} {v w:V} (h:Jf3 P t x y=some r) (hx:RelV Y D E x v) (hy:RelV Y D E y w):jbZ P t v w=some r/\(∃d,sEq P d t x y=some r):=by
 unfold Jf3 at h;split at h
 ·simp only [RelV] at hx hy;obtain ⟨vs,rfl,hx⟩:=hx;obtain ⟨ws,rfl,hy⟩:=hy;cases hg:P.eqGuardType P.depth t with
  | true=>rw [hg] at h;cases h
  | false=>
   rw [hg,Yc] at h;rename_i xs ys;exact ⟨by unfold jbZ;simp only [hg,Yc];exact ZgL 60 t (.a xs) (.a ys) r _ _ h ⟨vs,rfl,hx⟩ ⟨ws,rfl,hy⟩,60,h⟩
 ·cases h
 ·rename_i h1 h2;refine ⟨?_,60,h⟩;have hv:=ZgL 60 t x y r v w h hx hy;unfold jbZ;split
  ·exfalso;unfold sEq at h;split at h
   ·cases q:asB x with
    | none=>simp [q] at h
    | some a=>have:=zf4 q hx;cases this
   ·split at h
    ·simp only [RelV] at hx;cases hx
    ·cases h
   ·split at h
    ·simp only [RelV,V.str] at hx;cases hx
    ·cases h
   ·split at h
    ·simp only [RelV] at hx;cases hx
    ·simp only [RelV] at hx;cases hx
    ·simp only [RelV] at hy;cases hy
    ·cases h
   ·split at h
    ·simp only [RelV] at hx;cases hx
    ·simp only [RelV] at hx;cases hx
    ·simp only [RelV] at hy;cases hy
    ·cases h
   ·split at h
    ·first|exact h1 _ _ rfl rfl|exact (h1 rfl rfl).elim|exact (h1 _ _ rfl rfl).elim|exact h1 rfl rfl|exact h1 _ rfl|simp_all
    ·cases h
   ·split at h
    ·first|exact h1 _ _ rfl rfl|exact (h1 rfl rfl).elim|exact (h1 _ _ rfl rfl).elim|exact h1 rfl rfl|exact h1 _ rfl|simp_all
    ·cases h
   ·cases h
  ·exfalso;exact ZiN hv
  ·exact hv
theorem Je4 {op:BinOp} {kd:IntKind} {a b:Int} {k:U S->Prop} (h:Zf3 op kd a b k):∃u v,ZeY op kd a b=some v/\RelV Y D E u v/\k u:=by
 cases op <;> simp only [Zf3] at h <;> try exact h.elim
 all_goals
  have e:ilt b 0=false:=by simp [ilt];exact h.1
  exact ⟨.i kd _,_,by simp only [ZeY,e,Yc],rfl,h.2⟩
theorem zid {op:BinOp} {xt:TypeId} {x y:U S} {k:U S->Prop} {v w:V} (h:zje P op xt x y k) (hx:RelV Y D E x v) (hy:RelV Y D E y w):∃u z,JeY P op xt v w=some z/\RelV Y D E u z/\k u:=by
 unfold zje at h;split at h
 ·rename_i kd a kd' b;simp only [RelV] at hx hy;subst hx hy;split at h
  ·obtain ⟨u,z,h1,h2,h3⟩:=Je4 (Y:=Y) (D:=D) (E:=E) h;exact ⟨u,z,h1,h2,h3⟩
  ·obtain ⟨u,z,h1,h2,h3⟩:=Je4 (Y:=Y) (D:=D) (E:=E) h;exact ⟨u,z,h1,h2,h3⟩
  ·rename_i n1 n2;cases hk:decide (kd=kd') with
   | false=>rw [hk] at h;exact h.elim
   | true=>
    rw [hk] at h;obtain rfl:=Ha hk;obtain ⟨u,z,h1,h2,h3⟩:=Zic (Y:=Y) (D:=D) (E:=E) h;exact ⟨u,z,by rw [Zhu n1 n2];exact h1,h2,h3⟩
 ·simp only [RelV] at hx hy;subst hx hy;obtain ⟨u,z,h1,h2,h3⟩:=Jic (Y:=Y) (D:=D) (E:=E) h;exact ⟨u,z,h1,h2,h3⟩
 ·rename_i n1 n2;have i1:∀k a k' b,¬(x=.i k a/\y=.i k' b):=λk a k' b q=>n1 k a k' b q.1 q.2
  have s1:∀l m,¬(x=.s l/\y=.s m):=λl m q=>n2 l m q.1 q.2
  split at h
  ·obtain ⟨r,h1,h2⟩:=Ja2 h;obtain ⟨h3,d,h4⟩:=Ze4 h1 hx hy;obtain ⟨k1,k2⟩:=jf4 h4 hx hy i1 s1;exact ⟨.b r,.b r,by rw [Jhu k1 k2,h3],rfl,h2⟩
  ·obtain ⟨r,h1,h2⟩:=Ja2 h;obtain ⟨h3,d,h4⟩:=Ze4 h1 hx hy;obtain ⟨k1,k2⟩:=jf4 h4 hx hy i1 s1;exact ⟨.b (!r),.b (!r),by rw [zhv k1 k2,h3],rfl,h2⟩
  ·exact h.elim
theorem JiN {op:UnOp} {x:U S} {k:U S->Prop} {v:V} (h:sUn op x k) (hx:RelV Y D E x v):∃u z,vun op v=some z/\RelV Y D E u z/\k u:=by
 unfold sUn at h;split at h
 ·rename_i kd n;simp only [RelV] at hx;subst hx;exact ⟨.i kd _,_,rfl,rfl,Jbx h⟩
 ·simp only [RelV] at hx;subst hx;exact ⟨.b _,_,rfl,rfl,h⟩
 ·simp only [RelV] at hx;subst hx;exact ⟨.kb false,_,rfl,rfl,h⟩
 ·simp only [RelV] at hx;subst hx;exact ⟨.kb true,_,rfl,rfl,h⟩
 ·exact h.elim
theorem zdv {t:TypeId} {z:U S} (h:Jfx P t=some z):∃w,Zba P t=some w/\∀(D:DD S) (E:En),RelV Y D E z w:=by
 unfold Jfx at h;unfold Zba;cases h1:P.info? t with
 | none=>simp [h1] at h
 | some ti=>
  simp only [h1] at h |-;cases h2:ti.zero with
  | none=>simp [h2] at h
  | some z0=>simp only [h2] at h |-;exact jgL 4 z0 z h
end
section
variable {S:Sg} {Y:Sy S} {P:Program} {own:Nat->Prop} {st:St} {E:En}
theorem RelV.cells {u:U S} {v:V} (hs:jbV u=true) (h:RelV Y (Dat Y own st) E u v):RelL Y (Dat Y own st) E (Jai u) v.cells:=by
 have one:v.cells=[v]->RelL Y (Dat Y own st) E [u] v.cells:=λe=>by rw [e];exact ⟨v,[],rfl,h,rfl⟩
 cases u with
 | dead=>cases hs
 | a cs=>simp only [RelV] at h;obtain ⟨vs,rfl,h⟩:=h;exact h
 | o r=>
  have h':=h;simp only [RelV] at h';obtain ⟨x,_,ha⟩:=h';exact one (by cases v <;> first|rfl|cases ha)
 | l c xs=>
  have h':=h;simp only [RelV] at h';exact one (by cases h' <;> rfl)
 | vh r j=>
  have h':=h;simp only [RelV,ziN] at h';obtain ⟨_,_,_,⟨_,_,rfl⟩|⟨_,_,_,_,_,_,rfl⟩⟩:=h' <;> exact one rfl
 | v r w i=>
  have h':=h;simp only [RelV,zjz] at h';obtain ⟨_,_,_,⟨_,rfl⟩|⟨_,_,_,_,_,_,⟨_,_,_,_,rfl⟩|⟨_,_,_,rfl⟩⟩⟩:=h' <;> exact one rfl
 | _=>
  have h':=h;simp only [RelV] at h'
  first
  | (subst h';exact one rfl)
  | (obtain ⟨_,_,_,rfl⟩:=h';exact one rfl)
  | (obtain ⟨_,rfl⟩:=h';exact one rfl)
  | (obtain ⟨_,rfl,_⟩:=h';exact one rfl)
  | (obtain ⟨_,_,_,_,_,_,rfl⟩:=h';exact one rfl)
theorem RelL.setR {D:DD S}:∀{us:List (U S)} {vs:List V} {j:Nat} {u:U S} {v:V},RelL Y D E us vs->RelV Y D E u v->RelL Y D E (us.set j u) (vs.set j v)
 | [],vs,j,u,v,h,_=>by simp only [RelL] at h;subst h;simp [RelL]
 | u0::us,vs,j,u,v,h,hu=>by
  simp only [RelL] at h;obtain ⟨w,r,rfl,h2,h3⟩:=h;cases j with
  | zero=>exact ⟨v,r,rfl,hu,h3⟩
  | succ j=>exact ⟨w,r.set j v,rfl,h2,RelL.setR h3 hu⟩
theorem RelL.setAt {D:DD S}:∀{news:List (U S)} {nv:List V} {us:List (U S)} {vs:List V} {j:Nat},RelL Y D E us vs->RelL Y D E news nv->RelL Y D E (Zbx us j news) (Vm.setAt vs j nv)
 | [],nv,us,vs,j,h,hn=>by simp only [RelL] at hn;subst hn;exact h
 | u::news,nv,us,vs,j,h,hn=>by
  simp only [RelL] at hn;obtain ⟨w,r,rfl,h2,h3⟩:=hn;show RelL Y D E (Zbx (us.set j u) (j+1) news) (Vm.setAt (vs.set j w) (j+1) r);exact RelL.setAt (RelL.setR h h2) h3
theorem zch:∀(news us:List (U S)) (j:Nat),(Zbx us j news).length=us.length
 | [],us,j=>rfl
 | u::news,us,j=>by rw [Zbx,zch news];simp
theorem jdv {place:Nat->Option (Nat×Nat)}:∀{parts:List (Nat×U S)} {pv:List (Nat×V)} {us us':List (U S)} {vs:List V},Zeb place us parts=some us'->RelL Y (Dat Y own st) E us vs->jic Y (Dat Y own st) E parts pv->∃vs',ZcW place vs pv=some vs'/\RelL Y (Dat Y own st) E us' vs'
 | [],pv,us,us',vs,h,hr,hp=>by
  simp only [jic] at hp;subst hp;simp only [Zeb,xa] at h;subst h;exact ⟨vs,rfl,hr⟩
 | (i,u)::parts,pv,us,us',vs,h,hr,hp=>by
  simp only [jic] at hp;obtain ⟨v,r,rfl,h2,h3⟩:=hp;simp only [Zeb] at h;simp only [ZcW];cases hpl:place i with
  | none=>simp [hpl] at h
  | some q=>
   obtain ⟨off,size⟩:=q;simp only [hpl] at h |-;cases hs:jbV u with
   | false=>simp [hs] at h
   | true=>
    have hc:=RelV.cells hs h2;have e1:=hc.length;have e2:=hr.length;rw [hs,Yg] at h;rw [e1,e2];cases hq:(Nat.beq (Jai u).length size&&Nat.ble (off+(Jai u).length) us.length) with
    | false=>simp [hq] at h
    | true=>
     rw [hq] at h;simp only [Qa] at h |-;exact jdv h (hr.setAt hc) h3
theorem JgL {t:TypeId} {parts:List (Nat×U S)} {pv:List (Nat×V)} {k:U S->Prop} (h:zgK P t parts k) (hp:jic Y (Dat Y own st) E parts pv):∃u v,JdB P t pv=some v/\RelV Y (Dat Y own st) E u v/\k u:=by
 unfold zgK at h;unfold JdB;cases hz:Jfx (S:=S) P t with
 | none=>simp [hz] at h
 | some z=>
  obtain ⟨w,e1,e2⟩:=zdv (Y:=Y) hz;have e2:=e2 (Dat Y own st) E;cases hu:P.underlying t with
  | none=>simp [hz,hu] at h
  | some d=>
   cases d <;> simp only [hz,hu] at h <;> try exact h.elim
   ·split at h
    ·rename_i places hm;cases hs:jbV z with
     | false=>rw [hs] at h;exact h.elim
     | true=>
      rw [hs] at h;obtain ⟨cs,h1,h2⟩:=Ja2 h;obtain ⟨vs,h3,h4⟩:=jdv h1 (RelV.cells hs e2) hp;exact ⟨.a cs,.a vs,by simp only [e1,hm,h3],⟨vs,rfl,h4⟩,h2⟩
    ·exact h.elim
   ·split at h
    ·rename_i n hm;cases hs:jbV z with
     | false=>rw [hs] at h;exact h.elim
     | true=>
      rw [hs] at h;obtain ⟨cs,h1,h2⟩:=Ja2 h;obtain ⟨vs,h3,h4⟩:=jdv h1 (RelV.cells hs e2) hp;exact ⟨.a cs,.a vs,by simp only [e1,hm,h3],⟨vs,rfl,h4⟩,h2⟩
    ·exact h.elim
end
section
variable {S:Sg} {Y:Sy S} {P:Program} {D:DD S} {E:En} {fr:T (U S)} {frV:T V}
theorem zgM {t:TypeId} {x:U S} {v:V} {f:Nat} {k:U S->Prop} (h:jgK P t x f k) (hx:RelV Y D E x v):∃u w,zdC P t v f=some w/\RelV Y D E u w/\k u:=by
 unfold jgK at h;split at h
 ·rename_i fs cs hu;simp only [RelV] at hx;obtain ⟨vs,rfl,hx⟩:=hx;split at h
  ·rename_i fd hfd;obtain ⟨u,h1,h2⟩:=Ja2 h;obtain ⟨w,h3,h4⟩:=Jcg h1 hx;exact ⟨u,w,by unfold zdC;simp only [hu,hfd];exact h3,h4,h2⟩
  ·exact h.elim
 ·exact h.elim
theorem bnd {i:Int} {n:Nat} (h:0<=i/\i<(n:Int)):(ile 0 i&&ilt i n)=true:=by simp [ile,ilt];omega
theorem toNat_lt {i:Int} {n:Nat} (h:0<=i/\i<(n:Int)):i.toNat<n:=by omega
theorem jgM {t:TypeId} {x:U S} {v:V} {i:Int} {k:U S->Prop} (h:ZgK P t x i k) (hx:RelV Y D E x v):∃u w,Zdf P t v i=some w/\RelV Y D E u w/\k u:=by
 unfold ZgK at h;split at h
 ·rename_i l hu;simp only [RelV] at hx;subst hx;refine ⟨_,.i .u8 (.ofNat (ZcH (jY l) i.toNat)),by unfold Zdf V.str;simp only [hu,bnd h.1,Qa],?_,h.2⟩
  simp only [RelV];rw [Je3 l i.toNat (toNat_lt h.1)];rfl
 ·rename_i len e cs hu;simp only [RelV] at hx;obtain ⟨vs,rfl,hx⟩:=hx;split at h
  ·rename_i n hn;obtain ⟨u,h1,h2⟩:=Ja2 h.2;obtain ⟨w,h3,h4⟩:=Jcg h1 hx;exact ⟨u,w,by unfold Zdf;simp only [hu,hn,bnd h.1,Qa];exact h3,h4,h2⟩
  ·exact h.elim
 ·exact h.elim
theorem ZgM {o:Option Operand} {k:Option Int->Prop} (h:Zja fr o k) (hf:RelF Y D E fr frV):∃(x:Option Int) (w:Option V),k x/\((o=none/\x=none/\w=none)\/∃q kd n,o=some q/\zL frV q=some (.i kd n)/\x=some n/\w=some (.i kd n)):=by
 unfold Zja at h;split at h
 ·exact ⟨none,none,h,.inl ⟨rfl,rfl,rfl⟩⟩
 ·rename_i q;obtain ⟨u,v,h1,h2,h3⟩:=jB h hf;split at h3
  ·rename_i kd n;simp only [RelV] at h2;subst h2;exact ⟨some n,some (.i kd n),h3,.inr ⟨q,kd,n,rfl,h1,rfl,rfl⟩⟩
  ·exact h3.elim
theorem Zbp {kd:IntKind} {n:Int} {y:Nat} (h:0<=n/\n<=(y:Int)):zbj (.i kd n) y=some n.toNat:=by
 have:(ile 0 n&&ile n y)=true:=by simp [ile];omega
 simp only [zbj,this,Qa,jy]
theorem JgM {t:TypeId} {x:U S} {v:V} {lo hi:Option Int} {lw hw:Option V} {k:U S->Prop} (h:JgK P t x lo hi k) (hx:RelV Y D E x v) (hl:(lo=none/\lw=none)\/∃kd n,lo=some n/\lw=some (.i kd n)) (hh:(hi=none/\hw=none)\/∃kd n,hi=some n/\hw=some (.i kd n)) :
  ∃u w,jao P t v lw hw none=some w/\RelV Y D E u w/\k u:=by
 unfold JgK at h;split at h
 ·rename_i l a hu;simp only [RelV] at hx;subst hx;obtain ⟨e,_⟩|⟨kd,n,e,rfl⟩:=hl
  ·cases e
  cases e;obtain ⟨_,rfl⟩|⟨_,_,e,_⟩:=hh
  ·have e3:=Zey l a.toNat l.length (by omega) (Ra _)
   rw [List.take_of_length_le (by simp)] at e3
   exact ⟨.s (l.drop a.toNat),V.str (l.drop a.toNat),by unfold jao V.str;simp only [hu,zB,jaa,Zbp h.1];exact Ya some e3,rfl,h.2⟩
  ·cases e
 ·rename_i l b hu;simp only [RelV] at hx;subst hx;obtain ⟨_,rfl⟩|⟨_,_,e,_⟩:=hl
  ·obtain ⟨e,_⟩|⟨kd,n,e,rfl⟩:=hh
   ·cases e
   cases e;have e3:=Zey l 0 b.toNat (dg _) (by omega)
   simp only [dh,Yn] at e3;exact ⟨.s (l.take b.toNat),V.str (l.take b.toNat),by unfold jao V.str;simp only [hu,zB,jaa,Zbp h.1];exact Ya some e3,rfl,h.2⟩
  ·cases e
 ·rename_i l a b hu;simp only [RelV] at hx;subst hx;obtain ⟨e,_⟩|⟨kd,n,e,rfl⟩:=hl
  ·cases e
  cases e;obtain ⟨e,_⟩|⟨kd',n',e,rfl⟩:=hh
  ·cases e
  cases e;obtain ⟨⟨h1,h2,h3⟩,hk⟩:=h;have e3:=Zey l a.toNat b.toNat (by omega) (by omega)
  have b1:zbj (.i kd a) b.toNat=some a.toNat:=Zbp ⟨h1,by omega⟩
  exact ⟨.s _,V.str ((l.drop a.toNat).take (b.toNat-a.toNat)),by unfold jao V.str;simp only [hu,zB,jaa,Zbp (kd:=kd') (n:=b) (y:=l.length) ⟨by omega,h3⟩,b1];exact Ya some e3,rfl,hk⟩
 ·rename_i l hu;simp only [RelV] at hx;subst hx;obtain ⟨_,rfl⟩|⟨_,_,e,_⟩:=hl
  ·obtain ⟨_,rfl⟩|⟨_,_,e,_⟩:=hh
   ·have e3:=Zey l 0 l.length (dg _) (Ra _);simp only [dh,Yn,List.take_length] at e3;exact ⟨.s l,V.str l,by unfold jao V.str;simp only [hu,zB,jaa];exact Ya some e3,rfl,h⟩
   ·cases e
  ·cases e
 ·exact h.elim
theorem zez {mn:Bool}:∀{l:List (U S)} {vs:List V} {x:U S} {v:V} {k:U S->Prop},zgL mn x l k->RelV Y D E x v->RelL Y D E l vs->∃u w,zcI mn v vs=some w/\RelV Y D E u w/\k u
 | [],vs,x,v,k,h,hx,hl=>by simp only [RelL] at hl;subst hl;exact ⟨x,v,rfl,hx,h⟩
 | y::r,vs,x,v,k,h,hx,hl=>by
  simp only [RelL] at hl;obtain ⟨w,ws,rfl,h2,h3⟩:=hl;simp only [zgL,jiN] at h;split at h
  ·rename_i kd a kd' b;simp only [RelV] at hx h2;subst hx h2;obtain ⟨u,z,q1,q2,q3⟩:=zez h (v:=.i kd (cond mn (if b<a then b else a) (if a<b then b else a))) rfl h3
   refine ⟨u,z,?_,q2,q3⟩;simp only [zcI,jgF];rw [show (cond mn (cond (ilt b a) b a) (cond (ilt a b) b a))=cond mn (if b<a then b else a) (if a<b then b else a) from by
    have e1:(cond (ilt b a) b a)=if b<a then b else a:=by by_cases q:b<a <;> simp [ilt,q]
    have e2:(cond (ilt a b) b a)=if a<b then b else a:=by by_cases q:a<b <;> simp [ilt,q]
    rw [e1,e2]]
   exact q1
  ·exact h.elim
end
end Go.Sx
namespace Go.Sx
open Go.Vm
def za3 {S:Sg} (ks:List Nat):Ct S->Ct S
 | .cells us=>.cells (kills ks us)
 | .buf c xs=>.buf c xs
 | .row c xs=>.row c xs
section
variable {S:Sg} {Y:Sy S} {G:Gl} {ro:Nat} {o0:Nat->Prop}
theorem Ent.keep {E E':En} {m m':T (Ct S)} {st st':St} {ks wr:List Nat} (hs:Step o0 E m st E' m' st' ks wr) {r:Nat} {ct:Ct S} (h:Ent Y ro (Dat Y (ji o0 E m) st) (DatA Y (ji o0 E m) st) E st r ct)
  (hE:E'[r]?=E[r]?) (hb:∀id h,E[r]?=some (some id,h)->id<st.nx->st'.hp.get id=st.hp.get id):Ent Y ro (Dat Y (ji o0 E' m') st') (DatA Y (ji o0 E' m') st') E' st' r (za3 ks ct):=by
 cases ct with
 | cells us=>
  obtain ⟨id,x,b,vs,h1,h2,h3,h4,h5,h6,h7⟩:=h;have hl:(kills ks us).length=us.length:=by
   clear h6 h7 h5
   induction us with
   | nil=>rfl
   | cons u us ih=>simp [kills,ih]
  exact ⟨id,x,b,vs,hE.trans h1,h2,xi h3 hs.nx,(hb id x h1 h3).trans h4,by rw [hl];exact h5,hs.relsK h6,by rw [hl];exact h7⟩
 | buf c xs=>
  rcases h with ⟨h1,h2⟩|⟨id,cap,op,b,h1,h2,h3,h4,h5,h6,h7,h8,vs,h9,h10⟩
  ·exact .inl ⟨hE.trans h1,h2⟩
  ·refine .inr ⟨id,cap,op,b,hE.trans h1,h2,xi h3 hs.nx,(hb id _ h1 h3).trans h4,h5,h6,h7,h8,vs,h9,λi x hx j u v hu hv=>?_⟩
   exact hs.datA (h10 i x hx j u v hu hv)
 | row c xs=>
  obtain ⟨id,b,h1,h2,h3,h4,h5,vs,h9,h10⟩:=h;exact ⟨id,b,hE.trans h1,h2,xi h3 hs.nx,(hb id _ h1 h3).trans h4,h5,vs,h9,λi x hx j u v hu hv=>hs.datA (h10 i x hx j u v hu hv)⟩
theorem zb1 {E E':En} {m m':T (Ct S)} {st st':St} {ks wr:List Nat} {nx:Nat} (h:Inv Y G o0 ro E nx m st) (hs:Step o0 E m st E' m' st' ks wr) :
  ∀g k l,G g=some (k,l)->g<ro/\∃b,st'.hp.get g=some b/\∀j,j<l.length->b.get j=some (.i k (l.getD j 0)):=by
 intro g k l hg;obtain ⟨h1,b,h2,h3⟩:=h.glob g k l hg;refine ⟨h1,b,?_,h3⟩;rw [hs.keep g (xi h1 h.ro) λq=>?_,h2]
 obtain ⟨r',ct,x',e1,e2⟩:=q;have he:=h.ent r' ct e1;cases ct with
 | cells us=>
  obtain ⟨id,y,b,vs,q1,q2,_⟩:=he;rw [e2] at q1;cases q1;omega
 | buf c xs=>
  rcases he with ⟨q1,_⟩|⟨id,cap,op,b,q1,q2,_⟩
  ·rw [e2] at q1;cases q1
  ·rw [e2] at q1;cases q1;omega
 | row c xs=>
  obtain ⟨id,b,q1,q2,_⟩:=he;rw [e2] at q1;cases q1;omega
theorem Zdv {E:En} {x:Option Nat×V} {r:Nat} (h:r<E.length):(E++[x])[r]?=E[r]?:=List.getElem?_append_left h
theorem push_self {E:En} {x:Option Nat×V}:(E++[x])[E.length]?=some x:=by simp
theorem jb1 {E:En} {nx:Nat} {m:T (Ct S)} {st st':St} (h:Inv Y G o0 ro E nx m st) (x:Option Nat) (hd:V) (ct:Ct S) (hx:∀id,x=some id->st.nx<=id) (hn:st.nx<=st'.nx) (hk:∀id,id<st.nx->st'.hp.get id=st.hp.get id) (hv:st'.ver=st.ver) :
  Step o0 E m st (E++[(x,hd)]) (m.upd nx (some ct)) st' [] []:=by
 refine ⟨by simp,λr hr _=>Zdv hr,hn,λid hid _=>hk id hid,?_,λj h1 h2 _=>by rw [hv];exact h2⟩
 rintro id ⟨r,c,y,e1,e2⟩;rw [Tgu] at e1;by_cases e:r=nx
 ·subst e;rw [<-h.len,push_self] at e2;cases e2;exact .inr (hx id rfl)
 ·rw [ga e] at e1;have hr:=h.lt r c e1;rw [Zdv (by rw [h.len];exact hr)] at e2
  exact .inl ⟨r,c,y,e1,e2⟩
theorem ze5:∀us:List (U S),kills [] us=us/\∀u:U S,kill [] u=u:=by
 have key:(∀u:U S,kill [] u=u):=by
  intro u;refine U.rec (motive_1:=λu=>kill [] u=u) (motive_2:=λus=>kills [] us=us) ?_ ?_ ?_ ?_ ?_ ?_ ?_ ?_ ?_ ?_ ?_ ?_ ?_ ?_ ?_ ?_ ?_ ?_ ?_ ?_ ?_ ?_ u <;> intros <;> simp_all [kill,kills,mem]
 intro us;refine ⟨?_,key⟩
 induction us with
 | nil=>rfl
 | cons u us ih=>simp [kills,key,ih]
theorem zby (ct:Ct S):za3 [] ct=ct:=by cases ct <;> simp [za3,(ze5 _).1]
theorem ZcJ {E:En} {nx:Nat} {m:T (Ct S)} {st st':St} (h:Inv Y G o0 ro E nx m st) (x:Option Nat) (hd:V) (ct:Ct S) (hs:Step o0 E m st (E++[(x,hd)]) (m.upd nx (some ct)) st' [] []) (hx:∀id,x=some id->st.nx<=id)
  (hk:∀id,id<st.nx->st'.hp.get id=st.hp.get id)
  (hent:Ent Y ro (Dat Y (ji o0 (E++[(x,hd)]) (m.upd nx (some ct))) st') (DatA Y (ji o0 (E++[(x,hd)]) (m.upd nx (some ct))) st') (E++[(x,hd)]) st' nx ct):Inv Y G o0 ro (E++[(x,hd)]) (nx+1) (m.upd nx (some ct)) st':=by
 refine ⟨by simp [h.len],Yb h.ro hs.nx,?_,?_,λid ho=>⟨(h.out id ho).1,xi (h.out id ho).2 hs.nx⟩,zb1 h hs,?_⟩
 ·intro r c e;rw [Tgu] at e;by_cases q:r=nx
  ·omega
  ·rw [ga q] at e;exact Nat.lt_succ_of_lt (h.lt r c e)
 ·intro r c e;rw [Tgu] at e;by_cases q:r=nx
  ·subst q;rw [ya rfl] at e;cases e;exact hent
  ·rw [ga q] at e;have:=Ent.keep hs (h.ent r c e) (Zdv (by rw [h.len];exact h.lt r c e)) (λid _ _ hid=>hk id hid)
   rwa [zby] at this
 ·intro r r' c c' id y y' e1 e2 e3 e4;have old:∀r c y,r≠nx->(m.upd nx (some ct)).get r=some c->(E++[(x,hd)])[r]?=some (some id,y)->m.get r=some c/\E[r]?=some (some id,y)/\id<st.nx:=by
   intro r c y q e1 e3;rw [Tgu,ga q] at e1;rw [Zdv (by rw [h.len];exact h.lt r c e1)] at e3
   refine ⟨e1,e3,?_⟩;have he:=h.ent r c e1;cases c with
   | cells us=>obtain ⟨id',_,b,vs,q1,q2,q3,_⟩:=he;rw [e3] at q1;cases q1;exact q3
   | buf k xs=>
    rcases he with ⟨q1,_⟩|⟨id',cap,op,b,q1,q2,q3,_⟩
    ·rw [e3] at q1;cases q1
    ·rw [e3] at q1;cases q1;exact q3
   | row k xs=>obtain ⟨id',b,q1,q2,q3,_⟩:=he;rw [e3] at q1;cases q1;exact q3
  have new:∀r y,r=nx->(E++[(x,hd)])[r]?=some (some id,y)->st.nx<=id:=by
   intro r y q e3;subst q;rw [<-h.len,push_self] at e3;cases e3;exact hx id rfl
  by_cases q:r=nx
  ·by_cases q':r'=nx
   ·omega
   ·have:=new r y q e3;have:=(old r' c' y' q' e2 e4).2.2;omega
  ·by_cases q':r'=nx
   ·have:=new r' y' q' e4;have:=(old r c y q e1 e3).2.2;omega
   ·obtain ⟨a1,a2,_⟩:=old r c y q e1 e3;obtain ⟨b1,b2,_⟩:=old r' c' y' q' e2 e4;exact h.inj r r' c c' id y y' a1 b1 a2 b2
theorem Zf4 {E:En} {nx:Nat} {m:T (Ct S)} {st:St} (h:Inv Y G o0 ro E nx m st) {r:Nat} {c:Ct S} {id:Nat} {x:V} (e1:m.get r=some c) (e2:E[r]?=some (some id,x)):ro<=id/\id<st.nx:=by
 have he:=h.ent r c e1;cases c with
 | cells us=>obtain ⟨id',_,b,vs,q1,q2,q3,_⟩:=he;rw [e2] at q1;cases q1;exact ⟨q2,q3⟩
 | buf k xs=>
  rcases he with ⟨q1,_⟩|⟨id',cap,op,b,q1,q2,q3,_⟩
  ·rw [e2] at q1;cases q1
  ·rw [e2] at q1;cases q1;exact ⟨q2,q3⟩
 | row k xs=>obtain ⟨id',b,q1,q2,q3,_⟩:=he;rw [e2] at q1;cases q1;exact ⟨q2,q3⟩
theorem jez {E:En} {nx:Nat} {m m0:T (Ct S)} {st st':St} (h:Inv Y G o0 ro E nx m st) {r:Nat} {ct0:Ct S} (ct:Ct S) (hr:m.get r=some ct0) (ks:List Nat) (hks:ks=[r]\/ks=[]) (x:Option Nat) (hd:V) (hx:∀id,x=some id->(∃y,E[r]?=some (some id,y))\/st.nx<=id) (hsame:ks=[]->E.set r (x,hd)=E)
  (hm0:∀k c,m0.get k=some c->∃c',m.get k=some c') (hn:st.nx<=st'.nx) (hk:∀id,id<st.nx->(∀y,E[r]?≠some (some id,y))->st'.hp.get id=st.hp.get id) (hv:∀j,j<=st.nx->j<=st.ver->(∀id y,E[r]?=some (some id,y)->j<=id)->j<=st'.ver) :
  Step o0 E m st (E.set r (x,hd)) (m0.upd r (some ct)) st' ks [r]:=by
 have hrl:r<E.length:=by rw [h.len];exact h.lt r _ hr
 have m2:mem [r] r=true:=by simp [mem]
 have back:∀(k id:Nat) y,(E.set r (x,hd))[k]?=some (some id,y)->(∃y',E[k]?=some (some id,y'))\/st.nx<=id:=by
  intro k id y e;by_cases q:k=r
  ·subst q;rw [List.getElem?_set_self hrl] at e;cases e;exact hx id rfl
  ·rw [List.getElem?_set_ne (Ne.symm q)] at e;exact .inl ⟨y,e⟩
 refine ⟨by simp,?_,hn,?_,?_,?_⟩
 ·intro k hkl hm;by_cases q:k=r
  ·rcases hks with rfl|rfl
   ·subst q;rw [m2] at hm;cases hm
   ·rw [hsame rfl]
  ·rw [List.getElem?_set_ne (Ne.symm q)]
 ·exact λid hid hw=>hk id hid λy e=>hw ⟨r,ct0,y,hr,e⟩
 ·rintro id ⟨k,c,y,e1,e2⟩;rcases back k id y e2 with ⟨y',q⟩|q
  ·left;by_cases z:k=r
   ·subst z;exact ⟨k,ct0,y',hr,q⟩
   ·rw [Tgu,ga z] at e1;obtain ⟨c',e3⟩:=hm0 k c e1;exact ⟨k,c',y',e3,q⟩
  ·exact .inr q
 ·exact λj h1 h2 hw=>hw.elim (λq=>by cases q) λhw=>hv j h1 h2 λid y e=>hw id ⟨r,ct0,y,hr,e⟩
theorem zgN {E:En} {nx:Nat} {m:T (Ct S)} {st st':St} (h:Inv Y G o0 ro E nx m st) {r:Nat} {ct0:Ct S} (ct:Ct S) (hr:m.get r=some ct0) (ks:List Nat) (x:Option Nat) (hd:V) (hx:∀id,x=some id->(∃y,E[r]?=some (some id,y))\/st.nx<=id)
  (hs:Step o0 E m st (E.set r (x,hd)) ((Jey (za3 ks) m).upd r (some ct)) st' ks [r])
  (hk:∀id,id<st.nx->(∀y,E[r]?≠some (some id,y))->st'.hp.get id=st.hp.get id)
  (hent:Ent Y ro (Dat Y (ji o0 (E.set r (x,hd)) ((Jey (za3 ks) m).upd r (some ct))) st') (DatA Y (ji o0 (E.set r (x,hd)) ((Jey (za3 ks) m).upd r (some ct))) st') (E.set r (x,hd)) st' r ct) :
  Inv Y G o0 ro (E.set r (x,hd)) nx ((Jey (za3 ks) m).upd r (some ct)) st':=by
 have hrl:r<E.length:=by rw [h.len];exact h.lt r _ hr
 have old:∀k c,k≠r->((Jey (za3 ks) m).upd r (some ct)).get k=some c->∃c0,m.get k=some c0/\c=za3 ks c0:=by
  intro k c q e;rw [Tgu,ga q,jcg] at e;cases z:m.get k with
  | none=>rw [z] at e;cases e
  | some c0=>rw [z] at e;cases e;exact ⟨c0,rfl,rfl⟩
 have oldE:∀k,k≠r->(E.set r (x,hd))[k]?=E[k]?:=λk q=>List.getElem?_set_ne (Ne.symm q)
 refine ⟨by simp [h.len],Yb h.ro hs.nx,?_,?_,λid ho=>⟨(h.out id ho).1,xi (h.out id ho).2 hs.nx⟩,zb1 h hs,?_⟩
 ·intro k c e;by_cases q:k=r
  ·subst q;exact h.lt k _ hr
  ·obtain ⟨c0,e0,_⟩:=old k c q e;exact h.lt k c0 e0
 ·intro k c e;by_cases q:k=r
  ·subst q;rw [Tgu,ya rfl] at e;cases e;exact hent
  ·obtain ⟨c0,e0,rfl⟩:=old k c q e;refine Ent.keep hs (h.ent k c0 e0) (oldE k q) (λid y e1 hid=>hk id hid λy' e2=>?_)
   exact q (h.inj k r c0 ct0 id y y' e0 hr e1 e2)
 ·intro k k' c c' id y y' e1 e2 e3 e4;by_cases q:k=r
  ·by_cases q':k'=r
   ·omega
   ·exfalso;subst q;rw [List.getElem?_set_self hrl] at e3;cases e3;rw [oldE k' q'] at e4;obtain ⟨c0,e0,_⟩:=old k' c' q' e2;rcases hx id rfl with ⟨z,hz⟩|hz
    ·exact q' (h.inj k' k c0 ct0 id y' z e0 hr e4 hz)
    ·have:=(Zf4 h e0 e4).2;omega
  ·by_cases q':k'=r
   ·exfalso;subst q';rw [List.getElem?_set_self hrl] at e4;cases e4;rw [oldE k q] at e3;obtain ⟨c0,e0,_⟩:=old k c q e1;rcases hx id rfl with ⟨z,hz⟩|hz
    ·exact q (h.inj k k' c0 ct0 id y z e0 hr e3 hz)
    ·have:=(Zf4 h e0 e3).2;omega
   ·obtain ⟨c0,a0,_⟩:=old k c q e1;obtain ⟨c1,b0,_⟩:=old k' c' q' e2;rw [oldE k q] at e3;rw [oldE k' q'] at e4;exact h.inj k k' c0 c1 id y y' a0 b0 e3 e4
end
end Go.Sx
namespace Go.Sx
open Go.Vm
section
variable {S:Sg} (Y:Sy S) (P:Program) (G:Gl)
def sAt (t:TypeId) (us:List (U S)) (off:Nat):Option (U S):=match P.info? t,P.underlying t with
 | some ti,some _=>cond (jbT P t) (cond (Nat.ble (off+ti.size) us.length) (some (.a ((us.drop off).take ti.size))) none) (us[off]?)
 | _,_=>none
def jgN (t:TypeId):Bool:=match P.underlying t with
 | some (.int _)=>true
 | _=>false
def sLen (m:T (Ct S)) (t:TypeId) (x:U S) (k:U S->Prop):Prop:=match P.underlying t,x with
 | some .string,.s l=>k (.i .i64 (l.length:Int))
 | some (.slice _),.sn=>k (.i .i64 0)
 | some (.slice _),.l _ xs=>k (.i .i64 (xs.length:Int))
 | some (.slice _),.o r=>match m.get r with
  | some (.buf _ xs)=>k (.i .i64 (xs.length:Int))
  | _=>False
 | some (.array n _),_=>k (.i .i64 (n:Int))
 | _,_=>False
def ZcY (m:T (Ct S)) (t:TypeId) (x:U S) (i:Int) (k:U S->Prop):Prop:=match P.underlying t with
 | some (.slice e)=>match zaa P e with
  | some n=>match x with
   | .l c xs=>cond (Nat.beq n (Y.wid c)) ((0<=i/\i<(xs.length:Int))/\k (.pd c xs i.toNat 0)) False
   | .o r=>match m.get r with
    | some (.buf c xs)=>cond (Nat.beq n (Y.wid c)) ((0<=i/\i<(xs.length:Int))/\k (.pe r (Y.wid c) i.toNat 0)) False
    | _=>False
   | _=>False
  | none=>False
 | some (.array len e)=>match zaa P e with
  | some n=>match x with
   | .p r off=>(0<=i/\i<(len:Int))/\k (.p r (off+i.toNat*n))
   | .g g off=>(0<=i/\i<(len:Int))/\k (.g g (off+i.toNat*n))
   | .pe r w j off=>(0<=i/\i<(len:Int))/\k (.pe r w j (off+i.toNat*n))
   | .pd c xs j off=>(0<=i/\i<(len:Int))/\k (.pd c xs j (off+i.toNat*n))
   | _=>False
  | none=>False
 | _=>False
def JcY (t:TypeId) (x:U S) (f:Nat) (k:U S->Prop):Prop:=match P.underlying t with
 | some (.struct fs)=>match fs[f]? with
  | some fd=>match zaa P fd.type with
   | some n=>cond (Nat.blt 0 n) (match x with
    | .p r off=>k (.p r (off+fd.offset))
    | .g g off=>k (.g g (off+fd.offset))
    | .pe r w i off=>k (.pe r w i (off+fd.offset))
    | .pd c xs i off=>k (.pd c xs i (off+fd.offset))
    | _=>False) False
   | none=>False
  | none=>False
 | _=>False
def Zgo (m:T (Ct S)) (t:TypeId) (x:U S) (k:U S->Prop):Prop:=match x with
 | .p r off=>match m.get r with
  | some (.cells us)=>onO (sAt P t us off) k
  | _=>False
 | .pe r w i off=>match m.get r with
  | some (.buf c xs)=>cond (Nat.beq w (Y.wid c)) (i<xs.length/\onO (sAt P t (Y.cells c (xs.getD i (Y.dflt c))) off) k) False
  | _=>False
 | .pd c xs i off=>onO (sAt P t (Y.cells c (xs.getD i (Y.dflt c))) off) k
 | .g g off=>match G g with
  | some (kd,l)=>cond (jgN P t) (off<l.length/\k (.i kd (l.getD off 0))) False
  | none=>False
 | _=>False
def jjz (x:U S) (k:U S->Prop):Prop:=match x with
 | .p r off=>k (.p r off)
 | .g r off=>k (.g r off)
 | .pe r w i off=>k (.pe r w i off)
 | .pd c xs i off=>k (.pd c xs i off)
 | _=>False
def sSl (m:T (Ct S)) (t:TypeId) (x:U S) (lo hi:Option Int) (k:U S->Prop):Prop:=match x with
 | .o r=>match P.underlying t with
  | some (.slice e)=>match zaa P e,m.get r,lo,hi with
   | some n,some (.buf c xs),some a,none=>cond (Nat.beq n (Y.wid c)) ((0<=a/\a<=(xs.length:Int))/\k (.v r (Y.wid c) a.toNat)) False
   | some n,some (.buf c xs),none,some a=>cond (Nat.beq n (Y.wid c)) ((0<=a/\a<=(xs.length:Int))/\k (.vh r a.toNat)) False
   | _,_,_,_=>False
  | _=>False
 | .l c xs=>match P.underlying t with
  | some (.slice e)=>match zaa P e with
   | some n=>cond (Nat.beq n (Y.wid c)) (match lo,hi with
    | none,none=>k (.l c xs)
    | some a,none=>(0<=a/\a<=(xs.length:Int))/\k (.l c (xs.drop a.toNat))
    | none,some b=>(0<=b/\b<=(xs.length:Int))/\k (.l c (xs.take b.toNat))
    | some a,some b=>(0<=a/\a<=b/\b<=(xs.length:Int))/\k (.l c ((xs.drop a.toNat).take (b.toNat-a.toNat)))) False
   | none=>False
  | _=>False
 | x=>JgK P t x lo hi k
def sQ (fr:T (U S)) (m:T (Ct S)) (o:Op) (k:U S->Prop):Prop:=match o with
 | .move x=>jbG fr x k
 | .assign x=>jbG fr x k
 | .pick c a b=>jbG fr c λu=>match u with
  | .kb true=>jbG fr a k
  | .kb false=>jbG fr b k
  | .b x=>(x=true->jbG fr a k)/\(x=false->jbG fr b k)
  | _=>False
 | .binOp op t x y _=>jbG fr x λu=>jbG fr y λw=>zje P op t u w k
 | .unOp op _ x=>jbG fr x λu=>sUn op u k
 | .field t x f=>jbG fr x λu=>jgK P t u f k
 | .index t x i=>jbG fr x λu=>jbG fr i λw=>match w with
  | .i _ n=>ZgK P t u n k
  | _=>False
 | .indexAddr t x i=>jbG fr x λu=>jbG fr i λw=>match w with
  | .i _ n=>ZcY Y P m t u n k
  | _=>False
 | .fieldAddr t x f=>jbG fr x λu=>JcY P t u f k
 | .load t x=>jbG fr x λu=>Zgo Y P G m t u k
 | .build t ps=>jf3 fr ps.toList λus=>zgK P t us k
 | .slice t x lo hi mx=>match mx with
  | none=>jbG fr x λu=>Zja fr lo λa=>Zja fr hi λb=>sSl Y P m t u a b k
  | some _=>False
 | .nilCheck x=>jbG fr x λu=>jjz u k
 | .makeFunc fn first caps=>match fn,first.toList with
  | .func f,[]=>Zfx fr caps.toList λus=>k (.f f us)
  | _,_=>False
 | .extract x i=>jbG fr x λu=>match u with
  | .t us=>onO us[i]? k
  | _=>False
 | .call c=>match c.callee with
  | .builtin .len=>match c.args.toList,c.argTypes.toList with
   | [x],[t]=>jbG fr x λu=>sLen P m t u k
   | _,_=>False
  | .builtin .min=>Zfx fr c.args.toList λus=>match us with
   | u::r=>zgL true u r k
   | []=>False
  | .builtin .max=>Zfx fr c.args.toList λus=>match us with
   | u::r=>zgL false u r k
   | []=>False
  | _=>False
 | _=>False
variable {Y P G}
variable {ro:Nat} {o0:Nat->Prop} {E:En} {nx:Nat} {m:T (Ct S)} {st:St} {fr:T (U S)} {frV:T V}
theorem ZgN {D:DD S} {t:TypeId} {us:List (U S)} {vs:List V} {off o id:Nat} {u:U S} {b:Blk} (h:sAt P t us off=some u) (hr:RelL Y D E us vs) (hb:st.hp.get id=some b) (hv:∀j,j<us.length->b.get (o+j)=vs[j]?) :
  ∃v,Zau P st t id (o+off)=some v/\RelV Y D E u v:=by
 unfold sAt at h;unfold Zau;cases h1:P.info? t with
 | none=>simp [h1] at h
 | some ti=>
  cases h2:P.underlying t with
  | none=>simp [h1,h2] at h
  | some d=>
   simp only [h1,h2,hb] at h |-;cases hA:jbT P t with
   | true=>
    rw [hA] at h;simp only [Qa] at h |-;cases hl:Nat.ble (off+ti.size) us.length with
    | false=>rw [hl] at h;cases h
    | true=>
     rw [hl] at h;cases h;rw [xd] at hl;have hlen:((vs.drop off).take ti.size).length=ti.size:=by rw [Qi,Hb,hr.length];omega
     have:=Blk.row_ok (b:=b) ((vs.drop off).take ti.size) (o+off) (λj hj=>by
      rw [hlen] at hj;rw [Qf,hv (off+j) (by omega),List.getElem?_take,ya hj,List.getElem?_drop])
     rw [hlen] at this;exact ⟨.a ((vs.drop off).take ti.size),by rw [this],⟨_,rfl,(hr.drop off).take ti.size⟩⟩
   | false=>
    rw [hA] at h;simp only [Yc] at h |-;obtain ⟨v,e1,e2⟩:=hr.get h;exact ⟨v,by rw [hv off (List.getElem?_eq_some_iff.1 h).1];exact e1,e2⟩
theorem jid (hI:Inv Y G o0 ro E nx m st) {t:TypeId} {x:U S} {v:V} {k:U S->Prop} (h:sLen P m t x k) (hx:RelV Y (Dat Y (ji o0 E m) st) E x v):∃u w,zbv P t v=some w/\RelV Y (Dat Y (ji o0 E m) st) E u w/\k u:=by
 unfold sLen at h;split at h
 ·rename_i l hu;simp only [RelV] at hx;subst hx;exact ⟨.i .i64 (l.length:Int),.i .i64 (.ofNat l.length),by unfold zbv V.str;simp only [hu],rfl,h⟩
 ·rename_i hu;simp only [RelV] at hx;subst hx;exact ⟨.i .i64 0,.i .i64 0,by unfold zbv;simp only [hu],rfl,h⟩
 ·rename_i c xs hu;simp only [RelV] at hx;refine ⟨.i .i64 (xs.length:Int),.i .i64 (.ofNat xs.length),?_,rfl,h⟩;cases hx <;> (unfold zbv;simp only [hu];first|rfl|skip)
 ·rename_i r hu;split at h
  ·rename_i c xs hr;simp only [RelV] at hx;obtain ⟨y,e1,_⟩:=hx;refine ⟨.i .i64 (xs.length:Int),.i .i64 (.ofNat xs.length),?_,rfl,h⟩;rcases hI.ent r _ hr with ⟨q1,q2⟩|⟨id,cap,op,b,q1,_⟩
   ·rw [e1] at q1;cases q1;subst q2;unfold zbv;simp only [hu];rfl
   ·rw [e1] at q1;cases q1;unfold zbv;simp only [hu]
  ·exact h.elim
 ·rename_i _ n _ hu;exact ⟨.i .i64 (n:Int),.i .i64 (.ofNat n),by unfold zbv;simp only [hu],rfl,h⟩
 ·exact h.elim
theorem Dat.part {own:Nat->Prop} {c:S.Cd} {xs:List (S.Den c)} {v:V} (hd:Dat Y own st c xs v) {t e:TypeId} (hu:P.underlying t=some (.slice e)) (hn:zaa P e=some (Y.wid c)) {a b:Nat} (hab:a<=b) (hb:b<=xs.length) {lw hw:Option V}
  (hlo:∀y,a<=y->jaa lw y 0=some a) (hhi:∀y,b<=y->jaa hw y xs.length=some b):∃w,jao P t v lw hw none=some w/\Dat Y own st c ((xs.drop a).take (b-a)) w:=by
 cases hd with
 | nil=>
  have hb0:b=0:=by simpa using hb
  subst hb0;have ha0:a=0:=by omega
  subst ha0;have h1:zB 0 0 lw hw none=some (0,0,0):=by
   have e1:=hhi 0 (Ra _);have e2:=hlo 0 (Ra _);simp only [Hd] at e1;unfold zB;rw [show jaa none 0 0=some 0 from rfl]
   simp only [e1,e2]
  refine ⟨.sn,?_,by simpa using Dat.nil c⟩
  unfold jao;simp only [hu,hn];cases hw <;> simp only [h1]
 | ne _ id o o2=>
  have hb0:b=0:=by simpa using hb
  subst hb0;have ha0:a=0:=by omega
  subst ha0;have h1:zB 0 0 lw hw none=some (0,0,0):=by
   have e1:=hhi 0 (Ra _);have e2:=hlo 0 (Ra _);simp only [Hd] at e1;unfold zB;rw [show jaa none 0 0=some 0 from rfl]
   simp only [e1,e2]
  refine ⟨.se id o o2,?_,by simpa using Dat.ne c id o o2⟩
  unfold jao;simp only [hu,hn,h1]
 | ze _ a0=>
  have hb0:b=0:=by simpa using hb
  subst hb0;have ha0:a=0:=by omega
  subst ha0;have h1:zB 0 0 lw hw none=some (0,0,0):=by
   have e1:=hhi 0 (Ra _);have e2:=hlo 0 (Ra _);simp only [Hd] at e1;unfold zB;rw [show jaa none 0 0=some 0 from rfl]
   simp only [e1,e2]
  refine ⟨.ze a0,?_,by simpa using Dat.ze c a0⟩
  unfold jao;simp only [hu,hn,h1]
 | mk vs h1 h2 h3 h4 h5 h6=>
  rename_i id off cap op blk;have e0:zB xs.length cap lw hw none=some (a,b,cap):=by
   have e1:=hhi cap (by omega)
   have e2:=hlo b hab;unfold zB;rw [show jaa none cap cap=some cap from rfl]
   simp only [e1,e2]
  have hlen:((xs.drop a).take (b-a)).length=b-a:=by rw [Qi,Hb];omega
  have hget:∀(i:Nat) x,((xs.drop a).take (b-a))[i]?=some x->xs[a+i]?=some x:=by
   intro i x hx;rw [List.getElem?_take] at hx;split at hx
   ·rw [List.getElem?_drop] at hx;exact hx
   ·cases hx
  have fin:∀off' cap' op',(b-a=0\/off'=off+a*Y.wid c)->b-a<=cap'->Dat Y own st c ((xs.drop a).take (b-a)) (.sl id off' (b-a) cap' op'):=by
   intro off' cap' op' ho hc;have:=Dat.mk (Y:=Y) (own:=own) (st:=st) (c:=c) (xs:=(xs.drop a).take (b-a)) (id:=id) (off:=off') (cap:=cap') (op:=op') (b:=blk) (λi=>vs (a+i)) h1 h2 h3 (λi x hx=>by
     rcases ho with ho|rfl
     ·exfalso;have:=(List.getElem?_eq_some_iff.1 hx).1;omega
     ·rw [Qf,<-Yl];exact h4 (a+i) x (hget i x hx)) (λi x hx j u v hu hv=>h5 (a+i) x (hget i x hx) j u v hu hv) (by omega)
   rw [hlen] at this;exact this
  have e3:jao P t (.sl id off xs.length cap op) lw hw none=cond (op&&true) (cond (Nat.blt a cap||Nat.beq a 0) (some (.sl id (off+a*Y.wid c) (b-a) (cap-a) true)) (some (.se id off (off+a*Y.wid c)))) (some (.sl id (cond (Nat.beq cap a) off (off+a*Y.wid c)) (b-a) (cap-a) false)):=by
   unfold jao;simp only [hu,hn];cases hw <;> simp only [e0] <;> rfl
  rw [e3];cases op with
  | true=>
   simp only [Yg,Qa];cases hc:(Nat.blt a cap||Nat.beq a 0) with
   | true=>exact ⟨_,rfl,fin _ _ _ (.inr rfl) (by omega)⟩
   | false=>
    simp only [Hl] at hc;have:¬a<cap:=λq=>by rw [<-ge,hc.1] at q;cases q
    refine ⟨_,rfl,?_⟩;have:(xs.drop a).take (b-a)=[]:=Rk.1 (by omega)
    rw [this];exact .ne _ _ _ _
  | false=>
   simp only [yj,Yc];cases hc:Nat.beq cap a with
   | true=>
    rw [Rc] at hc;exact ⟨_,rfl,fin _ _ _ (.inl (by omega)) (by omega)⟩
   | false=>exact ⟨_,rfl,fin _ _ _ (.inr rfl) (by omega)⟩
theorem ziO (hI:Inv Y G o0 ro E nx m st) {t:TypeId} {x:U S} {v:V} {lo hi:Option Int} {lw hw:Option V} {k:U S->Prop} (h:sSl Y P m t x lo hi k) (hx:RelV Y (Dat Y (ji o0 E m) st) E x v) (hl:(lo=none/\lw=none)\/∃kd n,lo=some n/\lw=some (.i kd n)) (hh:(hi=none/\hw=none)\/∃kd n,hi=some n/\hw=some (.i kd n)) :
  ∃u w,jao P t v lw hw none=some w/\RelV Y (Dat Y (ji o0 E m) st) E u w/\k u:=by
 unfold sSl at h;split at h
 ·rename_i r;simp only [RelV] at hx;obtain ⟨x,e1,_⟩:=hx;split at h
  ·rename_i e hu;split at h
   ·rename_i n c xs a hn hr;cases hw':Nat.beq n (Y.wid c) with
    | false=>rw [hw'] at h;exact h.elim
    | true=>
     rw [hw'] at h;rw [Rc] at hw';subst hw';simp only [Qa] at h;obtain ⟨⟨g1,g2⟩,hk⟩:=h;obtain ⟨q,_⟩|⟨kd,n,q,rfl⟩:=hl
     ·cases q
     cases q;obtain ⟨_,rfl⟩|⟨_,_,q,_⟩:=hh
     ·rcases hI.ent r _ hr with ⟨q1,q2⟩|⟨id,cap,op,b,q1,q2,q3,q4,q5,q6,q7,q8,q9⟩
      ·rw [e1] at q1;cases q1;subst q2;have ha:a=0:=by simp at g2;omega
       subst ha;refine ⟨.v r (Y.wid c) 0,.sn,?_,⟨_,_,e1,.inl ⟨rfl,rfl⟩⟩,hk⟩;unfold jao;simp only [hu,hn];rfl
      ·rw [e1] at q1;cases q1;have hb:zB xs.length cap (some (.i kd a)) none none=some (a.toNat,xs.length,cap):=by
        unfold zB;have z1:jaa (some (.i kd a)) xs.length 0=some a.toNat:=Zbp (kd:=kd) ⟨g1,g2⟩;rw [show jaa none cap cap=some cap from rfl]
        dsimp only;rw [show jaa none cap xs.length=some xs.length from rfl]
        dsimp only;rw [z1]
       cases op with
       | true=>
        obtain ⟨_,rfl⟩:=q8.1 rfl;cases hc:(Nat.blt a.toNat xs.length||Nat.beq a.toNat 0) with
        | true=>
         refine ⟨.v r (Y.wid c) a.toNat,_,by unfold jao;simp only [hu,hn,hb,hc,Option.isNone_none,Yg,Qa];rfl,⟨_,_,e1,.inr ⟨id,_,_,_,rfl,by omega,.inl ⟨_,_,_,λ_=>by rw [dd],rfl⟩⟩⟩,hk⟩
        | false=>
         have hlt:¬a.toNat<xs.length:=λq=>by
          rw [Hl] at hc;rw [<-ge,hc.1] at q;cases q
         exact ⟨.v r (Y.wid c) a.toNat,_,by unfold jao;simp only [hu,hn,hb,hc,Option.isNone_none,Yg,Qa,Yc];rfl,⟨_,_,e1,.inr ⟨id,_,_,_,rfl,by omega,.inr ⟨by omega,_,_,rfl⟩⟩⟩,hk⟩
       | false=>
        refine ⟨.v r (Y.wid c) a.toNat,_,by unfold jao;simp only [hu,hn,hb,yj,Yc];rfl,⟨_,_,e1,.inr ⟨id,_,_,_,rfl,by omega,.inl ⟨_,_,_,λq=>?_,rfl⟩⟩⟩,hk⟩
        cases hc:Nat.beq cap a.toNat with
        | true=>rw [Rc] at hc;omega
        | false=>rw [Yc,dd]
     ·cases q
   ·rename_i n c xs a hn hr;cases hw':Nat.beq n (Y.wid c) with
    | false=>rw [hw'] at h;exact h.elim
    | true=>
     rw [hw'] at h;simp only [Qa] at h;obtain ⟨⟨g1,g2⟩,hk⟩:=h;obtain ⟨_,rfl⟩|⟨_,_,q,_⟩:=hl
     ·obtain ⟨q,_⟩|⟨kd,n,q,rfl⟩:=hh
      ·cases q
      cases q;rcases hI.ent r _ hr with ⟨q1,q2⟩|⟨id,cap,op,b,q1,q2,q3,q4,q5,q6,q7,q8,q9⟩
      ·rw [e1] at q1;cases q1;subst q2;have ha:a=0:=by simp at g2;omega
       subst ha;refine ⟨.vh r 0,.sn,?_,⟨_,_,e1,.inl ⟨rfl,rfl,rfl⟩⟩,hk⟩;unfold jao;simp only [hu,hn];rfl
      ·rw [e1] at q1;cases q1;have hb:zB xs.length cap none (some (.i kd a)) none=some (0,a.toNat,cap):=by
        unfold zB;have z1:jaa (some (.i kd a)) cap xs.length=some a.toNat:=Zbp (kd:=kd) ⟨g1,by omega⟩
        rw [show jaa none cap cap=some cap from rfl]
        dsimp only;rw [z1];rfl
       refine ⟨.vh r a.toNat,.sl id 0 a.toNat cap op,?_,⟨_,_,e1,.inr ⟨id,_,_,_,rfl,by omega,rfl⟩⟩,hk⟩
       unfold jao;simp only [hu,hn,hb];cases op with
       | true=>simp
       | false=>cases hc:Nat.beq cap 0 <;> simp [hc]
     ·cases q
   ·exact h.elim
  ·exact h.elim
 ·rename_i c xs;simp only [RelV] at hx;split at h
  ·rename_i e hu;split at h
   ·rename_i n hn;cases hw':Nat.beq n (Y.wid c) with
    | false=>rw [hw'] at h;exact h.elim
    | true=>
     rw [hw'] at h;rw [Rc] at hw';subst hw';simp only [Qa] at h;split at h
     ·obtain ⟨_,rfl⟩|⟨_,_,q,_⟩:=hl
      ·obtain ⟨_,rfl⟩|⟨_,_,q,_⟩:=hh
       ·obtain ⟨w,g1,g2⟩:=Dat.part hx hu hn (a:=0) (b:=xs.length) (lw:=none) (hw:=none) (dg _) (Ra _) (λ_ _=>rfl) (λ_ _=>rfl)
        exact ⟨.l c _,w,g1,(by simpa using g2:Dat Y (ji o0 E m) st c xs w),h⟩
       ·cases q
      ·cases q
     ·rename_i a;obtain ⟨q,_⟩|⟨kd,n,q,rfl⟩:=hl
      ·cases q
      cases q;obtain ⟨_,rfl⟩|⟨_,_,q,_⟩:=hh
      ·obtain ⟨⟨h1,h2⟩,hk⟩:=h;obtain ⟨w,g1,g2⟩:=Dat.part hx hu hn (a:=a.toNat) (b:=xs.length) (lw:=some (.i kd a)) (hw:=none) (by omega) (Ra _) (λy hy=>Zbp (kd:=kd) ⟨h1,by omega⟩) (λ_ _=>rfl)
       rw [List.take_of_length_le (by rw [Hb];omega)] at g2
       exact ⟨.l c _,w,g1,g2,hk⟩
      ·cases q
     ·rename_i b;obtain ⟨_,rfl⟩|⟨_,_,q,_⟩:=hl
      ·obtain ⟨q,_⟩|⟨kd,n,q,rfl⟩:=hh
       ·cases q
       cases q;obtain ⟨⟨h1,h2⟩,hk⟩:=h;obtain ⟨w,g1,g2⟩:=Dat.part hx hu hn (a:=0) (b:=b.toNat) (lw:=none) (hw:=some (.i kd b)) (dg _) (by omega) (λ_ _=>rfl) (λy hy=>Zbp (kd:=kd) ⟨h1,by omega⟩)
       simp only [dh,Yn] at g2;exact ⟨.l c _,w,g1,g2,hk⟩
      ·cases q
     ·rename_i a b;obtain ⟨q,_⟩|⟨kd,n,q,rfl⟩:=hl
      ·cases q
      cases q;obtain ⟨q,_⟩|⟨kd',n',q,rfl⟩:=hh
      ·cases q
      cases q;obtain ⟨⟨h1,h2,h3⟩,hk⟩:=h;obtain ⟨w,g1,g2⟩:=Dat.part hx hu hn (a:=a.toNat) (b:=b.toNat) (lw:=some (.i kd a)) (hw:=some (.i kd' b)) (by omega) (by omega) (λy hy=>Zbp (kd:=kd) ⟨h1,by omega⟩) (λy hy=>Zbp (kd:=kd') ⟨by omega,by omega⟩)
      exact ⟨.l c _,w,g1,g2,hk⟩
   ·exact h.elim
  ·exact h.elim
 ·exact JgM h hx hl hh
theorem Zez (hI:Inv Y G o0 ro E nx m st) {t:TypeId} {x:U S} {v:V} {i:Int} {k:U S->Prop} (h:ZcY Y P m t x i k) (hx:RelV Y (Dat Y (ji o0 E m) st) E x v):∃u w,zZ P t v i=some w/\RelV Y (Dat Y (ji o0 E m) st) E u w/\k u:=by
 unfold ZcY at h;split at h
 ·rename_i e hu;split at h
  ·rename_i n hn;split at h
   ·rename_i c xs;simp only [RelV] at hx;cases hw:Nat.beq n (Y.wid c) with
    | false=>rw [hw] at h;exact h.elim
    | true=>
     rw [hw] at h;rw [Rc] at hw;subst hw;obtain ⟨hb,hk⟩:=h;have hx':=hx;cases hx with
     | nil=>exfalso;simp at hb;omega
     | ne=>exfalso;simp at hb;omega
     | ze=>exfalso;simp at hb;omega
     | mk vs h1 h2 h3 h4 h5 h6=>
      refine ⟨.pd c xs i.toNat 0,_,by unfold zZ;simp only [hu,hn,bnd hb,Qa];rfl,⟨toNat_lt hb,_,_,_,_,hx',?_⟩,hk⟩
      rw [Re]
   ·rename_i r;split at h
    ·rename_i c xs hr;cases hw:Nat.beq n (Y.wid c) with
     | false=>rw [hw] at h;exact h.elim
     | true=>
      rw [hw] at h;rw [Rc] at hw;subst hw;obtain ⟨hb,hk⟩:=h;simp only [RelV] at hx;obtain ⟨y,e1,_⟩:=hx;rcases hI.ent r _ hr with ⟨q1,q2⟩|⟨id,cap,op,b,q1,_⟩
      ·subst q2;exfalso;simp at hb;omega
      ·rw [e1] at q1;cases q1;refine ⟨.pe r (Y.wid c) i.toNat 0,_,by unfold zZ;simp only [hu,hn,bnd hb,Qa];rfl,⟨_,_,e1,?_⟩,hk⟩
       rw [Re,dd]
    ·exact h.elim
   ·exact h.elim
  ·exact h.elim
 ·rename_i len e hu;split at h
  ·rename_i n hn;split at h
   ·rename_i r off;simp only [RelV] at hx;obtain ⟨id,y,e1,rfl⟩:=hx;exact ⟨.p r (off+i.toNat*n),_,by unfold zZ;simp only [hu,hn,bnd h.1,Qa],⟨id,y,e1,rfl⟩,h.2⟩
   ·rename_i g off;simp only [RelV] at hx;obtain ⟨e1,rfl⟩:=hx;exact ⟨.g g (off+i.toNat*n),_,by unfold zZ;simp only [hu,hn,bnd h.1,Qa],⟨e1,rfl⟩,h.2⟩
   ·rename_i r w j off;simp only [RelV] at hx;obtain ⟨id,y,e1,rfl⟩:=hx;exact ⟨.pe r w j (off+i.toNat*n),_,by unfold zZ;simp only [hu,hn,bnd h.1,Qa],⟨id,y,e1,Ya (V.p id) (Qf ..)⟩,h.2⟩
   ·rename_i c xs j off;simp only [RelV] at hx;obtain ⟨e0,id,o,cap,op,e1,rfl⟩:=hx;exact ⟨.pd c xs j (off+i.toNat*n),_,by unfold zZ;simp only [hu,hn,bnd h.1,Qa],⟨e0,id,o,cap,op,e1,Ya (V.p id) (Qf ..)⟩,h.2⟩
   ·exact h.elim
  ·exact h.elim
 ·exact h.elim
theorem Jez {D:DD S} {t:TypeId} {x:U S} {v:V} {f:Nat} {k:U S->Prop} (h:JcY P t x f k) (hx:RelV Y D E x v):∃id off u w,v=.p id off/\jaF P t id off f=some w/\RelV Y D E u w/\k u:=by
 unfold JcY at h;split at h
 ·rename_i fs hu;split at h
  ·rename_i fd hf;split at h
   ·rename_i n hn;cases hz:Nat.blt 0 n with
    | false=>rw [hz] at h;exact h.elim
    | true=>
     rw [hz] at h;simp only [Qa] at h;have ev:∀id off,jaF P t id off f=some (.p id (off+fd.offset)):=λid off=>(by unfold jaF;simp only [hu,hf,hn,hz,Qa])
     split at h
     ·rename_i r off;simp only [RelV] at hx;obtain ⟨id,y,e1,rfl⟩:=hx;exact ⟨_,_,.p r (off+fd.offset),_,rfl,ev _ _,⟨id,y,e1,rfl⟩,h⟩
     ·rename_i g off;simp only [RelV] at hx;obtain ⟨e1,rfl⟩:=hx;exact ⟨_,_,.g g (off+fd.offset),_,rfl,ev _ _,⟨e1,rfl⟩,h⟩
     ·rename_i r w i off;simp only [RelV] at hx;obtain ⟨id,y,e1,rfl⟩:=hx;exact ⟨_,_,.pe r w i (off+fd.offset),_,rfl,ev _ _,⟨id,y,e1,Ya (V.p id) (Qf ..)⟩,h⟩
     ·rename_i c xs i off;simp only [RelV] at hx;obtain ⟨e0,id,o,cap,op,e1,rfl⟩:=hx;exact ⟨_,_,.pd c xs i (off+fd.offset),_,rfl,ev _ _,⟨e0,id,o,cap,op,e1,Ya (V.p id) (Qf ..)⟩,h⟩
     ·exact h.elim
   ·exact h.elim
  ·exact h.elim
 ·exact h.elim
theorem Jdv (hI:Inv Y G o0 ro E nx m st) {t:TypeId} {x:U S} {v:V} {k:U S->Prop} (h:Zgo Y P G m t x k) (hx:RelV Y (Dat Y (ji o0 E m) st) E x v):∃id off u w,v=.p id off/\Zau P st t id off=some w/\RelV Y (Dat Y (ji o0 E m) st) E u w/\k u:=by
 unfold Zgo at h;split at h
 ·rename_i r off;split at h
  ·rename_i us hr;obtain ⟨u,h1,h2⟩:=Ja2 h;simp only [RelV] at hx;obtain ⟨id,y,e1,rfl⟩:=hx;obtain ⟨id',y',b,vs,q1,q2,q3,q4,q5,q6,q7⟩:=hI.ent r _ hr;rw [e1] at q1;cases q1;obtain ⟨w,e2,e3⟩:=ZgN (st:=st) (id:=id) (o:=0) h1 q6 q4 (λj hj=>by rw [dd];exact q7 j hj)
   rw [dd] at e2;exact ⟨id,off,u,w,rfl,e2,e3,h2⟩
  ·exact h.elim
 ·rename_i r w i off;split at h
  ·rename_i c xs hr;cases hw:Nat.beq w (Y.wid c) with
   | false=>rw [hw] at h;exact h.elim
   | true=>
    rw [hw] at h;rw [Rc] at hw;subst hw;obtain ⟨hi,h⟩:=h;obtain ⟨u,h1,h2⟩:=Ja2 h;simp only [RelV] at hx;obtain ⟨id,y,e1,rfl⟩:=hx;rcases hI.ent r _ hr with ⟨q1,q2⟩|⟨id',cap,op,b,q1,q2,q3,q4,q5,q6,q7,q8,vs,q9,q10⟩
    ·subst q2;simp at hi
    ·rw [e1] at q1;cases q1;have hxi:xs[i]?=some (xs.getD i (Y.dflt c)):=by rw [List.getD_eq_getElem?_getD,List.getElem?_eq_getElem hi];rfl
     have hrow:=q9 i _ hxi;obtain ⟨s1,s2⟩:=Blk.row_spec _ _ _ hrow;have hrel:RelL Y (Dat Y (ji o0 E m) st) E (Y.cells c (xs.getD i (Y.dflt c))) (vs i):=RelL.of_get (by rw [s1,Y.len]) λj u v hu hv=>(q10 i _ hxi j u v hu hv).rel
     obtain ⟨z,e2,e3⟩:=ZgN (st:=st) (id:=id) (o:=i*Y.wid c) h1 hrel q4 (λj hj=>by
      rw [Y.len,<-s1] at hj;rw [s2 j _ (List.getElem?_eq_getElem hj),List.getElem?_eq_getElem hj])
     exact ⟨id,_,u,z,rfl,e2,e3,h2⟩
  ·exact h.elim
 ·rename_i c xs i off;obtain ⟨u,h1,h2⟩:=Ja2 h;simp only [RelV] at hx;obtain ⟨hi,id,o,cap,op,hd,rfl⟩:=hx;generalize hz:xs.length=zl at hd;cases hd with
  | mk vs q1 q2 q3 q4 q5 q6=>
   have hxi:xs[i]?=some (xs.getD i (Y.dflt c)):=by rw [List.getD_eq_getElem?_getD,List.getElem?_eq_getElem hi];rfl
   have hrow:=q4 i _ hxi;obtain ⟨s1,s2⟩:=Blk.row_spec _ _ _ hrow;have hrel:RelL Y (Dat Y (ji o0 E m) st) E (Y.cells c (xs.getD i (Y.dflt c))) (vs i):=RelL.of_get (by rw [s1,Y.len]) λj u v hu hv=>(q5 i _ hxi j u v hu hv).rel
   obtain ⟨z,e2,e3⟩:=ZgN (st:=st) (id:=id) (o:=o+i*Y.wid c) h1 hrel q3 (λj hj=>by
    rw [Y.len,<-s1] at hj;rw [s2 j _ (List.getElem?_eq_getElem hj),List.getElem?_eq_getElem hj])
   exact ⟨id,_,u,z,rfl,e2,e3,h2⟩
 ·rename_i g off;split at h
  ·rename_i kd l hg;cases ht:jgN P t with
   | false=>rw [ht] at h;exact h.elim
   | true=>
    rw [ht] at h;obtain ⟨ho,hk⟩:=h;simp only [RelV] at hx;obtain ⟨e1,rfl⟩:=hx;obtain ⟨_,b,q1,q2⟩:=hI.glob g kd l hg;unfold jgN at ht;split at ht
    ·rename_i kk hu;refine ⟨g,off,.i kd (l.getD off 0),.i kd (l.getD off 0),rfl,?_,rfl,hk⟩;unfold Zau jbT;cases hi:P.info? t with
     | none=>
      exfalso;simp [Program.underlying,hi] at hu
     | some ti=>simp only [q1,hu,Yc];exact q2 off ho
    ·cases ht
  ·exact h.elim
 ·exact h.elim
def Zjz (P:Program) (ro:Nat) (st:St) (frV:T V) (op:Op) (v:V):Prop:=Jak op=true/\∀call ver,vop P ro call frV ⟨st.nx,st.hp,ver⟩ op=some (some v,⟨st.nx,st.hp,ver⟩)
theorem Zid (hI:Inv Y G o0 ro E nx m st) {o:Op} {k:U S->Prop} (h:sQ Y P G fr m o k) (hf:RelF Y (Dat Y (ji o0 E m) st) E fr frV):∃u v,Zjz P ro st frV o v/\RelV Y (Dat Y (ji o0 E m) st) E u v/\k u:=by
 unfold sQ at h;split at h
 ·obtain ⟨u,v,h1,h2,h3⟩:=jB h hf;exact ⟨u,v,⟨rfl,λcall ver=>by simp only [vop,h1]⟩,h2,h3⟩
 ·obtain ⟨u,v,h1,h2,h3⟩:=jB h hf;exact ⟨u,v,⟨rfl,λcall ver=>by simp only [vop,h1]⟩,h2,h3⟩
 ·rename_i c a b;obtain ⟨u,v,h1,h2,h3⟩:=jB h hf;have way:∀x:Bool,v=.b x->(x=true->jbG fr a k)->(x=false->jbG fr b k)->∃u v,Zjz P ro st frV (.pick c a b) v/\RelV Y (Dat Y (ji o0 E m) st) E u v/\k u:=by
   intro x hv ha hb;subst hv;cases x with
   | true=>obtain ⟨u,v,g1,g2,g3⟩:=jB (ha rfl) hf;exact ⟨u,v,⟨rfl,λcall ver=>by simp only [vop,h1,Qa,g1]⟩,g2,g3⟩
   | false=>obtain ⟨u,v,g1,g2,g3⟩:=jB (hb rfl) hf;exact ⟨u,v,⟨rfl,λcall ver=>by simp only [vop,h1,Yc,g1]⟩,g2,g3⟩
  split at h3
  ·exact way true h2 (λ_=>h3) (λq=>by cases q)
  ·exact way false h2 (λq=>by cases q) (λ_=>h3)
  ·rename_i x;exact way x h2 h3.1 h3.2
  ·exact h3.elim
 ·obtain ⟨u,v,h1,h2,h3⟩:=jB h hf;obtain ⟨w,z,h4,h5,h6⟩:=jB h3 hf;obtain ⟨r,y,h7,h8,h9⟩:=zid h6 h2 h5;exact ⟨r,y,⟨rfl,λcall ver=>by simp only [vop,h1,h4,h7]⟩,h8,h9⟩
 ·obtain ⟨u,v,h1,h2,h3⟩:=jB h hf;obtain ⟨r,y,h7,h8,h9⟩:=JiN h3 h2;exact ⟨r,y,⟨rfl,λcall ver=>by simp only [vop,h1,h7]⟩,h8,h9⟩
 ·obtain ⟨u,v,h1,h2,h3⟩:=jB h hf;obtain ⟨r,y,h7,h8,h9⟩:=zgM h3 h2;exact ⟨r,y,⟨rfl,λcall ver=>by simp only [vop,h1,h7]⟩,h8,h9⟩
 ·obtain ⟨u,v,h1,h2,h3⟩:=jB h hf;obtain ⟨w,z,h4,h5,h6⟩:=jB h3 hf;split at h6
  ·simp only [RelV] at h5;subst h5;obtain ⟨r,y,h7,h8,h9⟩:=jgM h6 h2;exact ⟨r,y,⟨rfl,λcall ver=>by simp only [vop,h1,h4,h7]⟩,h8,h9⟩
  ·exact h6.elim
 ·obtain ⟨u,v,h1,h2,h3⟩:=jB h hf;obtain ⟨w,z,h4,h5,h6⟩:=jB h3 hf;split at h6
  ·simp only [RelV] at h5;subst h5;obtain ⟨r,y,h7,h8,h9⟩:=Zez hI h6 h2;exact ⟨r,y,⟨rfl,λcall ver=>by simp only [vop,h1,h4,h7]⟩,h8,h9⟩
  ·exact h6.elim
 ·obtain ⟨u,v,h1,h2,h3⟩:=jB h hf;obtain ⟨id,off,r,y,rfl,h7,h8,h9⟩:=Jez h3 h2;exact ⟨r,y,⟨rfl,λcall ver=>by simp only [vop,h1,h7]⟩,h8,h9⟩
 ·obtain ⟨u,v,h1,h2,h3⟩:=jB h hf;obtain ⟨id,off,r,y,rfl,h7,h8,h9⟩:=Jdv hI h3 h2;exact ⟨r,y,⟨rfl,λcall ver=>by simp only [vop,h1];rw [show Zau P ⟨st.nx,st.hp,ver⟩ _ id off=some y from h7]⟩,h8,h9⟩
 ·obtain ⟨us,vs,h1,h2,h3⟩:=jdI hf h;obtain ⟨r,y,h7,h8,h9⟩:=JgL h3 h2;exact ⟨r,y,⟨rfl,λcall ver=>by simp only [vop,h1,h7]⟩,h8,h9⟩
 ·split at h
  ·obtain ⟨u,v,h1,h2,h3⟩:=jB h hf;obtain ⟨a,aw,h4,h6⟩:=ZgM h3 hf;obtain ⟨b,bw,h7,h9⟩:=ZgM h4 hf;obtain ⟨r,y,g1,g2,g3⟩:=ziO hI (lw:=aw) (hw:=bw) h7 h2 (h6.imp (λq=>q.2) λ⟨_,kd,n,_,_,q⟩=>⟨kd,n,q⟩) (h9.imp (λq=>q.2) λ⟨_,kd,n,_,_,q⟩=>⟨kd,n,q⟩)
   refine ⟨r,y,⟨rfl,λcall ver=>?_⟩,g2,g3⟩
   obtain ⟨rfl,rfl,rfl⟩|⟨q,kd,n,rfl,e1,rfl,rfl⟩:=h6 <;> obtain ⟨rfl,rfl,rfl⟩|⟨q',kd',n',rfl,e2,rfl,rfl⟩:=h9
   ·simp only [vop,h1,g1]
   ·simp only [vop,h1,e2,yg,g1]
   ·simp only [vop,h1,e1,yg,g1]
   ·simp only [vop,h1,e1,e2,yg,g1]
  ·exact h.elim
 ·obtain ⟨u,v,h1,h2,h3⟩:=jB h hf;have ptr:∃id off,v=.p id off/\k u:=by
   unfold jjz at h3;split at h3
   ·simp only [RelV] at h2;obtain ⟨_,_,_,rfl⟩:=h2;exact ⟨_,_,rfl,h3⟩
   ·simp only [RelV] at h2;obtain ⟨_,rfl⟩:=h2;exact ⟨_,_,rfl,h3⟩
   ·simp only [RelV] at h2;obtain ⟨_,_,_,rfl⟩:=h2;exact ⟨_,_,rfl,h3⟩
   ·simp only [RelV] at h2;obtain ⟨_,_,_,_,_,_,rfl⟩:=h2;exact ⟨_,_,rfl,h3⟩
   ·exact h3.elim
  obtain ⟨id,off,rfl,hk⟩:=ptr;exact ⟨u,.p id off,⟨rfl,λcall ver=>by simp only [vop,h1]⟩,h2,hk⟩
 ·split at h
  ·rename_i he;obtain ⟨us,vs,h1,h2,h3⟩:=Zcg hf h;exact ⟨.f _ us,.f (.func _) [] vs,⟨rfl,λcall ver=>by simp only [vop,he,ja4,h1]⟩,⟨vs,rfl,h2⟩,h3⟩
  ·exact h.elim
 ·obtain ⟨u,v,h1,h2,h3⟩:=jB h hf;split at h3
  ·simp only [RelV] at h2;obtain ⟨vs,rfl,h2⟩:=h2;obtain ⟨r,h4,h5⟩:=Ja2 h3;obtain ⟨w,h6,h7⟩:=h2.get h4;exact ⟨r,w,⟨rfl,λcall ver=>by simp only [vop,h1,h6]⟩,h7,h5⟩
  ·exact h3.elim
 ·rename_i c;obtain ⟨callee,args,ts⟩:=c;dsimp only at h;split at h
  ·split at h
   ·rename_i x t ha ht;obtain ⟨u,v,h1,h2,h3⟩:=jB h hf;obtain ⟨r,w,h4,h5,h6⟩:=jid hI h3 h2;exact ⟨r,w,⟨rfl,λcall ver=>by simp only [vop,ha,ht,ja4,h1,ZZ,h4]⟩,h5,h6⟩
   ·exact h.elim
  ·obtain ⟨us,vs,h1,h2,h3⟩:=Zcg hf h;split at h3
   ·simp only [RelL] at h2;obtain ⟨v,r,rfl,h4,h5⟩:=h2;obtain ⟨z,w,h6,h7,h8⟩:=zez h3 h4 h5;exact ⟨z,w,⟨rfl,λcall ver=>by simp only [vop,h1,ZZ,h6]⟩,h7,h8⟩
   ·exact h3.elim
  ·obtain ⟨us,vs,h1,h2,h3⟩:=Zcg hf h;split at h3
   ·simp only [RelL] at h2;obtain ⟨v,r,rfl,h4,h5⟩:=h2;obtain ⟨z,w,h6,h7,h8⟩:=zez h3 h4 h5;exact ⟨z,w,⟨rfl,λcall ver=>by simp only [vop,h1,ZZ,h6]⟩,h7,h8⟩
   ·exact h3.elim
  ·exact h.elim
 ·exact h.elim
end
end Go.Sx
namespace Go.Sx
open Go.Vm
section
variable {S:Sg} (Y:Sy S) (P:Program)
def Jid:U S->Bool
 | .a _|.t _|.dead|.v _ _ _|.vh _ _=>false
 | _=>true
def zie (us:List (U S)):Bool:=match us with
 | []=>true
 | u::us=>Jid u&&zie us
def nrm:U S->U S
 | .kb x=>.b x
 | u=>u
def jie:List (U S)->List (U S)
 | []=>[]
 | u::us=>nrm u::jie us
def JgN (m:T (Ct S)) (c:S.Cd) (x:U S) (k:List (S.Den c)->Prop):Prop:=match x with
 | .s l=>Y.ofB c l k
 | .sn=>k []
 | .l c' ys=>Y.cast c' c ys k
 | .o r=>match m.get r with
  | some (.buf c' ys)=>Y.cast c' c ys k
  | some (.row c' ys)=>Y.cast c' c ys k
  | _=>False
 | _=>False
def jhv (c:S.Cd) (n:Nat) (us:List (U S)) (k:List (S.Den c)->Prop):Nat->Prop
 | 0=>k []
 | j+1=>Y.dec c (us.take n) λx=>jhv c n (us.drop n) (λxs=>k (x::xs)) j
def zcZ (z:List (U S)):Nat->List (U S)
 | 0=>[]
 | n+1=>z++zcZ z n
abbrev Kn (S:Sg):=Option (U S)->Nat->T (Ct S)->List Nat->List Nat->Prop
def Jja (nx:Nat) (m:T (Ct S)) (us:List (U S)) (k:Kn S):Prop:=cond (zie us) (k (some (.p nx 0)) (nx+1) (m.upd nx (some (.cells us))) [] []) False
def ZiI (nx:Nat) (m:T (Ct S)) (c:S.Cd) (xs:List (S.Den c)) (k:Kn S):Prop:=k (some (.o nx)) (nx+1) (m.upd nx (some (.buf c xs))) [] []
def zgO (nx:Nat) (m:T (Ct S)) (t:TypeId) (x v:U S) (k:Kn S):Prop:=match zaa P t with
 | some n=>cond (jbV v&&(zie (Jai v)&&Nat.beq (Jai v).length n)) (match x with
  | .p r off=>match m.get r with
   | some (.cells us)=>cond (Nat.ble (off+n) us.length) (k none nx (m.upd r (some (.cells (Zbx us off (Jai v))))) [] [r]) False
   | _=>False
  | .pe r w i off=>match m.get r with
   | some (.buf c xs)=>cond (Nat.beq w (Y.wid c)&&Nat.ble (off+n) (Y.wid c)) (i<xs.length/\Y.dec c (Zbx (Y.cells c (xs.getD i (Y.dflt c))) off (jie (Jai v))) λy=>k none nx (m.upd r (some (.buf c (xs.set i y)))) [] [r]) False
   | _=>False
  | _=>False) False
 | none=>False
def jcx (nx:Nat) (m:T (Ct S)) (t:TypeId) (len:Nat) (parts:List (Nat×U S)) (k:Kn S):Prop:=match P.underlying t with
 | some (.slice e)=>match zaa P e,Jfx (S:=S) P e,Y.code e with
  | some n,some z,some c=>cond (Nat.ble (len*n) 16777216&&Nat.blt 0 n&&Nat.beq (Jai z).length n&&jbV z&&Nat.beq n (Y.wid c))
   (onO (Zeb (λi=>some (i*n,n)) (zcZ (Jai z) len) parts) λus=>jhv Y c n (jie us) (λxs=>cond (Y.opn c) (cond (Nat.ble len 2) (k (some (.l c xs)) nx m [] []) (k (some (.o nx)) (nx+1) (m.upd nx (some (.row c xs))) [] [])) (ZiI nx m c xs k)) len) False
  | _,_,_=>False
 | _=>False
def jcZ (nx:Nat) (m:T (Ct S)) (t:TypeId) (len cap:Int) (k:Kn S):Prop:=match P.underlying t with
 | some (.slice e)=>match P.info? e,Jfx (S:=S) P e,Y.code e with
  | some ti,some z,some c=>cond (Nat.blt 0 ti.size&&Nat.beq (Jai z).length ti.size&&jbV z&&Nat.beq ti.size (Y.wid c)&&!(Y.opn c))
   ((0<=len/\len<=cap/\(ti.bytes:Int)*cap<=1099511627776/\cap<=1099511627776)/\Y.dec c (jie (Jai z)) λx=>ZiI nx m c (List.replicate len.toNat x) k) False
  | _,_,_=>False
 | _=>False
def zeA (nx:Nat) (m:T (Ct S)) (t:TypeId) (s x:U S) (k:Kn S):Prop:=match P.underlying t with
 | some (.slice e)=>match P.info? e,Y.code e with
  | some ti,some c=>cond (Nat.beq ti.size (Y.wid c)&&Nat.blt 0 ti.bytes&&Za4 P e ti.size) (JgN Y m c x λys=>match s with
   | .sn=>ys.length*ti.bytes<=1099511627776/\ZiI nx m c ys k
   | .o r=>match m.get r with
    | some (.buf c' xs)=>cond (Y.cvb&&!(Y.opn c')) False (Y.cast c' c xs λxs=>(xs.length+ys.length)*ti.bytes<=1099511627776/\k (some (.o r)) nx ((Jey (za3 [r]) m).upd r (some (.buf c (xs++ys)))) [r] [r])
    | _=>False
   | _=>False) False
  | _,_=>False
 | _=>False
def jeA (nx:Nat) (m:T (Ct S)) (src dst:TypeId) (x:U S) (k:Kn S):Prop:=match P.underlying src,P.underlying dst,x with
 | some _,some (.int kd),.i _ n=>Zdh kd n λu=>k (some u) nx m [] []
 | some _,some .string,.s l=>k (some (.s l)) nx m [] []
 | some _,some (.slice e),.s l=>match P.underlying e,Y.code e with
  | some (.int .u8),some c=>l.length<=1099511627776/\Y.ofB c l λxs=>cond (Y.cvb&&!(Y.opn c)) (ZiI nx m c xs k) (k (some (.l c xs)) nx m [] [])
  | _,_=>False
 | some (.slice e),some .string,.sn=>match P.underlying e with
  | some (.int .u8)=>k (some (.s [])) nx m [] []
  | _=>False
 | some (.slice e),some .string,.l c xs=>match P.underlying e with
  | some (.int .u8)=>Y.byt c xs λbs=>k (some (.s bs)) nx m [] []
  | _=>False
 | some (.slice e),some .string,.o r=>match P.underlying e,m.get r with
  | some (.int .u8),some (.buf c xs)=>Y.byt c xs λbs=>k (some (.s bs)) nx m [] []
  | _,_=>False
 | some (.slice e),some .string,.v r w i=>match P.underlying e,m.get r with
  | some (.int .u8),some (.buf c xs)=>cond (Nat.beq w (Y.wid c)) (Y.byt c (xs.drop i) λbs=>k (some (.s bs)) nx m [] []) False
  | _,_=>False
 | _,_,_=>False
def jgO (nx:Nat) (m:T (Ct S)) (src dst:TypeId) (x:U S) (k:Kn S):Prop:=match P.underlying src,P.underlying dst,x with
 | some (.slice e),some (.slice _),.o r=>match P.underlying e,m.get r with
  | some (.int .u8),some (.row _ _)=>cond (decide (src=dst)) (k (some (.o r)) nx m [] []) False
  | _,_=>False
 | _,_,x=>jeA Y P nx m src dst x k
def sE (fr:T (U S)) (nx:Nat) (m:T (Ct S)) (o:Op) (k:Kn S):Prop:=match o with
 | .store t x v=>jbG fr x λx=>jbG fr v λv=>zgO Y P nx m t x v k
 | .alloc t=>match Jfx (S:=S) P t,zaa P t with
  | some z,some _=>cond (jbV z) (Jja nx m (Jai z) k) False
  | _,_=>False
 | .box t x=>match zaa P t with
  | some _=>jbG fr x λz=>cond (jbV z) (Jja nx m (Jai z) k) False
  | none=>False
 | .buildSlice t len ps=>jf3 fr ps.toList λus=>jcx Y P nx m t len us k
 | .makeSlice t l c=>jbG fr l λl=>jbG fr c λc=>match l,c with
  | .i _ l,.i _ c=>jcZ Y P nx m t l c k
  | _,_=>False
 | .convert s d x=>jbG fr x λx=>jgO Y P nx m s d x k
 | .call c=>match c.callee,c.args.toList,c.argTypes.toList with
  | .builtin .append,[s,x],[t,u]=>match P.underlying u with
   | some (.int _)=>False
   | some _=>jbG fr s λs=>jbG fr x λx=>zeA Y P nx m t s x k
   | none=>False
  | _,_,_=>False
 | _=>False
end
section
variable {S:Sg} {Y:Sy S} {P:Program} {own:Nat->Prop} {st:St} {E:En} {o0:Nat->Prop}
def Cel (Y:Sy S) (c:S.Cd) (xs:List (S.Den c)) (get:Nat->Option V) (DA:U S->V->Prop):Prop:=
 ∀(i:Nat) x,xs[i]?=some x->∀(j:Nat) u,(Y.cells c x)[j]?=some u->∃v,get (i*Y.wid c+j)=some v/\DA u v
theorem z7 {c:S.Cd} {xs:List (S.Den c)} {b:Blk} {off:Nat} {vs:Nat->List V} {DA:U S->V->Prop} (h:∀(i:Nat) x,xs[i]?=some x->b.row (Y.wid c) (off+i*Y.wid c)=some (vs i)) (h':∀(i:Nat) x,xs[i]?=some x->∀(j:Nat) u v,(Y.cells c x)[j]?=some u->(vs i)[j]?=some v->DA u v) :
  Cel Y c xs (λk=>b.get (off+k)) DA:=by
 intro i x hx j u hu;obtain ⟨s1,s2⟩:=Blk.row_spec _ _ _ (h i x hx);have hj:j<(vs i).length:=by rw [s1,<-Y.len c x];exact (List.getElem?_eq_some_iff.1 hu).1
 have e:=List.getElem?_eq_getElem hj;exact ⟨_,by dsimp only;rw [<-Qf];exact s2 j _ e,h' i x hx j u _ hu e⟩
theorem JaC {c:S.Cd} {xs:List (S.Den c)} {b:Blk} {off:Nat} {DA:U S->V->Prop} (h:Cel Y c xs (λk=>b.get (off+k)) DA) :
  ∃vs:Nat->List V,(∀(i:Nat) x,xs[i]?=some x->b.row (Y.wid c) (off+i*Y.wid c)=some (vs i))/\∀(i:Nat) x,xs[i]?=some x->∀(j:Nat) u v,(Y.cells c x)[j]?=some u->(vs i)[j]?=some v->DA u v:=by
 refine ⟨λi=>(List.range (Y.wid c)).map λj=>(b.get (off+(i*Y.wid c+j))).getD (.b false),λi x hx=>?_,λi x hx j u v hu hv=>?_⟩
 ·have:=Blk.row_ok (b:=b) ((List.range (Y.wid c)).map λj=>(b.get (off+(i*Y.wid c+j))).getD (.b false)) (off+i*Y.wid c) (λj hj=>by
   have hj':j<Y.wid c:=by simpa using hj
   have hu:(Y.cells c x)[j]?=some ((Y.cells c x)[j]'(by rw [Y.len];exact hj')):=List.getElem?_eq_getElem _
   obtain ⟨v,e1,_⟩:=h i x hx j _ hu;dsimp only at e1;rw [List.getElem?_map,List.getElem?_range hj',yg,Qf,e1,dm])
  simpa using this
 ·have hj':j<Y.wid c:=by rw [<-Y.len c x];exact (List.getElem?_eq_some_iff.1 hu).1
  obtain ⟨w,e1,e2⟩:=h i x hx j u hu;dsimp only at hv e1;rw [List.getElem?_map,List.getElem?_range hj',yg,e1,dm] at hv;cases hv;exact e2
theorem Zie {D:DD S} {u:U S} {v:V} (h:RelV Y D E u v):RelV Y D E (nrm u) v:=by cases u <;> exact h
theorem zdw {D:DD S}:∀{us:List (U S)} {vs:List V},RelL Y D E us vs->RelL Y D E (jie us) vs
 | [],_,h=>h
 | u::us,vs,h=>by
  simp only [RelL] at h;obtain ⟨v,r,rfl,h1,h2⟩:=h;exact ⟨v,r,rfl,Zie h1,zdw h2⟩
theorem jbj:∀us:List (U S),(jie us).length=us.length
 | []=>rfl
 | u::us=>by simp [jie,jbj us]
theorem jch {u:U S} {v:V} (ha:Jid u=true) (h:RelV Y (Dat Y own st) E u v):v.atom=true:=by
 cases u with
 | dead=>cases ha
 | a _=>cases ha
 | t _=>cases ha
 | v _ _ _=>cases ha
 | vh _ _=>cases ha
 | o r=>simp only [RelV] at h;obtain ⟨_,_,q⟩:=h;exact q
 | l c xs=>simp only [RelV] at h;cases h <;> rfl
 | _=>
  simp only [RelV] at h
  first
  | (subst h;rfl)
  | (obtain ⟨_,_,_,rfl⟩:=h;rfl)
  | (obtain ⟨_,rfl⟩:=h;rfl)
  | (obtain ⟨_,rfl,_⟩:=h;rfl)
  | (obtain ⟨_,_,_,_,_,_,rfl⟩:=h;rfl)
theorem zfy:∀{us:List (U S)} {vs:List V},zie us=true->RelL Y (Dat Y own st) E us vs->∀v∈vs,v.atom=true
 | [],vs,_,h=>by simp only [RelL] at h;subst h;simp
 | u::us,vs,ha,h=>by
  simp only [RelL] at h;obtain ⟨v,r,rfl,h1,h2⟩:=h;simp only [zie,yb] at ha;intro w hw;rcases gc.1 hw with rfl|hw
  ·exact jch ha.1 h1
  ·exact zfy ha.2 h2 w hw
theorem Zb1 {u:U S} (h:u.flat=true):Jid u=true:=by cases u <;> first|rfl|cases h
theorem JdI {D:DD S} {us:List (U S)} {vs:List V} (h:RelL Y D E us vs):∀n,RelL Y D E (zcZ us n) (zao vs n)
 | 0=>rfl
 | n+1=>h.append (JdI h n)
theorem zdJ (us:List (U S)):∀n,(zcZ us n).length=n*us.length
 | 0=>by simp [zcZ]
 | n+1=>by simp [zcZ,zdJ us n,xl];omega
theorem Jf4 {c:S.Cd}:∀{j:Nat} {us:List (U S)} {k:List (S.Den c)->Prop},jhv Y c (Y.wid c) us k j->us.length=j*Y.wid c->∃xs,xs.length=j/\k xs/\∀(i:Nat) x,xs[i]?=some x->∀(q:Nat) u,(Y.cells c x)[q]?=some u->us[i*Y.wid c+q]?=some u
 | 0,us,k,h,hl=>⟨[],rfl,h,λi x hx=>by simp at hx⟩
 | j+1,us,k,h,hl=>by
  simp only [jhv] at h;obtain ⟨x,e1,h2⟩:=Y.dec_ok _ _ _ h;obtain ⟨xs,e2,h3,h4⟩:=Jf4 h2 (by rw [Hb,hl,xl];omega)
  refine ⟨x::xs,by simp [e2],h3,λi y hy q u hu=>?_⟩
  cases i with
  | zero=>
   simp only [List.getElem?_cons_zero,xa] at hy;subst hy;rw [<-e1] at hu;rw [List.getElem?_take] at hu;split at hu
   ·rw [Nat.zero_mul,dd];exact hu
   ·cases hu
  | succ i=>
   simp only [List.getElem?_cons_succ] at hy;have:=h4 i y hy q u hu;rw [List.getElem?_drop] at this;rw [xl,<-this];congr 1;omega
theorem ZgO {G:Gl} {ro nx:Nat} {m:T (Ct S)} (hI:Inv Y G o0 ro E nx m st) {c:S.Cd} {x:U S} {v:V} {k:List (S.Den c)->Prop} (h:JgN Y m c x k) (hx:RelV Y (Dat Y (ji o0 E m) st) E x v) :
  ∃ys new,k ys/\Zfu v=some ys.length/\zaS st (Y.wid c) ys.length v=some new/\new.length=ys.length*Y.wid c/\Cel Y c ys (λk=>new[k]?) (DatA Y (ji o0 E m) st)/\∀v∈new,v.atom=true:=by
 have blk:∀(ys:List (S.Den c)) (id off cap:Nat) (op:Bool) (b:Blk),st.hp.get id=some b->Cel Y c ys (λk=>b.get (off+k)) (DatA Y (ji o0 E m) st)->∃new,Zfu (.sl id off ys.length cap op)=some ys.length/\zaS st (Y.wid c) ys.length (.sl id off ys.length cap op)=some new/\new.length=ys.length*Y.wid c/\Cel Y c ys (λk=>new[k]?) (DatA Y (ji o0 E m) st)/\∀v∈new,v.atom=true:=by
  intro ys id off cap op b hb hc;have hw:=Y.wpos c;have cell:∀k,k<ys.length*Y.wid c->∃v,b.get (off+k)=some v/\v.atom=true:=by
   intro k hk;have h1:k / Y.wid c<ys.length:=Nat.div_lt_of_lt_mul (by rw [yl];exact hk)
   have h2:k%Y.wid c<Y.wid c:=gh _ hw;have hx:=List.getElem?_eq_getElem h1;have hu:(Y.cells c ys[k / Y.wid c])[k%Y.wid c]?=some _:=List.getElem?_eq_getElem (by rw [Y.len];exact h2)
   obtain ⟨v,e1,e2⟩:=hc _ _ hx _ _ hu;dsimp only at e1;rw [Nat.div_add_mod' ] at e1;exact ⟨v,e1,jch (E:=E) (Zb1 (Y.flat _ _ _ (List.mem_of_getElem? hu))) e2.rel⟩
  refine ⟨(List.range (ys.length*Y.wid c)).map λk=>(b.get (off+k)).getD (.b false),rfl,?_,by simp,?_,?_⟩
  ·have:=Blk.row_ok (b:=b) ((List.range (ys.length*Y.wid c)).map λk=>(b.get (off+k)).getD (.b false)) off (λj hj=>by
    have hj':j<ys.length*Y.wid c:=by simpa using hj
    obtain ⟨v,e1,_⟩:=cell j hj';rw [List.getElem?_map,List.getElem?_range hj',yg,e1,dm])
   simp only [zaS,hb];simpa using this
  ·intro i y hy j u hu;obtain ⟨v,e1,e2⟩:=hc i y hy j u hu;have h1:=(List.getElem?_eq_some_iff.1 hy).1;have h2:j<Y.wid c:=by rw [<-Y.len c y];exact (List.getElem?_eq_some_iff.1 hu).1
   have hlt:i*Y.wid c+j<ys.length*Y.wid c:=by
    have:(i+1)*Y.wid c<=ys.length*Y.wid c:=gm _ h1;rw [xl] at this;omega
   refine ⟨v,?_,e2⟩;dsimp only at e1 |-;rw [List.getElem?_map,List.getElem?_range hlt,yg,e1,dm]
  ·intro v hv;obtain ⟨k,hk,rfl⟩:=xm.1 hv;obtain ⟨w,e1,e2⟩:=cell k (by simpa using hk)
   rw [e1];exact e2
 have none_:∀v:V,(v=.sn)->k []->∃ys new,k ys/\Zfu v=some ys.length/\zaS st (Y.wid c) ys.length v=some new/\new.length=ys.length*Y.wid c/\Cel Y c ys (λk=>new[k]?) (DatA Y (ji o0 E m) st)/\∀v∈new,v.atom=true:=by
  rintro v rfl hk;exact ⟨[],[],hk,rfl,rfl,by simp,λi x hx=>by simp at hx,by simp⟩
 unfold JgN at h;split at h
 ·rename_i l;simp only [RelV] at hx;subst hx;obtain ⟨xs,hw,e1,hk⟩:=Y.ofB_ok _ _ _ h;have hl:xs.length=l.length:=by have:=Ya List.length e1;simpa using this
  have key:∀(i:Nat) x,xs[i]?=some x->∃y,l[i]?=some y/\Y.cells c x=[.i .u8 (y.toNat:Int)]:=by
   intro i x hx;have:=Ya (·[i]?) e1;simp only [List.getElem?_map,hx,yg] at this;cases hy:l[i]? with
   | none=>rw [hy] at this;cases this
   | some y=>rw [hy] at this;exact ⟨y,rfl,Rd this⟩
  refine ⟨xs,cB l,hk,by rw [hl];rfl,by rw [hw,hl];exact je4 st l,by rw [zbb,hl,hw,Hj],λi x hx j u hu=>?_,jcY l⟩
  obtain ⟨y,e2,e3⟩:=key i x hx;rw [e3] at hu;cases j with
  | zero=>
   simp only [List.getElem?_cons_zero,xa] at hu;subst hu;exact ⟨_,by dsimp only;rw [hw,Hj,Re,ZgJ,e2];rfl,.i _ _⟩
  | succ j=>simp at hu
 ·exact none_ v hx h
 ·rename_i c' ys;obtain ⟨rfl,hk⟩:=Y.cast_ok _ _ _ _ h;simp only [RelV] at hx;cases hx with
  | nil=>exact none_ _ rfl hk
  | ze=>exact ⟨[],[],hk,rfl,rfl,by simp,λi x hx=>by simp at hx,by simp⟩
  | ne=>exact ⟨[],[],hk,rfl,rfl,by simp,λi x hx=>by simp at hx,by simp⟩
  | mk vs h1 h2 h3 h4 h5 h6=>
   obtain ⟨new,q⟩:=blk ys _ _ _ _ _ h3 (z7 h4 h5);exact ⟨ys,new,hk,q⟩
 ·rename_i r;split at h
  ·rename_i c' ys hr;obtain ⟨rfl,hk⟩:=Y.cast_ok _ _ _ _ h;simp only [RelV] at hx;obtain ⟨y,e1,_⟩:=hx;rcases hI.ent r _ hr with ⟨q1,q2⟩|⟨id,cap,op,b,q1,q2,q3,q4,q5,q6,q7,q8,vs,q9,q10⟩
   ·rw [e1] at q1;cases q1;subst q2;exact none_ _ rfl hk
   ·rw [e1] at q1;cases q1;obtain ⟨new,q⟩:=blk ys id 0 cap op b q4 (z7 (λi x hx=>by rw [dd];exact q9 i x hx) q10)
    exact ⟨ys,new,hk,q⟩
  ·rename_i c' ys hr;obtain ⟨rfl,hk⟩:=Y.cast_ok _ _ _ _ h;simp only [RelV] at hx;obtain ⟨y,e1,_⟩:=hx;obtain ⟨id,b,q1,q2,q3,q4,q5,vs,q9,q10⟩:=hI.ent r _ hr;rw [e1] at q1;cases q1;obtain ⟨new,q⟩:=blk ys id 0 ys.length false b q4 (z7 (λi x hx=>by rw [dd];exact q9 i x hx) q10)
   exact ⟨ys,new,hk,q⟩
  ·exact h.elim
 ·exact h.elim
end
