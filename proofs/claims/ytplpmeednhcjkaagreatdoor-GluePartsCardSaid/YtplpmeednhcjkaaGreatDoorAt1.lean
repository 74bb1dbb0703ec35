/- Lemmas. -/
import Derived.ReadAgain
import Derived.Test.YtplpmeednhcjkaaGreatDoorSa2
import Derived.DataReads
import Derived.SizedLaws
set_option linter.unusedVariables false
namespace Go.Vm
open Go.RowKit
def je3 (r:Nat):Nat:=if r<GL then r else GL+r
theorem Zht {r s:Nat} (h:je3 r=je3 s):r=s:=by
 unfold je3 at h;have:GL=64:=rfl;split at h <;> split at h <;> omega
def JW (n:Nat):Inj:=⟨GL+n,λg=>if g<GL then (g,0,0) else (g-GL,0,0),λg h=>⟨by omega,by simp [h]⟩⟩
theorem Jht (n r:Nat):(JW n).m (je3 r)=(r,0,0):=by
 show (if je3 r<GL then _ else _)=_
 unfold je3;by_cases h:r<GL
 ·rw [ya h,ya h]
 ·rw [ga h,ga (by omega)]
  simp
theorem jfx {n r:Nat} (h:r<n):je3 r<(JW n).nx:=by
 show je3 r<GL+n;unfold je3;split <;> omega
def toV (n:Nat):Value->Option V
 | .bool x=>some (.b x)
 | .int k x=>some (.i k x)
 | .string x=>some (.str x.data.toList)
 | .pointer none=>some .pn
 | .slice none 0 0=>some .sn
 | .slice (some a) 0 0=>some (.ze a)
 | .slice (some ⟨r,o,none⟩) l c=>if r<n/\l<=c then some (.sl (je3 r) o l c false) else none
 | .nilFunc=>some .fz
 | .nilIface=>some .nz
 | _=>none
theorem zf3 {n:Nat} {x:Value} {v:V} (h:toV n x=some v):v.real (JW n)=x/\v.ok (JW n).nx/\v.atom=true:=by
 unfold toV at h;split at h
 ·cases h;exact ⟨rfl,trivial,rfl⟩
 ·cases h;exact ⟨rfl,trivial,rfl⟩
 ·cases h;exact ⟨by rw [V.str_real],V.str_ok _ _,rfl⟩
 ·cases h;exact ⟨rfl,trivial,rfl⟩
 ·cases h;exact ⟨rfl,trivial,rfl⟩
 ·cases h;exact ⟨rfl,trivial,rfl⟩
 ·rename_i r o l c _;split at h
  ·rename_i hc;cases h;refine ⟨?_,⟨jfx hc.1,hc.2⟩,rfl⟩;simp only [V.real,Jht,Yc,dd,Re]
  ·cases h
 ·cases h;exact ⟨rfl,trivial,rfl⟩
 ·cases h;exact ⟨rfl,trivial,rfl⟩
 ·cases h
def JcI {α:Type} (nm:Nat->Nat):List (Option α)->Nat->T α
 | [],_=>.e
 | x::r,i=>match x with
  | some v=>(JcI nm r (i+1)).upd (nm i) (some v)
  | none=>JcI nm r (i+1)
theorem zcY {α:Type} {nm:Nat->Nat} (hn:∀{a b},nm a=nm b->a=b):∀(l:List (Option α)) (i g:Nat) (v:α),(JcI nm l i).get g=some v↔∃k,g=nm (i+k)/\l[k]?=some (some v)
 | [],i,g,v=>by simp [JcI,T.get_e]
 | x::r,i,g,v=>by
  have ih:=zcY hn r (i+1) g v;have shift:(∃k,g=nm (i+k)/\(x::r)[k]?=some (some v))↔(g=nm i/\x=some v)\/∃k,g=nm (i+1+k)/\r[k]?=some (some v):=by
   constructor
   ·rintro ⟨k,h1,h2⟩;cases k with
    | zero=>exact .inl ⟨h1,by simpa using h2⟩
    | succ k=>exact .inr ⟨k,by rw [h1];congr 1;omega,by simpa using h2⟩
   ·rintro (⟨h1,h2⟩|⟨k,h1,h2⟩)
    ·exact ⟨0,h1,by simpa using h2⟩
    ·exact ⟨k+1,by rw [h1];congr 1;omega,by simpa using h2⟩
  rw [shift];cases x with
  | none=>
   simp only [JcI];rw [ih];simp
  | some u=>
   simp only [JcI];rw [Tgu];by_cases hg:g=nm i
   ·rw [ya hg];constructor
    ·intro h;exact .inl ⟨hg,h⟩
    ·rintro (⟨_,h⟩|⟨k,h1,h2⟩)
     ·exact h
     ·exfalso;have:=hn (hg.symm.trans h1);omega
   ·rw [ga hg,ih];constructor
    ·exact .inr
    ·rintro (⟨h,_⟩|h)
     ·exact absurd h hg
     ·exact h
def JgD (n:Nat) (c:Array Value):Blk:=⟨JcI (λi=>i) (c.toList.map (toV n)) 0,[],c.size,1,false⟩
theorem zey {n:Nat} {c:Array Value} {o:Nat} {v:V}:(JgD n c).get o=some v↔∃x,c[o]?=some x/\toV n x=some v:=by
 have key:(JgD n c).cs.get o=some v↔∃x,c[o]?=some x/\toV n x=some v:=by
  show (JcI _ _ 0).get o=some v↔_;rw [zcY (λh=>h)]
  constructor
  ·rintro ⟨k,h1,h2⟩;rw [dd] at h1;subst h1;rw [List.getElem?_map,Array.getElem?_toList] at h2;cases hx:c[o]? with
   | none=>rw [hx] at h2;cases h2
   | some x=>rw [hx] at h2;exact ⟨x,rfl,by simpa using h2⟩
  ·rintro ⟨x,h1,h2⟩;exact ⟨o,by rw [dd],by rw [List.getElem?_map,Array.getElem?_toList,h1,yg,h2]⟩
 unfold Blk.get;cases hb:Nat.blt o (JgD n c).sz with
 | false=>
  simp only [Yc];constructor
  ·intro h;cases h
  ·rintro ⟨x,h1,_⟩;have:=(Array.getElem?_eq_some_iff.1 h1).1;have hlt:o<(JgD n c).sz:=this;rw [<-ge,hb] at hlt;cases hlt
 | true=>
  simp only [Qa];rw [<-key];cases (JgD n c).cs.get o with
  | some u=>rfl
  | none=>
   have:(JgD n c).zero=[]:=rfl;simp [this]
def Jjy (n:Nat):Option Obj->Option Blk
 | some (.cells c _ _)=>some (JgD n c)
 | _=>none
def hpW (W:World):T Blk:=JcI je3 ((List.range W.heap.size).map λr=>Jjy W.heap.size W.heap[r]?) 0
def stW (W:World):St:=⟨GL+W.heap.size,hpW W,GL+W.heap.size⟩
theorem JdH {W:World} {g:Nat} {b:Blk}:(hpW W).get g=some b↔∃r c e fz,g=je3 r/\W.heap[r]?=some (.cells c e fz)/\b=JgD W.heap.size c:=by
 unfold hpW;rw [zcY Zht];constructor
 ·rintro ⟨k,h1,h2⟩;rw [dd] at h1;rw [List.getElem?_map] at h2;cases hk:(List.range W.heap.size)[k]? with
  | none=>rw [hk] at h2;cases h2
  | some r=>
   obtain rfl:k=r:=by
    have:=List.getElem?_eq_some_iff.1 hk;obtain ⟨h3,h4⟩:=this;simpa using h4
   rw [hk,yg,xa] at h2;unfold Jjy at h2;split at h2
   ·rename_i c e fz ho;exact ⟨k,c,e,fz,h1,ho,(Rd h2).symm⟩
   ·cases h2
 ·rintro ⟨r,c,e,fz,h1,h2,h3⟩;have hlt:=(Array.getElem?_eq_some_iff.1 h2).1;refine ⟨r,by rw [dd];exact h1,?_⟩
  rw [List.getElem?_map,List.getElem?_range hlt,yg,h2,h3];rfl
theorem HR.world (W:World):HR (JW W.heap.size) (GL+W.heap.size) W (hpW W).get W:=by
 refine ⟨Old.refl W,λg b hg=>?_,λg g' b b' hg hg' he=>?_⟩
 ·obtain ⟨r,c,e,fz,rfl,h2,rfl⟩:=JdH.1 hg;have hlt:=(Array.getElem?_eq_some_iff.1 h2).1;have hid:je3 r<GL+W.heap.size:=jfx hlt;unfold BR;rw [Jht];refine ⟨hid,c,e,fz,h2,by simp [JgD],λq=>(by cases q),λq=>absurd hid (Nat.not_lt.2 q),λo v hv=>?_⟩
  obtain ⟨x,h4,h5⟩:=zey.1 hv;obtain ⟨h6,h7,h8⟩:=zf3 h5;exact ⟨h7,h8,by rw [h6];simpa using h4⟩
 ·obtain ⟨r,c,e,fz,rfl,h2,rfl⟩:=JdH.1 hg;obtain ⟨r',c',e',fz',rfl,h2',rfl⟩:=JdH.1 hg';rw [Jht,Jht] at he;have:r=r':=he;rw [this]
theorem zgo {P : Program} {ov : Ov} {W : World} (hov : OvR P (GL + W.heap.size) W ov) (hmix : P.follows .mixedOrders = true) (hname : ∀ (f : Nat) (fn : Func), P.funcs[f]? = some fn -> (fn.name == "runtime.NumGoroutine") = false) {f : FuncId} {args : List V} (hok : V.oks (JW W.heap.size).nx args)
  (h:∃n st',evF P ov (GL+W.heap.size) n f args (stW W)=some (.b true,st')) (rargs:Array Value) (hr:(V.reals (JW W.heap.size) args).toArray=rargs) :
  Calls P f rargs W λe w'=>e=.returned (.bool true)/\Below W.heap.size W w':=by
 obtain ⟨n,st',h⟩:=h;have:=(ze3 (P:=P) (ro:=GL+W.heap.size) (B:=W) hov hmix hname n f args (stW W) _ st' h (JW W.heap.size) W rfl (HR.world W) (Ra _) hok).2;rw [hr] at this;refine this.mono ?_;rintro e w' ⟨J',h1,_,h3⟩;exact ⟨by rw [h1];simp [V.real],h3.below⟩
end Go.Vm
namespace Go.Vm
open Go.RowKit Go.ChangeShapes Go.WideShapes Go.ChangeAt
section
variable {H:Type} {enc:TypeId×Value->H} {P:Program}
theorem zcJ {w w':World} {base:Nat} {spare:Nat->Bool} {held:Bool}:∀{ts:List TypeId} {vs:List Value} {ds:List (DataW H)} {ps:List MemPlace},DataW.TrodAll enc P w base spare held ts vs ds ps->(∀p∈ps,w.sameAt w' p)->DataW.TrodAll enc P w' base spare held ts vs ds ps
 | [],[],[],_,h,_=>h
 | _::_,_::_,_::_,_,⟨p,q,⟨n,h1⟩,h2,e⟩,hs=>⟨p,q,⟨n,DataW.trod_carry n _ _ _ h1 (λx hx=>hs x (by rw [e];exact yo _ hx))⟩,zcJ h2 (λx hx=>hs x (by rw [e];exact ym _ hx)),e⟩
theorem zgJ (K:Kids P (· < P.types.size)) (hz:∀t e,t<P.types.size->P.underlying t=some (.slice e)->0<P.cellsOf e) {f:Func} {s:ChangeSpec} {W W':World} {args:Array Value} {ds:List (DataW H)} {pa:List MemPlace} {tb:TypeId}
  (hT:∀t∈f.params.toList,t<P.types.size) (hv:s.vars=[]) (hW:DataW.Whole enc P f.params.toList s.vars false W args.toList ds [] pa) (hfn:s.fn H (ds++[]) = { results:=[.lit (.bool true)],args:=ds })
  (hrt:f.resultTypes = #[tb]) (ht:P.underlying tb=some .bool) (hb:Below W.heap.size W W'):s.post enc P f false true false false W args (.bool true) W':=by
 refine jht hv hW hfn hrt ht ?_ hb;have hlt:=hW.lt;obtain ⟨p,q,hA,hV,rfl,_,_⟩:=hW;rw [hv] at hV;have hq:q=[]:=hV;subst hq;rw [xf] at *;refine zcJ (DataW.TrodAll.respare K hz hT hA λp hp=>by simpa using hlt p hp) λx hx=>?_
 have hx':=hlt x hx;cases x with
 | cell b off=>
  have hbl:b<W.heap.size:=hx';show W'.cell? _=W.cell? _;unfold World.cell?;rw [hb.block b hbl]
 | map b=>exact hb.block b hx'
end
end Go.Vm
namespace Go.Sx
open Go.Vm Go.RowKit
section
variable {S:Sg} {Y:Sy S} {P:Program} {H:Type} {enc:TypeId×Value->H} {W:World}
def jeY (Y:Sy S) (W:World) (us:List (U S)) (cs:List Value):Prop:=
 cs.length=us.length/\∀(j:Nat) u x,us[j]?=some u->cs[j]?=some x->∃v,toV W.heap.size x=some v/\DatA Y (λ_=>False) (stW W) u v
theorem jgD {a:Addr} {v:Value} (h:W.cell? a=some v):∃c e fz,W.heap[a.block]?=some (.cells c e fz)/\a.spot=none/\c[a.off]?=some v:=by
 unfold World.cell? at h;split at h
 ·rename_i c e fz hc;split at h
  ·cases h
  ·rename_i hs;exact ⟨c,e,fz,hc,by simpa using hs,h⟩
 ·cases h
theorem Zhp {G:Gl} (h:∀g k l,G g=some (k,l)->g<GL/\∃c e fz,W.heap[g]?=some (.cells c e fz)/\∀j,j<l.length->c[j]?=some (.int k (l.getD j 0))):GOK G (GL+W.heap.size) (stW W):=by
 intro g k l hg;obtain ⟨h1,c,e,fz,h2,h3⟩:=h g k l hg;refine ⟨by omega,JgD W.heap.size c,JdH.2 ⟨g,c,e,fz,by unfold je3;rw [ya h1],h2,rfl⟩,λj hj=>zey.2 ⟨_,h3 j hj,rfl⟩⟩
end
end Go.Sx
namespace Go.Sx
open Go.Vm Go.RowKit
section
variable {S:Sg} {Y:Sy S} {P:Program} {H:Type} {enc:TypeId×Value->H} {W:World}
theorem Jhp {N:Nat} {t e:TypeId} {c:S.Cd} (ht:P.underlying t=some (.slice e)) (hw:P.cellsOf e=Y.wid c) {Q:S.Den c->DataW H->Prop} (hr:∀fuel,fuel<=N->∀cs x,DataW.trod enc P W 0 (λ_=>true) true fuel e cs=some x->∃y:S.Den c,jeY Y W (Y.cells c y) cs/\Q y x.1) {fuel:Nat} (hf:fuel<=N+1) {cs:List Value} {x:DataW H×List MemPlace}
  (h:DataW.trod enc P W 0 (λ_=>true) true fuel t cs=some x):∃val v xs,cs=[val]/\toV W.heap.size val=some v/\Dat Y (λ_=>False) (stW W) c xs v/\∀y∈xs,∃el sp,x.1=.slice el sp/\∃d∈el,Q y d:=by
 rcases DataW.trod_slice ht h with ⟨rfl,_⟩|⟨a,len,cap,elems,rest,n,rfl,rfl,hx,_,hlc,_,hel,hE,hR,_⟩
 ·exact ⟨_,_,[],rfl,rfl,.nil c,λy hy=>(by cases hy)⟩
 have hpos:=Y.wpos c;obtain ⟨hrl,hR⟩:=hR rfl;rw [hw] at hE hR;have elem:∀i,i<cap->∃(y:S.Den c) (cs':List Value),W.cells? 0 (a.add (i*Y.wid c)) (Y.wid c)=some cs'/\jeY Y W (Y.cells c y) cs'/\(∀d,i<len->elems[i]?=some d->Q y d.1):=by
  intro i hi;have key:∃z,(W.cells? 0 (a.add (i*Y.wid c)) (Y.wid c)).bind (DataW.trod enc P W 0 (λ_=>true) true n e)=some z:=by
   by_cases hil:i<len
   ·rw [hE i hil];exact ⟨_,List.getElem?_eq_getElem (by omega)⟩
   ·have:=hR (i-len) (by omega)
    rw [show len+(i-len)=i from by omega] at this
    rw [this];exact ⟨_,List.getElem?_eq_getElem (by omega)⟩
  obtain ⟨z,hz⟩:=key;obtain ⟨cs',h1,h2⟩:=Option.bind_eq_some_iff.1 hz;obtain ⟨y,hy⟩:=hr n (by omega) cs' z h2
  exact ⟨y,cs',h1,hy.1,λd hil hd=>by
   have e1:=hE i hil;rw [hz,hd] at e1;obtain rfl:=Rd e1;exact hy.2⟩
 by_cases hc0:cap=0
 ·have hl0:len=0:=by omega
  subst hc0 hl0;exact ⟨_,.ze a,[],rfl,rfl,.ze c a,λy hy=>(by cases hy)⟩
 ·-- the block
  obtain ⟨y0,cs0,h1,h2,_⟩:=elem 0 (by omega)
  obtain ⟨_,hl0,hc1⟩:=World.cells?_some h1;have hcell0:=hc1 0 (by omega)
  rw [List.getElem?_eq_getElem (by omega),Nat.zero_mul] at hcell0
  obtain ⟨cc,et,fz,hb,hs,hoff⟩:=jgD (a:=(a.add 0).add 0) hcell0;have haa:(a.add 0).add 0=a:=by simp [Addr.add]
  rw [haa] at hb hs hoff;obtain ⟨r,o,sp⟩:=a;simp only at hb hs hoff;subst hs;have hlt:r<W.heap.size:=(Array.getElem?_eq_some_iff.1 hb).1;have cells:∀(i:Nat) (cs':List Value),W.cells? 0 (Addr.add ⟨r,o,none⟩ (i*Y.wid c)) (Y.wid c)=some cs'->∀j v,cs'[j]?=some v->cc[o+(i*Y.wid c+j)]?=some v:=by
   intro i cs' h1 j v hj;obtain ⟨_,hl,hc⟩:=World.cells?_some h1;have hjl:j<Y.wid c:=by rw [<-hl];exact (List.getElem?_eq_some_iff.1 hj).1
   have:=hc j hjl;rw [hj,Addr.add_lit,Addr.add_lit] at this;simp only [World.cell?,hb] at this;rw [<-Qf];simpa using this
  let ys:Nat->S.Den c:=λi=>if hi:i<cap then Classical.choose (elem i hi) else y0
  have hys:∀i,i<cap->∃cs':List Value,W.cells? 0 (Addr.add ⟨r,o,none⟩ (i*Y.wid c)) (Y.wid c)=some cs'/\jeY Y W (Y.cells c (ys i)) cs'/\(∀d,i<len->elems[i]?=some d->Q (ys i) d.1):=by
   intro i hi;have:=Classical.choose_spec (elem i hi);simp only [ys,dif_pos hi];exact this
  have hxs:∀(i:Nat) x,((List.range len).map ys)[i]?=some x->i<len/\x=ys i:=by
   intro i x hx;rw [List.getElem?_map] at hx;cases hq:(List.range len)[i]? with
   | none=>rw [hq] at hx;cases hx
   | some k=>
    obtain ⟨q1,q2⟩:=List.getElem?_eq_some_iff.1 hq;have hk:k=i:=by simpa using q2.symm
    subst hk;rw [hq] at hx;exact ⟨by simpa using q1,(Rd hx).symm⟩
  have hcel:Cel Y c ((List.range len).map ys) (λk=>(JgD W.heap.size cc).get (o+k)) (DatA Y (λ_=>False) (stW W)):=by
   intro i x hx j u hu;obtain ⟨hi,rfl⟩:=hxs i x hx;obtain ⟨cs',k1,⟨k2,k3⟩,_⟩:=hys i (by omega)
   have hjl:j<cs'.length:=by rw [k2];exact (List.getElem?_eq_some_iff.1 hu).1
   obtain ⟨v,k4,k5⟩:=k3 j u _ hu (List.getElem?_eq_getElem hjl);exact ⟨v,zey.2 ⟨_,cells i cs' k1 j _ (List.getElem?_eq_getElem hjl),k4⟩,k5⟩
  obtain ⟨vs,r1,r2⟩:=JaC hcel;have hlen:((List.range len).map ys).length=len:=by simp
  have hd:=Dat.mk (Y:=Y) (own:=λ_=>False) (st:=stW W) (c:=c) (xs:=(List.range len).map ys) (id:=je3 r) (off:=o) (cap:=cap) (op:=false) (b:=JgD W.heap.size cc) vs (λq=>q) (jfx hlt) (JdH.2 ⟨r,cc,et,fz,rfl,hb,rfl⟩) r1 r2 (by rw [hlen];exact hlc)
  rw [hlen] at hd;refine ⟨_,.sl (je3 r) o len cap false,(List.range len).map ys,rfl,?_,hd,λy hy=>?_⟩
  rotate_left
  ·obtain ⟨i,hi,rfl⟩:=xm.1 hy;have hi:=xo.1 hi;obtain ⟨cs',_,_,k4⟩:=hys i (by omega)
   have hlt2:i<elems.length:=by omega
   exact ⟨_,_,Ya Prod.fst hx,_,xm.2 ⟨elems[i],List.getElem_mem hlt2,rfl⟩,k4 elems[i] hi (List.getElem?_eq_getElem hlt2)⟩
  have:toV W.heap.size (.slice (some ⟨r,o,none⟩) len cap)=if r<W.heap.size/\len<=cap then some (.sl (je3 r) o len cap false) else none:=by
   cases cap with
   | zero=>exact absurd rfl hc0
   | succ cap=>cases len <;> rfl
  rw [this,ya ⟨hlt,hlc⟩]
theorem ZgD {ts:List TypeId} {ds:List (DataW H)} (h:(DataW.weightsEach P ts ds).all (·<=reachBytes)=true) {j:Nat} {t e:TypeId} {elems spare:List (DataW H)} (ht:ts[j]?=some t) (hd:ds[j]?=some (.slice elems spare)) (hu:P.underlying t=some (.slice e))
  {d:DataW H} (hm:d∈elems):∀n∈d.weights P e,n<=reachBytes:=by
 intro n hn;have hin:∀l:List (DataW H),d∈l->n∈DataW.weightsAll P e l:=by
  intro l hl
  induction l with
  | nil=>cases hl
  | cons a r ih=>
   rw [DataW.weightsAll,Rf];rcases gc.1 hl with rfl|hl
   ·exact .inl hn
   ·exact .inr (ih hl)
 have:=Hk.1 h n (DataW.weights_mem_each ht hd n (by simp only [DataW.weights,hu];exact gd _ (yo _ (hin _ hm))))
 simpa using this
end
end Go.Sx
namespace Go.Vm
open Go.RowKit
theorem ZcV {cs:List Value} {o:Nat} {v:Value} (h:(cs.drop o).take 1=[v]):cs[o]?=some v:=by
 have:=Ya (·[0]?) h;simpa [List.getElem?_take,List.getElem?_drop] using this
theorem ZhV {P:Program} {H:Type} {enc:TypeId×Value->H} {w:World} {base:Nat} {spare:Nat->Bool} {held:Bool} {t:TypeId} {f0 f1 f2 f3 f4:Field} {fuel:Nat} {cs:List Value} {x:DataW H×List MemPlace}
  (ht:P.underlying t=some (.struct #[f0,f1,f2,f3,f4])) (hc:P.cellsOf t=5) (o0:f0.offset=0) (o1:f1.offset=1) (o2:f2.offset=2) (o3:f3.offset=3) (o4:f4.offset=4)
  (c0:P.cellsOf f0.type=1) (c1:P.cellsOf f1.type=1) (c2:P.cellsOf f2.type=1) (c3:P.cellsOf f3.type=1) (c4:P.cellsOf f4.type=1)
  (k0:P.underlying f0.type=some (.int .u8)) (k1:P.underlying f1.type=some .string) (k2:P.underlying f2.type=some (.int .i64)) (k3:P.underlying f3.type=some .string) (k4:P.underlying f4.type=some .bool)
  (h:DataW.trod enc P w base spare held fuel t cs=some x) :
  ∃(k:Int) (tx:ByteArray) (m:Int) (un:ByteArray) (fl:Bool),cs=[.int .u8 k,.string tx,.int .i64 m,.string un,.bool fl]/\x.1=.agg [.lit (.int .u8 k),.lit (.string tx.data.toList),.lit (.int .i64 m),.lit (.string un.data.toList),.lit (.bool fl)]/\
   (∀n∈x.1.weights P t,n<=reachBytes)=(∀n∈DataW.weightsEach P ([f0,f1,f2,f3,f4].map (·.type)) ([.lit (.int .u8 k),.lit (.string tx.data.toList),.lit (.int .i64 m),.lit (.string un.data.toList),.lit (.bool fl)]:List (DataW H)),n<=reachBytes):=by
 obtain ⟨xs,n,_,hx,hl,hlen,hf⟩:=DataW.trod_struct ht h
 match xs,hlen with
 | [y0,y1,y2,y3,y4],_=>
  have g0:DataW.trod enc P w base spare held n f0.type ((cs.drop f0.offset).take (P.cellsOf f0.type))=some y0:=hf 0 f0 rfl;have g1:DataW.trod enc P w base spare held n f1.type ((cs.drop f1.offset).take (P.cellsOf f1.type))=some y1:=hf 1 f1 rfl;have g2:DataW.trod enc P w base spare held n f2.type ((cs.drop f2.offset).take (P.cellsOf f2.type))=some y2:=hf 2 f2 rfl;have g3:DataW.trod enc P w base spare held n f3.type ((cs.drop f3.offset).take (P.cellsOf f3.type))=some y3:=hf 3 f3 rfl;have g4:DataW.trod enc P w base spare held n f4.type ((cs.drop f4.offset).take (P.cellsOf f4.type))=some y4:=hf 4 f4 rfl;rw [o0,c0] at g0;rw [o1,c1] at g1;rw [o2,c2] at g2;rw [o3,c3] at g3;rw [o4,c4] at g4;obtain ⟨k,e0,z0,_⟩:=DataW.trod_int k0 g0;obtain ⟨tx,e1,z1,_⟩:=DataW.trod_string k1 g1;obtain ⟨m,e2,z2,_⟩:=DataW.trod_int k2 g2;obtain ⟨un,e3,z3,_⟩:=DataW.trod_string k3 g3;obtain ⟨fl,e4,z4⟩:=DataW.trod_bool k4 g4;rw [hc] at hl;have a0:=ZcV e0;have a1:=ZcV e1;have a2:=ZcV e2;have a3:=ZcV e3;have a4:=ZcV e4;have hcs:cs=[.int .u8 k,.string tx,.int .i64 m,.string un,.bool fl]:=by
   match cs,hl with
   | [v0,v1,v2,v3,v4],_=>
    obtain rfl:=Rd a0;obtain rfl:=Rd a1;obtain rfl:=Rd a2;obtain rfl:=Rd a3;obtain rfl:=Rd a4;rfl
  have hx1:x.1=.agg [.lit (.int .u8 k),.lit (.string tx.data.toList),.lit (.int .i64 m),.lit (.string un.data.toList),.lit (.bool fl)]:=by
   rw [hx];show DataW.agg [y0.1,y1.1,y2.1,y3.1,y4.1]=_;rw [z0,z1,z2,z3,z4]
  refine ⟨k,tx,m,un,fl,hcs,hx1,?_⟩;rw [hx1];simp only [DataW.weights,ht]
