/-
 A whole world in the evaluator's memory: every block has a place, none of them is written. Nothing is claimed here.
-/
import Derived.Test.YtmnegokadegioaaGreatDoorVa4
import Derived.ReadAgain
import Derived.ChangeSame
import Derived.ChangeShapes
import Derived.DataReads
import Derived.OpenShut
set_option linter.unusedVariables false
namespace Go.Vm
open Go.RowKit
def Jf1 (r:Nat):Nat:=if r<GL then r else GL+r
theorem Zg4 {r s:Nat} (h:Jf1 r=Jf1 s):r=s:=by
 unfold Jf1 at h;have:GL=64:=rfl;split at h <;> split at h <;> omega
def JW (n:Nat):Inj:=⟨GL+n,fun g=>if g<GL then (g,0,0) else (g-GL,0,0),fun g h=>⟨by omega,by simp [h]⟩⟩
theorem Jg4 (n r:Nat):(JW n).m (Jf1 r)=(r,0,0):=by
 show (if Jf1 r<GL then _ else _)=_
 unfold Jf1;by_cases h:r<GL
 ·rw [if_pos h,if_pos h]
 ·rw [if_neg h,if_neg (by omega)]
  simp
theorem zgo {n r:Nat} (h:r<n):Jf1 r<(JW n).nx:=by
 show Jf1 r<GL+n;unfold Jf1;split <;> omega
def toV (n:Nat):Value→Option V
 | .bool x=>some (.b x)
 | .int k x=>some (.i k x)
 | .string x=>some (.str x.data.toList)
 | .pointer none=>some .pn
 | .slice none 0 0=>some .sn
 | .slice (some a) 0 0=>some (.ze a)
 | .slice (some ⟨r,o,none⟩) l c=>if r<n∧l≤c then some (.sl (Jf1 r) o l c false) else none
 | .nilFunc=>some .fz
 | .nilIface=>some .nz
 | _=>none
theorem zg5 {n:Nat} {x:Value} {v:V} (h:toV n x=some v):v.real (JW n)=x∧v.ok (JW n).nx∧v.atom=true:=by
 unfold toV at h;split at h
 ·cases h;exact ⟨rfl,trivial,rfl⟩
 ·cases h;exact ⟨rfl,trivial,rfl⟩
 ·cases h;exact ⟨by rw [V.str_real],V.str_ok _ _,rfl⟩
 ·cases h;exact ⟨rfl,trivial,rfl⟩
 ·cases h;exact ⟨rfl,trivial,rfl⟩
 ·cases h;exact ⟨rfl,trivial,rfl⟩
 ·rename_i r o l c _;split at h
  ·rename_i hc;cases h;refine ⟨?_,⟨zgo hc.1,hc.2⟩,rfl⟩;simp only [V.real,Jg4,cond_false,Nat.zero_add,Nat.add_zero]
  ·cases h
 ·cases h;exact ⟨rfl,trivial,rfl⟩
 ·cases h;exact ⟨rfl,trivial,rfl⟩
 ·cases h
def JcA {α:Type} (nm:Nat→Nat):List (Option α)→Nat→T α
 | [],_=>.e
 | x::r,i=>match x with
  | some v=>(JcA nm r (i+1)).upd (nm i) (some v)
  | none=>JcA nm r (i+1)
theorem zcQ {α:Type} {nm:Nat→Nat} (hn:∀{a b},nm a=nm b→a=b):∀(l:List (Option α)) (i g:Nat) (v:α),(JcA nm l i).get g=some v↔∃k,g=nm (i+k)∧l[k]?=some (some v)
 | [],i,g,v=>by simp [JcA,T.get_e]
 | x::r,i,g,v=>by
  have ih:=zcQ hn r (i+1) g v;have shift:(∃k,g=nm (i+k)∧(x::r)[k]?=some (some v))↔(g=nm i∧x=some v)∨∃k,g=nm (i+1+k)∧r[k]?=some (some v):=by
   constructor
   ·rintro ⟨k,h1,h2⟩;cases k with
    | zero=>exact .inl ⟨h1,by simpa using h2⟩
    | succ k=>exact .inr ⟨k,by rw [h1];congr 1;omega,by simpa using h2⟩
   ·rintro (⟨h1,h2⟩|⟨k,h1,h2⟩)
    ·exact ⟨0,h1,by simpa using h2⟩
    ·exact ⟨k+1,by rw [h1];congr 1;omega,by simpa using h2⟩
  rw [shift];cases x with
  | none=>
   simp only [JcA];rw [ih];simp
  | some u=>
   simp only [JcA];rw [T.get_upd];by_cases hg:g=nm i
   ·rw [if_pos hg];constructor
    ·intro h;exact .inl ⟨hg,h⟩
    ·rintro (⟨_,h⟩|⟨k,h1,h2⟩)
     ·exact h
     ·exfalso;have:=hn (hg.symm.trans h1);omega
   ·rw [if_neg hg,ih];constructor
    ·exact .inr
    ·rintro (⟨h,_⟩|h)
     ·exact absurd h hg
     ·exact h
def jg5 (n:Nat) (c:Array Value):Blk:=⟨JcA (fun i=>i) (c.toList.map (toV n)) 0,[],c.size,1,false⟩
theorem Zg5 {n:Nat} {c:Array Value} {o:Nat} {v:V}:(jg5 n c).get o=some v↔∃x,c[o]?=some x∧toV n x=some v:=by
 have key:(jg5 n c).cs.get o=some v↔∃x,c[o]?=some x∧toV n x=some v:=by
  show (JcA _ _ 0).get o=some v↔_;rw [zcQ (fun h=>h)]
  constructor
  ·rintro ⟨k,h1,h2⟩;rw [Nat.zero_add] at h1;subst h1;rw [List.getElem?_map,Array.getElem?_toList] at h2;cases hx:c[o]? with
   | none=>rw [hx] at h2;cases h2
   | some x=>rw [hx] at h2;exact ⟨x,rfl,by simpa using h2⟩
  ·rintro ⟨x,h1,h2⟩;exact ⟨o,by rw [Nat.zero_add],by rw [List.getElem?_map,Array.getElem?_toList,h1,Option.map_some,h2]⟩
 unfold Blk.get;cases hb:Nat.blt o (jg5 n c).sz with
 | false=>
  simp only [cond_false];constructor
  ·intro h;cases h
  ·rintro ⟨x,h1,_⟩;have:=(Array.getElem?_eq_some_iff.1 h1).1;have hlt:o<(jg5 n c).sz:=this;rw [←Nat.blt_eq,hb] at hlt;cases hlt
 | true=>
  simp only [cond_true];rw [←key];cases (jg5 n c).cs.get o with
  | some u=>rfl
  | none=>
   have:(jg5 n c).zero=[]:=rfl;simp [this]
def Zi3 (n:Nat):Option Obj→Option Blk
 | some (.cells c _ _)=>some (jg5 n c)
 | _=>none
def hpW (W:World):T Blk:=JcA Jf1 ((List.range W.heap.size).map fun r=>Zi3 W.heap.size W.heap[r]?) 0
theorem Zfi {W:World} {g:Nat} {b:Blk}:(hpW W).get g=some b↔∃r c e fz,g=Jf1 r∧W.heap[r]?=some (.cells c e fz)∧b=jg5 W.heap.size c:=by
 unfold hpW;rw [zcQ Zg4];constructor
 ·rintro ⟨k,h1,h2⟩;rw [Nat.zero_add] at h1;rw [List.getElem?_map] at h2;cases hk:(List.range W.heap.size)[k]? with
  | none=>rw [hk] at h2;cases h2
  | some r=>
   obtain rfl:k=r:=by
    have:=List.getElem?_eq_some_iff.1 hk;obtain ⟨h3,h4⟩:=this;simpa using h4
   rw [hk,Option.map_some,Option.some.injEq] at h2;unfold Zi3 at h2;split at h2
   ·rename_i c e fz ho;exact ⟨k,c,e,fz,h1,ho,(Option.some.inj h2).symm⟩
   ·cases h2
 ·rintro ⟨r,c,e,fz,h1,h2,h3⟩;have hlt:=(Array.getElem?_eq_some_iff.1 h2).1;refine ⟨r,by rw [Nat.zero_add];exact h1,?_⟩
  rw [List.getElem?_map,List.getElem?_range hlt,Option.map_some,h2,h3];rfl
theorem HR.world (W:World):HR (JW W.heap.size) (GL+W.heap.size) W (hpW W).get W:=by
 refine ⟨Old.refl W,fun g b hg=>?_,fun g g' b b' hg hg' he=>?_⟩
 ·obtain ⟨r,c,e,fz,rfl,h2,rfl⟩:=Zfi.1 hg;have hlt:=(Array.getElem?_eq_some_iff.1 h2).1;have hid:Jf1 r<GL+W.heap.size:=zgo hlt;unfold BR;rw [Jg4];refine ⟨hid,c,e,fz,h2,by simp [jg5],fun q=>(by cases q),fun q=>absurd hid (Nat.not_lt.2 q),fun o v hv=>?_⟩
  obtain ⟨x,h4,h5⟩:=Zg5.1 hv;obtain ⟨h6,h7,h8⟩:=zg5 h5;exact ⟨h7,h8,by rw [h6];simpa using h4⟩
 ·obtain ⟨r,c,e,fz,rfl,h2,rfl⟩:=Zfi.1 hg;obtain ⟨r',c',e',fz',rfl,h2',rfl⟩:=Zfi.1 hg';rw [Jg4,Jg4] at he;have:r=r':=he;rw [this]
end Go.Vm
set_option linter.unusedVariables false
namespace Go.Vm
open Go.RowKit Go.ChangeShapes Go.WideShapes Go.ChangeAt
section
variable {H:Type} {enc:TypeId×Value→H} {P:Program}
theorem zcB {w w':World} {base:Nat} {spare:Nat→Bool} {held:Bool}:∀{ts:List TypeId} {vs:List Value} {ds:List (DataW H)} {ps:List MemPlace},DataW.TrodAll enc P w base spare held ts vs ds ps→(∀p∈ps,w.sameAt w' p)→DataW.TrodAll enc P w' base spare held ts vs ds ps
 | [],[],[],_,h,_=>h
 | _::_,_::_,_::_,_,⟨p,q,⟨n,h1⟩,h2,e⟩,hs=>⟨p,q,⟨n,DataW.trod_carry n _ _ _ h1 (fun x hx=>hs x (by rw [e];exact List.mem_append_left _ hx))⟩,zcB h2 (fun x hx=>hs x (by rw [e];exact List.mem_append_right _ hx)),e⟩
theorem jgo (K:Kids P (· < P.types.size)) (hz:∀t e,t<P.types.size→P.underlying t=some (.slice e)→0<P.cellsOf e) {f:Func} {s:ChangeSpec} {W W':World} {args:Array Value} {ds:List (DataW H)} {pa:List MemPlace} {tb:TypeId}
  (hT:∀t∈f.params.toList,t<P.types.size) (hv:s.vars=[]) (hW:DataW.Whole enc P f.params.toList s.vars false W args.toList ds [] pa) (hfn:s.fn H (ds++[]) = { results:=[.lit (.bool true)],args:=ds })
  (hrt:f.resultTypes = #[tb]) (ht:P.underlying tb=some .bool) (hb:Below W.heap.size W W'):s.post enc P f false true false false W args (.bool true) W':=by
 refine jg4 hv hW hfn hrt ht ?_ hb;have hlt:=hW.lt;obtain ⟨p,q,hA,hV,rfl,_,_⟩:=hW;rw [hv] at hV;have hq:q=[]:=hV;subst hq;rw [List.append_nil] at *;refine zcB (DataW.TrodAll.respare K hz hT hA fun p hp=>by simpa using hlt p hp) fun x hx=>?_
 have hx':=hlt x hx;cases x with
 | cell b off=>
  have hbl:b<W.heap.size:=hx';show W'.cell? _=W.cell? _;unfold World.cell?;rw [hb.block b hbl]
 | map b=>exact hb.block b hx'
end
end Go.Vm
set_option linter.unusedVariables false
namespace Go.Vm
open Go.RowKit Go.ChangeShapes Go.WideShapes
end Go.Vm
