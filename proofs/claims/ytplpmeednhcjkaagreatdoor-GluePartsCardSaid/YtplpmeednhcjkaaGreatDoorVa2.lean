/- Lemmas. -/
import Derived.Test.YtplpmeednhcjkaaGreatDoorVa1
import Derived.Laws.Slices
namespace Go.Vm
open Go.RowKit
theorem jbp (z:List V):∀n,(zao z n).length=n*z.length
 | 0=>by simp [zao]
 | n+1=>by simp [zao,jbp z n,Yl];omega
theorem Jcv (z:List V):∀(n i:Nat),i<n*z.length->(zao z n)[i]?=z[i%z.length]?
 | 0,i,h=>by simp at h
 | n+1,i,h=>by
  simp only [zao];by_cases e:i<z.length
  ·rw [List.getElem?_append_left e,Hm e]
  ·rw [List.getElem?_append_right (by omega),Jcv z n (i-z.length) (by rw [Yl] at h;omega)]
   rw [<-Nat.mod_eq_sub_mod (by omega)]
theorem zcw {p:V->Prop} (z:List V) (h:∀v∈z,p v):∀n,∀v∈zao z n,p v
 | 0,v,hv=>by simp [zao] at hv
 | n+1,v,hv=>by
  simp only [zao,Rf] at hv;rcases hv with hv|hv
  ·exact h v hv
  ·exact zcw z h n v hv
section
variable {P:Program} {J:Inj} {ro:Nat} {B:World} {st:St} {w:World}
theorem ZaZ {fr:T V} {f:Operand->Value} (hf:∀x v,zL fr x=some v->f x=v.real J/\v.ok J.nx):∀(ps:List (Nat×Operand)) (r:List (Nat×V)),Jan fr ps=some r->
  (ps.map λx=>(x.1,f x.2))=(r.map λx=>(x.1,x.2.real J))/\∀x∈r,x.2.ok J.nx
 | [],r,h=>by simp only [Jan,xa] at h;subst h;simp
 | (i,o)::ps,r,h=>by
  simp only [Jan] at h;cases h1:zL fr o with
  | none=>simp [h1] at h
  | some v=>
   cases h2:Jan fr ps with
   | none=>simp [h1,h2] at h
   | some ys=>
    simp only [h1,h2,xa] at h;subst h;obtain ⟨q1,q2⟩:=ZaZ hf ps ys h2;obtain ⟨p1,p2⟩:=hf o v h1;refine ⟨by simp [q1,p1],λx hx=>?_⟩
    rcases gc.1 hx with rfl|hx
    ·exact p2
    ·exact q2 x hx
theorem JaF {fr:T V} {f:Operand->Value} (hf:∀x v,zL fr x=some v->f x=v.real J/\v.ok J.nx):∀(ps:List Operand) (r:List V),ja4 fr ps=some r->
  ps.map f=r.map (V.real J)/\V.oks J.nx r
 | [],r,h=>by simp only [ja4,xa] at h;subst h;simp [V.oks]
 | o::ps,r,h=>by
  simp only [ja4] at h;cases h1:zL fr o with
  | none=>simp [h1] at h
  | some v=>
   cases h2:ja4 fr ps with
   | none=>simp [h1,h2] at h
   | some ys=>
    simp only [h1,h2,xa] at h;subst h;obtain ⟨q1,q2⟩:=JaF hf ps ys h2;obtain ⟨p1,p2⟩:=hf o v h1;exact ⟨by simp [q1,p1],p2,q2⟩
theorem zdn (hn:J.nx=st.nx) (hh:HR J ro B st.hp.get w) (hro:ro<=J.nx) {t:TypeId} {len:Nat} {ps:List (Nat×V)} {v:V} {st':St} (hps:∀x∈ps,x.2.ok J.nx)
  (h:zS P st t len ps=some (v,st')) :
  ∃J' w',(Instr.buildSlice t len (ps.map λx=>(x.1,x.2.real J)).toArray).run P w=.ok (v.real J') w'/\v.ok J'.nx/\Post J ro B st w J' st' w':=by
 unfold zS at h;split at h
 ·rename_i e hd;split at h
  ·rename_i n z hs hz;cases hc:(Nat.ble (len*n) 16777216&&Nat.blt 0 n&&Nat.beq z.cells.length n) with
   | false=>simp [hc] at h
   | true=>
    simp only [hc,Qa] at h;simp only [yb,xd,ge,Rc] at hc;obtain ⟨⟨c1,c2⟩,c3⟩:=hc;cases hf:ZcW (λi=>some (i*n,n)) (zao z.cells len) ps with
    | none=>simp [hf] at h
    | some cs=>
     simp only [hf] at h;cases hb:JbE cs n false with
     | none=>simp [hb] at h
     | some b=>
      simp only [hb,jy,xa,xb] at h;obtain ⟨rfl,rfl⟩:=h;obtain ⟨_,_,_,hzok⟩:=zap J J.nx hz;obtain ⟨q1,q2,q3⟩:=Jbv J _ ps _ cs hf;obtain ⟨b1,b2,b3,b4,b5,b6⟩:=JL hb;refine ⟨J.push (w.heap.size,0,0),w.alloc (.cells (cs.map (V.real J)).toArray e),?_,?_,?_⟩
      ·have hcells:(Array.range (len*n)).map (λi=>(if len*n=0 then (#[]:Array Value) else (z.real J).cells)[i%(if len*n=0 then (#[]:Array Value) else (z.real J).cells).size]!)=((zao z.cells len).map (V.real J)).toArray:=by
        apply Ri;apply List.ext_getElem?;intro i;by_cases hi:i<len*n
        ·have h0:¬len*n=0:=by omega
         have hlen:(z.real J).cells.size=n:=by rw [Vcr];simp [c3]
         have hm:i%n<z.cells.length:=by rw [c3];exact gh _ c2
         simp only [h0,if_false,Array.toList_map,Array.toList_range,List.getElem?_map,List.getElem?_range hi,yg,hlen];rw [Jcv _ _ _ (by rw [c3];exact hi),c3,List.getElem?_eq_getElem hm,yg]
         rw [Vcr];simp [hm]
        ·have:(zao z.cells len).length<=i:=by rw [jbp,c3];omega
         simp [hi,List.getElem?_eq_none this]
       have hbig:¬(len*n > 2^24):=by omega
       have hfin:(V.sl st.nx 0 len len false).real (J.push (w.heap.size,0,0))=.slice (some ⟨w.heap.size,0,none⟩) len len:=by
        rw [<-hn];simp [V.real,Ips]
       rw [hfin];unfold Instr.buildSlice;by_cases h0:len*n=0
       ·simp only [h0,if_true] at hcells;simp only [Qd,run_underlying hd,Yd,ZW w hs,h0,if_true,pure_bind];rw [ga (by omega),hcells,q1]
        simp [newRow]
       ·simp only [h0,if_false] at hcells;simp only [Qd,run_underlying hd,Yd,ZW w hs,h0,if_false,pure_bind];rw [ga hbig];simp only [Qd,ja8 J hz,Yd];rw [hcells,q1];simp [newRow]
      ·simp only [V.ok,Inj.push];omega
      ·refine jcX hn hh hro (by simp [b1]) (by simp [b3]) (λo _=>by simp) (λo u hu=>?_)
       rw [b5] at hu;have hm:=List.mem_of_getElem? hu;exact ⟨q3 J.nx hps (zcw _ (V.ok_cells hzok) len) u hm,b6 u hm,by simp [hu]⟩
  ·simp at h
 ·simp at h
theorem jdn {t:TypeId} {len:Nat} {ps:List (Nat×V)} {v:V} {st':St} (h:zS P st t len ps=some (v,st')) :
  ∃e n cs b,JbE cs n false=some b/\(∀st2:St,zS P st2 t len ps=some (.sl st2.nx 0 len len false,St.alloc ⟨st2.nx,st2.hp,st2.ver⟩ b))/\
   ∀(J:Inj),(∀x∈ps,x.2.ok J.nx)->(∀u∈cs,u.ok J.nx)/\∀w:World,(Instr.buildSlice t len (ps.map λx=>(x.1,x.2.real J)).toArray).run P w=.ok (.slice (some ⟨w.heap.size,0,none⟩) len len) (w.alloc (.cells (cs.map (V.real J)).toArray e)):=by
 unfold zS at h;split at h
 ·rename_i e hd;split at h
  ·rename_i n z hs hz;cases hc:(Nat.ble (len*n) 16777216&&Nat.blt 0 n&&Nat.beq z.cells.length n) with
   | false=>simp [hc] at h
   | true=>
    simp only [hc,Qa] at h;have hc':=hc;simp only [yb,xd,ge,Rc] at hc;obtain ⟨⟨c1,c2⟩,c3⟩:=hc;cases hf:ZcW (λi=>some (i*n,n)) (zao z.cells len) ps with
    | none=>simp [hf] at h
    | some cs=>
     simp only [hf] at h;cases hb:JbE cs n false with
     | none=>simp [hb] at h
     | some b=>
      refine ⟨e,n,cs,b,hb,λst2=>by simp only [zS,hd,hs,hz,hc',Qa,hf,hb,jy],λJ hps=>?_⟩
      obtain ⟨_,_,_,hzok⟩:=zap J J.nx hz;obtain ⟨q1,q2,q3⟩:=Jbv J _ ps _ cs hf;refine ⟨λu hu=>q3 J.nx hps (zcw _ (V.ok_cells hzok) len) u hu,λw=>?_⟩
      have hcells:(Array.range (len*n)).map (λi=>(if len*n=0 then (#[]:Array Value) else (z.real J).cells)[i%(if len*n=0 then (#[]:Array Value) else (z.real J).cells).size]!)=((zao z.cells len).map (V.real J)).toArray:=by
       apply Ri;apply List.ext_getElem?;intro i;by_cases hi:i<len*n
       ·have h0:¬len*n=0:=by omega
        have hlen:(z.real J).cells.size=n:=by rw [Vcr];simp [c3]
        have hm:i%n<z.cells.length:=by rw [c3];exact gh _ c2
        simp only [h0,if_false,Array.toList_map,Array.toList_range,List.getElem?_map,List.getElem?_range hi,yg,hlen];rw [Jcv _ _ _ (by rw [c3];exact hi),c3,List.getElem?_eq_getElem hm,yg]
        rw [Vcr];simp [hm]
       ·have:(zao z.cells len).length<=i:=by rw [jbp,c3];omega
        simp [hi,List.getElem?_eq_none this]
      have hbig:¬(len*n > 2^24):=by omega
      unfold Instr.buildSlice;by_cases h0:len*n=0
      ·simp only [h0,if_true] at hcells;simp only [Qd,run_underlying hd,Yd,ZW w hs,h0,if_true,pure_bind];rw [ga (by omega),hcells,q1]
       simp [newRow]
      ·simp only [h0,if_false] at hcells;simp only [Qd,run_underlying hd,Yd,ZW w hs,h0,if_false,pure_bind];rw [ga hbig];simp only [Qd,ja8 J hz,Yd];rw [hcells,q1];simp [newRow]
  ·simp at h
 ·simp at h
end
end Go.Vm
namespace Go.Vm
open Go.RowKit
section
variable {P:Program} {J:Inj} {ro:Nat} {B:World} {st:St} {w:World}
theorem zdF (hn:J.nx=st.nx) (hh:HR J ro B st.hp.get w) (hro:ro<=J.nx) {t:TypeId} {len cap:Int} {kl kc:IntKind} {v:V} {st':St}
  (h:JaS P st t len cap=some (v,st')) :
  ∃J' w',(Instr.makeSlice t (.int kl len) (.int kc cap)).run P w=.ok (v.real J') w'/\v.ok J'.nx/\Post J ro B st w J' st' w':=by
 unfold JaS at h;split at h
 ·rename_i e hd;split at h
  ·rename_i ti z hi hz;generalize hcd:(ile 0 len&&ile len cap&&ile (ti.bytes*cap) 1099511627776&&ile cap 1099511627776&&Nat.blt 0 ti.size&&Nat.beq z.cells.length ti.size&&z.cells.all V.atom)=c at h;cases c with
   | false=>simp at h
   | true=>
    simp only [Qa,jy,xa,xb] at h;obtain ⟨rfl,rfl⟩:=h;simp only [yb,ile,xc,ge,Rc,Hk] at hcd;obtain ⟨⟨⟨⟨⟨⟨c1,c2⟩,c3⟩,c4⟩,c5⟩,c6⟩,c7⟩:=hcd;obtain ⟨ti',z1,z2,zok⟩:=zap J J.nx hz;rw [hi,xa] at z1;subst z1;have hr:=run_make (P:=P) w t e ti (z.real J) hd hi z2 kl kc len cap c1 c2 (by omega) (by omega)
    refine ⟨J.push (w.heap.size,0,0),_,?_,?_,jcX hn hh hro (b:=⟨.e,z.cells,cap.toNat*ti.size,ti.size,false⟩) (x:=0) (e:=e) (c:=madeCells (z.real J).cells (cap.toNat*ti.size)) (fz:=(0,0)) (by rw [size_madeCells];exact Ra _) (by simp) (λo _=>by simp) (λo u hu=>?_)⟩
    ·rw [hr,<-hn];simp [V.real,Ips]
    ·simp only [V.ok,Inj.push];omega
    ·have ho:=Blk.get_lt hu;dsimp only at ho;simp only [Blk.get,T.get_e] at hu;rw [show Nat.blt o (cap.toNat*ti.size)=true from by rw [ge];exact ho,Qa] at hu
     have hm:=List.mem_of_getElem? hu;refine ⟨V.ok_cells zok u hm,c7 u hm,?_⟩;have hlen:(z.real J).cells.size=ti.size:=by rw [Vcr];simp [c6]
     have hmod:o%ti.size<z.cells.length:=by rw [c6];exact gh _ c5
     rw [List.getElem?_eq_getElem hmod,xa] at hu;subst hu;simp only [madeCells,hlen];rw [Array.getElem?_map,Array.getElem?_range,ya ho,yg];rw [Vcr];simp [hmod]
  ·simp at h
 ·simp at h
end
end Go.Vm
namespace Go.Vm
open Go.RowKit
section
variable {P:Program} {J:Inj} {ro:Nat} {B:World} {st:St} {w:World}
theorem J6 {x:V} {y m:Nat} (h:zbj x y=some m) (code:BoundsCode):(Instr.sliceBound (x.real J) y code).run P w=.ok m w/\m<=y:=by
 unfold zbj at h;split at h
 ·rename_i k n;generalize hc:(ile 0 n&&ile n y)=c at h;cases c with
  | false=>simp at h
  | true=>
   simp only [Qa,jy,xa] at h;simp only [yb,ile,xc] at hc;subst h;simp only [V.real];exact ⟨run_sliceBound w k n y code hc.1 hc.2,by omega⟩
 ·simp at h
theorem zaG {isS:Bool} {len cap capr:Nat} {lo hi mx:Option V} {l h m:Nat} (hcap:cap<=capr) (hmx:mx=none\/hi.isSome=true) (hl:len<=cap) (e:zB len cap lo hi mx=some (l,h,m)) :
  (Instr.sliceBounds isS len capr (lo.map (V.real J)) (hi.map (V.real J)) (mx.map (V.real J))).run P w=.ok (l,h,if mx.isSome then m else capr) w/\l<=h/\h<=m/\m<=cap/\(mx=none->m=cap):=by
 have up:∀{x:V} {a b k:Nat} (code:BoundsCode),a<=b->zbj x a=some k->(Instr.sliceBound (x.real J) b code).run P w=.ok k w:=by
  intro x a b k code hab hx;unfold zbj at hx;split at hx
  ·rename_i kk n;generalize hc:(ile 0 n&&ile n a)=c at hx;cases c with
   | false=>simp at hx
   | true=>
    simp only [Qa,jy,xa] at hx;simp only [yb,ile,xc] at hc;subst hx;simp only [V.real];exact run_sliceBound w kk n b code hc.1 (by omega)
  ·simp at hx
 unfold zB at e;cases mx with
 | none=>
  simp only [jaa] at e;cases hi with
  | none=>
   simp only at e;cases lo with
   | none=>
    simp only [xa,xb] at e;obtain ⟨rfl,rfl,rfl⟩:=e;refine ⟨by simp [Instr.sliceBounds],by omega,hl,Ra _,λ_=>rfl⟩
   | some x=>
    simp only at e;cases hx:zbj x len with
    | none=>simp [hx] at e
    | some k=>
     simp only [hx,xa,xb] at e;obtain ⟨rfl,rfl,rfl⟩:=e;refine ⟨?_,(J6 (P:=P) (J:=J) (w:=w) hx .sliceB).2,hl,Ra _,λ_=>rfl⟩
     simp [Instr.sliceBounds,(J6 (P:=P) (J:=J) (w:=w) hx .sliceB).1]
  | some y=>
   simp only at e;cases hy:zbj y cap with
   | none=>simp [hy] at e
   | some q=>
    simp only [hy] at e;have hy':=λcode=>up (b:=capr) code hcap hy
    have hq:=(J6 (P:=P) (J:=J) (w:=w) hy .sliceB).2;cases lo with
    | none=>
     simp only [xa,xb] at e;obtain ⟨rfl,rfl,rfl⟩:=e;refine ⟨?_,by omega,hq,Ra _,λ_=>rfl⟩
     simp [Instr.sliceBounds,hy']
    | some x=>
     simp only at e;cases hx:zbj x q with
     | none=>simp [hx] at e
     | some k=>
      simp only [hx,xa,xb] at e;obtain ⟨rfl,rfl,rfl⟩:=e;refine ⟨?_,(J6 (P:=P) (J:=J) (w:=w) hx .sliceB).2,hq,Ra _,λ_=>rfl⟩
      simp [Instr.sliceBounds,hy',(J6 (P:=P) (J:=J) (w:=w) hx .sliceB).1]
 | some z=>
  simp only [jaa] at e;cases hz:zbj z cap with
  | none=>simp [hz] at e
  | some p=>
   simp only [hz] at e;have hz':=λcode=>up (b:=capr) code hcap hz
   have hp:=(J6 (P:=P) (J:=J) (w:=w) hz .sliceB).2;cases hi with
   | none=>simp at hmx
   | some y=>
    simp only at e;cases hy:zbj y p with
    | none=>simp [hy] at e
    | some q=>
     simp only [hy] at e;have hy':=λcode=>(J6 (P:=P) (J:=J) (w:=w) hy code).1
     have hq:=(J6 (P:=P) (J:=J) (w:=w) hy .sliceB).2;cases lo with
     | none=>
      simp only [xa,xb] at e;obtain ⟨rfl,rfl,rfl⟩:=e;refine ⟨?_,by omega,hq,hp,by simp⟩
      simp [Instr.sliceBounds,hy',hz']
     | some x=>
      simp only at e;cases hx:zbj x q with
      | none=>simp [hx] at e
      | some k=>
       simp only [hx,xa,xb] at e;obtain ⟨rfl,rfl,rfl⟩:=e;refine ⟨?_,(J6 (P:=P) (J:=J) (w:=w) hx .sliceB).2,hq,hp,by simp⟩
       simp [Instr.sliceBounds,hy',hz',λcode=>(J6 (P:=P) (J:=J) (w:=w) hx code).1]
end
end Go.Vm
namespace Go.Vm
open Go.RowKit
section
variable {P:Program} {J:Inj} {ro:Nat} {B:World} {st:St} {w:World}
theorem jdF {n:Nat} {t:TypeId} {x v:V} {lo hi mx:Option V} (hx:x.ok n) (h:jao P t x lo hi mx=some v) :
  (Instr.sliceAt t (x.real J) (lo.map (V.real J)) (hi.map (V.real J)) (mx.map (V.real J))).run P w=.ok (v.real J) w/\v.ok n:=by
 unfold jao at h;split at h
 ·rename_i len bits e;cases mx with
  | some z=>simp at h
  | none=>
   simp only at h;cases hb:zB len len lo hi none with
   | none=>simp [hb] at h
   | some q=>
    obtain ⟨l,hh,m⟩:=q;simp only [hb,xa] at h;subst h;simp only [V.ok] at hx;obtain ⟨r1,r2,r3,r4,r5⟩:=zaG (P:=P) (J:=J) (w:=w) (isS:=false) (capr:=len) (Ra _) (.inl rfl) (Ra _) hb;have hs:(⟨(Jf len bits).toArray⟩:ByteArray).size=len:=by simp [ByteArray.size,zp]
    refine ⟨?_,by simp only [ZiK,V.ok];exact gh _ (Nat.pow_pos (by decide))⟩
    simp only [V.real,Instr.sliceAt,Qd,run_underlying e,Yd,Instr.slice,Option.map_none];simp only [Option.map_none,gp] at r1;simp only [hs,r1,Yd,gp,yd,if_false,Yf,Qd];rw [ByteArray.extract_mk,ZiK,V.real,jcv len bits l hh r2 (by omega)]
 ·rename_i el g off len cap op e;cases hs:zaa P el with
  | none=>simp [hs] at h
  | some k=>
   simp only [hs] at h;have hmx:mx=none\/hi.isSome=true:=by cases hi <;> cases mx <;> simp_all
   have h':(match zB len cap lo hi mx with
    | some (l,h,m)=>cond (op&&mx.isNone)
     (cond (Nat.blt l cap||Nat.beq l 0) (some (V.sl g (off+l*k) (h-l) (cap-l) true)) (some (V.se g off (off+l*k))))
     (some (V.sl g (cond (Nat.beq m l) off (off+l*k)) (h-l) (m-l) false))
    | none=>none)=some v:=by
    cases hi <;> cases mx <;> first|exact h|simp at h
   clear h;cases hb:zB len cap lo hi mx with
   | none=>simp [hb] at h'
   | some q=>
    obtain ⟨l,hh,m⟩:=q;simp only [hb] at h';simp only [V.ok] at hx;obtain ⟨r1,r2,r3,r4,r5⟩:=zaG (P:=P) (J:=J) (w:=w) (isS:=true) (capr:=cap+cond op (J.m g).2.2 0) (by omega) hmx hx.2 hb
    simp only [V.real,Instr.sliceAt,Qd,run_underlying e,Yd,Instr.slice,r1,ZW w hs,Yf];cases hc:(op&&mx.isNone) with
    | true=>
     simp only [hc,Qa] at h';simp only [yb,Option.isNone_iff_eq_none] at hc;obtain ⟨rfl,rfl⟩:=hc;have hm:=r5 rfl;subst hm;generalize hd:(Nat.blt l m||Nat.beq l 0)=d at h';cases d with
     | false=>
      simp only [Qa,Yc,xa] at h';subst h';simp only [Hl] at hd;have d1:¬l<m:=λq=>by rw [<-ge,hd.1] at q;cases q
      refine ⟨?_,by simp only [V.ok];omega⟩
      have d3:hh-l=0:=by omega
      simp only [V.real,Qa,gp,yd,if_false,Result.ok.injEq,Value.slice.injEq,and_true,true_and,d3];refine ⟨?_,by omega⟩
      by_cases hml:(J.m g).2.2=0
      ·rw [ya (by omega),hml]
       simp
      ·rw [ga (by omega),show Nat.beq (J.m g).2.2 0=false from by rw [dl];intro q;rw [Rc] at q;exact hml q]
       simp [Addr.add_lit,Qf]
     | true=>
      simp only [Qa,xa] at h';subst h';simp only [xg,ge,Rc] at hd;refine ⟨?_,by simp only [V.ok];omega⟩
      simp only [V.real,Qa,gp,yd,if_false,Result.ok.injEq,Value.slice.injEq,and_true,true_and];refine ⟨?_,by omega⟩
      by_cases hml:m+(J.m g).2.2=l
      ·rw [ya hml];have:l=0:=by omega
       subst this;simp
      ·rw [ga hml];simp [Addr.add_lit,Qf]
    | false=>
     simp only [hc,Yc,xa] at h';subst h';refine ⟨?_,by simp only [V.ok];omega⟩
     have hM:(if mx.isSome=true then m else cap+cond op (J.m g).2.2 0)=m:=by
      cases mx with
      | some z=>simp
      | none=>
       have:op=false:=by simpa using hc
       subst this;simp [r5 rfl]
     rw [hM];simp only [V.real,Yc,Re,Result.ok.injEq,Value.slice.injEq,and_true];by_cases hml:m=l
     ·subst hml;simp
     ·have:Nat.beq m l=false:=by rw [dl];intro h;rw [Rc] at h;exact hml h
      simp [hml,this,Addr.add_lit,Qf]
 ·rename_i el e;cases hs:zaa P el with
  | none=>simp [hs] at h
  | some k=>
   simp only [hs] at h;have hmx:mx=none\/hi.isSome=true:=by cases hi <;> cases mx <;> simp_all
   have h':(match zB 0 0 lo hi mx with
    | some _=>some V.sn
    | none=>none)=some v:=by
    cases hi <;> cases mx <;> first|exact h|simp at h
   clear h;cases hb:zB 0 0 lo hi mx with
   | none=>simp [hb] at h'
   | some q=>
    obtain ⟨l,hh,m⟩:=q;simp only [hb,xa] at h';subst h';obtain ⟨r1,r2,r3,r4,r5⟩:=zaG (P:=P) (J:=J) (w:=w) (isS:=true) (capr:=0) (Ra _) hmx (Ra _) hb;refine ⟨?_,by simp [V.ok]⟩
    have:m=0:=by omega
    subst this;have:hh=0:=by omega
    subst this;have:l=0:=by omega
    subst this;simp [V.real,Instr.sliceAt,run_underlying e,Instr.slice,r1,ZW w hs]
 ·rename_i el g off off2 e;split at h
  ·rename_i k hs;cases hb:zB 0 0 lo hi none with
   | none=>simp [hb] at h
   | some q=>
    obtain ⟨l,hh,m⟩:=q;simp only [hb,xa] at h;subst h;obtain ⟨r1,r2,r3,r4,r5⟩:=zaG (P:=P) (J:=J) (w:=w) (isS:=true) (capr:=(J.m g).2.2) (dg _) (.inl rfl) (Ra _) hb;refine ⟨?_,by simpa [V.ok] using hx⟩
    have:m=0:=r5 rfl;subst this;have:hh=0:=by omega
    subst this;have:l=0:=by omega
    subst this;simp only [Option.map_none,gp] at r1;simp [V.real,Instr.sliceAt,run_underlying e,Instr.slice,r1,ZW w hs];intro _;simp [Addr.add]
  ·cases h
 ·rename_i el a e;split at h
  ·rename_i k hs;cases hb:zB 0 0 lo hi none with
   | none=>simp [hb] at h
   | some q=>
    obtain ⟨l,hh,m⟩:=q;simp only [hb,xa] at h;subst h;obtain ⟨r1,r2,r3,r4,r5⟩:=zaG (P:=P) (J:=J) (w:=w) (isS:=true) (capr:=0) (dg _) (.inl rfl) (Ra _) hb;refine ⟨?_,by simp [V.ok]⟩
    have:m=0:=r5 rfl;subst this;have:hh=0:=by omega
    subst this;have:l=0:=by omega
    subst this;simp only [Option.map_none,gp] at r1;simp [V.real,Instr.sliceAt,run_underlying e,Instr.slice,r1,ZW w hs]
  ·cases h
 ·rename_i len el g off e;cases hs:zaa P el with
  | none=>simp [hs] at h
  | some k=>
   simp only [hs] at h;have hmx:mx=none\/hi.isSome=true:=by cases hi <;> cases mx <;> simp_all
   have h':(match zB len len lo hi mx with
    | some (l,h,m)=>some (V.sl g (cond (Nat.beq m l) off (off+l*k)) (h-l) (m-l) false)
    | none=>none)=some v:=by
    cases hi <;> cases mx <;> first|exact h|simp at h
   clear h;cases hb:zB len len lo hi mx with
   | none=>simp [hb] at h'
   | some q=>
    obtain ⟨l,hh,m⟩:=q;simp only [hb,xa] at h';subst h';simp only [V.ok] at hx;obtain ⟨r1,r2,r3,r4,r5⟩:=zaG (P:=P) (J:=J) (w:=w) (isS:=false) (capr:=len) (Ra _) hmx (Ra _) hb;refine ⟨?_,by simp only [V.ok];omega⟩
    have hM:(if mx.isSome=true then m else len)=m:=by
     cases mx with
     | some z=>simp
     | none=>simp [r5 rfl]
    rw [hM] at r1;simp only [V.real,Instr.sliceAt,Qd,run_underlying e,Yd,Instr.sureAddr,Yf,r1,ZW w hs];by_cases hml:m=l
    ·subst hml;simp
    ·have:Nat.beq m l=false:=by rw [dl];intro h;rw [Rc] at h;exact hml h
     simp [hml,this,Addr.add_lit,Qf]
 ·simp at h
end
end Go.Vm
namespace Go.Vm
open Go.RowKit
theorem ZaK:∀(n x:Nat),Zao n x=(Jf n x).map λc=>V.i .u8 (.ofNat c.toNat)
 | 0,_=>rfl
 | n+1,x=>by
  have:x%256%2^8=x%256:=by omega
  simp [Zao,Jf,ZaK n,this]
section
variable {P:Program} {J:Inj} {ro:Nat} {B:World} {st:St} {w:World}
theorem Ze0 {x:V} {n:Nat} (h:Zfu x=some n):(Builtin.lenOf (x.real J)).run P w=.ok n w:=by
 unfold Zfu at h;split at h <;> simp only [xa,reduceCtorEq] at h <;> subst h <;> simp [V.real,Builtin.lenOf,ByteArray.size,zp]
theorem Zew (s n x:Nat) (h:n<=s):((⟨(Jf s x).toArray⟩:ByteArray).extract 0 n).data.toList=Jf n x:=by
 rw [ByteArray.extract_mk];have:=jcv s x 0 n (by omega) h
 simp only [Yn,Nat.pow_zero,Nat.div_one] at this;simp only [Yn];rw [<-this,ZdC]
theorem jbF (hh:HR J ro B st.hp.get w) {es n m:Nat} {x:V} {cs:List V} (hx:x.ok J.nx) (hl:Zfu x=some m) (hm:n<=m)
  (h:zaS st es n x=some cs) :
  (Builtin.firstCells es n (x.real J)).run P w=.ok (cs.map (V.real J)).toArray w/\cs.length=n*es/\(∀v∈cs,v.ok J.nx)/\∀v∈cs,v.atom=true:=by
 unfold zaS at h;split at h
 ·simp only [xa] at h;subst h;simp only [Zfu,xa] at hl;subst hl;have:n=0:=by omega
  subst this;simp [V.real,Builtin.firstCells]
 ·rename_i s y;cases hes:Nat.beq es 1 with
  | false=>simp [hes] at h
  | true=>
  simp only [hes,Qa,xa] at h;subst h;simp only [Zfu,xa] at hl;subst hl;simp only [V.ok] at hx;have he:=Nat.eq_of_beq_eq_true hes;subst he;rw [ZaK];refine ⟨?_,by simp [zp],?_,?_⟩
  ·simp only [V.real,Builtin.firstCells,Yf,Result.ok.injEq,and_true];apply Ri;rw [Array.toList_map,Zew s n y hm];simp [V.real]
  ·intro v hv;obtain ⟨c,_,rfl⟩:=xm.1 hv;simp [V.ok]
  ·intro v hv;obtain ⟨c,_,rfl⟩:=xm.1 hv;rfl
 ·rename_i g off len cap op;cases hb:st.hp.get g with
  | none=>simp [hb] at h
  | some b=>
   simp only [hb] at h;obtain ⟨q1,q2,q3,q4⟩:=(hh.blk g b hb).row (P:=P) h;exact ⟨by simp only [V.real,Builtin.firstCells];exact q1,q2,q3,q4⟩
 ·cases hz:Nat.beq n 0 with
  | false=>simp [hz] at h
  | true=>
   simp only [hz,Qa,xa] at h;subst h;rw [Rc] at hz;subst hz;simp [V.real,Builtin.firstCells,loadCells,loadCellsFrom]
 ·cases hz:Nat.beq n 0 with
  | false=>simp [hz] at h
  | true=>
   simp only [hz,Qa,xa] at h;subst h;rw [Rc] at hz;subst hz;simp [V.real,Builtin.firstCells,loadCells,loadCellsFrom]
 ·simp at h
theorem Je0 (n:Nat):∀(r c:Nat),c<=n->Builtin.growBy n r c<=n+(n+768) / 4
 | 0,c,h=>by simp only [Builtin.growBy];omega
 | r+1,c,h=>by
  simp only [Builtin.growBy];split
  ·omega
  ·by_cases e:c+(c+768) / 4<=n
   ·exact Je0 n r _ e
   ·cases r with
    | zero=>simp only [Builtin.growBy];omega
    | succ r=>simp only [Builtin.growBy];rw [ya (by omega)];omega
theorem ZdF (need old:Nat) (h:old<need):Builtin.nextslicecap need old<=2*need+192:=by
 unfold Builtin.nextslicecap;split
 ·omega
 ·split
  ·omega
  ·have:=Je0 need 4 old (by omega)
   omega
theorem ze1 {P:Program}:∀(vs:List Value) (w:World) (r s i:Nat) (c:Array Value) (e:TypeId) (fz:Nat×Nat),w.heap[r]?=some (.cells c e fz)->s+i+vs.length<=c.size->
  (∀o,o<c.size->(decide (fz.1<=o)&&decide (o<fz.2))=false)->(∀v∈vs,v.oneCell'=true)->
  ∃w' c',(storeCells ⟨r,s,none⟩ vs i).run P w=.ok () w'/\w'.heap[r]?=some (.cells c' e fz)/\c'.size=c.size/\(∀o,c'[o]?=if s+i<=o/\o<s+i+vs.length then vs[o-(s+i)]? else c[o]?)/\
   (∀k,k≠r->w'.heap[k]?=w.heap[k]?)/\w'.heap.size=w.heap.size/\w'.os=w.os/\w'.tape=w.tape/\w'.output=w.output
 | [],w,r,s,i,c,e,fz,hc,_,_,_=>⟨w,c,rfl,hc,rfl,λo=>by rw [ga (by simp)],λ_ _=>rfl,rfl,rfl,rfl,rfl⟩
 | v::vs,w,r,s,i,c,e,fz,hc,hl,hf,h1=>by
  simp only [da] at hl;have hsome:w.cell? ⟨r,s+i,none⟩=some c[s+i]:=by simp [World.cell?,hc,Array.getElem?_eq_getElem (show s+i<c.size by omega)]
  have hfr:w.frozen? ⟨r,s+i,none⟩=false:=by
   have:=hf (s+i) (by omega)
   simp only [World.frozen?,hc];exact this
  have hself:(w.setCell ⟨r,s+i,none⟩ v).heap[r]?=some (.cells (c.setIfInBounds (s+i) v) e fz):=by
   simp only [World.setCell,Array.getElem?_modify,hc,if_true,yg];rfl
  obtain ⟨w',c',q1,q2,q3,q4,q5,q6,q7,q8,q9⟩:=ze1 (P:=P) vs (w.setCell ⟨r,s+i,none⟩ v) r s (i+1) _ e fz hself (by rw [Qh];omega) (by rw [Qh];exact hf) (λx hx=>h1 x (gd _ hx))
  refine ⟨w',c',?_,q2,by rw [q3,Qh],λo=>?_,λk hk=>by rw [q5 k hk];exact Below.heap_setCell _ _ _ _ hk,by rw [q6];simp [World.setCell],q7,q8,q9⟩
  ·unfold storeCells;rw [Qd,Addr.add_lit,run_store P w _ _ .plain (h1 v (yc ..)),hsome];simp only [hfr,yd,if_false,Yd];exact q1
  ·rw [q4 o];by_cases e1:o=s+i
   ·subst e1;rw [ga (by omega),ya (by simp),Array.getElem?_setIfInBounds_self_of_lt (by omega)]
    simp
   ·by_cases e2:s+(i+1)<=o/\o<s+(i+1)+vs.length
    ·rw [ya e2,ya (by simp;omega),show o-(s+i)=(o-(s+(i+1)))+1 from by omega]
     simp
    ·rw [ga e2,ga (by simp;omega),Array.getElem?_setIfInBounds_ne (by omega)]
def Zib (b b1:Blk) (off k es:Nat) (new:List V):Prop:=
 b1.sz=k+new.length/\b1.es=es/\b1.op=true/\b1.zero=[]/\(k=0\/off+k<=b.sz)/\∀o v,b1.get o=some v->(o<k/\b.get (off+o)=some v)\/(k<=o/\new[o-k]?=some v)
theorem jfw {b b1:Blk} {off len es:Nat} {new:List V} (hz:b.op=true->b.zero=[]) (h:JcH b off len es new=some b1):Zib b b1 off (len*es) es new:=by
 unfold JcH at h;generalize hc:(b.op&&Nat.beq off 0&&Nat.beq (len*es) b.sz&&Nat.beq b.es es)=c at h;cases c with
 | true=>
  simp only [Qa,Blk.grow] at h;simp only [yb,Rc] at hc;obtain ⟨⟨⟨c1,rfl⟩,c3⟩,c4⟩:=hc;obtain ⟨p1,p2,p3,p4,p5,p6,p7⟩:=Blk.put_spec _ _ _ _ h;refine ⟨by rw [p1,c3],by rw [p2];exact c4,by rw [p3],by rw [p4];exact hz c1,.inr (by omega),λo v hv=>?_⟩
  rw [p5 o] at hv;rw [c3];by_cases e:b.sz<=o/\o<b.sz+new.length
  ·rw [ya e] at hv;exact .inr ⟨e.1,hv⟩
  ·rw [ga e] at hv;have ho:=Blk.get_lt hv;dsimp only at ho;have ho':o<b.sz:=by omega
   refine .inl ⟨ho',?_⟩;simp only [Blk.get,dd] at hv |-;rw [show Nat.blt o (b.sz+new.length)=true from by rw [ge];exact ho,Qa] at hv
   rw [show Nat.blt o b.sz=true from by rw [ge];exact ho',Qa]
   exact hv
 | false=>
  simp only [Yc] at h;cases hr:b.row (len*es) off with
  | none=>simp [hr] at h
  | some old=>
   simp only [hr] at h;obtain ⟨b1',b2,b3,b4,b5,b6⟩:=JL h;obtain ⟨r1,r2⟩:=Blk.row_spec _ _ _ hr;refine ⟨by rw [b1'];simp [r1],b2,b3,b4,?_,λo v hv=>?_⟩
   ·rcases Nat.eq_zero_or_pos (len*es) with h0|h0
    ·exact .inl h0
    ·have hx:len*es-1<old.length:=by omega
     have:=Blk.get_lt (r2 (len*es-1) _ (List.getElem?_eq_getElem hx));exact .inr (by omega)
   rw [b5 o] at hv;by_cases e:o<len*es
   ·rw [List.getElem?_append_left (by omega)] at hv
    exact .inl ⟨e,r2 o v hv⟩
   ·rw [List.getElem?_append_right (by omega),r1] at hv
    exact .inr ⟨by omega,hv⟩
theorem Jew {e:TypeId} {n:Nat} (h:Za4 P e n=true):∃z:V,Zba P e=some z/\z.cells.length=n:=by
 unfold Za4 at h;cases hz:Zba P e with
 | none=>simp [hz] at h
 | some z=>simp only [hz,Rc] at h;exact ⟨z,rfl,h⟩
theorem jdg {c:Array Value} {a:Addr} {n k:Nat} {w:World} (hc:∀j,j<n->w.cell? (a.add j)=c[k+j]?) (hk:k+n<=c.size) :
  (loadCells a n).run P w=.ok (c.extract k (k+n)) w:=by
 have:=run_loadCells (P:=P) (w:=w) a n (λj=>c[k+j]?.getD undef) (λj hj=>by rw [hc j hj,Array.getElem?_eq_getElem (by omega)];rfl)
 rw [this];congr 1;apply Array.ext
 ·simp;omega
 ·intro i h1 h2;simp at h1 h2;simp;rw [Array.getElem?_eq_getElem (by omega)];rfl
theorem JdF (hn:J.nx=st.nx) (hh:HR J ro B st.hp.get w) (hro:ro<=J.nx) {h0:Nat->Option Blk} (hless:∀g b,h0 g=some b->st.hp.get g=some b) {b1:Blk} {k es x:Nat} {old new:Array Value} {newV:List V} {rest:Array Value} {e:TypeId} {hp:T Blk} {ver:Nat}
  (hhp:∀g,hp.get g=h0 g) (hver:ver<=st.ver) (hext:∀g b,st.hp.get g=some b->g<ver->h0 g=some b)
  (hk:old.size=k) (hnew:new=(newV.map (V.real J)).toArray) (hrest:rest.size=x*es) (hes:b1.es=es) (hsz:b1.sz=k+newV.length) (hz:b1.zero=[])
  (hold:∀o v,b1.get o=some v->(o<k/\v.ok J.nx/\v.atom=true/\old[o]?=some (v.real J))\/(k<=o/\newV[o-k]?=some v)) (hnv:∀v∈newV,v.ok J.nx) (hna:∀v∈newV,v.atom=true) :
  Post J ro B st w (J.push (w.heap.size,0,x)) (St.alloc ⟨st.nx,hp,ver⟩ b1) (w.drew.alloc (.cells (old++new++rest) e)):=by
 subst hnew;have hh0:HR J ro B h0 w.drew:=(hh.less hless).congr rfl;have hal:=hh0.alloc (b:=b1) (x:=x) (c:=old++(newV.map (V.real J)).toArray++rest) (e:=e) (fz:=(0,0)) (by simp;omega) (λ_=>⟨by simp [hes];omega,hz⟩) (λo _=>by simp) (λo v hv=>?_)
 ·refine ⟨J.le_push _,by show J.nx+1=st.nx+1;omega,?_,(Below.drew (Below.refl B.heap.size w)).alloc hh.base.size _,⟨di _,hver,λg bk hg he=>?_⟩,Ho hro,?_⟩
  ·show HR _ ro B (hp.upd st.nx (some b1)).get _;rw [Jao,show hp.get=h0 from funext hhp]
   rw [hn] at hal;exact hal
  ·have hlt:=(hh.blk g bk hg).1;show (hp.upd st.nx (some b1)).get g=some bk;rw [Tgu,ga (by omega),hhp]
   exact hext g bk hg he
  ·refine Fr.push (h0:=h0) hless (λg b hg=>(hh.blk g b hg).1) (.inl (Ra _)) (λg bk hg=>?_) (λi hi _=>?_)
   ·have hg:(hp.upd st.nx (some b1)).get g=some bk:=hg;rw [Tgu] at hg;by_cases e1:g=st.nx
    ·exact .inl (e1.trans hn.symm)
    ·rw [ga e1,hhp] at hg;exact .inr hg
   ·exact Below.heap_alloc w.drew _ _ hi
 ·rcases hold o v hv with ⟨h1,h2,h3,h4⟩|⟨h1,h2⟩
  ·refine ⟨h2,h3,?_⟩;rw [Array.getElem?_append_left (by simp;omega),Array.getElem?_append_left (by omega)]
   exact h4
  ·have hm:=List.mem_of_getElem? h2;refine ⟨hnv v hm,hna v hm,?_⟩;have:o-k<newV.length:=by
    rcases Hg (o-k) newV.length with h|h
    ·exact h
    ·rw [List.getElem?_eq_none h] at h2;cases h2
   rw [Array.getElem?_append_left (by simp;omega),Array.getElem?_append_right (by omega),hk]
   simp [h2]
end
end Go.Vm
namespace Go.Vm
open Go.RowKit
section
variable {P:Program} {J:Inj} {ro:Nat} {B:World} {st:St} {w:World}
theorem jcw {t u ty e:TypeId} {ti:TypeInfo} {d:TypeDesc} (hd:P.underlying t=some (.slice e)) (hi:P.info? e=some ti) (hu:P.underlying u=some d) (hni:∀k,d≠.int k)
  {base:Option Addr} {sLen sCap n:Nat} {X:Value} {new:Array Value} (hl:(Builtin.lenOf X).run P w=.ok n w) (hf:(Builtin.firstCells ti.size n X).run P w=.ok new w) (hroom:sLen+n<=sCap) :
  (Builtin.append_ #[t,u] ty #[.slice base sLen sCap,X]).run P w =
   ((match base with|some a=>storeCells (a.add (sLen*ti.size)) new.toList|none=>pure ():Sem Unit).run P w).andThen λ_ w'=>.ok (.slice base (sLen+n) sCap) w':=by
 have hz:(match d with|.int _=>true|_=>false)=false:=by cases d <;> first|rfl|exact absurd rfl (hni _)
 simp only [Builtin.append_,List.getElem?_toArray,List.getElem?_cons_zero,List.getElem?_cons_succ,Qd,run_underlying hd,run_underlying hu,Yd,sizeOf,typeInfo,run_program,hi,Yf];cases d <;> first
  | exact absurd rfl (hni _)
  | (simp [hl,hf,hroom];cases base <;> simp)
theorem Zcw {t u ty e:TypeId} {ti:TypeInfo} {d:TypeDesc} (hd:P.underlying t=some (.slice e)) (hi:P.info? e=some ti) (hu:P.underlying u=some d) (hni:∀k,d≠.int k)
  {base:Option Addr} {sLen sCap n:Nat} {X:Value} {old new:Array Value} {z:Value} (hz:ti.zero=some z) (hb:0<ti.bytes) (hl:(Builtin.lenOf X).run P w=.ok n w)
  (hf:(Builtin.firstCells ti.size n X).run P w.drew=.ok new w.drew) (ho:(Builtin.firstCells ti.size sLen (.slice base sLen sCap)).run P w.drew=.ok old w.drew)
  (hroom:¬sLen+n<=sCap) (hbound:(sLen+n)*ti.bytes<=1099511627776) :
  ∃c,sLen+n<=c/\(Builtin.append_ #[t,u] ty #[.slice base sLen sCap,X]).run P w =
   .ok (.slice (some ⟨w.heap.size,0,none⟩) (sLen+n) c) (w.drew.alloc (.cells (old++new++Builtin.zeroCells z.cells (c-(sLen+n))) e)):=by
 have hneed:sLen+n<=1099511627776:=Yb (Nat.le_mul_of_pos_right _ hb) hbound;have hbytes:ti.bytes<=1099511627776:=Yb (Nat.le_mul_of_pos_left _ (by omega)) hbound
 have hcap:¬(Builtin.nextslicecap (sLen+n) sCap*ti.bytes > 2^48):=by
  have h1:=ZdF (sLen+n) sCap (by omega)
  have h2:=gm ti.bytes h1;have h3:(2*(sLen+n)+192)*ti.bytes=2*((sLen+n)*ti.bytes)+192*ti.bytes:=by rw [Yl,Nat.mul_assoc]
  omega
 have hne:¬ti.bytes=0:=by omega
 refine ⟨Question.cut (.appendCap (sLen+n) sCap e) (w.tape w.drawn (.appendCap (sLen+n) sCap e)),?_,?_⟩
 ·simp only [Question.cut];omega
 ·simp only [Builtin.append_,List.getElem?_toArray,List.getElem?_cons_zero,List.getElem?_cons_succ,Qd,run_underlying hd,run_underlying hu,Yd,sizeOf,typeInfo,run_program,hi,Yf];cases d <;> first
   | exact absurd rfl (hni _)
   | simp only [yd,if_false,Qd,hl,Yd,Sem.run_ite,ga hroom,typeInfo,run_program,hi,Yf,ga hcap,run_choose,Question.forced,World.drew_eq,run_askRoom,ho,Rg,if_true,hf,zeroValue,hz,newRow,run_newObj,World.alloc_eq,World.size_drew,false_or,and_false,hne]
theorem V.real_sn (J:Inj):V.sn.real J=.slice none 0 0:=by simp only [V.real]
theorem ZgH {J:Inj} {g off len:Nat} {w:World} {es k:Nat} {op:Bool} {cap:Nat} {c:Array Value} {e:TypeId} {fz:Nat×Nat}
  (hc:w.heap[(J.m g).1]?=some (.cells c e fz)) (hk:len*es=k) (hsz:k=0\/(J.m g).2.1+off+k<=c.size) :
  (Builtin.firstCells es len ((V.sl g off len cap op).real J)).run P w=.ok (c.extract ((J.m g).2.1+off) ((J.m g).2.1+off+k)) w:=by
 subst hk;simp only [V.real,Builtin.firstCells];rcases hsz with h0|hsz
 ·rw [h0];simp [loadCells,loadCellsFrom];exact Nat.min_le_left _ _
 refine jdg (λj hj=>?_) hsz
 rw [Addr.add_lit];simp [World.cell?,hc]
theorem ZbF (hn:J.nx=st.nx) (hh:HR J ro B st.hp.get w) (hro:ro<=J.nx) {t u ty:TypeId} {d:TypeDesc} {s x v:V} {X:Value} {st':St} (hu:P.underlying u=some d) (hni:∀k,d≠.int k)
  (hs:s.ok J.nx) (hx:x.ok J.nx) (h:zaT P ro st t s x=some (v,st'))
  (hX:∀(n es:Nat) (new:List V),Zfu x=some n->zaS st es n x=some new->∀w1:World,w1.heap=w.heap->(Builtin.lenOf X).run P w1=.ok n w1/\(Builtin.firstCells es n X).run P w1=.ok (new.map (V.real J)).toArray w1) :
  ∃J' w',(Builtin.append_ #[t,u] ty #[s.real J,X]).run P w=.ok (v.real J') w'/\v.ok J'.nx/\Post J ro B st w J' st' w':=by
 unfold zaT at h;cases hd:P.underlying t with
 | none=>simp [hd] at h
 | some dt=>
 cases dt <;> simp only [hd,reduceCtorEq] at h
 rename_i e;cases hi:P.info? e with
 | none=>simp [hi] at h
 | some ti=>
 cases hl:Zfu x with
 | none=>simp [hi,hl] at h
 | some n=>
 simp only [hi,hl] at h;cases hf:zaS st ti.size n x with
 | none=>simp [hf] at h
 | some new=>
 simp only [hf] at h;generalize hc0:(Nat.blt 0 ti.size&&Nat.blt 0 ti.bytes&&Za4 P e ti.size)=c0 at h;cases c0 with
 | false=>simp at h
 | true=>
 simp only [Qa,yb,ge] at h hc0;obtain ⟨⟨hsz,hby⟩,hzf⟩:=hc0;obtain ⟨z,hz,hzl⟩:=Jew hzf;obtain ⟨ti',z1,z2,_⟩:=zap J J.nx hz;rw [hi,xa] at z1;subst z1;obtain ⟨_,f2,f3,f4⟩:=jbF (P:=P) hh hx hl (Ra _) hf;have hlen:=(hX n ti.size new hl hf w rfl).1;have f1:=(hX n ti.size new hl hf w rfl).2;have g1:=(hX n ti.size new hl hf w.drew rfl).2;have hzc:∀k,(Builtin.zeroCells (z.real J).cells k).size=k*ti.size:=λk=>by rw [size_zeroCells,Vcr];simp [hzl]
 cases s with
 | sn=>
  simp only at h;cases hb:Nat.ble (n*ti.bytes) 1099511627776 with
  | false=>simp [hb] at h
  | true=>
  simp only [hb,Qa] at h;rw [xd] at hb;cases hn0:Nat.beq n 0 with
  | true=>
   simp only [hn0,Qa,xa,xb] at h;obtain ⟨rfl,rfl⟩:=h;have:=Nat.eq_of_beq_eq_true hn0;subst this;refine ⟨J,w,?_,by simp [V.ok],Post.refl hn hh hro⟩
   rw [V.real_sn,jcw hd hi hu hni hlen f1 (by omega)]
   simp
  | false=>
   simp only [hn0,Yc] at h;have hn0':n≠0:=Nat.ne_of_beq_eq_false hn0;cases hbk:JbE new ti.size true with
   | none=>simp [hbk] at h
   | some b1=>
    simp only [hbk,jy,xa,xb] at h;obtain ⟨rfl,rfl⟩:=h;obtain ⟨b2,b3,b4,b5,b6,b7⟩:=JL hbk;obtain ⟨c,k1,k2⟩:=Zcw (P:=P) (w:=w) (ty:=ty) hd hi hu hni (base:=none) (sLen:=0) (sCap:=0) (old:=#[]) z2 hby hlen g1 (by simp [Builtin.firstCells]) (by omega) (by simpa using hb)
    simp only [dd] at k1 k2;refine ⟨J.push (w.heap.size,0,c-n),_,?_,?_,JdF (h0:=st.hp.get) (k:=0) (old:=#[]) (newV:=new) (e:=e) hn hh hro (λ_ _ q=>q) (λ_=>rfl) (Ra _) (λ_ _ q _=>q) rfl rfl (hzc (c-n)) b3 (by rw [b2];omega) b5 (λo u hu=>?_) f3 f4⟩
    ·rw [V.real_sn,k2,<-hn];simp only [V.real,Ips,dd,Qa];rw [show n+(c-n)=c from by omega]
    ·simp only [V.ok,Inj.push];omega
    ·rw [b6] at hu;exact .inr ⟨dg _,by simpa using hu⟩
 | sl g off len cap op=>
  simp only at h;cases hg:st.hp.get g with
  | none=>simp [hg] at h
  | some b=>
  simp only [hg] at h;cases hb:Nat.ble ((len+n)*ti.bytes) 1099511627776 with
  | false=>simp [hb] at h
  | true=>
  simp only [hb,Qa] at h;rw [xd] at hb;simp only [V.ok] at hs;have br:=hh.blk g b hg;cases hroom:Nat.ble (len+n) cap with
  | true=>
   simp only [hroom,Qa] at h;rw [xd] at hroom;cases hrog:Nat.ble ro g with
   | false=>simp [hrog] at h
   | true=>
   simp only [hrog,Qa] at h;rw [xd] at hrog;cases hp:b.put new (off+len*ti.size) with
   | none=>simp [hp] at h
   | some b'=>
    simp only [hp,jy,xa,xb] at h;obtain ⟨rfl,rfl⟩:=h;obtain ⟨w',r1,r2,r3,r4⟩:=HR.put (P:=P) new hh (g:=g) (o:=off+len*ti.size) (i:=0) hg hrog (by simpa using hp) f3
    refine ⟨J,w',?_,by simp only [V.ok];omega,Inj.le.refl J,by rw [Swe];exact hn,?_,r3,Ext.write _ _ _,hro,Fr.write hg r4⟩
    ·rw [V.real,jcw hd hi hu hni hlen f1 (by omega)]
     simp only [Addr.add_lit];rw [Qf,r1];simp [V.real]
    ·rw [Swe];show HR J ro B (st.hp.upd g (some b')).get w';rw [Jao];exact r2
  | false=>
   simp only [hroom,Yc] at h;have hroom':¬len+n<=cap:=by intro q;rw [<-xd] at q;rw [q] at hroom;cases hroom
   cases hgr:JcH b off len ti.size new with
   | none=>simp [hgr] at h
   | some b1=>
   simp only [hgr] at h;obtain ⟨k0,c0,e0,fz0,k1,k2,k3,k4,k5⟩:=br;obtain ⟨w1,w2,w3,w4,wk,w5⟩:=jfw (λq=>(k3 q).2) hgr
   generalize hr:(J.m g).1=r at *;generalize hdd:(J.m g).2.1=d0 at *;generalize hxx:(J.m g).2.2=x0 at *;have hin:len*ti.size=0\/d0+off+len*ti.size<=c0.size:=wk.imp id (λq=>by omega)
   have hoc:=ZgH (P:=P) (J:=J) (g:=g) (off:=off) (len:=len) (w:=w.drew) (op:=op) (cap:=cap) (es:=ti.size) (c:=c0) (e:=e0) (fz:=fz0) (by rw [hr];exact k1) rfl (by rw [hdd];exact hin)
   rw [hdd] at hoc;have hold:∀o v,b1.get o=some v->(o<len*ti.size/\v.ok J.nx/\v.atom=true/\(c0.extract (d0+off) (d0+off+len*ti.size))[o]?=some (v.real J))\/(len*ti.size<=o/\new[o-len*ti.size]?=some v):=by
    intro o v hv;rcases w5 o v hv with ⟨q1,q2⟩|q
    ·obtain ⟨p1,p2,p3⟩:=k5 _ _ q2;refine .inl ⟨q1,p1,p2,?_⟩;rw [Array.getElem?_extract,ya (by omega),Qf]
     exact p3
    ·exact .inr q
   have hosz:(c0.extract (d0+off) (d0+off+len*ti.size)).size=len*ti.size:=by
    rw [Array.size_extract];rcases hin with q|q <;> omega
   cases op with
   | false=>
    simp only [Yc,jy,xa,xb] at h;obtain ⟨rfl,rfl⟩:=h;simp only [V.real,Yc,Re,hr,hdd] at hoc |-;obtain ⟨c,m1,m2⟩:=Zcw (P:=P) (w:=w) (ty:=ty) hd hi hu hni z2 hby hlen g1 hoc hroom' hb;refine ⟨J.push (w.heap.size,0,c-(len+n)),_,?_,?_,JdF (h0:=st.hp.get) (k:=len*ti.size) (newV:=new) (e:=e) hn hh hro (λ_ _ q=>q) (λ_=>rfl) (Ra _) (λ_ _ q _=>q) hosz rfl (hzc (c-(len+n))) w2 w1 w4 hold f3 f4⟩
    ·rw [m2,<-hn];simp only [Ips,Qa];rw [show len+n+(c-(len+n))=c from by omega]
    ·simp only [V.ok,Inj.push];omega
   | true=>
    simp only [Qa] at h;generalize hc1:(Nat.ble ro g&&b.op&&Nat.beq b.es ti.size&&Nat.beq (off+cap*ti.size) b.sz)=c1 at h;cases c1 with
    | false=>simp at h
    | true=>
    simp only [Qa,jy,xa,xb] at h;simp only [yb,xd,Rc] at hc1;obtain ⟨⟨⟨hrog,hbop⟩,hbes⟩,hend⟩:=hc1;obtain ⟨rfl,rfl⟩:=h;simp only [V.real,Qa,hr,hdd,hxx] at hoc |-;have hkill:∀k,(st.kill g).hp.get k=if k=g then none else st.hp.get k:=λk=>by
     rw [St.kill_eq];show (st.hp.upd g none).get k=_;rw [Tgu]
    have hkver:(st.kill g).ver=low st.ver g:=by rw [St.kill_eq]
    have hkv:=Jcf st.ver g;have hkr:=zb0 st.ver g;have hkless:∀k bk,(if k=g then none else st.hp.get k)=some bk->st.hp.get k=some bk:=by
     intro k bk hk;by_cases e1:k=g
     ·simp [e1] at hk
     ·simpa [e1] using hk
    by_cases hrm:len+n<=cap+x0
    ·have hcs:=(k3 hbop).1;rw [hbes] at hcs;have hmul:(len+n)*ti.size<=(cap+x0)*ti.size:=gm _ hrm;have hsplit:(cap+x0)*ti.size=cap*ti.size+x0*ti.size:=Yl ..;have hsplit2:(len+n)*ti.size=len*ti.size+n*ti.size:=Yl ..;have hB:=(k4 hrog).1;have hfz:=(k4 hrog).2;obtain ⟨w',c',s1,s2,s3,s4,s5,s6,s7,s8,s9⟩:=ze1 (P:=P) (new.map (V.real J)) w r (d0+off+len*ti.size) 0 c0 e0 fz0 k1 (by rw [Qm];omega) (λo ho=>(hfz o (by omega)).1) (λv hv=>by
      obtain ⟨u,hu,rfl⟩:=xm.1 hv;exact V.oneCell_real J u (f4 u hu))
     have hbel:Below B.heap.size w w':=⟨s7,s8,s9,by omega,λk hk=>s5 k (by omega)⟩
     have hpush:=(hh.less hkless).push (w':=w') (b:=b1) (r:=r) (d:=d0+off) (x:=cap+x0-(len+n)) (c:=c') (e:=e0) (fz:=fz0) (λk bk hk=>?_) (hh.base.below hbel) s2 hB ?_ (by omega) (λ_=>⟨?_,w4⟩) (by rw [s3,w3];rw [hbop] at hfz;exact hfz) (λo v hv=>?_)
     ·refine ⟨J.push (r,d0+off,cap+x0-(len+n)),w',?_,?_,J.le_push _,by show J.nx+1=st.nx+1;omega,?_,hbel,⟨di _,by show (st.kill g).ver<=st.ver;omega,λk x hx hk=>?_⟩,Ho hro,?_⟩
      ·rw [jcw hd hi hu hni hlen f1 hrm];simp only [Addr.add_lit,s1,Yd];rw [<-hn];simp only [Ips,Re];rw [show len+n+(cap+x0-(len+n))=cap+x0 from by omega]
      ·simp only [V.ok,Inj.push];omega
      ·show HR _ ro B ((st.kill g).hp.upd st.nx (some b1)).get w';rw [Jao,show (st.kill g).hp.get=_ from funext hkill,<-hn]
       exact hpush
      ·have hkk:k<(st.kill g).ver:=hk;have hlt:=(hh.blk k x hx).1;show ((st.kill g).hp.upd st.nx (some b1)).get k=some x;rw [Tgu,ga (by omega),hkill,ga (by omega)]
       exact hx
      ·refine Fr.push (h0:=λk=>if k=g then none else st.hp.get k) hkless (λk bk hk=>(hh.blk k bk hk).1) (.inr ⟨g,b,hg,hr⟩) (λk bk hk=>?_) (λi hi hf=>s5 i (λq=>hf g b hg (hr.trans q.symm)))
       have hk:((st.kill g).hp.upd st.nx (some b1)).get k=some bk:=hk;rw [Tgu] at hk;by_cases e1:k=st.nx
       ·exact .inl (e1.trans hn.symm)
       ·rw [ga e1,hkill] at hk;exact .inr hk
     ·refine s5 _ (λe1=>?_)
      by_cases e2:k=g
      ·simp [e2] at hk
      ·exact e2 (hh.inj k g bk b (hkless k bk hk) hg (e1.trans hr.symm))
     ·intro k bk hk e1;by_cases e2:k=g
      ·simp [e2] at hk
      ·exact e2 (hh.inj k g bk b (hkless k bk hk) hg (e1.trans hr.symm))
     ·rw [s3,w2,w1,f2,Nat.sub_mul];omega
     ·rcases w5 o v hv with ⟨q1,q2⟩|⟨q1,q2⟩
      ·obtain ⟨p1,p2,p3⟩:=k5 _ _ q2;refine ⟨p1,p2,?_⟩;rw [s4,ga (by omega),Qf]
       exact p3
      ·have hm:=List.mem_of_getElem? q2;have hlt:o-len*ti.size<new.length:=by
        rcases Hg (o-len*ti.size) new.length with q|q
        ·exact q
        ·rw [List.getElem?_eq_none q] at q2;cases q2
       refine ⟨f3 v hm,f4 v hm,?_⟩;rw [s4,ya (by rw [Qm];omega),List.getElem?_map,show d0+off+o-(d0+off+len*ti.size+0)=o-len*ti.size from by omega,q2]
       rfl
    ·obtain ⟨c,m1,m2⟩:=Zcw (P:=P) (w:=w) (ty:=ty) hd hi hu hni z2 hby hlen g1 hoc hrm hb;refine ⟨J.push (w.heap.size,0,c-(len+n)),_,?_,?_,JdF (h0:=λk=>if k=g then none else st.hp.get k) (k:=len*ti.size) (newV:=new) (e:=e) hn hh hro hkless hkill (by omega) (λk x hx hk=>by rw [ga (by omega)];exact hx) hosz rfl (hzc (c-(len+n))) w2 w1 w4 hold f3 f4⟩
     ·rw [m2,<-hn];simp only [Ips,dd];rw [show len+n+(c-(len+n))=c from by omega]
     ·simp only [V.ok,Inj.push];omega
 | _=>simp at h
theorem Zdg (hn:J.nx=st.nx) (hh:HR J ro B st.hp.get w) (hro:ro<=J.nx) {t u ty:TypeId} {d:TypeDesc} {s x v:V} {st':St} (hu:P.underlying u=some d) (hni:∀k,d≠.int k)
  (hs:s.ok J.nx) (hx:x.ok J.nx) (h:zaT P ro st t s x=some (v,st')) :
  ∃J' w',(Builtin.append_ #[t,u] ty #[s.real J,x.real J]).run P w=.ok (v.real J') w'/\v.ok J'.nx/\Post J ro B st w J' st' w':=
 ZbF hn hh hro hu hni hs hx h λ_ _ _ hl hf w1 hw=>⟨Ze0 (P:=P) (J:=J) (w:=w1) hl,(jbF (P:=P) (hh.congr hw) hx hl (Ra _) hf).1⟩
end
end Go.Vm
namespace Go.Vm
open Go.RowKit
section
variable {P:Program} {J:Inj} {ro:Nat} {B:World} {st:St} {w:World}
theorem Zgm (hn:J.nx=st.nx) (hh:HR J ro B st.hp.get w) (hro:ro<=J.nx) {t u ty:TypeId} {d x v:V} {st':St} (hx:x.ok J.nx) (h:Zia P ro st t d x=some (v,st')) :
  ∃w',(Builtin.copy_ #[t,u] ty #[d.real J,x.real J]).run P w=.ok (v.real J) w'/\v.ok J.nx/\Post J ro B st w J st' w':=by
 unfold Zia at h;cases hd:P.underlying t with
 | none=>simp [hd] at h
 | some dt=>
 cases dt <;> simp only [hd,reduceCtorEq] at h
 rename_i e;cases hi:P.info? e with
 | none=>simp [hi] at h
 | some ti=>
 cases hl:Zfu x with
 | none=>simp [hi,hl] at h
 | some n=>
 simp only [hi,hl] at h;have hlen:=Ze0 (P:=P) (J:=J) (w:=w) hl;cases d with
 | sn=>
  simp only at h;cases hf:zaS st ti.size 0 x with
  | none=>simp [hf] at h
  | some new=>
   simp only [hf,xa,xb] at h;obtain ⟨rfl,rfl⟩:=h;obtain ⟨f1,_,_,_⟩:=jbF (P:=P) hh hx hl (dg _) hf;refine ⟨w,?_,by simp [V.ok],Post.refl hn hh hro⟩
   simp [Builtin.copy_,run_underlying hd,hlen,sizeOf,typeInfo,hi,f1,V.real,goInt]
 | sl g off len cap op=>
  simp only at h;cases hf:zaS st ti.size (Nat.min n len) x with
  | none=>simp [hf] at h
  | some new=>
  cases hg:st.hp.get g with
  | none=>simp [hf,hg] at h
  | some b=>
  simp only [hf,hg] at h;cases hrog:Nat.ble ro g with
  | false=>simp [hrog] at h
  | true=>
  simp only [hrog,Qa] at h;rw [xd] at hrog;cases hp:b.put new off with
  | none=>simp [hp] at h
  | some b'=>
   simp only [hp,xa,xb] at h;obtain ⟨rfl,rfl⟩:=h;obtain ⟨f1,_,f3,_⟩:=jbF (P:=P) hh hx hl (Nat.min_le_left _ _) hf;obtain ⟨w',r1,r2,r3,r4⟩:=HR.put (P:=P) new hh (g:=g) (o:=off) (i:=0) hg hrog (by simpa using hp) f3
   refine ⟨w',?_,by simp [V.ok],Inj.le.refl J,by rw [Swe];exact hn,?_,r3,Ext.write _ _ _,hro,Fr.write hg r4⟩
   ·simp only [Builtin.copy_,V.real,List.getElem?_toArray,List.getElem?_cons_zero,List.getElem?_cons_succ,Qd,run_underlying hd,Yd,hlen,sizeOf,typeInfo,run_program,hi,Yf];simp only [f1,Yd,r1];rfl
   ·rw [Swe];show HR J ro B (st.hp.upd g (some b')).get w';rw [Jao];exact r2
 | _=>simp at h
theorem zdG {t ty:TypeId} {x v:V} (h:zbv P t x=some v):(Builtin.len_ #[t] ty #[x.real J]).run P w=.ok (v.real J) w/\∀n,v.ok n:=by
 unfold zbv at h;split at h
 ·rename_i e;simp only [xa] at h;subst h;have hs:∀l x,(⟨(Jf l x).toArray⟩:ByteArray).size=l:=λl x=>by simp [ByteArray.size,zp]
  simp only [V.real,V.ok,implies_true,and_true,run_len_string w t ty _ e,hs];rfl
 ·rename_i e;simp only [xa] at h;subst h;simp [Builtin.len_,V.real,run_underlying e,goInt,V.ok]
 ·rename_i e;simp only [xa] at h;subst h;simp [Builtin.len_,V.real,run_underlying e,goInt,V.ok]
 ·rename_i e;simp only [xa] at h;subst h;simp [Builtin.len_,V.real,run_underlying e,goInt,V.ok]
 ·rename_i e;simp only [xa] at h;subst h;simp [Builtin.len_,V.real,run_underlying e,goInt,V.ok]
 ·rename_i e;simp only [xa] at h;subst h;refine ⟨?_,by simp [V.ok]⟩
  simp [Builtin.len_,run_underlying e,goInt,V.real]
 ·simp at h
theorem Jgm {mn:Bool} {x y v:V} (h:jgF mn x y=some v) :
  ((if mn then Builtin.min2 (x.real J) (y.real J) else Builtin.max2 (x.real J) (y.real J)):Sem Value).run P w=.ok (v.real J) w/\∀n,v.ok n:=by
 unfold jgF at h;split at h
 ·rename_i k a k' b;simp only [xa] at h;subst h;refine ⟨?_,by simp [V.ok]⟩
  cases mn
  ·by_cases e:a<b <;> simp [V.real,Builtin.max2,ilt,e]
  ·by_cases e:b<a <;> simp [V.real,Builtin.min2,ilt,e]
 ·simp at h
theorem Zfw {α:Type} (a:Array α) (x:α) (f:α->α):(a.push x).modify a.size f=a.push (f x):=by
 apply Array.ext
 ·simp
 ·intro i h1 h2;rw [Array.getElem_modify];by_cases hi:i=a.size
  ·subst hi;simp
  ·have:i<a.size:=by simp at h2;omega
   rw [ga (λq=>hi q.symm),Array.getElem_push_lt this,Array.getElem_push_lt this]
theorem je1 (u:World) (c:Array Value) (e:TypeId) (n:Nat):World.freeze (u.alloc (.cells c e)) ⟨u.heap.size,n,none⟩ 1=u.alloc (.cells c e (n,n+1)):=by
 unfold World.freeze;rw [ga (by decide)]
 simp only [World.alloc];rw [Zfw];simp
theorem zbw {mn:Bool}:∀(l:List V) {x v:V},zcI mn x l=some v->x.ok J.nx->(∀y∈l,y.ok J.nx)->
  ((l.map (V.real J)).foldlM (λa b=>if mn then Builtin.min2 a b else Builtin.max2 a b) (x.real J):Sem Value).run P w=.ok (v.real J) w/\v.ok J.nx
 | [],x,v,h,hx,_=>by simp only [zcI,xa] at h;subst h;simp [hx]
 | y::l,x,v,h,hx,hl=>by
  simp only [zcI] at h;cases hm:jgF mn x y with
  | none=>simp [hm] at h
  | some z=>
   simp only [hm] at h;obtain ⟨q1,q2⟩:=Jgm (P:=P) (J:=J) (w:=w) hm;obtain ⟨p1,p2⟩:=zbw l h (q2 J.nx) (λy hy=>hl y (gd _ hy))
   refine ⟨?_,p2⟩;rw [Rl,List.foldlM_cons,Qd,q1];exact p1
theorem ZbT:∀(ns:List Int) (s:ByteArray),ns.foldl (λr n=>r.push (UInt8.ofNat n.toNat)) s=⟨(s.data.toList++ns.map λn=>UInt8.ofNat n.toNat).toArray⟩
 | [],s=>by simp
 | n::ns,s=>by
  rw [List.foldl_cons,ZbT ns];simp [ByteArray.push]
theorem jbw:∀(cs:List V) (l:List UInt8),zv cs=some l->∃ns:List Int,cs.map (V.real J)=ns.map (Value.int .u8)/\l=ns.map λn=>UInt8.ofNat n.toNat
 | [],l,h=>by simp only [zv,xa] at h;subst h;exact ⟨[],rfl,rfl⟩
 | c::cs,l,h=>by
  obtain ⟨n,rfl⟩:∃n,c=.i .u8 n:=by
   cases c with
   | i k n=>cases k <;> first|exact ⟨n,rfl⟩|simp [zv] at h
   | _=>simp [zv] at h
  simp only [zv] at h;cases hr:zv cs with
  | none=>simp [hr] at h
  | some r=>
   simp only [hr,xa] at h;subst h;obtain ⟨ns,q1,q2⟩:=jbw cs r hr;exact ⟨n::ns,by simp [V.real,q1],by simp [q2]⟩
theorem zen {b:Blk} {len off:Nat} (h:b.zeros len off=true):∃cs,b.row len off=some cs/\zv cs=some (List.replicate len 0):=by
 unfold Blk.zeros at h;split at h
 ·rename_i hc hz;rw [yb,Rc,xd] at h;obtain ⟨h1,h2⟩:=h;have hg:∀o,o<b.sz->b.get o=some (.i .u8 0):=by
   intro o ho;unfold Blk.get;rw [show Nat.blt o b.sz=true from by rw [ge];exact ho,hc,hz,h1,Nat.mod_one]
   rfl
  have key:∀(n o:Nat),o+n<=b.sz->b.row n o=some (List.replicate n (.i .u8 0)):=by
   intro n
   induction n with
   | zero=>intro o _;rfl
   | succ n ih=>
    intro o ho;simp only [Blk.row,hg o (by omega),ih (o+1) (by omega),List.replicate_succ]
  have hb:∀n:Nat,zv (List.replicate n (.i .u8 0))=some (List.replicate n 0):=by
   intro n
   induction n with
   | zero=>rfl
   | succ n ih=>rw [List.replicate_succ];simp only [zv,ih];rw [List.replicate_succ];rfl
  exact ⟨_,key len off h2,hb len⟩
 ·cases h
theorem jdG:∀n:Nat,jY (List.replicate n 0)=0
 | 0=>rfl
 | n+1=>by rw [List.replicate_succ];unfold jY;rw [jdG n];rfl
theorem zgn {b:Blk} {len off:Nat} {v:V} (h:Jfu b len off=some v):∃cs l,b.row len off=some cs/\zv cs=some l/\v=.str l:=by
 unfold Jfu at h;cases hz:b.zeros len off with
 | true=>
  simp only [hz,xa] at h;obtain ⟨cs,h1,h2⟩:=zen hz;exact ⟨cs,_,h1,h2,by rw [<-h];unfold V.str;rw [List.length_replicate,jdG]⟩
 | false=>
  simp only [hz] at h;cases hr:b.row len off with
  | none=>simp [hr] at h
  | some cs=>
   simp only [hr] at h;cases hb:zv cs with
   | none=>simp [hb] at h
   | some l=>simp only [hb,xa] at h;exact ⟨cs,l,rfl,hb,h.symm⟩
theorem Jhs {b:Blk} {len off:Nat} {cs:List V} {l:List UInt8} (hr:b.row len off=some cs) (hb:zv cs=some l):Jfu b len off=some (.str l):=by
 unfold Jfu;cases hz:b.zeros len off with
 | true=>
  obtain ⟨cs',h1,h2⟩:=zen hz;rw [hr] at h1;cases h1;rw [hb] at h2;cases h2;simp only;unfold V.str;rw [List.length_replicate,jdG]
 | false=>simp only [hr,hb]
theorem zex (hn:J.nx=st.nx) (hh:HR J ro B st.hp.get w) (hro:ro<=J.nx) {s d:TypeId} {x v:V} {st':St} (hx:x.ok J.nx) (h:JT P st s d x=some (v,st')) :
  ∃J' w',(convert s d (x.real J)).run P w=.ok (v.real J') w'/\v.ok J'.nx/\Post J ro B st w J' st' w':=by
 unfold JT at h;split at h
 ·rename_i ds k k' n hs hd;simp only [xa,xb] at h;obtain ⟨rfl,rfl⟩:=h;refine ⟨J,w,?_,by simp [V.ok],Post.refl hn hh hro⟩
  simp [convert,run_underlying hs,run_underlying hd,V.real,Conv.intToInt]
 ·rename_i ds l y hs hd;simp only [xa,xb] at h;obtain ⟨rfl,rfl⟩:=h;refine ⟨J,w,?_,hx,Post.refl hn hh hro⟩;simp [convert,run_underlying hs,run_underlying hd,V.real]
 ·rename_i ds e l y hs hd;cases he:P.underlying e with
  | none=>simp [he] at h
  | some de=>
  simp only [he] at h;split at h
  ·rename_i he';simp only [xa] at he';subst he';cases hb:Nat.ble l 1099511627776 with
   | false=>simp [hb] at h
   | true=>
   simp only [hb,Qa] at h;cases hbk:JbE (Zao l y) 1 false with
   | none=>simp [hbk] at h
   | some b=>
    simp only [hbk,jy,xa,xb] at h;obtain ⟨rfl,rfl⟩:=h;rw [xd] at hb;simp only [V.ok] at hx;obtain ⟨b1,b2,b3,b4,b5,b6⟩:=JL hbk;rw [ZaK] at b1 b5 b6;rw [Qm,zp] at b1;generalize hcap:Question.cut (.appendCap l 0 e) (w.tape w.drawn (.appendCap l 0 e))=cap;have hle:l<=cap:=by rw [<-hcap];simp only [Question.cut];omega
    have hsz:((Jf l y).toArray.map (λb=>Value.int .u8 (b.toNat:Int))++Array.replicate (cap-l) (Value.int .u8 0)).size=cap:=by simp [zp];omega
    have hal:HR (J.push (w.heap.size,0,cap-l)) ro B (λk=>if k=J.nx then some b else st.hp.get k)
      (w.drew.alloc (.cells ((Jf l y).toArray.map (λb=>Value.int .u8 (b.toNat:Int))++Array.replicate (cap-l) (Value.int .u8 0)) e (cap,cap+1))):=by
     refine (hh.congr (w':=w.drew) rfl).alloc (by rw [hsz,b1];exact hle) (λq=>by rw [b3] at q;cases q) (λo ho=>by rw [hsz,b3,Bool.toNat_false] at ho;simp;omega) (λo u hu=>?_)
     rw [b5] at hu;have hm:=List.mem_of_getElem? hu;refine ⟨?_,b6 u hm,?_⟩
     ·obtain ⟨c,_,rfl⟩:=xm.1 hm;simp [V.ok]
     ·have hlt:o<l:=by
       rcases Hg o l with q|q
       ·exact q
       ·rw [List.getElem?_eq_none (by simp [zp];exact q)] at hu;cases hu
      rw [Array.getElem?_append_left (by simp [zp];exact hlt)]
      rw [List.getElem?_map] at hu;cases hc:(Jf l y)[o]? with
      | none=>simp [hc] at hu
      | some c=>simp only [hc,yg,xa] at hu;subst hu;simp [hc,V.real]
    refine ⟨J.push (w.heap.size,0,cap-l),w.drew.alloc (.cells ((Jf l y).toArray.map (λb=>Value.int .u8 (b.toNat:Int))++Array.replicate (cap-l) (Value.int .u8 0)) e (cap,cap+1)),?_,?_,J.le_push _,by show J.nx+1=st.nx+1;omega,?_,?_,Ext.alloc hn hh b,Ho hro,Fr.alloc (w:=w.drew) hn (hh.congr rfl) b⟩
    ·have hs2:(⟨(Jf l y).toArray⟩:ByteArray).size=l:=by simp [ByteArray.size,zp]
     have hfin:(V.sl st.nx 0 l l true).real (J.push (w.heap.size,0,cap-l))=.slice (some ⟨w.heap.size,0,none⟩) l cap:=by
      rw [<-hn];simp only [V.real,Ips,Re,Qa];rw [show l+(cap-l)=cap from by omega]
     rw [hfin];simp only [V.real,convert,Qd,run_underlying hs,run_underlying hd,run_underlying he,Yd,Conv.stringToBytes,run_choose,Question.forced,yd,if_false,hs2,hcap,World.drew_eq,newRow,run_newObj,World.alloc_eq,Yf,markStringish,run_shape];have hsh:∀c:Array Value,(w.drew.alloc (.cells c e)).shape? w.drew.heap.size=some (e,c.size):=λc=>by
      show (match (w.heap.push (.cells c e))[w.heap.size]? with|some (.cells c elem _)=>some (elem,c.size)|_=>none)=_
      simp
     rw [hsh];simp only [run_freeze,Yd];rw [hsz];simp only [World.size_drew,Result.ok.injEq,true_and];show World.freeze (w.drew.alloc _) _ 1=_;exact je1 w.drew _ e cap
    ·simp only [V.ok,Inj.push];omega
    ·show HR _ ro B (st.hp.upd st.nx (some b)).get _;rw [Jao,<-hn];exact hal
    ·exact (Below.drew (Below.refl B.heap.size w)).alloc hh.base.size _
  ·simp at h
 ·rename_i e hs hd;cases he:P.underlying e with
  | none=>simp [he] at h
  | some de=>
  simp only [he] at h;split at h
  ·rename_i he';simp only [xa] at he';subst he';simp only [xa,xb] at h;obtain ⟨rfl,rfl⟩:=h;refine ⟨J,w,?_,by simp [V.ok],Post.refl hn hh hro⟩
   simp [convert,run_underlying hs,run_underlying hd,run_underlying he,V.real,Conv.bytesToString,Jf];rfl
  ·simp at h
 ·rename_i e g off len cap op hs hd;cases he:P.underlying e with
  | none=>simp [he] at h
  | some de=>
  cases hg:st.hp.get g with
  | none=>simp [he,hg] at h
  | some b=>
  simp only [he,hg] at h;split at h
  ·rename_i he' hb';simp only [xa] at he' hb';subst he' hb';cases ht:Jfu b len off with
   | none=>simp [ht] at h
   | some u=>
    simp only [ht,xa,xb] at h;obtain ⟨rfl,rfl⟩:=h;obtain ⟨cs,l,hr,hbc,rfl⟩:=zgn ht;obtain ⟨q1,_,_,_⟩:=(hh.blk g b hg).row (P:=P) hr;obtain ⟨ns,n1,n2⟩:=jbw (J:=J) cs l hbc;refine ⟨J,w,?_,V.str_ok _ _,Post.refl hn hh hro⟩;rw [V.str_real];simp only [V.real];rw [run_convert_bytes_string w s d e _ _ _ hs he hd,run_bytesToString w _ _ _ ns (by rw [<-n1];exact q1),ZbT,n2]
    rfl
  ·simp at h
 ·rename_i e g o o2 hs hd;cases he:P.underlying e with
  | none=>simp [he] at h
  | some de=>
  simp only [he] at h;split at h
  ·rename_i he';simp only [xa] at he';subst he';simp only [xa,xb] at h;obtain ⟨rfl,rfl⟩:=h;refine ⟨J,w,?_,by simp [V.ok],Post.refl hn hh hro⟩
   simp only [V.real];rw [run_convert_bytes_string w s d e _ _ _ hs he hd,run_bytesToString w _ _ _ [] (by simp [loadCells,loadCellsFrom])]
   simp [Jf];rfl
  ·simp at h
 ·rename_i e a hs hd;cases he:P.underlying e with
  | none=>simp [he] at h
  | some de=>
  simp only [he] at h;split at h
  ·rename_i he';simp only [xa] at he';subst he';simp only [xa,xb] at h;obtain ⟨rfl,rfl⟩:=h;refine ⟨J,w,?_,by simp [V.ok],Post.refl hn hh hro⟩
   simp only [V.real];rw [run_convert_bytes_string w s d e _ _ _ hs he hd,run_bytesToString w _ _ _ [] (by simp [loadCells,loadCellsFrom])]
   simp [Jf];rfl
  ·simp at h
 ·simp at h
theorem HR.mark {h:Nat->Option Blk} {w:World} (hh:HR J ro B h w) {g:Nat} {b:Blk} (hg:h g=some b) (hop:b.op=false) (hro:ro<=g) {c:Array Value} {e:TypeId} {fz:Nat×Nat} (hc:w.heap[(J.m g).1]?=some (.cells c e fz)) :
  HR J ro B h (w.freeze ⟨(J.m g).1,c.size,none⟩ 1)/\Below B.heap.size w (w.freeze ⟨(J.m g).1,c.size,none⟩ 1):=by
 obtain ⟨k0,c0,e0,fz0,k1,k2,k3,k4,k5⟩:=hh.blk g b hg;rw [hc] at k1;obtain ⟨rfl,rfl,rfl⟩:c=c0/\e=e0/\fz=fz0:=by simpa using k1
 obtain ⟨k4a,k4b⟩:=k4 hro;have hB:∀k,k≠(J.m g).1->(w.freeze ⟨(J.m g).1,c.size,none⟩ 1).heap[k]?=w.heap[k]?:=λk hk=>by
  unfold World.freeze;rw [ga (by decide)]
  simp only [Array.getElem?_modify];rw [ga (λq=>hk q.symm)]
 have hS:(w.freeze ⟨(J.m g).1,c.size,none⟩ 1).heap[(J.m g).1]?=some (.cells c e (if fz.1==fz.2 then (c.size,c.size+1) else (min fz.1 c.size,max fz.2 (c.size+1)))):=by
  unfold World.freeze;rw [ga (by decide)]
  simp only [Array.getElem?_modify,hc,if_true,yg]
 have hsz:(w.freeze ⟨(J.m g).1,c.size,none⟩ 1).heap.size=w.heap.size:=by
  unfold World.freeze;rw [ga (by decide)]
  simp
 have hbel:Below B.heap.size w (w.freeze ⟨(J.m g).1,c.size,none⟩ 1):=⟨rfl,rfl,rfl,by rw [hsz];exact Ra _,λk hk=>hB k (by omega)⟩
 refine ⟨⟨hh.base.below hbel,λg' b' hg'=>?_,hh.inj⟩,hbel⟩
 by_cases hgg:(J.m g').1=(J.m g).1
 ·obtain rfl:=hh.inj g' g b' b hg' hg hgg;rw [hg] at hg';cases hg';refine ⟨k0,c,e,_,hS,k2,k3,λ_=>⟨k4a,λo ho=>?_⟩,k5⟩
  rw [hop,Bool.toNat_false,Re] at ho;have h1:=k4b o (by omega)
  have h0:=k4b 0 (by omega)
  by_cases q:fz.1=fz.2
  ·rw [ya (by simpa using q)]
   refine ⟨?_,by simp⟩
   simp;omega
  ·rw [ga (by simpa using q)]
   have hlt:fz.1<fz.2:=by omega
   have hge:c.size<=fz.1:=by
    rcases Hg fz.1 c.size with z|z
    ·exfalso;have:=(k4b fz.1 (by omega)).1
     simp at this;omega
    ·exact z
   refine ⟨?_,by simp only;omega⟩
   simp only [Nat.min_eq_right hge];simp;omega
 ·have:=hh.blk g' b' hg';unfold BR at *;rw [hB _ hgg];exact this
theorem World.freeze_other {w:World} {r i c n:Nat} (h:i≠r):(w.freeze ⟨r,c,none⟩ n).heap[i]?=w.heap[i]?:=by
 unfold World.freeze;split
 ·rfl
 ·simp only [Array.getElem?_modify];rw [ga (λq=>h q.symm)]
theorem JgH {s d:TypeId} {x:V} {r:V×St} (h:JT P st s d x=some r):Jdf P ro st s d x=some r:=by
 unfold Jdf;split
 ·rename_i e e' g o l c op hs hd;unfold JT at h;simp only [hs,hd] at h;cases h
 ·exact h
theorem Jfw (hn:J.nx=st.nx) (hh:HR J ro B st.hp.get w) (hro:ro<=J.nx) {s d:TypeId} {x v:V} {st':St} (hx:x.ok J.nx) (h:Jdf P ro st s d x=some (v,st')) :
  ∃J' w',(convert s d (x.real J)).run P w=.ok (v.real J') w'/\v.ok J'.nx/\Post J ro B st w J' st' w':=by
 unfold Jdf at h;split at h
 ·rename_i e e' g o l c op hs hd;split at h
  ·rename_i b he hb;generalize hc:(decide (s=d)&&!b.op&&Nat.ble ro g)=cc at h;cases cc with
   | false=>simp at h
   | true=>
    simp only [Qa,xa,xb] at h;obtain ⟨rfl,rfl⟩:=h;simp only [yb,xc,xd,Rm] at hc;obtain ⟨⟨rfl,hop⟩,hrg⟩:=hc;obtain ⟨k0,c0,e0,fz0,k1,_⟩:=hh.blk g b hb;obtain ⟨m1,m2⟩:=hh.mark hb hop hrg k1;rw [hs] at hd;obtain rfl:e=e':=by simpa using hd
    refine ⟨J,w.freeze ⟨(J.m g).1,c0.size,none⟩ 1,?_,hx,⟨Inj.le.refl J,hn,m1,m2,Ext.refl _,hro,λi hi hf=>⟨World.freeze_other (λq=>hf g b hb q.symm),hf⟩⟩⟩
    have hsh:w.shape? (J.m g).1=some (e0,c0.size):=by simp only [World.shape?,k1]
    have hm:(markStringish ⟨(J.m g).1,(J.m g).2.1+o,none⟩).run P w=.ok () (w.freeze ⟨(J.m g).1,c0.size,none⟩ 1):=by
     simp [markStringish,shape,Sem.run,hsh]
    simp [convert,run_underlying hs,run_underlying he,V.real,hm]
  ·cases h
 ·exact zex hn hh hro hx h
end
end Go.Vm
namespace Go.Vm
open Go.RowKit
structure FR (J:Inj) (nt:Nat) (fr:T V) (tmps:Array Value):Prop where
 size:nt<=tmps.size
 get:∀t v,fr.get t=some v->v.ok J.nx/\tmps[t]?=some (v.real J)
def zcH (P:Program) (J:Inj) (ro:Nat) (B:World) (st:St) (w:World) (v:Option V) (st':St):Result Next->Prop
 | .ok (.value u) w'=>∃x J',v=some x/\u=x.real J'/\x.ok J'.nx/\Post J ro B st w J' st' w'
 | .ok .skip w'=>v=none/\∃J',Post J ro B st w J' st' w'
 | .ok (.enter f args) w'=>w'=w/\Calls P f args w λe w''=>∃x J',v=some x/\e=.returned (x.real J')/\x.ok J'.nx/\Post J ro B st w J' st' w''
 | _=>False
def JbT (P:Program) (ro:Nat) (B:World) (call:jbv):Prop:=
 ∀f args st v st',call f args st=some (v,st')->∀J w,J.nx=st.nx->HR J ro B st.hp.get w->ro<=J.nx->V.oks J.nx args->
  (∃fn c,P.funcs[f]?=some fn/\fn.body=some c)/\
  Calls P f (V.reals J args).toArray w λe w'=>∃J',e=.returned (v.real J')/\v.ok J'.nx/\Post J ro B st w J' st' w'
section
variable {P:Program} {J:Inj} {ro:Nat} {B:World} {st st':St} {w:World} {nt:Nat} {fr:T V} {a:Act}
theorem Zbw (hf:FR J nt fr a.tmps) (x:Operand) (v:V) (h:zL fr x=some v):a.eval x=v.real J/\v.ok J.nx:=by
 cases x with
 | tmp t=>
  obtain ⟨q1,q2⟩:=hf.get t v h;exact ⟨by simp [Act.eval,Array.getD_eq_getD_getElem?,q2],q1⟩
 | const c=>
  simp only [zL] at h;have:=Zf1 J J.nx 4 c v h;exact ⟨this.1.symm,this.2⟩
 | global g=>
  simp only [zL] at h;cases hb:Nat.blt g GL with
  | false=>rw [hb] at h;cases h
  | true=>
   rw [hb] at h;obtain rfl:=Rd h;rw [ge] at hb;obtain ⟨q1,q2⟩:=J.fix g hb;exact ⟨by simp [Act.eval,V.real,q2],q1⟩
 | func f=>simp only [zL,xa] at h;subst h;simp [Act.eval,V.real,V.reals,V.ok,V.oks]
theorem Za8 {v:V} {u:Value} (hp:Post J ro B st w J st w) (he:u=v.real J) (hv:v.ok J.nx):zcH P J ro B st w (some v) st (.ok (.value u) w):=
 ⟨v,J,rfl,he,hv,hp⟩
theorem Zaa {s:Sem Value} {v:V} {J':Inj} {w':World} (hr:s.run P w=.ok (v.real J') w') (hv:v.ok J'.nx) (hp:Post J ro B st w J' st' w') :
  zcH P J ro B st w (some v) st' ((do pure (.value (<-s)):Sem Next).run P w):=by
 simp only [Qd,hr,Yd,Yf];exact ⟨v,J',rfl,rfl,hv,hp⟩
theorem Jbw (hf:FR J nt fr a.tmps) {o:Option Operand} {x:Option V} (h:(match o with|none=>some none|some o=>(zL fr o).map some)=some x):o.map a.eval=x.map (V.real J):=by
 cases o with
 | none=>simp only [xa] at h;subst h;rfl
 | some o=>
  simp only [Option.map_eq_some_iff] at h;obtain ⟨v,h1,rfl⟩:=h;simp [(Zbw hf o v h1).1]
theorem Ze1 (hn:J.nx=st.nx) (hh:HR J ro B st.hp.get w) (hro:ro<=J.nx) {b:Builtin} {ts:Array TypeId} {ty:TypeId} {cs:Array Bool} {args:List V} {v:V} (ha:V.oks J.nx args)
  (h:ZZ P ro b ts.toList args st=some (v,st')) :
  zcH P J ro B st w (some v) st' ((builtin b ts ty cs (args.map (V.real J)).toArray).run P w):=by
 have hp:=Post.refl hn hh hro;unfold ZZ at h;split at h
 ·rename_i t x hts;obtain rfl:ts = #[t]:=by apply Ri;simpa using hts
  cases hv:zbv P t x with
  | none=>simp [hv] at h
  | some u=>
   simp only [hv,xa,xb] at h;obtain ⟨rfl,rfl⟩:=h;obtain ⟨q1,q2⟩:=zdG (P:=P) (J:=J) (w:=w) (ty:=ty) hv;exact Zaa q1 (q2 _) hp
 ·rename_i t u s x hts;obtain rfl:ts = #[t,u]:=by apply Ri;simpa using hts
  simp only [V.oks] at ha;cases hu:P.underlying u with
  | none=>simp [hu] at h
  | some d=>
   simp only [hu] at h;by_cases hni:∃k,d=.int k
   ·obtain ⟨k,rfl⟩:=hni;simp at h
   ·have h':zaT P ro st t s x=some (v,st'):=by
     cases d <;> first|exact h|exact absurd ⟨_,rfl⟩ hni
    obtain ⟨J',w',r1,r2,r3⟩:=Zdg (P:=P) (ty:=ty) hn hh hro hu (λk e=>hni ⟨k,e⟩) ha.1 ha.2.1 h'
    exact Zaa r1 r2 r3
 ·rename_i t u d x hts;obtain rfl:ts = #[t,u]:=by apply Ri;simpa using hts
  simp only [V.oks] at ha;obtain ⟨w',r1,r2,r3⟩:=Zgm (P:=P) (u:=u) (ty:=ty) hn hh hro ha.2.1 h;exact Zaa r1 r2 r3
 ·rename_i x r;simp only [V.oks] at ha;cases hv:zcI true x r with
  | none=>simp [hv] at h
  | some u=>
   simp only [hv,xa,xb] at h;obtain ⟨rfl,rfl⟩:=h;obtain ⟨q1,q2⟩:=zbw (P:=P) (J:=J) (w:=w) r hv ha.1 ((V.oks_iff _ _).1 ha.2);exact Zaa (s:=Builtin.min_ ts ty ((x::r).map (V.real J)).toArray) (by simpa [Builtin.min_] using q1) q2 hp
 ·rename_i x r;simp only [V.oks] at ha;cases hv:zcI false x r with
  | none=>simp [hv] at h
  | some u=>
   simp only [hv,xa,xb] at h;obtain ⟨rfl,rfl⟩:=h;obtain ⟨q1,q2⟩:=zbw (P:=P) (J:=J) (w:=w) r hv ha.1 ((V.oks_iff _ _).1 ha.2);exact Zaa (s:=Builtin.max_ ts ty ((x::r).map (V.real J)).toArray) (by simpa [Builtin.max_] using q1) q2 hp
 ·simp at h
set_option maxHeartbeats 2000000 in
theorem ZdG {call : jbv} (hcall : JbT P ro B call) (hname : ∀ (f : Nat) (fn : Func), P.funcs[f]? = some fn -> (fn.name == "runtime.NumGoroutine") = false) (hn : J.nx = st.nx) (hh : HR J ro B st.hp.get w) (hro : ro <= J.nx)
  (hf:FR J nt fr a.tmps) {o:Oper} {v:Option V} (h:vop P ro call fr st o.op=some (v,st')):zcH P J ro B st w v st' ((execOp a.eval o).run P w):=by
 have hp:=Post.refl hn hh hro;have hop:=Zbw hf;obtain ⟨dst,op,ty,pos,after,guard⟩:=o;cases op <;> simp only [vop,reduceCtorEq] at h
 case move x=>
  cases hx:zL fr x with
  | none=>simp [hx] at h
  | some u=>
   simp only [hx,xa,xb] at h;obtain ⟨rfl,rfl⟩:=h;exact Za8 hp (hop x u hx).1 (hop x u hx).2
 case assign x=>
  cases hx:zL fr x with
  | none=>simp [hx] at h
  | some u=>
   simp only [hx,xa,xb] at h;obtain ⟨rfl,rfl⟩:=h;exact Za8 hp (hop x u hx).1 (hop x u hx).2
 case pick c x y=>
  cases hc:zL fr c with
  | none=>simp [hc] at h
  | some u=>
   cases u <;> simp only [hc,reduceCtorEq] at h
   rename_i t;cases hx:zL fr (cond t x y) with
   | none=>simp [hx] at h
   | some u=>
    simp only [hx,xa,xb] at h;obtain ⟨rfl,rfl⟩:=h;have hc':=(hop c _ hc).1;simp only [V.real] at hc';simp only [execOp,hc',asBool,Qd,Yf,Yd];cases t
    ·exact Za8 hp (hop y u hx).1 (hop y u hx).2
    ·exact Za8 hp (hop x u hx).1 (hop x u hx).2
 case alloc t=>
  cases hz:Zba P t with
  | none=>simp [hz] at h
  | some z=>
   cases hs:zaa P t with
   | none=>simp [hz,hs] at h
   | some n=>
    simp only [hz,hs] at h;cases ha:jdf st z n with
    | none=>simp [ha] at h
    | some r=>
     obtain ⟨x,st1⟩:=r;simp only [ha,xa,xb] at h;obtain ⟨rfl,rfl⟩:=h;obtain ⟨_,_,_,zok⟩:=zap J J.nx hz;obtain ⟨J',w',r1,r2,r3,r4⟩:=jdE (P:=P) hn hh hro t zok ha;simp only [execOp];refine Zaa (s:=Instr.alloc t true (.tuple #[])) ?_ r3 r4;rw [r2];simp [Instr.alloc,ja8 J hz,r1]
 case box t x=>
  cases hx:zL fr x with
  | none=>simp [hx] at h
  | some u=>
   cases hs:zaa P t with
   | none=>simp [hx,hs] at h
   | some n=>
    simp only [hx,hs] at h;cases ha:jdf st u n with
    | none=>simp [ha] at h
    | some r=>
     obtain ⟨y,st1⟩:=r;simp only [ha,xa,xb] at h;obtain ⟨rfl,rfl⟩:=h;obtain ⟨e1,e2⟩:=hop x u hx;obtain ⟨J',w',r1,r2,r3,r4⟩:=jdE (P:=P) hn hh hro t e2 ha;simp only [execOp];refine Zaa (s:=Instr.box t (a.eval x)) ?_ r3 r4;rw [r2,e1];simp [Instr.box,r1]
 case build t ps=>
  cases hps:Jan fr ps.toList with
  | none=>simp [hps] at h
  | some r=>
   simp only [hps] at h;cases hb:JdB P t r with
   | none=>simp [hb] at h
   | some u=>
    simp only [hb,xa,xb] at h;obtain ⟨rfl,rfl⟩:=h;obtain ⟨p1,p2⟩:=ZaZ hop _ _ hps;obtain ⟨q1,q2⟩:=JdE (P:=P) (J:=J) (w:=w) (n:=J.nx) p2 hb;have hm:(ps.map λp=>(p.1,a.eval p.2))=(r.map λx=>(x.1,x.2.real J)).toArray:=by
     apply Ri;simpa using p1
    have he:execOp a.eval ⟨dst,.build t ps,ty,pos,after,guard⟩=(do pure (.value (<-Instr.build t (ps.map λp=>(p.1,a.eval p.2)))):Sem Next):=rfl
    rw [he,hm];exact Zaa q1 q2 hp
 case buildSlice t len ps=>
  cases hps:Jan fr ps.toList with
  | none=>simp [hps] at h
  | some r=>
   simp only [hps] at h;cases hb:zS P st t len r with
   | none=>simp [hb] at h
   | some u=>
    obtain ⟨x,st1⟩:=u;simp only [hb,xa,xb] at h;obtain ⟨rfl,rfl⟩:=h;obtain ⟨p1,p2⟩:=ZaZ hop _ _ hps;obtain ⟨J',w',r1,r2,r3⟩:=zdn (P:=P) hn hh hro p2 hb;have hm:(ps.map λp=>(p.1,a.eval p.2))=(r.map λx=>(x.1,x.2.real J)).toArray:=by
     apply Ri;simpa using p1
    have he:execOp a.eval ⟨dst,.buildSlice t len ps,ty,pos,after,guard⟩=(do pure (.value (<-Instr.buildSlice t len (ps.map λp=>(p.1,a.eval p.2)))):Sem Next):=rfl
    rw [he,hm];exact Zaa r1 r2 r3
 case load t x=>
  cases hx:zL fr x with
  | none=>simp [hx] at h
  | some u=>
   cases u <;> simp only [hx,reduceCtorEq] at h
   rename_i g off;cases hv:Zau P st t g off with
   | none=>simp [hv] at h
   | some y=>
    simp only [hv,xa,xb] at h;obtain ⟨rfl,rfl⟩:=h;obtain ⟨q1,q2⟩:=ZcX (P:=P) hn hh hv;simp only [execOp];refine Zaa (s:=Instr.loadAt t (a.eval x)) ?_ (by rw [hn];exact q2) hp
    rw [(hop x _ hx).1];exact q1
 case store t x y=>
  cases hx:zL fr x with
  | none=>simp [hx] at h
  | some u=>
   cases u <;> simp only [hx,reduceCtorEq] at h
   rename_i g off;cases hy:zL fr y with
   | none=>simp [hy] at h
   | some z=>
    simp only [hy] at h;cases hs:ZdB P ro st t g off z with
    | none=>simp [hs] at h
    | some st1=>
     simp only [hs,xa,xb] at h;obtain ⟨rfl,rfl⟩:=h;obtain ⟨w',q1,q2⟩:=zfw (P:=P) hn hh hro (hop y z hy).2 hs;show zcH P J ro B st w none st1 ((do Instr.storeAt t (a.eval x) (a.eval y);pure .skip:Sem Next).run P w)
     rw [(hop x _ hx).1,(hop y z hy).1];simp only [Qd,q1,Yd,Yf];exact ⟨rfl,J,q2⟩
 case nilCheck x=>
  cases hx:zL fr x with
  | none=>simp [hx] at h
  | some u=>
   cases u <;> simp only [hx,reduceCtorEq] at h
   rename_i g off;simp only [xa,xb] at h;obtain ⟨rfl,rfl⟩:=h;have e:=hop x _ hx;simp only [execOp,e.1,V.real];exact Za8 hp (by simp [V.real]) e.2
 case binOp op xt x y yt=>
  cases hx:zL fr x with
  | none=>simp [hx] at h
  | some u=>
   cases hy:zL fr y with
   | none=>simp [hx,hy] at h
   | some z=>
    simp only [hx,hy] at h;cases hb:JeY P op xt u z with
    | none=>simp [hb] at h
    | some r=>
     simp only [hb,xa,xb] at h;obtain ⟨rfl,rfl⟩:=h;have q:=ze0 (P:=P) (J:=J) (n:=J.nx) w x y (hop x u hx).2 (hop y z hy).2 hb;have e1:=(hop x u hx).1;have e2:=(hop y z hy).1;rw [<-e1,<-e2] at q;have hrun:(execOp a.eval ⟨dst,.binOp op xt x y yt,ty,pos,after,guard⟩).run P w=.ok (.value (r.real J)) w:=by
      have:execOp a.eval ⟨dst,.binOp op xt x y yt,ty,pos,after,guard⟩=(do pure (.value (<-(do eqGuard op xt x y (a.eval x) (a.eval y);binOp op xt (a.eval x) (a.eval y):Sem Value))):Sem Next):=rfl
      rw [this,Qd,q.1];rfl
     rw [hrun];exact Za8 hp rfl q.2
 case unOp op xt x=>
  cases hx:zL fr x with
  | none=>simp [hx] at h
  | some u=>
   simp only [hx] at h;cases hb:vun op u with
   | none=>simp [hb] at h
   | some r=>
    simp only [hb,xa,xb] at h;obtain ⟨rfl,rfl⟩:=h;obtain ⟨q1,q2⟩:=zf2 (P:=P) (J:=J) w hb;simp only [execOp];refine Zaa (s:=Op.unary op (a.eval x)) ?_ (q2 _) hp;rw [(hop x u hx).1];exact q1
 case convert s d x=>
  cases hx:zL fr x with
  | none=>simp [hx] at h
  | some u=>
   simp only [hx] at h;cases hb:Jdf P ro st s d u with
   | none=>simp [hb] at h
   | some r=>
    obtain ⟨y,st1⟩:=r;simp only [hb,xa,xb] at h;obtain ⟨rfl,rfl⟩:=h;obtain ⟨J',w',r1,r2,r3⟩:=Jfw (P:=P) hn hh hro (hop x u hx).2 hb;simp only [execOp];refine Zaa (s:=convert s d (a.eval x)) ?_ r2 r3;rw [(hop x u hx).1];exact r1
 case makeFunc fn first caps=>
  cases hx:ja4 fr first.toList with
  | none=>simp [hx] at h
  | some xs=>
   cases hy:ja4 fr caps.toList with
   | none=>simp [hx,hy] at h
   | some ys=>
    simp only [hx,hy,xa,xb] at h;obtain ⟨rfl,rfl⟩:=h;obtain ⟨p1,p2⟩:=JaF hop _ _ hx;obtain ⟨q1,q2⟩:=JaF hop _ _ hy;simp only [execOp];refine Zaa (s:=Instr.makeFunc fn (first.map a.eval) (caps.map a.eval)) (J':=J) (w':=w) ?_ (by simp only [V.ok];exact ⟨p2,q2⟩) hp
    have e1:first.map a.eval=(V.reals J xs).toArray:=by apply Ri;rw [Vre];simpa using p1
    have e2:caps.map a.eval=(V.reals J ys).toArray:=by apply Ri;rw [Vre];simpa using q1
    rw [e1,e2];simp [Instr.makeFunc,V.real]
 case makeSlice t l c=>
  cases hx:zL fr l with
  | none=>simp [hx] at h
  | some u=>
   cases u <;> simp only [hx,reduceCtorEq] at h
   cases hy:zL fr c with
   | none=>simp [hy] at h
   | some z=>
    cases z <;> simp only [hy,reduceCtorEq] at h
    rename_i k1 n1 k2 n2;cases hb:JaS P st t n1 n2 with
    | none=>simp [hb] at h
    | some r=>
     obtain ⟨y,st1⟩:=r;simp only [hb,xa,xb] at h;obtain ⟨rfl,rfl⟩:=h;obtain ⟨J',w',r1,r2,r3⟩:=zdF (P:=P) (kl:=k1) (kc:=k2) hn hh hro hb;simp only [execOp];refine Zaa (s:=Instr.makeSlice t (a.eval l) (a.eval c)) ?_ r2 r3;rw [(hop l _ hx).1,(hop c _ hy).1];simp only [V.real] at r1 |-;exact r1
 case slice t x lo hi mx=>
  cases hx:zL fr x with
  | none=>simp [hx] at h
  | some u=>
   simp only [hx] at h;split at h
   ·rename_i lo' hi' mx' h1 h2 h3;cases hb:jao P t u lo' hi' mx' with
    | none=>simp [hb] at h
    | some r=>
     simp only [hb,xa,xb] at h;obtain ⟨rfl,rfl⟩:=h;obtain ⟨q1,q2⟩:=jdF (P:=P) (J:=J) (w:=w) (n:=J.nx) (hop x u hx).2 hb;simp only [execOp];refine Zaa (s:=Instr.sliceAt t (a.eval x) (lo.map a.eval) (hi.map a.eval) (mx.map a.eval)) ?_ q2 hp;rw [(hop x u hx).1,Jbw hf h1,Jbw hf h2,Jbw hf h3];exact q1
   ·simp at h
 case fieldAddr t x f=>
  cases hx:zL fr x with
  | none=>simp [hx] at h
  | some u=>
   cases u <;> simp only [hx,reduceCtorEq] at h
   rename_i g off;cases hv:jaF P t g off f with
   | none=>simp [hv] at h
   | some y=>
    simp only [hv,xa,xb] at h;obtain ⟨rfl,rfl⟩:=h;have e:=hop x _ hx;simp only [V.ok] at e;obtain ⟨q1,q2⟩:=ZbZ (P:=P) (J:=J) w e.2 hv;simp only [execOp];refine Zaa (s:=Instr.fieldAt t (a.eval x) f) ?_ q2 hp;rw [e.1];exact q1
 case field t x f=>
  cases hx:zL fr x with
  | none=>simp [hx] at h
  | some u=>
   simp only [hx] at h;cases hv:zdC P t u f with
   | none=>simp [hv] at h
   | some y=>
    simp only [hv,xa,xb] at h;obtain ⟨rfl,rfl⟩:=h;obtain ⟨q1,q2⟩:=zdE (P:=P) (J:=J) w (hop x u hx).2 hv;simp only [execOp];refine Zaa (s:=Instr.field t (a.eval x) f) ?_ q2 hp;rw [(hop x u hx).1];exact q1
 case indexAddr t x i=>
  cases hx:zL fr x with
  | none=>simp [hx] at h
  | some u=>
   cases hi:zL fr i with
   | none=>simp [hx,hi] at h
   | some z=>
    cases z <;> simp only [hx,hi,reduceCtorEq] at h
    rename_i k n;cases hv:zZ P t u n with
    | none=>simp [hv] at h
    | some y=>
     simp only [hv,xa,xb] at h;obtain ⟨rfl,rfl⟩:=h;obtain ⟨q1,q2⟩:=JbZ (P:=P) (J:=J) (k:=k) w (hop x u hx).2 hv;simp only [execOp];refine Zaa (s:=Instr.indexAt t (a.eval x) (a.eval i)) ?_ q2 hp;rw [(hop x u hx).1,(hop i _ hi).1];simp only [V.real] at q1 |-;exact q1
 case index t x i=>
  cases hx:zL fr x with
  | none=>simp [hx] at h
  | some u=>
   cases hi:zL fr i with
   | none=>simp [hx,hi] at h
   | some z=>
    cases z <;> simp only [hx,hi,reduceCtorEq] at h
    rename_i k n;cases hv:Zdf P t u n with
    | none=>simp [hv] at h
    | some y=>
     simp only [hv,xa,xb] at h;obtain ⟨rfl,rfl⟩:=h;obtain ⟨q1,q2⟩:=JdD (P:=P) (J:=J) (k:=k) w (hop x u hx).2 hv;simp only [execOp];refine Zaa (s:=Instr.index t (a.eval x) (a.eval i)) ?_ q2 hp;rw [(hop x u hx).1,(hop i _ hi).1];simp only [V.real] at q1 |-;exact q1
 case extract x i=>
  cases hx:zL fr x with
  | none=>simp [hx] at h
  | some u=>
   cases u <;> simp only [hx,reduceCtorEq] at h
   rename_i vs;cases hv:vs[i]? with
   | none=>simp [hv] at h
   | some y=>
    simp only [hv,xa,xb] at h;obtain ⟨rfl,rfl⟩:=h;have e:=hop x _ hx;simp only [V.ok,V.oks_iff] at e;simp only [execOp];refine Zaa (s:=Instr.extract (a.eval x) i) (J':=J) (w':=w) ?_ (e.2 y (List.mem_of_getElem? hv)) hp;rw [e.1];simp [Instr.extract,V.real,Vre,hv]
 case call c=>
  cases hx:ja4 fr c.args.toList with
  | none=>simp [hx] at h
  | some args=>
   simp only [hx] at h;obtain ⟨p1,p2⟩:=JaF hop _ _ hx;have e1:c.args.map a.eval=(args.map (V.real J)).toArray:=by apply Ri;simpa using p1
   cases hc:c.callee with
   | invoke r m=>simp [hc] at h
   | builtin b=>
    simp only [hc] at h;cases hb:ZZ P ro b c.argTypes.toList args st with
    | none=>simp [hb] at h
    | some r=>
     obtain ⟨y,st1⟩:=r;simp only [hb,xa,xb] at h;obtain ⟨rfl,rfl⟩:=h;have:=Ze1 (P:=P) (ty:=ty) (cs:=c.args.map fun|.const _=>true|_=>false) hn hh hro p2 hb
     simp only [execOp,resolve,hc,Qd,Yf,Yd,invoke,e1];exact this
   | value f=>
    simp only [hc] at h;cases hfo:zL fr f with
    | none=>simp [hfo] at h
    | some u=>
     simp only [hfo] at h;split at h
     ·rename_i fid first caps heq
      simp only [xa] at heq;subst heq;cases hcl:call fid (first++args++caps) st with
      | none=>simp only [hcl,reduceCtorEq] at h
      | some r=>
       obtain ⟨y,st1⟩:=r;simp only [hcl,xa,xb] at h;obtain ⟨rfl,rfl⟩:=h;have e2:=hop f _ hfo;simp only [V.ok] at e2;have hok:V.oks J.nx (first++args++caps):=by
        rw [V.oks_iff];intro z hz;simp only [Rf] at hz;rcases hz with (hz|hz)|hz
        ·exact (V.oks_iff _ _).1 e2.2.1 z hz
        ·exact (V.oks_iff _ _).1 p2 z hz
        ·exact (V.oks_iff _ _).1 e2.2.2 z hz
       obtain ⟨⟨fn,cd,hfn,hbody⟩,hC⟩:=hcall fid _ st y st1 hcl J w hn hh hro hok;have hargs:(V.reals J first).toArray++(args.map (V.real J)).toArray++(V.reals J caps).toArray=(V.reals J (first++args++caps)).toArray:=by
        simp [Vre]
       have hnm:=hname fid fn hfn;simp only [execOp,resolve,hc,e2.1,V.real,Deferred.ofValue,Qd,Yf,Yd,invoke,e1,hargs,callFunc,run_program,hfn,hnm,hbody,yd,if_false,Option.isNone_some];refine ⟨rfl,hC.mono ?_⟩;rintro e w' ⟨J',h1,h2,h3⟩;exact ⟨y,J',rfl,h1,h2,h3⟩
     ·simp at h
end
