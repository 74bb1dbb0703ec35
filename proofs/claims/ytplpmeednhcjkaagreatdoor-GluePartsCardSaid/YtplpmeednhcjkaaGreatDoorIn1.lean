/- Lemmas. -/
import Derived.Test.YtplpmeednhcjkaaGreatDoorProg
import Derived.Shelf.Spec.SlicesInsert
import Derived.Lib.AppendZerosOnto
import Derived.Laws.NewBlocks
import Derived.Test.YtplpmeednhcjkaaGreatDoorVa4
set_option linter.unusedVariables false
set_option linter.unusedSimpArgs false
namespace Go.Proofs.YtplpmeednhcjkaaGreatDoor
open Go.Proofs.Tryz
open Go.RowKit Go.Lib Go.Proofs
structure InsL (P:Program):Prop where
 mixed:P.follows .mixedOrders=true
 fi:P.funcs[29]?=some f29
 fo:P.funcs[46]?=some f46
 tt:P.underlying 0=some (.tuple #[])
 ta:∀w,(isAgg 0).run P w=.ok false w
 tz:∀w,(Go.sizeOf 0).run P w=.ok 1 w
 tv:∀w,(zeroValue 0).run P w=.ok (.tuple #[]) w
 nt:P.underlying 3=some (.int .i64)
 na:∀w,(isAgg 3).run P w=.ok false w
 nz:∀w,(Go.sizeOf 3).run P w=.ok 1 w
 nv:∀w,(zeroValue 3).run P w=.ok (.int .i64 0) w
 bt:P.underlying 4=some .bool
 ba:∀w,(isAgg 4).run P w=.ok false w
 bz:∀w,(Go.sizeOf 4).run P w=.ok 1 w
 bv:∀w,(zeroValue 4).run P w=.ok (.bool false) w
 et:P.underlying 5=some (.int .u8)
 ea:∀w,(isAgg 5).run P w=.ok false w
 ez:∀w,(Go.sizeOf 5).run P w=.ok 1 w
 ev:∀w,(zeroValue 5).run P w=.ok (.int .u8 0) w
 st:P.underlying 40=some (.slice 5)
 sa:∀w,(isAgg 40).run P w=.ok false w
 sz:∀w,(Go.sizeOf 40).run P w=.ok 1 w
 sv:∀w,(zeroValue 40).run P w=.ok (.slice none 0 0) w
 info:(P.info? 5).map (λi=>(i.zero,i.size,i.bytes))=some (some (.int .u8 0),1,1)
theorem jjH:InsL prog:=by
 refine ⟨by kernel_rfl,func29,func46,Tryz.underlying0,Tryz.isAgg0,Tryz.sizeOf0,Tryz.zeroValue0,Tryz.underlying3,Tryz.isAgg3,Tryz.sizeOf3,Tryz.zeroValue3,Tryz.underlying4,Tryz.isAgg4,Tryz.sizeOf4,Tryz.zeroValue4,Tryz.underlying5,Tryz.isAgg5,Tryz.sizeOf5,Tryz.zeroValue5,Tryz.underlying40,Tryz.isAgg40,Tryz.sizeOf40,Tryz.zeroValue40,by kernel_rfl⟩
section
variable {P:Program}
theorem jf7 (L:InsL P):(P.info? 5).map (·.size)=some 1:=by
 have h:=L.info;cases hi:P.info? 5 with
 | none=>rw [hi] at h;cases h
 | some t=>
  rw [hi] at h;simp only [yg,xa,xb] at h |-;exact h.2.1
set_option maxHeartbeats 4000000 in
set_option maxRecDepth 100000 in
theorem Zhx (L:InsL P) {b o n c i vb vo m vc:Nat} {cs vs:List Value} {w:World} (hi:i<n) (hm:0<m) (hr:n+m<=c) (hc:n+m<=140737488355328) (hne:vb≠b) (hcl:cs.length=n) (hvl:vs.length=m)
  (hcs:∀j v,cs[j]?=some v->w.cell? ⟨b,o+j,none⟩=some v) (hall:∀j,j<n+m->(w.cell? ⟨b,o+j,none⟩).isSome=true) (hfz:∀j,j<n+m->w.frozen? ⟨b,o+j,none⟩=false)
  (hvs:∀j v,vs[j]?=some v->w.cell? ⟨vb,vo+j,none⟩=some v) (hco:∀v∈cs.drop i,v.oneCell'=true) (hvo:∀v∈vs,v.oneCell'=true)
  (hov:∀lb cb,(callFunc 46 #[.slice (some ⟨vb,vo,none⟩) m vc,.slice (some ⟨b,o+(i+m),none⟩) lb cb]).run P w=.ok (.value (.bool false)) w) :
  Calls P 29 #[.slice (some ⟨b,o,none⟩) n c,.int .i64 i,.slice (some ⟨vb,vo,none⟩) m vc] w λe w'=>
   e=.returned (.slice (some ⟨b,o,none⟩) (n+m) c)/\w'=(w.drew.setCells b (o+(i+m)) (cs.drop i)).setCells b (o+i) vs:=by
 have hsize:=jf7 L;have hdl:(cs.drop i).length=n-i:=by rw [Hb,hcl]
 have first:∀ty dc sc,(Builtin.copy_ #[40,40] ty #[.slice (some ⟨b,o+(i+m),none⟩) (n+m-(i+m)) dc,.slice (some ⟨b,o+i,none⟩) (n+m-i) sc]).run P w.drew=.ok (goInt (cs.drop i).length) (w.drew.setCells b (o+(i+m)) (cs.drop i)):=by
  intro ty dc sc;refine run_copy_cells w.drew _ _ ty 5 b (o+(i+m)) (n+m-(i+m)) dc ⟨b,o+i,none⟩ (n+m-i) sc (cs.drop i) L.st hsize ?_ (λj v hj=>?_) (λj hj=>?_) (λj hj=>?_) hco
  ·rw [hdl];simp only [Nat.min_def];split <;> omega
  ·rw [List.getElem?_drop] at hj;rw [Addr.add_lit,Qf];exact hcs _ v hj
  ·rw [Qf];exact hall _ (by omega)
  ·rw [Qf];exact hfz _ (by omega)
 generalize hW:w.drew.setCells b (o+(i+m)) (cs.drop i)=W1 at first |-
 have second:∀W,(∀x,W.cell? x=W1.cell? x)->(∀x,W.frozen? x=W1.frozen? x)->∀ty dc,(Builtin.copy_ #[40,40] ty #[.slice (some ⟨b,o+i,none⟩) (n+m-i) dc,.slice (some ⟨vb,vo,none⟩) m vc]).run P W=.ok (goInt vs.length) (W.setCells b (o+i) vs):=by
  intro W hWc hWf ty dc;refine run_copy_cells W _ _ ty 5 b (o+i) (n+m-i) dc ⟨vb,vo,none⟩ m vc vs L.st hsize ?_ (λj v hj=>?_) (λj hj=>?_) (λj hj=>?_) hvo
  ·rw [hvl];simp only [Nat.min_def];split <;> omega
  ·rw [Addr.add_lit,hWc,<-hW,World.cell?_setCells_out b _ _ _ _ (λh _=>absurd h hne)]
   exact hvs j v hj
  ·rw [hWc,<-hW,Qf];exact isSome_setCells b _ _ _ (λj hj=>by rw [Qf];exact hall _ (by omega)) _ (hall _ (by omega))
  ·rw [hWf,<-hW,World.frozen?_setCells,Qf];exact hfz _ (by omega)
 have tt:=L.tt;have ta:=L.ta;have tz:=L.tz;have tv:=L.tv;have nt:=L.nt;have na:=L.na;have nz:=L.nz;have nv:=L.nv;have bt:=L.bt;have ba:=L.ba;have bz:=L.bz;have bv:=L.bv;have et:=L.et;have ea:=L.ea;have ez:=L.ez;have ev:=L.ev;have st:=L.st;have sa:=L.sa;have sz:=L.sz;have sv:=L.sv;have r1:=run_underlying L.tt;have r2:=run_underlying L.nt;have r3:=run_underlying L.bt;have r4:=run_underlying L.et;have r5:=run_underlying L.st;have mixed:=L.mixed;have q1:¬((m:Int)=0):=by omega
 have q2:¬((i:Int)=(n:Int)):=by omega
 have q3:IntKind.i64.wrap ((i:Int)+(m:Int))=(i:Int)+(m:Int):=by rw [IntKind.wrap_i64];omega
 have q4:(0:Int)<=(i:Int)+(m:Int):=by omega
 have q5:i<=n:=by omega
 have q6:((i:Int)+(m:Int)).toNat=i+m:=by omega
 have q7:¬(c=i+m):=by omega
 have q8:(i:Int)<=(n:Int)+(m:Int):=by omega
 have q9:¬(c=i):=by omega
 clear hW hsize hdl hcs hall hvs hfz hco hvo hcl hvl
 go_enter L.fi,(show f29.ntmps=95 from rfl)
 go_wp2_with (simp only [hov])
 go_region_law_o (refine step_copy_runI rfl _ _ 40 40 rfl _ _ (by simp [Act.eval,Act.put]) (by simp [Act.eval,Act.put]) (first _ _ _) ?_)
 go_wp2_with (at_builtin;refine wpList_copy_runI _ rfl _ _ 40 40 rfl _ _ rfl rfl (second _ (λ_=>rfl) (λ_=>rfl) _ _) ?_)
 go_ret
 exact ⟨rfl,rfl⟩
set_option maxHeartbeats 4000000 in
set_option maxRecDepth 100000 in
theorem Jii (L:InsL P) {b o n c i vb vo m vc:Nat} {cs vs:List Value} {w:World} (hi:i<n) (hm:0<m) (hnc:n<=c) (hr:c<n+m) (hbig:n+m<=140737488355328) (hcl:cs.length=n) (hvl:vs.length=m)
  (hcs:∀j v,cs[j]?=some v->w.cell? ⟨b,o+j,none⟩=some v) (hvs:∀j v,vs[j]?=some v->w.cell? ⟨vb,vo+j,none⟩=some v) (hco:∀v∈cs.drop i,v.oneCell'=true) (hvo:∀v∈vs,v.oneCell'=true) :
  Calls P 29 #[.slice (some ⟨b,o,none⟩) n c,.int .i64 i,.slice (some ⟨vb,vo,none⟩) m vc] w λe w'=>∃G z,n+m<=G/\z=Builtin.zeroCells (Value.int .u8 0).cells (n+m-i)++Builtin.zeroCells (Value.int .u8 0).cells (G-(n+m))/\
   e=.returned (.slice (some ⟨w.heap.size,0,none⟩) (n+m) G)/\
   w'=(((w.alloc (.cells ((cs.take i).toArray++z) 5)).drew.setCells w.heap.size i vs).drew).setCells w.heap.size (i+m) (cs.drop i):=by
 have hsize:=jf7 L;obtain ⟨inf,hinf,hz0,hzs,hzb⟩:=info_parts L.info;have hdl:(cs.drop i).length=n-i:=by rw [Hb,hcl]
 have hbw:b<w.heap.size:=block_lt_of_cell (hcs 0 _ (List.getElem?_eq_getElem (by omega)))
 have hvw:vb<w.heap.size:=block_lt_of_cell (hvs 0 _ (List.getElem?_eq_getElem (by omega)))
 have hold:(Builtin.firstCells inf.size i (.slice (some ⟨b,o,none⟩) i c)).run P w.drew=.ok (cs.take i).toArray w.drew:=by
  rw [hzs];refine run_firstCells_some w.drew 1 i ⟨b,o,none⟩ i c (cs.take i) (by rw [Qi];omega) (λj v hj=>?_)
  rw [List.getElem?_take] at hj;rw [Addr.add_lit];split at hj
  ·exact hcs j v hj
  ·cases hj
 have hk:(n:Int)+(m:Int)-(i:Int)=((n+m-i:Nat):Int):=by omega
 have hk':i+(n+m-i)=n+m:=by omega
 have row:∀ty,∃G,n+m<=G/\G<=9223372036854775807/\∀ty',ty'=ty->(Builtin.append_ #[40,3] ty' #[.slice (some ⟨b,o,none⟩) i c,.int .i64 ((n:Int)+(m:Int)-(i:Int))]).run P w =
   .ok (.slice (some ⟨w.heap.size,0,none⟩) (n+m) G) (w.drew.alloc (.cells ((cs.take i).toArray++(Builtin.zeroCells (Value.int .u8 0).cells (n+m-i)++Builtin.zeroCells (Value.int .u8 0).cells (G-(n+m)))) 5)):=by
  intro ty;refine ⟨grownCap w (n+m) c 5,grownCap_ge w _ _ _,?_,λty' _=>?_⟩
  ·have:=grownCap_le_maxLen w (n+m) c 5 (by unfold maxLen;omega)
   unfold maxLen at this;omega
  ·have h:=Lib.run_append_grow_zeros w 40 3 ty' 5 inf _ .i64 .i64 L.st L.nt hinf hz0 (some ⟨b,o,none⟩) i c (cs.take i) hold (n+m-i) (by omega) (by omega) (by omega) (by omega) (by rw [hzb];omega) (by rw [hzb,hk'];exact growslice_fits hr (by omega))
   rw [hk'] at h;rw [hk,h,Array.append_assoc]
 obtain ⟨G,hG,hG63,hrun⟩:=row 40;have hrun:=hrun _ rfl;generalize hZ:Builtin.zeroCells (Value.int .u8 0).cells (n+m-i)++Builtin.zeroCells (Value.int .u8 0).cells (G-(n+m))=Z at hrun;have hZs:Z.size=n+m-i+(G-(n+m)):=by rw [<-hZ];simp [Builtin.zeroCells,Value.cells]
 have hsz:n+m<=((cs.take i).toArray++Z).size:=by simp [hZs];omega
 generalize hR:(cs.take i).toArray++Z=R at hrun hsz;generalize hW:w.drew.alloc (.cells R 5)=W1 at hrun;have cellN:∀j,j<n+m->(W1.cell? ⟨w.heap.size,j,none⟩).isSome=true:=λj hj=>by
  rw [<-hW,World.cell?_alloc_at (w:=w.drew) R _ w.heap.size j rfl,Array.getElem?_eq_getElem (by omega)];rfl
 have fzN:∀j,W1.frozen? ⟨w.heap.size,j,none⟩=false:=λj=>by rw [<-hW];exact World.frozen?_alloc_at (w:=w.drew) R _ w.heap.size j rfl
 have cellB:∀j v,w.cell? ⟨b,j,none⟩=some v->W1.cell? ⟨b,j,none⟩=some v:=λj v h=>by rw [<-hW,World.cell?_alloc_past (w:=w.drew) _ b j hbw];exact h
 have cellV:∀j v,w.cell? ⟨vb,j,none⟩=some v->W1.cell? ⟨vb,j,none⟩=some v:=λj v h=>by rw [<-hW,World.cell?_alloc_past (w:=w.drew) _ vb j hvw];exact h
 have hbN:b≠w.heap.size:=by omega
 have first:∀W,(∀x,W.cell? x=W1.cell? x)->(∀x,W.frozen? x=W1.frozen? x)->∀ty dc,(Builtin.copy_ #[40,40] ty #[.slice (some ⟨w.heap.size,i,none⟩) (n+m-i) dc,.slice (some ⟨vb,vo,none⟩) m vc]).run P W=.ok (goInt vs.length) (W.setCells w.heap.size i vs):=by
  intro W hWc hWf ty dc;refine run_copy_cells W _ _ ty 5 w.heap.size i (n+m-i) dc ⟨vb,vo,none⟩ m vc vs L.st hsize ?_ (λj v hj=>?_) (λj hj=>?_) (λj hj=>?_) hvo
  ·rw [hvl];simp only [Nat.min_def];split <;> omega
  ·rw [Addr.add_lit,hWc];exact cellV _ v (hvs j v hj)
  ·rw [hWc];exact cellN _ (by omega)
  ·rw [hWf];exact fzN _
 have second:∀W,(∀x,W.cell? x=(W1.setCells w.heap.size i vs).cell? x)->(∀x,W.frozen? x=(W1.setCells w.heap.size i vs).frozen? x)->∀ty dc sc,(Builtin.copy_ #[40,40] ty #[.slice (some ⟨w.heap.size,i+m,none⟩) (n+m-(i+m)) dc,.slice (some ⟨b,o+i,none⟩) (n-i) sc]).run P W=.ok (goInt (cs.drop i).length) (W.setCells w.heap.size (i+m) (cs.drop i)):=by
  intro W hWc hWf ty dc sc;refine run_copy_cells W _ _ ty 5 w.heap.size (i+m) (n+m-(i+m)) dc ⟨b,o+i,none⟩ (n-i) sc (cs.drop i) L.st hsize ?_ (λj v hj=>?_) (λj hj=>?_) (λj hj=>?_) hco
  ·rw [hdl];simp only [Nat.min_def];split <;> omega
  ·rw [List.getElem?_drop] at hj;rw [Addr.add_lit,hWc,World.cell?_setCells_out _ _ _ _ _ (λh _=>absurd h hbN),Qf]
   exact cellB _ v (hcs _ v hj)
  ·rw [hWc];exact isSome_setCells _ _ _ _ (λt ht=>cellN _ (by omega)) _ (cellN _ (by omega))
  ·rw [hWf,World.frozen?_setCells];exact fzN _
 subst hW;have first':=first ((w.alloc (.cells R 5)).drew) (λ_=>rfl) (λ_=>rfl)
 have second':=second (((w.alloc (.cells R 5)).drew.setCells w.heap.size i vs).drew) (λ_=>rfl) (λ_=>rfl)
 have tt:=L.tt;have ta:=L.ta;have tz:=L.tz;have tv:=L.tv;have nt:=L.nt;have na:=L.na;have nz:=L.nz;have nv:=L.nv;have bt:=L.bt;have ba:=L.ba;have bz:=L.bz;have bv:=L.bv;have et:=L.et;have ea:=L.ea;have ez:=L.ez;have ev:=L.ev;have st:=L.st;have sa:=L.sa;have sz:=L.sz;have sv:=L.sv;have r1:=run_underlying L.tt;have r2:=run_underlying L.nt;have r3:=run_underlying L.bt;have r4:=run_underlying L.et;have r5:=run_underlying L.st;have mixed:=L.mixed;have q1:¬((m:Int)=0):=by omega
 have q2:¬((i:Int)=(n:Int)):=by omega
 have q3:IntKind.i64.wrap ((i:Int)+(m:Int))=(i:Int)+(m:Int):=by rw [IntKind.wrap_i64];omega
 have q4:(0:Int)<=(i:Int)+(m:Int):=by omega
 have q5:i<=n:=by omega
 have q6:((i:Int)+(m:Int)).toNat=i+m:=by omega
 have q7:(c:Int)<(n:Int)+(m:Int):=by omega
 have q8:¬(G=i):=by omega
 have q9:¬(G=i+m):=by omega
 have q10:¬(c=i):=by omega
 have q11:(i:Int)<=(n:Int):=by omega
 clear hk hk' hold row hsz hZs cellN fzN cellB cellV hdl hsize hcs hvs hco hvo hcl hvl hinf hz0 hzs hzb;refine Calls.mono (R:=λe w'=>e=.returned (.slice (some ⟨w.heap.size,0,none⟩) (n+m) G)/\w'=(((w.alloc (.cells R 5)).drew.setCells w.heap.size i vs).drew).setCells w.heap.size (i+m) (cs.drop i)) ?_ ?_
 ·clear hZ hR
  go_enter L.fi,(show f29.ntmps=95 from rfl)
  go_wp2_with (first
   | (at_builtin;refine Lib.wpList_append_run _ rfl _ _ _ _ rfl _ _ rfl rfl _ _ hrun ?_)
   | (at_builtin;refine wpList_copy_runI _ rfl _ _ 40 40 rfl _ _ rfl rfl (first' _ _) ?_))
  go_region_law_o (refine step_copy_runI rfl _ _ 40 40 rfl (.slice (some ⟨w.heap.size,i+m,none⟩) (n+m-(i+m)) (G-(i+m))) (.slice (some ⟨b,o+i,none⟩) (n-i) (c-i)) (by simp [Act.eval,Act.put]) (by simp [Act.eval,Act.put]) (second' _ (G-(i+m)) (c-i)) ?_)
  go_wp2
  go_ret
  exact ⟨rfl,rfl⟩
 ·rintro e w' ⟨h1,h2⟩;exact ⟨G,Z,hG,hZ.symm,h1,by rw [h2,hR]⟩
end
end Go.Proofs.YtplpmeednhcjkaaGreatDoor
namespace Go.Vm
open Go.RowKit
def T.goF {α R:Type} (x:Option α):Nat->T α->Nat->(T α->R)->R
 | 0,t,_,k=>k t
 | f+1,t,i,k=>match i with
  | 0=>match t with
   | .e=>k (.n .e x .e)
   | .n l _ r=>k (.n l x r)
  | j+1=>match t with
   | .e=>cond (Nat.beq (j%2) 0) (T.goF x f .e (j / 2) λl=>k (.n l none .e)) (T.goF x f .e (j / 2) λr=>k (.n .e none r))
   | .n l v r=>cond (Nat.beq (j%2) 0) (T.goF x f l (j / 2) λl=>k (.n l v r)) (T.goF x f r (j / 2) λr=>k (.n l v r))
theorem T.goF_eq {α R:Type} (x:Option α):∀(f:Nat) (t:T α) (i:Nat) (k:T α->R),T.goF x f t i k=k (T.go x f t i)
 | 0,_,_,_=>rfl
 | f+1,t,0,k=>by cases t <;> rfl
 | f+1,t,j+1,k=>by
  have mL:∀(v:Option α) (r t:T α),T.mkL v r t=.n t v r:=λv r t=>by cases t <;> rfl
  have mR:∀(l:T α) (v:Option α) (t:T α),T.mkR l v t=.n l v t:=λl v t=>by cases t <;> rfl
  cases t with
  | e=>
   simp only [T.goF,T.go,T.goF_eq x f,mL,mR];cases Nat.beq (j%2) 0 <;> rfl
  | n l v r=>
   simp only [T.goF,T.go,T.goF_eq x f,mL,mR];cases Nat.beq (j%2) 0 <;> rfl
def zij (st:St) (g:Nat) (b:Blk) (m:Nat):Option (V×St):=
 Zbu st.nx λnx=>Zbu m λm=>Zbu (low st.ver g) λver=>T.goF none (g+1) st.hp g λhp=>T.goF (some b) (nx+1) hp nx λhp=>Zbu (nx+1) λnx1=>some (.sl nx 0 m m true,⟨nx1,hp,ver⟩)
theorem Zf7 (st:St) (g:Nat) (b:Blk) (m:Nat):zij st g b m=some (.sl st.nx 0 m m true,St.alloc ⟨st.nx,(st.kill g).hp,(st.kill g).ver⟩ b):=by
 simp only [zij,jy,T.goF_eq,St.kill,St.alloc,T.upd]
def Zh0 (ro:Nat) (args:List V) (st:St):Option (V×St):=match args with
 | [.sl g o l c true,.i .i64 (.ofNat i),.sl g2 o2 l2 _ _]=>match st.hp.get g,st.hp.get g2 with
  | some b,some b2=>cond (Nat.beq o 0&&Nat.beq l c&&Nat.beq b.sz l&&Nat.beq b.es 1&&b.op&&Nat.blt i l&&Nat.blt 0 l2&&Nat.ble ro g&&!(Nat.beq g g2)&&Nat.ble (l+l2) 1099511627776)
   (match b.row (l-i) i,b2.row l2 o2 with
   | some rest,some new=>match Blk.put { b with sz:=b.sz+l2 } (new++rest) i with
    | some b'=>zij st g b' (l+l2)
    | none=>none
   | _,_=>none) none
  | _,_=>none
 | _=>none
theorem JaK (r:Nat):∀(vs:List Value) (o:Nat) (w:World) (c:Array Value) (e:TypeId) (fz:Nat×Nat),w.heap[r]?=some (.cells c e fz)->o+vs.length<=c.size->
  (∃c',(w.setCells r o vs).heap[r]?=some (.cells c' e fz)/\c'.size=c.size/\∀k,c'[k]?=if o<=k/\k<o+vs.length then vs[k-o]? else c[k]?)/\(∀k,k≠r->(w.setCells r o vs).heap[k]?=w.heap[k]?)/\(w.setCells r o vs).heap.size=w.heap.size
 | [],o,w,c,e,fz,h,hl=>⟨⟨c,h,rfl,λk=>by rw [ga (by simp)]⟩,λ_ _=>rfl,rfl⟩
 | v::vs,o,w,c,e,fz,h,hl=>by
  simp only [da] at hl;have hself:(w.setCell ⟨r,o,none⟩ v).heap[r]?=some (.cells (c.setIfInBounds o v) e fz):=by
   simp only [World.setCell,Array.getElem?_modify,h,if_true,yg];rfl
  obtain ⟨⟨c',h1,h2,h3⟩,h4,h5⟩:=JaK r vs (o+1) (w.setCell ⟨r,o,none⟩ v) _ e fz hself (by rw [Qh];omega)
  refine ⟨⟨c',h1,by rw [h2,Qh],λk=>?_⟩,λk hk=>by rw [World.setCells,h4 k hk];exact Below.heap_setCell _ _ _ _ hk,by rw [World.setCells,h5];simp [World.setCell]⟩
  rw [h3 k];by_cases e1:k=o
  ·subst e1;rw [ga (by omega),ya (by simp),Array.getElem?_setIfInBounds_self_of_lt (by omega)]
   simp
  ·by_cases e2:o+1<=k/\k<o+1+vs.length
   ·rw [ya e2,ya (by simp;omega),show k-o=(k-(o+1))+1 from by omega]
    simp
   ·rw [ga e2,ga (by simp;omega),Array.getElem?_setIfInBounds_ne (by omega)]
theorem zaB {B r:Nat} (hB:B<=r):∀(vs:List Value) (o:Nat) (a w:World),Below B a w->Below B a (w.setCells r o vs)
 | [],_,_,_,h=>h
 | v::vs,o,a,w,h=>zaB hB vs (o+1) a _ (h.setCell (p:=⟨r,o,none⟩) hB v)
theorem Jhx {P:Program} (w:World) (tS tR e:TypeId) (ht:P.underlying tS=some (.slice e)) (size:Nat) (hz:∀w,(Go.sizeOf e).run P w=.ok size w)
  (a b:Addr) (la ca lb cb:Nat) (hne:a.block≠b.block) (tA tB:TypeId) (kA kB:Nat) (hsa:w.shape? a.block=some (tA,kA)) (hsb:w.shape? b.block=some (tB,kB)) (hkA:kA≠0)
  (hfb:w.frozen? b=false) (hfe:w.frozen? { block:=b.block,off:=kB }=false) :
  (Extern.SlicesOverlaps.overlaps #[tS,tS] #[tR] #[.slice (some a) la ca,.slice (some b) lb cb]).run P w=.ok (.bool false) w:=by
 have h1:(a.block != b.block)=true:=by simpa using hne
 have h2:(a.block==b.block)=false:=by simpa using hne
 delta Extern.SlicesOverlaps.overlaps
 change Sem.run P (underlying tS >>= _) w=_;rw [Qd,run_underlying ht,Yd];by_cases h0:la=0\/lb=0\/size=0
 ·simp [hz,h0]
 ·cases kA with
  | zero=>exact absurd rfl hkA
  | succ kA=>
   cases hx:w.frozen? { block:=a.block,off:=kA+1 } <;> cases hfa:w.frozen? a <;>
    simp [hz,h0,h1,h2,frozen,noView,viewAt,mayBeOne,stringish,shape,Sem.run,hsa,hsb,hfa,hfb,hfe,hx]
end Go.Vm
namespace Go.Proofs.YtplpmeednhcjkaaGreatDoor
open Go.Proofs.Tryz
open Go.Vm Go.RowKit Go.Lib Go.Proofs
theorem Jh0 {b:Blk} {n o:Nat} {cs:List V} (h:b.row n o=some cs) {j:Nat} (hj:j<n):∃v,cs[j]?=some v/\b.get (o+j)=some v:=by
 obtain ⟨h1,h2⟩:=Blk.row_spec _ _ _ h;have:j<cs.length:=by omega
 exact ⟨cs[j],List.getElem?_eq_getElem this,h2 j _ (List.getElem?_eq_getElem this)⟩
theorem jij {b b':Blk} {i m:Nat} {vs:List V} (h:Blk.put { b with sz:=b.sz+m } vs i=some b') (hl:i+vs.length=b.sz+m) (hi:i<=b.sz) (hz:b.zero=[]) :
  b'.sz=b.sz+m/\b'.es=b.es/\b'.op=b.op/\b'.zero=[]/\(∀v∈vs,v.atom=true)/\∀k v,b'.get k=some v->(k<i/\b.get k=some v)\/(i<=k/\k<i+vs.length/\vs[k-i]?=some v):=by
 obtain ⟨h1,h2,h3,h4,h5,h6,_⟩:=Blk.put_spec _ _ _ _ h;refine ⟨h1,h2,h3,by rw [h4];exact hz,h6,λk v hv=>?_⟩
 have hlt:=Blk.get_lt hv;rw [h1] at hlt;dsimp only at hlt;rw [h5 k] at hv;by_cases e:i<=k/\k<i+vs.length
 ·rw [ya e] at hv;exact .inr ⟨e.1,e.2,hv⟩
 ·rw [ga e] at hv;have hk:k<i:=by omega
  refine .inl ⟨hk,?_⟩;have hlen:vs.length<=b.sz+m:=by omega
  by_cases hkb:k<b.sz
  ·simp only [Blk.get] at hv |-;rw [show Nat.blt k (b.sz+m)=true from by rw [ge];omega,Qa] at hv
   rw [show Nat.blt k b.sz=true from by rw [ge];exact hkb,Qa]
   exact hv
  ·exfalso;omega
theorem Zij {P:Program} (L:InsL P) {ro:Nat} {B:World}:JbT P ro B (λf args st=>cond (Nat.beq f 29) (Zh0 ro args st) none):=by
 intro f args st v st' h J w hn hh hro hargs;cases hf:Nat.beq f 29 with
 | false=>simp [hf] at h
 | true=>
 simp only [hf,Qa] at h;rw [Rc] at hf;subst hf;refine ⟨⟨_,_,L.fi,rfl⟩,?_⟩;unfold Zh0 at h;split at h
 ·rename_i g o l c i g2 o2 l2 c2 op2;split at h
  ·rename_i b b2 hg hg2;generalize hc:(Nat.beq o 0&&Nat.beq l c&&Nat.beq b.sz l&&Nat.beq b.es 1&&b.op&&Nat.blt i l&&Nat.blt 0 l2&&Nat.ble ro g&&!(Nat.beq g g2)&&Nat.ble (l+l2) 1099511627776)=cc at h;cases cc with
   | false=>simp at h
   | true=>
   simp only [Qa] at h;simp only [yb,Rc,ge,xd,Rm] at hc;obtain ⟨⟨⟨⟨⟨⟨⟨⟨⟨rfl,rfl⟩,hsz⟩,hes⟩,hop⟩,hil⟩,hl2⟩,hrg⟩,hne⟩,hbig⟩:=hc;have hne:g≠g2:=Nat.ne_of_beq_eq_false hne;split at h
   ·rename_i rest new hrest hnew;split at h
    ·rename_i b' hput;rw [Zf7,xa,xb] at h;obtain ⟨rfl,rfl⟩:=h;obtain ⟨k0,c0,e0,fz0,k1,k2,k3,k4,k5⟩:=hh.blk g b hg;obtain ⟨j0,d0,f0,gz0,j1,j2,j3,j4,j5⟩:=hh.blk g2 b2 hg2;obtain ⟨k3a,k3b⟩:=k3 hop;obtain ⟨k4a,k4b⟩:=k4 hrg;have hrr:(J.m g2).1≠(J.m g).1:=λq=>hne (hh.inj g g2 b b2 hg hg2 q.symm)
     obtain ⟨rl,rs⟩:=Blk.row_spec _ _ _ hrest;obtain ⟨nl,ns⟩:=Blk.row_spec _ _ _ hnew;have hvl:(new++rest).length=l2+(l-i):=by rw [Rb,nl,rl]
     obtain ⟨p1,p2,p3,p4,p5,p6⟩:=jij (m:=l2) hput (by rw [hvl];omega) (by omega) k3b
     rw [hes] at k3a p2;rw [hop] at k4b p3;rw [hsz] at k2 k3a p1;have hb2:o2+l2<=b2.sz:=by
      obtain ⟨v,_,q2⟩:=Jh0 hnew (j:=l2-1) (by omega)
      have:=Blk.get_lt q2;omega
     generalize hr:(J.m g).1=r at *;generalize hd:(J.m g).2.1=d at *;generalize hx:(J.m g).2.2=x at *;generalize hr2:(J.m g2).1=r2 at *;generalize hd2:(J.m g2).2.1=d2 at *;have hcs:∀(j:Nat) (v:Value),((c0.extract d (d+l)).toList)[j]?=some v->w.cell? ⟨r,d+j,none⟩=some v:=by
      intro j v hj;rw [Array.getElem?_toList,Array.getElem?_extract] at hj;split at hj
      ·simp only [World.cell?,k1];exact hj
      ·cases hj
     have hcl:((c0.extract d (d+l)).toList).length=l:=by rw [Array.length_toList,Array.size_extract];omega
     have hdrop:((c0.extract d (d+l)).toList).drop i=rest.map (V.real J):=by
      apply List.ext_getElem?;intro j;rw [List.getElem?_drop,List.getElem?_map,Array.getElem?_toList,Array.getElem?_extract];by_cases hj:j<l-i
      ·obtain ⟨v,q1,q2⟩:=Jh0 hrest hj;rw [q1,ya (by omega),(k5 _ _ q2).2.2];rfl
      ·rw [ga (by omega),List.getElem?_eq_none (by omega)];rfl
     have hvs:∀(j:Nat) (v:Value),(new.map (V.real J))[j]?=some v->w.cell? ⟨r2,d2+o2+j,none⟩=some v:=by
      intro j v hj;rw [List.getElem?_map] at hj;cases hu:new[j]? with
      | none=>rw [hu] at hj;cases hj
      | some u=>
       rw [hu,yg,xa] at hj;subst hj;have:=(j5 _ _ (ns j u hu)).2.2;simp only [World.cell?,j1];rw [Qf];exact this
     have hao:∀u∈new++rest,u.ok J.nx/\u.atom=true:=by
      intro u hu;refine ⟨?_,p5 u hu⟩;obtain ⟨j,hj⟩:=List.mem_iff_getElem?.1 hu;rcases Rf.1 hu with q|q
      ·obtain ⟨j,hj⟩:=List.mem_iff_getElem?.1 q;exact (j5 _ _ (ns j u hj)).1
      ·obtain ⟨j,hj⟩:=List.mem_iff_getElem?.1 q;exact (k5 _ _ (rs j u hj)).1
     have hvo:∀u∈new.map (V.real J),u.oneCell'=true:=by
      intro u hu;obtain ⟨u1,hu1,rfl⟩:=xm.1 hu;exact V.oneCell_real J u1 (hao u1 (yo _ hu1)).2
     have hco:∀u∈((c0.extract d (d+l)).toList).drop i,u.oneCell'=true:=by
      intro u hu;rw [hdrop] at hu;obtain ⟨u1,hu1,rfl⟩:=xm.1 hu;exact V.oneCell_real J u1 (hao u1 (ym _ hu1)).2
     have hnl:(new.map (V.real J)).length=l2:=by rw [Qm,nl]
     have hrl:(rest.map (V.real J)).length=l-i:=by rw [Qm,rl]
     have hreal:(V.reals J [.sl g 0 l l true,.i .i64 (.ofNat i),.sl g2 o2 l2 c2 op2]).toArray = #[.slice (some ⟨r,d,none⟩) l (l+x),.int .i64 (i:Int),.slice (some ⟨r2,d2+o2,none⟩) l2 (c2+cond op2 (J.m g2).2.2 0)]:=by
      simp only [V.reals,V.real,hr,hd,hx,hr2,hd2,Qa,Re];rfl
     rw [hreal];have hkill:∀k,(st.kill g).hp.get k=if k=g then none else st.hp.get k:=λk=>by
      rw [St.kill_eq];show (st.hp.upd g none).get k=_;rw [Tgu]
     have hkver:(st.kill g).ver=low st.ver g:=by rw [St.kill_eq]
     have hkv:=Jcf st.ver g;have hkr:=zb0 st.ver g;have hkless:∀k bk,(if k=g then none else st.hp.get k)=some bk->st.hp.get k=some bk:=by
      intro k bk hk;by_cases e1:k=g
      ·simp [e1] at hk
      ·simpa [e1] using hk
     have hkne:∀k bk,(if k=g then none else st.hp.get k)=some bk->(J.m k).1≠r:=by
      intro k bk hk e1;by_cases e2:k=g
      ·simp [e2] at hk
      ·exact e2 (hh.inj k g bk b (hkless k bk hk) hg (e1.trans hr.symm))
     have fin:∀(w':World) (r' d' x':Nat) (c':Array Value) (e':TypeId) (fz':Nat×Nat),Below B.heap.size w w'->(∀k bk,(if k=g then none else st.hp.get k)=some bk->w'.heap[(J.m k).1]?=w.heap[(J.m k).1]?)->
       w'.heap[r']?=some (.cells c' e' fz')->B.heap.size<=r'->(∀k bk,(if k=g then none else st.hp.get k)=some bk->(J.m k).1≠r')->d'+(l+l2)+x'=c'.size->(∀o,o<c'.size+true.toNat->(decide (fz'.1<=o)&&decide (o<fz'.2))=false/\fz'.1<=fz'.2)->
       (∀k,k<i->c'[d'+k]?=c0[d+k]?)->(∀k,i<=k->k<l+l2->c'[d'+k]?=((new++rest)[k-i]?).map (V.real J))->(w.heap.size<=r'\/r'=r)->(∀k,k<w.heap.size->k≠r->w'.heap[k]?=w.heap[k]?)->
       Post J ro B st w (J.push (r',d',x')) (St.alloc ⟨st.nx,(st.kill g).hp,(st.kill g).ver⟩ b') w':=by
      intro w' r' d' x' c' e' fz' hbel hsame hnew' hB hfree hsize hfz hlow hhigh hplace hoth;have hpush:=(hh.less hkless).push (w':=w') (b:=b') (r:=r') (d:=d') (x:=x') (c:=c') (e:=e') (fz:=fz') hsame (hh.base.below hbel) hnew' hB hfree (by omega) (λ_=>⟨by rw [p1,p2];omega,p4⟩) (by rw [p3];exact hfz) (λo v hv=>by
       rcases p6 o v hv with ⟨q1,q2⟩|⟨q1,q2,q3⟩
       ·obtain ⟨s1,s2,s3⟩:=k5 _ _ q2;exact ⟨s1,s2,by rw [hlow o q1];exact s3⟩
       ·have hm:=hao v (List.mem_of_getElem? q3);exact ⟨hm.1,hm.2,by rw [hhigh o q1 (by omega),q3];rfl⟩)
      refine ⟨J.le_push _,by show J.nx+1=st.nx+1;omega,?_,hbel,⟨di _,by show (st.kill g).ver<=st.ver;omega,λk y hy hk=>?_⟩,Ho hro,?_⟩
      ·show HR _ ro B ((st.kill g).hp.upd st.nx (some b')).get w';rw [Jao,show (st.kill g).hp.get=_ from funext hkill,<-hn]
       exact hpush
      ·have hkk:k<(st.kill g).ver:=hk;have hlt:=(hh.blk k y hy).1;show ((st.kill g).hp.upd st.nx (some b')).get k=some y;rw [Tgu,ga (by omega),hkill,ga (by omega)]
       exact hy
      ·refine Fr.push (h0:=λk=>if k=g then none else st.hp.get k) hkless (λk bk hk=>(hh.blk k bk hk).1) (hplace.imp id λz=>⟨g,b,hg,hr.trans z.symm⟩) (λk bk hk=>?_) (λk hk hf=>hoth k hk (λz=>hf g b hg (hr.trans z.symm)))
       have hk:((st.kill g).hp.upd st.nx (some b')).get k=some bk:=hk;rw [Tgu] at hk;by_cases e1:k=st.nx
       ·exact .inl (e1.trans hn.symm)
       ·rw [ga e1,hkill] at hk;exact .inr hk
     have hok:(V.sl st.nx 0 (l+l2) (l+l2) true).ok (J.nx+1):=by simp only [V.ok];omega
     by_cases hroom:l+l2<=l+x
     ·have hall:∀j,j<l+l2->(w.cell? ⟨r,d+j,none⟩).isSome=true:=λj hj=>by simp only [World.cell?,k1];rw [Array.getElem?_eq_getElem (by omega)];rfl
      have hfzr:∀j,j<l+l2->w.frozen? ⟨r,d+j,none⟩=false:=λj hj=>by simp only [World.frozen?,k1];exact (k4b _ (by omega)).1
      have hov:∀lb cb,(callFunc 46 #[.slice (some ⟨r2,d2+o2,none⟩) l2 (c2+cond op2 (J.m g2).2.2 0),.slice (some ⟨r,d+(i+l2),none⟩) lb cb]).run P w=.ok (.value (.bool false)) w:=λlb cb=>by
       rw [run_callFunc_extern L.fo (by kernel_rfl) (by kernel_rfl) (by kernel_rfl) (e:=Extern.SlicesOverlaps.overlaps #[40,40] #[4]) (by kernel_rfl),
        Jhx w 40 4 5 L.st 1 L.ez ⟨r2,d2+o2,none⟩ ⟨r,d+(i+l2),none⟩ l2 _ lb cb hrr f0 e0 d0.size c0.size (by simp only [World.shape?,j1]) (by simp only [World.shape?,k1]) (by omega) (hfzr _ (by omega)) (by simp only [World.frozen?,k1];exact (k4b _ (by simp)).1)]
       rfl
      refine (Zhx L hil hl2 hroom (by omega) hrr hcl hnl hcs hall hfzr hvs hco hvo hov).mono ?_
      rintro e w' ⟨rfl,rfl⟩;rw [hdrop];obtain ⟨⟨c1,a1,a2,a3⟩,a4,a5⟩:=JaK r (rest.map (V.real J)) (d+(i+l2)) w.drew c0 e0 fz0 k1 (by omega)
      obtain ⟨⟨c',b1,b2',b3⟩,b4,b5⟩:=JaK r (new.map (V.real J)) (d+i) _ c1 e0 fz0 a1 (by omega)
      refine ⟨J.push (r,d,x-l2),?_,hok,fin _ r d (x-l2) c' e0 fz0 (zaB k4a _ _ _ _ (zaB k4a _ _ _ _ (Below.drew (Below.refl _ _)))) (λk bk hk=>?_) b1 k4a hkne (by omega) (λo ho=>k4b o (by omega)) (λk hk=>?_) (λk hk1 hk2=>?_) (.inr rfl) (λk _ hk=>by rw [b4 _ hk,a4 _ hk];rfl)⟩
      ·rw [<-hn];simp only [V.real,Ips,Qa,Re];rw [show l+l2+(x-l2)=l+x from by omega]
      ·rw [b4 _ (hkne k bk hk),a4 _ (hkne k bk hk)];rfl
      ·rw [b3,ga (by omega),a3,ga (by omega)]
      ·rw [b3];by_cases e1:k<i+l2
       ·rw [ya (by omega),List.getElem?_map,List.getElem?_append_left (by omega),show d+k-(d+i)=k-i from by omega]
       ·rw [ga (by omega),a3,ya (by omega),List.getElem?_map,List.getElem?_append_right (by omega),nl,show d+k-(d+(i+l2))=k-i-l2 from by omega]
     ·refine (Jii L hil hl2 (by omega) (by omega) (by omega) hcl hnl hcs hvs hco hvo).mono ?_
      rintro e w' ⟨G,z,hG,hz,rfl,rfl⟩;rw [hdrop];have hzs:z.size=l+l2-i+(G-(l+l2)):=by rw [hz];simp [Builtin.zeroCells,Value.cells]
      have hts:((((c0.extract d (d+l)).toList).take i).toArray++z).size=G:=by rw [Array.size_append,List.size_toArray,Qi,hcl,hzs];omega
      generalize hR:(((c0.extract d (d+l)).toList).take i).toArray++z=R at hts;have n1:(w.alloc (.cells R 5)).drew.heap[w.heap.size]?=some (.cells R 5 (0,0)):=by
       show (w.heap.push _)[w.heap.size]?=_;simp
      obtain ⟨⟨c1,a1,a2,a3⟩,a4,a5⟩:=JaK w.heap.size (new.map (V.real J)) i _ R _ _ n1 (by omega)
      obtain ⟨⟨c',b1,b2',b3⟩,b4,b5⟩:=JaK w.heap.size (rest.map (V.real J)) (i+l2) (((w.alloc (.cells R 5)).drew.setCells w.heap.size i (new.map (V.real J))).drew) c1 _ _ a1 (by omega)
      have hBs:B.heap.size<=w.heap.size:=hh.base.size;have hlt:∀k bk,(if k=g then none else st.hp.get k)=some bk->(J.m k).1<w.heap.size:=λk bk hk=>(hh.blk k bk (hkless k bk hk)).lt
      refine ⟨J.push (w.heap.size,0,G-(l+l2)),?_,hok,fin _ w.heap.size 0 (G-(l+l2)) c' _ (0,0) (zaB hBs _ _ _ _ (zaB hBs _ _ _ _ ((Below.refl _ w).alloc hBs _).drew).drew) (λk bk hk=>?_) b1 hBs (λk bk hk=>by have:=hlt k bk hk;omega) (by omega) (λo _=>by simp) (λk hk=>?_) (λk hk1 hk2=>?_) (.inl (Ra _)) (λk hk _=>by
       rw [b4 _ (by omega)]
       show ((w.alloc (.cells R 5)).drew.setCells w.heap.size i (new.map (V.real J))).heap[_]?=_;rw [a4 _ (by omega)]
       exact Below.heap_alloc _ _ _ hk)⟩
      ·rw [<-hn];simp only [V.real,Ips,Qa,Re];rw [show l+l2+(G-(l+l2))=G from by omega]
      ·have:=hlt k bk hk;rw [b4 _ (by omega)]
       show ((w.alloc (.cells R 5)).drew.setCells w.heap.size i (new.map (V.real J))).heap[_]?=_;rw [a4 _ (by omega)]
       exact Below.heap_alloc _ _ _ this
      ·rw [b3,ga (by omega),a3,ga (by omega),<-hR,Array.getElem?_append_left (by rw [List.size_toArray,Qi];omega),List.getElem?_toArray,List.getElem?_take,ya (by omega),Array.getElem?_toList,Array.getElem?_extract,ya (by omega),dd]
      ·rw [b3];by_cases e1:k<i+l2
       ·rw [ga (by omega),a3,ya (by omega),List.getElem?_map,List.getElem?_append_left (by omega),show 0+k-i=k-i from by omega]
       ·rw [ya (by omega),List.getElem?_map,List.getElem?_append_right (by omega),nl,show 0+k-(i+l2)=k-i-l2 from by omega]
    ·cases h
   ·cases h
  ·cases h
 ·cases h
