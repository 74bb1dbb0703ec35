/- Lemmas. -/
import Derived.Test.YtplpmeednhcjkaaGreatDoorTa
import Derived.Test.YtplpmeednhcjkaaGreatDoorOb
namespace Go.Proofs.YtplpmeednhcjkaaGreatDoor
open Go.Proofs.Tryz
open Go.Vm Go.Sx Go.RowKit
variable {ro:Nat}
def marksL:List Int:=[0,0,0,0,0,0,0,0,0,0,0,0,0,0,0,0,0,0,0,0,0,0,0,0,0,0,0,0,0,0,0,0,0,0,0,0,0,0,0,0,21,22,0,0,18,0,0,0,0,0,0,0,0,0,0,0,0,0,16,17,0,0,0,0,0,0,0,0,0,0,0,0,0,0,0,0,0,0,0,0,0,0,0,0,0,0,0,0,0,0,0,19,0,20,0,0,0,0,0,0,0,0,0,0,0,0,0,0,0,0,0,0,0,0,0,0,0,0,0,0,0,0,0,23,0,24]
def GT:Gl
 | 0=>some (.u8,marksL)
 | _=>none
noncomputable def ovD (ro:Nat):Ov:=ovA ro
abbrev FO (ro:Nat) (f:FuncId) (pt:List W->(W->Prop)->Prop):Prop:=FnOK sy prog GT (ovD ro) ro f pt
abbrev fU (Y:Sy sg) (C:Zj sg) (L:ZY sg) (rc:List (Option sg.Cd)) (fn:Func) (us:List W) (k:W->Prop):Prop:=fnT Y prog GT C L fn.ntmps (za fn) rc fn.results.toList us k
theorem fB {ro:Nat} {Y:Sy sg} {rc:List (Option sg.Cd)} {f:FuncId} {C:Zj sg} {L:ZY sg} (fn:Func) (hov:∀vs st,ovD ro f vs st=none) (hf:prog.funcs[f]?=some fn) (hb:fn.body=some (za fn)) (hC:∀o0,jC Y prog GT (ovD ro) o0 ro C) (hL:zci Y prog GT (ovD ro) ro L 0 fn.ntmps (za fn)):FnOK Y prog GT (ovD ro) ro f (fU Y C L rc fn):=Zy hov hf hb rfl rfl hC hL
def noT (_:List W) (_:W->Prop):Prop:=False
theorem zgU {ro:Nat} (f:FuncId):FO ro f noT:=λ_ _ _ h=>h.elim
theorem jgU {ro:Nat}:∀args st v st',jh0 prog 108 40 ro 108 args st=some (v,st')->ovD ro 108 args st=some (v,st'):=λargs st v st' h=>by
 unfold ovD ovA ov2 ovN;show (match (none:Option (V×St)) with|some r=>some r|none=>match jh0 prog 108 40 ro 108 args st with|some r=>some r|none=>_)=_
 rw [h]
abbrev Ja:=Bt->Int->(Int->Prop)->Prop
def Zd (A:Ja) (us:List W) (k:W->Prop):Prop:=match us with
 | [.s a0,.i .i64 a1]=>A a0 a1 (λr0=>k (.i .u8 r0))
 | _=>False
theorem ZdL {A A2:Ja} (h:FO ro 90 (Zd A)) (hA:∀a0 a1 K,A2 a0 a1 K->A a0 a1 K):FO ro 90 (Zd A2):=h.weak (by intro us k h;unfold Zd at h |-;split at h;exact hA _ _ _ h;exact h.elim)
def jci (a0:Bt) (a1:Int) (K:Int->Prop):Prop:=
 (((decide (a1<(a0.length:Int)))=true->((0<=a1/\a1<(a0.length:Int))/\K ((a0.getD a1.toNat 0).toNat:Int)))/\((decide (a1<(a0.length:Int)))=false->K 0))
def zc0:Zj sg:=tab []
theorem je7 (o0:Nat->Prop):jC sy prog GT (ovD ro) o0 ro (zc0):=Jd o0
theorem Ze7 (a0:Bt) (a1:Int) (k:W->Prop):fU sy (zc0) noL [none] f90 [.s a0,.i .i64 a1] k=jci a0 a1 (λr0=>k (.i .u8 r0)):=by kernel_rfl
theorem ZfB:FO ro 90 (Zd (jci)):=(fB f90 (rc:=[none]) (C:=zc0) (L:=noL) (λ_ _=>rfl) func90 (by kernel_rfl) (je7) (Ji (l:=[]) (by kernel_rfl) je)).weak (by intro us k h;unfold Zd at h;split at h;rw [Ze7];exact h;exact h.elim)
abbrev zc:=Int->(Bool->Prop)->Prop
def Zf (A:zc) (us:List W) (k:W->Prop):Prop:=match us with
 | [.i .u8 a0]=>A a0 (λr0=>k (.b r0))
 | _=>False
theorem Jdn {A A2:zc} (h:FO ro 78 (Zf A)) (hA:∀a0 K,A2 a0 K->A a0 K):FO ro 78 (Zf A2):=h.weak (by intro us k h;unfold Zf at h |-;split at h;exact hA _ _ h;exact h.elim)
def ZbG (a0:Int) (K:Bool->Prop):Prop:=
 (((decide (48<=a0))=true->K (decide (a0<=57)))/\((decide (48<=a0))=false->K false))
def zcy:Zj sg:=tab []
theorem JeD (o0:Nat->Prop):jC sy prog GT (ovD ro) o0 ro (zcy):=Jd o0
theorem zeE (a0:Int) (k:W->Prop):fU sy (zcy) noL [none] f78 [.i .u8 a0] k=ZbG a0 (λr0=>k (.b r0)):=by kernel_rfl
theorem Je7:FO ro 78 (Zf (ZbG)):=(fB f78 (rc:=[none]) (C:=zcy) (L:=noL) (λ_ _=>rfl) func78 (by kernel_rfl) (JeD) (Ji (l:=[]) (by kernel_rfl) je)).weak (by intro us k h;unfold Zf at h;split at h;rw [zeE];exact h;exact h.elim)
abbrev Zx:=Int->(Bool->Prop)->Prop
def zJ (A:Zx) (us:List W) (k:W->Prop):Prop:=match us with
 | [.i .u8 a0]=>A a0 (λr0=>k (.b r0))
 | _=>False
theorem JdL {A A2:Zx} (h:FO ro 94 (zJ A)) (hA:∀a0 K,A2 a0 K->A a0 K):FO ro 94 (zJ A2):=h.weak (by intro us k h;unfold zJ at h |-;split at h;exact hA _ _ h;exact h.elim)
def Zci (a0:Int) (K:Bool->Prop):Prop:=
 (((decide (a0=43))=false->K (decide (a0=45)))/\((decide (a0=43))=true->K true))
def jc0:Zj sg:=tab []
theorem ze8 (o0:Nat->Prop):jC sy prog GT (ovD ro) o0 ro (jc0):=Jd o0
theorem je8 (a0:Int) (k:W->Prop):fU sy (jc0) noL [none] f94 [.i .u8 a0] k=Zci a0 (λr0=>k (.b r0)):=by kernel_rfl
theorem JfB:FO ro 94 (zJ (Zci)):=(fB f94 (rc:=[none]) (C:=jc0) (L:=noL) (λ_ _=>rfl) func94 (by kernel_rfl) (ze8) (Ji (l:=[]) (by kernel_rfl) je)).weak (by intro us k h;unfold zJ at h;split at h;rw [je8];exact h;exact h.elim)
abbrev JaT:=Bt->Int->(Bool->Prop)->Prop
def Ja1 (A:JaT) (us:List W) (k:W->Prop):Prop:=match us with
 | [.s a0,.i .i64 a1]=>A a0 a1 (λr0=>k (.b r0))
 | _=>False
theorem Ze8 {A A2:JaT} (h:FO ro 95 (Ja1 A)) (hA:∀a0 a1 K,A2 a0 a1 K->A a0 a1 K):FO ro 95 (Ja1 A2):=h.weak (by intro us k h;unfold Ja1 at h |-;split at h;exact hA _ _ _ h;exact h.elim)
def jeE (A90:Ja) (A78:zc) (a0:Bt) (a1:Int) (K:Bool->Prop):Prop:=
 (A90 a0 a1 (λy1=>(((decide (y1=46))=true->(I64 (a1+1)/\(A90 a0 (a1+1) (λy2=>(A78 y2 (λy3=>K y3))))))/\((decide (y1=46))=false->K false))))
def zfC (A90:Ja) (A78:zc):Zj sg:=tab [(90,con [none,none] (Zd A90)),(78,con [none] (Zf A78))]
theorem ZgU (A90:Ja) (A78:zc) (h90:FO ro 90 (Zd A90)) (h78:FO ro 78 (Zf A78)) (o0:Nat->Prop):jC sy prog GT (ovD ro) o0 ro (zfC A90 A78):=(Za (Jc h90) (Za (Jc h78) Jd)) o0
theorem JgU (A90:Ja) (A78:zc) (a0:Bt) (a1:Int) (k:W->Prop):fU sy (zfC A90 A78) noL [none] f95 [.s a0,.i .i64 a1] k=jeE A90 A78 a0 a1 (λr0=>k (.b r0)):=by kernel_rfl
theorem jhy (A90:Ja) (A78:zc) (h90:FO ro 90 (Zd A90)) (h78:FO ro 78 (Zf A78)):FO ro 95 (Ja1 (jeE A90 A78)):=(fB f95 (rc:=[none]) (C:=zfC A90 A78) (L:=noL) (λ_ _=>rfl) func95 (by kernel_rfl) (ZgU A90 A78 h90 h78) (Ji (l:=[]) (by kernel_rfl) je)).weak (by intro us k h;unfold Ja1 at h;split at h;rw [JgU];exact h;exact h.elim)
abbrev jb2:=Bt->Int->(Bool->Prop)->Prop
def JbG (A:jb2) (us:List W) (k:W->Prop):Prop:=match us with
 | [.s a0,.i .i64 a1]=>A a0 a1 (λr0=>k (.b r0))
 | _=>False
theorem Je8 {A A2:jb2} (h:FO ro 58 (JbG A)) (hA:∀a0 a1 K,A2 a0 a1 K->A a0 a1 K):FO ro 58 (JbG A2):=h.weak (by intro us k h;unfold JbG at h |-;split at h;exact hA _ _ _ h;exact h.elim)
def ZeE (A90:Ja) (A94:Zx) (A78:zc) (A95:JaT) (a0:Bt) (a1:Int) (K:Bool->Prop):Prop:=
 (A90 a0 a1 (λy1=>(A94 y1 (λy2=>((y2=true->(I64 (a1+1)/\(A90 a0 (a1+1) (λy3=>(A78 y3 (λy4=>((y4=false->(A95 a0 (a1+1) (λy5=>K y5)))/\(y4=true->K true))))))))/\(y2=false->(A90 a0 a1 (λy6=>(A78 y6 (λy7=>((y7=false->(A95 a0 a1 (λy8=>K y8)))/\(y7=true->K true))))))))))))
def jfC (A90:Ja) (A94:Zx) (A78:zc) (A95:JaT):Zj sg:=tab [(90,con [none,none] (Zd A90)),(94,con [none] (zJ A94)),(78,con [none] (Zf A78)),(95,con [none,none] (Ja1 A95))]
theorem zgV (A90:Ja) (A94:Zx) (A78:zc) (A95:JaT) (h90:FO ro 90 (Zd A90)) (h94:FO ro 94 (zJ A94)) (h78:FO ro 78 (Zf A78)) (h95:FO ro 95 (Ja1 A95)) (o0:Nat->Prop):jC sy prog GT (ovD ro) o0 ro (jfC A90 A94 A78 A95):=(Za (Jc h90) (Za (Jc h94) (Za (Jc h78) (Za (Jc h95) Jd)))) o0
theorem jgV (A90:Ja) (A94:Zx) (A78:zc) (A95:JaT) (a0:Bt) (a1:Int) (k:W->Prop):fU sy (jfC A90 A94 A78 A95) noL [none] f58 [.s a0,.i .i64 a1] k=ZeE A90 A94 A78 A95 a0 a1 (λr0=>k (.b r0)):=by kernel_rfl
theorem Zhy (A90:Ja) (A94:Zx) (A78:zc) (A95:JaT) (h90:FO ro 90 (Zd A90)) (h94:FO ro 94 (zJ A94)) (h78:FO ro 78 (Zf A78)) (h95:FO ro 95 (Ja1 A95)):FO ro 58 (JbG (ZeE A90 A94 A78 A95)):=(fB f58 (rc:=[none]) (C:=jfC A90 A94 A78 A95) (L:=noL) (λ_ _=>rfl) func58 (by kernel_rfl) (zgV A90 A94 A78 A95 h90 h94 h78 h95) (Ji (l:=[]) (by kernel_rfl) je)).weak (by intro us k h;unfold JbG at h;split at h;rw [jgV];exact h;exact h.elim)
abbrev JB:=Int->(Bool->Prop)->Prop
def zx (A:JB) (us:List W) (k:W->Prop):Prop:=match us with
 | [.i .u8 a0]=>A a0 (λr0=>k (.b r0))
 | _=>False
theorem zbH {A A2:JB} (h:FO ro 118 (zx A)) (hA:∀a0 K,A2 a0 K->A a0 K):FO ro 118 (zx A2):=h.weak (by intro us k h;unfold zx at h |-;split at h;exact hA _ _ h;exact h.elim)
def Jam (a0:Int) (K:Bool->Prop):Prop:=
 (((decide (a0=101))=false->K (decide (a0=69)))/\((decide (a0=101))=true->K true))
def zaL:Zj sg:=tab []
theorem Jcn (o0:Nat->Prop):jC sy prog GT (ovD ro) o0 ro (zaL):=Jd o0
theorem zco (a0:Int) (k:W->Prop):fU sy (zaL) noL [none] f118 [.i .u8 a0] k=Jam a0 (λr0=>k (.b r0)):=by kernel_rfl
theorem jcy:FO ro 118 (zx (Jam)):=(fB f118 (rc:=[none]) (C:=zaL) (L:=noL) (λ_ _=>rfl) func118 (by kernel_rfl) (Jcn) (Ji (l:=[]) (by kernel_rfl) je)).weak (by intro us k h;unfold zx at h;split at h;rw [zco];exact h;exact h.elim)
abbrev jO:=Bt->Int->(Bool->Prop)->Prop
def zH (A:jO) (us:List W) (k:W->Prop):Prop:=match us with
 | [.s a0,.i .i64 a1]=>A a0 a1 (λr0=>k (.b r0))
 | _=>False
theorem jco {A A2:jO} (h:FO ro 119 (zH A)) (hA:∀a0 a1 K,A2 a0 a1 K->A a0 a1 K):FO ro 119 (zH A2):=h.weak (by intro us k h;unfold zH at h |-;split at h;exact hA _ _ _ h;exact h.elim)
def jaL (A90:Ja) (A94:Zx) (A78:zc) (a0:Bt) (a1:Int) (K:Bool->Prop):Prop:=
 (A90 a0 a1 (λy1=>(A94 y1 (λy2=>((y2=true->(I64 (a1+1)/\(A90 a0 (a1+1) (λy3=>(A78 y3 (λy4=>K y4))))))/\(y2=false->(A90 a0 a1 (λy5=>(A78 y5 (λy6=>K y6))))))))))
def Zbb (A90:Ja) (A94:Zx) (A78:zc):Zj sg:=tab [(90,con [none,none] (Zd A90)),(94,con [none] (zJ A94)),(78,con [none] (Zf A78))]
theorem Zc0 (A90:Ja) (A94:Zx) (A78:zc) (h90:FO ro 90 (Zd A90)) (h94:FO ro 94 (zJ A94)) (h78:FO ro 78 (Zf A78)) (o0:Nat->Prop):jC sy prog GT (ovD ro) o0 ro (Zbb A90 A94 A78):=(Za (Jc h90) (Za (Jc h94) (Za (Jc h78) Jd))) o0
theorem Jc0 (A90:Ja) (A94:Zx) (A78:zc) (a0:Bt) (a1:Int) (k:W->Prop):fU sy (Zbb A90 A94 A78) noL [none] f119 [.s a0,.i .i64 a1] k=jaL A90 A94 A78 a0 a1 (λr0=>k (.b r0)):=by kernel_rfl
theorem zdo (A90:Ja) (A94:Zx) (A78:zc) (h90:FO ro 90 (Zd A90)) (h94:FO ro 94 (zJ A94)) (h78:FO ro 78 (Zf A78)):FO ro 119 (zH (jaL A90 A94 A78)):=(fB f119 (rc:=[none]) (C:=Zbb A90 A94 A78) (L:=noL) (λ_ _=>rfl) func119 (by kernel_rfl) (Zc0 A90 A94 A78 h90 h94 h78) (Ji (l:=[]) (by kernel_rfl) je)).weak (by intro us k h;unfold zH at h;split at h;rw [Jc0];exact h;exact h.elim)
abbrev Zb2:=Bt->(Int->Prop)->Prop
def jbH (A:Zb2) (us:List W) (k:W->Prop):Prop:=match us with
 | [.s a0]=>A a0 (λr0=>k (.i .i64 r0))
 | _=>False
theorem ze9 {A A2:Zb2} (h:FO ro 120 (jbH A)) (hA:∀a0 K,A2 a0 K->A a0 K):FO ro 120 (jbH A2):=h.weak (by intro us k h;unfold jbH at h |-;split at h;exact hA _ _ h;exact h.elim)
def Jci:Nat->Bt->Int->Int->Int->(Int->Prop)->Prop
 | 0,_,_,_,_,_=>False
 | n+1,x0,x3,x6,x7,Ke=>(((decide (x7<x6))=true->(I64 (10*x3)/\((0<=x7/\x7<(x0.length:Int))/\(I64 (IntKind.u8.wrap (((x0.getD x7.toNat 0).toNat:Int)-(48:Int)))/\(I64 ((10*x3)+(IntKind.u8.wrap (((x0.getD x7.toNat 0).toNat:Int)-(48:Int))))/\(I64 (x7+1)/\Jci n x0 (if 8000<((10*x3)+(IntKind.u8.wrap (((x0.getD x7.toNat 0).toNat:Int)-(48:Int)))) then 8000 else ((10*x3)+(IntKind.u8.wrap (((x0.getD x7.toNat 0).toNat:Int)-(48:Int))))) x6 (x7+1) Ke))))))/\((decide (x7<x6))=false->Ke x3))
def ZfC (a0:Bt) (K:Int->Prop):Prop:=
 (∃m,Jci m a0 0 (a0.length:Int) 0 (λy1=>K y1))
def JeE:Zj sg:=tab []
theorem je9 (o0:Nat->Prop):jC sy prog GT (ovD ro) o0 ro (JeE):=Jd o0
abbrev zc1:Type:=((Bt)×Int×Int×Int×Unit)
abbrev Yb_k_wNu_3:Type:=Unit
def ls_k_wNu_3:LS sy zc1 Yb_k_wNu_3:=⟨[],zd 0 (Jl sy) (zd 3 (Je sy .i64) (zd 6 (Je sy .i64) (zd 7 (Je sy .i64) (jF sy)))),ZF sy,0,[]⟩
def le_k_wNu_3:LS sy (Int×Unit) Unit:=⟨[],zd 3 (Je sy .i64) (jF sy),ZF sy,0,[]⟩
def jc1:LS sy Unit Unit:=⟨[],jF sy,ZF sy,0,[]⟩
def zcj (n:Nat) (x:zc1×Yb_k_wNu_3) (K:Ex->Z sg->Prop):Prop:=Jci n x.1.1 x.1.2.1 x.1.2.2.1 x.1.2.2.2.1 (λy0=>K (.exit 0) (le_k_wNu_3.put ((y0,()),())))
def ZgV (z:Z sg) (K:Ex->Z sg->Prop):Prop:=ls_k_wNu_3.get z (λx=>∃n,zcj n x K)
def Zc1:ZY sg:=Jcx [(3,ZgV)]
theorem zgq (n:Nat) (x:zc1×Yb_k_wNu_3) (K:Ex->Z sg->Prop):jt (ls_k_wNu_3.put x) (λz=>sC sy prog GT (JeE) (Zc1) f120.ntmps (zb (za f120) 0) z (rnd ls_k_wNu_3 (czT 0 le_k_wNu_3 jc1) (λx=>zcj n x K) K))=zcj (n+1) x K:=by kernel_rfl
theorem jgq (z:Z sg) (K:Ex->Z sg->Prop):(Zc1) (zb (za f120) 0) z K=ls_k_wNu_3.get z (λx=>∃n,zcj n x K):=by kernel_rfl
theorem Zgq:∀(o0:Nat->Prop) (B:Bs sg),B.E.length<=0->∀z K,(Zc1) (zb (za f120) 0) z K->Sx.Sem sy prog GT (ovD ro) o0 ro f120.ntmps B (.loop (zb (za f120) 0)) z K:=
 zG (je9) (Ji (l:=[]) (by kernel_rfl) je) ls_k_wNu_3 (by decide) (czT 0 le_k_wNu_3 jc1) (λ_ _ hB=>zY 0 le_k_wNu_3 jc1 (Yb hB (by decide)) (Yb hB (by decide))) (λ_ _ h=>h) (zgq) (jgq)
theorem Jhy:zci sy prog GT (ovD ro) ro (Zc1) 0 f120.ntmps (za f120):=Ji (l:=[(zb (za f120) 0)]) (by kernel_rfl) (JF (Zgq) je)
theorem JgV (a0:Bt) (k:W->Prop):fU sy (JeE) (Zc1) [none] f120 [.s a0] k=ZfC a0 (λr0=>k (.i .i64 r0)):=by kernel_rfl
theorem zhz:FO ro 120 (jbH (ZfC)):=(fB f120 (rc:=[none]) (C:=JeE) (L:=(Zc1)) (λ_ _=>rfl) func120 (by kernel_rfl) (je9) (Jhy)).weak (by intro us k h;unfold jbH at h;split at h;rw [JgV];exact h;exact h.elim)
abbrev Zbj:=Bt->Int->(Bt->Prop)->Prop
def Za5 (A:Zbj) (us:List W) (k:W->Prop):Prop:=match us with
 | [.s a0,.i .u8 a1]=>A a0 a1 (λr0=>k (.s r0))
 | _=>False
theorem zeF {A A2:Zbj} (h:FO ro 135 (Za5 A)) (hA:∀a0 a1 K,A2 a0 a1 K->A a0 a1 K):FO ro 135 (Za5 A2):=h.weak (by intro us k h;unfold Za5 at h |-;split at h;exact hA _ _ _ h;exact h.elim)
def ZbH:Nat->Bt->Int->(Bt->Prop)->Prop
 | 0,_,_,_=>False
 | n+1,x0,x1,Ke=>(((decide (0<(x0.length:Int)))=true->((0<=(0:Int)/\0<(x0.length:Int))/\(((decide (((x0.getD 0 0).toNat:Int)=x1))=true->((0<=(1:Int)/\1<=(x0.length:Int))/\ZbH n (x0.drop 1) x1 Ke))/\((decide (((x0.getD 0 0).toNat:Int)=x1))=false->Ke x0))))/\((decide (0<(x0.length:Int)))=false->Ke x0))
def jeF (a0:Bt) (a1:Int) (K:Bt->Prop):Prop:=
 (∃m,ZbH m a0 a1 (λy1=>K y1))
def zdx:Zj sg:=tab []
theorem Jeo (o0:Nat->Prop):jC sy prog GT (ovD ro) o0 ro (zdx):=Jd o0
abbrev Zcy:Type:=((Bt)×Int×Unit)
abbrev Yb_gs_tLB_1:Type:=Unit
def ls_gs_tLB_1:LS sy Zcy Yb_gs_tLB_1:=⟨[],zd 0 (Jl sy) (zd 1 (Je sy .u8) (jF sy)),ZF sy,0,[]⟩
def le_gs_tLB_1:LS sy ((Bt)×Unit) Unit:=⟨[],zd 0 (Jl sy) (jF sy),ZF sy,0,[]⟩
def Jcy:LS sy Unit Unit:=⟨[],jF sy,ZF sy,0,[]⟩
def JbH (n:Nat) (x:Zcy×Yb_gs_tLB_1) (K:Ex->Z sg->Prop):Prop:=ZbH n x.1.1 x.1.2.1 (λy0=>K (.exit 0) (le_gs_tLB_1.put ((y0,()),())))
def Jgq (z:Z sg) (K:Ex->Z sg->Prop):Prop:=ls_gs_tLB_1.get z (λx=>∃n,JbH n x K)
def jcj:ZY sg:=Jcx [(1,Jgq)]
theorem JfC (n:Nat) (x:Zcy×Yb_gs_tLB_1) (K:Ex->Z sg->Prop):jt (ls_gs_tLB_1.put x) (λz=>sC sy prog GT (zdx) (jcj) f135.ntmps (zb (za f135) 0) z (rnd ls_gs_tLB_1 (czT 0 le_gs_tLB_1 Jcy) (λx=>JbH n x K) K))=JbH (n+1) x K:=by kernel_rfl
theorem zfD (z:Z sg) (K:Ex->Z sg->Prop):(jcj) (zb (za f135) 0) z K=ls_gs_tLB_1.get z (λx=>∃n,JbH n x K):=by kernel_rfl
theorem jfD:∀(o0:Nat->Prop) (B:Bs sg),B.E.length<=0->∀z K,(jcj) (zb (za f135) 0) z K->Sx.Sem sy prog GT (ovD ro) o0 ro f135.ntmps B (.loop (zb (za f135) 0)) z K:=
 zG (Jeo) (Ji (l:=[]) (by kernel_rfl) je) ls_gs_tLB_1 (by decide) (czT 0 le_gs_tLB_1 Jcy) (λ_ _ hB=>zY 0 le_gs_tLB_1 Jcy (Yb hB (by decide)) (Yb hB (by decide))) (λ_ _ h=>h) (JfC) (zfD)
theorem zgW:zci sy prog GT (ovD ro) ro (jcj) 0 f135.ntmps (za f135):=Ji (l:=[(zb (za f135) 0)]) (by kernel_rfl) (JF (jfD) je)
theorem zgr (a0:Bt) (a1:Int) (k:W->Prop):fU sy (zdx) (jcj) [none] f135 [.s a0,.i .u8 a1] k=jeF a0 a1 (λr0=>k (.s r0)):=by kernel_rfl
theorem jgW:FO ro 135 (Za5 (jeF)):=(fB f135 (rc:=[none]) (C:=zdx) (L:=(jcj)) (λ_ _=>rfl) func135 (by kernel_rfl) (Jeo) (zgW)).weak (by intro us k h;unfold Za5 at h;split at h;rw [zgr];exact h;exact h.elim)
abbrev Zp:=Bt->Bt->(Bt->Prop)->Prop
def jH (A:Zp) (us:List W) (k:W->Prop):Prop:=match us with
 | [.s a0,.s a1]=>A a0 a1 (λr0=>k (.s r0))
 | _=>False
theorem zcL {A A2:Zp} (h:FO ro 133 (jH A)) (hA:∀a0 a1 K,A2 a0 a1 K->A a0 a1 K):FO ro 133 (jH A2):=h.weak (by intro us k h;unfold jH at h |-;split at h;exact hA _ _ _ h;exact h.elim)
def zbI (A135:Zbj) (a0:Bt) (a1:Bt) (K:Bt->Prop):Prop:=
 (((a0==([]:Bt))=false->(((a1==([]:Bt))=true->K a0)/\((a1==([]:Bt))=false->(((decide ((a1.length:Int)=(1:Int)))=true->((0<=(0:Int)/\0<(a1.length:Int))/\(((decide (((a1.getD 0 0).toNat:Int)<(128:Int)))=true->((0<=(0:Int)/\0<(a1.length:Int))/\(A135 a0 ((a1.getD 0 0).toNat:Int) (λy1=>K y1))))/\((decide (((a1.getD 0 0).toNat:Int)<(128:Int)))=false->False))))/\((decide ((a1.length:Int)=(1:Int)))=false->False)))))/\((a0==([]:Bt))=true->K a0))
def jbI (A135:Zbj):Zj sg:=tab [(135,con [none,none] (Za5 A135)),(136,con [] noT),(137,con [] noT),(138,con [] noT)]
theorem zdM (A135:Zbj) (h135:FO ro 135 (Za5 A135)) (o0:Nat->Prop):jC sy prog GT (ovD ro) o0 ro (jbI A135):=(Za (Jc h135) (Za (Jc (zgU 136)) (Za (Jc (zgU 137)) (Za (Jc (zgU 138)) Jd)))) o0
theorem jdM (A135:Zbj) (a0:Bt) (a1:Bt) (k:W->Prop):fU sy (jbI A135) noL [none] f133 [.s a0,.s a1] k=zbI A135 a0 a1 (λr0=>k (.s r0)):=by kernel_rfl
theorem zed (A135:Zbj) (h135:FO ro 135 (Za5 A135)):FO ro 133 (jH (zbI A135)):=(fB f133 (rc:=[none]) (C:=jbI A135) (L:=noL) (λ_ _=>rfl) func133 (by kernel_rfl) (zdM A135 h135) (Ji (l:=[]) (by kernel_rfl) je)).weak (by intro us k h;unfold jH at h;split at h;rw [jdM];exact h;exact h.elim)
abbrev Jb2:=Bt->Int->(Int->Prop)->Prop
def ZbI (A:Jb2) (us:List W) (k:W->Prop):Prop:=match us with
 | [.s a0,.i .i64 a1]=>A a0 a1 (λr0=>k (.i .i64 r0))
 | _=>False
theorem Ze9 {A A2:Jb2} (h:FO ro 121 (ZbI A)) (hA:∀a0 a1 K,A2 a0 a1 K->A a0 a1 K):FO ro 121 (ZbI A2):=h.weak (by intro us k h;unfold ZbI at h |-;split at h;exact hA _ _ _ h;exact h.elim)
def jby (A133:Zp):Nat->Bt->Int->Int->Int->(Int->Prop)->Prop
 | 0,_,_,_,_,_=>False
 | n+1,x5,x6,x25,x26,Ke=>(((decide (x26<x25))=true->(I64 (x6*10)/\(((decide (x26<(x5.length:Int)))=true->((0<=x26/\x26<(x5.length:Int))/\(I64 (IntKind.u8.wrap (((x5.getD x26.toNat 0).toNat:Int)-(48:Int)))/\(I64 ((x6*10)+(IntKind.u8.wrap (((x5.getD x26.toNat 0).toNat:Int)-(48:Int))))/\(I64 (x26+1)/\jby A133 n x5 ((x6*10)+(IntKind.u8.wrap (((x5.getD x26.toNat 0).toNat:Int)-(48:Int)))) x25 (x26+1) Ke)))))/\((decide (x26<(x5.length:Int)))=false->(I64 (x26+1)/\jby A133 n x5 (x6*10) x25 (x26+1) Ke)))))/\((decide (x26<x25))=false->Ke x6))
def ZfD (A133:Zp) (a0:Bt) (a1:Int) (K:Int->Prop):Prop:=
 (A133 a0 ([48]:Bt) (λy1=>(I64 ((a0.length:Int)-(y1.length:Int))/\(I64 (a1-((a0.length:Int)-(y1.length:Int)))/\(((y1==([]:Bt))=false->(((decide ((a1-((a0.length:Int)-(y1.length:Int)))<=0))=true->K 0)/\((decide ((a1-((a0.length:Int)-(y1.length:Int)))<=0))=false->(((decide (13<(a1-((a0.length:Int)-(y1.length:Int)))))=true->K 1000000000000)/\((decide (13<(a1-((a0.length:Int)-(y1.length:Int)))))=false->(∃m,jby A133 m y1 0 (a1-((a0.length:Int)-(y1.length:Int))) 0 (λy2=>K (if 1000000000000<y2 then 1000000000000 else y2))))))))/\((y1==([]:Bt))=true->K 0))))))
def ZeF (A133:Zp):Zj sg:=tab [(133,con [none,none] (jH A133))]
theorem Je9 (A133:Zp) (h133:FO ro 133 (jH A133)) (o0:Nat->Prop):jC sy prog GT (ovD ro) o0 ro (ZeF A133):=(Za (Jc h133) Jd) o0
abbrev Jc1:Type:=((Bt)×Int×Int×Int×Unit)
abbrev Yb_k_cNu_9:Type:=Unit
def ls_k_cNu_9:LS sy Jc1 Yb_k_cNu_9:=⟨[],zd 5 (Jl sy) (zd 6 (Je sy .i64) (zd 25 (Je sy .i64) (zd 26 (Je sy .i64) (jF sy)))),ZF sy,0,[]⟩
def le_k_cNu_9:LS sy (Int×Unit) Unit:=⟨[],zd 6 (Je sy .i64) (jF sy),ZF sy,0,[]⟩
def zc2:LS sy Unit Unit:=⟨[],jF sy,ZF sy,0,[]⟩
def Zcj (A133:Zp) (n:Nat) (x:Jc1×Yb_k_cNu_9) (K:Ex->Z sg->Prop):Prop:=jby A133 n x.1.1 x.1.2.1 x.1.2.2.1 x.1.2.2.2.1 (λy0=>K (.exit 0) (le_k_cNu_9.put ((y0,()),())))
def ZgW (A133:Zp) (z:Z sg) (K:Ex->Z sg->Prop):Prop:=ls_k_cNu_9.get z (λx=>∃n,Zcj A133 n x K)
def jc2 (A133:Zp):ZY sg:=Jcx [(9,ZgW A133)]
theorem jgr (A133:Zp) (n:Nat) (x:Jc1×Yb_k_cNu_9) (K:Ex->Z sg->Prop):jt (ls_k_cNu_9.put x) (λz=>sC sy prog GT (ZeF A133) (jc2 A133) f121.ntmps (zb (za f121) 0) z (rnd ls_k_cNu_9 (czT 0 le_k_cNu_9 zc2) (λx=>Zcj A133 n x K) K))=Zcj A133 (n+1) x K:=by kernel_rfl
theorem Zgr (A133:Zp) (z:Z sg) (K:Ex->Z sg->Prop):(jc2 A133) (zb (za f121) 0) z K=ls_k_cNu_9.get z (λx=>∃n,Zcj A133 n x K):=by kernel_rfl
theorem Jgr (A133:Zp) (h133:FO ro 133 (jH A133)):∀(o0:Nat->Prop) (B:Bs sg),B.E.length<=0->∀z K,(jc2 A133) (zb (za f121) 0) z K->Sx.Sem sy prog GT (ovD ro) o0 ro f121.ntmps B (.loop (zb (za f121) 0)) z K:=
 zG (Je9 A133 h133) (Ji (l:=[]) (by kernel_rfl) je) ls_k_cNu_9 (by decide) (czT 0 le_k_cNu_9 zc2) (λ_ _ hB=>zY 0 le_k_cNu_9 zc2 (Yb hB (by decide)) (Yb hB (by decide))) (λ_ _ h=>h) (jgr A133) (Zgr A133)
theorem jhz (A133:Zp) (h133:FO ro 133 (jH A133)):zci sy prog GT (ovD ro) ro (jc2 A133) 0 f121.ntmps (za f121):=Ji (l:=[(zb (za f121) 0)]) (by kernel_rfl) (JF (Jgr A133 h133) je)
theorem JgW (A133:Zp) (a0:Bt) (a1:Int) (k:W->Prop):fU sy (ZeF A133) (jc2 A133) [none] f121 [.s a0,.i .i64 a1] k=ZfD A133 a0 a1 (λr0=>k (.i .i64 r0)):=by kernel_rfl
theorem Zhz (A133:Zp) (h133:FO ro 133 (jH A133)):FO ro 121 (ZbI (ZfD A133)):=(fB f121 (rc:=[none]) (C:=ZeF A133) (L:=(jc2 A133)) (λ_ _=>rfl) func121 (by kernel_rfl) (Je9 A133 h133) (jhz A133 h133)).weak (by intro us k h;unfold ZbI at h;split at h;rw [JgW];exact h;exact h.elim)
def zfa (A90:Ja) (A94:Zx):Zj sg:=tab [(90,con [none,none] (Zd A90)),(94,con [none] (zJ A94))]
theorem JfD (A90:Ja) (A94:Zx) (h90:FO ro 90 (Zd A90)) (h94:FO ro 94 (zJ A94)) (o0:Nat->Prop):jC sy prog GT (ovD ro) o0 ro (zfa A90 A94):=(Za (Jc h90) (Za (Jc h94) Jd)) o0
def jv (A90:Ja) (A78:zc):Nat->Int->Bt->Int->(Int->Bt->Int->Prop)->Prop
 | 0,_,_,_,_=>False
 | n+1,x3,uA,uF,Ke=>(A90 uA uF (λy1=>(A78 y1 (λy2=>((y2=true->(I64 (uF+1)/\jv A90 A78 n x3 uA (uF+1) Ke))/\(y2=false->Ke x3 uA uF))))))
def ZdM (A90:Ja) (A78:zc):Zj sg:=tab [(90,con [none,none] (Zd A90)),(78,con [none] (Zf A78))]
theorem JdM (A90:Ja) (A78:zc) (h90:FO ro 90 (Zd A90)) (h78:FO ro 78 (Zf A78)) (o0:Nat->Prop):jC sy prog GT (ovD ro) o0 ro (ZdM A90 A78):=(Za (Jc h90) (Za (Jc h78) Jd)) o0
abbrev zb3:Type:=(Unit×Unit×Int×Unit)
abbrev Yb_k_rNu_2_2:Type:=(((Bt)×Unit)×(Int×Unit)×Unit)
def ls_k_rNu_2_2:LS sy zb3 Yb_k_rNu_2_2:=⟨[],zd 0 (ZK sy (.p 1 0)) (zd 1 (ZK sy (.p 0 0)) (zd 3 (Je sy .i64) (jF sy))),Jb 0 (ja (Jl sy) (Zq sy)) (Jb 1 (ja (Je sy .i64) (Zq sy)) (ZF sy)),2,[]⟩
def le_k_rNu_2_2:LS sy (Unit×Unit×Int×Unit) (((Bt)×Unit)×(Int×Unit)×Unit):=⟨[],zd 0 (ZK sy (.p 1 0)) (zd 1 (ZK sy (.p 0 0)) (zd 3 (Je sy .i64) (jF sy))),Jb 0 (ja (Jl sy) (Zq sy)) (Jb 1 (ja (Je sy .i64) (Zq sy)) (ZF sy)),2,[]⟩
def jb3:LS sy Unit Unit:=⟨[],jF sy,ZF sy,2,[]⟩
def Jbj (A90:Ja) (A78:zc) (n:Nat) (x:zb3×Yb_k_rNu_2_2) (K:Ex->Z sg->Prop):Prop:=jv A90 A78 n x.1.2.2.1 x.2.1.1 x.2.2.1.1 (λy0 y1 y2=>K (.exit 0) (le_k_rNu_2_2.put (((),(),y0,()),((y1,()),(y2,()),()))))
def zfE (A90:Ja) (A78:zc) (z:Z sg) (K:Ex->Z sg->Prop):Prop:=ls_k_rNu_2_2.get z (λx=>∃n,Jbj A90 A78 n x K)
def Zb3 (A90:Ja) (A78:zc):ZY sg:=Jcx [(2,zfE A90 A78)]
theorem jfa (A90:Ja) (A78:zc) (n:Nat) (x:zb3×Yb_k_rNu_2_2) (K:Ex->Z sg->Prop):jt (ls_k_rNu_2_2.put x) (λz=>sC sy prog GT (ZdM A90 A78) (Zb3 A90 A78) f117.ntmps (zb (za f117) 0) z (rnd ls_k_rNu_2_2 (czT 0 le_k_rNu_2_2 jb3) (λx=>Jbj A90 A78 n x K) K))=Jbj A90 A78 (n+1) x K:=by kernel_rfl
theorem Zfa (A90:Ja) (A78:zc) (z:Z sg) (K:Ex->Z sg->Prop):(Zb3 A90 A78) (zb (za f117) 0) z K=ls_k_rNu_2_2.get z (λx=>∃n,Jbj A90 A78 n x K):=by kernel_rfl
theorem Jfa (A90:Ja) (A78:zc) (h90:FO ro 90 (Zd A90)) (h78:FO ro 78 (Zf A78)):∀(o0:Nat->Prop) (B:Bs sg),B.E.length<=2->∀z K,(Zb3 A90 A78) (zb (za f117) 0) z K->Sx.Sem sy prog GT (ovD ro) o0 ro f117.ntmps B (.loop (zb (za f117) 0)) z K:=
 zG (JdM A90 A78 h90 h78) (Ji (l:=[]) (by kernel_rfl) je) ls_k_rNu_2_2 (by decide) (czT 0 le_k_rNu_2_2 jb3) (λ_ _ hB=>zY 0 le_k_rNu_2_2 jb3 (Yb hB (by decide)) (Yb hB (by decide))) (λ_ _ h=>h) (jfa A90 A78) (Zfa A90 A78)
theorem zgs (A90:Ja) (A78:zc) (h90:FO ro 90 (Zd A90)) (h78:FO ro 78 (Zf A78)):zci sy prog GT (ovD ro) ro (Zb3 A90 A78) 2 f117.ntmps (za f117):=Ji (l:=[(zb (za f117) 0)]) (by kernel_rfl) (JF (Jfa A90 A78 h90 h78) je)
abbrev Jb3:=Bt->Int->(Int->Bool->Int->Prop)->Prop
def JbI (A:Jb3) (us:List W) (k:W->Prop):Prop:=match us with
 | [.s a0,.i .i64 a1]=>A a0 a1 (λr0 r1 r2=>k (.t [.i .i64 r0,.b r1,.i .i64 r2]))
 | _=>False
theorem zfb {A A2:Jb3} (h:FO ro 96 (JbI A)) (hA:∀a0 a1 K,A2 a0 a1 K->A a0 a1 K):FO ro 96 (JbI A2):=h.weak (by intro us k h;unfold JbI at h |-;split at h;exact hA _ _ _ h;exact h.elim)
def jfE (A95:JaT) (A90:Ja) (A118:JB) (A119:jO) (A120:Zb2) (A121:Jb2) (A94:Zx) (A78:zc) (a0:Bt) (a1:Int) (K:Int->Bool->Int->Prop):Prop:=
 (A90 a0 a1 (λy1=>(A90 a0 a1 (λy2=>(A94 y2 (λy3=>((y3=true->(I64 (a1+1)/\(∃m,jv A90 A78 m (a1+1) a0 (a1+1) (λy4 y5 y6=>((0<=y4/\y4<=y6/\y6<=(y5.length:Int))/\(A95 y5 y6 (λy7=>((y7=true->(I64 (y6+1)/\(∃m,jv A90 A78 m (y6+1) y5 (y6+1) (λy8 y9 y10=>((0<=y8/\y8<=y10/\y10<=(y9.length:Int))/\(A90 y9 y10 (λy11=>(A118 y11 (λy12=>((y12=true->(I64 (y10+1)/\(A119 y9 (y10+1) (λy13=>((y13=true->(I64 (y10+1)/\(A90 y9 (y10+1) (λy14=>(A90 y9 (y10+1) (λy15=>(A94 y15 (λy16=>((y16=true->(I64 ((y10+1)+1)/\(∃m,jv A90 A78 m ((y10+1)+1) y9 ((y10+1)+1) (λy17 y18 y19=>((0<=y17/\y17<=y19/\y19<=(y18.length:Int))/\(A120 ((y18.drop y17.toNat).take (y19.toNat-y17.toNat)) (λy20=>(((decide (y14=45))=true->(I64 (0-y20)/\(((y5.drop y4.toNat).take (y6.toNat-y4.toNat)).length+((y9.drop y8.toNat).take (y10.toNat-y8.toNat)).length<=1099511627776/\(I64 ((((y5.drop y4.toNat).take (y6.toNat-y4.toNat)).length:Int)+(0-y20))/\(I64 (((((y5.drop y4.toNat).take (y6.toNat-y4.toNat)).length:Int)+(0-y20))+3)/\(A121 (((y5.drop y4.toNat).take (y6.toNat-y4.toNat))++((y9.drop y8.toNat).take (y10.toNat-y8.toNat))) (((((y5.drop y4.toNat).take (y6.toNat-y4.toNat)).length:Int)+(0-y20))+3) (λy21=>(((decide (y1=45))=true->(I64 (0-y21)/\K (0-y21) false y19))/\((decide (y1=45))=false->K y21 false y19)))))))))/\((decide (y14=45))=false->(((y5.drop y4.toNat).take (y6.toNat-y4.toNat)).length+((y9.drop y8.toNat).take (y10.toNat-y8.toNat)).length<=1099511627776/\(I64 ((((y5.drop y4.toNat).take (y6.toNat-y4.toNat)).length:Int)+y20)/\(I64 (((((y5.drop y4.toNat).take (y6.toNat-y4.toNat)).length:Int)+y20)+(3:Int))/\(A121 (((y5.drop y4.toNat).take (y6.toNat-y4.toNat))++((y9.drop y8.toNat).take (y10.toNat-y8.toNat))) (((((y5.drop y4.toNat).take (y6.toNat-y4.toNat)).length:Int)+y20)+(3:Int)) (λy22=>(((decide (y1=45))=true->(I64 (0-y22)/\K (0-y22) false y19))/\((decide (y1=45))=false->K y22 false y19))))))))))))))))/\(y16=false->(∃m,jv A90 A78 m (y10+1) y9 (y10+1) (λy23 y24 y25=>((0<=y23/\y23<=y25/\y25<=(y24.length:Int))/\(A120 ((y24.drop y23.toNat).take (y25.toNat-y23.toNat)) (λy26=>(((decide (y14=45))=true->(I64 (0-y26)/\(((y5.drop y4.toNat).take (y6.toNat-y4.toNat)).length+((y9.drop y8.toNat).take (y10.toNat-y8.toNat)).length<=1099511627776/\(I64 ((((y5.drop y4.toNat).take (y6.toNat-y4.toNat)).length:Int)+(0-y26))/\(I64 (((((y5.drop y4.toNat).take (y6.toNat-y4.toNat)).length:Int)+(0-y26))+3)/\(A121 (((y5.drop y4.toNat).take (y6.toNat-y4.toNat))++((y9.drop y8.toNat).take (y10.toNat-y8.toNat))) (((((y5.drop y4.toNat).take (y6.toNat-y4.toNat)).length:Int)+(0-y26))+3) (λy27=>(((decide (y1=45))=true->(I64 (0-y27)/\K (0-y27) false y25))/\((decide (y1=45))=false->K y27 false y25)))))))))/\((decide (y14=45))=false->(((y5.drop y4.toNat).take (y6.toNat-y4.toNat)).length+((y9.drop y8.toNat).take (y10.toNat-y8.toNat)).length<=1099511627776/\(I64 ((((y5.drop y4.toNat).take (y6.toNat-y4.toNat)).length:Int)+y26)/\(I64 (((((y5.drop y4.toNat).take (y6.toNat-y4.toNat)).length:Int)+y26)+(3:Int))/\(A121 (((y5.drop y4.toNat).take (y6.toNat-y4.toNat))++((y9.drop y8.toNat).take (y10.toNat-y8.toNat))) (((((y5.drop y4.toNat).take (y6.toNat-y4.toNat)).length:Int)+y26)+(3:Int)) (λy28=>(((decide (y1=45))=true->(I64 (0-y28)/\K (0-y28) false y25))/\((decide (y1=45))=false->K y28 false y25))))))))))))))))))))))))/\(y13=false->(((y5.drop y4.toNat).take (y6.toNat-y4.toNat)).length+((y9.drop y8.toNat).take (y10.toNat-y8.toNat)).length<=1099511627776/\(I64 ((((y5.drop y4.toNat).take (y6.toNat-y4.toNat)).length:Int)+(0:Int))/\(I64 (((((y5.drop y4.toNat).take (y6.toNat-y4.toNat)).length:Int)+(0:Int))+3)/\(A121 (((y5.drop y4.toNat).take (y6.toNat-y4.toNat))++((y9.drop y8.toNat).take (y10.toNat-y8.toNat))) (((((y5.drop y4.toNat).take (y6.toNat-y4.toNat)).length:Int)+(0:Int))+3) (λy29=>(((decide (y1=45))=true->(I64 (0-y29)/\K (0-y29) false y10))/\((decide (y1=45))=false->K y29 false y10)))))))))))))/\(y12=false->(((y5.drop y4.toNat).take (y6.toNat-y4.toNat)).length+((y9.drop y8.toNat).take (y10.toNat-y8.toNat)).length<=1099511627776/\(I64 ((((y5.drop y4.toNat).take (y6.toNat-y4.toNat)).length:Int)+(0:Int))/\(I64 (((((y5.drop y4.toNat).take (y6.toNat-y4.toNat)).length:Int)+(0:Int))+3)/\(A121 (((y5.drop y4.toNat).take (y6.toNat-y4.toNat))++((y9.drop y8.toNat).take (y10.toNat-y8.toNat))) (((((y5.drop y4.toNat).take (y6.toNat-y4.toNat)).length:Int)+(0:Int))+3) (λy30=>(((decide (y1=45))=true->(I64 (0-y30)/\K (0-y30) false y10))/\((decide (y1=45))=false->K y30 false y10))))))))))))))))))/\(y7=false->(A90 y5 y6 (λy31=>(A118 y31 (λy32=>((y32=true->(I64 (y6+1)/\(A119 y5 (y6+1) (λy33=>((y33=true->(I64 (y6+1)/\(A90 y5 (y6+1) (λy34=>(A90 y5 (y6+1) (λy35=>(A94 y35 (λy36=>((y36=true->(I64 ((y6+1)+1)/\(∃m,jv A90 A78 m ((y6+1)+1) y5 ((y6+1)+1) (λy37 y38 y39=>((0<=y37/\y37<=y39/\y39<=(y38.length:Int))/\(A120 ((y38.drop y37.toNat).take (y39.toNat-y37.toNat)) (λy40=>(((decide (y34=45))=true->(I64 (0-y40)/\(((y5.drop y4.toNat).take (y6.toNat-y4.toNat)).length+([]:Bt).length<=1099511627776/\(I64 ((((y5.drop y4.toNat).take (y6.toNat-y4.toNat)).length:Int)+(0-y40))/\(I64 (((((y5.drop y4.toNat).take (y6.toNat-y4.toNat)).length:Int)+(0-y40))+3)/\(A121 (((y5.drop y4.toNat).take (y6.toNat-y4.toNat))++([]:Bt)) (((((y5.drop y4.toNat).take (y6.toNat-y4.toNat)).length:Int)+(0-y40))+3) (λy41=>(((decide (y1=45))=true->(I64 (0-y41)/\K (0-y41) false y39))/\((decide (y1=45))=false->K y41 false y39)))))))))/\((decide (y34=45))=false->(((y5.drop y4.toNat).take (y6.toNat-y4.toNat)).length+([]:Bt).length<=1099511627776/\(I64 ((((y5.drop y4.toNat).take (y6.toNat-y4.toNat)).length:Int)+y40)/\(I64 (((((y5.drop y4.toNat).take (y6.toNat-y4.toNat)).length:Int)+y40)+(3:Int))/\(A121 (((y5.drop y4.toNat).take (y6.toNat-y4.toNat))++([]:Bt)) (((((y5.drop y4.toNat).take (y6.toNat-y4.toNat)).length:Int)+y40)+(3:Int)) (λy42=>(((decide (y1=45))=true->(I64 (0-y42)/\K (0-y42) false y39))/\((decide (y1=45))=false->K y42 false y39))))))))))))))))/\(y36=false->(∃m,jv A90 A78 m (y6+1) y5 (y6+1) (λy43 y44 y45=>((0<=y43/\y43<=y45/\y45<=(y44.length:Int))/\(A120 ((y44.drop y43.toNat).take (y45.toNat-y43.toNat)) (λy46=>(((decide (y34=45))=true->(I64 (0-y46)/\(((y5.drop y4.toNat).take (y6.toNat-y4.toNat)).length+([]:Bt).length<=1099511627776/\(I64 ((((y5.drop y4.toNat).take (y6.toNat-y4.toNat)).length:Int)+(0-y46))/\(I64 (((((y5.drop y4.toNat).take (y6.toNat-y4.toNat)).length:Int)+(0-y46))+3)/\(A121 (((y5.drop y4.toNat).take (y6.toNat-y4.toNat))++([]:Bt)) (((((y5.drop y4.toNat).take (y6.toNat-y4.toNat)).length:Int)+(0-y46))+3) (λy47=>(((decide (y1=45))=true->(I64 (0-y47)/\K (0-y47) false y45))/\((decide (y1=45))=false->K y47 false y45)))))))))/\((decide (y34=45))=false->(((y5.drop y4.toNat).take (y6.toNat-y4.toNat)).length+([]:Bt).length<=1099511627776/\(I64 ((((y5.drop y4.toNat).take (y6.toNat-y4.toNat)).length:Int)+y46)/\(I64 (((((y5.drop y4.toNat).take (y6.toNat-y4.toNat)).length:Int)+y46)+(3:Int))/\(A121 (((y5.drop y4.toNat).take (y6.toNat-y4.toNat))++([]:Bt)) (((((y5.drop y4.toNat).take (y6.toNat-y4.toNat)).length:Int)+y46)+(3:Int)) (λy48=>(((decide (y1=45))=true->(I64 (0-y48)/\K (0-y48) false y45))/\((decide (y1=45))=false->K y48 false y45))))))))))))))))))))))))/\(y33=false->(((y5.drop y4.toNat).take (y6.toNat-y4.toNat)).length+([]:Bt).length<=1099511627776/\(I64 ((((y5.drop y4.toNat).take (y6.toNat-y4.toNat)).length:Int)+(0:Int))/\(I64 (((((y5.drop y4.toNat).take (y6.toNat-y4.toNat)).length:Int)+(0:Int))+3)/\(A121 (((y5.drop y4.toNat).take (y6.toNat-y4.toNat))++([]:Bt)) (((((y5.drop y4.toNat).take (y6.toNat-y4.toNat)).length:Int)+(0:Int))+3) (λy49=>(((decide (y1=45))=true->(I64 (0-y49)/\K (0-y49) true y6))/\((decide (y1=45))=false->K y49 true y6)))))))))))))/\(y32=false->(((y5.drop y4.toNat).take (y6.toNat-y4.toNat)).length+([]:Bt).length<=1099511627776/\(I64 ((((y5.drop y4.toNat).take (y6.toNat-y4.toNat)).length:Int)+(0:Int))/\(I64 (((((y5.drop y4.toNat).take (y6.toNat-y4.toNat)).length:Int)+(0:Int))+3)/\(A121 (((y5.drop y4.toNat).take (y6.toNat-y4.toNat))++([]:Bt)) (((((y5.drop y4.toNat).take (y6.toNat-y4.toNat)).length:Int)+(0:Int))+3) (λy50=>(((decide (y1=45))=true->(I64 (0-y50)/\K (0-y50) true y6))/\((decide (y1=45))=false->K y50 true y6))))))))))))))))))))))/\(y3=false->(∃m,jv A90 A78 m a1 a0 a1 (λy51 y52 y53=>((0<=y51/\y51<=y53/\y53<=(y52.length:Int))/\(A95 y52 y53 (λy54=>((y54=true->(I64 (y53+1)/\(∃m,jv A90 A78 m (y53+1) y52 (y53+1) (λy55 y56 y57=>((0<=y55/\y55<=y57/\y57<=(y56.length:Int))/\(A90 y56 y57 (λy58=>(A118 y58 (λy59=>((y59=true->(I64 (y57+1)/\(A119 y56 (y57+1) (λy60=>((y60=true->(I64 (y57+1)/\(A90 y56 (y57+1) (λy61=>(A90 y56 (y57+1) (λy62=>(A94 y62 (λy63=>((y63=true->(I64 ((y57+1)+1)/\(∃m,jv A90 A78 m ((y57+1)+1) y56 ((y57+1)+1) (λy64 y65 y66=>((0<=y64/\y64<=y66/\y66<=(y65.length:Int))/\(A120 ((y65.drop y64.toNat).take (y66.toNat-y64.toNat)) (λy67=>(((decide (y61=45))=true->(I64 (0-y67)/\(((y52.drop y51.toNat).take (y53.toNat-y51.toNat)).length+((y56.drop y55.toNat).take (y57.toNat-y55.toNat)).length<=1099511627776/\(I64 ((((y52.drop y51.toNat).take (y53.toNat-y51.toNat)).length:Int)+(0-y67))/\(I64 (((((y52.drop y51.toNat).take (y53.toNat-y51.toNat)).length:Int)+(0-y67))+3)/\(A121 (((y52.drop y51.toNat).take (y53.toNat-y51.toNat))++((y56.drop y55.toNat).take (y57.toNat-y55.toNat))) (((((y52.drop y51.toNat).take (y53.toNat-y51.toNat)).length:Int)+(0-y67))+3) (λy68=>(((decide (y1=45))=true->(I64 (0-y68)/\K (0-y68) false y66))/\((decide (y1=45))=false->K y68 false y66)))))))))/\((decide (y61=45))=false->(((y52.drop y51.toNat).take (y53.toNat-y51.toNat)).length+((y56.drop y55.toNat).take (y57.toNat-y55.toNat)).length<=1099511627776/\(I64 ((((y52.drop y51.toNat).take (y53.toNat-y51.toNat)).length:Int)+y67)/\(I64 (((((y52.drop y51.toNat).take (y53.toNat-y51.toNat)).length:Int)+y67)+(3:Int))/\(A121 (((y52.drop y51.toNat).take (y53.toNat-y51.toNat))++((y56.drop y55.toNat).take (y57.toNat-y55.toNat))) (((((y52.drop y51.toNat).take (y53.toNat-y51.toNat)).length:Int)+y67)+(3:Int)) (λy69=>(((decide (y1=45))=true->(I64 (0-y69)/\K (0-y69) false y66))/\((decide (y1=45))=false->K y69 false y66))))))))))))))))/\(y63=false->(∃m,jv A90 A78 m (y57+1) y56 (y57+1) (λy70 y71 y72=>((0<=y70/\y70<=y72/\y72<=(y71.length:Int))/\(A120 ((y71.drop y70.toNat).take (y72.toNat-y70.toNat)) (λy73=>(((decide (y61=45))=true->(I64 (0-y73)/\(((y52.drop y51.toNat).take (y53.toNat-y51.toNat)).length+((y56.drop y55.toNat).take (y57.toNat-y55.toNat)).length<=1099511627776/\(I64 ((((y52.drop y51.toNat).take (y53.toNat-y51.toNat)).length:Int)+(0-y73))/\(I64 (((((y52.drop y51.toNat).take (y53.toNat-y51.toNat)).length:Int)+(0-y73))+3)/\(A121 (((y52.drop y51.toNat).take (y53.toNat-y51.toNat))++((y56.drop y55.toNat).take (y57.toNat-y55.toNat))) (((((y52.drop y51.toNat).take (y53.toNat-y51.toNat)).length:Int)+(0-y73))+3) (λy74=>(((decide (y1=45))=true->(I64 (0-y74)/\K (0-y74) false y72))/\((decide (y1=45))=false->K y74 false y72)))))))))/\((decide (y61=45))=false->(((y52.drop y51.toNat).take (y53.toNat-y51.toNat)).length+((y56.drop y55.toNat).take (y57.toNat-y55.toNat)).length<=1099511627776/\(I64 ((((y52.drop y51.toNat).take (y53.toNat-y51.toNat)).length:Int)+y73)/\(I64 (((((y52.drop y51.toNat).take (y53.toNat-y51.toNat)).length:Int)+y73)+(3:Int))/\(A121 (((y52.drop y51.toNat).take (y53.toNat-y51.toNat))++((y56.drop y55.toNat).take (y57.toNat-y55.toNat))) (((((y52.drop y51.toNat).take (y53.toNat-y51.toNat)).length:Int)+y73)+(3:Int)) (λy75=>(((decide (y1=45))=true->(I64 (0-y75)/\K (0-y75) false y72))/\((decide (y1=45))=false->K y75 false y72))))))))))))))))))))))))/\(y60=false->(((y52.drop y51.toNat).take (y53.toNat-y51.toNat)).length+((y56.drop y55.toNat).take (y57.toNat-y55.toNat)).length<=1099511627776/\(I64 ((((y52.drop y51.toNat).take (y53.toNat-y51.toNat)).length:Int)+(0:Int))/\(I64 (((((y52.drop y51.toNat).take (y53.toNat-y51.toNat)).length:Int)+(0:Int))+3)/\(A121 (((y52.drop y51.toNat).take (y53.toNat-y51.toNat))++((y56.drop y55.toNat).take (y57.toNat-y55.toNat))) (((((y52.drop y51.toNat).take (y53.toNat-y51.toNat)).length:Int)+(0:Int))+3) (λy76=>(((decide (y1=45))=true->(I64 (0-y76)/\K (0-y76) false y57))/\((decide (y1=45))=false->K y76 false y57)))))))))))))/\(y59=false->(((y52.drop y51.toNat).take (y53.toNat-y51.toNat)).length+((y56.drop y55.toNat).take (y57.toNat-y55.toNat)).length<=1099511627776/\(I64 ((((y52.drop y51.toNat).take (y53.toNat-y51.toNat)).length:Int)+(0:Int))/\(I64 (((((y52.drop y51.toNat).take (y53.toNat-y51.toNat)).length:Int)+(0:Int))+3)/\(A121 (((y52.drop y51.toNat).take (y53.toNat-y51.toNat))++((y56.drop y55.toNat).take (y57.toNat-y55.toNat))) (((((y52.drop y51.toNat).take (y53.toNat-y51.toNat)).length:Int)+(0:Int))+3) (λy77=>(((decide (y1=45))=true->(I64 (0-y77)/\K (0-y77) false y57))/\((decide (y1=45))=false->K y77 false y57))))))))))))))))))/\(y54=false->(A90 y52 y53 (λy78=>(A118 y78 (λy79=>((y79=true->(I64 (y53+1)/\(A119 y52 (y53+1) (λy80=>((y80=true->(I64 (y53+1)/\(A90 y52 (y53+1) (λy81=>(A90 y52 (y53+1) (λy82=>(A94 y82 (λy83=>((y83=true->(I64 ((y53+1)+1)/\(∃m,jv A90 A78 m ((y53+1)+1) y52 ((y53+1)+1) (λy84 y85 y86=>((0<=y84/\y84<=y86/\y86<=(y85.length:Int))/\(A120 ((y85.drop y84.toNat).take (y86.toNat-y84.toNat)) (λy87=>(((decide (y81=45))=true->(I64 (0-y87)/\(((y52.drop y51.toNat).take (y53.toNat-y51.toNat)).length+([]:Bt).length<=1099511627776/\(I64 ((((y52.drop y51.toNat).take (y53.toNat-y51.toNat)).length:Int)+(0-y87))/\(I64 (((((y52.drop y51.toNat).take (y53.toNat-y51.toNat)).length:Int)+(0-y87))+3)/\(A121 (((y52.drop y51.toNat).take (y53.toNat-y51.toNat))++([]:Bt)) (((((y52.drop y51.toNat).take (y53.toNat-y51.toNat)).length:Int)+(0-y87))+3) (λy88=>(((decide (y1=45))=true->(I64 (0-y88)/\K (0-y88) false y86))/\((decide (y1=45))=false->K y88 false y86)))))))))/\((decide (y81=45))=false->(((y52.drop y51.toNat).take (y53.toNat-y51.toNat)).length+([]:Bt).length<=1099511627776/\(I64 ((((y52.drop y51.toNat).take (y53.toNat-y51.toNat)).length:Int)+y87)/\(I64 (((((y52.drop y51.toNat).take (y53.toNat-y51.toNat)).length:Int)+y87)+(3:Int))/\(A121 (((y52.drop y51.toNat).take (y53.toNat-y51.toNat))++([]:Bt)) (((((y52.drop y51.toNat).take (y53.toNat-y51.toNat)).length:Int)+y87)+(3:Int)) (λy89=>(((decide (y1=45))=true->(I64 (0-y89)/\K (0-y89) false y86))/\((decide (y1=45))=false->K y89 false y86))))))))))))))))/\(y83=false->(∃m,jv A90 A78 m (y53+1) y52 (y53+1) (λy90 y91 y92=>((0<=y90/\y90<=y92/\y92<=(y91.length:Int))/\(A120 ((y91.drop y90.toNat).take (y92.toNat-y90.toNat)) (λy93=>(((decide (y81=45))=true->(I64 (0-y93)/\(((y52.drop y51.toNat).take (y53.toNat-y51.toNat)).length+([]:Bt).length<=1099511627776/\(I64 ((((y52.drop y51.toNat).take (y53.toNat-y51.toNat)).length:Int)+(0-y93))/\(I64 (((((y52.drop y51.toNat).take (y53.toNat-y51.toNat)).length:Int)+(0-y93))+3)/\(A121 (((y52.drop y51.toNat).take (y53.toNat-y51.toNat))++([]:Bt)) (((((y52.drop y51.toNat).take (y53.toNat-y51.toNat)).length:Int)+(0-y93))+3) (λy94=>(((decide (y1=45))=true->(I64 (0-y94)/\K (0-y94) false y92))/\((decide (y1=45))=false->K y94 false y92)))))))))/\((decide (y81=45))=false->(((y52.drop y51.toNat).take (y53.toNat-y51.toNat)).length+([]:Bt).length<=1099511627776/\(I64 ((((y52.drop y51.toNat).take (y53.toNat-y51.toNat)).length:Int)+y93)/\(I64 (((((y52.drop y51.toNat).take (y53.toNat-y51.toNat)).length:Int)+y93)+(3:Int))/\(A121 (((y52.drop y51.toNat).take (y53.toNat-y51.toNat))++([]:Bt)) (((((y52.drop y51.toNat).take (y53.toNat-y51.toNat)).length:Int)+y93)+(3:Int)) (λy95=>(((decide (y1=45))=true->(I64 (0-y95)/\K (0-y95) false y92))/\((decide (y1=45))=false->K y95 false y92))))))))))))))))))))))))/\(y80=false->(((y52.drop y51.toNat).take (y53.toNat-y51.toNat)).length+([]:Bt).length<=1099511627776/\(I64 ((((y52.drop y51.toNat).take (y53.toNat-y51.toNat)).length:Int)+(0:Int))/\(I64 (((((y52.drop y51.toNat).take (y53.toNat-y51.toNat)).length:Int)+(0:Int))+3)/\(A121 (((y52.drop y51.toNat).take (y53.toNat-y51.toNat))++([]:Bt)) (((((y52.drop y51.toNat).take (y53.toNat-y51.toNat)).length:Int)+(0:Int))+3) (λy96=>(((decide (y1=45))=true->(I64 (0-y96)/\K (0-y96) true y53))/\((decide (y1=45))=false->K y96 true y53)))))))))))))/\(y79=false->(((y52.drop y51.toNat).take (y53.toNat-y51.toNat)).length+([]:Bt).length<=1099511627776/\(I64 ((((y52.drop y51.toNat).take (y53.toNat-y51.toNat)).length:Int)+(0:Int))/\(I64 (((((y52.drop y51.toNat).take (y53.toNat-y51.toNat)).length:Int)+(0:Int))+3)/\(A121 (((y52.drop y51.toNat).take (y53.toNat-y51.toNat))++([]:Bt)) (((((y52.drop y51.toNat).take (y53.toNat-y51.toNat)).length:Int)+(0:Int))+3) (λy97=>(((decide (y1=45))=true->(I64 (0-y97)/\K (0-y97) true y53))/\((decide (y1=45))=false->K y97 true y53))))))))))))))))))))))))))))
def ZfE (A95:JaT) (A90:Ja) (A118:JB) (A119:jO) (A120:Zb2) (A121:Jb2) (A94:Zx) (A78:zc):Zj sg:=tab [(95,con [none,none] (Ja1 A95)),(90,con [none,none] (Zd A90)),(118,con [none] (zx A118)),(119,con [none,none] (zH A119)),(120,con [none] (jbH A120)),(121,con [none,none] (ZbI A121)),(116,inl sy prog GT (zfa A90 A94) noL 1000 f116.ntmps (za f116) f116.results.toList),(117,inl sy prog GT (ZdM A90 A78) (Zb3 A90 A78) 2 f117.ntmps (za f117) f117.results.toList)]
theorem zgX (A95:JaT) (A90:Ja) (A118:JB) (A119:jO) (A120:Zb2) (A121:Jb2) (A94:Zx) (A78:zc) (h95:FO ro 95 (Ja1 A95)) (h90:FO ro 90 (Zd A90)) (h118:FO ro 118 (zx A118)) (h119:FO ro 119 (zH A119)) (h120:FO ro 120 (jbH A120)) (h121:FO ro 121 (ZbI A121)) (h94:FO ro 94 (zJ A94)) (h78:FO ro 78 (Zf A78)) (o0:Nat->Prop):jC sy prog GT (ovD ro) o0 ro (ZfE A95 A90 A118 A119 A120 A121 A94 A78):=(Za (Jc h95) (Za (Jc h90) (Za (Jc h118) (Za (Jc h119) (Za (Jc h120) (Za (Jc h121) (Za (zdi (f:=116) (fn:=f116) (λ_ _=>rfl) func116 (by kernel_rfl) rfl rfl (JfD A90 A94 h90 h94) (Ji (l:=[]) (by kernel_rfl) je)) (Za (zdi (f:=117) (fn:=f117) (λ_ _=>rfl) func117 (by kernel_rfl) rfl rfl (JdM A90 A78 h90 h78) (zgs A90 A78 h90 h78)) Jd)))))))) o0
theorem jgX (A95:JaT) (A90:Ja) (A118:JB) (A119:jO) (A120:Zb2) (A121:Jb2) (A94:Zx) (A78:zc) (a0:Bt) (a1:Int) (k:W->Prop):fU sy (ZfE A95 A90 A118 A119 A120 A121 A94 A78) noL [none,none,none] f96 [.s a0,.i .i64 a1] k=jfE A95 A90 A118 A119 A120 A121 A94 A78 a0 a1 (λr0 r1 r2=>k (.t [.i .i64 r0,.b r1,.i .i64 r2])):=by kernel_rfl
theorem Jhz (A95:JaT) (A90:Ja) (A118:JB) (A119:jO) (A120:Zb2) (A121:Jb2) (A94:Zx) (A78:zc) (h95:FO ro 95 (Ja1 A95)) (h90:FO ro 90 (Zd A90)) (h118:FO ro 118 (zx A118)) (h119:FO ro 119 (zH A119)) (h120:FO ro 120 (jbH A120)) (h121:FO ro 121 (ZbI A121)) (h94:FO ro 94 (zJ A94)) (h78:FO ro 78 (Zf A78)):FO ro 96 (JbI (jfE A95 A90 A118 A119 A120 A121 A94 A78)):=(fB f96 (rc:=[none,none,none]) (C:=ZfE A95 A90 A118 A119 A120 A121 A94 A78) (L:=noL) (λ_ _=>rfl) func96 (by kernel_rfl) (zgX A95 A90 A118 A119 A120 A121 A94 A78 h95 h90 h118 h119 h120 h121 h94 h78) (Ji (l:=[]) (by kernel_rfl) je)).weak (by intro us k h;unfold JbI at h;split at h;rw [jgX];exact h;exact h.elim)
abbrev jr:=Int->(Bool->Prop)->Prop
def Jy (A:jr) (us:List W) (k:W->Prop):Prop:=match us with
 | [.i .u8 a0]=>A a0 (λr0=>k (.b r0))
 | _=>False
theorem Zc2 {A A2:jr} (h:FO ro 105 (Jy A)) (hA:∀a0 K,A2 a0 K->A a0 K):FO ro 105 (Jy A2):=h.weak (by intro us k h;unfold Jy at h |-;split at h;exact hA _ _ h;exact h.elim)
def zbk (a0:Int) (K:Bool->Prop):Prop:=
 (((decide (97<=a0))=true->(((decide (a0<=122))=false->(((decide (65<=a0))=true->K (decide (a0<=90)))/\((decide (65<=a0))=false->K false)))/\((decide (a0<=122))=true->K true)))/\((decide (97<=a0))=false->(((decide (65<=a0))=true->K (decide (a0<=90)))/\((decide (65<=a0))=false->K false))))
def zb4:Zj sg:=tab []
theorem jed (o0:Nat->Prop):jC sy prog GT (ovD ro) o0 ro (zb4):=Jd o0
theorem Zed (a0:Int) (k:W->Prop):fU sy (zb4) noL [none] f105 [.i .u8 a0] k=zbk a0 (λr0=>k (.b r0)):=by kernel_rfl
theorem JeF:FO ro 105 (Jy (zbk)):=(fB f105 (rc:=[none]) (C:=zb4) (L:=noL) (λ_ _=>rfl) func105 (by kernel_rfl) (jed) (Ji (l:=[]) (by kernel_rfl) je)).weak (by intro us k h;unfold Jy at h;split at h;rw [Zed];exact h;exact h.elim)
abbrev jm:=Int->(Bool->Prop)->Prop
def Jq (A:jm) (us:List W) (k:W->Prop):Prop:=match us with
 | [.i .u8 a0]=>A a0 (λr0=>k (.b r0))
 | _=>False
theorem zcz {A A2:jm} (h:FO ro 77 (Jq A)) (hA:∀a0 K,A2 a0 K->A a0 K):FO ro 77 (Jq A2):=h.weak (by intro us k h;unfold Jq at h |-;split at h;exact hA _ _ h;exact h.elim)
def jaX (A105:jr) (a0:Int) (K:Bool->Prop):Prop:=
 (A105 a0 (λy1=>((y1=false->(((decide (a0=95))=false->K (decide (128<=a0)))/\((decide (a0=95))=true->K true)))/\(y1=true->K true))))
def Jbp (A105:jr):Zj sg:=tab [(105,con [none] (Jy A105))]
theorem jdo (A105:jr) (h105:FO ro 105 (Jy A105)) (o0:Nat->Prop):jC sy prog GT (ovD ro) o0 ro (Jbp A105):=(Za (Jc h105) Jd) o0
theorem Zdo (A105:jr) (a0:Int) (k:W->Prop):fU sy (Jbp A105) noL [none] f77 [.i .u8 a0] k=jaX A105 a0 (λr0=>k (.b r0)):=by kernel_rfl
theorem zdN (A105:jr) (h105:FO ro 105 (Jy A105)):FO ro 77 (Jq (jaX A105)):=(fB f77 (rc:=[none]) (C:=Jbp A105) (L:=noL) (λ_ _=>rfl) func77 (by kernel_rfl) (jdo A105 h105) (Ji (l:=[]) (by kernel_rfl) je)).weak (by intro us k h;unfold Jq at h;split at h;rw [Zdo];exact h;exact h.elim)
abbrev zu:=Bt->Int->(Bool->Prop)->Prop
def JY (A:zu) (us:List W) (k:W->Prop):Prop:=match us with
 | [.s a0,.i .i64 a1]=>A a0 a1 (λr0=>k (.b r0))
 | _=>False
theorem jfb {A A2:zu} (h:FO ro 93 (JY A)) (hA:∀a0 a1 K,A2 a0 a1 K->A a0 a1 K):FO ro 93 (JY A2):=h.weak (by intro us k h;unfold JY at h |-;split at h;exact hA _ _ _ h;exact h.elim)
def zeG (A90:Ja) (a0:Bt) (a1:Int) (K:Bool->Prop):Prop:=
 (A90 a0 a1 (λy1=>(((decide (y1=92))=true->(I64 (a1+1)/\(A90 a0 (a1+1) (λy2=>K (decide (y2≠10))))))/\((decide (y1=92))=false->K false))))
def JfE (A90:Ja):Zj sg:=tab [(90,con [none,none] (Zd A90))]
theorem ZgX (A90:Ja) (h90:FO ro 90 (Zd A90)) (o0:Nat->Prop):jC sy prog GT (ovD ro) o0 ro (JfE A90):=(Za (Jc h90) Jd) o0
theorem JgX (A90:Ja) (a0:Bt) (a1:Int) (k:W->Prop):fU sy (JfE A90) noL [none] f93 [.s a0,.i .i64 a1] k=zeG A90 a0 a1 (λr0=>k (.b r0)):=by kernel_rfl
theorem zhA (A90:Ja) (h90:FO ro 90 (Zd A90)):FO ro 93 (JY (zeG A90)):=(fB f93 (rc:=[none]) (C:=JfE A90) (L:=noL) (λ_ _=>rfl) func93 (by kernel_rfl) (ZgX A90 h90) (Ji (l:=[]) (by kernel_rfl) je)).weak (by intro us k h;unfold JY at h;split at h;rw [JgX];exact h;exact h.elim)
abbrev Zu:=Bt->Int->(Bool->Prop)->Prop
def jA (A:Zu) (us:List W) (k:W->Prop):Prop:=match us with
 | [.s a0,.i .i64 a1]=>A a0 a1 (λr0=>k (.b r0))
 | _=>False
theorem jcz {A A2:Zu} (h:FO ro 56 (jA A)) (hA:∀a0 a1 K,A2 a0 a1 K->A a0 a1 K):FO ro 56 (jA A2):=h.weak (by intro us k h;unfold jA at h |-;split at h;exact hA _ _ _ h;exact h.elim)
def ZaX (A90:Ja) (A77:jm) (A93:zu) (a0:Bt) (a1:Int) (K:Bool->Prop):Prop:=
 (A90 a0 a1 (λy1=>(((decide (y1≠45))=true->(A90 a0 a1 (λy2=>(A77 y2 (λy3=>((y3=false->(A93 a0 a1 (λy4=>K y4)))/\(y3=true->K true)))))))/\((decide (y1≠45))=false->(I64 (a1+1)/\(A90 a0 (a1+1) (λy5=>(A77 y5 (λy6=>((y6=false->(((decide (y5=45))=false->(I64 (a1+1)/\(A93 a0 (a1+1) (λy7=>K y7))))/\((decide (y5=45))=true->K true)))/\(y6=true->K true)))))))))))
def zbq (A90:Ja) (A77:jm) (A93:zu):Zj sg:=tab [(90,con [none,none] (Zd A90)),(77,con [none] (Jq A77)),(93,con [none,none] (JY A93))]
theorem Jdo (A90:Ja) (A77:jm) (A93:zu) (h90:FO ro 90 (Zd A90)) (h77:FO ro 77 (Jq A77)) (h93:FO ro 93 (JY A93)) (o0:Nat->Prop):jC sy prog GT (ovD ro) o0 ro (zbq A90 A77 A93):=(Za (Jc h90) (Za (Jc h77) (Za (Jc h93) Jd))) o0
theorem zdp (A90:Ja) (A77:jm) (A93:zu) (a0:Bt) (a1:Int) (k:W->Prop):fU sy (zbq A90 A77 A93) noL [none] f56 [.s a0,.i .i64 a1] k=ZaX A90 A77 A93 a0 a1 (λr0=>k (.b r0)):=by kernel_rfl
theorem jdN (A90:Ja) (A77:jm) (A93:zu) (h90:FO ro 90 (Zd A90)) (h77:FO ro 77 (Jq A77)) (h93:FO ro 93 (JY A93)):FO ro 56 (jA (ZaX A90 A77 A93)):=(fB f56 (rc:=[none]) (C:=zbq A90 A77 A93) (L:=noL) (λ_ _=>rfl) func56 (by kernel_rfl) (Jdo A90 A77 A93 h90 h77 h93) (Ji (l:=[]) (by kernel_rfl) je)).weak (by intro us k h;unfold jA at h;split at h;rw [zdp];exact h;exact h.elim)
abbrev zg:=Int->(Bool->Prop)->Prop
def Jp (A:zg) (us:List W) (k:W->Prop):Prop:=match us with
 | [.i .u8 a0]=>A a0 (λr0=>k (.b r0))
 | _=>False
theorem Jc2 {A A2:zg} (h:FO ro 92 (Jp A)) (hA:∀a0 K,A2 a0 K->A a0 K):FO ro 92 (Jp A2):=h.weak (by intro us k h;unfold Jp at h |-;split at h;exact hA _ _ h;exact h.elim)
def jbk (A77:jm) (A78:zc) (a0:Int) (K:Bool->Prop):Prop:=
 (A77 a0 (λy1=>((y1=false->(A78 a0 (λy2=>((y2=false->K (decide (a0=45)))/\(y2=true->K true)))))/\(y1=true->K true))))
def jb4 (A77:jm) (A78:zc):Zj sg:=tab [(77,con [none] (Jq A77)),(78,con [none] (Zf A78))]
theorem Jed (A77:jm) (A78:zc) (h77:FO ro 77 (Jq A77)) (h78:FO ro 78 (Zf A78)) (o0:Nat->Prop):jC sy prog GT (ovD ro) o0 ro (jb4 A77 A78):=(Za (Jc h77) (Za (Jc h78) Jd)) o0
theorem zee (A77:jm) (A78:zc) (a0:Int) (k:W->Prop):fU sy (jb4 A77 A78) noL [none] f92 [.i .u8 a0] k=jbk A77 A78 a0 (λr0=>k (.b r0)):=by kernel_rfl
theorem jeG (A77:jm) (A78:zc) (h77:FO ro 77 (Jq A77)) (h78:FO ro 78 (Zf A78)):FO ro 92 (Jp (jbk A77 A78)):=(fB f92 (rc:=[none]) (C:=jb4 A77 A78) (L:=noL) (λ_ _=>rfl) func92 (by kernel_rfl) (Jed A77 A78 h77 h78) (Ji (l:=[]) (by kernel_rfl) je)).weak (by intro us k h;unfold Jp at h;split at h;rw [zee];exact h;exact h.elim)
abbrev j7:=Bt->Int->(Bool->Prop)->Prop
def ZaL (A:j7) (us:List W) (k:W->Prop):Prop:=match us with
 | [.s a0,.i .i64 a1]=>A a0 a1 (λr0=>k (.b r0))
 | _=>False
theorem Zfb {A A2:j7} (h:FO ro 55 (ZaL A)) (hA:∀a0 a1 K,A2 a0 a1 K->A a0 a1 K):FO ro 55 (ZaL A2):=h.weak (by intro us k h;unfold ZaL at h |-;split at h;exact hA _ _ _ h;exact h.elim)
def ZeG (A90:Ja) (A92:zg) (A93:zu) (a0:Bt) (a1:Int) (K:Bool->Prop):Prop:=
 (A90 a0 a1 (λy1=>(A92 y1 (λy2=>((y2=false->(A93 a0 a1 (λy3=>K y3)))/\(y2=true->K true))))))
def zfF (A90:Ja) (A92:zg) (A93:zu):Zj sg:=tab [(90,con [none,none] (Zd A90)),(92,con [none] (Jp A92)),(93,con [none,none] (JY A93))]
theorem zgY (A90:Ja) (A92:zg) (A93:zu) (h90:FO ro 90 (Zd A90)) (h92:FO ro 92 (Jp A92)) (h93:FO ro 93 (JY A93)) (o0:Nat->Prop):jC sy prog GT (ovD ro) o0 ro (zfF A90 A92 A93):=(Za (Jc h90) (Za (Jc h92) (Za (Jc h93) Jd))) o0
theorem jgY (A90:Ja) (A92:zg) (A93:zu) (a0:Bt) (a1:Int) (k:W->Prop):fU sy (zfF A90 A92 A93) noL [none] f55 [.s a0,.i .i64 a1] k=ZeG A90 A92 A93 a0 a1 (λr0=>k (.b r0)):=by kernel_rfl
theorem jhA (A90:Ja) (A92:zg) (A93:zu) (h90:FO ro 90 (Zd A90)) (h92:FO ro 92 (Jp A92)) (h93:FO ro 93 (JY A93)):FO ro 55 (ZaL (ZeG A90 A92 A93)):=(fB f55 (rc:=[none]) (C:=zfF A90 A92 A93) (L:=noL) (λ_ _=>rfl) func55 (by kernel_rfl) (zgY A90 A92 A93 h90 h92 h93) (Ji (l:=[]) (by kernel_rfl) je)).weak (by intro us k h;unfold ZaL at h;split at h;rw [jgY];exact h;exact h.elim)
abbrev Zb:=Int->(Bool->Prop)->Prop
def zi (A:Zb) (us:List W) (k:W->Prop):Prop:=match us with
 | [.i .u8 a0]=>A a0 (λr0=>k (.b r0))
 | _=>False
theorem jdp {A A2:Zb} (h:FO ro 51 (zi A)) (hA:∀a0 K,A2 a0 K->A a0 K):FO ro 51 (zi A2):=h.weak (by intro us k h;unfold zi at h |-;split at h;exact hA _ _ h;exact h.elim)
def zbJ (a0:Int) (K:Bool->Prop):Prop:=
 (((decide (a0=10))=false->(((decide (a0=9))=false->K (decide (a0=32)))/\((decide (a0=9))=true->K true)))/\((decide (a0=10))=true->K true))
def Zcz:Zj sg:=tab []
theorem JeG (o0:Nat->Prop):jC sy prog GT (ovD ro) o0 ro (Zcz):=Jd o0
theorem zeH (a0:Int) (k:W->Prop):fU sy (Zcz) noL [none] f51 [.i .u8 a0] k=zbJ a0 (λr0=>k (.b r0)):=by kernel_rfl
theorem Jfb:FO ro 51 (zi (zbJ)):=(fB f51 (rc:=[none]) (C:=Zcz) (L:=noL) (λ_ _=>rfl) func51 (by kernel_rfl) (JeG) (Ji (l:=[]) (by kernel_rfl) je)).weak (by intro us k h;unfold zi at h;split at h;rw [zeH];exact h;exact h.elim)
abbrev Jw:=Int->(Bool->Prop)->Prop
def ZD (A:Jw) (us:List W) (k:W->Prop):Prop:=match us with
 | [.i .u8 a0]=>A a0 (λr0=>k (.b r0))
 | _=>False
theorem Zdp {A A2:Jw} (h:FO ro 53 (ZD A)) (hA:∀a0 K,A2 a0 K->A a0 K):FO ro 53 (ZD A2):=h.weak (by intro us k h;unfold ZD at h |-;split at h;exact hA _ _ h;exact h.elim)
def jbJ (a0:Int) (K:Bool->Prop):Prop:=
 (((decide (a0=34))=false->K (decide (a0=39)))/\((decide (a0=34))=true->K true))
def Jcz:Zj sg:=tab []
theorem jeH (o0:Nat->Prop):jC sy prog GT (ovD ro) o0 ro (Jcz):=Jd o0
theorem ZeH (a0:Int) (k:W->Prop):fU sy (Jcz) noL [none] f53 [.i .u8 a0] k=jbJ a0 (λr0=>k (.b r0)):=by kernel_rfl
theorem zfc:FO ro 53 (ZD (jbJ)):=(fB f53 (rc:=[none]) (C:=Jcz) (L:=noL) (λ_ _=>rfl) func53 (by kernel_rfl) (jeH) (Ji (l:=[]) (by kernel_rfl) je)).weak (by intro us k h;unfold ZD at h;split at h;rw [ZeH];exact h;exact h.elim)
abbrev ZO:=Bt->Int->(Int->Prop)->Prop
def Zap (A:ZO) (us:List W) (k:W->Prop):Prop:=match us with
 | [.s a0,.i .i64 a1]=>A a0 a1 (λr0=>k (.i .i64 r0))
 | _=>False
theorem jfc {A A2:ZO} (h:FO ro 52 (Zap A)) (hA:∀a0 a1 K,A2 a0 a1 K->A a0 a1 K):FO ro 52 (Zap A2):=h.weak (by intro us k h;unfold Zap at h |-;split at h;exact hA _ _ _ h;exact h.elim)
def Jcj (A90:Ja) (A51:Zb):Nat->Bt->Int->(Int->Prop)->Prop
 | 0,_,_,_=>False
 | n+1,x0,x1,Ke=>(A90 x0 x1 (λy1=>(A51 y1 (λy2=>((y2=true->(I64 (x1+1)/\Jcj A90 A51 n x0 (x1+1) Ke))/\(y2=false->Ke x1))))))
def jfF (A90:Ja) (A51:Zb) (a0:Bt) (a1:Int) (K:Int->Prop):Prop:=
 (∃m,Jcj A90 A51 m a0 a1 (λy1=>K y1))
def JeH (A90:Ja) (A51:Zb):Zj sg:=tab [(90,con [none,none] (Zd A90)),(51,con [none] (zi A51))]
theorem Zfc (A90:Ja) (A51:Zb) (h90:FO ro 90 (Zd A90)) (h51:FO ro 51 (zi A51)) (o0:Nat->Prop):jC sy prog GT (ovD ro) o0 ro (JeH A90 A51):=(Za (Jc h90) (Za (Jc h51) Jd)) o0
abbrev zc3:Type:=((Bt)×Int×Unit)
abbrev Yb_k_bSp_1:Type:=Unit
def ls_k_bSp_1:LS sy zc3 Yb_k_bSp_1:=⟨[],zd 0 (Jl sy) (zd 1 (Je sy .i64) (jF sy)),ZF sy,0,[]⟩
def le_k_bSp_1:LS sy (Int×Unit) Unit:=⟨[],zd 1 (Je sy .i64) (jF sy),ZF sy,0,[]⟩
def jc3:LS sy Unit Unit:=⟨[],jF sy,ZF sy,0,[]⟩
def zck (A90:Ja) (A51:Zb) (n:Nat) (x:zc3×Yb_k_bSp_1) (K:Ex->Z sg->Prop):Prop:=Jcj A90 A51 n x.1.1 x.1.2.1 (λy0=>K (.exit 0) (le_k_bSp_1.put ((y0,()),())))
def ZgY (A90:Ja) (A51:Zb) (z:Z sg) (K:Ex->Z sg->Prop):Prop:=ls_k_bSp_1.get z (λx=>∃n,zck A90 A51 n x K)
def Zc3 (A90:Ja) (A51:Zb):ZY sg:=Jcx [(1,ZgY A90 A51)]
theorem jgs (A90:Ja) (A51:Zb) (n:Nat) (x:zc3×Yb_k_bSp_1) (K:Ex->Z sg->Prop):jt (ls_k_bSp_1.put x) (λz=>sC sy prog GT (JeH A90 A51) (Zc3 A90 A51) f52.ntmps (zb (za f52) 0) z (rnd ls_k_bSp_1 (czT 0 le_k_bSp_1 jc3) (λx=>zck A90 A51 n x K) K))=zck A90 A51 (n+1) x K:=by kernel_rfl
theorem Zgs (A90:Ja) (A51:Zb) (z:Z sg) (K:Ex->Z sg->Prop):(Zc3 A90 A51) (zb (za f52) 0) z K=ls_k_bSp_1.get z (λx=>∃n,zck A90 A51 n x K):=by kernel_rfl
theorem Jgs (A90:Ja) (A51:Zb) (h90:FO ro 90 (Zd A90)) (h51:FO ro 51 (zi A51)):∀(o0:Nat->Prop) (B:Bs sg),B.E.length<=0->∀z K,(Zc3 A90 A51) (zb (za f52) 0) z K->Sx.Sem sy prog GT (ovD ro) o0 ro f52.ntmps B (.loop (zb (za f52) 0)) z K:=
 zG (Zfc A90 A51 h90 h51) (Ji (l:=[]) (by kernel_rfl) je) ls_k_bSp_1 (by decide) (czT 0 le_k_bSp_1 jc3) (λ_ _ hB=>zY 0 le_k_bSp_1 jc3 (Yb hB (by decide)) (Yb hB (by decide))) (λ_ _ h=>h) (jgs A90 A51) (Zgs A90 A51)
theorem ZhA (A90:Ja) (A51:Zb) (h90:FO ro 90 (Zd A90)) (h51:FO ro 51 (zi A51)):zci sy prog GT (ovD ro) ro (Zc3 A90 A51) 0 f52.ntmps (za f52):=Ji (l:=[(zb (za f52) 0)]) (by kernel_rfl) (JF (Jgs A90 A51 h90 h51) je)
theorem JgY (A90:Ja) (A51:Zb) (a0:Bt) (a1:Int) (k:W->Prop):fU sy (JeH A90 A51) (Zc3 A90 A51) [none] f52 [.s a0,.i .i64 a1] k=jfF A90 A51 a0 a1 (λr0=>k (.i .i64 r0)):=by kernel_rfl
theorem JhA (A90:Ja) (A51:Zb) (h90:FO ro 90 (Zd A90)) (h51:FO ro 51 (zi A51)):FO ro 52 (Zap (jfF A90 A51)):=(fB f52 (rc:=[none]) (C:=JeH A90 A51) (L:=(Zc3 A90 A51)) (λ_ _=>rfl) func52 (by kernel_rfl) (Zfc A90 A51 h90 h51) (ZhA A90 A51 h90 h51)).weak (by intro us k h;unfold Zap at h;split at h;rw [JgY];exact h;exact h.elim)
abbrev Zbk:=Bt->Bt->(Bool->Prop)->Prop
def Ja5 (A:Zbk) (us:List W) (k:W->Prop):Prop:=match us with
 | [.s a0,.s a1]=>A a0 a1 (λr0=>k (.b r0))
 | _=>False
theorem zeI {A A2:Zbk} (h:FO ro 88 (Ja5 A)) (hA:∀a0 a1 K,A2 a0 a1 K->A a0 a1 K):FO ro 88 (Ja5 A2):=h.weak (by intro us k h;unfold Ja5 at h |-;split at h;exact hA _ _ _ h;exact h.elim)
def jeI (a0:Bt) (a1:Bt) (K:Bool->Prop):Prop:=
 (((decide ((a1.length:Int)<=(a0.length:Int)))=true->((0<=(a1.length:Int)/\(a1.length:Int)<=(a0.length:Int))/\K ((a0.take (a1.length:Int).toNat)==a1)))/\((decide ((a1.length:Int)<=(a0.length:Int)))=false->K false))
def ZeI:Zj sg:=tab []
theorem zgt (o0:Nat->Prop):jC sy prog GT (ovD ro) o0 ro (ZeI):=Jd o0
theorem jgt (a0:Bt) (a1:Bt) (k:W->Prop):fU sy (ZeI) noL [none] f88 [.s a0,.s a1] k=jeI a0 a1 (λr0=>k (.b r0)):=by kernel_rfl
theorem zgZ:FO ro 88 (Ja5 (jeI)):=(fB f88 (rc:=[none]) (C:=ZeI) (L:=noL) (λ_ _=>rfl) func88 (by kernel_rfl) (zgt) (Ji (l:=[]) (by kernel_rfl) je)).weak (by intro us k h;unfold Ja5 at h;split at h;rw [jgt];exact h;exact h.elim)
abbrev zC:=Bt->Bt->(Bool->Prop)->Prop
def Z1 (A:zC) (us:List W) (k:W->Prop):Prop:=match us with
 | [.s a0,.s a1]=>A a0 a1 (λr0=>k (.b r0))
 | _=>False
theorem JeI {A A2:zC} (h:FO ro 49 (Z1 A)) (hA:∀a0 a1 K,A2 a0 a1 K->A a0 a1 K):FO ro 49 (Z1 A2):=h.weak (by intro us k h;unfold Z1 at h |-;split at h;exact hA _ _ _ h;exact h.elim)
def zeJ (A88:Zbk) (a0:Bt) (a1:Bt) (K:Bool->Prop):Prop:=
 (A88 a0 a1 (λy1=>K y1))
def jeJ (A88:Zbk):Zj sg:=tab [(88,con [none,none] (Ja5 A88))]
theorem Zgt (A88:Zbk) (h88:FO ro 88 (Ja5 A88)) (o0:Nat->Prop):jC sy prog GT (ovD ro) o0 ro (jeJ A88):=(Za (Jc h88) Jd) o0
theorem Jgt (A88:Zbk) (a0:Bt) (a1:Bt) (k:W->Prop):fU sy (jeJ A88) noL [none] f49 [.s a0,.s a1] k=zeJ A88 a0 a1 (λr0=>k (.b r0)):=by kernel_rfl
theorem jgZ (A88:Zbk) (h88:FO ro 88 (Ja5 A88)):FO ro 49 (Z1 (zeJ A88)):=(fB f49 (rc:=[none]) (C:=jeJ A88) (L:=noL) (λ_ _=>rfl) func49 (by kernel_rfl) (Zgt A88 h88) (Ji (l:=[]) (by kernel_rfl) je)).weak (by intro us k h;unfold Z1 at h;split at h;rw [Jgt];exact h;exact h.elim)
abbrev jg:=Bt->(Bool->Prop)->Prop
def jl (A:jg) (us:List W) (k:W->Prop):Prop:=match us with
 | [.s a0]=>A a0 (λr0=>k (.b r0))
 | _=>False
theorem Zbh {A A2:jg} (h:FO ro 48 (jl A)) (hA:∀a0 K,A2 a0 K->A a0 K):FO ro 48 (jl A2):=h.weak (by intro us k h;unfold jl at h |-;split at h;exact hA _ _ h;exact h.elim)
def Jap (a0:Bt) (K:Bool->Prop):Prop:=
 (((decide (0<(a0.length:Int)))=true->((0<=(0:Int)/\0<(a0.length:Int))/\K (decide (((a0.getD 0 0).toNat:Int)=(10:Int)))))/\((decide (0<(a0.length:Int)))=false->K false))
def zaq:Zj sg:=tab []
theorem ZbJ (o0:Nat->Prop):jC sy prog GT (ovD ro) o0 ro (zaq):=Jd o0
theorem JbJ (a0:Bt) (k:W->Prop):fU sy (zaq) noL [none] f48 [.s a0] k=Jap a0 (λr0=>k (.b r0)):=by kernel_rfl
theorem ZbV:FO ro 48 (jl (Jap)):=(fB f48 (rc:=[none]) (C:=zaq) (L:=noL) (λ_ _=>rfl) func48 (by kernel_rfl) (ZbJ) (Ji (l:=[]) (by kernel_rfl) je)).weak (by intro us k h;unfold jl at h;split at h;rw [JbJ];exact h;exact h.elim)
abbrev jL:=Bt->(Bt->Int->Prop)->Prop
def jaj (A:jL) (us:List W) (k:W->Prop):Prop:=match us with
 | [.s a0]=>A a0 (λr0 r1=>k (.t [.s r0,.i .i64 r1]))
 | _=>False
theorem jee {A A2:jL} (h:FO ro 30 (jaj A)) (hA:∀a0 K,A2 a0 K->A a0 K):FO ro 30 (jaj A2):=h.weak (by intro us k h;unfold jaj at h |-;split at h;exact hA _ _ h;exact h.elim)
def Zae (A48:jg):Nat->Bt->Int->Bt->(Bt->Prop)->Prop
 | 0,_,_,_,_=>False
 | n+1,x0,x5,b0,Ke=>(((decide (x5<(x0.length:Int)))=true->((0<=x5/\x5<(x0.length:Int))/\(((decide (((x0.getD x5.toNat 0).toNat:Int)=(0:Int)))=true->((b0.length+([239,191,189]:Bt).length)*1<=1099511627776/\(I64 (x5+1)/\Zae A48 n x0 (x5+1) (b0++([239,191,189]:Bt)) Ke)))/\((decide (((x0.getD x5.toNat 0).toNat:Int)=(0:Int)))=false->(((decide (((x0.getD x5.toNat 0).toNat:Int)=(12:Int)))=true->((0<=(10:Int)/\(10:Int)<=255)/\((b0.length+[UInt8.ofNat 10].length)*1<=1099511627776/\(I64 (x5+1)/\Zae A48 n x0 (x5+1) (b0++[UInt8.ofNat 10]) Ke))))/\((decide (((x0.getD x5.toNat 0).toNat:Int)=(12:Int)))=false->(((decide (((x0.getD x5.toNat 0).toNat:Int)=(13:Int)))=true->(I64 (x5+1)/\((0<=(x5+1)/\(x5+1)<=(x0.length:Int))/\(A48 (x0.drop (x5+1).toNat) (λy1=>(((!y1)=true->((0<=(10:Int)/\(10:Int)<=255)/\((b0.length+[UInt8.ofNat 10].length)*1<=1099511627776/\(I64 (x5+1)/\Zae A48 n x0 (x5+1) (b0++[UInt8.ofNat 10]) Ke))))/\((!y1)=false->(I64 (x5+1)/\Zae A48 n x0 (x5+1) b0 Ke))))))))/\((decide (((x0.getD x5.toNat 0).toNat:Int)=(13:Int)))=false->((0<=x5/\x5<(x0.length:Int))/\((0<=((x0.getD x5.toNat 0).toNat:Int)/\((x0.getD x5.toNat 0).toNat:Int)<=255)/\((b0.length+[UInt8.ofNat (((x0.getD x5.toNat 0).toNat:Int).toNat)].length)*1<=1099511627776/\(I64 (x5+1)/\Zae A48 n x0 (x5+1) (b0++[UInt8.ofNat (((x0.getD x5.toNat 0).toNat:Int).toNat)]) Ke))))))))))))/\((decide (x5<(x0.length:Int)))=false->Ke b0))
def ZdN (A48:jg) (a0:Bt) (K:Bt->Int->Prop):Prop:=
 (((decide (4000<(a0.length:Int)))=true->K ([]:Bt) 28)/\((decide (4000<(a0.length:Int)))=false->((0<=(0:Int)/\0<=(a0.length:Int)/\1*(a0.length:Int)<=1099511627776/\(a0.length:Int)<=1099511627776)/\((0<=(0:Int)/\(0:Int)<=255)/\(∃m,Zae A48 m a0 0 (List.replicate 0 (UInt8.ofNat 0)) (λy1=>K y1 0))))))
def jcL (A48:jg):Zj sg:=tab [(48,con [none] (jl A48))]
theorem JdN (A48:jg) (h48:FO ro 48 (jl A48)) (o0:Nat->Prop):jC sy prog GT (ovD ro) o0 ro (jcL A48):=(Za (Jc h48) Jd) o0
abbrev Zb4:Type:=((Bt)×Unit×Int×Unit)
abbrev Yb_i_Clean_5:Type:=(List (sg.Den Cd.u8)×Unit)
def ls_i_Clean_5:LS sy Zb4 Yb_i_Clean_5:=⟨[],zd 0 (Jl sy) (zd 4 (ZK sy (.o 0)) (zd 5 (Je sy .i64) (jF sy))),ZQ 0 Cd.u8 (ZF sy),1,[0]⟩
def le_i_Clean_5:LS sy (Unit×Unit) (List (sg.Den Cd.u8)×Unit):=⟨[],zd 4 (ZK sy (.o 0)) (jF sy),ZQ 0 Cd.u8 (ZF sy),1,[0]⟩
def Jb4:LS sy Unit Unit:=⟨[],jF sy,ZF sy,0,[]⟩
def Jbk (A48:jg) (n:Nat) (x:Zb4×Yb_i_Clean_5) (K:Ex->Z sg->Prop):Prop:=Zae A48 n x.1.1 x.1.2.2.1 x.2.1 (λy0=>K (.exit 0) (le_i_Clean_5.put (((),()),(y0,()))))
def ZfF (A48:jg) (z:Z sg) (K:Ex->Z sg->Prop):Prop:=ls_i_Clean_5.get z (λx=>∃n,Jbk A48 n x K)
def Zby (A48:jg):ZY sg:=Jcx [(5,ZfF A48)]
theorem Jfc (A48:jg) (n:Nat) (x:Zb4×Yb_i_Clean_5) (K:Ex->Z sg->Prop):jt (ls_i_Clean_5.put x) (λz=>sC sy prog GT (jcL A48) (Zby A48) f30.ntmps (zb (za f30) 0) z (rnd ls_i_Clean_5 (czT 0 le_i_Clean_5 Jb4) (λx=>Jbk A48 n x K) K))=Jbk A48 (n+1) x K:=by kernel_rfl
theorem zfd (A48:jg) (z:Z sg) (K:Ex->Z sg->Prop):(Zby A48) (zb (za f30) 0) z K=ls_i_Clean_5.get z (λx=>∃n,Jbk A48 n x K):=by kernel_rfl
theorem jfd (A48:jg) (h48:FO ro 48 (jl A48)):∀(o0:Nat->Prop) (B:Bs sg),B.E.length<=0->∀z K,(Zby A48) (zb (za f30) 0) z K->Sx.Sem sy prog GT (ovD ro) o0 ro f30.ntmps B (.loop (zb (za f30) 0)) z K:=
 zG (JdN A48 h48) (Ji (l:=[]) (by kernel_rfl) je) ls_i_Clean_5 (by decide) (czT 0 le_i_Clean_5 Jb4) (λ_ _ hB=>zY 0 le_i_Clean_5 Jb4 (Yb hB (by decide)) (Yb hB (by decide))) (λ_ _ h=>h) (Jfc A48) (zfd A48)
theorem zgu (A48:jg) (h48:FO ro 48 (jl A48)):zci sy prog GT (ovD ro) ro (Zby A48) 0 f30.ntmps (za f30):=Ji (l:=[(zb (za f30) 0)]) (by kernel_rfl) (JF (jfd A48 h48) je)
theorem JfF (A48:jg) (a0:Bt) (k:W->Prop):fU sy (jcL A48) (Zby A48) [none,none] f30 [.s a0] k=ZdN A48 a0 (λr0 r1=>k (.t [.s r0,.i .i64 r1])):=by kernel_rfl
theorem jgu (A48:jg) (h48:FO ro 48 (jl A48)):FO ro 30 (jaj (ZdN A48)):=(fB f30 (rc:=[none,none]) (C:=jcL A48) (L:=(Zby A48)) (λ_ _=>rfl) func30 (by kernel_rfl) (JdN A48 h48) (zgu A48 h48)).weak (by intro us k h;unfold jaj at h;split at h;rw [JfF];exact h;exact h.elim)
